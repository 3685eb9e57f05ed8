/- The reference's bit and place. -/
import Derived.Test.YtglcbpofinbecaaDoorRefA
import Derived.Lib.Bytealg
namespace Go.Proofs.YtglcbpofinbecaaDoor
open Go.RowKit

set_option maxRecDepth 100000 in
theorem Tx.and1 : ∀ X : Fin 256, bits .and .i64 ((X.val : Nat) : Int) 1 = ((X.val % 2 : Nat) : Int) := by decide

set_option maxHeartbeats 4000000 in
set_option maxRecDepth 100000 in
theorem Tx.bit_in (s : ByteArray) (q r : Nat) (hq : q < s.size) (hr : r < 8) (hs : s.size ≤ 1125899906842624) (w : World) :
    Calls Tryd.prog 43 #[.string s, .int .i64 ((8 * q + r : Nat) : Int)] w fun e w' => e = .returned (.int .i64 ((s[q].toNat / 2 ^ (7 - r) % 2 : Nat) : Int)) ∧ w = w' := by
  obtain ⟨K, hK⟩ : ∃ K : Int, ((8 * q + r : Nat) : Int) = K := ⟨_, rfl⟩
  rw [hK]
  have f0 : 0 ≤ K := by omega
  have f1 : IntKind.i64.wrap (8 * (s.size : Int)) = 8 * (s.size : Int) := IntWalk.i64_in _ (by omega)
  have f2 : K < 8 * (s.size : Int) := by omega
  have f3 : IntKind.i64.wrap (Int.tdiv K 8) = (q : Int) := by
    rw [Int.tdiv_eq_ediv_of_nonneg f0, show K / 8 = (q : Int) by omega]; exact IntWalk.i64_in _ (by omega)
  have f4 : Int.tmod K 8 = (r : Int) := by rw [Int.tmod_eq_emod_of_nonneg f0]; omega
  have f5 : IntKind.i64.wrap (K / 8) = (q : Int) := by rw [show K / 8 = (q : Int) by omega]; exact IntWalk.i64_in _ (by omega)
  have f6 : K % 8 = (r : Int) := by omega
  have hqz : (q : Int) < (s.size : Int) := by omega
  have x0 := s[q].toNat_lt
  have g : ∀ d : Nat, bits BinOp.and IntKind.i64 ((s[q].toNat : Int) / (d : Int)) 1 = ((s[q].toNat / d % 2 : Nat) : Int) := by
    intro d
    have := Tx.and1 ⟨s[q].toNat / d, by have := Nat.div_le_self s[q].toNat d; omega⟩
    simpa using this
  have g1 : bits BinOp.and IntKind.i64 (s[q].toNat : Int) 1 = ((s[q].toNat / 1 % 2 : Nat) : Int) := by
    have := Tx.and1 ⟨s[q].toNat, x0⟩
    simpa using this
  have G := Lib.hid g
  have G1 := Lib.hid g1
  clear hK g g1
  have hr2 : r = 0 ∨ r = 1 ∨ r = 2 ∨ r = 3 ∨ r = 4 ∨ r = 5 ∨ r = 6 ∨ r = 7 := by omega
  rcases hr2 with rfl | rfl | rfl | rfl | rfl | rfl | rfl | rfl
  all_goals
    go_enter Tryd.func43, Tryd.ntmps43
    go_wp2
    go_ret
  · exact ⟨congrArg (fun z => Ending.returned (.int .i64 z)) (G.out 128), rfl⟩
  · exact ⟨congrArg (fun z => Ending.returned (.int .i64 z)) (G.out 64), rfl⟩
  · exact ⟨congrArg (fun z => Ending.returned (.int .i64 z)) (G.out 32), rfl⟩
  · exact ⟨congrArg (fun z => Ending.returned (.int .i64 z)) (G.out 16), rfl⟩
  · exact ⟨congrArg (fun z => Ending.returned (.int .i64 z)) (G.out 8), rfl⟩
  · exact ⟨congrArg (fun z => Ending.returned (.int .i64 z)) (G.out 4), rfl⟩
  · exact ⟨congrArg (fun z => Ending.returned (.int .i64 z)) (G.out 2), rfl⟩
  · exact ⟨congrArg (fun z => Ending.returned (.int .i64 z)) G1.out, rfl⟩

set_option maxHeartbeats 4000000 in
set_option maxRecDepth 100000 in
theorem Tx.bit_out (s : ByteArray) (k : Nat) (hk : 8 * s.size ≤ k) (hs : s.size ≤ 1125899906842624) (w : World) :
    Calls Tryd.prog 43 #[.string s, .int .i64 (k : Int)] w fun e w' => e = .returned (.int .i64 0) ∧ w = w' := by
  have f1 : IntKind.i64.wrap (8 * (s.size : Int)) = 8 * (s.size : Int) := IntWalk.i64_in _ (by omega)
  have f2 : 8 * (s.size : Int) ≤ (k : Int) := by omega
  go_enter Tryd.func43, Tryd.ntmps43
  go_wp2
  go_ret
  exact ⟨rfl, rfl⟩

/-- The bit k of bytes. -/
def Tx.bitN (l : List UInt8) (k : Nat) : Nat := match l[k / 8]? with | some c => c.toNat / 2 ^ (7 - k % 8) % 2 | none => 0
theorem Tx.bit_any (s : ByteArray) (k : Nat) (hs : s.size ≤ 1125899906842624) (w : World) :
    Calls Tryd.prog 43 #[.string s, .int .i64 (k : Int)] w fun e w' => e = .returned (.int .i64 (Tx.bitN s.data.toList k : Int)) ∧ w = w' := by
  by_cases hk : 8 * s.size ≤ k
  · have h0 : Tx.bitN s.data.toList k = 0 := by
      unfold Tx.bitN
      rw [List.getElem?_eq_none (by rw [Tx.len]; omega)]
    rw [h0]
    exact Tx.bit_out s k hk hs w
  · have hq : k / 8 < s.size := by omega
    have h0 : Tx.bitN s.data.toList k = s[k / 8].toNat / 2 ^ (7 - k % 8) % 2 := by
      unfold Tx.bitN
      rw [List.getElem?_eq_getElem (by rw [Tx.len]; exact hq)]
      rfl
    have := Tx.bit_in s (k / 8) (k % 8) hq (Nat.mod_lt _ (by decide)) hs w
    rw [show 8 * (k / 8) + k % 8 = k by omega] at this
    rw [h0]
    exact this

theorem Tx.indexByte_at (c : UInt8) : ∀ (l : List UInt8) (k : Nat), l[k]? = some c → (∀ j : Nat, j < k → l[j]? ≠ some c) → Lib.indexByte l c = (k : Int)
  | [], k, h, _ => by simp at h
  | b :: l, 0, h, _ => by
    have : b = c := by simpa using h
    simp [Lib.indexByte, this]
  | b :: l, k + 1, h, hno => by
    have hb : ¬ b = c := fun e => hno 0 (by omega) (by simp [e])
    have ih := Tx.indexByte_at c l k (by simpa using h) (fun j hj => by have := hno (j + 1) (by omega); simpa using this)
    simp only [Lib.indexByte, ih]
    rw [if_neg (by simpa using hb), if_neg (by simp)]
    omega
theorem Tx.indexByte_no (c : UInt8) : ∀ (l : List UInt8), (∀ j : Nat, j < l.length → l[j]? ≠ some c) → Lib.indexByte l c = -1
  | [], _ => rfl
  | b :: l, hno => by
    have hb : ¬ b = c := fun e => hno 0 (by simp) (by simp [e])
    have ih := Tx.indexByte_no c l (fun j hj => by have := hno (j + 1) (by simpa using hj); simpa using this)
    simp only [Lib.indexByte, ih]
    rw [if_neg (by simpa using hb)]
    rfl

set_option maxHeartbeats 4000000 in
set_option maxRecDepth 100000 in
theorem Tx.place_any (s : ByteArray) (c : UInt8) (hs : s.size ≤ 9223372036854775807) (w : World) :
    Calls Tryd.prog 56 #[.string s, .int .u8 (c.toNat : Int)] w fun e w' => e = .returned (.int .i64 (Lib.indexByte s.data.toList c)) ∧ w = w' := by
  go_enter Tryd.func56, Tryd.ntmps56
  go_wp2_with fail
  go_loopw [5] (fun i wr => ∃ k : Nat, k ≤ s.size ∧ i = .int .i64 k ∧ Hid (∀ j : Nat, j < k → s.data.toList[j]? ≠ some c) ∧ w = wr) (fun i _ => s.size - (intOf i).toNat)
  case atStart => exact ⟨0, Nat.zero_le _, rfl, Lib.hid (fun j hj => by omega), rfl⟩
  case round =>
    obtain ⟨k, hk, rfl, hno, rfl⟩ := hrel
    by_cases hlt : k < s.size
    · have hlz : (k : Int) < (s.size : Int) := by omega
      by_cases hc : s[k] = c
      · have te : ((s[k].toNat : Int) == (c.toNat : Int)) = true := by rw [hc]; simp
        have hi := Tx.indexByte_at c s.data.toList k (by rw [List.getElem?_eq_getElem (by rw [Tx.len]; exact hlt)]; exact congrArg some hc) hno.out
        have HI := Lib.hid hi
        clear hi hc
        go_wp2
        go_ret
        exact ⟨by rw [HI.out]; rfl, rfl⟩
      · have te : ((s[k].toNat : Int) == (c.toNat : Int)) = false := by
          rw [beq_eq_false_iff_ne]
          intro e
          exact hc (UInt8.toNat_inj.1 (by omega))
        have hno' := Lib.hid (show ∀ j : Nat, j < k + 1 → s.data.toList[j]? ≠ some c from fun j hj e => by
          by_cases hj2 : j < k
          · exact hno.out j hj2 e
          · obtain rfl : j = k := by omega
            rw [List.getElem?_eq_getElem (by rw [Tx.len]; exact hlt)] at e
            exact hc (Option.some.inj e))
        clear hc
        go_wp2
        exact ⟨⟨k + 1, by omega, by go_num, hno', trivial⟩, by simp [intOf]; omega⟩
    · obtain rfl : k = s.size := by omega
      have hi := Tx.indexByte_no c s.data.toList (fun j hj => hno.out j (by rw [Tx.len] at hj; exact hj))
      have HI := Lib.hid hi
      clear hi
      go_wp2
      go_ret
      exact ⟨by rw [HI.out]; rfl, rfl⟩
end Go.Proofs.YtglcbpofinbecaaDoor
