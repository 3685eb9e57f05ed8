/- The reference's base64url. -/
import Derived.Test.YtglcbpofinbecaaDoorRefB
import Derived.Test.YtglcbpofinbecaaDoorB64
namespace Go.Proofs.YtglcbpofinbecaaDoor
open Go.RowKit

/-- The number that j bits from k on say. -/
def Tx.bitsN (l : List UInt8) (k : Nat) : Nat → Nat
  | 0 => 0
  | j + 1 => 2 * Tx.bitsN l k j + Tx.bitN l (k + j)
theorem Tx.bitN_lt (l : List UInt8) (k : Nat) : Tx.bitN l k < 2 := by
  unfold Tx.bitN
  split
  · exact Nat.mod_lt _ (by decide)
  · decide
theorem Tx.bitsN_lt (l : List UInt8) (k : Nat) : ∀ j, Tx.bitsN l k j < 2 ^ j
  | 0 => by simp [Tx.bitsN]
  | j + 1 => by
    have h1 := Tx.bitsN_lt l k j
    have h2 := Tx.bitN_lt l (k + j)
    rw [Nat.pow_succ]
    show 2 * Tx.bitsN l k j + Tx.bitN l (k + j) < _
    omega
/-- The first m letters, six bits a letter. -/
def Tx.rb64 (l : List UInt8) (m : Nat) : List UInt8 := (List.range m).map fun i => Tx.b6 (Tx.bitsN l (6 * i) 6)
theorem Tx.rb64_length (l : List UInt8) (m : Nat) : (Tx.rb64 l m).length = m := by simp [Tx.rb64]
theorem Tx.rb64_snoc (l : List UInt8) (m : Nat) : Tx.rb64 l (m + 1) = Tx.rb64 l m ++ [Tx.b6 (Tx.bitsN l (6 * m) 6)] := by simp [Tx.rb64, List.range_succ]

set_option maxHeartbeats 4000000 in
set_option maxRecDepth 100000 in
theorem Tx.RBase64_any (s : ByteArray) (w : World) (hs : s.size ≤ 70368744177664) :
    Calls Tryd.prog 20 #[.string s] w fun e w' => e = .returned (.string (Tx.ba (Tx.rb64 s.data.toList ((8 * s.size + 5) / 6)))) ∧ Below w.heap.size w w' := by
  have f1 : IntKind.i64.wrap (8 * (s.size : Int)) = 8 * (s.size : Int) := IntWalk.i64_in _ (by omega)
  go_enter Tryd.func20, Tryd.ntmps20
  have hown0 := Tx.Own.empty w w.heap.size (Nat.le_refl _)
  go_wp2_with fail
  go_loopw [3, 4] (fun v i wr => ∃ k m : Nat, k = 6 * m ∧ k ≤ 8 * s.size + 5 ∧ i = .int .i64 k ∧ Tx.Own wr w.heap.size v (Tx.rb64 s.data.toList m) ∧ Below w.heap.size w wr) (fun _ i _ => 8 * s.size + 6 - (intOf i).toNat)
  case atStart => exact ⟨0, 0, rfl, Nat.zero_le _, rfl, by simpa [Tx.rb64] using hown0, (Below.refl _ _).alloc (Nat.le_refl _) _⟩
  case round =>
    obtain ⟨k, m, hkm, hk, rfl, hown, hb⟩ := hrel
    by_cases hlt : k < 8 * s.size
    · have hlz : (k : Int) < 8 * (s.size : Int) := by omega
      have HKM := Lib.hid hkm
      clear hkm
      go_wp2_with fail
      go_loopw [5, 6] (fun n j wx => ∃ q : Nat, q ≤ 6 ∧ j = .int .i64 q ∧ n = .int .i64 (Tx.bitsN s.data.toList k q) ∧ wr = wx) (fun _ j _ => 6 - (intOf j).toNat)
      case atStart => exact ⟨0, Nat.zero_le _, rfl, rfl, rfl⟩
      case round =>
        obtain ⟨q, hq, rfl, rfl, rfl⟩ := hrel
        by_cases hql : q < 6
        · have hqz : (q : Int) < 6 := by omega
          have cb := Tx.bit_any s (k + q) (by omega) wr
          have b1 := Tx.bitN_lt s.data.toList (k + q)
          have b2 := Tx.bitsN_lt s.data.toList k q
          have b3 : Tx.bitsN s.data.toList k (q + 1) = 2 * Tx.bitsN s.data.toList k q + Tx.bitN s.data.toList (k + q) := rfl
          have b4 : 2 ^ q ≤ 2 ^ 6 := Nat.pow_le_pow_right (by decide) (by omega)
          generalize Tx.bitN s.data.toList (k + q) = β at *
          generalize Tx.bitsN s.data.toList k q = ν at *
          have e1 : IntKind.i64.wrap ((k : Int) + (q : Int)) = ((k + q : Nat) : Int) := by rw [IntWalk.i64_in _ (by omega)]; omega
          have e2 : IntKind.i64.wrap (2 * (ν : Int)) = 2 * (ν : Int) := IntWalk.i64_in _ (by omega)
          have e3 : IntKind.i64.wrap (2 * (ν : Int) + (β : Int)) = 2 * (ν : Int) + (β : Int) := IntWalk.i64_in _ (by omega)
          have CB := Lib.hid cb
          have B3 := Lib.hid b3
          clear cb b3 b4 b2
          go_wp2_with fail
          refine CB.out.mono ?_
          rintro e w1 ⟨rfl, rfl⟩
          go_wp2_with fail
          refine ⟨⟨q + 1, by omega, by go_num, by rw [B3.out]; go_num, trivial⟩, by simp [intOf]; omega⟩
        · obtain rfl : q = 6 := by omega
          have b2 := Tx.bitsN_lt s.data.toList k 6
          have hsn := Tx.rb64_snoc s.data.toList m
          rw [← HKM.out] at hsn
          have HSN := Lib.hid hsn
          have hl := Tx.rb64_length s.data.toList m
          have hm : m ≤ 140737488355327 := by have := HKM.out; omega
          have HL : (Tx.rb64 s.data.toList m).length + [()].length ≤ 140737488355328 := by rw [hl]; simp; omega
          clear hsn hl
          generalize Tx.bitsN s.data.toList k 6 = ν at *
          have e1 : (ν : Int) < 64 := by omega
          go_wp2_with (at_builtin; refine Tx.append rfl _ _ rfl w.heap.size _ _ rfl (Tx.Own.alloc hown _) ⟨_, 0, none⟩ 1 [_] rfl (World.news_of_block (heap_alloc_new _ _)) HL (by have := hb.size; simp; omega) ?_; intro v1 w1 hown1 hb1 hz1)
          refine ⟨⟨k + 6, m + 1, by have := HKM.out; omega, by omega, by go_num, ?_, (hb.alloc hb.size _).trans hb1⟩, by simp [intOf]; omega⟩
          rw [HSN.out]
          rw [Tx.b6_get] at hown1
          exact hown1
    · have hm : m = (8 * s.size + 5) / 6 := by omega
      have hcv := hown.conv
      rw [hm] at hcv
      clear hm hkm
      go_wp2
      go_ret
      exact ⟨rfl, hb⟩
end Go.Proofs.YtglcbpofinbecaaDoor
