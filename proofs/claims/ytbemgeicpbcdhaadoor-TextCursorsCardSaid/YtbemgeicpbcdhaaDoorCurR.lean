/- The reference's cursor: Take and Until. -/
import Derived.Test.YtbemgeicpbcdhaaDoorWithM
namespace Go.Proofs.YtbemgeicpbcdhaaDoor
open Go.RowKit

/-- Block b is the reference's cursor over s that stands at k. -/
def Tx.RCur (w : World) (b : Nat) (s : ByteArray) (k : Nat) : Prop := w.heap[b]? = some (.cells #[.string s, .int .i64 (k : Int)] 28 (0, 0)) ∧ k ≤ s.size
theorem Tx.RCur.c0 {w : World} {b : Nat} {s : ByteArray} {k : Nat} (h : Tx.RCur w b s k) : w.cell? ⟨b, 0, none⟩ = some (.string s) := by simp [World.cell?, h.1]
theorem Tx.RCur.c1 {w : World} {b : Nat} {s : ByteArray} {k : Nat} (h : Tx.RCur w b s k) : w.cell? ⟨b, 1, none⟩ = some (.int .i64 (k : Int)) := by simp [World.cell?, h.1]
theorem Tx.RCur.f1 {w : World} {b : Nat} {s : ByteArray} {k : Nat} (h : Tx.RCur w b s k) : w.frozen? ⟨b, 1, none⟩ = false := by simp [World.frozen?, h.1]
theorem Tx.RCur.lt {w : World} {b : Nat} {s : ByteArray} {k : Nat} (h : Tx.RCur w b s k) : b < w.heap.size := (Array.getElem?_eq_some_iff.1 h.1).1
theorem Tx.RCur.grown {w w' : World} {b : Nat} {s : ByteArray} {k : Nat} {row : Option Nat} (h : Tx.RCur w b s k) (hg : w.grownBy w' row) (hne : some b ≠ row) : Tx.RCur w' b s k := ⟨(hg.block b h.lt hne).trans h.1, h.2⟩
theorem Tx.RCur.below {w w' : World} {b B : Nat} {s : ByteArray} {k : Nat} (h : Tx.RCur w b s k) (hg : Below B w w') (hB : b < B) : Tx.RCur w' b s k := ⟨(hg.block b hB).trans h.1, h.2⟩
theorem Tx.RCur.set {w : World} {b : Nat} {s : ByteArray} {k : Nat} (h : Tx.RCur w b s k) (k' : Nat) (hk : k' ≤ s.size) : Tx.RCur (w.setCell ⟨b, 1, none⟩ (.int .i64 (k' : Int))) b s k' := by
  refine ⟨?_, hk⟩
  simp [World.setCell, Array.getElem?_modify, h.1]
theorem Tx.RCur.drewN {w : World} {b : Nat} {s : ByteArray} {k : Nat} (h : Tx.RCur w b s k) (n : Nat) : Tx.RCur (w.drewN n) b s k := h.below (Tx.drewN_below w n) h.lt

set_option maxHeartbeats 4000000 in
set_option maxRecDepth 100000 in
theorem Tx.RTake_neg {b : Nat} {s : ByteArray} {k : Nat} {w : World} (_h : Tx.RCur w b s k) (n : Int) (hn : n < 0) :
    Calls Tryd.prog 7 #[.pointer (some ⟨b, 0, none⟩), .int .i64 n] w (Tx.RefusedV (.string (Tx.ba [])) 16 w) := by
  go_enter Tryd.func7, Tryd.ntmps7
  go_wp2
  go_ret2
  exact ⟨rfl, Below.refl _ _⟩
set_option maxHeartbeats 4000000 in
set_option maxRecDepth 100000 in
theorem Tx.RTake_end {b : Nat} {s : ByteArray} {k L : Nat} {w : World} (h : Tx.RCur w b s k) (hs : s.size ≤ 9223372036854775807) (hL : k + L = s.size) (n : Int) (h0 : 0 ≤ n) (hn : (L : Int) < n) :
    Calls Tryd.prog 7 #[.pointer (some ⟨b, 0, none⟩), .int .i64 n] w (Tx.RefusedV (.string (Tx.ba [])) 15 w) := by
  have c0 := h.c0
  have c1 := h.c1
  have h1 : ¬ n < 0 := by omega
  have e1 : IntKind.i64.wrap ((s.size : Int) - (k : Int)) = (s.size : Int) - (k : Int) := IntWalk.i64_in _ (by omega)
  have h2 : (s.size : Int) - (k : Int) < n := by omega
  clear h hL hn
  go_enter Tryd.func7, Tryd.ntmps7
  go_wp2_with fail
  go_quiet (fail)
  go_wp2
  go_ret2
  exact ⟨rfl, Tx.drewN_below w nq⟩
set_option maxHeartbeats 4000000 in
set_option maxRecDepth 100000 in
theorem Tx.RTake_ok {b : Nat} {s : ByteArray} {k L : Nat} {w : World} (h : Tx.RCur w b s k) (hs : s.size ≤ 9223372036854775807) (hL : k + L = s.size) (n : Nat) (hn : n ≤ L) :
    Calls Tryd.prog 7 #[.pointer (some ⟨b, 0, none⟩), .int .i64 (n : Int)] w fun e w' => e = .returned (.tuple #[.string (s.extract k (k + n)), .int .i64 0]) ∧ Tx.RCur w' b s (k + n) ∧ w.grownBy w' (some b) := by
  have c0 := h.c0
  have c1 := h.c1
  have f1 := h.f1
  have HC := Lib.hid h
  have e1 : IntKind.i64.wrap ((s.size : Int) - (k : Int)) = (s.size : Int) - (k : Int) := IntWalk.i64_in _ (by omega)
  have h2 : ¬ (s.size : Int) - (k : Int) < (n : Int) := by omega
  have e2 : IntKind.i64.wrap ((k : Int) + (n : Int)) = (k : Int) + (n : Int) := IntWalk.i64_in _ (by omega)
  have HK := Lib.hid (show k + n ≤ s.size by omega)
  clear h hL
  go_enter Tryd.func7, Tryd.ntmps7
  go_wp2_with fail
  go_quiet (fail)
  obtain ⟨w1, hw⟩ : ∃ w1, w1 = w.drewN nq := ⟨_, rfl⟩
  have hc : Tx.RCur w1 b s k := by rw [hw]; exact HC.out.drewN nq
  have hb1 : Below w.heap.size w w1 := by rw [hw]; exact Tx.drewN_below w nq
  rw [← hw]
  clear hw c0 c1 f1
  have c0 := hc.c0
  have c1 := hc.c1
  have f1 := hc.f1
  have hset := hc.set (k + n) HK.out
  rw [Int.natCast_add] at hset
  have HS := Lib.hid hset
  have d0 := hset.c0
  have d1 := hset.c1
  have e3 : IntKind.i64.wrap ((k : Int) + (n : Int) - (n : Int)) = (k : Int) := by rw [IntWalk.i64_in _ (by have := HK.out; omega)]; omega
  have h3 : (k : Int) + (n : Int) ≤ (s.size : Int) := by have := HK.out; omega
  have h4 : (k : Int) ≤ (k : Int) + (n : Int) := by omega
  have x3 : ((k : Int) + (n : Int)).toNat = k + n := by omega
  have x4 : 0 ≤ (k : Int) + (n : Int) := by omega
  rw [Int.natCast_add] at d1
  clear hset hc
  go_wp2_with fail
  go_quiet (fail)
  go_wp2
  go_ret2
  exact ⟨rfl, HS.out.drewN _, Tx.grown_trans (Tx.below_grown hb1 _) (Tx.grown_trans (Tx.grown_set _ _ _ _) (Tx.below_grown (Tx.drewN_below _ _) _))⟩
set_option maxHeartbeats 4000000 in
set_option maxRecDepth 100000 in
theorem Tx.RUntil_none {b : Nat} {s : ByteArray} {k : Nat} {w : World} (h : Tx.RCur w b s k) (hs : s.size ≤ 9223372036854775807) (c : UInt8) (hx : Lib.indexByte (s.data.toList.drop k) c = -1) :
    Calls Tryd.prog 10 #[.pointer (some ⟨b, 0, none⟩), .int .u8 (c.toNat : Int)] w (Tx.RefusedV (.string (Tx.ba [])) 17 w) := by
  have c0 := h.c0
  have c1 := h.c1
  have hk := h.2
  have HN := Lib.hid (Lib.indexByte_none hx)
  clear h hx
  go_enter Tryd.func10, Tryd.ntmps10
  go_wp2_with fail
  go_loopw [6] (fun i wr => ∃ j : Nat, k ≤ j ∧ j ≤ s.size ∧ i = .int .i64 (j : Int) ∧ w = wr) (fun i _ => s.size - (intOf i).toNat)
  case atStart => exact ⟨k, Nat.le_refl _, hk, by first | trivial | rfl, by first | trivial | rfl⟩
  case round =>
    obtain ⟨j, hj1, hj2, rfl, rfl⟩ := hrel
    by_cases hlt : j < s.size
    · have hlz : (j : Int) < (s.size : Int) := by omega
      obtain ⟨x, hxx⟩ : ∃ x, s[j] = x := ⟨_, rfl⟩
      have hxc : x ≠ c := by
        intro he
        have h1 := HN.out (j - k)
        rw [List.getElem?_drop, show k + (j - k) = j by omega, List.getElem?_eq_getElem (by rw [Tx.len]; exact hlt)] at h1
        exact h1 (congrArg some (hxx.trans he))
      have t : ((x.toNat : Int) == (c.toNat : Int)) = false := by
        rw [beq_eq_false_iff_ne]; intro h; exact hxc (UInt8.toNat_inj.1 (by omega))
      clear hxc
      go_wp2_with fail
      exact ⟨⟨j + 1, by omega, by omega, by go_num, by first | trivial | rfl⟩, by simp [intOf]; omega⟩
    · obtain rfl : j = s.size := by omega
      go_wp2
      go_ret2
      exact ⟨rfl, Below.refl _ _⟩
set_option maxHeartbeats 4000000 in
set_option maxRecDepth 100000 in
theorem Tx.RUntil_some {b : Nat} {s : ByteArray} {k : Nat} {w : World} (h : Tx.RCur w b s k) (hs : s.size ≤ 9223372036854775807) (c : UInt8) (o : Nat) (ho : k + o < s.size) (hx : Lib.indexByte (s.data.toList.drop k) c = (o : Int)) :
    Calls Tryd.prog 10 #[.pointer (some ⟨b, 0, none⟩), .int .u8 (c.toNat : Int)] w fun e w' => e = .returned (.tuple #[.string (s.extract k (k + o)), .int .i64 0]) ∧ Tx.RCur w' b s (k + (o + 1)) ∧ w.grownBy w' (some b) := by
  have c0 := h.c0
  have c1 := h.c1
  have hk := h.2
  have HC := Lib.hid h
  have HN := Lib.hid (Lib.indexByte_some hx)
  obtain ⟨K, hKo⟩ : ∃ K, k + o = K := ⟨_, rfl⟩
  have hKs : K < s.size := by omega
  clear h hx
  go_enter Tryd.func10, Tryd.ntmps10
  go_wp2_with fail
  go_loopw [6] (fun i wr => ∃ j : Nat, k ≤ j ∧ j ≤ K ∧ i = .int .i64 (j : Int) ∧ w = wr) (fun i _ => s.size - (intOf i).toNat)
  case atStart => exact ⟨k, Nat.le_refl _, by omega, by first | trivial | rfl, by first | trivial | rfl⟩
  case round =>
    obtain ⟨j, hj1, hj2, rfl, rfl⟩ := hrel
    have hjs : j < s.size := by omega
    have hlz : (j : Int) < (s.size : Int) := by omega
    obtain ⟨x, hxx⟩ : ∃ x, s[j] = x := ⟨_, rfl⟩
    have hget : s.data.toList[j]? = some x := by rw [List.getElem?_eq_getElem (by rw [Tx.len]; exact hjs)]; exact congrArg some hxx
    by_cases hlt : j < K
    · have hxc : x ≠ c := by
        intro he
        have h1 := HN.out.2 (j - k) (by omega)
        rw [List.getElem?_drop, show k + (j - k) = j by omega, hget] at h1
        exact h1 (congrArg some he)
      have t : ((x.toNat : Int) == (c.toNat : Int)) = false := by
        rw [beq_eq_false_iff_ne]; intro h; exact hxc (UInt8.toNat_inj.1 (by omega))
      clear hxc hget
      go_wp2_with fail
      exact ⟨⟨j + 1, by omega, by omega, by go_num, by first | trivial | rfl⟩, by simp [intOf]; omega⟩
    · have hjK : j = K := by omega
      have hxc : x = c := by
        have h1 := HN.out.1
        rw [List.getElem?_drop, show k + o = j by omega, hget] at h1
        exact Option.some.inj h1
      subst hxc
      have HSq : Hid (∀ q, Tx.RCur (((w.drewN q)).setCell ⟨b, 1, none⟩ (.int .i64 ((j + 1 : Nat) : Int))) b s (j + 1)) := Lib.hid fun q => (HC.out.drewN q).set _ (by omega)
      have e2 : IntKind.i64.wrap ((j : Int) + 1) = ((j + 1 : Nat) : Int) := by rw [IntWalk.i64_in _ (by omega)]; omega
      have h3 : (j : Int) ≤ (s.size : Int) := by omega
      have h4 : (k : Int) ≤ (j : Int) := by omega
      have HJ := Lib.hid (show k + (o + 1) = j + 1 ∧ k + o = j by omega)
      clear hget hjK hKo hKs hlt ho
      go_wp2_with fail
      go_quiet (fail)
      obtain ⟨w1, hw⟩ : ∃ w1, w1 = w.drewN nq := ⟨_, rfl⟩
      have hc : Tx.RCur w1 b s k := by rw [hw]; exact HC.out.drewN nq
      have hb1 : Below w.heap.size w w1 := by rw [hw]; exact Tx.drewN_below w nq
      have hs1 := HSq.out nq
      rw [← hw] at hs1 ⊢
      clear hw c0 c1 HSq
      have c0 := hc.c0
      have c1 := hc.c1
      have f1 := hc.f1
      have HS1 := Lib.hid hs1
      clear hc hs1
      go_wp2_with fail
      go_ret2
      rw [HJ.out.1, HJ.out.2]
      exact ⟨rfl, HS1.out, Tx.grown_trans (Tx.below_grown hb1 _) (Tx.grown_set _ _ _ _)⟩
end Go.Proofs.YtbemgeicpbcdhaaDoor
