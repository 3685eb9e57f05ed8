/- The laws' own 'same': are two slices of ints the same numbers. -/
import Derived.Test.YtejnhhhmjkiehaaDoorStr
namespace Go.Proofs.YtejnhhhmjkiehaaDoor
open Go.RowKit

theorem Tx.Ints.shape {w : World} {B : Nat} {v : Value} {zs : List Int} (h : Tx.Ints w B v zs) : ∃ a c, v = .slice a zs.length c := by
  rcases h with ⟨rfl, rfl⟩ | ⟨b, off, cap, rfl, _⟩
  · exact ⟨_, _, rfl⟩
  · exact ⟨_, _, rfl⟩

set_option maxHeartbeats 4000000 in
set_option maxRecDepth 100000 in
theorem Tx.same_len (a1 a2 : Option Addr) (n m c1 c2 : Nat) (w : World) (h : n ≠ m) :
    Calls Tryd.prog 25 #[.slice a1 n c1, .slice a2 m c2] w fun e w' => e = .returned (.bool false) ∧ Below w.heap.size w w' := by
  have t : ((n : Int) == (m : Int)) = false := by rw [beq_eq_false_iff_ne]; omega
  go_enter Tryd.func25, Tryd.ntmps25
  go_wp2
  go_ret
  exact ⟨rfl, Below.refl _ _⟩
set_option maxHeartbeats 4000000 in
set_option maxRecDepth 100000 in
theorem Tx.same_zero (a1 a2 : Option Addr) (c1 c2 : Nat) (w : World) :
    Calls Tryd.prog 25 #[.slice a1 0 c1, .slice a2 0 c2] w fun e w' => e = .returned (.bool true) ∧ Below w.heap.size w w' := by
  go_enter Tryd.func25, Tryd.ntmps25
  go_wp2
  refine wp_loop_rounds 1 ?_
  rw [rounds_succ]
  go_wp2
  go_ret
  exact ⟨rfl, Below.refl _ _⟩

set_option maxHeartbeats 4000000 in
set_option maxRecDepth 100000 in
theorem Tx.same_some (b1 o1 c1 b2 o2 c2 n : Nat) (xs ys : List Int) (hx : n = xs.length) (hy : n = ys.length) (w : World) (hn : n ≤ 9223372036854775807)
    (g1 : ∀ j, j < n → w.cell? ⟨b1, o1 + j, none⟩ = some (.int .i64 (xs.getD j 0))) (g2 : ∀ j, j < n → w.cell? ⟨b2, o2 + j, none⟩ = some (.int .i64 (ys.getD j 0))) :
    Calls Tryd.prog 25 #[.slice (some ⟨b1, o1, none⟩) n c1, .slice (some ⟨b2, o2, none⟩) n c2] w fun e w' => e = .returned (.bool (decide (xs = ys))) ∧ Below w.heap.size w w' := by
  have G := Lib.hid (And.intro g1 g2)
  have HXY := Lib.hid (And.intro hx hy)
  clear g1 g2 hx hy
  obtain ⟨R, hR⟩ : ∃ R, R = decide (xs = ys) := ⟨_, rfl⟩
  rw [← hR]
  have HR := Lib.hid hR
  clear hR
  go_enter Tryd.func25, Tryd.ntmps25
  go_wp2
  go_loopw [5] (fun i wr => ∃ k : Nat, k ≤ n ∧ i = .int .i64 k ∧ (∀ j, j < k → xs.getD j 0 = ys.getD j 0) ∧ ∃ q, wr = w.drewN q) (fun i _ => n - (intOf i).toNat)
  case atStart => exact ⟨0, by omega, rfl, by intro j hj; omega, 0, rfl⟩
  case round =>
    obtain ⟨k, hk, rfl, he, q, rfl⟩ := hrel
    have HE := Lib.hid he
    clear he
    by_cases hlt : k < n
    · have hkz : (k : Int) < (n : Int) := by omega
      have c1 := (Tx.drewN_below w q).cell (p := ⟨b1, o1 + k, none⟩) (World.block_lt_of_cell? w ⟨b1, o1 + k, none⟩ (G.out.1 k hlt))
      have c2 := (Tx.drewN_below w q).cell (p := ⟨b2, o2 + k, none⟩) (World.block_lt_of_cell? w ⟨b2, o2 + k, none⟩ (G.out.2 k hlt))
      have d1 := G.out.1 k hlt
      have d2 := G.out.2 k hlt
      rw [d1] at c1
      rw [d2] at c2
      obtain ⟨x, hxx⟩ : ∃ x, xs.getD k 0 = x := ⟨_, rfl⟩
      obtain ⟨y, hyy⟩ : ∃ y, ys.getD k 0 = y := ⟨_, rfl⟩
      rw [hxx] at c1 d1
      rw [hyy] at c2 d2
      have HX := Lib.hid (And.intro hxx hyy)
      clear hxx hyy c1 c2
      by_cases hne : x = y
      · subst hne
        go_wp2_with fail
        go_quiet (fail)
        go_wp2
        refine ⟨⟨k + 1, by omega, by go_num, ?_, q + nq, rfl⟩, by simp [intOf]; omega⟩
        intro j hj
        rcases Nat.lt_succ_iff_lt_or_eq.1 hj with h | h
        · exact HE.out j h
        · subst h; exact HX.out.1.trans HX.out.2.symm
      · have t : (x == y) = false := by rw [beq_eq_false_iff_ne]; exact hne
        have HNE := Lib.hid hne
        clear hne
        go_wp2_with fail
        go_quiet (fail)
        go_wp2
        go_ret
        refine ⟨?_, (Tx.drewN_below w q).trans (by have hd := Tx.drewN_below (w.drewN q) nq; rw [Tx.drewN_size] at hd; exact hd)⟩
        rw [HR.out.trans (decide_eq_false (fun h => HNE.out (by rw [← HX.out.1, ← HX.out.2, h])))]
        rfl
    · obtain rfl : k = n := by omega
      have hxy : xs = ys := by
        apply List.ext_getElem (HXY.out.1.symm.trans HXY.out.2)
        intro j h1 h2
        have := HE.out j (by have := HXY.out.1; omega)
        rw [List.getD_eq_getElem?_getD, List.getD_eq_getElem?_getD, List.getElem?_eq_getElem h1, List.getElem?_eq_getElem h2] at this
        exact this
      have HT := Lib.hid (HR.out.trans (decide_eq_true hxy))
      clear hxy
      go_wp2
      go_ret
      exact ⟨by rw [HT.out]; rfl, Tx.drewN_below w q⟩
theorem Tx.same_any (v1 v2 : Value) (xs ys : List Int) (w : World) (h1 : Tx.Ints w w.heap.size v1 xs) (h2 : Tx.Ints w w.heap.size v2 ys) :
    Calls Tryd.prog 25 #[v1, v2] w fun e w' => e = .returned (.bool (decide (xs = ys))) ∧ Below w.heap.size w w' := by
  by_cases hl : xs.length = ys.length
  · by_cases h0 : xs.length = 0
    · have e1 : xs = [] := List.length_eq_zero_iff.1 h0
      have e2 : ys = [] := List.length_eq_zero_iff.1 (hl ▸ h0)
      obtain ⟨a1, c1, rfl⟩ := h1.shape
      obtain ⟨a2, c2, rfl⟩ := h2.shape
      subst e1 e2
      exact Tx.same_zero a1 a2 c1 c2 w
    · rcases h1 with ⟨rfl, rfl⟩ | ⟨b1, o1, c1, rfl, k1, k1', _, g1⟩
      · simp at h0
      · rcases h2 with ⟨rfl, rfl⟩ | ⟨b2, o2, c2, rfl, k2, k2', _, g2⟩
        · simp at hl; exact absurd (by simp [hl]) h0
        · have := Tx.same_some b1 o1 c1 b2 o2 c2 xs.length xs ys rfl hl w (by omega) g1 (fun j hj => g2 j (by omega))
          rw [← hl]
          exact this
  · obtain ⟨a1, c1, rfl⟩ := h1.shape
    obtain ⟨a2, c2, rfl⟩ := h2.shape
    have hne : xs ≠ ys := fun h => hl (by rw [h])
    rw [decide_eq_false hne]
    exact Tx.same_len a1 a2 _ _ c1 c2 w hl
end Go.Proofs.YtejnhhhmjkiehaaDoor
