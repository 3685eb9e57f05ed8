/- The reference's Kind: cut. -/
import Derived.Test.YtelfhdihkeafnaaRfG
import Derived.Test.YtelfhdihkeafnaaHsU
namespace Go.Proofs.Ytelfhdihkeafnaa
section
open Go.RowKit

set_option maxHeartbeats 400000 in
set_option maxRecDepth 100000 in
theorem Rf.cut_any (w : World) (R : Array Value) (n v : Nat) (h0 : R[0]? = some (.int .i64 (n : Int))) (hn : n = 32 ∨ n = 64) (hv : v < 18446744073709551616) :
    Calls Try.prog 27 #[.agg R, .int .u64 (v : Int)] w fun e w' => e = .returned (.int .u64 ((v % 2 ^ n : Nat) : Int)) ∧ Below w.heap.size w w' := by
  have hA : Below w.heap.size w (w.alloc (.cells R 34)) := (Below.refl _ _).alloc (Nat.le_refl _) _
  rcases hn with rfl | rfl
  · have hand : bits .and .u64 (v : Int) 4294967295 = ((v % 2 ^ 32 : Nat) : Int) := by
      have := u64_and_nat v 4294967295 hv (by decide)
      rw [show v &&& 4294967295 = v % 2 ^ 32 from Nat.and_two_pow_sub_one_eq_mod v 32] at this
      exact this
    obtain ⟨r, hr⟩ : ∃ r, v % 2 ^ 32 = r := ⟨_, rfl⟩
    rw [hr] at hand ⊢
    clear hr
    go_enter Try.func27, Try.ntmps27
    go_wp2_with fail
    go_ret
    exact ⟨rfl, hA⟩
  · have hm : v % 2 ^ 64 = v := Nat.mod_eq_of_lt hv
    rw [hm]
    clear hm
    go_enter Try.func27, Try.ntmps27
    go_wp2_with fail
    go_ret
    exact ⟨rfl, hA⟩
end
section
open Go.RowKit

theorem Rf.infoKd : (Try.prog.info? 34).map (·.size) = some 17 := by kernel_rfl
theorem Rf.takeKd {ops : Array Oper} {S : World → Prop} {op : Oper} {a : Act} (hw : Region.wanted op (yielded ops a.tmps) = true) (x : Operand) (ho : op.op = .load 34 x)
    (q : Nat) (hx : a.eval x = .pointer (some ⟨q, 0, none⟩)) (R : Array Value) (hR : R.size = 17) (hS : ∀ W, S W → W.heap[q]? = some (.cells R 34 (0, 0))) : YieldsIf Try.prog ops S op (.agg R) a := by
  have := yieldsIf_load_mid (P := Try.prog) (ops := ops) (S := S) hw 34 x ho q 0 hx R.toList _ (fun W hW => fun j v hv => by
    rw [Nat.zero_add, cell_of_row W q j R _ _ (hS W hW)]
    simpa using hv) Try.underlying34 rfl (by rw [Rf.infoKd]; simp [hR])
  exact this
set_option maxHeartbeats 400000 in
set_option maxRecDepth 100000 in
theorem Rf.ror_any (w : World) (R : Array Value) (n v s : Nat) (hR : R.size = 17) (h0 : R[0]? = some (.int .i64 (n : Int))) (hn : n = 32 ∨ n = 64) (hv : v < 2 ^ n) (hs0 : 0 < s) (hs : s < n) :
    Calls Try.prog 28 #[.agg R, .int .u64 (v : Int), .int .i64 (s : Int)] w fun e w' => e = .returned (.int .u64 ((Hs.ror n v s : Nat) : Int)) ∧ Below w.heap.size w w' := by
  have hv64 : v < 18446744073709551616 := by rcases hn with rfl | rfl <;> omega
  have hn64 : n ≤ 64 := by omega
  obtain ⟨x, hx⟩ : ∃ x, (v / 2 ^ s ||| v * 2 ^ (n - s) % 2 ^ 64) = x := ⟨_, rfl⟩
  have hx1 : v / 2 ^ s < 18446744073709551616 := Nat.lt_of_le_of_lt (Nat.div_le_self _ _) hv64
  have hx2 : v * 2 ^ (n - s) % 2 ^ 64 < 18446744073709551616 := Nat.mod_lt _ (by decide)
  have hx64 : x < 18446744073709551616 := by rw [← hx]; exact Nat.or_lt_two_pow (n := 64) hx1 hx2
  have hxr : x % 2 ^ n = Hs.ror n v s := by
    rw [← hx, Nat.or_mod_two_pow, Hs.ror, Nat.mod_eq_of_lt (Nat.lt_of_le_of_lt (Nat.div_le_self _ _) hv), Nat.mod_mod_of_dvd _ (Nat.pow_dvd_pow 2 hn64)]
  have hor : bits .or .u64 ((v : Int) / 2 ^ s) (IntKind.u64.wrap ((v : Int) * 2 ^ (n - s))) = (x : Int) := by
    have e1 : (v : Int) / 2 ^ s = ((v / 2 ^ s : Nat) : Int) := by simp
    have e2 : IntKind.u64.wrap ((v : Int) * 2 ^ (n - s)) = ((v * 2 ^ (n - s) % 2 ^ 64 : Nat) : Int) := by
      have : (v : Int) * 2 ^ (n - s) = ((v * 2 ^ (n - s) : Nat) : Int) := by simp
      rw [this]
      generalize v * 2 ^ (n - s) = y
      unfold IntKind.wrap
      simp [IntKind.bits, IntKind.signed]
    rw [e1, e2, u64_or_nat _ _ hx1 hx2, hx]
  have htw : IntKind.i64.wrap ((n : Int) - (s : Int)) = ((n - s : Nat) : Int) := by rw [IntWalk.i64_in _ (by omega)]; omega
  have CC := Lib.hid (fun W => hxr ▸ Rf.cut_any W R n x h0 hn hx64)
  obtain ⟨t, ht⟩ : ∃ t, n - s = t := ⟨_, rfl⟩
  rw [ht] at hor htw
  have ht0 : ¬ (t : Int) < 0 := by omega
  have htm : min t 64 = t := Nat.min_eq_left (by omega)
  clear hx hx1 hx2 hx64 hxr hv64 ht hv hn
  go_enter Try.func28, Try.ntmps28
  go_upto_region 1 with fail
  have hA : ((w.alloc (.cells R 34)).drewN 1).heap[w.heap.size]? = some (.cells R 34 (0, 0)) := heap_alloc_new _ _
  have hB : Below w.heap.size w ((w.alloc (.cells R 34)).drewN 1) := ((Below.refl _ _).alloc (Nat.le_refl _) _).trans (Hs.drewN_below _ 1 |>.mono (by simp))
  obtain ⟨q, hq⟩ : ∃ q, w.heap.size = q := ⟨_, rfl⟩
  rw [hq] at hA hB ⊢
  have hs00 : ¬ (s : Int) < 0 := by omega
  refine wp_region_held_drew (S := fun W => W.heap[q]? = some (.cells R 34 (0, 0))) (by kernel_rfl) (hA) (fun hHeld0 => ?_)
  refine wpAnyH_take (i := 1) (oi := ⟨_, _, _, _, _, _⟩) (v := ?vg1_1) rfl (by kernel_rfl) (by kernel_rfl) (by kernel_rfl) (fun _ _ _ h => h) (Or.inl ⟨by rfl, ?hyg1_1⟩) (by assumption) ?restg1_1
  case hyg1_1 => (intro W hW; go_simp; try with_reducible rfl)
  try simp only [Act.put, List.setIfInBounds_toArray, List.set_cons_zero, List.set_cons_succ]
  refine wpAnyH_take (i := 2) (oi := ⟨_, _, _, _, _, _⟩) (v := ?vg1_2) rfl (by kernel_rfl) (by kernel_rfl) (by kernel_rfl) (fun _ _ _ h => h) (Or.inl ⟨by rfl, ?hyg1_2⟩) (by assumption) ?restg1_2
  case hyg1_2 => (intro W hW; go_simp; try with_reducible rfl)
  try simp only [Act.put, List.setIfInBounds_toArray, List.set_cons_zero, List.set_cons_succ]
  refine wpAnyH_take (i := 4) (oi := ⟨_, _, _, _, _, _⟩) (v := ?vg1_3) rfl (by kernel_rfl) (by kernel_rfl) (by kernel_rfl) (fun _ _ _ h => h) (Or.inl ⟨by rfl, ?hyg1_3⟩) (by assumption) ?restg1_3
  case hyg1_3 => (intro W hW; go_simp; try with_reducible rfl)
  try simp only [Act.put, List.setIfInBounds_toArray, List.set_cons_zero, List.set_cons_succ]
  refine wpAnyH_take (i := 7) (oi := ⟨_, _, _, _, _, _⟩) (v := ?vg1_4) rfl (by kernel_rfl) (by kernel_rfl) (by kernel_rfl) (fun _ _ _ h => h) (Or.inl ⟨by rfl, ?hyg1_4⟩) (by assumption) ?restg1_4
  case hyg1_4 => (intro W hW; go_simp; try with_reducible rfl)
  try simp only [Act.put, List.setIfInBounds_toArray, List.set_cons_zero, List.set_cons_succ]
  refine wpAnyH_take (i := 0) (oi := ⟨_, _, _, _, _, _⟩) rfl (by kernel_rfl) (by kernel_rfl) (by kernel_rfl) (fun _ _ _ h => h) (Rf.takeKd (by rfl) _ rfl q rfl R hR (fun W hW => hW)) (by assumption) ?restg1_5
  try simp only [Act.put, List.setIfInBounds_toArray, List.set_cons_zero, List.set_cons_succ]
  refine wpAnyH_take (i := 3) (oi := ⟨_, _, _, _, _, _⟩) (v := ?vg1_6) rfl (by kernel_rfl) (by kernel_rfl) (by kernel_rfl) (fun _ _ _ h => h) (Or.inl ⟨by rfl, ?hyg1_6⟩) (by assumption) ?restg1_6
  case hyg1_6 => (intro W hW; go_simp; try with_reducible rfl)
  try simp only [Act.put, List.setIfInBounds_toArray, List.set_cons_zero, List.set_cons_succ]
  refine wpAnyH_take (i := 5) (oi := ⟨_, _, _, _, _, _⟩) (v := ?vg1_7) rfl (by kernel_rfl) (by kernel_rfl) (by kernel_rfl) (fun _ _ _ h => h) (Or.inl ⟨by rfl, ?hyg1_7⟩) (by assumption) ?restg1_7
  case hyg1_7 => (intro W hW; go_simp; try with_reducible rfl)
  try simp only [Act.put, List.setIfInBounds_toArray, List.set_cons_zero, List.set_cons_succ]
  refine wpAnyH_take (i := 6) (oi := ⟨_, _, _, _, _, _⟩) rfl (by kernel_rfl) (by kernel_rfl) (by kernel_rfl) (fun _ _ _ h => h) (Hs.takeI (by rfl) _ rfl q 0 rfl (n : Int) (fun W hW => (cell_of_row W q 0 R _ _ hW).trans h0)) (by assumption) ?restg1_8
  try simp only [Act.put, List.setIfInBounds_toArray, List.set_cons_zero, List.set_cons_succ]
  refine wpAnyH_take (i := 8) (oi := ⟨_, _, _, _, _, _⟩) (v := ?vg1_9) rfl (by kernel_rfl) (by kernel_rfl) (by kernel_rfl) (fun _ _ _ h => h) (Or.inl ⟨by rfl, ?hyg1_9⟩) (by assumption) ?restg1_9
  case hyg1_9 => (intro W hW; go_simp; try with_reducible rfl)
  try simp only [Act.put, List.setIfInBounds_toArray, List.set_cons_zero, List.set_cons_succ]
  try rw [htw]
  refine wpAnyH_take (i := 9) (oi := ⟨_, _, _, _, _, _⟩) (v := ?vg2_1) rfl (by kernel_rfl) (by kernel_rfl) (by kernel_rfl) (fun _ _ _ h => h) (Or.inl ⟨by rfl, ?hyg2_1⟩) (by assumption) ?restg2_1
  case hyg2_1 => (intro W hW; go_simp; try with_reducible rfl)
  try simp only [Act.put, List.setIfInBounds_toArray, List.set_cons_zero, List.set_cons_succ]
  refine wpAnyH_take (i := 10) (oi := ⟨_, _, _, _, _, _⟩) (v := ?vg2_2) rfl (by kernel_rfl) (by kernel_rfl) (by kernel_rfl) (fun _ _ _ h => h) (Or.inl ⟨by rfl, ?hyg2_2⟩) (by assumption) ?restg2_2
  case hyg2_2 => (intro W hW; go_simp; try with_reducible rfl)
  try simp only [Act.put, List.setIfInBounds_toArray, List.set_cons_zero, List.set_cons_succ]
  refine wpAnyH_ready (rs := [11]) (by kernel_rfl) (by simp) ?_
  refine AllReadyH.cons (o := ⟨_, _, _, _, _, _⟩) rfl (fun K hK => ?_) AllReadyH.nil
  go_simp
  refine Calls.mono (CC.out _) ?_
  rintro e2 w2 ⟨rfl, b2⟩
  have hI2 := (b2.block q (Array.getElem?_eq_some_iff.1 hHeld0).1).trans hHeld0
  have hB2 : Below q w w2 := hB.trans (b2.mono (hq ▸ hB.size))
  go_wp2_with fail
  refine hK.out _ _ (hI2) (fun hHeld1 => ?_)
  clear hK K hHeld0
  try simp only [Act.put, List.setIfInBounds_toArray, List.set_cons_zero, List.set_cons_succ]
  refine wpAnyH_take (i := 12) (oi := ⟨_, _, _, _, _, _⟩) (v := ?vg2_3) rfl (by kernel_rfl) (by kernel_rfl) (by kernel_rfl) (fun _ _ _ h => h) (Or.inl ⟨by rfl, ?hyg2_3⟩) (by assumption) ?restg2_3
  case hyg2_3 => (intro W hW; go_simp; try with_reducible rfl)
  try simp only [Act.put, List.setIfInBounds_toArray, List.set_cons_zero, List.set_cons_succ]
  refine wpAnyH_done (by kernel_rfl) ?_ _
  go_wp2_with fail
  go_ret
  exact ⟨rfl, by rw [hq]; exact hB2⟩
end
end Go.Proofs.Ytelfhdihkeafnaa
