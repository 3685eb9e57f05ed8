/- What stands behind the bytes: padding. -/
import Derived.Test.YtelfhdihkeafnaaHsS
namespace Go.Proofs.Ytelfhdihkeafnaa
open Go.RowKit

/-- The plan, in the first block that was made. -/
structure Hs.PLay (pc : Array Value) (w wr : World) : Prop where
  pl : wr.heap[w.heap.size]? = some (.cells pc 58 (0, 0))
  b : Below w.heap.size w wr
theorem Hs.PLay.z {pc : Array Value} {w wr : World} (h : Hs.PLay pc w wr) : w.heap.size + 1 ≤ wr.heap.size := (Array.getElem?_eq_some_iff.1 h.pl).1
theorem Hs.PLay.pcell {pc : Array Value} {w wr : World} (h : Hs.PLay pc w wr) (j : Nat) (x : Value) (hv : pc[j]? = some x) : wr.cell? ⟨w.heap.size, j, none⟩ = some x := by
  simp only [World.cell?, h.pl]; exact hv
theorem Hs.PLay.below {pc : Array Value} {w wr wr' : World} (h : Hs.PLay pc w wr) (hb : Below wr.heap.size wr wr') : Hs.PLay pc w wr' := ⟨(hb.block _ h.z).trans h.pl, h.b.trans (hb.mono (by have := h.z; omega))⟩
theorem Hs.PLay.above {pc : Array Value} {w wr wr' : World} (h : Hs.PLay pc w wr) (hb : Below (w.heap.size + 1) wr wr') : Hs.PLay pc w wr' := ⟨(hb.block _ (by omega)).trans h.pl, h.b.trans (hb.mono (by omega))⟩
theorem Hs.own_of_blk {w : World} {B b cap : Nat} {c : Nat → Value} {l : List UInt8} (h : Hs.Blk w b 5 cap c) (hB : B ≤ b) (hl : l.length ≤ cap) (hm : cap ≤ maxLen) (hc : ∀ j x, l[j]? = some x → c j = Tx.bv x) : Tx.Own w B (.slice (some ⟨b, 0, none⟩) l.length cap) l := by
  refine ⟨by simp, .inr ⟨b, cap, Hs.fn cap c, rfl, hB, h, hl, hm, by rw [Hs.fn_size, Nat.mul_one], ?_⟩⟩
  apply List.ext_getElem?
  intro j
  rw [List.getElem?_take, List.getElem?_map, Nat.mul_one]
  by_cases hj : j < l.length
  · rw [if_pos hj, Array.getElem?_toList, Hs.fn_get _ _ _ (by omega), List.getElem?_eq_getElem hj, hc j _ (List.getElem?_eq_getElem hj)]
    rfl
  · rw [if_neg hj, List.getElem?_eq_none (by omega)]
    rfl
theorem Hs.set_above (b i : Nat) (x : Value) {B : Nat} {w : World} (h : B ≤ b) : Below B w (w.setCell ⟨b, i, none⟩ x) := ⟨rfl, rfl, rfl, by simp [World.setCell], fun k hk => Hs.heap_set w _ _ k (by show k ≠ b; omega)⟩
def Hs.lb (L n i : Nat) : UInt8 := UInt8.ofNat (n * 8 / 2 ^ (8 * (L - 1 - i)))
theorem Hs.min_shift (n t : Nat) (hn : n < 2 ^ 64) : (n : Int) / 2 ^ min t 64 = (n : Int) / 2 ^ t := by
  by_cases h : t ≤ 64
  · rw [Nat.min_eq_left h]
  · rw [Nat.min_eq_right (by omega)]
    have h1 : n / 2 ^ 64 = 0 := Nat.div_eq_of_lt hn
    have h2 : n / 2 ^ t = 0 := Nat.div_eq_of_lt (Nat.lt_of_lt_of_le hn (Nat.pow_le_pow_right (by decide) (by omega)))
    have e1 : (n : Int) / 2 ^ 64 = ((n / 2 ^ 64 : Nat) : Int) := by simp
    have e2 : (n : Int) / 2 ^ t = ((n / 2 ^ t : Nat) : Int) := by simp
    rw [e1, e2, h1, h2]
theorem Hs.pad_lb (κ n : Nat) : Hs.pad κ n = 128 :: (List.replicate (Hs.noughts κ n) 0 ++ (List.range (2 * (Hs.K κ).wb)).map (Hs.lb (2 * (Hs.K κ).wb) n)) := rfl
theorem Hs.lb_last (L n k : Nat) (hi : L - 1 - k = 0) : ((Hs.lb L n k).toNat : Int) = (n : Int) * 8 % 256 := by
  unfold Hs.lb
  rw [hi]
  simp
theorem Hs.lb_at (L n k i t : Nat) (hi : L - 1 - k = i) (h0 : 0 < i) (ht : 8 * i - 3 = t) : (Hs.lb L n k).toNat = n / 2 ^ t % 256 := by
  unfold Hs.lb
  rw [hi, show 8 * i = t + 3 by omega, Nat.pow_add, Nat.mul_div_mul_right _ _ (by decide : 0 < 2 ^ 3)]
  simp
set_option maxHeartbeats 4000000 in
set_option maxRecDepth 100000 in
theorem Hs.padding0 (w : World) (n : Nat) (hn : n ≤ 1152921504606846975) :
    Calls Try.prog 33 #[.int .i64 (n : Int), .agg Hs.pc0] w fun e w' => e = .returned (.string (Tx.ba (Hs.pad 0 n))) ∧ Below w.heap.size w w' := by
  have CB := Lib.hid Hs.block0
  obtain ⟨z, hz⟩ : ∃ z, Hs.noughts 0 n = z := ⟨_, rfl⟩
  have hzv : z = 64 - 1 - (n + 8) % 64 := by rw [← hz]; rfl
  have hzb : z ≤ 63 := by omega
  have e1 : IntKind.i64.wrap ((n : Int) + 8) = ((n + 8 : Nat) : Int) := by rw [IntWalk.i64_in _ (by omega)]; omega
  have e2 : Int.tmod ((n + 8 : Nat) : Int) 64 = (((n + 8) % 64 : Nat) : Int) := by rw [Int.tmod_eq_emod_of_nonneg (by omega)]; omega
  have e3 : IntKind.i64.wrap (63 - (((n + 8) % 64 : Nat) : Int)) = (z : Int) := by rw [IntWalk.i64_in _ (by omega)]; omega
  have e4 : IntKind.i64.wrap (1 + (z : Int)) = ((1 + z : Nat) : Int) := by rw [IntWalk.i64_in _ (by omega)]; omega
  obtain ⟨r, hr⟩ : ∃ r, (n + 8) % 64 = r := ⟨_, rfl⟩
  obtain ⟨m, hm⟩ : ∃ m, n + 8 = m := ⟨_, rfl⟩
  rw [hr] at e2 e3
  rw [hm] at e1 e2
  have e3w : wrap64 (63 - (r : Int)) = (z : Int) := by rw [← e3]; exact (IntWalk.i64_left _).symm
  have HZ := Lib.hid (And.intro hz hzv)
  clear hz hzv hr hm
  go_enter Try.func33, Try.ntmps33
  have bA : Below w.heap.size w (w.alloc (.cells Hs.pc0 58)) := (Below.refl _ _).alloc (Nat.le_refl _) _
  have L0 : Hs.PLay Hs.pc0 w (w.alloc (.cells Hs.pc0 58)) := ⟨heap_alloc_new _ _, bA⟩
  have p0 := L0.pcell 0 (.int .i64 4) rfl
  go_upto_region 2 with fail
  clear bA p0
  generalize w.alloc (.cells Hs.pc0 58) = w1 at L0 ⊢
  refine wp_region_held_drew (S := fun W => W.heap[w.heap.size]? = some (.cells Hs.pc0 58 (0, 0))) (by kernel_rfl) ((L0.below (below_drewN (Below.refl _ _) 1)).pl) (fun hHeld0 => ?_)
  have L1 := L0.below (below_drewN (Below.refl _ _) 1)
  clear L0
  refine wpAnyH_take (i := 0) (oi := ⟨_, _, _, _, _, _⟩) rfl (by kernel_rfl) (by kernel_rfl) (by kernel_rfl) (fun _ _ _ h => h) (Hs.takeP0 (by rfl) _ rfl _ rfl (fun W hW => hW)) (by assumption) ?restg1_1
  try simp only [Act.put, List.setIfInBounds_toArray, List.set_cons_zero, List.set_cons_succ]
  refine wpAnyH_take (i := 3) (oi := ⟨_, _, _, _, _, _⟩) (v := ?vg1_2) rfl (by kernel_rfl) (by kernel_rfl) (by kernel_rfl) (fun _ _ _ h => h) (Or.inl ⟨by rfl, ?hyg1_2⟩) (by assumption) ?restg1_2
  case hyg1_2 => (intro W hW; go_simp; try with_reducible rfl)
  try simp only [Act.put, List.setIfInBounds_toArray, List.set_cons_zero, List.set_cons_succ]
  refine wpAnyH_take (i := 4) (oi := ⟨_, _, _, _, _, _⟩) (v := ?vg1_3) rfl (by kernel_rfl) (by kernel_rfl) (by kernel_rfl) (fun _ _ _ h => h) (Or.inl ⟨by rfl, ?hyg1_3⟩) (by assumption) ?restg1_3
  case hyg1_3 => (intro W hW; go_simp; try with_reducible rfl)
  try simp only [Act.put, List.setIfInBounds_toArray, List.set_cons_zero, List.set_cons_succ]
  refine wpAnyH_take (i := 5) (oi := ⟨_, _, _, _, _, _⟩) (v := ?vg1_4) rfl (by kernel_rfl) (by kernel_rfl) (by kernel_rfl) (fun _ _ _ h => h) (Or.inl ⟨by rfl, ?hyg1_4⟩) (by assumption) ?restg1_4
  case hyg1_4 => (intro W hW; go_simp; try with_reducible rfl)
  try simp only [Act.put, List.setIfInBounds_toArray, List.set_cons_zero, List.set_cons_succ]
  refine wpAnyH_take (i := 6) (oi := ⟨_, _, _, _, _, _⟩) rfl (by kernel_rfl) (by kernel_rfl) (by kernel_rfl) (fun _ _ _ h => h) (Hs.takeP0 (by rfl) _ rfl _ rfl (fun W hW => hW)) (by assumption) ?restg1_5
  try simp only [Act.put, List.setIfInBounds_toArray, List.set_cons_zero, List.set_cons_succ]
  refine wpAnyH_ready (rs := [1]) (by kernel_rfl) (by simp) ?_
  refine AllReadyH.cons (o := ⟨_, _, _, _, _, _⟩) rfl (fun K hK => ?_) AllReadyH.nil
  go_simp
  refine Calls.mono (CB.out _) ?_
  rintro e2 w2 ⟨rfl, b2⟩
  have L2 := L1.below b2
  clear L1
  go_wp2_with fail
  refine hK.out _ _ (L2.pl) (fun hHeld1 => ?_)
  clear hK K hHeld0
  try simp only [Act.put, List.setIfInBounds_toArray, List.set_cons_zero, List.set_cons_succ]
  refine wpAnyH_take (i := 2) (oi := ⟨_, _, _, _, _, _⟩) (v := ?vg1_6) rfl (by kernel_rfl) (by kernel_rfl) (by kernel_rfl) (fun _ _ _ h => h) (Or.inl ⟨by rfl, ?hyg1_6⟩) (by assumption) ?restg1_6
  case hyg1_6 => (intro W hW; go_simp; try with_reducible rfl)
  try simp only [Act.put, List.setIfInBounds_toArray, List.set_cons_zero, List.set_cons_succ]
  refine wpAnyH_ready (rs := [7]) (by kernel_rfl) (by simp) ?_
  refine AllReadyH.cons (o := ⟨_, _, _, _, _, _⟩) rfl (fun K hK => ?_) AllReadyH.nil
  go_simp
  refine Calls.mono (CB.out _) ?_
  rintro e3 w3 ⟨rfl, b3⟩
  have L3 := L2.below b3
  clear L2
  go_wp2_with fail
  refine hK.out _ _ (L3.pl) (fun hHeld2 => ?_)
  clear hK K hHeld1
  try simp only [Act.put, List.setIfInBounds_toArray, List.set_cons_zero, List.set_cons_succ]
  refine wpAnyH_take (i := 8) (oi := ⟨_, _, _, _, _, _⟩) (v := ?vg1_7) rfl (by kernel_rfl) (by kernel_rfl) (by kernel_rfl) (fun _ _ _ h => h) (Or.inl ⟨by rfl, ?hyg1_7⟩) (by assumption) ?restg1_7
  case hyg1_7 => (intro W hW; go_simp; try with_reducible rfl)
  try simp only [Act.put, List.setIfInBounds_toArray, List.set_cons_zero, List.set_cons_succ]
  refine wpAnyH_take (i := 9) (oi := ⟨_, _, _, _, _, _⟩) (v := ?vg1_8) rfl (by kernel_rfl) (by kernel_rfl) (by kernel_rfl) (fun _ _ _ h => h) (Or.inl ⟨by rfl, ?hyg1_8⟩) (by assumption) ?restg1_8
  case hyg1_8 => (intro W hW; go_simp; try with_reducible rfl)
  try simp only [Act.put, List.setIfInBounds_toArray, List.set_cons_zero, List.set_cons_succ]
  refine wpAnyH_take (i := 10) (oi := ⟨_, _, _, _, _, _⟩) (v := ?vg1_9) rfl (by kernel_rfl) (by kernel_rfl) (by kernel_rfl) (fun _ _ _ h => h) (Or.inl ⟨by rfl, ?hyg1_9⟩) (by assumption) ?restg1_9
  case hyg1_9 => (intro W hW; go_simp; try with_reducible rfl)
  try simp only [Act.put, List.setIfInBounds_toArray, List.set_cons_zero, List.set_cons_succ]
  refine wpAnyH_done (by kernel_rfl) ?_ _
  have hz3 := L3.z
  go_wp2_with (refine wpList_load_row rfl 58 (.tmp 3) rfl w.heap.size rfl 58 Hs.pc0 (0, 0) _ L3.pl Try.underlying58 rfl Hs.infoP ?_)
  refine (CB.out _).mono ?_
  rintro e w4 ⟨rfl, b4⟩
  have L4 := L3.below b4
  clear L3 hz3
  go_upto_region 4 with (at_make; refine Hs.wpList_make rfl _ _ rfl (1 + z) 128 rfl rfl (by omega) (by omega) ?_)
  have B5 : Hs.Blk (w4.alloc (.cells (Hs.fn 128 (fun _ => .int .u8 0)) 5)) w4.heap.size 5 128 (fun _ => .int .u8 0) := heap_alloc_new _ _
  have L5 := L4.below ((Below.refl w4.heap.size w4).alloc (Nat.le_refl _) (.cells (Hs.fn 128 (fun _ => .int .u8 0)) 5))
  have hq5 := L4.z
  obtain ⟨b, hb⟩ : ∃ b, w4.heap.size = b := ⟨_, rfl⟩
  have hbs : b + 1 ≤ (w4.alloc (.cells (Hs.fn 128 (fun _ => .int .u8 0)) 5)).heap.size := by simp [hb]
  rw [hb] at B5 hq5 ⊢
  clear hb L4 b4
  generalize w4.alloc (.cells (Hs.fn 128 (fun _ => .int .u8 0)) 5) = w5 at B5 L5 hbs ⊢
  have c0 := B5.cell (j := 0) (by omega)
  have f0 := B5.frozen 0
  have i0 : (0 : Int) < ((1 + z : Nat) : Int) := by omega
  go_upto_region 6 with fail
  have own5 := Hs.own_of_blk (B := w.heap.size + 1) (l := 128 :: List.replicate z 0) (B5.set 0 (.int .u8 128)) (by omega) (by simp; omega) (by decide) (fun j x hj => by
    rcases j with _ | j
    · simp at hj; subst hj; rfl
    · simp [List.getElem?_replicate] at hj
      rw [← hj.2]; rfl)
  have L6 := L5.above (Hs.set_above b 0 (.int .u8 128) (by omega) : Below (w.heap.size + 1) w5 (w5.setCell ⟨b, 0, none⟩ (.int .u8 128)))
  simp only [List.length_cons, List.length_replicate] at own5
  rw [Nat.add_comm z 1] at own5
  clear L5 B5 c0 f0
  generalize w5.setCell ⟨b, 0, none⟩ (.int .u8 128) = w6 at own5 L6 ⊢
  go_loopw [7, 8] (fun bv iv wr => ∃ k : Nat, k ≤ 7 ∧ iv = .int .i64 ((7 - k : Nat) : Int) ∧ Tx.Own wr (w.heap.size + 1) bv ((128 :: List.replicate z 0) ++ (List.range k).map (Hs.lb 8 n)) ∧ Hs.PLay Hs.pc0 w wr) (fun _ iv _ => (intOf iv).toNat)
  case atStart => exact ⟨0, by omega, rfl, by simpa using own5, L6⟩
  case round =>
    clear L6 own5
    obtain ⟨k, hk, rfl, hown, hL⟩ := hrel
    obtain ⟨w7, rfl⟩ : ∃ w7, w7 = wr := ⟨_, rfl⟩
    have hz7 := hL.z
    by_cases hlt : k < 7
    · obtain ⟨i, hi⟩ : ∃ i, 7 - k = i := ⟨_, rfl⟩
      rw [hi]
      have i1 : 0 < (i : Int) := by omega
      have s2 : 8 * (i : Int) - 3 = ((8 * i - 3 : Nat) : Int) := by omega
      obtain ⟨t, ht⟩ : ∃ t, 8 * i - 3 = t := ⟨_, rfl⟩
      rw [ht] at s2
      have s3 : 0 ≤ (t : Int) := by omega
      obtain ⟨c, hc⟩ : ∃ c, Hs.lb 8 n k = c := ⟨_, rfl⟩
      have s4 : (n : Int) / 2 ^ t % 256 = (c.toNat : Int) := by
        rw [← hc, Hs.lb_at 8 n k i t (by omega) (by omega) (by omega)]; simp
      have s4b : (n : Int) / 2 ^ min t 64 % 256 = (c.toNat : Int) := by
        rw [← s4, Hs.min_shift n t (by omega)]
      have hsn : (128 :: List.replicate z 0) ++ (List.range (k + 1)).map (Hs.lb 8 n) = ((128 :: List.replicate z 0) ++ (List.range k).map (Hs.lb 8 n)) ++ [c] := by rw [← hc, Hs.tell_snoc, List.append_assoc]
      have HSN := Lib.hid hsn
      have HLH := Lib.hid (show ((128 :: List.replicate z 0) ++ (List.range k).map (Hs.lb 8 n)).length + [c].length ≤ 140737488355328 by simp; omega)
      obtain ⟨l, hl⟩ : ∃ l, (128 :: List.replicate z 0) ++ (List.range k).map (Hs.lb 8 n) = l := ⟨_, rfl⟩
      rw [hl] at HSN HLH hown
      clear hc hsn ht hl
      go_wp2_with (at_builtin; refine Tx.append rfl _ _ rfl (w.heap.size + 1) _ l rfl (hown.alloc _) ⟨w7.heap.size, 0, none⟩ 1 [c] rfl (World.news_of_block (heap_alloc_new w7 _)) HLH.out (by simp; omega) ?_; intro v1 w8 own8 b8 z8)
      have hL8 := (hL.below ((Below.refl _ _).alloc (Nat.le_refl _) _)).above b8
      rw [← HSN.out] at own8
      refine ⟨⟨k + 1, by omega, by rw [show ((7 - (k + 1) : Nat) : Int) = (i : Int) - 1 by omega], own8, hL8⟩, ?_⟩
      simp only [intOf]
      omega
    · obtain rfl : k = 7 := by omega
      have i1 : ¬ (0 : Int) < ((7 - 7 : Nat) : Int) := by omega
      obtain ⟨c, hc⟩ : ∃ c, Hs.lb 8 n 7 = c := ⟨_, rfl⟩
      have s4 : (n : Int) * 8 % 256 = (c.toNat : Int) := by rw [← hc, Hs.lb_last 8 n 7 rfl]
      have hsn : Hs.pad 0 n = ((128 :: List.replicate z 0) ++ (List.range 7).map (Hs.lb 8 n)) ++ [c] := by
        rw [← hc, List.append_assoc, ← Hs.tell_snoc, Hs.pad_lb, HZ.out.1, show 2 * (Hs.K 0).wb = 7 + 1 from rfl]
        rfl
      have HSN := Lib.hid hsn
      have HLH := Lib.hid (show ((128 :: List.replicate z 0) ++ (List.range 7).map (Hs.lb 8 n)).length + [c].length ≤ 140737488355328 by simp; omega)
      obtain ⟨l, hl⟩ : ∃ l, (128 :: List.replicate z 0) ++ (List.range 7).map (Hs.lb 8 n) = l := ⟨_, rfl⟩
      rw [hl] at HSN HLH hown
      clear hc hsn hl
      go_wp2_with (at_builtin; refine Tx.append rfl _ _ rfl (w.heap.size + 1) _ l rfl (hown.alloc _) ⟨w7.heap.size, 0, none⟩ 1 [c] rfl (World.news_of_block (heap_alloc_new w7 _)) HLH.out (by simp; omega) ?_; intro v1 w8 own8 b8 z8; have hcv := own8.conv; rw [← HSN.out] at hcv)
      have hL8 := (hL.below ((Below.refl _ _).alloc (Nat.le_refl _) _)).above b8
      have hb := hL8.b
      go_ret
      exact ⟨rfl, hb⟩
set_option maxHeartbeats 4000000 in
set_option maxRecDepth 100000 in
theorem Hs.padding1 (w : World) (n : Nat) (hn : n ≤ 1152921504606846975) :
    Calls Try.prog 33 #[.int .i64 (n : Int), .agg Hs.pc1] w fun e w' => e = .returned (.string (Tx.ba (Hs.pad 1 n))) ∧ Below w.heap.size w w' := by
  have CB := Lib.hid Hs.block1
  obtain ⟨z, hz⟩ : ∃ z, Hs.noughts 1 n = z := ⟨_, rfl⟩
  have hzv : z = 128 - 1 - (n + 16) % 128 := by rw [← hz]; rfl
  have hzb : z ≤ 127 := by omega
  have e1 : IntKind.i64.wrap ((n : Int) + 16) = ((n + 16 : Nat) : Int) := by rw [IntWalk.i64_in _ (by omega)]; omega
  have e2 : Int.tmod ((n + 16 : Nat) : Int) 128 = (((n + 16) % 128 : Nat) : Int) := by rw [Int.tmod_eq_emod_of_nonneg (by omega)]; omega
  have e3 : IntKind.i64.wrap (127 - (((n + 16) % 128 : Nat) : Int)) = (z : Int) := by rw [IntWalk.i64_in _ (by omega)]; omega
  have e4 : IntKind.i64.wrap (1 + (z : Int)) = ((1 + z : Nat) : Int) := by rw [IntWalk.i64_in _ (by omega)]; omega
  obtain ⟨r, hr⟩ : ∃ r, (n + 16) % 128 = r := ⟨_, rfl⟩
  obtain ⟨m, hm⟩ : ∃ m, n + 16 = m := ⟨_, rfl⟩
  rw [hr] at e2 e3
  rw [hm] at e1 e2
  have e3w : wrap64 (127 - (r : Int)) = (z : Int) := by rw [← e3]; exact (IntWalk.i64_left _).symm
  have HZ := Lib.hid (And.intro hz hzv)
  clear hz hzv hr hm
  go_enter Try.func33, Try.ntmps33
  have bA : Below w.heap.size w (w.alloc (.cells Hs.pc1 58)) := (Below.refl _ _).alloc (Nat.le_refl _) _
  have L0 : Hs.PLay Hs.pc1 w (w.alloc (.cells Hs.pc1 58)) := ⟨heap_alloc_new _ _, bA⟩
  have p0 := L0.pcell 0 (.int .i64 8) rfl
  go_upto_region 2 with fail
  clear bA p0
  generalize w.alloc (.cells Hs.pc1 58) = w1 at L0 ⊢
  refine wp_region_held_drew (S := fun W => W.heap[w.heap.size]? = some (.cells Hs.pc1 58 (0, 0))) (by kernel_rfl) ((L0.below (below_drewN (Below.refl _ _) 1)).pl) (fun hHeld0 => ?_)
  have L1 := L0.below (below_drewN (Below.refl _ _) 1)
  clear L0
  refine wpAnyH_take (i := 0) (oi := ⟨_, _, _, _, _, _⟩) rfl (by kernel_rfl) (by kernel_rfl) (by kernel_rfl) (fun _ _ _ h => h) (Hs.takeP1 (by rfl) _ rfl _ rfl (fun W hW => hW)) (by assumption) ?restg2_1
  try simp only [Act.put, List.setIfInBounds_toArray, List.set_cons_zero, List.set_cons_succ]
  refine wpAnyH_take (i := 3) (oi := ⟨_, _, _, _, _, _⟩) (v := ?vg2_2) rfl (by kernel_rfl) (by kernel_rfl) (by kernel_rfl) (fun _ _ _ h => h) (Or.inl ⟨by rfl, ?hyg2_2⟩) (by assumption) ?restg2_2
  case hyg2_2 => (intro W hW; go_simp; try with_reducible rfl)
  try simp only [Act.put, List.setIfInBounds_toArray, List.set_cons_zero, List.set_cons_succ]
  refine wpAnyH_take (i := 4) (oi := ⟨_, _, _, _, _, _⟩) (v := ?vg2_3) rfl (by kernel_rfl) (by kernel_rfl) (by kernel_rfl) (fun _ _ _ h => h) (Or.inl ⟨by rfl, ?hyg2_3⟩) (by assumption) ?restg2_3
  case hyg2_3 => (intro W hW; go_simp; try with_reducible rfl)
  try simp only [Act.put, List.setIfInBounds_toArray, List.set_cons_zero, List.set_cons_succ]
  refine wpAnyH_take (i := 5) (oi := ⟨_, _, _, _, _, _⟩) (v := ?vg2_4) rfl (by kernel_rfl) (by kernel_rfl) (by kernel_rfl) (fun _ _ _ h => h) (Or.inl ⟨by rfl, ?hyg2_4⟩) (by assumption) ?restg2_4
  case hyg2_4 => (intro W hW; go_simp; try with_reducible rfl)
  try simp only [Act.put, List.setIfInBounds_toArray, List.set_cons_zero, List.set_cons_succ]
  refine wpAnyH_take (i := 6) (oi := ⟨_, _, _, _, _, _⟩) rfl (by kernel_rfl) (by kernel_rfl) (by kernel_rfl) (fun _ _ _ h => h) (Hs.takeP1 (by rfl) _ rfl _ rfl (fun W hW => hW)) (by assumption) ?restg2_5
  try simp only [Act.put, List.setIfInBounds_toArray, List.set_cons_zero, List.set_cons_succ]
  refine wpAnyH_ready (rs := [1]) (by kernel_rfl) (by simp) ?_
  refine AllReadyH.cons (o := ⟨_, _, _, _, _, _⟩) rfl (fun K hK => ?_) AllReadyH.nil
  go_simp
  refine Calls.mono (CB.out _) ?_
  rintro e2 w2 ⟨rfl, b2⟩
  have L2 := L1.below b2
  clear L1
  go_wp2_with fail
  refine hK.out _ _ (L2.pl) (fun hHeld1 => ?_)
  clear hK K hHeld0
  try simp only [Act.put, List.setIfInBounds_toArray, List.set_cons_zero, List.set_cons_succ]
  refine wpAnyH_take (i := 2) (oi := ⟨_, _, _, _, _, _⟩) (v := ?vg2_6) rfl (by kernel_rfl) (by kernel_rfl) (by kernel_rfl) (fun _ _ _ h => h) (Or.inl ⟨by rfl, ?hyg2_6⟩) (by assumption) ?restg2_6
  case hyg2_6 => (intro W hW; go_simp; try with_reducible rfl)
  try simp only [Act.put, List.setIfInBounds_toArray, List.set_cons_zero, List.set_cons_succ]
  refine wpAnyH_ready (rs := [7]) (by kernel_rfl) (by simp) ?_
  refine AllReadyH.cons (o := ⟨_, _, _, _, _, _⟩) rfl (fun K hK => ?_) AllReadyH.nil
  go_simp
  refine Calls.mono (CB.out _) ?_
  rintro e3 w3 ⟨rfl, b3⟩
  have L3 := L2.below b3
  clear L2
  go_wp2_with fail
  refine hK.out _ _ (L3.pl) (fun hHeld2 => ?_)
  clear hK K hHeld1
  try simp only [Act.put, List.setIfInBounds_toArray, List.set_cons_zero, List.set_cons_succ]
  refine wpAnyH_take (i := 8) (oi := ⟨_, _, _, _, _, _⟩) (v := ?vg2_7) rfl (by kernel_rfl) (by kernel_rfl) (by kernel_rfl) (fun _ _ _ h => h) (Or.inl ⟨by rfl, ?hyg2_7⟩) (by assumption) ?restg2_7
  case hyg2_7 => (intro W hW; go_simp; try with_reducible rfl)
  try simp only [Act.put, List.setIfInBounds_toArray, List.set_cons_zero, List.set_cons_succ]
  refine wpAnyH_take (i := 9) (oi := ⟨_, _, _, _, _, _⟩) (v := ?vg2_8) rfl (by kernel_rfl) (by kernel_rfl) (by kernel_rfl) (fun _ _ _ h => h) (Or.inl ⟨by rfl, ?hyg2_8⟩) (by assumption) ?restg2_8
  case hyg2_8 => (intro W hW; go_simp; try with_reducible rfl)
  try simp only [Act.put, List.setIfInBounds_toArray, List.set_cons_zero, List.set_cons_succ]
  refine wpAnyH_take (i := 10) (oi := ⟨_, _, _, _, _, _⟩) (v := ?vg2_9) rfl (by kernel_rfl) (by kernel_rfl) (by kernel_rfl) (fun _ _ _ h => h) (Or.inl ⟨by rfl, ?hyg2_9⟩) (by assumption) ?restg2_9
  case hyg2_9 => (intro W hW; go_simp; try with_reducible rfl)
  try simp only [Act.put, List.setIfInBounds_toArray, List.set_cons_zero, List.set_cons_succ]
  refine wpAnyH_done (by kernel_rfl) ?_ _
  have hz3 := L3.z
  go_wp2_with (refine wpList_load_row rfl 58 (.tmp 3) rfl w.heap.size rfl 58 Hs.pc1 (0, 0) _ L3.pl Try.underlying58 rfl Hs.infoP ?_)
  refine (CB.out _).mono ?_
  rintro e w4 ⟨rfl, b4⟩
  have L4 := L3.below b4
  clear L3 hz3
  go_upto_region 4 with (at_make; refine Hs.wpList_make rfl _ _ rfl (1 + z) 256 rfl rfl (by omega) (by omega) ?_)
  have B5 : Hs.Blk (w4.alloc (.cells (Hs.fn 256 (fun _ => .int .u8 0)) 5)) w4.heap.size 5 256 (fun _ => .int .u8 0) := heap_alloc_new _ _
  have L5 := L4.below ((Below.refl w4.heap.size w4).alloc (Nat.le_refl _) (.cells (Hs.fn 256 (fun _ => .int .u8 0)) 5))
  have hq5 := L4.z
  obtain ⟨b, hb⟩ : ∃ b, w4.heap.size = b := ⟨_, rfl⟩
  have hbs : b + 1 ≤ (w4.alloc (.cells (Hs.fn 256 (fun _ => .int .u8 0)) 5)).heap.size := by simp [hb]
  rw [hb] at B5 hq5 ⊢
  clear hb L4 b4
  generalize w4.alloc (.cells (Hs.fn 256 (fun _ => .int .u8 0)) 5) = w5 at B5 L5 hbs ⊢
  have c0 := B5.cell (j := 0) (by omega)
  have f0 := B5.frozen 0
  have i0 : (0 : Int) < ((1 + z : Nat) : Int) := by omega
  go_upto_region 6 with fail
  have own5 := Hs.own_of_blk (B := w.heap.size + 1) (l := 128 :: List.replicate z 0) (B5.set 0 (.int .u8 128)) (by omega) (by simp; omega) (by decide) (fun j x hj => by
    rcases j with _ | j
    · simp at hj; subst hj; rfl
    · simp [List.getElem?_replicate] at hj
      rw [← hj.2]; rfl)
  have L6 := L5.above (Hs.set_above b 0 (.int .u8 128) (by omega) : Below (w.heap.size + 1) w5 (w5.setCell ⟨b, 0, none⟩ (.int .u8 128)))
  simp only [List.length_cons, List.length_replicate] at own5
  rw [Nat.add_comm z 1] at own5
  clear L5 B5 c0 f0
  generalize w5.setCell ⟨b, 0, none⟩ (.int .u8 128) = w6 at own5 L6 ⊢
  go_loopw [7, 8] (fun bv iv wr => ∃ k : Nat, k ≤ 15 ∧ iv = .int .i64 ((15 - k : Nat) : Int) ∧ Tx.Own wr (w.heap.size + 1) bv ((128 :: List.replicate z 0) ++ (List.range k).map (Hs.lb 16 n)) ∧ Hs.PLay Hs.pc1 w wr) (fun _ iv _ => (intOf iv).toNat)
  case atStart => exact ⟨0, by omega, rfl, by simpa using own5, L6⟩
  case round =>
    clear L6 own5
    obtain ⟨k, hk, rfl, hown, hL⟩ := hrel
    obtain ⟨w7, rfl⟩ : ∃ w7, w7 = wr := ⟨_, rfl⟩
    have hz7 := hL.z
    by_cases hlt : k < 15
    · obtain ⟨i, hi⟩ : ∃ i, 15 - k = i := ⟨_, rfl⟩
      rw [hi]
      have i1 : 0 < (i : Int) := by omega
      have s2 : 8 * (i : Int) - 3 = ((8 * i - 3 : Nat) : Int) := by omega
      obtain ⟨t, ht⟩ : ∃ t, 8 * i - 3 = t := ⟨_, rfl⟩
      rw [ht] at s2
      have s3 : 0 ≤ (t : Int) := by omega
      obtain ⟨c, hc⟩ : ∃ c, Hs.lb 16 n k = c := ⟨_, rfl⟩
      have s4 : (n : Int) / 2 ^ t % 256 = (c.toNat : Int) := by
        rw [← hc, Hs.lb_at 16 n k i t (by omega) (by omega) (by omega)]; simp
      have s4b : (n : Int) / 2 ^ min t 64 % 256 = (c.toNat : Int) := by
        rw [← s4, Hs.min_shift n t (by omega)]
      have hsn : (128 :: List.replicate z 0) ++ (List.range (k + 1)).map (Hs.lb 16 n) = ((128 :: List.replicate z 0) ++ (List.range k).map (Hs.lb 16 n)) ++ [c] := by rw [← hc, Hs.tell_snoc, List.append_assoc]
      have HSN := Lib.hid hsn
      have HLH := Lib.hid (show ((128 :: List.replicate z 0) ++ (List.range k).map (Hs.lb 16 n)).length + [c].length ≤ 140737488355328 by simp; omega)
      obtain ⟨l, hl⟩ : ∃ l, (128 :: List.replicate z 0) ++ (List.range k).map (Hs.lb 16 n) = l := ⟨_, rfl⟩
      rw [hl] at HSN HLH hown
      clear hc hsn ht hl
      go_wp2_with (at_builtin; refine Tx.append rfl _ _ rfl (w.heap.size + 1) _ l rfl (hown.alloc _) ⟨w7.heap.size, 0, none⟩ 1 [c] rfl (World.news_of_block (heap_alloc_new w7 _)) HLH.out (by simp; omega) ?_; intro v1 w8 own8 b8 z8)
      have hL8 := (hL.below ((Below.refl _ _).alloc (Nat.le_refl _) _)).above b8
      rw [← HSN.out] at own8
      refine ⟨⟨k + 1, by omega, by rw [show ((15 - (k + 1) : Nat) : Int) = (i : Int) - 1 by omega], own8, hL8⟩, ?_⟩
      simp only [intOf]
      omega
    · obtain rfl : k = 15 := by omega
      have i1 : ¬ (0 : Int) < ((15 - 15 : Nat) : Int) := by omega
      obtain ⟨c, hc⟩ : ∃ c, Hs.lb 16 n 15 = c := ⟨_, rfl⟩
      have s4 : (n : Int) * 8 % 256 = (c.toNat : Int) := by rw [← hc, Hs.lb_last 16 n 15 rfl]
      have hsn : Hs.pad 1 n = ((128 :: List.replicate z 0) ++ (List.range 15).map (Hs.lb 16 n)) ++ [c] := by
        rw [← hc, List.append_assoc, ← Hs.tell_snoc, Hs.pad_lb, HZ.out.1, show 2 * (Hs.K 1).wb = 15 + 1 from rfl]
        rfl
      have HSN := Lib.hid hsn
      have HLH := Lib.hid (show ((128 :: List.replicate z 0) ++ (List.range 15).map (Hs.lb 16 n)).length + [c].length ≤ 140737488355328 by simp; omega)
      obtain ⟨l, hl⟩ : ∃ l, (128 :: List.replicate z 0) ++ (List.range 15).map (Hs.lb 16 n) = l := ⟨_, rfl⟩
      rw [hl] at HSN HLH hown
      clear hc hsn hl
      go_wp2_with (at_builtin; refine Tx.append rfl _ _ rfl (w.heap.size + 1) _ l rfl (hown.alloc _) ⟨w7.heap.size, 0, none⟩ 1 [c] rfl (World.news_of_block (heap_alloc_new w7 _)) HLH.out (by simp; omega) ?_; intro v1 w8 own8 b8 z8; have hcv := own8.conv; rw [← HSN.out] at hcv)
      have hL8 := (hL.below ((Below.refl _ _).alloc (Nat.le_refl _) _)).above b8
      have hb := hL8.b
      go_ret
      exact ⟨rfl, hb⟩
end Go.Proofs.Ytelfhdihkeafnaa
