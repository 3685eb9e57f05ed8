/- What is written: Write. -/
import Derived.Test.YthlecdggkolgmaaGreatDoorHsS
namespace Go.Proofs.YthlecdggkolgmaaGreatDoor
section
open Go.RowKit

/-- The plan, in the first block that was made. -/
structure Hs.PLay (pc : Array Value) (w wr : World) : Prop where
  pl : wr.heap[w.heap.size]? = some (.cells pc 131 (0,0))
  b : Below w.heap.size w wr
theorem Hs.PLay.z {pc : Array Value} {w wr : World} (h : Hs.PLay pc w wr) : w.heap.size + 1 ≤ wr.heap.size := (Array.getElem?_eq_some_iff.1 h.pl).1
theorem Hs.PLay.pcell {pc : Array Value} {w wr : World} (h : Hs.PLay pc w wr) (j : Nat) (x : Value) (hv : pc[j]? = some x) : wr.cell? ⟨w.heap.size,j,none⟩ = some x := by
  simp only [World.cell?,h.pl]; exact hv
theorem Hs.PLay.below {pc : Array Value} {w wr wr' : World} (h : Hs.PLay pc w wr) (hb : Below wr.heap.size wr wr') : Hs.PLay pc w wr' := ⟨(hb.block _ h.z).trans h.pl,h.b.trans (hb.mono (by have := h.z; omega))⟩
theorem Hs.PLay.above {pc : Array Value} {w wr wr' : World} (h : Hs.PLay pc w wr) (hb : Below (w.heap.size + 1) wr wr') : Hs.PLay pc w wr' := ⟨(hb.block _ (by omega)).trans h.pl,h.b.trans (hb.mono (by omega))⟩
theorem Hs.own_of_blk {w : World} {B b cap : Nat} {c : Nat → Value} {l : List UInt8} (h : Hs.Blk w b 5 cap c) (hB : B ≤ b) (hl : l.length ≤ cap) (hm : cap ≤ maxLen) (hc : ∀ j x,l[j]? = some x → c j = Tx.bv x) : Tx.Own w B (.slice (some ⟨b,0,none⟩) l.length cap) l := by
  refine ⟨by simp,.inr ⟨b,cap,Hs.fn cap c,rfl,hB,h,hl,hm,by rw [Hs.fn_size,Nat.mul_one],?_⟩⟩
  apply List.ext_getElem?
  intro j
  rw [List.getElem?_take,List.getElem?_map,Nat.mul_one]
  by_cases hj : j < l.length
  · rw [if_pos hj,Array.getElem?_toList,Hs.fn_get _ _ _ (by omega),List.getElem?_eq_getElem hj,hc j _ (List.getElem?_eq_getElem hj)]
    rfl
  · rw [if_neg hj,List.getElem?_eq_none (by omega)]
    rfl
theorem Hs.set_above (b i : Nat) (x : Value) {B : Nat} {w : World} (h : B ≤ b) : Below B w (w.setCell ⟨b,i,none⟩ x) := ⟨rfl,rfl,rfl,by simp [World.setCell],fun k hk => Hs.heap_set w _ _ k (by show k ≠ b; omega)⟩
def Hs.lb (L n i : Nat) : UInt8 := UInt8.ofNat (n * 8 / 2 ^ (8 * (L - 1 - i)))
theorem Hs.min_shift (n t : Nat) (hn : n < 2 ^ 64) : (n : Int) / 2 ^ min t 64 = (n : Int) / 2 ^ t := by
  by_cases h : t ≤ 64
  · rw [Nat.min_eq_left h]
  · rw [Nat.min_eq_right (by omega)]
    have h1 : n / 2 ^ 64 = 0 := Nat.div_eq_of_lt hn
    have h2 : n / 2 ^ t = 0 := Nat.div_eq_of_lt (Nat.lt_of_lt_of_le hn (Nat.pow_le_pow_right (by decide) (by omega)))
    have e1 : (n : Int) / 2 ^ 64 = ((n / 2 ^ 64 : Nat) : Int) := by simp
    have e2 : (n : Int) / 2 ^ t = ((n / 2 ^ t : Nat) : Int) := by simp
    rw [e1,e2,h1,h2]
theorem Hs.pad_lb (κ n : Nat) : Hs.pad κ n = 128 :: (List.replicate (Hs.noughts κ n) 0 ++ (List.range (2 * (Hs.K κ).wb)).map (Hs.lb (2 * (Hs.K κ).wb) n)) := rfl
theorem Hs.lb_last (L n k : Nat) (hi : L - 1 - k = 0) : ((Hs.lb L n k).toNat : Int) = (n : Int) * 8 % 256 := by
  unfold Hs.lb
  rw [hi]
  simp
theorem Hs.lb_at (L n k i t : Nat) (hi : L - 1 - k = i) (h0 : 0 < i) (ht : 8 * i - 3 = t) : (Hs.lb L n k).toNat = n / 2 ^ t % 256 := by
  unfold Hs.lb
  rw [hi,show 8 * i = t + 3 by omega,Nat.pow_add,Nat.mul_div_mul_right _ _ (by decide : 0 < 2 ^ 3)]
  simp
set_option maxHeartbeats 4000000 in
set_option maxRecDepth 100000 in
theorem Hs.padding0 (w : World) (n : Nat) (hn : n ≤ 1152921504606846975) :
    Calls Tryz.prog 85 #[.int .i64 (n : Int),.agg Hs.pc0] w fun e w' => e = .returned (.string (Tx.ba (Hs.pad 0 n))) ∧ Below w.heap.size w w' := by
  have CB := Lib.hid Hs.block0
  obtain ⟨z,hz⟩ : ∃ z,Hs.noughts 0 n = z := ⟨_,rfl⟩
  have hzv : z = 64 - 1 - (n + 8) % 64 := by rw [← hz]; rfl
  have hzb : z ≤ 63 := by omega
  have e1 : IntKind.i64.wrap ((n : Int) + 8) = ((n + 8 : Nat) : Int) := by rw [IntWalk.i64_in _ (by omega)]; omega
  have e2 : Int.tmod ((n + 8 : Nat) : Int) 64 = (((n + 8) % 64 : Nat) : Int) := by rw [Int.tmod_eq_emod_of_nonneg (by omega)]; omega
  have e3 : IntKind.i64.wrap (63 - (((n + 8) % 64 : Nat) : Int)) = (z : Int) := by rw [IntWalk.i64_in _ (by omega)]; omega
  have e4 : IntKind.i64.wrap (1 + (z : Int)) = ((1 + z : Nat) : Int) := by rw [IntWalk.i64_in _ (by omega)]; omega
  obtain ⟨r,hr⟩ : ∃ r,(n + 8) % 64 = r := ⟨_,rfl⟩
  obtain ⟨m,hm⟩ : ∃ m,n + 8 = m := ⟨_,rfl⟩
  rw [hr] at e2 e3
  rw [hm] at e1 e2
  have e3w : wrap64 (63 - (r : Int)) = (z : Int) := by rw [← e3]; exact (IntWalk.i64_left _).symm
  have HZ := Lib.hid (And.intro hz hzv)
  clear hz hzv hr hm
  go_enter Tryz.func85,Tryz.ntmps85
  have bA : Below w.heap.size w (w.alloc (.cells Hs.pc0 131)) := (Below.refl _ _).alloc (Nat.le_refl _) _
  have L0 : Hs.PLay Hs.pc0 w (w.alloc (.cells Hs.pc0 131)) := ⟨heap_alloc_new _ _,bA⟩
  have p0 := L0.pcell 0 (.int .i64 4) rfl
  go_upto_region 2 with fail
  clear bA p0
  generalize w.alloc (.cells Hs.pc0 131) = w1 at L0 ⊢
  refine wp_region_held_drew (S := fun W => W.heap[w.heap.size]? = some (.cells Hs.pc0 131 (0,0))) (by kernel_rfl) ((L0.below (below_drewN (Below.refl _ _) 1)).pl) (fun hHeld0 => ?_)
  have L1 := L0.below (below_drewN (Below.refl _ _) 1)
  clear L0
  refine wpAnyH_take (i := 0) (oi := ⟨_,_,_,_,_,_⟩) rfl (by kernel_rfl) (by kernel_rfl) (by kernel_rfl) (fun _ _ _ h => h) (Hs.takeP0 (by rfl) _ rfl _ rfl (fun W hW => hW)) (by assumption) ?restg1_1
  try simp only [Act.put,List.setIfInBounds_toArray,List.set_cons_zero,List.set_cons_succ]
  refine wpAnyH_take (i := 3) (oi := ⟨_,_,_,_,_,_⟩) (v := ?vg1_2) rfl (by kernel_rfl) (by kernel_rfl) (by kernel_rfl) (fun _ _ _ h => h) (Or.inl ⟨by rfl,?hyg1_2⟩) (by assumption) ?restg1_2
  case hyg1_2 => (intro W hW; go_simp; try with_reducible rfl)
  try simp only [Act.put,List.setIfInBounds_toArray,List.set_cons_zero,List.set_cons_succ]
  refine wpAnyH_take (i := 4) (oi := ⟨_,_,_,_,_,_⟩) (v := ?vg1_3) rfl (by kernel_rfl) (by kernel_rfl) (by kernel_rfl) (fun _ _ _ h => h) (Or.inl ⟨by rfl,?hyg1_3⟩) (by assumption) ?restg1_3
  case hyg1_3 => (intro W hW; go_simp; try with_reducible rfl)
  try simp only [Act.put,List.setIfInBounds_toArray,List.set_cons_zero,List.set_cons_succ]
  refine wpAnyH_take (i := 5) (oi := ⟨_,_,_,_,_,_⟩) (v := ?vg1_4) rfl (by kernel_rfl) (by kernel_rfl) (by kernel_rfl) (fun _ _ _ h => h) (Or.inl ⟨by rfl,?hyg1_4⟩) (by assumption) ?restg1_4
  case hyg1_4 => (intro W hW; go_simp; try with_reducible rfl)
  try simp only [Act.put,List.setIfInBounds_toArray,List.set_cons_zero,List.set_cons_succ]
  refine wpAnyH_take (i := 6) (oi := ⟨_,_,_,_,_,_⟩) rfl (by kernel_rfl) (by kernel_rfl) (by kernel_rfl) (fun _ _ _ h => h) (Hs.takeP0 (by rfl) _ rfl _ rfl (fun W hW => hW)) (by assumption) ?restg1_5
  try simp only [Act.put,List.setIfInBounds_toArray,List.set_cons_zero,List.set_cons_succ]
  refine wpAnyH_ready (rs := [1]) (by kernel_rfl) (by simp) ?_
  refine AllReadyH.cons (o := ⟨_,_,_,_,_,_⟩) rfl (fun K hK => ?_) AllReadyH.nil
  go_simp
  refine Calls.mono (CB.out _) ?_
  rintro e2 w2 ⟨rfl,b2⟩
  have L2 := L1.below b2
  clear L1
  go_wp2_with fail
  refine hK.out _ _ (L2.pl) (fun hHeld1 => ?_)
  clear hK K hHeld0
  try simp only [Act.put,List.setIfInBounds_toArray,List.set_cons_zero,List.set_cons_succ]
  refine wpAnyH_take (i := 2) (oi := ⟨_,_,_,_,_,_⟩) (v := ?vg1_6) rfl (by kernel_rfl) (by kernel_rfl) (by kernel_rfl) (fun _ _ _ h => h) (Or.inl ⟨by rfl,?hyg1_6⟩) (by assumption) ?restg1_6
  case hyg1_6 => (intro W hW; go_simp; try with_reducible rfl)
  try simp only [Act.put,List.setIfInBounds_toArray,List.set_cons_zero,List.set_cons_succ]
  refine wpAnyH_ready (rs := [7]) (by kernel_rfl) (by simp) ?_
  refine AllReadyH.cons (o := ⟨_,_,_,_,_,_⟩) rfl (fun K hK => ?_) AllReadyH.nil
  go_simp
  refine Calls.mono (CB.out _) ?_
  rintro e3 w3 ⟨rfl,b3⟩
  have L3 := L2.below b3
  clear L2
  go_wp2_with fail
  refine hK.out _ _ (L3.pl) (fun hHeld2 => ?_)
  clear hK K hHeld1
  try simp only [Act.put,List.setIfInBounds_toArray,List.set_cons_zero,List.set_cons_succ]
  refine wpAnyH_take (i := 8) (oi := ⟨_,_,_,_,_,_⟩) (v := ?vg1_7) rfl (by kernel_rfl) (by kernel_rfl) (by kernel_rfl) (fun _ _ _ h => h) (Or.inl ⟨by rfl,?hyg1_7⟩) (by assumption) ?restg1_7
  case hyg1_7 => (intro W hW; go_simp; try with_reducible rfl)
  try simp only [Act.put,List.setIfInBounds_toArray,List.set_cons_zero,List.set_cons_succ]
  refine wpAnyH_take (i := 9) (oi := ⟨_,_,_,_,_,_⟩) (v := ?vg1_8) rfl (by kernel_rfl) (by kernel_rfl) (by kernel_rfl) (fun _ _ _ h => h) (Or.inl ⟨by rfl,?hyg1_8⟩) (by assumption) ?restg1_8
  case hyg1_8 => (intro W hW; go_simp; try with_reducible rfl)
  try simp only [Act.put,List.setIfInBounds_toArray,List.set_cons_zero,List.set_cons_succ]
  refine wpAnyH_take (i := 10) (oi := ⟨_,_,_,_,_,_⟩) (v := ?vg1_9) rfl (by kernel_rfl) (by kernel_rfl) (by kernel_rfl) (fun _ _ _ h => h) (Or.inl ⟨by rfl,?hyg1_9⟩) (by assumption) ?restg1_9
  case hyg1_9 => (intro W hW; go_simp; try with_reducible rfl)
  try simp only [Act.put,List.setIfInBounds_toArray,List.set_cons_zero,List.set_cons_succ]
  refine wpAnyH_done (by kernel_rfl) ?_ _
  have hz3 := L3.z
  go_wp2_with (refine wpList_load_row rfl 131 (.tmp 3) rfl w.heap.size rfl 131 Hs.pc0 (0,0) _ L3.pl Tryz.underlying131 rfl Hs.infoP ?_)
  refine (CB.out _).mono ?_
  rintro e w4 ⟨rfl,b4⟩
  have L4 := L3.below b4
  clear L3 hz3
  go_upto_region 4 with (at_make; refine Hs.wpList_make rfl _ _ rfl (1 + z) 128 rfl rfl (by omega) (by omega) ?_)
  have B5 : Hs.Blk (w4.alloc (.cells (Hs.fn 128 (fun _ => .int .u8 0)) 5)) w4.heap.size 5 128 (fun _ => .int .u8 0) := heap_alloc_new _ _
  have L5 := L4.below ((Below.refl w4.heap.size w4).alloc (Nat.le_refl _) (.cells (Hs.fn 128 (fun _ => .int .u8 0)) 5))
  have hq5 := L4.z
  obtain ⟨b,hb⟩ : ∃ b,w4.heap.size = b := ⟨_,rfl⟩
  have hbs : b + 1 ≤ (w4.alloc (.cells (Hs.fn 128 (fun _ => .int .u8 0)) 5)).heap.size := by simp [hb]
  rw [hb] at B5 hq5 ⊢
  clear hb L4 b4
  generalize w4.alloc (.cells (Hs.fn 128 (fun _ => .int .u8 0)) 5) = w5 at B5 L5 hbs ⊢
  have c0 := B5.cell (j := 0) (by omega)
  have f0 := B5.frozen 0
  have i0 : (0 : Int) < ((1 + z : Nat) : Int) := by omega
  go_upto_region 6 with fail
  have own5 := Hs.own_of_blk (B := w.heap.size + 1) (l := 128 :: List.replicate z 0) (B5.set 0 (.int .u8 128)) (by omega) (by simp; omega) (by decide) (fun j x hj => by
    rcases j with _ | j
    · simp at hj; subst hj; rfl
    · simp [List.getElem?_replicate] at hj
      rw [← hj.2]; rfl)
  have L6 := L5.above (Hs.set_above b 0 (.int .u8 128) (by omega) : Below (w.heap.size + 1) w5 (w5.setCell ⟨b,0,none⟩ (.int .u8 128)))
  simp only [List.length_cons,List.length_replicate] at own5
  rw [Nat.add_comm z 1] at own5
  clear L5 B5 c0 f0
  generalize w5.setCell ⟨b,0,none⟩ (.int .u8 128) = w6 at own5 L6 ⊢
  go_loopw [7,8] (fun bv iv wr => ∃ k : Nat,k ≤ 7 ∧ iv = .int .i64 ((7 - k : Nat) : Int) ∧ Tx.Own wr (w.heap.size + 1) bv ((128 :: List.replicate z 0) ++ (List.range k).map (Hs.lb 8 n)) ∧ Hs.PLay Hs.pc0 w wr) (fun _ iv _ => (intOf iv).toNat)
  case atStart => exact ⟨0,by omega,rfl,by simpa using own5,L6⟩
  case round =>
    clear L6 own5
    obtain ⟨k,hk,rfl,hown,hL⟩ := hrel
    obtain ⟨w7,rfl⟩ : ∃ w7,w7 = wr := ⟨_,rfl⟩
    have hz7 := hL.z
    by_cases hlt : k < 7
    · obtain ⟨i,hi⟩ : ∃ i,7 - k = i := ⟨_,rfl⟩
      rw [hi]
      have i1 : 0 < (i : Int) := by omega
      have s2 : 8 * (i : Int) - 3 = ((8 * i - 3 : Nat) : Int) := by omega
      obtain ⟨t,ht⟩ : ∃ t,8 * i - 3 = t := ⟨_,rfl⟩
      rw [ht] at s2
      have s3 : 0 ≤ (t : Int) := by omega
      obtain ⟨c,hc⟩ : ∃ c,Hs.lb 8 n k = c := ⟨_,rfl⟩
      have s4 : (n : Int) / 2 ^ t % 256 = (c.toNat : Int) := by
        rw [← hc,Hs.lb_at 8 n k i t (by omega) (by omega) (by omega)]; simp
      have s4b : (n : Int) / 2 ^ min t 64 % 256 = (c.toNat : Int) := by
        rw [← s4,Hs.min_shift n t (by omega)]
      have hsn : (128 :: List.replicate z 0) ++ (List.range (k + 1)).map (Hs.lb 8 n) = ((128 :: List.replicate z 0) ++ (List.range k).map (Hs.lb 8 n)) ++ [c] := by rw [← hc,Hs.tell_snoc,List.append_assoc]
      have HSN := Lib.hid hsn
      have HLH := Lib.hid (show ((128 :: List.replicate z 0) ++ (List.range k).map (Hs.lb 8 n)).length + [c].length ≤ 140737488355328 by simp; omega)
      obtain ⟨l,hl⟩ : ∃ l,(128 :: List.replicate z 0) ++ (List.range k).map (Hs.lb 8 n) = l := ⟨_,rfl⟩
      rw [hl] at HSN HLH hown
      clear hc hsn ht hl
      go_wp2_with (at_builtin; refine Tx.append rfl _ _ rfl (w.heap.size + 1) _ l rfl (hown.alloc _) ⟨w7.heap.size,0,none⟩ 1 [c] rfl (World.news_of_block (heap_alloc_new w7 _)) HLH.out (by simp; omega) ?_; intro v1 w8 own8 b8 z8)
      have hL8 := (hL.below ((Below.refl _ _).alloc (Nat.le_refl _) _)).above b8
      rw [← HSN.out] at own8
      refine ⟨⟨k + 1,by omega,by rw [show ((7 - (k + 1) : Nat) : Int) = (i : Int) - 1 by omega],own8,hL8⟩,?_⟩
      simp only [intOf]
      omega
    · obtain rfl : k = 7 := by omega
      have i1 : ¬ (0 : Int) < ((7 - 7 : Nat) : Int) := by omega
      obtain ⟨c,hc⟩ : ∃ c,Hs.lb 8 n 7 = c := ⟨_,rfl⟩
      have s4 : (n : Int) * 8 % 256 = (c.toNat : Int) := by rw [← hc,Hs.lb_last 8 n 7 rfl]
      have hsn : Hs.pad 0 n = ((128 :: List.replicate z 0) ++ (List.range 7).map (Hs.lb 8 n)) ++ [c] := by
        rw [← hc,List.append_assoc,← Hs.tell_snoc,Hs.pad_lb,HZ.out.1,show 2 * (Hs.K 0).wb = 7 + 1 from rfl]
        rfl
      have HSN := Lib.hid hsn
      have HLH := Lib.hid (show ((128 :: List.replicate z 0) ++ (List.range 7).map (Hs.lb 8 n)).length + [c].length ≤ 140737488355328 by simp; omega)
      obtain ⟨l,hl⟩ : ∃ l,(128 :: List.replicate z 0) ++ (List.range 7).map (Hs.lb 8 n) = l := ⟨_,rfl⟩
      rw [hl] at HSN HLH hown
      clear hc hsn hl
      go_wp2_with (at_builtin; refine Tx.append rfl _ _ rfl (w.heap.size + 1) _ l rfl (hown.alloc _) ⟨w7.heap.size,0,none⟩ 1 [c] rfl (World.news_of_block (heap_alloc_new w7 _)) HLH.out (by simp; omega) ?_; intro v1 w8 own8 b8 z8; have hcv := own8.conv; rw [← HSN.out] at hcv)
      have hL8 := (hL.below ((Below.refl _ _).alloc (Nat.le_refl _) _)).above b8
      have hb := hL8.b
      go_ret
      exact ⟨rfl,hb⟩
set_option maxHeartbeats 4000000 in
set_option maxRecDepth 100000 in
theorem Hs.padding1 (w : World) (n : Nat) (hn : n ≤ 1152921504606846975) :
    Calls Tryz.prog 85 #[.int .i64 (n : Int),.agg Hs.pc1] w fun e w' => e = .returned (.string (Tx.ba (Hs.pad 1 n))) ∧ Below w.heap.size w w' := by
  have CB := Lib.hid Hs.block1
  obtain ⟨z,hz⟩ : ∃ z,Hs.noughts 1 n = z := ⟨_,rfl⟩
  have hzv : z = 128 - 1 - (n + 16) % 128 := by rw [← hz]; rfl
  have hzb : z ≤ 127 := by omega
  have e1 : IntKind.i64.wrap ((n : Int) + 16) = ((n + 16 : Nat) : Int) := by rw [IntWalk.i64_in _ (by omega)]; omega
  have e2 : Int.tmod ((n + 16 : Nat) : Int) 128 = (((n + 16) % 128 : Nat) : Int) := by rw [Int.tmod_eq_emod_of_nonneg (by omega)]; omega
  have e3 : IntKind.i64.wrap (127 - (((n + 16) % 128 : Nat) : Int)) = (z : Int) := by rw [IntWalk.i64_in _ (by omega)]; omega
  have e4 : IntKind.i64.wrap (1 + (z : Int)) = ((1 + z : Nat) : Int) := by rw [IntWalk.i64_in _ (by omega)]; omega
  obtain ⟨r,hr⟩ : ∃ r,(n + 16) % 128 = r := ⟨_,rfl⟩
  obtain ⟨m,hm⟩ : ∃ m,n + 16 = m := ⟨_,rfl⟩
  rw [hr] at e2 e3
  rw [hm] at e1 e2
  have e3w : wrap64 (127 - (r : Int)) = (z : Int) := by rw [← e3]; exact (IntWalk.i64_left _).symm
  have HZ := Lib.hid (And.intro hz hzv)
  clear hz hzv hr hm
  go_enter Tryz.func85,Tryz.ntmps85
  have bA : Below w.heap.size w (w.alloc (.cells Hs.pc1 131)) := (Below.refl _ _).alloc (Nat.le_refl _) _
  have L0 : Hs.PLay Hs.pc1 w (w.alloc (.cells Hs.pc1 131)) := ⟨heap_alloc_new _ _,bA⟩
  have p0 := L0.pcell 0 (.int .i64 8) rfl
  go_upto_region 2 with fail
  clear bA p0
  generalize w.alloc (.cells Hs.pc1 131) = w1 at L0 ⊢
  refine wp_region_held_drew (S := fun W => W.heap[w.heap.size]? = some (.cells Hs.pc1 131 (0,0))) (by kernel_rfl) ((L0.below (below_drewN (Below.refl _ _) 1)).pl) (fun hHeld0 => ?_)
  have L1 := L0.below (below_drewN (Below.refl _ _) 1)
  clear L0
  refine wpAnyH_take (i := 0) (oi := ⟨_,_,_,_,_,_⟩) rfl (by kernel_rfl) (by kernel_rfl) (by kernel_rfl) (fun _ _ _ h => h) (Hs.takeP1 (by rfl) _ rfl _ rfl (fun W hW => hW)) (by assumption) ?restg2_1
  try simp only [Act.put,List.setIfInBounds_toArray,List.set_cons_zero,List.set_cons_succ]
  refine wpAnyH_take (i := 3) (oi := ⟨_,_,_,_,_,_⟩) (v := ?vg2_2) rfl (by kernel_rfl) (by kernel_rfl) (by kernel_rfl) (fun _ _ _ h => h) (Or.inl ⟨by rfl,?hyg2_2⟩) (by assumption) ?restg2_2
  case hyg2_2 => (intro W hW; go_simp; try with_reducible rfl)
  try simp only [Act.put,List.setIfInBounds_toArray,List.set_cons_zero,List.set_cons_succ]
  refine wpAnyH_take (i := 4) (oi := ⟨_,_,_,_,_,_⟩) (v := ?vg2_3) rfl (by kernel_rfl) (by kernel_rfl) (by kernel_rfl) (fun _ _ _ h => h) (Or.inl ⟨by rfl,?hyg2_3⟩) (by assumption) ?restg2_3
  case hyg2_3 => (intro W hW; go_simp; try with_reducible rfl)
  try simp only [Act.put,List.setIfInBounds_toArray,List.set_cons_zero,List.set_cons_succ]
  refine wpAnyH_take (i := 5) (oi := ⟨_,_,_,_,_,_⟩) (v := ?vg2_4) rfl (by kernel_rfl) (by kernel_rfl) (by kernel_rfl) (fun _ _ _ h => h) (Or.inl ⟨by rfl,?hyg2_4⟩) (by assumption) ?restg2_4
  case hyg2_4 => (intro W hW; go_simp; try with_reducible rfl)
  try simp only [Act.put,List.setIfInBounds_toArray,List.set_cons_zero,List.set_cons_succ]
  refine wpAnyH_take (i := 6) (oi := ⟨_,_,_,_,_,_⟩) rfl (by kernel_rfl) (by kernel_rfl) (by kernel_rfl) (fun _ _ _ h => h) (Hs.takeP1 (by rfl) _ rfl _ rfl (fun W hW => hW)) (by assumption) ?restg2_5
  try simp only [Act.put,List.setIfInBounds_toArray,List.set_cons_zero,List.set_cons_succ]
  refine wpAnyH_ready (rs := [1]) (by kernel_rfl) (by simp) ?_
  refine AllReadyH.cons (o := ⟨_,_,_,_,_,_⟩) rfl (fun K hK => ?_) AllReadyH.nil
  go_simp
  refine Calls.mono (CB.out _) ?_
  rintro e2 w2 ⟨rfl,b2⟩
  have L2 := L1.below b2
  clear L1
  go_wp2_with fail
  refine hK.out _ _ (L2.pl) (fun hHeld1 => ?_)
  clear hK K hHeld0
  try simp only [Act.put,List.setIfInBounds_toArray,List.set_cons_zero,List.set_cons_succ]
  refine wpAnyH_take (i := 2) (oi := ⟨_,_,_,_,_,_⟩) (v := ?vg2_6) rfl (by kernel_rfl) (by kernel_rfl) (by kernel_rfl) (fun _ _ _ h => h) (Or.inl ⟨by rfl,?hyg2_6⟩) (by assumption) ?restg2_6
  case hyg2_6 => (intro W hW; go_simp; try with_reducible rfl)
  try simp only [Act.put,List.setIfInBounds_toArray,List.set_cons_zero,List.set_cons_succ]
  refine wpAnyH_ready (rs := [7]) (by kernel_rfl) (by simp) ?_
  refine AllReadyH.cons (o := ⟨_,_,_,_,_,_⟩) rfl (fun K hK => ?_) AllReadyH.nil
  go_simp
  refine Calls.mono (CB.out _) ?_
  rintro e3 w3 ⟨rfl,b3⟩
  have L3 := L2.below b3
  clear L2
  go_wp2_with fail
  refine hK.out _ _ (L3.pl) (fun hHeld2 => ?_)
  clear hK K hHeld1
  try simp only [Act.put,List.setIfInBounds_toArray,List.set_cons_zero,List.set_cons_succ]
  refine wpAnyH_take (i := 8) (oi := ⟨_,_,_,_,_,_⟩) (v := ?vg2_7) rfl (by kernel_rfl) (by kernel_rfl) (by kernel_rfl) (fun _ _ _ h => h) (Or.inl ⟨by rfl,?hyg2_7⟩) (by assumption) ?restg2_7
  case hyg2_7 => (intro W hW; go_simp; try with_reducible rfl)
  try simp only [Act.put,List.setIfInBounds_toArray,List.set_cons_zero,List.set_cons_succ]
  refine wpAnyH_take (i := 9) (oi := ⟨_,_,_,_,_,_⟩) (v := ?vg2_8) rfl (by kernel_rfl) (by kernel_rfl) (by kernel_rfl) (fun _ _ _ h => h) (Or.inl ⟨by rfl,?hyg2_8⟩) (by assumption) ?restg2_8
  case hyg2_8 => (intro W hW; go_simp; try with_reducible rfl)
  try simp only [Act.put,List.setIfInBounds_toArray,List.set_cons_zero,List.set_cons_succ]
  refine wpAnyH_take (i := 10) (oi := ⟨_,_,_,_,_,_⟩) (v := ?vg2_9) rfl (by kernel_rfl) (by kernel_rfl) (by kernel_rfl) (fun _ _ _ h => h) (Or.inl ⟨by rfl,?hyg2_9⟩) (by assumption) ?restg2_9
  case hyg2_9 => (intro W hW; go_simp; try with_reducible rfl)
  try simp only [Act.put,List.setIfInBounds_toArray,List.set_cons_zero,List.set_cons_succ]
  refine wpAnyH_done (by kernel_rfl) ?_ _
  have hz3 := L3.z
  go_wp2_with (refine wpList_load_row rfl 131 (.tmp 3) rfl w.heap.size rfl 131 Hs.pc1 (0,0) _ L3.pl Tryz.underlying131 rfl Hs.infoP ?_)
  refine (CB.out _).mono ?_
  rintro e w4 ⟨rfl,b4⟩
  have L4 := L3.below b4
  clear L3 hz3
  go_upto_region 4 with (at_make; refine Hs.wpList_make rfl _ _ rfl (1 + z) 256 rfl rfl (by omega) (by omega) ?_)
  have B5 : Hs.Blk (w4.alloc (.cells (Hs.fn 256 (fun _ => .int .u8 0)) 5)) w4.heap.size 5 256 (fun _ => .int .u8 0) := heap_alloc_new _ _
  have L5 := L4.below ((Below.refl w4.heap.size w4).alloc (Nat.le_refl _) (.cells (Hs.fn 256 (fun _ => .int .u8 0)) 5))
  have hq5 := L4.z
  obtain ⟨b,hb⟩ : ∃ b,w4.heap.size = b := ⟨_,rfl⟩
  have hbs : b + 1 ≤ (w4.alloc (.cells (Hs.fn 256 (fun _ => .int .u8 0)) 5)).heap.size := by simp [hb]
  rw [hb] at B5 hq5 ⊢
  clear hb L4 b4
  generalize w4.alloc (.cells (Hs.fn 256 (fun _ => .int .u8 0)) 5) = w5 at B5 L5 hbs ⊢
  have c0 := B5.cell (j := 0) (by omega)
  have f0 := B5.frozen 0
  have i0 : (0 : Int) < ((1 + z : Nat) : Int) := by omega
  go_upto_region 6 with fail
  have own5 := Hs.own_of_blk (B := w.heap.size + 1) (l := 128 :: List.replicate z 0) (B5.set 0 (.int .u8 128)) (by omega) (by simp; omega) (by decide) (fun j x hj => by
    rcases j with _ | j
    · simp at hj; subst hj; rfl
    · simp [List.getElem?_replicate] at hj
      rw [← hj.2]; rfl)
  have L6 := L5.above (Hs.set_above b 0 (.int .u8 128) (by omega) : Below (w.heap.size + 1) w5 (w5.setCell ⟨b,0,none⟩ (.int .u8 128)))
  simp only [List.length_cons,List.length_replicate] at own5
  rw [Nat.add_comm z 1] at own5
  clear L5 B5 c0 f0
  generalize w5.setCell ⟨b,0,none⟩ (.int .u8 128) = w6 at own5 L6 ⊢
  go_loopw [7,8] (fun bv iv wr => ∃ k : Nat,k ≤ 15 ∧ iv = .int .i64 ((15 - k : Nat) : Int) ∧ Tx.Own wr (w.heap.size + 1) bv ((128 :: List.replicate z 0) ++ (List.range k).map (Hs.lb 16 n)) ∧ Hs.PLay Hs.pc1 w wr) (fun _ iv _ => (intOf iv).toNat)
  case atStart => exact ⟨0,by omega,rfl,by simpa using own5,L6⟩
  case round =>
    clear L6 own5
    obtain ⟨k,hk,rfl,hown,hL⟩ := hrel
    obtain ⟨w7,rfl⟩ : ∃ w7,w7 = wr := ⟨_,rfl⟩
    have hz7 := hL.z
    by_cases hlt : k < 15
    · obtain ⟨i,hi⟩ : ∃ i,15 - k = i := ⟨_,rfl⟩
      rw [hi]
      have i1 : 0 < (i : Int) := by omega
      have s2 : 8 * (i : Int) - 3 = ((8 * i - 3 : Nat) : Int) := by omega
      obtain ⟨t,ht⟩ : ∃ t,8 * i - 3 = t := ⟨_,rfl⟩
      rw [ht] at s2
      have s3 : 0 ≤ (t : Int) := by omega
      obtain ⟨c,hc⟩ : ∃ c,Hs.lb 16 n k = c := ⟨_,rfl⟩
      have s4 : (n : Int) / 2 ^ t % 256 = (c.toNat : Int) := by
        rw [← hc,Hs.lb_at 16 n k i t (by omega) (by omega) (by omega)]; simp
      have s4b : (n : Int) / 2 ^ min t 64 % 256 = (c.toNat : Int) := by
        rw [← s4,Hs.min_shift n t (by omega)]
      have hsn : (128 :: List.replicate z 0) ++ (List.range (k + 1)).map (Hs.lb 16 n) = ((128 :: List.replicate z 0) ++ (List.range k).map (Hs.lb 16 n)) ++ [c] := by rw [← hc,Hs.tell_snoc,List.append_assoc]
      have HSN := Lib.hid hsn
      have HLH := Lib.hid (show ((128 :: List.replicate z 0) ++ (List.range k).map (Hs.lb 16 n)).length + [c].length ≤ 140737488355328 by simp; omega)
      obtain ⟨l,hl⟩ : ∃ l,(128 :: List.replicate z 0) ++ (List.range k).map (Hs.lb 16 n) = l := ⟨_,rfl⟩
      rw [hl] at HSN HLH hown
      clear hc hsn ht hl
      go_wp2_with (at_builtin; refine Tx.append rfl _ _ rfl (w.heap.size + 1) _ l rfl (hown.alloc _) ⟨w7.heap.size,0,none⟩ 1 [c] rfl (World.news_of_block (heap_alloc_new w7 _)) HLH.out (by simp; omega) ?_; intro v1 w8 own8 b8 z8)
      have hL8 := (hL.below ((Below.refl _ _).alloc (Nat.le_refl _) _)).above b8
      rw [← HSN.out] at own8
      refine ⟨⟨k + 1,by omega,by rw [show ((15 - (k + 1) : Nat) : Int) = (i : Int) - 1 by omega],own8,hL8⟩,?_⟩
      simp only [intOf]
      omega
    · obtain rfl : k = 15 := by omega
      have i1 : ¬ (0 : Int) < ((15 - 15 : Nat) : Int) := by omega
      obtain ⟨c,hc⟩ : ∃ c,Hs.lb 16 n 15 = c := ⟨_,rfl⟩
      have s4 : (n : Int) * 8 % 256 = (c.toNat : Int) := by rw [← hc,Hs.lb_last 16 n 15 rfl]
      have hsn : Hs.pad 1 n = ((128 :: List.replicate z 0) ++ (List.range 15).map (Hs.lb 16 n)) ++ [c] := by
        rw [← hc,List.append_assoc,← Hs.tell_snoc,Hs.pad_lb,HZ.out.1,show 2 * (Hs.K 1).wb = 15 + 1 from rfl]
        rfl
      have HSN := Lib.hid hsn
      have HLH := Lib.hid (show ((128 :: List.replicate z 0) ++ (List.range 15).map (Hs.lb 16 n)).length + [c].length ≤ 140737488355328 by simp; omega)
      obtain ⟨l,hl⟩ : ∃ l,(128 :: List.replicate z 0) ++ (List.range 15).map (Hs.lb 16 n) = l := ⟨_,rfl⟩
      rw [hl] at HSN HLH hown
      clear hc hsn hl
      go_wp2_with (at_builtin; refine Tx.append rfl _ _ rfl (w.heap.size + 1) _ l rfl (hown.alloc _) ⟨w7.heap.size,0,none⟩ 1 [c] rfl (World.news_of_block (heap_alloc_new w7 _)) HLH.out (by simp; omega) ?_; intro v1 w8 own8 b8 z8; have hcv := own8.conv; rw [← HSN.out] at hcv)
      have hL8 := (hL.below ((Below.refl _ _).alloc (Nat.le_refl _) _)).above b8
      have hb := hL8.b
      go_ret
      exact ⟨rfl,hb⟩
end
section
open Go.RowKit

/-- While it is written: the hash, the plan, and what has changed. -/
structure Hs.WIs (pc : Array Value) (w : World) (p κ : Nat) (m : List UInt8) (q : Nat) (wr : World) : Prop where
  is : Hs.Is wr p κ m
  pl : wr.heap[q]? = some (.cells pc 131 (0,0))
  but : Hs.But p w wr
  lo : w.heap.size ≤ q
  hp : p < w.heap.size
structure Hs.WLay (pc : Array Value) (w : World) (p κ : Nat) (v : Hs.V8) (R : Nat → Nat) (L q : Nat) (wr : World) : Prop where
  h : Hs.At wr p κ v R L
  pl : wr.heap[q]? = some (.cells pc 131 (0,0))
  but : Hs.But p w wr
  lo : w.heap.size ≤ q
  hp : p < w.heap.size
theorem Hs.WLay.below {pc : Array Value} {w : World} {p κ : Nat} {v : Hs.V8} {R : Nat → Nat} {L q : Nat} {wr wr' : World} (h : Hs.WLay pc w p κ v R L q wr) (hb : Below wr.heap.size wr wr') : Hs.WLay pc w p κ v R L q wr' :=
  ⟨h.h.below hb h.h.lt,(hb.block q (Array.getElem?_eq_some_iff.1 h.pl).1).trans h.pl,h.but.trans (Hs.But.ofBelow hb (Nat.le_refl _)),h.lo,h.hp⟩
theorem Hs.WLay.ne {pc : Array Value} {w : World} {p κ : Nat} {v : Hs.V8} {R : Nat → Nat} {L q : Nat} {wr : World} (h : Hs.WLay pc w p κ v R L q wr) : q ≠ p := by have := h.lo; have := h.hp; omega
theorem Hs.WLay.rest {pc : Array Value} {w : World} {p κ : Nat} {v : Hs.V8} {R : Nat → Nat} {L q : Nat} {wr : World} (h : Hs.WLay pc w p κ v R L q wr) (l : List UInt8) (a : Nat) (ha : a + l.length ≤ 128) :
    Hs.WLay pc w p κ v (fun j => if a ≤ j ∧ j < a + l.length then (l.getD (j - a) 0).toNat else R j) L q (wr.setCells p (9 + a) (Hs.cellsOf l)) :=
  ⟨h.h.setRest l a ha,((Hs.But.setCells (Hs.cellsOf l) (9 + a) wr).block q (Array.getElem?_eq_some_iff.1 h.pl).1 h.ne).trans h.pl,h.but.trans (Hs.But.setCells _ _ _),h.lo,h.hp⟩
theorem Hs.WLay.len {pc : Array Value} {w : World} {p κ : Nat} {v : Hs.V8} {R : Nat → Nat} {L q : Nat} {wr : World} (h : Hs.WLay pc w p κ v R L q wr) (n : Nat) :
    Hs.WLay pc w p κ v R n q (wr.setCell ⟨p,137,none⟩ (.int .i64 (n : Int))) :=
  ⟨h.h.setLen n,((Hs.But.set wr 137 _).block q (Array.getElem?_eq_some_iff.1 h.pl).1 h.ne).trans h.pl,h.but.trans (Hs.But.set _ _ _),h.lo,h.hp⟩
def Hs.strSize : Value → Nat
  | .string x => x.size
  | _ => 0
theorem Tx.size8 : (Tryz.prog.info? 5).map (·.size) = some 1 := by kernel_rfl
/-- One cell, read in a region that draws. -/
theorem Hs.takeI {ops : Array Oper} {S : World → Prop} {op : Oper} {a : Act} (hw : Region.wanted op (yielded ops a.tmps) = true) (x : Operand) (ho : op.op = .load 3 x)
    (b o : Nat) (hx : a.eval x = .pointer (some ⟨b,o,none⟩)) (v : Int) (hS : ∀ W,S W → W.cell? ⟨b,o,none⟩ = some (.int .i64 v)) : YieldsIf Tryz.prog ops S op (.int .i64 v) a :=
  .inl ⟨hw,fun W hW => by
    have := hS W hW
    unfold execOp
    simp only [ho,hx,Instr.loadAt,Instr.sureAddr,Sem.run_bind,Sem.run_pure,Result.andThen_ok]
    simp [this,go_sem]⟩
theorem Hs.wp_copy {P : Program} {w : World} {o : Oper} {a : Act} {K : Act → World → Prop} {Q : Exit → Act → World → Prop} (d s : Operand) (dT sT : TypeId)
    (ho : o.op = .call { callee := .builtin .copy,args := #[d,s],argTypes := #[dT,sT] }) (elem : TypeId) (hu : P.underlying dT = some (.slice elem)) (hsz : (P.info? elem).map (·.size) = some 1)
    (b off dLen dCap : Nat) (t : ByteArray) (hd : a.eval d = .slice (some ⟨b,off,none⟩) dLen dCap) (hs : a.eval s = .string t) (l : List UInt8) (hl : t.data.toList.take (Nat.min t.size dLen) = l) (hn : l.length = Nat.min t.size dLen)
    (ht : w.there b off l.length) (h : K (a.put o.dst (goInt l.length)) (w.setCells b off (Hs.cellsOf l))) : Oper.wp P o a w K Q := by
  have hrun := Hs.run_copy (P := P) w dT sT o.type elem b off dLen dCap t hu hsz l hl hn ht
  unfold Oper.wp
  simp [execOp,ho,resolve,invoke,builtin,hd,hs,hrun,Result.andThen]
  exact h
theorem Hs.fill (κ : Nat) (m l : List UInt8) (R : Nat → Nat) (hR : ∀ j,j < m.length % Hs.blk κ → R j = (m.getD (m.length / Hs.blk κ * Hs.blk κ + j) 0).toNat) (j : Nat) (hj : j < m.length % Hs.blk κ + l.length) :
    (if m.length % Hs.blk κ ≤ j ∧ j < m.length % Hs.blk κ + l.length then (l.getD (j - m.length % Hs.blk κ) 0).toNat else R j) = ((m ++ l).getD (m.length / Hs.blk κ * Hs.blk κ + j) 0).toNat := by
  have hdm : m.length / Hs.blk κ * Hs.blk κ + m.length % Hs.blk κ = m.length := by rw [Nat.mul_comm]; exact Nat.div_add_mod _ _
  by_cases h : m.length % Hs.blk κ ≤ j
  · rw [if_pos ⟨h,hj⟩]
    simp only [List.getD_eq_getElem?_getD]
    rw [List.getElem?_append_right (by omega)]
    congr 3
    omega
  · rw [if_neg (by omega),hR j (by omega)]
    simp only [List.getD_eq_getElem?_getD]
    rw [List.getElem?_append_left (by omega)]
theorem Hs.mixed {R : Nat → Nat} (hR : ∀ j,R j < 256) {l : List UInt8} {a A : Nat} (j : Nat) : (if a ≤ j ∧ j < A then (l.getD (j - a) 0).toNat else R j) < 256 := by
  split
  · exact UInt8.toNat_lt _
  · exact hR j
theorem Hs.is_part {wr : World} {p κ : Nat} {M l : List UInt8} {X : Nat → Nat} (hκ : κ < 2) (hlen : (M ++ l).length ≤ 1152921504606846975) (hX : ∀ j,X j < 256)
    (hf : ∀ j,j < M.length % Hs.blk κ + l.length → X j = ((M ++ l).getD (M.length / Hs.blk κ * Hs.blk κ + j) 0).toNat) (hlt : M.length % Hs.blk κ + l.length < Hs.blk κ)
    (hAt : Hs.At wr p κ (Hs.after κ M (M.length / Hs.blk κ)) X (M ++ l).length) : Hs.Is wr p κ (M ++ l) := by
  have hdm : M.length / Hs.blk κ * Hs.blk κ + M.length % Hs.blk κ = M.length := by rw [Nat.mul_comm]; exact Nat.div_add_mod _ _
  have e : (M ++ l).length = Hs.blk κ * (M.length / Hs.blk κ) + (M.length % Hs.blk κ + l.length) := by rw [List.length_append,Nat.mul_comm]; omega
  have hd : (M ++ l).length / Hs.blk κ = M.length / Hs.blk κ := by
    rw [e,Nat.mul_add_div (Hs.blk_pos κ),Nat.div_eq_of_lt hlt,Nat.add_zero]
  have hm : (M ++ l).length % Hs.blk κ = M.length % Hs.blk κ + l.length := by rw [e,Nat.mul_add_mod,Nat.mod_eq_of_lt hlt]
  refine ⟨hκ,hlen,X,hX,?_,?_⟩
  · rw [hd,hm]; exact hf
  · rw [hd,Hs.after_append κ M l _ (by omega)]; exact hAt
theorem Hs.is_full {wr : World} {p κ : Nat} {M l : List UInt8} {X : Nat → Nat} (hκ : κ < 2) (hlen : (M ++ l).length ≤ 1152921504606846975) (hX : ∀ j,X j < 256)
    (hf : ∀ j,j < M.length % Hs.blk κ + l.length → X j = ((M ++ l).getD (M.length / Hs.blk κ * Hs.blk κ + j) 0).toNat) (hfull : M.length % Hs.blk κ + l.length = Hs.blk κ)
    (hAt : Hs.At wr p κ (Hs.step (Hs.K κ) (Hs.after κ M (M.length / Hs.blk κ)) X) X (M ++ l).length) : Hs.Is wr p κ (M ++ l) := by
  have hdm : M.length / Hs.blk κ * Hs.blk κ + M.length % Hs.blk κ = M.length := by rw [Nat.mul_comm]; exact Nat.div_add_mod _ _
  have e : (M ++ l).length = Hs.blk κ * (M.length / Hs.blk κ + 1) := by rw [List.length_append,Nat.mul_add,Nat.mul_one,Nat.mul_comm]; omega
  have hd : (M ++ l).length / Hs.blk κ = M.length / Hs.blk κ + 1 := by rw [e,Nat.mul_div_cancel_left _ (Hs.blk_pos κ)]
  have hm : (M ++ l).length % Hs.blk κ = 0 := by rw [e,Nat.mul_mod_right]
  refine ⟨hκ,hlen,X,hX,?_,?_⟩
  · rw [hm]; intro j hj; omega
  · rw [hd,Hs.after,Hs.after_append κ M l _ (by omega),Hs.step_congr κ _ _ X (fun j hj => (hf j (by omega)).symm)]; exact hAt
theorem Hs.WIs.of {pc : Array Value} {w : World} {p κ : Nat} {v : Hs.V8} {R : Nat → Nat} {L q : Nat} {wr wr' : World} {m : List UInt8} (h : Hs.WLay pc w p κ v R L q wr) (hI : Hs.Is wr' p κ m) (hb : Hs.But p wr wr') : Hs.WIs pc w p κ m q wr' :=
  ⟨hI,(hb.block q (Array.getElem?_eq_some_iff.1 h.pl).1 h.ne).trans h.pl,h.but.trans hb,h.lo,h.hp⟩
theorem Hs.ext_list (s : ByteArray) (a b : Nat) : (s.extract a b).data.toList = (s.data.toList.drop a).take (b - a) := by
  simp [ByteArray.data_extract,Array.toList_extract,List.extract]
theorem Hs.grow {m M l : List UInt8} {s x : ByteArray} {k n c : Nat} (hM : m ++ s.data.toList.take k = M) (hx : x.data.toList = s.data.toList.drop k) (hl : x.data.toList.take n = l) (hn : l.length = n) (_ : n ≤ x.size) (hc : l.length = c) :
    M ++ l = m ++ s.data.toList.take (k + c) := by
  rw [← hM,← hl,hx,List.append_assoc,List.take_add,← hc,hn]
theorem Hs.ext_drop {s x : ByteArray} {k : Nat} (hx : x.data.toList = s.data.toList.drop k) (_ : x.size = s.size - k) (c : Nat) (_ : c ≤ x.size) : (x.extract c (s.size - k)).data.toList = s.data.toList.drop (k + c) := by
  rw [Hs.ext_list,hx,List.drop_drop]
  apply List.take_of_length_le
  rw [List.length_drop,Tx.len]; omega
theorem Hs.ext_len {s x : ByteArray} {k : Nat} (hx : x.data.toList = s.data.toList.drop k) (hxs : x.size = s.size - k) (c : Nat) (hc : c ≤ x.size) (_ : k ≤ s.size) : (x.extract c (s.size - k)).size = x.size - c := by
  rw [← Tx.len,Hs.ext_drop hx hxs c hc,List.length_drop,Tx.len]; omega
set_option maxHeartbeats 4000000 in
set_option maxRecDepth 100000 in
theorem Hs.Write0 (w : World) (p : Nat) (m : List UInt8) (s : ByteArray) (h : Hs.Is w p 0 m) (hs : m.length + s.size ≤ 1152921504606846975) :
    Calls Tryz.prog 56 #[.pointer (some ⟨p,0,none⟩),.string s] w fun e w' => e = .returned (.tuple #[]) ∧ Hs.Is w' p 0 (m ++ s.data.toList) ∧ Hs.But p w w' := by
  have CB := Lib.hid Hs.block0
  have CP := Lib.hid Hs.planOf0
  have CS := Lib.hid Hs.step0
  obtain ⟨R0,hR0,hr0,hAt⟩ := h.obj
  have kc := hAt.kind
  have hp := hAt.lt
  have HI := Lib.hid h
  clear h
  go_enter Tryz.func56,Tryz.ntmps56
  go_wp2_with fail
  refine (CP.out w).mono ?_
  rintro e w1 ⟨rfl,b1⟩
  go_wp2_with (refine wpList_store_row rfl 131 (.tmp 4) (.tmp 11) rfl w1.heap.size Hs.pc0 rfl rfl 131 _ (heap_alloc_new w1 _) Hs.infoP (by kernel_rfl) Hs.pcOk0 ?_; rw [World.setRow_alloc_new])
  have bA : Below w1.heap.size w1 (w1.alloc (.cells Hs.pc0 131)) := (Below.refl _ _).alloc (Nat.le_refl _) _
  have b2 := b1.trans (bA.mono b1.size)
  have hpl : (w1.alloc (.cells Hs.pc0 131)).heap[w1.heap.size]? = some (.cells Hs.pc0 131 (0,0)) := heap_alloc_new _ _
  have hq : w.heap.size ≤ w1.heap.size := b1.size
  obtain ⟨q,hqe⟩ : ∃ q,w1.heap.size = q := ⟨_,rfl⟩
  rw [hqe] at hpl hq ⊢
  have hW0 : Hs.WIs Hs.pc0 w p 0 m q (w1.alloc (.cells Hs.pc0 131)) := ⟨⟨by omega,by omega,R0,hR0,hr0,hAt.below b2 hp⟩,hpl,Hs.But.ofBelow b2 (Nat.le_refl _),hq,hp⟩
  clear bA b2 hpl hqe b1 kc hAt hR0 hr0
  generalize w1.alloc (.cells Hs.pc0 131) = w2 at hW0 ⊢
  dsimp only [Act.put]
  go_loopw [1] (fun sv wr => ∃ (k : Nat) (x : ByteArray),k ≤ s.size ∧ sv = .string x ∧ x.data.toList = s.data.toList.drop k ∧ Hs.WIs Hs.pc0 w p 0 (m ++ s.data.toList.take k) q wr) (fun sv _ => Hs.strSize sv)
  case atStart => exact ⟨0,s,Nat.zero_le _,rfl,rfl,by simpa using hW0⟩
  case round =>
    clear hW0
    obtain ⟨k,x,hk,rfl,hx,hL⟩ := hrel
    obtain ⟨w3,rfl⟩ : ∃ w3,w3 = wr := ⟨_,rfl⟩
    have hxs : x.size = s.size - k := by rw [← Tx.len,hx,List.length_drop,Tx.len]
    by_cases hlt : k < s.size
    · have tE : x.toList.isEmpty = false := by
        rw [ByteArray.toList_eq,List.isEmpty_eq_false_iff,← List.length_pos_iff,Tx.len]
        omega
      obtain ⟨⟨_,hm1,R,hR,hr,hAt⟩,hpl,hbut,hlo,hp2⟩ := hL
      have htk : (m ++ s.data.toList.take k).length = m.length + k := by rw [List.length_append,List.length_take,Tx.len]; omega
      obtain ⟨M,hM⟩ : ∃ M,m ++ s.data.toList.take k = M := ⟨_,rfl⟩
      rw [hM] at hm1 hr hAt htk
      obtain ⟨v,hv⟩ : ∃ v,Hs.after 0 M (M.length / Hs.blk 0) = v := ⟨_,rfl⟩
      obtain ⟨a,ha⟩ : ∃ a,M.length % Hs.blk 0 = a := ⟨_,rfl⟩
      rw [hv] at hAt
      have hab : a < 64 := by rw [← ha]; exact Nat.mod_lt _ (by decide)
      have hfl : ∀ l : List UInt8,∀ j,j < a + l.length → (if a ≤ j ∧ j < a + l.length then (l.getD (j - a) 0).toNat else R j) = ((M ++ l).getD (M.length / Hs.blk 0 * Hs.blk 0 + j) 0).toNat := by
        intro l j hj
        rw [← ha] at hj ⊢
        exact Hs.fill 0 M l R hr j hj
      obtain ⟨L,hLn⟩ : ∃ L,M.length = L := ⟨_,rfl⟩
      have hL : Hs.WLay Hs.pc0 w p 0 v R L q w3 := ⟨by rw [← hLn]; exact hAt,hpl,hbut,hlo,hp2⟩
      have e1 : Int.tmod (L : Int) 64 = (a : Int) := by
        rw [Int.tmod_eq_emod_of_nonneg (by omega),← ha,hLn]
        show (L : Int) % 64 = ((L % 64 : Nat) : Int)
        omega
      obtain ⟨l,hl⟩ : ∃ l,x.data.toList.take (Nat.min x.size (64 - a)) = l := ⟨_,rfl⟩
      have hll : l.length = Nat.min x.size (64 - a) := by rw [← hl,List.length_take,Tx.len]; exact Nat.min_eq_left (Nat.min_le_left _ _)
      have hmn : Nat.min x.size (64 - a) = min x.size (64 - a) := rfl
      have HL := Lib.hid (And.intro hl (And.intro hll (show a + l.length ≤ 128 by omega)))
      have hl1 : 1 ≤ l.length := by omega
      have hl2 : l.length ≤ x.size := by omega
      have hl3 : a + l.length ≤ 64 := by omega
      have HM := Lib.hid (And.intro hM (And.intro hv (And.intro ha (And.intro hLn htk))))
      have HF := Lib.hid (And.intro hR (hfl l))
      have hLb : L + l.length ≤ 1152921504606846975 := by omega
      have i1 : 0 ≤ (a : Int) := by omega
      have i2 : (a : Int) ≤ 64 := by omega
      have i3 : ¬ 128 = a := by omega
      clear hM hv ha hLn hl hll hmn hAt hr hR hfl hpl hbut hm1 htk
      go_upto_region 2 with fail
      refine wp_region_held_drew (S := fun W => Hs.WLay Hs.pc0 w p 0 v R L q W) (by kernel_rfl) (hL.below (below_drewN (Below.refl _ _) 1)) (fun hHeld0 => ?_)
      have L1 := hL.below (below_drewN (Below.refl _ _) 1)
      clear hL
      refine wpAnyH_take (i := 0) (oi := ⟨_,_,_,_,_,_⟩) (v := ?vg1_1) rfl (by kernel_rfl) (by kernel_rfl) (by kernel_rfl) (fun _ _ _ h => h) (Or.inl ⟨by rfl,?hyg1_1⟩) (by assumption) ?restg1_1
      case hyg1_1 => (intro W hW; go_simp; try with_reducible rfl)
      try simp only [Act.put,List.setIfInBounds_toArray,List.set_cons_zero,List.set_cons_succ]
      refine wpAnyH_take (i := 1) (oi := ⟨_,_,_,_,_,_⟩) (v := ?vg1_2) rfl (by kernel_rfl) (by kernel_rfl) (by kernel_rfl) (fun _ _ _ h => h) (Or.inl ⟨by rfl,?hyg1_2⟩) (by assumption) ?restg1_2
      case hyg1_2 => (intro W hW; go_simp; try with_reducible rfl)
      try simp only [Act.put,List.setIfInBounds_toArray,List.set_cons_zero,List.set_cons_succ]
      refine wpAnyH_take (i := 2) (oi := ⟨_,_,_,_,_,_⟩) (v := ?vg1_3) rfl (by kernel_rfl) (by kernel_rfl) (by kernel_rfl) (fun _ _ _ h => h) (Or.inl ⟨by rfl,?hyg1_3⟩) (by assumption) ?restg1_3
      case hyg1_3 => (intro W hW; go_simp; try with_reducible rfl)
      try simp only [Act.put,List.setIfInBounds_toArray,List.set_cons_zero,List.set_cons_succ]
      refine wpAnyH_take (i := 4) (oi := ⟨_,_,_,_,_,_⟩) rfl (by kernel_rfl) (by kernel_rfl) (by kernel_rfl) (fun _ _ _ h => h) (Hs.takeP0 (by rfl) _ rfl _ rfl (fun W hW => hW.pl)) (by assumption) ?restg1_4
      try simp only [Act.put,List.setIfInBounds_toArray,List.set_cons_zero,List.set_cons_succ]
      refine wpAnyH_take (i := 3) (oi := ⟨_,_,_,_,_,_⟩) rfl (by kernel_rfl) (by kernel_rfl) (by kernel_rfl) (fun _ _ _ h => h) (Hs.takeI (by rfl) _ rfl p 137 rfl (L : Int) (fun W hW => hW.h.len)) (by assumption) ?restg1_5
      try simp only [Act.put,List.setIfInBounds_toArray,List.set_cons_zero,List.set_cons_succ]
      refine wpAnyH_ready (rs := [5]) (by kernel_rfl) (by simp) ?_
      refine AllReadyH.cons (o := ⟨_,_,_,_,_,_⟩) rfl (fun K hK => ?_) AllReadyH.nil
      go_simp
      refine Calls.mono (CB.out _) ?_
      rintro e2 w2 ⟨rfl,b2⟩
      have L2 := L1.below b2
      clear L1
      go_wp2_with fail
      refine hK.out _ _ (L2) (fun hHeld1 => ?_)
      clear hK K hHeld0
      try simp only [Act.put,List.setIfInBounds_toArray,List.set_cons_zero,List.set_cons_succ]
      refine wpAnyH_take (i := 6) (oi := ⟨_,_,_,_,_,_⟩) (v := ?vg1_6) rfl (by kernel_rfl) (by kernel_rfl) (by kernel_rfl) (fun _ _ _ h => h) (Or.inl ⟨by rfl,?hyg1_6⟩) (by assumption) ?restg1_6
      case hyg1_6 => (intro W hW; go_simp; try with_reducible rfl)
      try simp only [Act.put,List.setIfInBounds_toArray,List.set_cons_zero,List.set_cons_succ]
      refine wpAnyH_take (i := 7) (oi := ⟨_,_,_,_,_,_⟩) (v := ?vg1_7) rfl (by kernel_rfl) (by kernel_rfl) (by kernel_rfl) (fun _ _ _ h => h) (Or.inl ⟨by rfl,?hyg1_7⟩) (by assumption) ?restg1_7
      case hyg1_7 => (intro W hW; go_simp; try with_reducible rfl)
      try simp only [Act.put,List.setIfInBounds_toArray,List.set_cons_zero,List.set_cons_succ]
      refine wpAnyH_done (by kernel_rfl) ?_ _
      go_upto_region 3 with fail
      refine wp_region_held_drew (S := fun W => ∃ X,Hs.WLay Hs.pc0 w p 0 v X L q W) (by kernel_rfl) (⟨R,L2.below (below_drewN (Below.refl _ _) 1)⟩) (fun hHeld0 => ?_)
      have L3 := L2.below (below_drewN (Below.refl _ _) 1)
      clear L2
      refine wpAnyH_take (i := 0) (oi := ⟨_,_,_,_,_,_⟩) (v := ?vg2_1) rfl (by kernel_rfl) (by kernel_rfl) (by kernel_rfl) (fun _ _ _ h => h) (Or.inl ⟨by rfl,?hyg2_1⟩) (by assumption) ?restg2_1
      case hyg2_1 => (intro W hW; go_simp; try with_reducible rfl)
      try simp only [Act.put,List.setIfInBounds_toArray,List.set_cons_zero,List.set_cons_succ]
      refine wpAnyH_take (i := 1) (oi := ⟨_,_,_,_,_,_⟩) (v := ?vg2_2) rfl (by kernel_rfl) (by kernel_rfl) (by kernel_rfl) (fun _ _ _ h => h) (Or.inl ⟨by rfl,?hyg2_2⟩) (by assumption) ?restg2_2
      case hyg2_2 => (intro W hW; go_simp; try with_reducible rfl)
      try simp only [Act.put,List.setIfInBounds_toArray,List.set_cons_zero,List.set_cons_succ]
      refine wpAnyH_take (i := 2) (oi := ⟨_,_,_,_,_,_⟩) (v := ?vg2_3) rfl (by kernel_rfl) (by kernel_rfl) (by kernel_rfl) (fun _ _ _ h => h) (Or.inl ⟨by rfl,?hyg2_3⟩) (by assumption) ?restg2_3
      case hyg2_3 => (intro W hW; go_simp; try with_reducible rfl)
      try simp only [Act.put,List.setIfInBounds_toArray,List.set_cons_zero,List.set_cons_succ]
      refine wpAnyH_take (i := 3) (oi := ⟨_,_,_,_,_,_⟩) (v := ?vg2_4) rfl (by kernel_rfl) (by kernel_rfl) (by kernel_rfl) (fun _ _ _ h => h) (Or.inl ⟨by rfl,?hyg2_4⟩) (by assumption) ?restg2_4
      case hyg2_4 => (intro W hW; go_simp; try with_reducible rfl)
      try simp only [Act.put,List.setIfInBounds_toArray,List.set_cons_zero,List.set_cons_succ]
      refine wpAnyH_take (i := 7) (oi := ⟨_,_,_,_,_,_⟩) (v := ?vg2_5) rfl (by kernel_rfl) (by kernel_rfl) (by kernel_rfl) (fun _ _ _ h => h) (Or.inl ⟨by rfl,?hyg2_5⟩) (by assumption) ?restg2_5
      case hyg2_5 => (intro W hW; go_simp; try with_reducible rfl)
      try simp only [Act.put,List.setIfInBounds_toArray,List.set_cons_zero,List.set_cons_succ]
      refine wpAnyH_take (i := 4) (oi := ⟨_,_,_,_,_,_⟩) rfl (by kernel_rfl) (by kernel_rfl) (by kernel_rfl) (fun _ _ _ h => h) (Hs.takeP0 (by rfl) _ rfl _ rfl (fun W hW => hW.elim fun _ hX => hX.pl)) (by assumption) ?restg2_6
      try simp only [Act.put,List.setIfInBounds_toArray,List.set_cons_zero,List.set_cons_succ]
      refine wpAnyH_ready (rs := [5]) (by kernel_rfl) (by simp) ?_
      refine AllReadyH.cons (o := ⟨_,_,_,_,_,_⟩) rfl (fun K hK => ?_) AllReadyH.nil
      go_simp
      refine Calls.mono (CB.out _) ?_
      rintro e4 w4 ⟨rfl,b4⟩
      have L4 := L3.below b4
      clear L3
      go_wp2_with fail
      refine hK.out _ _ (⟨R,L4⟩) (fun hHeld1 => ?_)
      clear hK K hHeld0
      try simp only [Act.put,List.setIfInBounds_toArray,List.set_cons_zero,List.set_cons_succ]
      refine wpAnyH_take (i := 6) (oi := ⟨_,_,_,_,_,_⟩) (v := ?vg2_7) rfl (by kernel_rfl) (by kernel_rfl) (by kernel_rfl) (fun _ _ _ h => h) (Or.inl ⟨by rfl,?hyg2_7⟩) (by assumption) ?restg2_7
      case hyg2_7 => (intro W hW; go_simp; try with_reducible rfl)
      try simp only [Act.put,List.setIfInBounds_toArray,List.set_cons_zero,List.set_cons_succ]
      refine wpAnyH_ready (rs := [8]) (by kernel_rfl) (by simp) ?_
      refine AllReadyH.cons (o := ⟨_,_,_,_,_,_⟩) rfl (fun K hK => ?_) AllReadyH.nil
      rw [if_pos (by rfl)]
      refine Hs.wp_copy _ _ _ _ rfl 5 Tryz.underlying36 Tx.size8 p (9 + a) _ _ x rfl rfl l HL.out.1 HL.out.2.1 (Hs.Blk.there L4.h (9 + a) l.length (by have := HL.out.2.2; omega)) ?_
      refine hK.out _ _ (⟨_,L4.rest l a (by have := HL.out.2.2; omega)⟩) (fun hHeld2 => ?_)
      clear hK K hHeld1
      try simp only [Act.put,List.setIfInBounds_toArray,List.set_cons_zero,List.set_cons_succ]
      refine wpAnyH_take (i := 9) (oi := ⟨_,_,_,_,_,_⟩) (v := ?vg2_8) rfl (by kernel_rfl) (by kernel_rfl) (by kernel_rfl) (fun _ _ _ h => h) (Or.inl ⟨by rfl,?hyg2_8⟩) (by assumption) ?restg2_8
      case hyg2_8 => (intro W hW; go_simp; try with_reducible rfl)
      try simp only [Act.put,List.setIfInBounds_toArray,List.set_cons_zero,List.set_cons_succ]
      refine wpAnyH_done (by kernel_rfl) ?_ _
      have L5 := L4.rest l a (by have := HL.out.2.2; omega)
      clear L4
      generalize w4.setCells p (9 + a) (Hs.cellsOf l) = w5 at L5 ⊢
      have cl := L5.h.len
      have fl := Hs.Blk.frozen L5.h 137
      obtain ⟨c,hc⟩ : ∃ c,l.length = c := ⟨_,rfl⟩
      rw [hc] at hl1 hl2 hl3 hLb L5 ⊢
      obtain ⟨N,hN⟩ : ∃ N,L + c = N := ⟨_,rfl⟩
      obtain ⟨A,hA⟩ : ∃ A,a + c = A := ⟨_,rfl⟩
      have e2 : IntKind.i64.wrap ((L : Int) + (c : Int)) = (N : Int) := by rw [IntWalk.i64_in _ (by omega)]; omega
      have e2w : (L : Int) + (c : Int) = (N : Int) := by omega
      have e3 : IntKind.i64.wrap ((a : Int) + (c : Int)) = (A : Int) := by rw [IntWalk.i64_in _ (by omega)]; omega
      have e3w : (a : Int) + (c : Int) = (A : Int) := by omega
      have HN := Lib.hid (And.intro hN (And.intro hA hc))
      rw [hA] at L5
      have hAb : A ≤ 64 := by omega
      clear hN hA hc e1
      have j1 : 0 ≤ (c : Int) := by omega
      have j2 : (c : Int) ≤ (x.size : Int) := by omega
      go_upto_region 6 with fail
      have L6 := L5.len N
      clear L5 cl fl
      generalize w5.setCell ⟨p,137,none⟩ (.int .i64 (N : Int)) = w6 at L6 ⊢
      go_wp2_with (refine wpList_load_row rfl 131 (.tmp 4) rfl q rfl 131 Hs.pc0 (0,0) _ L6.pl Tryz.underlying131 rfl Hs.infoP ?_)
      refine (CB.out _).mono ?_
      rintro e w7 ⟨rfl,b7⟩
      have L7 := L6.below b7
      clear L6
      by_cases hf : A = 64
      · have t1 : ((A : Int) == 64) = true := by rw [hf]; rfl
        go_wp2_with (refine wpList_load_row rfl 131 (.tmp 4) rfl q rfl 131 Hs.pc0 (0,0) _ L7.pl Tryz.underlying131 rfl Hs.infoP ?_)
        refine (CS.out _ _ _ _ _ L7.h (fun j => Hs.mixed HF.out.1 j) (by rw [← HM.out.2.1]; exact Hs.after_lt 0 _ _)).mono ?_
        rintro e w8 ⟨rfl,h8,b8⟩
        have hI : Hs.Is w8 p 0 (M ++ l) := by
          obtain ⟨hM,hv,ha,hLn,htk⟩ := HM.out
          obtain ⟨hN,hA,hc⟩ := HN.out
          have hlen : (M ++ l).length = N := by rw [List.length_append,hLn,hc,hN]
          refine Hs.is_full (by decide) (by omega) (fun j => Hs.mixed HF.out.1 j) ?_ (by rw [ha,hc,hA,hf]; rfl) (by rw [hv,hlen]; exact h8)
          intro j hj
          rw [ha] at hj
          have := HF.out.2 j hj
          rw [hc,hA] at this
          exact this
        have hW := Hs.WIs.of L7 hI b8
        rw [Hs.grow HM.out.1 hx HL.out.1 HL.out.2.1 (Nat.min_le_left _ _) HN.out.2.2] at hW
        go_wp2_with fail
        refine ⟨⟨k + c,_,by omega,rfl,Hs.ext_drop hx hxs c hl2,hW⟩,?_⟩
        have := Hs.ext_len hx hxs c hl2 (by omega)
        simp [Hs.strSize] at this ⊢
        omega
      · have t1 : ((A : Int) == 64) = false := by rw [beq_eq_false_iff_ne]; omega
        go_wp2_with fail
        have hI : Hs.Is w7 p 0 (M ++ l) := by
          obtain ⟨hM,hv,ha,hLn,htk⟩ := HM.out
          obtain ⟨hN,hA,hc⟩ := HN.out
          have hlen : (M ++ l).length = N := by rw [List.length_append,hLn,hc,hN]
          refine Hs.is_part (by decide) (by omega) (fun j => Hs.mixed HF.out.1 j) ?_ (by rw [ha,hc,hA]; exact Nat.lt_of_le_of_ne hAb hf) (by rw [hv,hlen]; exact L7.h)
          intro j hj
          rw [ha] at hj
          have := HF.out.2 j hj
          rw [hc,hA] at this
          exact this
        have hW := Hs.WIs.of L7 hI (Hs.But.refl _ _)
        rw [Hs.grow HM.out.1 hx HL.out.1 HL.out.2.1 (Nat.min_le_left _ _) HN.out.2.2] at hW
        refine ⟨⟨k + c,_,by omega,rfl,Hs.ext_drop hx hxs c hl2,hW⟩,?_⟩
        have := Hs.ext_len hx hxs c hl2 (by omega)
        simp [Hs.strSize] at this ⊢
        omega
    · have tE : x.toList.isEmpty = true := by
        rw [ByteArray.toList_eq,List.isEmpty_iff,← List.length_eq_zero_iff,Tx.len]
        omega
      obtain rfl : k = s.size := by omega
      rw [Tx.take_all] at hL
      go_wp2_with fail
      go_end0
      exact ⟨rfl,hL.is,hL.but⟩
set_option maxHeartbeats 4000000 in
set_option maxRecDepth 100000 in
theorem Hs.Write1 (w : World) (p : Nat) (m : List UInt8) (s : ByteArray) (h : Hs.Is w p 1 m) (hs : m.length + s.size ≤ 1152921504606846975) :
    Calls Tryz.prog 56 #[.pointer (some ⟨p,0,none⟩),.string s] w fun e w' => e = .returned (.tuple #[]) ∧ Hs.Is w' p 1 (m ++ s.data.toList) ∧ Hs.But p w w' := by
  have CB := Lib.hid Hs.block1
  have CP := Lib.hid Hs.planOf1
  have CS := Lib.hid Hs.step1
  obtain ⟨R0,hR0,hr0,hAt⟩ := h.obj
  have kc := hAt.kind
  have hp := hAt.lt
  have HI := Lib.hid h
  clear h
  go_enter Tryz.func56,Tryz.ntmps56
  go_wp2_with fail
  refine (CP.out w).mono ?_
  rintro e w1 ⟨rfl,b1⟩
  go_wp2_with (refine wpList_store_row rfl 131 (.tmp 4) (.tmp 11) rfl w1.heap.size Hs.pc1 rfl rfl 131 _ (heap_alloc_new w1 _) Hs.infoP (by kernel_rfl) Hs.pcOk1 ?_; rw [World.setRow_alloc_new])
  have bA : Below w1.heap.size w1 (w1.alloc (.cells Hs.pc1 131)) := (Below.refl _ _).alloc (Nat.le_refl _) _
  have b2 := b1.trans (bA.mono b1.size)
  have hpl : (w1.alloc (.cells Hs.pc1 131)).heap[w1.heap.size]? = some (.cells Hs.pc1 131 (0,0)) := heap_alloc_new _ _
  have hq : w.heap.size ≤ w1.heap.size := b1.size
  obtain ⟨q,hqe⟩ : ∃ q,w1.heap.size = q := ⟨_,rfl⟩
  rw [hqe] at hpl hq ⊢
  have hW0 : Hs.WIs Hs.pc1 w p 1 m q (w1.alloc (.cells Hs.pc1 131)) := ⟨⟨by omega,by omega,R0,hR0,hr0,hAt.below b2 hp⟩,hpl,Hs.But.ofBelow b2 (Nat.le_refl _),hq,hp⟩
  clear bA b2 hpl hqe b1 kc hAt hR0 hr0
  generalize w1.alloc (.cells Hs.pc1 131) = w2 at hW0 ⊢
  dsimp only [Act.put]
  go_loopw [1] (fun sv wr => ∃ (k : Nat) (x : ByteArray),k ≤ s.size ∧ sv = .string x ∧ x.data.toList = s.data.toList.drop k ∧ Hs.WIs Hs.pc1 w p 1 (m ++ s.data.toList.take k) q wr) (fun sv _ => Hs.strSize sv)
  case atStart => exact ⟨0,s,Nat.zero_le _,rfl,rfl,by simpa using hW0⟩
  case round =>
    clear hW0
    obtain ⟨k,x,hk,rfl,hx,hL⟩ := hrel
    obtain ⟨w3,rfl⟩ : ∃ w3,w3 = wr := ⟨_,rfl⟩
    have hxs : x.size = s.size - k := by rw [← Tx.len,hx,List.length_drop,Tx.len]
    by_cases hlt : k < s.size
    · have tE : x.toList.isEmpty = false := by
        rw [ByteArray.toList_eq,List.isEmpty_eq_false_iff,← List.length_pos_iff,Tx.len]
        omega
      obtain ⟨⟨_,hm1,R,hR,hr,hAt⟩,hpl,hbut,hlo,hp2⟩ := hL
      have htk : (m ++ s.data.toList.take k).length = m.length + k := by rw [List.length_append,List.length_take,Tx.len]; omega
      obtain ⟨M,hM⟩ : ∃ M,m ++ s.data.toList.take k = M := ⟨_,rfl⟩
      rw [hM] at hm1 hr hAt htk
      obtain ⟨v,hv⟩ : ∃ v,Hs.after 1 M (M.length / Hs.blk 1) = v := ⟨_,rfl⟩
      obtain ⟨a,ha⟩ : ∃ a,M.length % Hs.blk 1 = a := ⟨_,rfl⟩
      rw [hv] at hAt
      have hab : a < 128 := by rw [← ha]; exact Nat.mod_lt _ (by decide)
      have hfl : ∀ l : List UInt8,∀ j,j < a + l.length → (if a ≤ j ∧ j < a + l.length then (l.getD (j - a) 0).toNat else R j) = ((M ++ l).getD (M.length / Hs.blk 1 * Hs.blk 1 + j) 0).toNat := by
        intro l j hj
        rw [← ha] at hj ⊢
        exact Hs.fill 1 M l R hr j hj
      obtain ⟨L,hLn⟩ : ∃ L,M.length = L := ⟨_,rfl⟩
      have hL : Hs.WLay Hs.pc1 w p 1 v R L q w3 := ⟨by rw [← hLn]; exact hAt,hpl,hbut,hlo,hp2⟩
      have e1 : Int.tmod (L : Int) 128 = (a : Int) := by
        rw [Int.tmod_eq_emod_of_nonneg (by omega),← ha,hLn]
        show (L : Int) % 128 = ((L % 128 : Nat) : Int)
        omega
      obtain ⟨l,hl⟩ : ∃ l,x.data.toList.take (Nat.min x.size (128 - a)) = l := ⟨_,rfl⟩
      have hll : l.length = Nat.min x.size (128 - a) := by rw [← hl,List.length_take,Tx.len]; exact Nat.min_eq_left (Nat.min_le_left _ _)
      have hmn : Nat.min x.size (128 - a) = min x.size (128 - a) := rfl
      have HL := Lib.hid (And.intro hl (And.intro hll (show a + l.length ≤ 128 by omega)))
      have hl1 : 1 ≤ l.length := by omega
      have hl2 : l.length ≤ x.size := by omega
      have hl3 : a + l.length ≤ 128 := by omega
      have HM := Lib.hid (And.intro hM (And.intro hv (And.intro ha (And.intro hLn htk))))
      have HF := Lib.hid (And.intro hR (hfl l))
      have hLb : L + l.length ≤ 1152921504606846975 := by omega
      have i1 : 0 ≤ (a : Int) := by omega
      have i2 : (a : Int) ≤ 128 := by omega
      have i3 : ¬ 128 = a := by omega
      clear hM hv ha hLn hl hll hmn hAt hr hR hfl hpl hbut hm1 htk
      go_upto_region 2 with fail
      refine wp_region_held_drew (S := fun W => Hs.WLay Hs.pc1 w p 1 v R L q W) (by kernel_rfl) (hL.below (below_drewN (Below.refl _ _) 1)) (fun hHeld0 => ?_)
      have L1 := hL.below (below_drewN (Below.refl _ _) 1)
      clear hL
      refine wpAnyH_take (i := 0) (oi := ⟨_,_,_,_,_,_⟩) (v := ?vg3_1) rfl (by kernel_rfl) (by kernel_rfl) (by kernel_rfl) (fun _ _ _ h => h) (Or.inl ⟨by rfl,?hyg3_1⟩) (by assumption) ?restg3_1
      case hyg3_1 => (intro W hW; go_simp; try with_reducible rfl)
      try simp only [Act.put,List.setIfInBounds_toArray,List.set_cons_zero,List.set_cons_succ]
      refine wpAnyH_take (i := 1) (oi := ⟨_,_,_,_,_,_⟩) (v := ?vg3_2) rfl (by kernel_rfl) (by kernel_rfl) (by kernel_rfl) (fun _ _ _ h => h) (Or.inl ⟨by rfl,?hyg3_2⟩) (by assumption) ?restg3_2
      case hyg3_2 => (intro W hW; go_simp; try with_reducible rfl)
      try simp only [Act.put,List.setIfInBounds_toArray,List.set_cons_zero,List.set_cons_succ]
      refine wpAnyH_take (i := 2) (oi := ⟨_,_,_,_,_,_⟩) (v := ?vg3_3) rfl (by kernel_rfl) (by kernel_rfl) (by kernel_rfl) (fun _ _ _ h => h) (Or.inl ⟨by rfl,?hyg3_3⟩) (by assumption) ?restg3_3
      case hyg3_3 => (intro W hW; go_simp; try with_reducible rfl)
      try simp only [Act.put,List.setIfInBounds_toArray,List.set_cons_zero,List.set_cons_succ]
      refine wpAnyH_take (i := 4) (oi := ⟨_,_,_,_,_,_⟩) rfl (by kernel_rfl) (by kernel_rfl) (by kernel_rfl) (fun _ _ _ h => h) (Hs.takeP1 (by rfl) _ rfl _ rfl (fun W hW => hW.pl)) (by assumption) ?restg3_4
      try simp only [Act.put,List.setIfInBounds_toArray,List.set_cons_zero,List.set_cons_succ]
      refine wpAnyH_take (i := 3) (oi := ⟨_,_,_,_,_,_⟩) rfl (by kernel_rfl) (by kernel_rfl) (by kernel_rfl) (fun _ _ _ h => h) (Hs.takeI (by rfl) _ rfl p 137 rfl (L : Int) (fun W hW => hW.h.len)) (by assumption) ?restg3_5
      try simp only [Act.put,List.setIfInBounds_toArray,List.set_cons_zero,List.set_cons_succ]
      refine wpAnyH_ready (rs := [5]) (by kernel_rfl) (by simp) ?_
      refine AllReadyH.cons (o := ⟨_,_,_,_,_,_⟩) rfl (fun K hK => ?_) AllReadyH.nil
      go_simp
      refine Calls.mono (CB.out _) ?_
      rintro e2 w2 ⟨rfl,b2⟩
      have L2 := L1.below b2
      clear L1
      go_wp2_with fail
      refine hK.out _ _ (L2) (fun hHeld1 => ?_)
      clear hK K hHeld0
      try simp only [Act.put,List.setIfInBounds_toArray,List.set_cons_zero,List.set_cons_succ]
      refine wpAnyH_take (i := 6) (oi := ⟨_,_,_,_,_,_⟩) (v := ?vg3_6) rfl (by kernel_rfl) (by kernel_rfl) (by kernel_rfl) (fun _ _ _ h => h) (Or.inl ⟨by rfl,?hyg3_6⟩) (by assumption) ?restg3_6
      case hyg3_6 => (intro W hW; go_simp; try with_reducible rfl)
      try simp only [Act.put,List.setIfInBounds_toArray,List.set_cons_zero,List.set_cons_succ]
      refine wpAnyH_take (i := 7) (oi := ⟨_,_,_,_,_,_⟩) (v := ?vg3_7) rfl (by kernel_rfl) (by kernel_rfl) (by kernel_rfl) (fun _ _ _ h => h) (Or.inl ⟨by rfl,?hyg3_7⟩) (by assumption) ?restg3_7
      case hyg3_7 => (intro W hW; go_simp; try with_reducible rfl)
      try simp only [Act.put,List.setIfInBounds_toArray,List.set_cons_zero,List.set_cons_succ]
      refine wpAnyH_done (by kernel_rfl) ?_ _
      go_upto_region 3 with fail
      refine wp_region_held_drew (S := fun W => ∃ X,Hs.WLay Hs.pc1 w p 1 v X L q W) (by kernel_rfl) (⟨R,L2.below (below_drewN (Below.refl _ _) 1)⟩) (fun hHeld0 => ?_)
      have L3 := L2.below (below_drewN (Below.refl _ _) 1)
      clear L2
      refine wpAnyH_take (i := 0) (oi := ⟨_,_,_,_,_,_⟩) (v := ?vg4_1) rfl (by kernel_rfl) (by kernel_rfl) (by kernel_rfl) (fun _ _ _ h => h) (Or.inl ⟨by rfl,?hyg4_1⟩) (by assumption) ?restg4_1
      case hyg4_1 => (intro W hW; go_simp; try with_reducible rfl)
      try simp only [Act.put,List.setIfInBounds_toArray,List.set_cons_zero,List.set_cons_succ]
      refine wpAnyH_take (i := 1) (oi := ⟨_,_,_,_,_,_⟩) (v := ?vg4_2) rfl (by kernel_rfl) (by kernel_rfl) (by kernel_rfl) (fun _ _ _ h => h) (Or.inl ⟨by rfl,?hyg4_2⟩) (by assumption) ?restg4_2
      case hyg4_2 => (intro W hW; go_simp; try with_reducible rfl)
      try simp only [Act.put,List.setIfInBounds_toArray,List.set_cons_zero,List.set_cons_succ]
      refine wpAnyH_take (i := 2) (oi := ⟨_,_,_,_,_,_⟩) (v := ?vg4_3) rfl (by kernel_rfl) (by kernel_rfl) (by kernel_rfl) (fun _ _ _ h => h) (Or.inl ⟨by rfl,?hyg4_3⟩) (by assumption) ?restg4_3
      case hyg4_3 => (intro W hW; go_simp; try with_reducible rfl)
      try simp only [Act.put,List.setIfInBounds_toArray,List.set_cons_zero,List.set_cons_succ]
      refine wpAnyH_take (i := 3) (oi := ⟨_,_,_,_,_,_⟩) (v := ?vg4_4) rfl (by kernel_rfl) (by kernel_rfl) (by kernel_rfl) (fun _ _ _ h => h) (Or.inl ⟨by rfl,?hyg4_4⟩) (by assumption) ?restg4_4
      case hyg4_4 => (intro W hW; go_simp; try with_reducible rfl)
      try simp only [Act.put,List.setIfInBounds_toArray,List.set_cons_zero,List.set_cons_succ]
      refine wpAnyH_take (i := 7) (oi := ⟨_,_,_,_,_,_⟩) (v := ?vg4_5) rfl (by kernel_rfl) (by kernel_rfl) (by kernel_rfl) (fun _ _ _ h => h) (Or.inl ⟨by rfl,?hyg4_5⟩) (by assumption) ?restg4_5
      case hyg4_5 => (intro W hW; go_simp; try with_reducible rfl)
      try simp only [Act.put,List.setIfInBounds_toArray,List.set_cons_zero,List.set_cons_succ]
      refine wpAnyH_take (i := 4) (oi := ⟨_,_,_,_,_,_⟩) rfl (by kernel_rfl) (by kernel_rfl) (by kernel_rfl) (fun _ _ _ h => h) (Hs.takeP1 (by rfl) _ rfl _ rfl (fun W hW => hW.elim fun _ hX => hX.pl)) (by assumption) ?restg4_6
      try simp only [Act.put,List.setIfInBounds_toArray,List.set_cons_zero,List.set_cons_succ]
      refine wpAnyH_ready (rs := [5]) (by kernel_rfl) (by simp) ?_
      refine AllReadyH.cons (o := ⟨_,_,_,_,_,_⟩) rfl (fun K hK => ?_) AllReadyH.nil
      go_simp
      refine Calls.mono (CB.out _) ?_
      rintro e4 w4 ⟨rfl,b4⟩
      have L4 := L3.below b4
      clear L3
      go_wp2_with fail
      refine hK.out _ _ (⟨R,L4⟩) (fun hHeld1 => ?_)
      clear hK K hHeld0
      try simp only [Act.put,List.setIfInBounds_toArray,List.set_cons_zero,List.set_cons_succ]
      refine wpAnyH_take (i := 6) (oi := ⟨_,_,_,_,_,_⟩) (v := ?vg4_7) rfl (by kernel_rfl) (by kernel_rfl) (by kernel_rfl) (fun _ _ _ h => h) (Or.inl ⟨by rfl,?hyg4_7⟩) (by assumption) ?restg4_7
      case hyg4_7 => (intro W hW; go_simp; try with_reducible rfl)
      try simp only [Act.put,List.setIfInBounds_toArray,List.set_cons_zero,List.set_cons_succ]
      refine wpAnyH_ready (rs := [8]) (by kernel_rfl) (by simp) ?_
      refine AllReadyH.cons (o := ⟨_,_,_,_,_,_⟩) rfl (fun K hK => ?_) AllReadyH.nil
      rw [if_pos (by rfl)]
      refine Hs.wp_copy _ _ _ _ rfl 5 Tryz.underlying36 Tx.size8 p (9 + a) _ _ x rfl rfl l HL.out.1 HL.out.2.1 (Hs.Blk.there L4.h (9 + a) l.length (by have := HL.out.2.2; omega)) ?_
      refine hK.out _ _ (⟨_,L4.rest l a (by have := HL.out.2.2; omega)⟩) (fun hHeld2 => ?_)
      clear hK K hHeld1
      try simp only [Act.put,List.setIfInBounds_toArray,List.set_cons_zero,List.set_cons_succ]
      refine wpAnyH_take (i := 9) (oi := ⟨_,_,_,_,_,_⟩) (v := ?vg4_8) rfl (by kernel_rfl) (by kernel_rfl) (by kernel_rfl) (fun _ _ _ h => h) (Or.inl ⟨by rfl,?hyg4_8⟩) (by assumption) ?restg4_8
      case hyg4_8 => (intro W hW; go_simp; try with_reducible rfl)
      try simp only [Act.put,List.setIfInBounds_toArray,List.set_cons_zero,List.set_cons_succ]
      refine wpAnyH_done (by kernel_rfl) ?_ _
      have L5 := L4.rest l a (by have := HL.out.2.2; omega)
      clear L4
      generalize w4.setCells p (9 + a) (Hs.cellsOf l) = w5 at L5 ⊢
      have cl := L5.h.len
      have fl := Hs.Blk.frozen L5.h 137
      obtain ⟨c,hc⟩ : ∃ c,l.length = c := ⟨_,rfl⟩
      rw [hc] at hl1 hl2 hl3 hLb L5 ⊢
      obtain ⟨N,hN⟩ : ∃ N,L + c = N := ⟨_,rfl⟩
      obtain ⟨A,hA⟩ : ∃ A,a + c = A := ⟨_,rfl⟩
      have e2 : IntKind.i64.wrap ((L : Int) + (c : Int)) = (N : Int) := by rw [IntWalk.i64_in _ (by omega)]; omega
      have e2w : (L : Int) + (c : Int) = (N : Int) := by omega
      have e3 : IntKind.i64.wrap ((a : Int) + (c : Int)) = (A : Int) := by rw [IntWalk.i64_in _ (by omega)]; omega
      have e3w : (a : Int) + (c : Int) = (A : Int) := by omega
      have HN := Lib.hid (And.intro hN (And.intro hA hc))
      rw [hA] at L5
      have hAb : A ≤ 128 := by omega
      clear hN hA hc e1
      have j1 : 0 ≤ (c : Int) := by omega
      have j2 : (c : Int) ≤ (x.size : Int) := by omega
      go_upto_region 6 with fail
      have L6 := L5.len N
      clear L5 cl fl
      generalize w5.setCell ⟨p,137,none⟩ (.int .i64 (N : Int)) = w6 at L6 ⊢
      go_wp2_with (refine wpList_load_row rfl 131 (.tmp 4) rfl q rfl 131 Hs.pc1 (0,0) _ L6.pl Tryz.underlying131 rfl Hs.infoP ?_)
      refine (CB.out _).mono ?_
      rintro e w7 ⟨rfl,b7⟩
      have L7 := L6.below b7
      clear L6
      by_cases hf : A = 128
      · have t1 : ((A : Int) == 128) = true := by rw [hf]; rfl
        go_wp2_with (refine wpList_load_row rfl 131 (.tmp 4) rfl q rfl 131 Hs.pc1 (0,0) _ L7.pl Tryz.underlying131 rfl Hs.infoP ?_)
        refine (CS.out _ _ _ _ _ L7.h (fun j => Hs.mixed HF.out.1 j) (by rw [← HM.out.2.1]; exact Hs.after_lt 1 _ _)).mono ?_
        rintro e w8 ⟨rfl,h8,b8⟩
        have hI : Hs.Is w8 p 1 (M ++ l) := by
          obtain ⟨hM,hv,ha,hLn,htk⟩ := HM.out
          obtain ⟨hN,hA,hc⟩ := HN.out
          have hlen : (M ++ l).length = N := by rw [List.length_append,hLn,hc,hN]
          refine Hs.is_full (by decide) (by omega) (fun j => Hs.mixed HF.out.1 j) ?_ (by rw [ha,hc,hA,hf]; rfl) (by rw [hv,hlen]; exact h8)
          intro j hj
          rw [ha] at hj
          have := HF.out.2 j hj
          rw [hc,hA] at this
          exact this
        have hW := Hs.WIs.of L7 hI b8
        rw [Hs.grow HM.out.1 hx HL.out.1 HL.out.2.1 (Nat.min_le_left _ _) HN.out.2.2] at hW
        go_wp2_with fail
        refine ⟨⟨k + c,_,by omega,rfl,Hs.ext_drop hx hxs c hl2,hW⟩,?_⟩
        have := Hs.ext_len hx hxs c hl2 (by omega)
        simp [Hs.strSize] at this ⊢
        omega
      · have t1 : ((A : Int) == 128) = false := by rw [beq_eq_false_iff_ne]; omega
        go_wp2_with fail
        have hI : Hs.Is w7 p 1 (M ++ l) := by
          obtain ⟨hM,hv,ha,hLn,htk⟩ := HM.out
          obtain ⟨hN,hA,hc⟩ := HN.out
          have hlen : (M ++ l).length = N := by rw [List.length_append,hLn,hc,hN]
          refine Hs.is_part (by decide) (by omega) (fun j => Hs.mixed HF.out.1 j) ?_ (by rw [ha,hc,hA]; exact Nat.lt_of_le_of_ne hAb hf) (by rw [hv,hlen]; exact L7.h)
          intro j hj
          rw [ha] at hj
          have := HF.out.2 j hj
          rw [hc,hA] at this
          exact this
        have hW := Hs.WIs.of L7 hI (Hs.But.refl _ _)
        rw [Hs.grow HM.out.1 hx HL.out.1 HL.out.2.1 (Nat.min_le_left _ _) HN.out.2.2] at hW
        refine ⟨⟨k + c,_,by omega,rfl,Hs.ext_drop hx hxs c hl2,hW⟩,?_⟩
        have := Hs.ext_len hx hxs c hl2 (by omega)
        simp [Hs.strSize] at this ⊢
        omega
    · have tE : x.toList.isEmpty = true := by
        rw [ByteArray.toList_eq,List.isEmpty_iff,← List.length_eq_zero_iff,Tx.len]
        omega
      obtain rfl : k = s.size := by omega
      rw [Tx.take_all] at hL
      go_wp2_with fail
      go_end0
      exact ⟨rfl,hL.is,hL.but⟩
end
end Go.Proofs.YthlecdggkolgmaaGreatDoor
