/- fixed(). -/
import Derived.Test.YthlecdggkolgmaaGreatDoorRsH
import Derived.Deep.RegionWith
import Derived.Deep.MidRow
import Derived.Deep.WholeRow
import Derived.Deep.RegionHeld3
import Derived.Test.YthlecdggkolgmaaGreatDoorReg
namespace Go.Proofs.YthlecdggkolgmaaGreatDoor
open Go.RowKit
/-- n bytes 0. -/
def Rs.zs (n : Nat) : ByteArray := Tx.ba (List.replicate n 0)
theorem Rs.zs_size (n : Nat) : (Rs.zs n).size = n := by
  show (List.replicate n (0 : UInt8)).length = n
  simp
theorem Rs.conv_zs (w : World) (n : Nat) (hn : n ≤ 10000000) : (convert 36 9 (.slice (some ⟨w.heap.size,0,none⟩) n n)).run Tryz.prog (w.alloc (.cells (List.replicate n (Value.int .u8 0)).toArray 5)) = .ok (.string (Rs.zs n)) (w.alloc (.cells (List.replicate n (Value.int .u8 0)).toArray 5)) := by
  refine Tx.Own.conv (B := w.heap.size) (l := List.replicate n 0) ?_
  have hl : (List.replicate n (0 : UInt8)).length = n := by simp
  unfold Tx.Own
  rw [hl]
  exact ⟨by simp,.inr ⟨w.heap.size,n,_,rfl,Nat.le_refl _,heap_alloc_new _ _,Nat.le_refl _,by unfold maxLen; omega,by simp,by simp [Tx.bv]⟩⟩
theorem Rs.wp_make8 {op : Oper} {a : Act} {w : World} {K : Act → World → Prop} {Q : Exit → Act → World → Prop} (l c : Operand) (ho : op.op = .makeSlice 36 l c) (C : Nat)
    (hl : a.eval l = .int .i64 (C : Int)) (hc : a.eval c = .int .i64 (C : Int)) (hC : C ≤ 10000000)
    (h : K (a.put op.dst (.slice (some ⟨w.heap.size,0,none⟩) C C)) (w.alloc (.cells (List.replicate C (Value.int .u8 0)).toArray 5))) : op.wp Tryz.prog a w K Q := by
  obtain ⟨i0,hi,hz0,hz1,hz2⟩ := info_parts Tx.info8
  have hr := run_make (P := Tryz.prog) w 36 5 i0 (.int .u8 0) Tryz.underlying36 hi hz0 .i64 .i64 (C : Int) (C : Int) (by omega) (by omega) (by rw [hz2]; omega) (by omega)
  rw [hz1] at hr
  simp only [Int.toNat_natCast] at hr
  rw [Rs.made8] at hr
  unfold Oper.wp
  simp [execOp,ho,hl,hc,hr,Result.andThen]
  exact h
theorem Rs.wp_conv {op : Oper} {a : Act} {w : World} {K : Act → World → Prop} {Q : Exit → Act → World → Prop} (x : Operand) (t u : TypeId) (ho : op.op = .convert t u x) (v : Value) (s : ByteArray) (hx : a.eval x = v) (hr : (convert t u v).run Tryz.prog w = .ok (.string s) w)
    (h : K (a.put op.dst (.string s)) w) : op.wp Tryz.prog a w K Q := by
  unfold Oper.wp
  simp [execOp,ho,hx,hr,Result.andThen]
  exact h
/-- What holds of the world while fixed() asks of the known key. -/
structure Rs.FixS (w : World) (p : Nat) (W : World) : Prop where
  ok : Rs.Ok W
  c0 : W.cell? ⟨p,0,none⟩ = some (.string Rs.kb00)
  c1 : W.cell? ⟨p,1,none⟩ = some (.string Rs.kb01)
  bel : Below w.heap.size w W
  row : W.heap[p]? = some (.cells #[.string Rs.kb00,.string Rs.kb01] 25 (0,0))
theorem Rs.FixS.below {w W W' : World} {p : Nat} (h : Rs.FixS w p W) (hb : Below W.heap.size W W') : Rs.FixS w p W' :=
  ⟨h.ok.below hb,(hb.cell (p := ⟨p,0,none⟩) (World.block_lt_of_cell? W _ h.c0)).trans h.c0,(hb.cell (p := ⟨p,1,none⟩) (World.block_lt_of_cell? W _ h.c1)).trans h.c1,h.bel.trans (hb.mono h.bel.size),(hb.block _ (Array.getElem?_eq_some_iff.1 h.row).1).trans h.row⟩
theorem Rs.block12 (S : List UInt8) : (Tx.ba ([0,1] ++ Rs.ff 8 ++ Rs.head ++ S)).extract 0 12 = ⟨#[0,1,255,255,255,255,255,255,255,255,0,48]⟩ := by
  apply Tx.ba_ext
  rw [Hs.ext_list]
  rfl
theorem Rs.block30 (S : List UInt8) (h : S.length = 32) : (Tx.ba ([0,1] ++ Rs.ff 8 ++ Rs.head ++ S)).extract 30 62 = Tx.ba S := by
  apply Tx.ba_ext
  rw [Hs.ext_list]
  show S.take 32 = S
  exact List.take_of_length_le (by omega)
theorem Rs.mask3 (L : List UInt8) : (Tx.ba (Hs.sum 0 (L ++ [0,0,0,0]))).extract 0 3 = Tx.ba ((Rs.maskL L 17).take 3) := by
  apply Tx.ba_ext
  rw [Hs.ext_list,Rs.maskL_take L 1 3 (by decide) 17 (by decide)]
  rfl
theorem Rs.good0 : ¬ Rs.bad Rs.kb00 Rs.kb01 := by decide +kernel
theorem Rs.bad0 : Rs.bad ⟨#[15]⟩ ⟨#[3]⟩ := by decide +kernel
theorem Rs.field0 (W : World) : (Instr.field 42 (.agg Rs.pair0) 0).run Tryz.prog W = .ok (.agg #[.string Rs.kb00,.string Rs.kb01]) W := by kernel_rfl
set_option maxHeartbeats 4000000 in
set_option maxRecDepth 100000 in
theorem Rs.fixed_any (w : World) (ok : Rs.Ok w) : Calls Tryz.prog 7 #[] w fun e w' => e = .returned (.bool true) ∧ Below w.heap.size w w' := by
  have hb1 := fun W => Rs.Block_ok W ⟨#[97,98,99]⟩ 62 (by decide) (by decide) (by decide)
  have hb2 := fun W hW => Rs.Block_no W hW ⟨#[97,98,99]⟩ 61 (.inl (by decide))
  have hm1 := fun W => Rs.Mask_ok W ⟨#[102,111,111]⟩ 3 (by decide) (by decide)
  have hm2 := fun W => Rs.Mask_no W ⟨#[]⟩ (-1) (.inl (by decide))
  have hs1 := fun W => Hs.Sum256_any ⟨#[102,111,111,0,0,0,0]⟩ (by decide) W
  have hs2 := fun W => Hs.Sum256_any ⟨#[97,98,99]⟩ (by decide) W
  obtain ⟨b,hb⟩ : ∃ b,Rs.block ⟨#[97,98,99]⟩ 62 = b := ⟨_,rfl⟩
  obtain ⟨m,hm⟩ : ∃ m,Rs.mask ⟨#[102,111,111]⟩ 3 = m := ⟨_,rfl⟩
  obtain ⟨x,hx⟩ : ∃ x,Tx.ba (Hs.sum 0 (⟨#[102,111,111,0,0,0,0]⟩ : ByteArray).data.toList) = x := ⟨_,rfl⟩
  obtain ⟨y,hy⟩ : ∃ y,Tx.ba (Hs.sum 0 (⟨#[97,98,99]⟩ : ByteArray).data.toList) = y := ⟨_,rfl⟩
  rw [hb] at hb1
  rw [hm] at hm1
  rw [hx] at hs1
  rw [hy] at hs2
  have HB := Lib.hid (And.intro hb1 hb2)
  have HM := Lib.hid (And.intro hm1 hm2)
  have HS := Lib.hid (And.intro hs1 hs2)
  have HE := Lib.hid (And.intro hb (And.intro hm (And.intro hx hy)))
  clear hb1 hb2 hm1 hm2 hs1 hs2 hb hm hx hy
  have H0 := Lib.hid (And.intro ok (And.intro (Below.refl w.heap.size w) True.intro))
  clear ok
  go_enter Tryz.func7,Tryz.ntmps7
  go_wp2_with fail
  go_at_call 14
  refine Calls.mono (HB.out.1 _) ?_
  rintro e1 w1 ⟨rfl,hb⟩
  have H1 := Lib.hid (And.intro (H0.out.1.below hb) (And.intro (H0.out.2.1.trans (hb.mono H0.out.2.1.size)) True.intro))
  clear hb
  go_wp2_with fail
  go_at_call 14
  refine Calls.mono (HB.out.2 _ H1.out.1) ?_
  rintro e2 w2 ⟨rfl,hb⟩
  have H2 := Lib.hid (And.intro (H1.out.1.below hb) (And.intro (H1.out.2.1.trans (hb.mono H1.out.2.1.size)) True.intro))
  clear hb
  go_wp2_with fail
  go_at_call 15
  refine Calls.mono (HM.out.1 _) ?_
  rintro e3 w3 ⟨rfl,hb⟩
  have H3 := Lib.hid (And.intro (H2.out.1.below hb) (And.intro (H2.out.2.1.trans (hb.mono H2.out.2.1.size)) True.intro))
  clear hb
  go_wp2_with fail
  go_at_call 15
  refine Calls.mono (HM.out.2 _) ?_
  rintro e4 w4 ⟨rfl,hb⟩
  have H4 := Lib.hid (And.intro (H3.out.1.below hb) (And.intro (H3.out.2.1.trans (hb.mono H3.out.2.1.size)) True.intro))
  clear hb
  go_wp2_with fail
  go_at_call 16
  refine Calls.mono (HS.out.1 _) ?_
  rintro e5 w5 ⟨rfl,hb⟩
  have H5 := Lib.hid (And.intro (H4.out.1.below hb) (And.intro (H4.out.2.1.trans (hb.mono H4.out.2.1.size)) True.intro))
  clear hb
  go_wp2_with fail
  go_at_call 17
  refine Calls.mono (Rs.Known0 w5) ?_
  rintro e6 w6 ⟨rfl,hb⟩
  have H6 := Lib.hid (And.intro (H5.out.1.below hb) (And.intro (H5.out.2.1.trans (hb.mono H5.out.2.1.size)) True.intro))
  clear hb
  have hf := Rs.field0
  go_wp2_with fail
  have S0 : Rs.FixS w w6.heap.size (w6.alloc (Obj.cells #[.string Rs.kb00,.string Rs.kb01] 25)) := ⟨H6.out.1.below ((Below.refl _ _).alloc (Nat.le_refl _) _),by simp,by simp,H6.out.2.1.trans (((Below.refl w6.heap.size w6).alloc (Nat.le_refl _) _).mono H6.out.2.1.size),heap_alloc_new _ _⟩
  revert S0
  generalize w6.alloc (Obj.cells #[.string Rs.kb00,.string Rs.kb01] 25) = w7
  generalize w6.heap.size = p
  intro S0
  clear hf
  refine wp_region_held_drew (S := fun W => Rs.FixS w p W) (by kernel_rfl) (S0.below (below_drewN (Below.refl _ _) 1)) (fun hHeld0 => ?_)
  clear S0
  refine wpAnyH_take (i := 0) (oi := ⟨_,_,_,_,_,_⟩) (v := .agg #[.string Rs.kb00,.string Rs.kb01]) rfl (by kernel_rfl) (by kernel_rfl) (by kernel_rfl) (fun _ _ _ h => h) (Or.inl ⟨by rfl,fun W hW => (by have c0 := hW.c0; have c1 := hW.c1; go_simp)⟩) (by assumption) ?rest0
  try simp only [Act.put,List.setIfInBounds_toArray,List.set_cons_zero,List.set_cons_succ]
  refine wpAnyH_ready (rs := [1]) (by kernel_rfl) (by simp) ?_
  refine AllReadyH.cons (o := ⟨_,_,_,_,_,_⟩) rfl (fun K hK => ?_) AllReadyH.nil
  rw [if_pos (by rfl)]
  refine Rs.wp_make8 _ _ rfl 63 rfl rfl (by decide) ?_
  refine hK.out _ _ (hHeld0.below ((Below.refl _ _).alloc (Nat.le_refl _) _)) (fun hHeld1 => ?_)
  clear hK K hHeld0
  try simp only [Act.put,List.setIfInBounds_toArray,List.set_cons_zero,List.set_cons_succ]
  refine wpAnyH_ready (rs := [2]) (by kernel_rfl) (by simp) ?_
  refine AllReadyH.cons (o := ⟨_,_,_,_,_,_⟩) rfl (fun K hK => ?_) AllReadyH.nil
  rw [if_pos (by rfl)]
  refine Rs.wp_conv _ _ _ rfl _ _ rfl (Rs.conv_zs _ 63 (by decide)) ?_
  refine hK.out _ _ (hHeld1) (fun hHeld2 => ?_)
  clear hK K hHeld1
  try simp only [Act.put,List.setIfInBounds_toArray,List.set_cons_zero,List.set_cons_succ]
  refine wpAnyH_ready (rs := [3]) (by kernel_rfl) (by simp) ?_
  refine AllReadyH.cons (o := ⟨_,_,_,_,_,_⟩) rfl (fun K hK => ?_) AllReadyH.nil
  go_simp
  refine Calls.mono (Rs.Open_size _ hHeld2.ok Rs.kb00 Rs.kb01 (Rs.zs 63) (by decide) (by decide) Rs.good0 (by rw [Rs.zs_size]; decide)) ?_
  rintro r w8 ⟨rfl,b8⟩
  have S3 := hHeld2.below b8
  go_wp2_with fail
  refine hK.out _ _ (S3) (fun hHeld3 => ?_)
  clear hK K hHeld2
  try simp only [Act.put,List.setIfInBounds_toArray,List.set_cons_zero,List.set_cons_succ]
  refine wpAnyH_take (i := 4) (oi := ⟨_,_,_,_,_,_⟩) (v := ?vg1_1) rfl (by kernel_rfl) (by kernel_rfl) (by kernel_rfl) (fun _ _ _ h => h) (Or.inl ⟨by rfl,?hyg1_1⟩) (by assumption) ?restg1_1
  case hyg1_1 => (intro W hW; go_simp; try with_reducible rfl)
  try simp only [Act.put,List.setIfInBounds_toArray,List.set_cons_zero,List.set_cons_succ]
  refine wpAnyH_take (i := 5) (oi := ⟨_,_,_,_,_,_⟩) (v := ?vg1_2) rfl (by kernel_rfl) (by kernel_rfl) (by kernel_rfl) (fun _ _ _ h => h) (Or.inl ⟨by rfl,?hyg1_2⟩) (by assumption) ?restg1_2
  case hyg1_2 => (intro W hW; go_simp; try with_reducible rfl)
  try simp only [Act.put,List.setIfInBounds_toArray,List.set_cons_zero,List.set_cons_succ]
  refine wpAnyH_take (i := 6) (oi := ⟨_,_,_,_,_,_⟩) (v := ?vg1_3) rfl (by kernel_rfl) (by kernel_rfl) (by kernel_rfl) (fun _ _ _ h => h) (Or.inl ⟨by rfl,?hyg1_3⟩) (by assumption) ?restg1_3
  case hyg1_3 => (intro W hW; go_simp; try with_reducible rfl)
  try simp only [Act.put,List.setIfInBounds_toArray,List.set_cons_zero,List.set_cons_succ]
  refine wpAnyH_take (i := 7) (oi := ⟨_,_,_,_,_,_⟩) (v := ?vg1_4) rfl (by kernel_rfl) (by kernel_rfl) (by kernel_rfl) (fun _ _ _ h => h) (Or.inl ⟨by rfl,?hyg1_4⟩) (by assumption) ?restg1_4
  case hyg1_4 => (intro W hW; go_simp; try with_reducible rfl)
  try simp only [Act.put,List.setIfInBounds_toArray,List.set_cons_zero,List.set_cons_succ]
  refine wpAnyH_take (i := 8) (oi := ⟨_,_,_,_,_,_⟩) (v := ?vg1_5) rfl (by kernel_rfl) (by kernel_rfl) (by kernel_rfl) (fun _ _ _ h => h) (Or.inl ⟨by rfl,?hyg1_5⟩) (by assumption) ?restg1_5
  case hyg1_5 => (intro W hW; go_simp; try with_reducible rfl)
  try simp only [Act.put,List.setIfInBounds_toArray,List.set_cons_zero,List.set_cons_succ]
  refine wpAnyH_done (by kernel_rfl) ?_ _
  clear hHeld3
  have z1 : b.size = 62 := by rw [← HE.out.1]; exact Rs.block_size _ 62 (by decide)
  have z2 : x.size = 32 := by rw [← HE.out.2.2.1]; exact Rs.sum_len _
  have z1z : (b.size : Int) = 62 := by rw [z1]; rfl
  have z2z : (x.size : Int) = 32 := by rw [z2]; rfl
  have e1 : b.extract 0 12 = ⟨#[0,1,255,255,255,255,255,255,255,255,0,48]⟩ := by rw [← HE.out.1]; exact Rs.block12 _
  have e2 : b.extract 30 62 = y := by rw [← HE.out.1,← HE.out.2.2.2]; exact Rs.block30 _ (Rs.sum_len _)
  have e3 : x.extract 0 3 = m := by rw [← HE.out.2.2.1,← HE.out.2.1]; exact Rs.mask3 [102,111,111]
  have HK := Lib.hid (fun p2 => (Rs.Check_any (Rg.w w8 p2) (S3.ok.below (Rg.below w8 p2)) Rs.kb00 Rs.kb01 (by decide) (by decide)))
  rw [if_neg Rs.good0] at HK
  have HN := Lib.hid (fun p2 => (Rs.Check_any (Rg.w w8 p2) (S3.ok.below (Rg.below w8 p2)) ⟨#[15]⟩ ⟨#[3]⟩ (by decide) (by decide)))
  rw [if_pos Rs.bad0] at HN
  unfold Rs.key at HK HN
  have hrow := S3.row
  have HF := Lib.hid S3.bel
  have hsz : (Tryz.prog.info? 25).map (·.size) = some 2 := by kernel_rfl
  clear S3 b8
  go_upto_region 8 with fail
  refine Rg.quiet (by kernel_rfl) (by kernel_rfl) ?_
  repeat (first | (go_big_quiet_want; refine Rg.load_row _ 25 rfl p rfl 25 #[.string Rs.kb00,.string Rs.kb01] (0,0) _ hrow Tryz.underlying25 rfl hsz _ (by simp only [Act.put,List.setIfInBounds_toArray,List.set_cons_zero,List.set_cons_succ]; exact rfl) ?_; go_big_quiet_on) | go_big_quiet_step ((first | (go_at_call 16; with_reducible exact Rg.call (HS.out.2 _)) | (go_at_call 19; first | with_reducible exact Rg.call (HK.out _) | with_reducible exact Rg.call (HN.out _)))))
  refine wpQuiet_nil ?_
  intro w' hw'
  obtain ⟨p2,rfl⟩ := hw'
  have hBp := Rg.below w8 p2
  generalize Rg.w w8 p2 = w11 at hBp ⊢
  go_wp2_with fail
  go_ret
  exact ⟨rfl,HF.out.trans (hBp.mono HF.out.size)⟩
end Go.Proofs.YthlecdggkolgmaaGreatDoor
