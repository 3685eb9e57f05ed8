/- A block is summed into a hash: step. -/
import Derived.Test.YthlecdggkolgmaaGreatDoorHsQ
import Derived.Test.YthlecdggkolgmaaGreatDoorHsH
import Derived.StillTailTactics
namespace Go.Proofs.YthlecdggkolgmaaGreatDoor
section
open Go.RowKit

/-- next, of a state and a block in memory. -/
theorem Hs.nextV0 (w : World) (bb off cap : Nat) (B : Nat → Nat) (hB : ∀ j,B j < 256) (hbb : bb < w.heap.size) (hcap : 64 ≤ cap) (hcm : cap ≤ 9223372036854775807) (hc : ∀ j,j < 64 → w.cell? ⟨bb,off + j,none⟩ = some (.int .u8 (B j : Int))) (v : Hs.V8) (hv : v.lt 32) :
    Calls Tryz.prog 101 #[.agg (Hs.row .u64 8 v.get),.slice (some ⟨bb,off,none⟩) 64 cap,.agg Hs.pc0] w fun e w' => e = .returned (.agg (Hs.row .u64 8 (Hs.step Hs.k0 v B).get)) ∧ Below w.heap.size w w' := by
  have hwl : (Hs.words Hs.k0 B).length = 64 := Hs.words_length Hs.k0 B (by decide)
  have hrl : Hs.rk.length = 80 := by decide
  have := Hs.next32 w bb off cap B hB hbb hcap hcm hc (fun j => (Hs.words Hs.k0 B).getD j 0) (fun j hj => Hs.words_low Hs.k0 B j hj) (fun i h1 h2 => Hs.words_high Hs.k0 B i h1 h2) v.get hv
    (fun i => (Hs.rounds Hs.k0 Hs.rk ((Hs.words Hs.k0 B).take i) v).get) (fun j _ => by simp [Hs.rounds]) (fun i j _ hj => Hs.rounds_lt Hs.k0 _ _ v hv j hj)
    (fun i hi => by
      rw [Hs.rounds_succ Hs.k0 Hs.rk (Hs.words Hs.k0 B) v i (by omega) (by omega)]
      exact Hs.round_get Hs.k0 _ _ _)
  refine this.mono ?_
  rintro e w' ⟨rfl,hb⟩
  refine ⟨?_,hb⟩
  rw [Hs.row_congr .u64 8 _ (Hs.step Hs.k0 v B).get (fun j _ => ?_)]
  unfold Hs.step
  rw [Hs.plus_get,List.take_of_length_le (by omega)]
  rfl
theorem Hs.nextV1 (w : World) (bb off cap : Nat) (B : Nat → Nat) (hB : ∀ j,B j < 256) (hbb : bb < w.heap.size) (hcap : 128 ≤ cap) (hcm : cap ≤ 9223372036854775807) (hc : ∀ j,j < 128 → w.cell? ⟨bb,off + j,none⟩ = some (.int .u8 (B j : Int))) (v : Hs.V8) (hv : v.lt 64) :
    Calls Tryz.prog 102 #[.agg (Hs.row .u64 8 v.get),.slice (some ⟨bb,off,none⟩) 128 cap,.agg Hs.pc1] w fun e w' => e = .returned (.agg (Hs.row .u64 8 (Hs.step Hs.k1 v B).get)) ∧ Below w.heap.size w w' := by
  have hwl : (Hs.words Hs.k1 B).length = 80 := Hs.words_length Hs.k1 B (by decide)
  have hrl : Hs.rk.length = 80 := by decide
  have := Hs.next64 w bb off cap B hB hbb hcap hcm hc (fun j => (Hs.words Hs.k1 B).getD j 0) (fun j hj => Hs.words_low Hs.k1 B j hj) (fun i h1 h2 => Hs.words_high Hs.k1 B i h1 h2) v.get hv
    (fun i => (Hs.rounds Hs.k1 Hs.rk ((Hs.words Hs.k1 B).take i) v).get) (fun j _ => by simp [Hs.rounds]) (fun i j _ hj => Hs.rounds_lt Hs.k1 _ _ v hv j hj)
    (fun i hi => by
      rw [Hs.rounds_succ Hs.k1 Hs.rk (Hs.words Hs.k1 B) v i (by omega) (by omega)]
      have := Hs.round_get Hs.k1 (Hs.rk.getD i 0 / 2 ^ (64 - Hs.k1.n)) ((Hs.words Hs.k1 B).getD i 0) (Hs.rounds Hs.k1 Hs.rk ((Hs.words Hs.k1 B).take i) v)
      rw [show Hs.rk.getD i 0 / 2 ^ (64 - Hs.k1.n) = Hs.rk.getD i 0 from Nat.div_one _] at this ⊢
      exact this)
  refine this.mono ?_
  rintro e w' ⟨rfl,hb⟩
  refine ⟨?_,hb⟩
  rw [Hs.row_congr .u64 8 _ (Hs.step Hs.k1 v B).get (fun j _ => ?_)]
  unfold Hs.step
  rw [Hs.plus_get,List.take_of_length_le (by omega)]
  rfl
end
section
open Go.RowKit

theorem Hs.rangeP0 (W : World) (q : Nat) (h : W.heap[q]? = some (.cells Hs.pc0 131 (0,0))) : W.rangeAt q 0 Hs.pc0.toList := fun j v hv => by
  rw [Nat.zero_add,cell_of_row W q j Hs.pc0 _ _ h]
  simpa using hv
theorem Hs.rangeP1 (W : World) (q : Nat) (h : W.heap[q]? = some (.cells Hs.pc1 131 (0,0))) : W.rangeAt q 0 Hs.pc1.toList := fun j v hv => by
  rw [Nat.zero_add,cell_of_row W q j Hs.pc1 _ _ h]
  simpa using hv
/-- The plan, read whole, in a region that draws. -/
theorem Hs.takeP0 {ops : Array Oper} {S : World → Prop} {op : Oper} {a : Act} (hw : Region.wanted op (yielded ops a.tmps) = true) (x : Operand) (ho : op.op = .load 131 x)
    (q : Nat) (hx : a.eval x = .pointer (some ⟨q,0,none⟩)) (hS : ∀ W,S W → W.heap[q]? = some (.cells Hs.pc0 131 (0,0))) : YieldsIf Tryz.prog ops S op (.agg Hs.pc0) a := by
  have := yieldsIf_load_mid (P := Tryz.prog) (ops := ops) (S := S) hw 131 x ho q 0 hx Hs.pc0.toList _ (fun W hW => Hs.rangeP0 W q (hS W hW)) Tryz.underlying131 rfl Hs.infoP
  exact this
theorem Hs.takeP1 {ops : Array Oper} {S : World → Prop} {op : Oper} {a : Act} (hw : Region.wanted op (yielded ops a.tmps) = true) (x : Operand) (ho : op.op = .load 131 x)
    (q : Nat) (hx : a.eval x = .pointer (some ⟨q,0,none⟩)) (hS : ∀ W,S W → W.heap[q]? = some (.cells Hs.pc1 131 (0,0))) : YieldsIf Tryz.prog ops S op (.agg Hs.pc1) a := by
  have := yieldsIf_load_mid (P := Tryz.prog) (ops := ops) (S := S) hw 131 x ho q 0 hx Hs.pc1.toList _ (fun W hW => Hs.rangeP1 W q (hS W hW)) Tryz.underlying131 rfl Hs.infoP
  exact this
/-- The hash and the plan, while a block is summed into it. -/
structure Hs.SLay (pc : Array Value) (p κ : Nat) (v : Hs.V8) (R : Nat → Nat) (n q : Nat) (wr : World) : Prop where
  h : Hs.At wr p κ v R n
  pl : wr.heap[q]? = some (.cells pc 131 (0,0))
  ne : q ≠ p
theorem Hs.TLay.s {w wr : World} {pc : Array Value} {p κ n q : Nat} {v : Hs.V8} {R : Nat → Nat} (h : Hs.TLay w pc p κ v R n q wr) : Hs.SLay pc p κ v R n q wr := ⟨h.h,h.pl,by have := h.hp; have := h.lo; omega⟩
theorem Hs.SLay.set {wr : World} {pc : Array Value} {p κ n q : Nat} {v : Hs.V8} {R : Nat → Nat} (h : Hs.SLay pc p κ v R n q wr) (u : Hs.V8) : Hs.SLay pc p κ u R n q (wr.setCells p 1 (Hs.stateL u)) :=
  ⟨h.h.setState u,((Hs.But.setCells (Hs.stateL u) 1 wr).block q (Array.getElem?_eq_some_iff.1 h.pl).1 h.ne).trans h.pl,h.ne⟩
set_option maxHeartbeats 4000000 in
set_option maxRecDepth 100000 in
theorem Hs.step0 (w : World) (p : Nat) (v : Hs.V8) (R : Nat → Nat) (n : Nat) (h : Hs.At w p 0 v R n) (hR : ∀ j,R j < 256) (hv : v.lt 32) :
    Calls Tryz.prog 84 #[.pointer (some ⟨p,0,none⟩),.agg Hs.pc0] w fun e w' => e = .returned (.tuple #[]) ∧ Hs.At w' p 0 (Hs.step Hs.k0 v R) R n ∧ Hs.But p w w' := by
  have CB := Lib.hid Hs.block0
  have hp := h.lt
  have CN := Lib.hid (fun (W : World) (hW : Hs.At W p 0 v R n) => Hs.nextV0 W p 9 128 R hR hW.lt (by omega) (by omega) (fun j hj => hW.rest j (by omega)) v hv)
  go_enter Tryz.func84,Tryz.ntmps84
  have bA : Below w.heap.size w (w.alloc (.cells Hs.pc0 131)) := (Below.refl _ _).alloc (Nat.le_refl _) _
  have L0 : Hs.TLay w Hs.pc0 p 0 v R n w.heap.size (w.alloc (.cells Hs.pc0 131)) := ⟨h.below bA hp,heap_alloc_new _ _,bA,Nat.le_refl _,hp,by simp⟩
  go_upto_region 1 with fail
  clear bA h
  generalize w.alloc (.cells Hs.pc0 131) = w1 at L0 ⊢
  refine wp_region_held_drew (S := fun W => Hs.TLay w Hs.pc0 p 0 v R n w.heap.size W) (by kernel_rfl) (L0.below (below_drewN (Below.refl _ _) 1)) (fun hHeld0 => ?_)
  refine wpAnyH_take (i := 0) (oi := ⟨_,_,_,_,_,_⟩) (v := ?vg1_1) rfl (by kernel_rfl) (by kernel_rfl) (by kernel_rfl) (fun _ _ _ h => h) (Or.inl ⟨by rfl,?hyg1_1⟩) (by assumption) ?restg1_1
  case hyg1_1 => (intro W hW; go_simp; try with_reducible rfl)
  try simp only [Act.put,List.setIfInBounds_toArray,List.set_cons_zero,List.set_cons_succ]
  refine wpAnyH_take (i := 1) (oi := ⟨_,_,_,_,_,_⟩) (v := ?vg1_2) rfl (by kernel_rfl) (by kernel_rfl) (by kernel_rfl) (fun _ _ _ h => h) (Or.inl ⟨by rfl,?hyg1_2⟩) (by assumption) ?restg1_2
  case hyg1_2 => (intro W hW; go_simp; try with_reducible rfl)
  try simp only [Act.put,List.setIfInBounds_toArray,List.set_cons_zero,List.set_cons_succ]
  refine wpAnyH_take (i := 2) (oi := ⟨_,_,_,_,_,_⟩) (v := ?vg1_3) rfl (by kernel_rfl) (by kernel_rfl) (by kernel_rfl) (fun _ _ _ h => h) (Or.inl ⟨by rfl,?hyg1_3⟩) (by assumption) ?restg1_3
  case hyg1_3 => (intro W hW; go_simp; try with_reducible rfl)
  try simp only [Act.put,List.setIfInBounds_toArray,List.set_cons_zero,List.set_cons_succ]
  refine wpAnyH_take (i := 3) (oi := ⟨_,_,_,_,_,_⟩) rfl (by kernel_rfl) (by kernel_rfl) (by kernel_rfl) (fun _ _ _ h => h) (Hs.takeP0 (by rfl) _ rfl _ rfl (fun W hW => hW.pl)) (by assumption) ?restg1_4
  try simp only [Act.put,List.setIfInBounds_toArray,List.set_cons_zero,List.set_cons_succ]
  refine wpAnyH_ready (rs := [4]) (by kernel_rfl) (by simp) ?_
  refine AllReadyH.cons (o := ⟨_,_,_,_,_,_⟩) rfl (fun K hK => ?_) AllReadyH.nil
  go_simp
  refine Calls.mono (CB.out _) ?_
  rintro e2 w2 ⟨rfl,b2⟩
  have L2 := (L0.below (below_drewN (Below.refl _ _) 1)).below b2
  clear L0 b2
  go_wp2_with fail
  refine hK.out _ _ (L2) (fun hHeld1 => ?_)
  clear hK K hHeld0
  try simp only [Act.put,List.setIfInBounds_toArray,List.set_cons_zero,List.set_cons_succ]
  refine wpAnyH_take (i := 5) (oi := ⟨_,_,_,_,_,_⟩) (v := ?vg1_5) rfl (by kernel_rfl) (by kernel_rfl) (by kernel_rfl) (fun _ _ _ h => h) (Or.inl ⟨by rfl,?hyg1_5⟩) (by assumption) ?restg1_5
  case hyg1_5 => (intro W hW; go_simp; try with_reducible rfl)
  try simp only [Act.put,List.setIfInBounds_toArray,List.set_cons_zero,List.set_cons_succ]
  refine wpAnyH_take (i := 6) (oi := ⟨_,_,_,_,_,_⟩) (v := ?vg1_6) rfl (by kernel_rfl) (by kernel_rfl) (by kernel_rfl) (fun _ _ _ h => h) (Or.inl ⟨by rfl,?hyg1_6⟩) (by assumption) ?restg1_6
  case hyg1_6 => (intro W hW; go_simp; try with_reducible rfl)
  try simp only [Act.put,List.setIfInBounds_toArray,List.set_cons_zero,List.set_cons_succ]
  refine wpAnyH_done (by kernel_rfl) ?_ _
  have kc := L2.h.kind
  go_wp2_with fail
  refine wp_region_held_drew (S := fun W => ∃ u,Hs.SLay Hs.pc0 p 0 u R n w.heap.size W) (by kernel_rfl) (⟨v,(L2.below (below_drewN (Below.refl _ _) 1)).s⟩) (fun hHeld0 => ?_)
  have L3 := L2.below (below_drewN (Below.refl _ _) 1)
  refine wpAnyH_take (i := 0) (oi := ⟨_,_,_,_,_,_⟩) (v := ?vg2_1) rfl (by kernel_rfl) (by kernel_rfl) (by kernel_rfl) (fun _ _ _ h => h) (Or.inl ⟨by rfl,?hyg2_1⟩) (by assumption) ?restg2_1
  case hyg2_1 => (intro W hW; go_simp; try with_reducible rfl)
  try simp only [Act.put,List.setIfInBounds_toArray,List.set_cons_zero,List.set_cons_succ]
  refine wpAnyH_take (i := 1) (oi := ⟨_,_,_,_,_,_⟩) (v := ?vg2_2) rfl (by kernel_rfl) (by kernel_rfl) (by kernel_rfl) (fun _ _ _ h => h) (Or.inl ⟨by rfl,?hyg2_2⟩) (by assumption) ?restg2_2
  case hyg2_2 => (intro W hW; go_simp; try with_reducible rfl)
  try simp only [Act.put,List.setIfInBounds_toArray,List.set_cons_zero,List.set_cons_succ]
  refine wpAnyH_take (i := 2) (oi := ⟨_,_,_,_,_,_⟩) (v := ?vg2_3) rfl (by kernel_rfl) (by kernel_rfl) (by kernel_rfl) (fun _ _ _ h => h) (Or.inl ⟨by rfl,?hyg2_3⟩) (by assumption) ?restg2_3
  case hyg2_3 => (intro W hW; go_simp; try with_reducible rfl)
  try simp only [Act.put,List.setIfInBounds_toArray,List.set_cons_zero,List.set_cons_succ]
  refine wpAnyH_take (i := 3) (oi := ⟨_,_,_,_,_,_⟩) (v := ?vg2_4) rfl (by kernel_rfl) (by kernel_rfl) (by kernel_rfl) (fun _ _ _ h => h) (Or.inl ⟨by rfl,?hyg2_4⟩) (by assumption) ?restg2_4
  case hyg2_4 => (intro W hW; go_simp; try with_reducible rfl)
  try simp only [Act.put,List.setIfInBounds_toArray,List.set_cons_zero,List.set_cons_succ]
  refine wpAnyH_take (i := 5) (oi := ⟨_,_,_,_,_,_⟩) (v := ?vg2_5) rfl (by kernel_rfl) (by kernel_rfl) (by kernel_rfl) (fun _ _ _ h => h) (Or.inl ⟨by rfl,?hyg2_5⟩) (by assumption) ?restg2_5
  case hyg2_5 => (intro W hW; go_simp; try with_reducible rfl)
  try simp only [Act.put,List.setIfInBounds_toArray,List.set_cons_zero,List.set_cons_succ]
  refine wpAnyH_take (i := 6) (oi := ⟨_,_,_,_,_,_⟩) rfl (by kernel_rfl) (by kernel_rfl) (by kernel_rfl) (fun _ _ _ h => h) (Hs.takeP0 (by rfl) _ rfl _ rfl (fun W hW => (hW.elim fun u hu => hu.pl))) (by assumption) ?restg2_6
  try simp only [Act.put,List.setIfInBounds_toArray,List.set_cons_zero,List.set_cons_succ]
  refine wpAnyH_ready (rs := [4]) (by kernel_rfl) (by simp) ?_
  refine AllReadyH.cons (o := ⟨_,_,_,_,_,_⟩) rfl (fun K hK => ?_) AllReadyH.nil
  rw [if_pos (by rfl)]
  refine wp_load_mid _ _ rfl p 1 rfl (Hs.stateL v) _ L3.h.range Tryz.underlying129 rfl Hs.size61 ?_
  refine hK.out _ _ (⟨v,L3.s⟩) (fun hHeld1 => ?_)
  clear hK K hHeld0
  try simp only [Act.put,List.setIfInBounds_toArray,List.set_cons_zero,List.set_cons_succ]
  refine wpAnyH_ready (rs := [7]) (by kernel_rfl) (by simp) ?_
  refine AllReadyH.cons (o := ⟨_,_,_,_,_,_⟩) rfl (fun K hK => ?_) AllReadyH.nil
  go_simp
  refine Calls.mono (CN.out _ L3.h) ?_
  rintro e4 w4 ⟨rfl,b4⟩
  have L4 := L3.below b4
  clear L3
  go_wp2_with fail
  refine hK.out _ _ (⟨v,L4.s⟩) (fun hHeld2 => ?_)
  clear hK K hHeld1
  try simp only [Act.put,List.setIfInBounds_toArray,List.set_cons_zero,List.set_cons_succ]
  refine wpAnyH_take (i := 8) (oi := ⟨_,_,_,_,_,_⟩) (v := ?vg2_7) rfl (by kernel_rfl) (by kernel_rfl) (by kernel_rfl) (fun _ _ _ h => h) (Or.inl ⟨by rfl,?hyg2_7⟩) (by assumption) ?restg2_7
  case hyg2_7 => (intro W hW; go_simp; try with_reducible rfl)
  try simp only [Act.put,List.setIfInBounds_toArray,List.set_cons_zero,List.set_cons_succ]
  refine wpAnyH_take (i := 9) (oi := ⟨_,_,_,_,_,_⟩) (v := ?vg2_8) rfl (by kernel_rfl) (by kernel_rfl) (by kernel_rfl) (fun _ _ _ h => h) (Or.inl ⟨by rfl,?hyg2_8⟩) (by assumption) ?restg2_8
  case hyg2_8 => (intro W hW; go_simp; try with_reducible rfl)
  try simp only [Act.put,List.setIfInBounds_toArray,List.set_cons_zero,List.set_cons_succ]
  refine wpAnyH_ready (rs := [10]) (by kernel_rfl) (by simp) ?_
  refine AllReadyH.cons (o := ⟨_,_,_,_,_,_⟩) rfl (fun K hK => ?_) AllReadyH.nil
  rw [if_pos (by rfl)]
  refine wp_store_mid _ _ _ rfl p 1 (Hs.stateL (Hs.step Hs.k0 v R)).toArray rfl rfl (Hs.Blk.there L4.h 1 8 (by omega)) Hs.size61 (Hs.row_one _ _ _) ?_
  refine hK.out _ _ (⟨Hs.step Hs.k0 v R,L4.s.set _⟩) (fun hHeld3 => ?_)
  clear hK K hHeld2
  try simp only [Act.put]
  refine wpAnyH_done (by kernel_rfl) ?_ _
  have hAt := L4.h.setState (Hs.step Hs.k0 v R)
  have hBut : Hs.But p w (w4.setCells p 1 (Hs.stateL (Hs.step Hs.k0 v R))) := (Hs.But.ofBelow L4.b (Nat.le_refl _)).trans (Hs.But.setCells _ _ _)
  go_wp2_with fail
  go_end0
  exact ⟨rfl,hAt,hBut⟩
set_option maxHeartbeats 4000000 in
set_option maxRecDepth 100000 in
theorem Hs.step1 (w : World) (p : Nat) (v : Hs.V8) (R : Nat → Nat) (n : Nat) (h : Hs.At w p 1 v R n) (hR : ∀ j,R j < 256) (hv : v.lt 64) :
    Calls Tryz.prog 84 #[.pointer (some ⟨p,0,none⟩),.agg Hs.pc1] w fun e w' => e = .returned (.tuple #[]) ∧ Hs.At w' p 1 (Hs.step Hs.k1 v R) R n ∧ Hs.But p w w' := by
  have CB := Lib.hid Hs.block1
  have hp := h.lt
  have CN := Lib.hid (fun (W : World) (hW : Hs.At W p 1 v R n) => Hs.nextV1 W p 9 128 R hR hW.lt (by omega) (by omega) (fun j hj => hW.rest j (by omega)) v hv)
  go_enter Tryz.func84,Tryz.ntmps84
  have bA : Below w.heap.size w (w.alloc (.cells Hs.pc1 131)) := (Below.refl _ _).alloc (Nat.le_refl _) _
  have L0 : Hs.TLay w Hs.pc1 p 1 v R n w.heap.size (w.alloc (.cells Hs.pc1 131)) := ⟨h.below bA hp,heap_alloc_new _ _,bA,Nat.le_refl _,hp,by simp⟩
  go_upto_region 1 with fail
  clear bA h
  generalize w.alloc (.cells Hs.pc1 131) = w1 at L0 ⊢
  refine wp_region_held_drew (S := fun W => Hs.TLay w Hs.pc1 p 1 v R n w.heap.size W) (by kernel_rfl) (L0.below (below_drewN (Below.refl _ _) 1)) (fun hHeld0 => ?_)
  refine wpAnyH_take (i := 0) (oi := ⟨_,_,_,_,_,_⟩) (v := ?vg3_1) rfl (by kernel_rfl) (by kernel_rfl) (by kernel_rfl) (fun _ _ _ h => h) (Or.inl ⟨by rfl,?hyg3_1⟩) (by assumption) ?restg3_1
  case hyg3_1 => (intro W hW; go_simp; try with_reducible rfl)
  try simp only [Act.put,List.setIfInBounds_toArray,List.set_cons_zero,List.set_cons_succ]
  refine wpAnyH_take (i := 1) (oi := ⟨_,_,_,_,_,_⟩) (v := ?vg3_2) rfl (by kernel_rfl) (by kernel_rfl) (by kernel_rfl) (fun _ _ _ h => h) (Or.inl ⟨by rfl,?hyg3_2⟩) (by assumption) ?restg3_2
  case hyg3_2 => (intro W hW; go_simp; try with_reducible rfl)
  try simp only [Act.put,List.setIfInBounds_toArray,List.set_cons_zero,List.set_cons_succ]
  refine wpAnyH_take (i := 2) (oi := ⟨_,_,_,_,_,_⟩) (v := ?vg3_3) rfl (by kernel_rfl) (by kernel_rfl) (by kernel_rfl) (fun _ _ _ h => h) (Or.inl ⟨by rfl,?hyg3_3⟩) (by assumption) ?restg3_3
  case hyg3_3 => (intro W hW; go_simp; try with_reducible rfl)
  try simp only [Act.put,List.setIfInBounds_toArray,List.set_cons_zero,List.set_cons_succ]
  refine wpAnyH_take (i := 3) (oi := ⟨_,_,_,_,_,_⟩) rfl (by kernel_rfl) (by kernel_rfl) (by kernel_rfl) (fun _ _ _ h => h) (Hs.takeP1 (by rfl) _ rfl _ rfl (fun W hW => hW.pl)) (by assumption) ?restg3_4
  try simp only [Act.put,List.setIfInBounds_toArray,List.set_cons_zero,List.set_cons_succ]
  refine wpAnyH_ready (rs := [4]) (by kernel_rfl) (by simp) ?_
  refine AllReadyH.cons (o := ⟨_,_,_,_,_,_⟩) rfl (fun K hK => ?_) AllReadyH.nil
  go_simp
  refine Calls.mono (CB.out _) ?_
  rintro e2 w2 ⟨rfl,b2⟩
  have L2 := (L0.below (below_drewN (Below.refl _ _) 1)).below b2
  clear L0 b2
  go_wp2_with fail
  refine hK.out _ _ (L2) (fun hHeld1 => ?_)
  clear hK K hHeld0
  try simp only [Act.put,List.setIfInBounds_toArray,List.set_cons_zero,List.set_cons_succ]
  refine wpAnyH_take (i := 5) (oi := ⟨_,_,_,_,_,_⟩) (v := ?vg3_5) rfl (by kernel_rfl) (by kernel_rfl) (by kernel_rfl) (fun _ _ _ h => h) (Or.inl ⟨by rfl,?hyg3_5⟩) (by assumption) ?restg3_5
  case hyg3_5 => (intro W hW; go_simp; try with_reducible rfl)
  try simp only [Act.put,List.setIfInBounds_toArray,List.set_cons_zero,List.set_cons_succ]
  refine wpAnyH_take (i := 6) (oi := ⟨_,_,_,_,_,_⟩) (v := ?vg3_6) rfl (by kernel_rfl) (by kernel_rfl) (by kernel_rfl) (fun _ _ _ h => h) (Or.inl ⟨by rfl,?hyg3_6⟩) (by assumption) ?restg3_6
  case hyg3_6 => (intro W hW; go_simp; try with_reducible rfl)
  try simp only [Act.put,List.setIfInBounds_toArray,List.set_cons_zero,List.set_cons_succ]
  refine wpAnyH_done (by kernel_rfl) ?_ _
  have kc := L2.h.kind
  go_wp2_with fail
  refine wp_region_held_drew (S := fun W => ∃ u,Hs.SLay Hs.pc1 p 1 u R n w.heap.size W) (by kernel_rfl) (⟨v,(L2.below (below_drewN (Below.refl _ _) 1)).s⟩) (fun hHeld0 => ?_)
  have L3 := L2.below (below_drewN (Below.refl _ _) 1)
  refine wpAnyH_take (i := 0) (oi := ⟨_,_,_,_,_,_⟩) (v := ?vg4_1) rfl (by kernel_rfl) (by kernel_rfl) (by kernel_rfl) (fun _ _ _ h => h) (Or.inl ⟨by rfl,?hyg4_1⟩) (by assumption) ?restg4_1
  case hyg4_1 => (intro W hW; go_simp; try with_reducible rfl)
  try simp only [Act.put,List.setIfInBounds_toArray,List.set_cons_zero,List.set_cons_succ]
  refine wpAnyH_take (i := 1) (oi := ⟨_,_,_,_,_,_⟩) (v := ?vg4_2) rfl (by kernel_rfl) (by kernel_rfl) (by kernel_rfl) (fun _ _ _ h => h) (Or.inl ⟨by rfl,?hyg4_2⟩) (by assumption) ?restg4_2
  case hyg4_2 => (intro W hW; go_simp; try with_reducible rfl)
  try simp only [Act.put,List.setIfInBounds_toArray,List.set_cons_zero,List.set_cons_succ]
  refine wpAnyH_take (i := 2) (oi := ⟨_,_,_,_,_,_⟩) (v := ?vg4_3) rfl (by kernel_rfl) (by kernel_rfl) (by kernel_rfl) (fun _ _ _ h => h) (Or.inl ⟨by rfl,?hyg4_3⟩) (by assumption) ?restg4_3
  case hyg4_3 => (intro W hW; go_simp; try with_reducible rfl)
  try simp only [Act.put,List.setIfInBounds_toArray,List.set_cons_zero,List.set_cons_succ]
  refine wpAnyH_take (i := 3) (oi := ⟨_,_,_,_,_,_⟩) (v := ?vg4_4) rfl (by kernel_rfl) (by kernel_rfl) (by kernel_rfl) (fun _ _ _ h => h) (Or.inl ⟨by rfl,?hyg4_4⟩) (by assumption) ?restg4_4
  case hyg4_4 => (intro W hW; go_simp; try with_reducible rfl)
  try simp only [Act.put,List.setIfInBounds_toArray,List.set_cons_zero,List.set_cons_succ]
  refine wpAnyH_take (i := 5) (oi := ⟨_,_,_,_,_,_⟩) (v := ?vg4_5) rfl (by kernel_rfl) (by kernel_rfl) (by kernel_rfl) (fun _ _ _ h => h) (Or.inl ⟨by rfl,?hyg4_5⟩) (by assumption) ?restg4_5
  case hyg4_5 => (intro W hW; go_simp; try with_reducible rfl)
  try simp only [Act.put,List.setIfInBounds_toArray,List.set_cons_zero,List.set_cons_succ]
  refine wpAnyH_take (i := 6) (oi := ⟨_,_,_,_,_,_⟩) rfl (by kernel_rfl) (by kernel_rfl) (by kernel_rfl) (fun _ _ _ h => h) (Hs.takeP1 (by rfl) _ rfl _ rfl (fun W hW => (hW.elim fun u hu => hu.pl))) (by assumption) ?restg4_6
  try simp only [Act.put,List.setIfInBounds_toArray,List.set_cons_zero,List.set_cons_succ]
  refine wpAnyH_ready (rs := [4]) (by kernel_rfl) (by simp) ?_
  refine AllReadyH.cons (o := ⟨_,_,_,_,_,_⟩) rfl (fun K hK => ?_) AllReadyH.nil
  rw [if_pos (by rfl)]
  refine wp_load_mid _ _ rfl p 1 rfl (Hs.stateL v) _ L3.h.range Tryz.underlying129 rfl Hs.size61 ?_
  refine hK.out _ _ (⟨v,L3.s⟩) (fun hHeld1 => ?_)
  clear hK K hHeld0
  try simp only [Act.put,List.setIfInBounds_toArray,List.set_cons_zero,List.set_cons_succ]
  refine wpAnyH_ready (rs := [7]) (by kernel_rfl) (by simp) ?_
  refine AllReadyH.cons (o := ⟨_,_,_,_,_,_⟩) rfl (fun K hK => ?_) AllReadyH.nil
  go_simp
  refine Calls.mono (CN.out _ L3.h) ?_
  rintro e4 w4 ⟨rfl,b4⟩
  have L4 := L3.below b4
  clear L3
  go_wp2_with fail
  refine hK.out _ _ (⟨v,L4.s⟩) (fun hHeld2 => ?_)
  clear hK K hHeld1
  try simp only [Act.put,List.setIfInBounds_toArray,List.set_cons_zero,List.set_cons_succ]
  refine wpAnyH_take (i := 8) (oi := ⟨_,_,_,_,_,_⟩) (v := ?vg4_7) rfl (by kernel_rfl) (by kernel_rfl) (by kernel_rfl) (fun _ _ _ h => h) (Or.inl ⟨by rfl,?hyg4_7⟩) (by assumption) ?restg4_7
  case hyg4_7 => (intro W hW; go_simp; try with_reducible rfl)
  try simp only [Act.put,List.setIfInBounds_toArray,List.set_cons_zero,List.set_cons_succ]
  refine wpAnyH_take (i := 9) (oi := ⟨_,_,_,_,_,_⟩) (v := ?vg4_8) rfl (by kernel_rfl) (by kernel_rfl) (by kernel_rfl) (fun _ _ _ h => h) (Or.inl ⟨by rfl,?hyg4_8⟩) (by assumption) ?restg4_8
  case hyg4_8 => (intro W hW; go_simp; try with_reducible rfl)
  try simp only [Act.put,List.setIfInBounds_toArray,List.set_cons_zero,List.set_cons_succ]
  refine wpAnyH_ready (rs := [10]) (by kernel_rfl) (by simp) ?_
  refine AllReadyH.cons (o := ⟨_,_,_,_,_,_⟩) rfl (fun K hK => ?_) AllReadyH.nil
  rw [if_pos (by rfl)]
  refine wp_store_mid _ _ _ rfl p 1 (Hs.stateL (Hs.step Hs.k1 v R)).toArray rfl rfl (Hs.Blk.there L4.h 1 8 (by omega)) Hs.size61 (Hs.row_one _ _ _) ?_
  refine hK.out _ _ (⟨Hs.step Hs.k1 v R,L4.s.set _⟩) (fun hHeld3 => ?_)
  clear hK K hHeld2
  try simp only [Act.put]
  refine wpAnyH_done (by kernel_rfl) ?_ _
  have hAt := L4.h.setState (Hs.step Hs.k1 v R)
  have hBut : Hs.But p w (w4.setCells p 1 (Hs.stateL (Hs.step Hs.k1 v R))) := (Hs.But.ofBelow L4.b (Nat.le_refl _)).trans (Hs.But.setCells _ _ _)
  go_wp2_with fail
  go_end0
  exact ⟨rfl,hAt,hBut⟩
end
end Go.Proofs.YthlecdggkolgmaaGreatDoor
