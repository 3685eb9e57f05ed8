/- The reference's kinds: Of, walked. -/
import Derived.Test.YthlecdggkolgmaaGreatDoorRfJ
import Derived.IntWalk
namespace Go.Proofs.YthlecdggkolgmaaGreatDoor
section
open Go.RowKit

theorem Rf.setRow_other (w : World) (g b : Nat) (C : Array Value) (h : b ≠ g) : (w.setRow g C).heap[b]? = w.heap[b]? := by
  simp only [World.setRow,Array.getElem?_modify]
  rw [if_neg (fun e => h e.symm)]
set_option maxHeartbeats 1000000 in
set_option maxRecDepth 100000 in
theorem Rf.of0 (w : World) :
    Calls Tryz.prog 29 #[.int .i64 0] w fun e w' => ∃ gK cK gF cF,e = .returned (.tuple #[.agg (Rf.kc 0 (.slice (some ⟨gK,0,none⟩) 64 cK) (.slice (some ⟨gF,0,none⟩) 8 cF)),.bool true]) ∧ Rf.Dig w' gK 64 (Rf.kk 0) ∧ Rf.Dig w' gF 8 (Hs.first 0).get ∧ Below w.heap.size w w' := by
  have hz := Rf.zeroK
  go_enter Tryz.func29,Tryz.ntmps29
  go_upto_region 1 with fail
  have r1 : (w.alloc (.cells Rf.zk 61)).heap[w.heap.size]? = some (.cells Rf.zk 61 (0,0)) := heap_alloc_new _ _
  have b1 : Below w.heap.size w (w.alloc (.cells Rf.zk 61)) := (Below.refl _ _).alloc (Nat.le_refl _) _
  obtain ⟨q,hq⟩ : ∃ q,w.heap.size = q := ⟨_,rfl⟩
  rw [hq] at r1 b1 ⊢
  have hqk : q < (w.alloc (.cells Rf.zk 61)).heap.size := (Array.getElem?_eq_some_iff.1 r1).1
  generalize w.alloc (.cells Rf.zk 61) = w1 at r1 b1 hqk ⊢
  go_upto_region 8 with (first | (refine Hs.wpList_build rfl 61 #[(0,.const (.int .i64 32)),(1,.const (.int .i64 64)),(2,.const (.int .i64 32)),(3,.tmp 9),(4,.tmp 10),(5,.tmp 11),(6,.tmp 12),(7,.const (.slice none 0 0)),(8,.const (.slice none 0 0))] rfl _ (Rf.kc 0 (.slice none 0 0) (.slice none 0 0)) rfl (by kernel_rfl) ?_) | (refine wpList_store_row rfl 61 (.tmp 4) (.tmp 13) rfl w1.heap.size (Rf.kc 0 (.slice none 0 0) (.slice none 0 0)) rfl rfl 61 _ (heap_alloc_new w1 _) (by rw [Rf.kc_size]; exact Rf.infoKd) (by kernel_rfl) (by kernel_rfl) ?_; rw [World.setRow_alloc_new]))
  have r2 := heap_alloc_new w1 (.cells (Rf.kc 0 (.slice none 0 0) (.slice none 0 0)) 61)
  have b2 : Below w1.heap.size w1 (w1.alloc (.cells (Rf.kc 0 (.slice none 0 0) (.slice none 0 0)) 61)) := (Below.refl _ _).alloc (Nat.le_refl _) _
  obtain ⟨k,hk⟩ : ∃ k,w1.heap.size = k := ⟨_,rfl⟩
  rw [hk] at r2 b2 hqk ⊢
  have r1 := (b2.block q hqk).trans r1
  have b1 := b1.trans (b2.mono (by omega))
  generalize w1.alloc (.cells (Rf.kc 0 (.slice none 0 0) (.slice none 0 0)) 61) = w2 at r1 r2 b1 b2 ⊢
  have k2 : k < w2.heap.size := (Array.getElem?_eq_some_iff.1 r2).1
  have HQ := Lib.hid (And.intro hq hk)
  clear hq hk b2
  go_upto_region 9 with ((with_reducible refine Calls.mono (Rf.primes_any _) ?_); rintro e3 w3 ⟨g,c3,rfl,hg,hP,b3⟩)
  have L0 : Rf.OfS w w3 q k w3.heap.size 0 g (.slice none 0 0) (.slice none 0 0) w3 := ⟨(b3.block q (by omega)).trans r1,(b3.block k k2).trans r2,hP,b1.trans (b3.mono (by omega)),hqk,by omega,hP.lt,Nat.le_refl _,fun _ _ _ => rfl⟩
  have O0 := Rf.OwnQ.nil w3 w3.heap.size
  obtain ⟨B,hB⟩ : ∃ B,w3.heap.size = B := ⟨_,rfl⟩
  obtain ⟨w5,hw5⟩ : ∃ w5,w3 = w5 := ⟨_,rfl⟩
  have L0 : Rf.OfS w w5 q k w3.heap.size 0 g (.slice none 0 0) (.slice none 0 0) w3 := hw5 ▸ L0
  rw [hB] at L0 O0
  clear hw5
  clear r1 r2 b1 b3 k2 hqk hB hg hP
  go_wp2_with fail
  go_loopw [7] (fun iv wr => ∃ (i : Nat) (vK : Value) (l : List Nat),i ≤ 64 ∧ iv = .int .i64 (i : Int) ∧ Rf.OfS w w5 q k B 0 g vK (.slice none 0 0) wr ∧ Rf.OwnQ wr B vK l ∧ l = (List.range i).map (Rf.kk 0)) (fun iv _ => 64 - (intOf iv).toNat)
  case atStart => exact ⟨0,_,[],by omega,rfl,L0,O0,rfl⟩
  case round =>
  clear L0 O0
  obtain ⟨i,vK,l,hi,rfl,L0,O0,hl⟩ := hrel
  obtain ⟨w4,rfl⟩ : ∃ w4,w4 = wr := ⟨_,rfl⟩
  have c1 := L0.kcell 1 (.int .i64 64) rfl
  by_cases hiR : i < 64
  · have hiz : (i : Int) < 64 := by omega
    have hi0 : 0 ≤ (i : Int) := by omega
    have hi80 : (i : Int) < 80 := by omega
    have CR := Lib.hid (fun W => Rf.rootK W 0 i (by omega) hiR)
    obtain ⟨x,hx⟩ : ∃ x,Rf.kk 0 i = x := ⟨_,rfl⟩
    rw [hx] at CR
    have hlen : l.length = i := by rw [hl]; simp
    have HN := Lib.hid (show l ++ [x] = (List.range (i + 1)).map (Rf.kk 0) by rw [List.range_succ,List.map_append,← hl,← hx]; rfl)
    clear hx hl
    obtain ⟨vF,hvF⟩ : ∃ vF,vF = Value.slice none 0 0 := ⟨_,rfl⟩
    rw [← hvF] at L0
    have HF := Lib.hid hvF
    clear hvF
    go_upto_region 12 with fail
    clear c1
    refine wp_region_held_drew (S := fun W => ∃ v,Rf.OfS w w5 q k B 0 g v vF W) (by kernel_rfl) (⟨_,L0.below (below_drewN (Below.refl _ _) 1) L0.hi⟩) (fun hHeld0 => ?_)
    have L1 := L0.below (below_drewN (Below.refl _ _) 1) L0.hi
    have O1 := O0.below (below_drewN (Below.refl _ _) 1) (Nat.le_refl _)
    clear L0 O0
    refine wpAnyH_take (i := 0) (oi := ⟨_,_,_,_,_,_⟩) (v := ?vg1_1) rfl (by kernel_rfl) (by kernel_rfl) (by kernel_rfl) (fun _ _ _ h => h) (Or.inl ⟨by rfl,?hyg1_1⟩) (by assumption) ?restg1_1
    case hyg1_1 => (intro W hW; go_simp; try with_reducible rfl)
    try simp only [Act.put,List.setIfInBounds_toArray,List.set_cons_zero,List.set_cons_succ]
    refine wpAnyH_take (i := 2) (oi := ⟨_,_,_,_,_,_⟩) (v := ?vg1_2) rfl (by kernel_rfl) (by kernel_rfl) (by kernel_rfl) (fun _ _ _ h => h) (Or.inl ⟨by rfl,?hyg1_2⟩) (by assumption) ?restg1_2
    case hyg1_2 => (intro W hW; go_simp; try with_reducible rfl)
    try simp only [Act.put,List.setIfInBounds_toArray,List.set_cons_zero,List.set_cons_succ]
    refine wpAnyH_take (i := 3) (oi := ⟨_,_,_,_,_,_⟩) (v := ?vg1_3) rfl (by kernel_rfl) (by kernel_rfl) (by kernel_rfl) (fun _ _ _ h => h) (Or.inl ⟨by rfl,?hyg1_3⟩) (by assumption) ?restg1_3
    case hyg1_3 => (intro W hW; go_simp; try with_reducible rfl)
    try simp only [Act.put,List.setIfInBounds_toArray,List.set_cons_zero,List.set_cons_succ]
    refine wpAnyH_take (i := 6) (oi := ⟨_,_,_,_,_,_⟩) (v := ?vg1_4) rfl (by kernel_rfl) (by kernel_rfl) (by kernel_rfl) (fun _ _ _ h => h) (Or.inl ⟨by rfl,?hyg1_4⟩) (by assumption) ?restg1_4
    case hyg1_4 => (intro W hW; go_simp; try with_reducible rfl)
    try simp only [Act.put,List.setIfInBounds_toArray,List.set_cons_zero,List.set_cons_succ]
    refine wpAnyH_take (i := 4) (oi := ⟨_,_,_,_,_,_⟩) (v := ?vg1_5) rfl (by kernel_rfl) (by kernel_rfl) (by kernel_rfl) (fun _ _ _ h => h) (Or.inl ⟨by rfl,?hyg1_5⟩) (by assumption) ?restg1_5
    case hyg1_5 => (intro W hW; go_simp; try with_reducible rfl)
    try simp only [Act.put,List.setIfInBounds_toArray,List.set_cons_zero,List.set_cons_succ]
    refine wpAnyH_take (i := 5) (oi := ⟨_,_,_,_,_,_⟩) rfl (by kernel_rfl) (by kernel_rfl) (by kernel_rfl) (fun _ _ _ h => h) (Rf.takeQ (by rfl) _ rfl g i rfl (Rf.ps.getD i 0) (fun W hW => hW.elim fun u hu => hu.pr.cell i (by omega))) (by assumption) ?restg1_6
    try simp only [Act.put,List.setIfInBounds_toArray,List.set_cons_zero,List.set_cons_succ]
    refine wpAnyH_take (i := 7) (oi := ⟨_,_,_,_,_,_⟩) rfl (by kernel_rfl) (by kernel_rfl) (by kernel_rfl) (fun _ _ _ h => h) (Hs.takeI (by rfl) _ rfl k 0 rfl _ (fun W hW => hW.elim fun u hu => hu.kcell 0 _ rfl)) (by assumption) ?restg1_7
    try simp only [Act.put,List.setIfInBounds_toArray,List.set_cons_zero,List.set_cons_succ]
    refine wpAnyH_ready (rs := [1,8]) (by kernel_rfl) (by simp) ?_
    refine AllReadyH.cons (o := ⟨_,_,_,_,_,_⟩) rfl (fun K hK => ?_) (AllReadyH.cons (o := ⟨_,_,_,_,_,_⟩) rfl (fun K hK => ?_) AllReadyH.nil)
    · rw [if_pos (by rfl)]
      refine Rf.wp_load _ rfl rfl _ (L1.kcell 15 _ rfl) ?_
      refine hK.out _ _ (⟨_,L1⟩) (fun hHeld1 => ?_)
      clear hK K hHeld0
      try simp only [Act.put,List.setIfInBounds_toArray,List.set_cons_zero,List.set_cons_succ]
      refine wpAnyH_ready (rs := [8]) (by kernel_rfl) (by simp) ?_
      refine AllReadyH.cons (o := ⟨_,_,_,_,_,_⟩) rfl (fun K hK => ?_) AllReadyH.nil
      go_simp
      refine Calls.mono (CR.out _) ?_
      rintro e2 w2 ⟨rfl,b2⟩
      have L2 := L1.below b2 L1.hi
      have O2 := O1.below b2 (Nat.le_refl _)
      go_wp2_with fail
      refine hK.out _ _ (⟨_,L2⟩) (fun hHeld2 => ?_)
      clear hK K hHeld1
      try simp only [Act.put,List.setIfInBounds_toArray,List.set_cons_zero,List.set_cons_succ]
      refine wpAnyH_ready (rs := [9]) (by kernel_rfl) (by simp) ?_
      refine AllReadyH.cons (o := ⟨_,_,_,_,_,_⟩) rfl (fun K hK => ?_) AllReadyH.nil
      rw [if_pos (by rfl)]
      refine Rf.wp_one _ rfl rfl ?_
      intro w3 g3 hg3 b3
      have L3 := L2.below b3 L2.hi
      have O3 := O2.below b3 (Nat.le_refl _)
      refine hK.out _ _ (⟨_,L3⟩) (fun hHeld3 => ?_)
      clear hK K hHeld2
      try simp only [Act.put,List.setIfInBounds_toArray,List.set_cons_zero,List.set_cons_succ]
      refine wpAnyH_ready (rs := [10]) (by kernel_rfl) (by simp) ?_
      refine AllReadyH.cons (o := ⟨_,_,_,_,_,_⟩) rfl (fun K hK => ?_) AllReadyH.nil
      refine Rf.append_step rfl _ _ rfl B _ l rfl O3 ⟨_,0,none⟩ _ [x] rfl hg3 (by simp) (by simp; omega) L3.hi ?_
      intro v4 w4 O4 b4 z4
      obtain ⟨g4,c4,hv4,hg4⟩ := O4.at (by simp)
      rw [show (l ++ [x]).length = i + 1 by simp [hlen]] at hv4
      subst hv4
      have L4 := L3.below b4 (Nat.le_refl _)
      refine hK.out _ _ (⟨_,L4⟩) (fun hHeld4 => ?_)
      clear hK K hHeld3
      try simp only [Act.put,List.setIfInBounds_toArray,List.set_cons_zero,List.set_cons_succ]
      refine wpAnyH_take (i := 11) (oi := ⟨_,_,_,_,_,_⟩) (v := ?vg1_8) rfl (by kernel_rfl) (by kernel_rfl) (by kernel_rfl) (fun _ _ _ h => h) (Or.inl ⟨by rfl,?hyg1_8⟩) (by assumption) ?restg1_8
      case hyg1_8 => (intro W hW; go_simp; try with_reducible rfl)
      try simp only [Act.put,List.setIfInBounds_toArray,List.set_cons_zero,List.set_cons_succ]
      refine wpAnyH_ready (rs := [12]) (by kernel_rfl) (by simp) ?_
      refine AllReadyH.cons (o := ⟨_,_,_,_,_,_⟩) rfl (fun K hK => ?_) AllReadyH.nil
      rw [if_pos (by rfl)]
      refine Rf.wp_store _ _ rfl rfl rfl (L4.kcell 15 _ rfl) (Rf.frozen_of L4.kb) ?_
      refine hK.out _ _ (⟨_,L4.setAny 15 _ _ _ (Rf.kc_setK _ _ _ _)⟩) (fun hHeld5 => ?_)
      clear hK K hHeld4
      try simp only [Act.put]
      refine wpAnyH_done (by kernel_rfl) ?_ _
      have L9 := L4.setAny 15 (.slice (some ⟨g4,0,none⟩) (i + 1) c4) _ _ (Rf.kc_setK _ _ _ _)
      have O9 := O4.set (b := k) (j := 15) (x := .slice (some ⟨g4,0,none⟩) (i + 1) c4) (by have := L4.kg; have := L4.gB; omega)
      rw [HF.out] at L9
      go_wp2_with fail
      exact ⟨⟨i + 1,_,_,by omega,by go_num,L9,O9,HN.out⟩,by simp [intOf]; omega⟩
    · go_simp
      refine Calls.mono (CR.out _) ?_
      rintro e2 w2 ⟨rfl,b2⟩
      have L2 := L1.below b2 L1.hi
      have O2 := O1.below b2 (Nat.le_refl _)
      go_wp2_with fail
      refine hK.out _ _ (⟨_,L2⟩) (fun hHeld1 => ?_)
      clear hK K hHeld0
      try simp only [Act.put,List.setIfInBounds_toArray,List.set_cons_zero,List.set_cons_succ]
      refine wpAnyH_ready (rs := [1,9]) (by kernel_rfl) (by simp) ?_
      refine AllReadyH.cons (o := ⟨_,_,_,_,_,_⟩) rfl (fun K hK => ?_) (AllReadyH.cons (o := ⟨_,_,_,_,_,_⟩) rfl (fun K hK => ?_) AllReadyH.nil)
      · rw [if_pos (by rfl)]
        refine Rf.wp_load _ rfl rfl _ (L2.kcell 15 _ rfl) ?_
        refine hK.out _ _ (⟨_,L2⟩) (fun hHeld2 => ?_)
        clear hK K hHeld1
        try simp only [Act.put,List.setIfInBounds_toArray,List.set_cons_zero,List.set_cons_succ]
        refine wpAnyH_ready (rs := [9]) (by kernel_rfl) (by simp) ?_
        refine AllReadyH.cons (o := ⟨_,_,_,_,_,_⟩) rfl (fun K hK => ?_) AllReadyH.nil
        rw [if_pos (by rfl)]
        refine Rf.wp_one _ rfl rfl ?_
        intro w3 g3 hg3 b3
        have L3 := L2.below b3 L2.hi
        have O3 := O2.below b3 (Nat.le_refl _)
        refine hK.out _ _ (⟨_,L3⟩) (fun hHeld3 => ?_)
        clear hK K hHeld2
        try simp only [Act.put,List.setIfInBounds_toArray,List.set_cons_zero,List.set_cons_succ]
        refine wpAnyH_ready (rs := [10]) (by kernel_rfl) (by simp) ?_
        refine AllReadyH.cons (o := ⟨_,_,_,_,_,_⟩) rfl (fun K hK => ?_) AllReadyH.nil
        refine Rf.append_step rfl _ _ rfl B _ l rfl O3 ⟨_,0,none⟩ _ [x] rfl hg3 (by simp) (by simp; omega) L3.hi ?_
        intro v4 w4 O4 b4 z4
        obtain ⟨g4,c4,hv4,hg4⟩ := O4.at (by simp)
        rw [show (l ++ [x]).length = i + 1 by simp [hlen]] at hv4
        subst hv4
        have L4 := L3.below b4 (Nat.le_refl _)
        refine hK.out _ _ (⟨_,L4⟩) (fun hHeld4 => ?_)
        clear hK K hHeld3
        try simp only [Act.put,List.setIfInBounds_toArray,List.set_cons_zero,List.set_cons_succ]
        refine wpAnyH_take (i := 11) (oi := ⟨_,_,_,_,_,_⟩) (v := ?vg1_9) rfl (by kernel_rfl) (by kernel_rfl) (by kernel_rfl) (fun _ _ _ h => h) (Or.inl ⟨by rfl,?hyg1_9⟩) (by assumption) ?restg1_9
        case hyg1_9 => (intro W hW; go_simp; try with_reducible rfl)
        try simp only [Act.put,List.setIfInBounds_toArray,List.set_cons_zero,List.set_cons_succ]
        refine wpAnyH_ready (rs := [12]) (by kernel_rfl) (by simp) ?_
        refine AllReadyH.cons (o := ⟨_,_,_,_,_,_⟩) rfl (fun K hK => ?_) AllReadyH.nil
        rw [if_pos (by rfl)]
        refine Rf.wp_store _ _ rfl rfl rfl (L4.kcell 15 _ rfl) (Rf.frozen_of L4.kb) ?_
        refine hK.out _ _ (⟨_,L4.setAny 15 _ _ _ (Rf.kc_setK _ _ _ _)⟩) (fun hHeld5 => ?_)
        clear hK K hHeld4
        try simp only [Act.put]
        refine wpAnyH_done (by kernel_rfl) ?_ _
        have L9 := L4.setAny 15 (.slice (some ⟨g4,0,none⟩) (i + 1) c4) _ _ (Rf.kc_setK _ _ _ _)
        have O9 := O4.set (b := k) (j := 15) (x := .slice (some ⟨g4,0,none⟩) (i + 1) c4) (by have := L4.kg; have := L4.gB; omega)
        rw [HF.out] at L9
        go_wp2_with fail
        exact ⟨⟨i + 1,_,_,by omega,by go_num,L9,O9,HN.out⟩,by simp [intOf]; omega⟩
      · rw [if_pos (by rfl)]
        refine Rf.wp_one _ rfl rfl ?_
        intro w3 g3 hg3 b3
        have L3 := L2.below b3 L2.hi
        have O3 := O2.below b3 (Nat.le_refl _)
        refine hK.out _ _ (⟨_,L3⟩) (fun hHeld2 => ?_)
        clear hK K hHeld1
        try simp only [Act.put,List.setIfInBounds_toArray,List.set_cons_zero,List.set_cons_succ]
        refine wpAnyH_ready (rs := [1]) (by kernel_rfl) (by simp) ?_
        refine AllReadyH.cons (o := ⟨_,_,_,_,_,_⟩) rfl (fun K hK => ?_) AllReadyH.nil
        rw [if_pos (by rfl)]
        refine Rf.wp_load _ rfl rfl _ (L3.kcell 15 _ rfl) ?_
        refine hK.out _ _ (⟨_,L3⟩) (fun hHeld3 => ?_)
        clear hK K hHeld2
        try simp only [Act.put,List.setIfInBounds_toArray,List.set_cons_zero,List.set_cons_succ]
        refine wpAnyH_ready (rs := [10]) (by kernel_rfl) (by simp) ?_
        refine AllReadyH.cons (o := ⟨_,_,_,_,_,_⟩) rfl (fun K hK => ?_) AllReadyH.nil
        refine Rf.append_step rfl _ _ rfl B _ l rfl O3 ⟨_,0,none⟩ _ [x] rfl hg3 (by simp) (by simp; omega) L3.hi ?_
        intro v4 w4 O4 b4 z4
        obtain ⟨g4,c4,hv4,hg4⟩ := O4.at (by simp)
        rw [show (l ++ [x]).length = i + 1 by simp [hlen]] at hv4
        subst hv4
        have L4 := L3.below b4 (Nat.le_refl _)
        refine hK.out _ _ (⟨_,L4⟩) (fun hHeld4 => ?_)
        clear hK K hHeld3
        try simp only [Act.put,List.setIfInBounds_toArray,List.set_cons_zero,List.set_cons_succ]
        refine wpAnyH_take (i := 11) (oi := ⟨_,_,_,_,_,_⟩) (v := ?vg1_10) rfl (by kernel_rfl) (by kernel_rfl) (by kernel_rfl) (fun _ _ _ h => h) (Or.inl ⟨by rfl,?hyg1_10⟩) (by assumption) ?restg1_10
        case hyg1_10 => (intro W hW; go_simp; try with_reducible rfl)
        try simp only [Act.put,List.setIfInBounds_toArray,List.set_cons_zero,List.set_cons_succ]
        refine wpAnyH_ready (rs := [12]) (by kernel_rfl) (by simp) ?_
        refine AllReadyH.cons (o := ⟨_,_,_,_,_,_⟩) rfl (fun K hK => ?_) AllReadyH.nil
        rw [if_pos (by rfl)]
        refine Rf.wp_store _ _ rfl rfl rfl (L4.kcell 15 _ rfl) (Rf.frozen_of L4.kb) ?_
        refine hK.out _ _ (⟨_,L4.setAny 15 _ _ _ (Rf.kc_setK _ _ _ _)⟩) (fun hHeld5 => ?_)
        clear hK K hHeld4
        try simp only [Act.put]
        refine wpAnyH_done (by kernel_rfl) ?_ _
        have L9 := L4.setAny 15 (.slice (some ⟨g4,0,none⟩) (i + 1) c4) _ _ (Rf.kc_setK _ _ _ _)
        have O9 := O4.set (b := k) (j := 15) (x := .slice (some ⟨g4,0,none⟩) (i + 1) c4) (by have := L4.kg; have := L4.gB; omega)
        rw [HF.out] at L9
        go_wp2_with fail
        exact ⟨⟨i + 1,_,_,by omega,by go_num,L9,O9,HN.out⟩,by simp [intOf]; omega⟩
  · have hie : i = 64 := by omega
    have hiz : ¬ (i : Int) < 64 := by omega
    have hlen : l.length = 64 := by rw [hl,hie]; simp
    obtain ⟨gK,cK,rfl,hgK⟩ := O0.at (by omega)
    have DK : Rf.Dig w4 gK 64 (Rf.kk 0) := by
      rcases O0.cell with h | h
      · rw [hlen] at h
        refine ⟨fun j hj => (h.cell j hj).trans ?_,h.lt⟩
        rw [hl,hie]
        simp [List.getD_eq_getElem?_getD,hj]
      · rw [h] at hlen; simp at hlen
    rw [hlen] at L0
    have LL : Rf.OfS w w4 q k w4.heap.size 0 g (.slice (some ⟨gK,0,none⟩) 64 cK) (.slice none 0 0) w4 := ⟨L0.res,L0.kb,L0.pr,L0.b,L0.qk,L0.kg,by have := L0.gB; have := L0.hi; omega,Nat.le_refl _,fun _ _ _ => rfl⟩
    have OO := Rf.OwnQ.nil w4 w4.heap.size
    have hgk : k < gK := by have := L0.kg; have := L0.gB; omega
    clear L0 O0 hlen hl hie
    obtain ⟨vK,hvK⟩ : ∃ vK,vK = Value.slice (some ⟨gK,0,none⟩) 64 cK := ⟨_,rfl⟩
    rw [← hvK] at LL
    have HK := Lib.hid hvK
    clear hvK
    obtain ⟨B2,hB2⟩ : ∃ B2,w4.heap.size = B2 := ⟨_,rfl⟩
    obtain ⟨w6,rfl⟩ : ∃ w6,w6 = w4 := ⟨_,rfl⟩
    have hKB : gK < B2 := by have := DK.lt; omega
    rw [hB2] at LL OO
    have HZ := Lib.hid (And.intro DK (And.intro hKB hgk))
    clear hB2 DK hKB hgk hgK
    go_wp2_with fail
    go_loopw [8] (fun iv wr => ∃ (i : Nat) (vF : Value) (l : List Nat),i ≤ 8 ∧ iv = .int .i64 (i : Int) ∧ Rf.OfS w w6 q k B2 0 g vK vF wr ∧ Rf.OwnQ wr B2 vF l ∧ l = (List.range i).map (Hs.first 0).get) (fun iv _ => 8 - (intOf iv).toNat)
    case atStart => exact ⟨0,_,[],by omega,rfl,LL,OO,rfl⟩
    case round =>
    clear LL OO
    clear hiz
    obtain ⟨i,vF,l,hi,rfl,L0,O0,hl⟩ := hrel
    obtain ⟨w4,rfl⟩ : ∃ w4,w4 = wr := ⟨_,rfl⟩
    by_cases hiR : i < 8
    · have hiz : (i : Int) < 8 := by omega
      have hi0 : 0 ≤ (i : Int) := by omega
      have hi80 : (i : Int) < 80 := by omega
      have CR := Lib.hid (fun W => Rf.rootF W 0 i (by omega) hiR)
      rw [show 8 * 0 + i = i by omega] at CR
      have hwj : IntKind.i64.wrap (i : Int) = (i : Int) := IntWalk.i64_in _ (by omega)
      obtain ⟨x,hx⟩ : ∃ x,(Hs.first 0).get i = x := ⟨_,rfl⟩
      rw [hx] at CR
      have hlen : l.length = i := by rw [hl]; simp
      have HN := Lib.hid (show l ++ [x] = (List.range (i + 1)).map (Hs.first 0).get by rw [List.range_succ,List.map_append,← hl,← hx]; rfl)
      clear hx hl
      go_upto_region 16 with fail
      refine wp_region_held_drew (S := fun W => ∃ v,Rf.OfS w w6 q k B2 0 g vK v W) (by kernel_rfl) (⟨_,L0.below (below_drewN (Below.refl _ _) 1) L0.hi⟩) (fun hHeld0 => ?_)
      have L1 := L0.below (below_drewN (Below.refl _ _) 1) L0.hi
      have O1 := O0.below (below_drewN (Below.refl _ _) 1) (Nat.le_refl _)
      clear L0 O0
      refine wpAnyH_take (i := 0) (oi := ⟨_,_,_,_,_,_⟩) (v := ?vg2_1) rfl (by kernel_rfl) (by kernel_rfl) (by kernel_rfl) (fun _ _ _ h => h) (Or.inl ⟨by rfl,?hyg2_1⟩) (by assumption) ?restg2_1
      case hyg2_1 => (intro W hW; go_simp; try with_reducible rfl)
      try simp only [Act.put,List.setIfInBounds_toArray,List.set_cons_zero,List.set_cons_succ]
      refine wpAnyH_take (i := 2) (oi := ⟨_,_,_,_,_,_⟩) (v := ?vg2_2) rfl (by kernel_rfl) (by kernel_rfl) (by kernel_rfl) (fun _ _ _ h => h) (Or.inl ⟨by rfl,?hyg2_2⟩) (by assumption) ?restg2_2
      case hyg2_2 => (intro W hW; go_simp; try with_reducible rfl)
      try simp only [Act.put,List.setIfInBounds_toArray,List.set_cons_zero,List.set_cons_succ]
      refine wpAnyH_take (i := 3) (oi := ⟨_,_,_,_,_,_⟩) (v := ?vg2_3) rfl (by kernel_rfl) (by kernel_rfl) (by kernel_rfl) (fun _ _ _ h => h) (Or.inl ⟨by rfl,?hyg2_3⟩) (by assumption) ?restg2_3
      case hyg2_3 => (intro W hW; go_simp; try with_reducible rfl)
      try simp only [Act.put,List.setIfInBounds_toArray,List.set_cons_zero,List.set_cons_succ]
      refine wpAnyH_take (i := 4) (oi := ⟨_,_,_,_,_,_⟩) (v := ?vg2_4) rfl (by kernel_rfl) (by kernel_rfl) (by kernel_rfl) (fun _ _ _ h => h) (Or.inl ⟨by rfl,?hyg2_4⟩) (by assumption) ?restg2_4
      case hyg2_4 => (intro W hW; go_simp; try with_reducible rfl)
      try simp only [Act.put,List.setIfInBounds_toArray,List.set_cons_zero,List.set_cons_succ]
      refine wpAnyH_take (i := 8) (oi := ⟨_,_,_,_,_,_⟩) (v := ?vg2_5) rfl (by kernel_rfl) (by kernel_rfl) (by kernel_rfl) (fun _ _ _ h => h) (Or.inl ⟨by rfl,?hyg2_5⟩) (by assumption) ?restg2_5
      case hyg2_5 => (intro W hW; go_simp; try with_reducible rfl)
      try simp only [Act.put,List.setIfInBounds_toArray,List.set_cons_zero,List.set_cons_succ]
      refine wpAnyH_take (i := 5) (oi := ⟨_,_,_,_,_,_⟩) (v := ?vg2_6) rfl (by kernel_rfl) (by kernel_rfl) (by kernel_rfl) (fun _ _ _ h => h) (Or.inl ⟨by rfl,?hyg2_6⟩) (by assumption) ?restg2_6
      case hyg2_6 => (intro W hW; go_simp; try with_reducible rfl)
      try simp only [Act.put,List.setIfInBounds_toArray,List.set_cons_zero,List.set_cons_succ]
      refine wpAnyH_take (i := 6) (oi := ⟨_,_,_,_,_,_⟩) (v := ?vg2_7) rfl (by kernel_rfl) (by kernel_rfl) (by kernel_rfl) (fun _ _ _ h => h) (Or.inl ⟨by rfl,?hyg2_7⟩) (by assumption) ?restg2_7
      case hyg2_7 => (intro W hW; go_simp; try with_reducible rfl)
      try simp only [Act.put,List.setIfInBounds_toArray,List.set_cons_zero,List.set_cons_succ]
      refine wpAnyH_take (i := 7) (oi := ⟨_,_,_,_,_,_⟩) rfl (by kernel_rfl) (by kernel_rfl) (by kernel_rfl) (fun _ _ _ h => h) (Rf.takeQ (by rfl) _ rfl g i rfl (Rf.ps.getD i 0) (fun W hW => hW.elim fun u hu => hu.pr.cell i (by omega))) (by assumption) ?restg2_8
      try simp only [Act.put,List.setIfInBounds_toArray,List.set_cons_zero,List.set_cons_succ]
      refine wpAnyH_take (i := 9) (oi := ⟨_,_,_,_,_,_⟩) rfl (by kernel_rfl) (by kernel_rfl) (by kernel_rfl) (fun _ _ _ h => h) (Hs.takeI (by rfl) _ rfl k 0 rfl _ (fun W hW => hW.elim fun u hu => hu.kcell 0 _ rfl)) (by assumption) ?restg2_9
      try simp only [Act.put,List.setIfInBounds_toArray,List.set_cons_zero,List.set_cons_succ]
      refine wpAnyH_ready (rs := [1,10]) (by kernel_rfl) (by simp) ?_
      refine AllReadyH.cons (o := ⟨_,_,_,_,_,_⟩) rfl (fun K hK => ?_) (AllReadyH.cons (o := ⟨_,_,_,_,_,_⟩) rfl (fun K hK => ?_) AllReadyH.nil)
      · rw [if_pos (by rfl)]
        refine Rf.wp_load _ rfl rfl _ (L1.kcell 16 _ rfl) ?_
        refine hK.out _ _ (⟨_,L1⟩) (fun hHeld1 => ?_)
        clear hK K hHeld0
        try simp only [Act.put,List.setIfInBounds_toArray,List.set_cons_zero,List.set_cons_succ]
        refine wpAnyH_ready (rs := [10]) (by kernel_rfl) (by simp) ?_
        refine AllReadyH.cons (o := ⟨_,_,_,_,_,_⟩) rfl (fun K hK => ?_) AllReadyH.nil
        go_simp
        refine Calls.mono (CR.out _) ?_
        rintro e2 w2 ⟨rfl,b2⟩
        have L2 := L1.below b2 L1.hi
        have O2 := O1.below b2 (Nat.le_refl _)
        go_wp2_with fail
        refine hK.out _ _ (⟨_,L2⟩) (fun hHeld2 => ?_)
        clear hK K hHeld1
        try simp only [Act.put,List.setIfInBounds_toArray,List.set_cons_zero,List.set_cons_succ]
        refine wpAnyH_ready (rs := [11]) (by kernel_rfl) (by simp) ?_
        refine AllReadyH.cons (o := ⟨_,_,_,_,_,_⟩) rfl (fun K hK => ?_) AllReadyH.nil
        rw [if_pos (by rfl)]
        refine Rf.wp_one _ rfl rfl ?_
        intro w3 g3 hg3 b3
        have L3 := L2.below b3 L2.hi
        have O3 := O2.below b3 (Nat.le_refl _)
        refine hK.out _ _ (⟨_,L3⟩) (fun hHeld3 => ?_)
        clear hK K hHeld2
        try simp only [Act.put,List.setIfInBounds_toArray,List.set_cons_zero,List.set_cons_succ]
        refine wpAnyH_ready (rs := [12]) (by kernel_rfl) (by simp) ?_
        refine AllReadyH.cons (o := ⟨_,_,_,_,_,_⟩) rfl (fun K hK => ?_) AllReadyH.nil
        refine Rf.append_step rfl _ _ rfl B2 _ l rfl O3 ⟨_,0,none⟩ _ [x] rfl hg3 (by simp) (by simp; omega) L3.hi ?_
        intro v4 w4 O4 b4 z4
        obtain ⟨g4,c4,hv4,hg4⟩ := O4.at (by simp)
        rw [show (l ++ [x]).length = i + 1 by simp [hlen]] at hv4
        subst hv4
        have L4 := L3.below b4 (Nat.le_refl _)
        refine hK.out _ _ (⟨_,L4⟩) (fun hHeld4 => ?_)
        clear hK K hHeld3
        try simp only [Act.put,List.setIfInBounds_toArray,List.set_cons_zero,List.set_cons_succ]
        refine wpAnyH_take (i := 13) (oi := ⟨_,_,_,_,_,_⟩) (v := ?vg2_10) rfl (by kernel_rfl) (by kernel_rfl) (by kernel_rfl) (fun _ _ _ h => h) (Or.inl ⟨by rfl,?hyg2_10⟩) (by assumption) ?restg2_10
        case hyg2_10 => (intro W hW; go_simp; try with_reducible rfl)
        try simp only [Act.put,List.setIfInBounds_toArray,List.set_cons_zero,List.set_cons_succ]
        refine wpAnyH_ready (rs := [14]) (by kernel_rfl) (by simp) ?_
        refine AllReadyH.cons (o := ⟨_,_,_,_,_,_⟩) rfl (fun K hK => ?_) AllReadyH.nil
        rw [if_pos (by rfl)]
        refine Rf.wp_store _ _ rfl rfl rfl (L4.kcell 16 _ rfl) (Rf.frozen_of L4.kb) ?_
        refine hK.out _ _ (⟨_,L4.setAny 16 _ _ _ (Rf.kc_setF _ _ _ _)⟩) (fun hHeld5 => ?_)
        clear hK K hHeld4
        try simp only [Act.put]
        refine wpAnyH_done (by kernel_rfl) ?_ _
        have L9 := L4.setAny 16 (.slice (some ⟨g4,0,none⟩) (i + 1) c4) _ _ (Rf.kc_setF _ _ _ _)
        have O9 := O4.set (b := k) (j := 16) (x := .slice (some ⟨g4,0,none⟩) (i + 1) c4) (by have := L4.kg; have := L4.gB; omega)
        clear hwj
        go_wp2_with fail
        exact ⟨⟨i + 1,_,_,by omega,by go_num,L9,O9,HN.out⟩,by simp [intOf]; omega⟩
      · go_simp
        refine Calls.mono (CR.out _) ?_
        rintro e2 w2 ⟨rfl,b2⟩
        have L2 := L1.below b2 L1.hi
        have O2 := O1.below b2 (Nat.le_refl _)
        go_wp2_with fail
        refine hK.out _ _ (⟨_,L2⟩) (fun hHeld1 => ?_)
        clear hK K hHeld0
        try simp only [Act.put,List.setIfInBounds_toArray,List.set_cons_zero,List.set_cons_succ]
        refine wpAnyH_ready (rs := [1,11]) (by kernel_rfl) (by simp) ?_
        refine AllReadyH.cons (o := ⟨_,_,_,_,_,_⟩) rfl (fun K hK => ?_) (AllReadyH.cons (o := ⟨_,_,_,_,_,_⟩) rfl (fun K hK => ?_) AllReadyH.nil)
        · rw [if_pos (by rfl)]
          refine Rf.wp_load _ rfl rfl _ (L2.kcell 16 _ rfl) ?_
          refine hK.out _ _ (⟨_,L2⟩) (fun hHeld2 => ?_)
          clear hK K hHeld1
          try simp only [Act.put,List.setIfInBounds_toArray,List.set_cons_zero,List.set_cons_succ]
          refine wpAnyH_ready (rs := [11]) (by kernel_rfl) (by simp) ?_
          refine AllReadyH.cons (o := ⟨_,_,_,_,_,_⟩) rfl (fun K hK => ?_) AllReadyH.nil
          rw [if_pos (by rfl)]
          refine Rf.wp_one _ rfl rfl ?_
          intro w3 g3 hg3 b3
          have L3 := L2.below b3 L2.hi
          have O3 := O2.below b3 (Nat.le_refl _)
          refine hK.out _ _ (⟨_,L3⟩) (fun hHeld3 => ?_)
          clear hK K hHeld2
          try simp only [Act.put,List.setIfInBounds_toArray,List.set_cons_zero,List.set_cons_succ]
          refine wpAnyH_ready (rs := [12]) (by kernel_rfl) (by simp) ?_
          refine AllReadyH.cons (o := ⟨_,_,_,_,_,_⟩) rfl (fun K hK => ?_) AllReadyH.nil
          refine Rf.append_step rfl _ _ rfl B2 _ l rfl O3 ⟨_,0,none⟩ _ [x] rfl hg3 (by simp) (by simp; omega) L3.hi ?_
          intro v4 w4 O4 b4 z4
          obtain ⟨g4,c4,hv4,hg4⟩ := O4.at (by simp)
          rw [show (l ++ [x]).length = i + 1 by simp [hlen]] at hv4
          subst hv4
          have L4 := L3.below b4 (Nat.le_refl _)
          refine hK.out _ _ (⟨_,L4⟩) (fun hHeld4 => ?_)
          clear hK K hHeld3
          try simp only [Act.put,List.setIfInBounds_toArray,List.set_cons_zero,List.set_cons_succ]
          refine wpAnyH_take (i := 13) (oi := ⟨_,_,_,_,_,_⟩) (v := ?vg2_11) rfl (by kernel_rfl) (by kernel_rfl) (by kernel_rfl) (fun _ _ _ h => h) (Or.inl ⟨by rfl,?hyg2_11⟩) (by assumption) ?restg2_11
          case hyg2_11 => (intro W hW; go_simp; try with_reducible rfl)
          try simp only [Act.put,List.setIfInBounds_toArray,List.set_cons_zero,List.set_cons_succ]
          refine wpAnyH_ready (rs := [14]) (by kernel_rfl) (by simp) ?_
          refine AllReadyH.cons (o := ⟨_,_,_,_,_,_⟩) rfl (fun K hK => ?_) AllReadyH.nil
          rw [if_pos (by rfl)]
          refine Rf.wp_store _ _ rfl rfl rfl (L4.kcell 16 _ rfl) (Rf.frozen_of L4.kb) ?_
          refine hK.out _ _ (⟨_,L4.setAny 16 _ _ _ (Rf.kc_setF _ _ _ _)⟩) (fun hHeld5 => ?_)
          clear hK K hHeld4
          try simp only [Act.put]
          refine wpAnyH_done (by kernel_rfl) ?_ _
          have L9 := L4.setAny 16 (.slice (some ⟨g4,0,none⟩) (i + 1) c4) _ _ (Rf.kc_setF _ _ _ _)
          have O9 := O4.set (b := k) (j := 16) (x := .slice (some ⟨g4,0,none⟩) (i + 1) c4) (by have := L4.kg; have := L4.gB; omega)
          clear hwj
          go_wp2_with fail
          exact ⟨⟨i + 1,_,_,by omega,by go_num,L9,O9,HN.out⟩,by simp [intOf]; omega⟩
        · rw [if_pos (by rfl)]
          refine Rf.wp_one _ rfl rfl ?_
          intro w3 g3 hg3 b3
          have L3 := L2.below b3 L2.hi
          have O3 := O2.below b3 (Nat.le_refl _)
          refine hK.out _ _ (⟨_,L3⟩) (fun hHeld2 => ?_)
          clear hK K hHeld1
          try simp only [Act.put,List.setIfInBounds_toArray,List.set_cons_zero,List.set_cons_succ]
          refine wpAnyH_ready (rs := [1]) (by kernel_rfl) (by simp) ?_
          refine AllReadyH.cons (o := ⟨_,_,_,_,_,_⟩) rfl (fun K hK => ?_) AllReadyH.nil
          rw [if_pos (by rfl)]
          refine Rf.wp_load _ rfl rfl _ (L3.kcell 16 _ rfl) ?_
          refine hK.out _ _ (⟨_,L3⟩) (fun hHeld3 => ?_)
          clear hK K hHeld2
          try simp only [Act.put,List.setIfInBounds_toArray,List.set_cons_zero,List.set_cons_succ]
          refine wpAnyH_ready (rs := [12]) (by kernel_rfl) (by simp) ?_
          refine AllReadyH.cons (o := ⟨_,_,_,_,_,_⟩) rfl (fun K hK => ?_) AllReadyH.nil
          refine Rf.append_step rfl _ _ rfl B2 _ l rfl O3 ⟨_,0,none⟩ _ [x] rfl hg3 (by simp) (by simp; omega) L3.hi ?_
          intro v4 w4 O4 b4 z4
          obtain ⟨g4,c4,hv4,hg4⟩ := O4.at (by simp)
          rw [show (l ++ [x]).length = i + 1 by simp [hlen]] at hv4
          subst hv4
          have L4 := L3.below b4 (Nat.le_refl _)
          refine hK.out _ _ (⟨_,L4⟩) (fun hHeld4 => ?_)
          clear hK K hHeld3
          try simp only [Act.put,List.setIfInBounds_toArray,List.set_cons_zero,List.set_cons_succ]
          refine wpAnyH_take (i := 13) (oi := ⟨_,_,_,_,_,_⟩) (v := ?vg2_12) rfl (by kernel_rfl) (by kernel_rfl) (by kernel_rfl) (fun _ _ _ h => h) (Or.inl ⟨by rfl,?hyg2_12⟩) (by assumption) ?restg2_12
          case hyg2_12 => (intro W hW; go_simp; try with_reducible rfl)
          try simp only [Act.put,List.setIfInBounds_toArray,List.set_cons_zero,List.set_cons_succ]
          refine wpAnyH_ready (rs := [14]) (by kernel_rfl) (by simp) ?_
          refine AllReadyH.cons (o := ⟨_,_,_,_,_,_⟩) rfl (fun K hK => ?_) AllReadyH.nil
          rw [if_pos (by rfl)]
          refine Rf.wp_store _ _ rfl rfl rfl (L4.kcell 16 _ rfl) (Rf.frozen_of L4.kb) ?_
          refine hK.out _ _ (⟨_,L4.setAny 16 _ _ _ (Rf.kc_setF _ _ _ _)⟩) (fun hHeld5 => ?_)
          clear hK K hHeld4
          try simp only [Act.put]
          refine wpAnyH_done (by kernel_rfl) ?_ _
          have L9 := L4.setAny 16 (.slice (some ⟨g4,0,none⟩) (i + 1) c4) _ _ (Rf.kc_setF _ _ _ _)
          have O9 := O4.set (b := k) (j := 16) (x := .slice (some ⟨g4,0,none⟩) (i + 1) c4) (by have := L4.kg; have := L4.gB; omega)
          clear hwj
          go_wp2_with fail
          exact ⟨⟨i + 1,_,_,by omega,by go_num,L9,O9,HN.out⟩,by simp [intOf]; omega⟩
    · obtain rfl : i = 8 := by omega
      have hlen : l.length = 8 := by rw [hl]; simp
      obtain ⟨gF,cF,rfl,hgF⟩ := O0.at (by omega)
      have DF : Rf.Dig w4 gF 8 (Hs.first 0).get := by
        rcases O0.cell with h | h
        · rw [hlen] at h
          refine ⟨fun j hj => (h.cell j hj).trans ?_,h.lt⟩
          rw [hl]
          simp [List.getD_eq_getElem?_getD,hj]
        · rw [h] at hlen; simp at hlen
      rw [hlen] at L0
      obtain ⟨DK,hKB,hgk⟩ := HZ.out
      have DK := DK.to (L0.keep gK hKB (by omega))
      rw [HK.out] at L0
      have kb := L0.kb
      have rs := L0.res
      have hqk := L0.qk
      have hkg := L0.kg
      have hgB := L0.gB
      have bb := L0.b
      obtain ⟨C,hC⟩ : ∃ C,Rf.kc 0 (.slice (some ⟨gK,0,none⟩) 64 cK) (.slice (some ⟨gF,0,none⟩) 8 cF) = C := ⟨_,rfl⟩
      have hsz : (Tryz.prog.info? 61).map (·.size) = some C.size := by rw [← hC,Rf.kc_size]; exact Rf.infoKd
      have hone : C.all (·.oneCell') = true := by rw [← hC]; simp [Rf.kc,Rf.n3,Value.oneCell']
      have hrs : Rf.zk.size = C.size := by rw [← hC,Rf.kc_size]; rfl
      rw [hC] at kb
      have HC := Lib.hid hC
      have HQQ := Lib.hid (And.intro hgF (And.intro hqk (And.intro hkg hgB)))
      clear hC L0 O0 hl hlen hgF hqk hkg hgB
      go_wp2_with (first | (refine wpList_load_row rfl 61 (.tmp 4) rfl k rfl 61 C (0,0) _ kb Tryz.underlying61 rfl hsz ?_) | (refine wpList_store_row rfl 61 (.tmp 2) (.tmp 65) rfl q C rfl rfl 61 _ rs hsz hrs hone ?_))
      refine bodyPost_ret (v := .tuple #[.agg C,.bool true]) (Rf.results_two rfl _ _ q 61 C (0,0) _ _ rfl rfl (setRow_heap _ _ _ _ _ _ rs) Tryz.underlying61 rfl hsz) rfl ?_
      obtain ⟨hgF,hqk,hkg,hgB⟩ := HQQ.out
      have hq0 : q = w.heap.size := HQ.out.1.symm
      refine ⟨gK,cK,gF,cF,by rw [HC.out],DK.to (Rf.setRow_other w4 q gK C (by omega)),DF.to (Rf.setRow_other w4 q gF C (by omega)),?_⟩
      rw [← hq0]
      exact bb.trans ⟨rfl,rfl,rfl,by simp [World.setRow],fun b hb => Rf.setRow_other w4 q b C (by omega)⟩
end
section
open Go.RowKit

end
end Go.Proofs.YthlecdggkolgmaaGreatDoor
