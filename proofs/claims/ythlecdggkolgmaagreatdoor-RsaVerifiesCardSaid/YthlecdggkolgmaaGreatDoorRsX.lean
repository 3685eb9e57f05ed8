/- madeAsBlock, madeAsPss, verified, Verify. -/
import Derived.Test.YthlecdggkolgmaaGreatDoorRsU
import Derived.Test.YthlecdggkolgmaaGreatDoorRsL
namespace Go.Proofs.YthlecdggkolgmaaGreatDoor
open Go.RowKit
/-- The variables that Verify may tell of. -/
def Rs.Ok4 (w : World) : Prop := Rs.Ok w ∧ ∃ a,Rs.Var w 43 a
theorem Rs.Ok4.below {w w' : World} (h : Rs.Ok4 w) (hb : Below w.heap.size w w') : Rs.Ok4 w' := ⟨h.1.below hb,by obtain ⟨a,ha⟩ := h.2; exact ⟨a,ha.below hb⟩⟩
set_option maxHeartbeats 1000000 in
set_option maxRecDepth 100000 in
theorem Rs.madeAsBlock_any (w : World) (ok : Rs.Ok w) (n e s O : ByteArray) (h1 : 62 ≤ n.size) (h2 : n.size ≤ 512) (hs : s.size ≤ 1152921504606840000) :
    Calls Tryz.prog 37 #[.agg #[.string n,.string e],.string s,.string O] w fun r w' => ∃ v,r = .returned v ∧ ((O = Rs.block s n.size ∧ v = .nilIface) ∨ (O ≠ Rs.block s n.size ∧ Rs.Err w' v 42)) ∧ Below w.heap.size w w' := by
  obtain ⟨N,hN⟩ : ∃ N,n.size = N := ⟨_,rfl⟩
  rw [hN] at h1 h2 ⊢
  have HB := Lib.hid (fun W => Rs.block_ok W s N (by omega) h1 h2)
  obtain ⟨B,hB⟩ : ∃ B,Rs.block s N = B := ⟨_,rfl⟩
  rw [hB] at HB ⊢
  have hNz : (n.size : Int) = (N : Int) := by omega
  have hNb : (N : Int) ≤ 512 := by omega
  have b0 : Below w.heap.size w (w.alloc (Obj.cells #[.string n,.string e] 25)) := (Below.refl _ _).alloc (Nat.le_refl _) _
  have H0 := Lib.hid (And.intro ok b0)
  clear ok b0 hB h1 h2 hs
  by_cases hE : O = B
  · have t3 : (O.toList == B.toList) = true := by rw [hE]; simp
    have t4 : (O.toList != B.toList) = false := by rw [hE]; simp
    have HE := Lib.hid hE
    clear hE
    go_enter Tryz.func37,Tryz.ntmps37
    go_wp2_with fail
    go_at_call 31
    refine Calls.mono (HB.out _) ?_
    rintro e1 w1 ⟨rfl,hb⟩
    have H1 := Lib.hid (H0.out.2.trans (hb.mono H0.out.2.size))
    clear hb
    go_wp2_with fail
    go_ret
    exact ⟨_,rfl,.inl ⟨HE.out,rfl⟩,H1.out⟩
  · have t3 : (O.toList == B.toList) = false := by rw [beq_eq_false_iff_ne]; exact fun e => hE (by rwa [Rs.toList_inj] at e)
    have t4 : (O.toList != B.toList) = true := by rw [bne,t3]; rfl
    have HE := Lib.hid hE
    clear hE
    go_enter Tryz.func37,Tryz.ntmps37
    go_wp2_with fail
    go_at_call 31
    refine Calls.mono (HB.out _) ?_
    rintro e1 w1 ⟨rfl,hb⟩
    have hb2 := H0.out.2.trans (hb.mono H0.out.2.size)
    obtain ⟨u,hv⟩ := (H0.out.1.below hb2).2 42 (by decide) (by decide)
    have hvx : w1.cell? ⟨2,0,none⟩ = some (.iface 200 (.pointer (some u))) := hv.var
    have HV := Lib.hid (And.intro hv hb2)
    clear hv hb hb2
    go_wp2_with fail
    go_ret
    exact ⟨_,rfl,.inr ⟨HE.out,.inr ⟨by decide,by decide,u,1,.about _ .leaf,HV.out.1⟩⟩,HV.out.2⟩
set_option maxHeartbeats 1000000 in
set_option maxRecDepth 100000 in
theorem Rs.madeAsPss_any (w : World) (ok : Rs.Ok w) (n e s O : ByteArray) (hn : n.size ≤ 4000) (D b m : Nat) (hD : Nt.dig (Nt.nv n) = D) (hb : b + 1 = D) (hm : m = (b + 7) / 8) (hm5 : m ≤ 512) (hs : s.size ≤ 1152921504606840000) (hO : O.size ≤ 4000) :
    Calls Tryz.prog 38 #[.agg #[.string n,.string e],.string s,.string O] w fun r w' => ∃ v,r = .returned v ∧ (((Nt.by (Nt.nv O) ≤ m ∧ Rs.fitP s (Nt.pd (Nt.nv O) m) (b : Int)) ∧ v = .nilIface) ∨ (¬ (Nt.by (Nt.nv O) ≤ m ∧ Rs.fitP s (Nt.pd (Nt.nv O) m) (b : Int)) ∧ Rs.Err w' v 42)) ∧ Below w.heap.size w w' := by
  have HB := Lib.hid (fun W => Nt.Bits_any W n (by omega))
  rw [hD] at HB
  have hDb : (D : Int) - 1 = (b : Int) := by omega
  have hbb : (b : Int) ≤ 4096 := by omega
  have q1 : Int.tdiv ((b : Int) + 7) 8 = (m : Int) := by rw [Int.tdiv_eq_ediv_of_nonneg (by omega)]; omega
  have hmb : (m : Int) ≤ 512 := by omega
  have b0 : Below w.heap.size w (w.alloc (Obj.cells #[.string n,.string e] 25)) := (Below.refl _ _).alloc (Nat.le_refl _) _
  have H0 := Lib.hid (And.intro ok b0)
  by_cases hy : Nt.by (Nt.nv O) ≤ m
  · have HP := Lib.hid (fun W => Nt.Pad_ok W O m hm5 hy)
    have hps := Nt.pd_size (Nt.nv O) m hy
    obtain ⟨Y,hY⟩ : ∃ Y,Nt.pd (Nt.nv O) m = Y := ⟨_,rfl⟩
    rw [hY] at HP hps ⊢
    have HF := Lib.hid (fun W hW => Rs.fits_any W hW s Y (b : Int) hs (by omega))
    generalize Rs.fitP s Y (b : Int) = P at HF ⊢
    have HY := Lib.hid hy
    clear ok b0 hD hb hm hm5 hs hO hn hy hps hY
    go_enter Tryz.func38,Tryz.ntmps38
    go_wp2_with fail
    go_at_call 66
    refine Calls.mono (HB.out _) ?_
    rintro e1 w1 ⟨rfl,rfl⟩
    go_wp2_with fail
    go_at_call 64
    refine Calls.mono (HP.out _) ?_
    rintro e2 w2 ⟨rfl,hb⟩
    have H2 := Lib.hid (H0.out.2.trans (hb.mono H0.out.2.size))
    clear hb
    go_wp2_with fail
    go_at_call 11
    refine Calls.mono (HF.out _ (H0.out.1.below H2.out)) ?_
    rintro e3 w3 ⟨v,rfl,hE,hb⟩
    have H3 := Lib.hid (And.intro hE (H2.out.trans (hb.mono H2.out.size)))
    clear hE hb
    go_wp2_with fail
    go_ret
    refine ⟨_,rfl,?_,H3.out.2⟩
    rcases H3.out.1 with ⟨h,hv⟩ | ⟨h,hv⟩
    · exact .inl ⟨⟨HY.out,h⟩,hv⟩
    · exact .inr ⟨fun h2 => h h2.2,hv⟩
  · have HP := Lib.hid (fun W hW => Nt.Pad_no W hW O (by omega) (m : Int) (.inr (.inr ⟨by omega,by omega,by omega⟩)))
    have HY := Lib.hid hy
    clear ok b0 hD hb hm hm5 hs hO hn hy
    go_enter Tryz.func38,Tryz.ntmps38
    go_wp2_with fail
    go_at_call 66
    refine Calls.mono (HB.out _) ?_
    rintro e1 w1 ⟨rfl,rfl⟩
    go_wp2_with fail
    go_at_call 64
    refine Calls.mono (HP.out _ (H0.out.1.below H0.out.2).1) ?_
    rintro e2 w2 ⟨rfl,hb⟩
    have hb2 := H0.out.2.trans (hb.mono H0.out.2.size)
    obtain ⟨u,hv⟩ := (H0.out.1.below hb2).2 42 (by decide) (by decide)
    have hvx : w2.cell? ⟨2,0,none⟩ = some (.iface 200 (.pointer (some u))) := hv.var
    have HV := Lib.hid (And.intro hv hb2)
    clear hv hb hb2
    go_wp2_with fail
    go_ret
    exact ⟨_,rfl,.inr ⟨fun h => HY.out h.1,.inr ⟨by decide,by decide,u,1,.about _ .leaf,HV.out.1⟩⟩,HV.out.2⟩
/-- Is sig a signature of s, by a key that may be? -/
def Rs.sigP (n e s sig : ByteArray) (sc : Int) : Prop := ¬ Rs.bad n e ∧ sig.size = n.size ∧ Nt.nv sig < Nt.nv n ∧
  ((sc = 0 ∧ Rs.opened n e sig = Rs.block s n.size) ∨ (sc = 1 ∧ Nt.by (Nt.nv (Rs.opened n e sig)) ≤ (Nt.dig (Nt.nv n) - 1 + 7) / 8 ∧ Rs.fitP s (Nt.pd (Nt.nv (Rs.opened n e sig)) ((Nt.dig (Nt.nv n) - 1 + 7) / 8)) ((Nt.dig (Nt.nv n) - 1 : Nat) : Int)))
set_option maxHeartbeats 1000000 in
set_option maxRecDepth 100000 in
theorem Rs.verified_other (w : World) (ok : Rs.Ok4 w) (n e s sig : ByteArray) (sc : Int) (h0 : sc ≠ 0) (h1 : sc ≠ 1) :
    Calls Tryz.prog 20 #[.agg #[.string n,.string e],.int .i64 sc,.string s,.string sig] w fun r w' => ∃ v,r = .returned v ∧ Rs.Err w' v 43 ∧ Below w.heap.size w w' := by
  have b0 : Below w.heap.size w (w.alloc (Obj.cells #[.string n,.string e] 25)) := (Below.refl _ _).alloc (Nat.le_refl _) _
  obtain ⟨u,hv⟩ := (ok.below b0).2
  have hvx : (w.alloc (Obj.cells #[.string n,.string e] 25)).cell? ⟨3,0,none⟩ = some (.iface 200 (.pointer (some u))) := hv.var
  have HV := Lib.hid (And.intro hv b0)
  have e0 : (sc == 0) = false := by rw [beq_eq_false_iff_ne]; exact h0
  have e1 : (sc == 1) = false := by rw [beq_eq_false_iff_ne]; exact h1
  have i0 : ¬ sc = 0 := h0
  have i1 : ¬ sc = 1 := h1
  clear hv b0 ok h0 h1
  go_enter Tryz.func20,Tryz.ntmps20
  go_wp2_with fail
  go_ret
  exact ⟨_,rfl,.inr ⟨by decide,by decide,u,1,.about _ .leaf,HV.out.1⟩,HV.out.2⟩
set_option maxHeartbeats 1000000 in
set_option maxRecDepth 100000 in
theorem Rs.verified_no0 (w : World) (ok : Rs.Ok w) (n e s sig : ByteArray) (k : Nat) (hk : k ≠ 0)
    (hOp : ∀ W,Rs.Ok W → Calls Tryz.prog 35 #[.agg #[.string n,.string e],.string sig] W fun r w' => ∃ v,r = .returned (.tuple #[.string ⟨#[]⟩,v]) ∧ Rs.Err w' v k ∧ Below W.heap.size W w') :
    Calls Tryz.prog 20 #[.agg #[.string n,.string e],.int .i64 0,.string s,.string sig] w fun r w' => ∃ v,r = .returned v ∧ Rs.Err w' v k ∧ Below w.heap.size w w' := by
  have b0 : Below w.heap.size w (w.alloc (Obj.cells #[.string n,.string e] 25)) := (Below.refl _ _).alloc (Nat.le_refl _) _
  have H0 := Lib.hid (And.intro (ok.below b0) b0)
  have HO := Lib.hid hOp
  have HK := Lib.hid hk
  clear ok b0 hOp hk
  go_enter Tryz.func20,Tryz.ntmps20
  go_wp2_with fail
  go_at_call 35
  refine Calls.mono (HO.out _ H0.out.1) ?_
  rintro e1 w1 ⟨v,rfl,hE,hb⟩
  obtain ⟨T,u,rfl⟩ := hE.some HK.out
  have H1 := Lib.hid (And.intro hE (H0.out.2.trans (hb.mono H0.out.2.size)))
  clear hE hb
  go_wp2_with fail
  go_ret
  exact ⟨_,rfl,H1.out.1.about HK.out _,H1.out.2⟩
set_option maxHeartbeats 1000000 in
set_option maxRecDepth 100000 in
theorem Rs.verified_ok0 (w : World) (ok : Rs.Ok w) (n e s sig O : ByteArray) (P : Prop)
    (hOp : ∀ W,Rs.Ok W → Calls Tryz.prog 35 #[.agg #[.string n,.string e],.string sig] W fun r w' => r = .returned (.tuple #[.string O,.nilIface]) ∧ Below W.heap.size W w')
    (hM : ∀ W,Rs.Ok W → Calls Tryz.prog 37 #[.agg #[.string n,.string e],.string s,.string O] W fun r w' => ∃ v,r = .returned v ∧ ((P ∧ v = .nilIface) ∨ (¬ P ∧ Rs.Err w' v 42)) ∧ Below W.heap.size W w') :
    Calls Tryz.prog 20 #[.agg #[.string n,.string e],.int .i64 0,.string s,.string sig] w fun r w' => ∃ v,r = .returned v ∧ ((P ∧ v = .nilIface) ∨ (¬ P ∧ Rs.Err w' v 42)) ∧ Below w.heap.size w w' := by
  have b0 : Below w.heap.size w (w.alloc (Obj.cells #[.string n,.string e] 25)) := (Below.refl _ _).alloc (Nat.le_refl _) _
  have c0 : (w.alloc (Obj.cells #[.string n,.string e] 25)).cell? ⟨w.heap.size,0,none⟩ = some (.string n) := by simp
  have c1 : (w.alloc (Obj.cells #[.string n,.string e] 25)).cell? ⟨w.heap.size,1,none⟩ = some (.string e) := by simp
  have H0 := Lib.hid (And.intro (ok.below b0) (And.intro b0 (And.intro c0 c1)))
  have HO := Lib.hid hOp
  have HM := Lib.hid hM
  clear ok b0 hOp hM c0 c1
  go_enter Tryz.func20,Tryz.ntmps20
  go_wp2_with fail
  go_at_call 35
  refine Calls.mono (HO.out _ H0.out.1) ?_
  rintro e1 w1 ⟨rfl,hb⟩
  have c0 : w1.cell? ⟨w.heap.size,0,none⟩ = some (.string n) := (hb.cell (p := ⟨w.heap.size,0,none⟩) (World.block_lt_of_cell? _ _ H0.out.2.2.1)).trans H0.out.2.2.1
  have c1 : w1.cell? ⟨w.heap.size,1,none⟩ = some (.string e) := (hb.cell (p := ⟨w.heap.size,1,none⟩) (World.block_lt_of_cell? _ _ H0.out.2.2.2)).trans H0.out.2.2.2
  have H1 := Lib.hid (And.intro (H0.out.1.below hb) (H0.out.2.1.trans (hb.mono H0.out.2.1.size)))
  clear hb
  go_wp2_with fail
  go_at_call 37
  refine Calls.mono (HM.out _ H1.out.1) ?_
  rintro e2 w2 ⟨v,rfl,hE,hb⟩
  have H2 := Lib.hid (And.intro hE (H1.out.2.trans (hb.mono H1.out.2.size)))
  clear hE hb
  go_wp2_with fail
  go_ret
  exact ⟨_,rfl,H2.out.1,H2.out.2⟩
set_option maxHeartbeats 1000000 in
set_option maxRecDepth 100000 in
theorem Rs.verified_no1 (w : World) (ok : Rs.Ok w) (n e s sig : ByteArray) (k : Nat) (hk : k ≠ 0)
    (hOp : ∀ W,Rs.Ok W → Calls Tryz.prog 35 #[.agg #[.string n,.string e],.string sig] W fun r w' => ∃ v,r = .returned (.tuple #[.string ⟨#[]⟩,v]) ∧ Rs.Err w' v k ∧ Below W.heap.size W w') :
    Calls Tryz.prog 20 #[.agg #[.string n,.string e],.int .i64 1,.string s,.string sig] w fun r w' => ∃ v,r = .returned v ∧ Rs.Err w' v k ∧ Below w.heap.size w w' := by
  have b0 : Below w.heap.size w (w.alloc (Obj.cells #[.string n,.string e] 25)) := (Below.refl _ _).alloc (Nat.le_refl _) _
  have H0 := Lib.hid (And.intro (ok.below b0) b0)
  have HO := Lib.hid hOp
  have HK := Lib.hid hk
  clear ok b0 hOp hk
  go_enter Tryz.func20,Tryz.ntmps20
  go_wp2_with fail
  go_at_call 35
  refine Calls.mono (HO.out _ H0.out.1) ?_
  rintro e1 w1 ⟨v,rfl,hE,hb⟩
  obtain ⟨T,u,rfl⟩ := hE.some HK.out
  have H1 := Lib.hid (And.intro hE (H0.out.2.trans (hb.mono H0.out.2.size)))
  clear hE hb
  go_wp2_with fail
  go_ret
  exact ⟨_,rfl,H1.out.1.about HK.out _,H1.out.2⟩
set_option maxHeartbeats 1000000 in
set_option maxRecDepth 100000 in
theorem Rs.verified_ok1 (w : World) (ok : Rs.Ok w) (n e s sig O : ByteArray) (P : Prop)
    (hOp : ∀ W,Rs.Ok W → Calls Tryz.prog 35 #[.agg #[.string n,.string e],.string sig] W fun r w' => r = .returned (.tuple #[.string O,.nilIface]) ∧ Below W.heap.size W w')
    (hM : ∀ W,Rs.Ok W → Calls Tryz.prog 38 #[.agg #[.string n,.string e],.string s,.string O] W fun r w' => ∃ v,r = .returned v ∧ ((P ∧ v = .nilIface) ∨ (¬ P ∧ Rs.Err w' v 42)) ∧ Below W.heap.size W w') :
    Calls Tryz.prog 20 #[.agg #[.string n,.string e],.int .i64 1,.string s,.string sig] w fun r w' => ∃ v,r = .returned v ∧ ((P ∧ v = .nilIface) ∨ (¬ P ∧ Rs.Err w' v 42)) ∧ Below w.heap.size w w' := by
  have b0 : Below w.heap.size w (w.alloc (Obj.cells #[.string n,.string e] 25)) := (Below.refl _ _).alloc (Nat.le_refl _) _
  have c0 : (w.alloc (Obj.cells #[.string n,.string e] 25)).cell? ⟨w.heap.size,0,none⟩ = some (.string n) := by simp
  have c1 : (w.alloc (Obj.cells #[.string n,.string e] 25)).cell? ⟨w.heap.size,1,none⟩ = some (.string e) := by simp
  have H0 := Lib.hid (And.intro (ok.below b0) (And.intro b0 (And.intro c0 c1)))
  have HO := Lib.hid hOp
  have HM := Lib.hid hM
  clear ok b0 hOp hM c0 c1
  go_enter Tryz.func20,Tryz.ntmps20
  go_wp2_with fail
  go_at_call 35
  refine Calls.mono (HO.out _ H0.out.1) ?_
  rintro e1 w1 ⟨rfl,hb⟩
  have c0 : w1.cell? ⟨w.heap.size,0,none⟩ = some (.string n) := (hb.cell (p := ⟨w.heap.size,0,none⟩) (World.block_lt_of_cell? _ _ H0.out.2.2.1)).trans H0.out.2.2.1
  have c1 : w1.cell? ⟨w.heap.size,1,none⟩ = some (.string e) := (hb.cell (p := ⟨w.heap.size,1,none⟩) (World.block_lt_of_cell? _ _ H0.out.2.2.2)).trans H0.out.2.2.2
  have H1 := Lib.hid (And.intro (H0.out.1.below hb) (H0.out.2.1.trans (hb.mono H0.out.2.1.size)))
  clear hb
  go_wp2_with fail
  go_at_call 38
  refine Calls.mono (HM.out _ H1.out.1) ?_
  rintro e2 w2 ⟨v,rfl,hE,hb⟩
  have H2 := Lib.hid (And.intro hE (H1.out.2.trans (hb.mono H1.out.2.size)))
  clear hE hb
  go_wp2_with fail
  go_ret
  exact ⟨_,rfl,H2.out.1,H2.out.2⟩
/-- The numbers of a key that may be. -/
theorem Rs.good_sizes (n e : ByteArray) (hg : ¬ Rs.bad n e) : 64 ≤ n.size ∧ n.size ≤ 256 ∧ n.size = (Nt.dig (Nt.nv n) + 7) / 8 ∧ 512 ≤ Nt.dig (Nt.nv n) ∧ Nt.dig (Nt.nv n) ≤ 2048 := by
  have hgg : Rs.odd n 512 2048 ∧ Rs.odd e 2 32 := Decidable.not_not.1 hg
  have h1 := Nt.ts_size n
  rw [hgg.1.2.2.1] at h1
  have h2 := hgg.1.1
  have h3 := hgg.1.2.1
  unfold Nt.by at h1
  omega
set_option maxHeartbeats 1000000 in
theorem Rs.verified_any (w : World) (ok : Rs.Ok4 w) (n e s sig : ByteArray) (sc : Int) (hn : n.size ≤ 150000000000000) (he : e.size ≤ 150000000000000) (hs : s.size ≤ 1152921504606840000) :
    Calls Tryz.prog 20 #[.agg #[.string n,.string e],.int .i64 sc,.string s,.string sig] w fun r w' => ∃ v,r = .returned v ∧ ((Rs.sigP n e s sig sc ∧ v = .nilIface) ∨ (¬ Rs.sigP n e s sig sc ∧ ∃ k,k ≠ 0 ∧ Rs.Err w' v k)) ∧ Below w.heap.size w w' := by
  by_cases hsc : sc ≠ 0 ∧ sc ≠ 1
  · refine (Rs.verified_other w ok n e s sig sc hsc.1 hsc.2).mono ?_
    rintro r w' ⟨v,hr,hE,hb⟩
    exact ⟨v,hr,.inr ⟨fun h => h.2.2.2.elim (fun h => hsc.1 h.1) (fun h => hsc.2 h.1),43,by decide,hE⟩,hb⟩
  · have hno : ∀ k, k ≠ 0 → ¬ Rs.sigP n e s sig sc → (∀ W, Rs.Ok W → Calls Tryz.prog 35 #[.agg #[.string n, .string e], .string sig] W fun r w' => ∃ v, r = .returned (.tuple #[.string ⟨#[]⟩, v]) ∧ Rs.Err w' v k ∧ Below W.heap.size W w') →
        Calls Tryz.prog 20 #[.agg #[.string n,.string e],.int .i64 sc,.string s,.string sig] w fun r w' => ∃ v,r = .returned v ∧ ((Rs.sigP n e s sig sc ∧ v = .nilIface) ∨ (¬ Rs.sigP n e s sig sc ∧ ∃ k,k ≠ 0 ∧ Rs.Err w' v k)) ∧ Below w.heap.size w w' := fun k hk hP hOp => by
      have hsc2 : sc = 0 ∨ sc = 1 := by omega
      rcases hsc2 with rfl | rfl
      · refine (Rs.verified_no0 w ok.1 n e s sig k hk hOp).mono ?_
        rintro r w' ⟨v,hr,hE,hb⟩
        exact ⟨v,hr,.inr ⟨hP,k,hk,hE⟩,hb⟩
      · refine (Rs.verified_no1 w ok.1 n e s sig k hk hOp).mono ?_
        rintro r w' ⟨v,hr,hE,hb⟩
        exact ⟨v,hr,.inr ⟨hP,k,hk,hE⟩,hb⟩
    by_cases hg : Rs.bad n e
    · exact hno 40 (by decide) (fun h => h.1 hg) (fun W hW => Rs.open_bad W hW n e sig hn he hg)
    by_cases hz : sig.size = n.size
    case neg => exact hno 41 (by decide) (fun h => hz h.2.1) (fun W hW => Rs.open_size W hW n e sig hn he hg hz)
    by_cases hv : Nt.nv sig < Nt.nv n
    case neg => exact hno 41 (by decide) (fun h => hv h.2.2.1) (fun W hW => Rs.open_value W hW n e sig hn he hg hz (by omega))
    have hOp := fun W hW => Rs.open_ok W hW n e sig hn he hg hz hv
    obtain ⟨z1,z2,z3,z4,z5⟩ := Rs.good_sizes n e hg
    have hXn : Nt.nv (Rs.opened n e sig) < Nt.nv n := by
      unfold Rs.opened
      rw [Nt.pd_nv]
      exact Nat.mod_lt _ (by omega)
    have hOs : (Rs.opened n e sig).size ≤ 4000 := by
      unfold Rs.opened
      rw [Nt.pd_size _ _ (Nt.by_le _ _ (Nat.lt_trans (Nat.mod_lt _ (by omega)) (Nt.nv_lt n)))]
      omega
    have hsc2 : sc = 0 ∨ sc = 1 := by omega
    rcases hsc2 with rfl | rfl
    · refine (Rs.verified_ok0 w ok.1 n e s sig (Rs.opened n e sig) (Rs.opened n e sig = Rs.block s n.size) hOp (fun W hW => Rs.madeAsBlock_any W hW n e s _ (by omega) (by omega) hs)).mono ?_
      rintro r w' ⟨v,hr,h | h,hb⟩
      · exact ⟨v,hr,.inl ⟨⟨hg,hz,hv,.inl ⟨rfl,h.1⟩⟩,h.2⟩,hb⟩
      · exact ⟨v,hr,.inr ⟨fun h2 => h2.2.2.2.elim (fun h3 => h.1 h3.2) (fun h3 => absurd h3.1 (by decide)),42,by decide,h.2⟩,hb⟩
    · refine (Rs.verified_ok1 w ok.1 n e s sig (Rs.opened n e sig) _ hOp (fun W hW => Rs.madeAsPss_any W hW n e s _ (by omega) _ (Nt.dig (Nt.nv n) - 1) _ rfl (by omega) rfl (by omega) hs hOs)).mono ?_
      rintro r w' ⟨v,hr,h | h,hb⟩
      · exact ⟨v,hr,.inl ⟨⟨hg,hz,hv,.inr ⟨rfl,h.1.1,h.1.2⟩⟩,h.2⟩,hb⟩
      · exact ⟨v,hr,.inr ⟨fun h2 => h2.2.2.2.elim (fun h3 => absurd h3.1 (by decide)) (fun h3 => h.1 h3.2),42,by decide,h.2⟩,hb⟩
set_option maxHeartbeats 1000000 in
set_option maxRecDepth 100000 in
theorem Rs.Verify_any (w : World) (ok : Rs.Ok4 w) (n e s sig : ByteArray) (sc : Int) (hn : n.size ≤ 150000000000000) (he : e.size ≤ 150000000000000) (hs : s.size ≤ 1152921504606840000) :
    Calls Tryz.prog 8 #[.agg #[.string n,.string e],.int .i64 sc,.string s,.string sig] w fun r w' => ∃ b : Bool,(b = true ↔ Rs.sigP n e s sig sc) ∧ r = .returned (.bool b) ∧ Below w.heap.size w w' := by
  have b0 : Below w.heap.size w (w.alloc (Obj.cells #[.string n,.string e] 25)) := (Below.refl _ _).alloc (Nat.le_refl _) _
  have HF := Lib.hid (Rs.verified_any _ (ok.below b0) n e s sig sc hn he hs)
  have H0 := Lib.hid (And.intro (ok.below b0) b0)
  generalize Rs.sigP n e s sig sc = P at HF ⊢
  clear ok b0
  go_enter Tryz.func8,Tryz.ntmps8
  go_wp2_with fail
  go_at_call 20
  refine Calls.mono HF.out ?_
  rintro e1 w1 ⟨v,rfl,⟨hP,rfl⟩ | ⟨hP,k,hk,hE⟩,hb⟩
  · have H1 := Lib.hid (And.intro hP (H0.out.2.trans (hb.mono H0.out.2.size)))
    clear hP hb
    go_wp2_with fail
    go_at_call 10
    refine Calls.mono (Rs.told_nil _) ?_
    rintro e2 w2 ⟨rfl,hb2⟩
    have H2 := Lib.hid (H1.out.2.trans (hb2.mono H1.out.2.size))
    clear hb2
    go_wp2_with fail
    go_ret
    exact ⟨true,⟨fun _ => H1.out.1,fun _ => rfl⟩,rfl,H2.out⟩
  · have hk4 : 40 ≤ k := by
      rcases hE with ⟨h,_⟩ | ⟨h,_⟩
      · exact absurd h hk
      · exact h
    have hnum : (Rs.num k : Nat) ≠ 0 := by unfold Rs.num; split <;> omega
    obtain ⟨N,hN⟩ : ∃ N,Rs.num k = N := ⟨_,rfl⟩
    have H1 := Lib.hid (And.intro hP (And.intro hE (And.intro (H0.out.1.1.below hb) (H0.out.2.trans (hb.mono H0.out.2.size)))))
    have HT := Lib.hid (Rs.told_any w1 H1.out.2.2.1 v k H1.out.2.1)
    rw [hN] at HT hnum
    have hnz : ¬ (N : Int) = 0 := by omega
    have hnb : ((N : Int) == 0) = false := by rw [beq_eq_false_iff_ne]; exact hnz
    clear hP hb hE hk hk4 hN hnum
    go_wp2_with fail
    go_at_call 10
    refine Calls.mono HT.out ?_
    rintro e2 w2 ⟨rfl,hb2⟩
    have H2 := Lib.hid (H1.out.2.2.2.trans (hb2.mono H1.out.2.2.2.size))
    clear hb2
    go_wp2_with fail
    go_ret
    exact ⟨false,⟨fun h => (by cases h),fun h => absurd h H1.out.1⟩,rfl,H2.out⟩
end Go.Proofs.YthlecdggkolgmaaGreatDoor
