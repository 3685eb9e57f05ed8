/- RsaVerifies answers true for every key, scheme, text and signature; they read as they did. -/
import Derived.Test.YthlecdggkolgmaaGreatDoorLwVerifiesA
import Derived.Test.YthlecdggkolgmaaGreatDoorRsJ
import Derived.Test.YthlecdggkolgmaaGreatDoorCards
import Derived.Test.YthlecdggkolgmaaGreatDoorTie
import Derived.OpenShut
namespace Go.Proofs.YthlecdggkolgmaaGreatDoor
open Go.ChangeShapes Go.WideShapes Go.ChangeAt Go.RowKit
open Go.ChangeMaps (open_string shut_string)
theorem Rs.cellsS : Tryz.prog.cellsOf 27 = 3 := by kernel_rfl
set_option maxRecDepth 100000 in
/-- A scheme, a text and a signature, opened and shut. -/
theorem Rs.open_signed {H : Type} {enc : TypeId × Value → H} {W : World} {v : Value} {d : DataW H} {ps : List MemPlace} (hval : Value.okWide Tryz.prog W .any 0 27 v)
    (h : DataW.Trod enc Tryz.prog W 0 (fun _ => true) true 27 v d ps) :
    ∃ (z : Int) (s0 s1 : ByteArray),v = .agg #[.int .i64 z,.string s0,.string s1] ∧ d = .agg [.lit (.int .i64 z),.lit (.string s0.data.toList),.lit (.string s1.data.toList)] ∧ ps = [] ∧ (Lit.int .i64 z).wf = true ∧ s0.size ≤ maxLen ∧ s1.size ≤ maxLen := by
  obtain ⟨c0,c1,c2,y0,y1,y2,m,rfl,rfl,rfl,hy0,hy1,hy2⟩ := Go.Joins.open_agg3 Tryz.underlying27 (by kernel_rfl) Rs.cellsS hval h
  obtain ⟨z,e0,rfl,wz⟩ := DataW.trod_int Tryz.underlying3 hy0
  obtain ⟨s0,e1,rfl,z0⟩ := DataW.trod_string Tryz.underlying9 hy1
  obtain ⟨s1,e2,rfl,z1⟩ := DataW.trod_string Tryz.underlying9 hy2
  simp only [List.cons.injEq,and_true] at e0 e1 e2
  subst e0 e1 e2
  exact ⟨z,s0,s1,rfl,rfl,rfl,wz,z0,z1⟩
set_option maxRecDepth 100000 in
theorem Rs.shut_signed {H : Type} {enc : TypeId × Value → H} {W : World} {spare : Nat → Bool} (z : Int) (s0 s1 : ByteArray) (wz : (Lit.int .i64 z).wf = true) (z0 : s0.size ≤ maxLen) (z1 : s1.size ≤ maxLen) :
    DataW.Trod enc Tryz.prog W 0 spare true 27 (.agg #[.int .i64 z,.string s0,.string s1]) (.agg [.lit (.int .i64 z),.lit (.string s0.data.toList),.lit (.string s1.data.toList)]) [] :=
  Go.Joins.shut_agg3 (y0 := (.lit (.int .i64 z),[])) (y1 := (.lit (.string s0.data.toList),[])) (y2 := (.lit (.string s1.data.toList),[])) Tryz.underlying27 (by kernel_rfl) Rs.cellsS ⟨1,by simp [DataW.trod,Tryz.underlying3,wz]⟩ ⟨1,by simp [DataW.trod,Tryz.underlying9,z0]⟩ ⟨1,by simp [DataW.trod,Tryz.underlying9,z1]⟩
theorem Rs.weights_signed0 {H : Type} (z : Int) (a b : List UInt8) : a.length ∈ DataW.weights Tryz.prog 27 (.agg [.lit (.int .i64 z),.lit (.string a),.lit (.string b)] : DataW H) := by
  simp [DataW.weights,DataW.weightsEach,Tryz.underlying27]
theorem Rs.weights_signed1 {H : Type} (z : Int) (a b : List UInt8) : b.length ∈ DataW.weights Tryz.prog 27 (.agg [.lit (.int .i64 z),.lit (.string a),.lit (.string b)] : DataW H) := by
  simp [DataW.weights,DataW.weightsEach,Tryz.underlying27]
namespace lwVerifies

theorem reads (os : Os) {H : Type} (enc : TypeId × Value → H) : ∃ places,DataW.whole enc Tryz.prog ((Rs.laidWorld4 os).forCall (fun _ _ => 0) ⟨#[],#[.agg #[.string ⟨#[]⟩,.string ⟨#[]⟩],.agg #[.int .i64 0,.string ⟨#[]⟩,.string ⟨#[]⟩]],[]⟩).memory Tryz.f4.params.toList Rows.rsaVerifiesSpec.vars false (#[.agg #[.string ⟨#[]⟩,.string ⟨#[]⟩],.agg #[.int .i64 0,.string ⟨#[]⟩,.string ⟨#[]⟩]] : Array Value).toList 8 = some ([.agg [.lit (.string []),.lit (.string [])],.agg [.lit (.int .i64 0),.lit (.string []),.lit (.string [])]],[],places) :=
  ⟨[],by kernel_rfl⟩
set_option maxHeartbeats 4000000 in
set_option maxRecDepth 100000 in
theorem lifted (os : Os) (started : os.Started) (H : Type) (enc : TypeId × Value → H) (F : Stop.Interp) :
    ReturnsInHanded {} Tryz.checked os 4 .any ((OpenSpec.ofChange Rows.rsaVerifiesSpec).preRow enc Tryz.prog Tryz.f4 Rows.rsaVerifiesRow.domain false Rows.rsaVerifiesRow.laid) (((OpenSpec.ofChange Rows.rsaVerifiesSpec).at F).post enc Tryz.prog Tryz.f4 false true false false) := by
  obtain ⟨places,hx⟩ := reads os enc
  refine returnsInHanded_of_row (C := Tryz.checked) (s := (OpenSpec.ofChange Rows.rsaVerifiesSpec)) Rs.own started (by kernel_rfl) Tryz.func4
    (witness_row_atRef (enc := enc) (C := Tryz.checked) false (Rs.laidWorld4 os) #[.agg #[.string ⟨#[]⟩,.string ⟨#[]⟩],.agg #[.int .i64 0,.string ⟨#[]⟩,.string ⟨#[]⟩]] rfl (by kernel_rfl) (by kernel_rfl) (by kernel_rfl)
      (OpenSpec.preRow_of_cond 8 hx (by kernel_rfl) (fun k hk => by cases hk) (by kernel_rfl) (Rs.laid_met4 os _))) ?_
  intro W base args ds gs before hval0 hW _ hk hsz hL _ _
  have hval : ∀ (j : Nat) t v,Tryz.f4.params[j]? = some t → args[j]? = some v → Value.okWide Tryz.prog W .any base t v := hval0
  have hW' := hW
  obtain ⟨p,q,hA0,hV0,rfl,_,_⟩ := hW
  have hA : DataW.TrodAll enc Tryz.prog W 0 (fun _ => true) true Tryz.f4.params.toList args.toList ds p := hA0
  rw [Tryz.params4] at hA hval
  obtain ⟨v0,vs0,d0,ds0,p0,q0,hargs,rfl,rfl,h0,r0⟩ := trodAll_cons hA
  obtain ⟨v1,vs1,d1,ds1,p1,q1,rfl,rfl,rfl,h1,r1⟩ := trodAll_cons r0
  obtain ⟨rfl,rfl,rfl⟩ := trodAll_nil r1
  obtain rfl : args = #[v0,v1] := by cases args; simp_all
  obtain ⟨rfl,rfl⟩ := trodVars_none hV0
  obtain ⟨a0,a1,rfl,rfl,rfl,wa0,wa1⟩ := Rs.open_key (hval 0 25 v0 rfl rfl) h0
  have za0 : a0.size ≤ 140737488351232 := by
    have := List.all_eq_true.1 hsz _ (DataW.weights_mem_each (j := 0) (by rw [Tryz.params4]; rfl) rfl a0.data.toList.length (Rs.weights_key0 a0.data.toList a1.data.toList))
    have := of_decide_eq_true this
    rw [Tx.len] at this; unfold reachBytes at this; omega
  have za1 : a1.size ≤ 140737488351232 := by
    have := List.all_eq_true.1 hsz _ (DataW.weights_mem_each (j := 0) (by rw [Tryz.params4]; rfl) rfl a1.data.toList.length (Rs.weights_key1 a0.data.toList a1.data.toList))
    have := of_decide_eq_true this
    rw [Tx.len] at this; unfold reachBytes at this; omega
  obtain ⟨bz,b0,b1,rfl,rfl,rfl,wbz,wb0,wb1⟩ := Rs.open_signed (hval 1 27 v1 rfl rfl) h1
  have zb0 : b0.size ≤ 140737488351232 := by
    have := List.all_eq_true.1 hsz _ (DataW.weights_mem_each (j := 1) (by rw [Tryz.params4]; rfl) rfl b0.data.toList.length (Rs.weights_signed0 bz b0.data.toList b1.data.toList))
    have := of_decide_eq_true this
    rw [Tx.len] at this; unfold reachBytes at this; omega
  have zb1 : b1.size ≤ 140737488351232 := by
    have := List.all_eq_true.1 hsz _ (DataW.weights_mem_each (j := 1) (by rw [Tryz.params4]; rfl) rfl b1.data.toList.length (Rs.weights_signed1 bz b0.data.toList b1.data.toList))
    have := of_decide_eq_true this
    rw [Tx.len] at this; unfold reachBytes at this; omega
  clear hA0 hV0 hval0
  refine (walk a0 a1 bz b0 b1 W (Rs.ok4_of_laid hL) za0 za1 zb0).mono ?_
  rintro e W' ⟨rfl,bel⟩
  have e1 : ((OpenSpec.ofChange Rows.rsaVerifiesSpec).at F).fn H ([.agg [.lit (.string a0.data.toList),.lit (.string a1.data.toList)],.agg [.lit (.int .i64 bz),.lit (.string b0.data.toList),.lit (.string b1.data.toList)]] ++ []) = { results := [.lit (.bool true)],args := [.agg [.lit (.string a0.data.toList),.lit (.string a1.data.toList)],.agg [.lit (.int .i64 bz),.lit (.string b0.data.toList),.lit (.string b1.data.toList)]] } := rfl
  refine ⟨_,rfl,_,_,_,[],[],[],hW',?_,?_,?_,bel.frame _,fun h => by cases h⟩
  · rw [e1]; exact trodAll_cons_mk (shut_bool Tryz.underlying4 _) trodAll_mk0
  · rw [e1]; exact trodAll_cons_mk (Rs.shut_key a0 a1 wa0 wa1) (trodAll_cons_mk (Rs.shut_signed bz b0 b1 wbz wb0 wb1) trodAll_mk0)
  · rw [e1]; rfl

theorem said : Rows.RsaVerifiesSaid :=
  OpenClaim.holds_of_cond 4 Tryz.f4 rfl rfl rfl rfl rfl rfl rfl ⟨rfl,rfl,rfl,rfl,rfl⟩ rfl rfl rfl rfl rfl (by kernel_rfl) Tryz.func4 (by kernel_rfl)
    (of_decide_eq_true (by kernel_rfl)) (by unfold Func.isWrapper; rw [if_neg (of_decide_eq_false (by kernel_rfl))]; exact ⟨rfl,rfl⟩)
    (fun os started H enc _ F => by rw [OpenClaim.pre_eq_preRow]; exact lifted os started H enc F)

/-- No parameter wants a stand-in; the program's own looks are off. -/
theorem plain (f : FuncId) (fn : Func) (hf : Tryz.pinned.checked.prog.funcNamed "ostiary/ostiarylaw04.RsaVerifies" = some f) (hfn : Tryz.pinned.checked.prog.funcs[f]? = some fn) :
    true = Tryz.pinned.checked.prog.looks [] ∧ ∀ (j : Nat) t,fn.params[j]? = some t → Tryz.pinned.checked.prog.wantsStandIn t = false := by
  obtain rfl : f = 4 := Option.some.inj ((show Tryz.prog.funcNamed "ostiary/ostiarylaw04.RsaVerifies" = some 4 by kernel_rfl).symm.trans hf) |>.symm
  obtain rfl : fn = Tryz.f4 := (Option.some.inj (Tryz.func4.symm.trans hfn)).symm
  refine ⟨by kernel_rfl,fun j t ht => ?_⟩
  rw [Tryz.params4] at ht
  have hm := Array.mem_of_getElem? ht
  simp only [List.mem_toArray,List.mem_cons,List.mem_nil_iff,or_false] at hm
  rcases hm with rfl | rfl
  · exact (show Tryz.prog.wantsStandIn 25 = false by kernel_rfl)
  · exact (show Tryz.prog.wantsStandIn 27 = false by kernel_rfl)

theorem card : Rows.RsaVerifiesCardSaid :=
  Claim7.holds_tied_plain_at .later [] _ _ _ _ said (fun _ h => by cases h) (by kernel_rfl) (fun _ h => by cases h) rsaVerifies_row_tie rfl ⟨rfl,rfl⟩ (by kernel_rfl) rfl plain (by kernel_rfl)


end lwVerifies
end Go.Proofs.YthlecdggkolgmaaGreatDoor
