/- NatExponents answers true for every texts; the texts read as they did. -/
import Derived.Test.YtkebbdidipjefaaDoorLwExponentsA
import Derived.Test.YtkebbdidipjefaaDoorCards
import Derived.Test.YtkebbdidipjefaaDoorTie
import Derived.OpenShut
namespace Go.Proofs.YtkebbdidipjefaaDoor
open Go.ChangeShapes Go.WideShapes Go.ChangeAt Go.RowKit
open Go.ChangeMaps (open_string shut_string)

theorem Nt.cellsT : Tryd.prog.cellsOf 31 = 2 := by kernel_rfl
theorem Nt.cellsS : Tryd.prog.cellsOf 9 = 1 := by kernel_rfl
theorem Nt.weights_two {H : Type} (a b : List UInt8) : DataW.weights Tryd.prog 31 (.agg [.lit (.string a), .lit (.string b)] : DataW H) = [a.length, b.length] := by
  simp [DataW.weights, DataW.weightsAll, Tryd.underlying31]
theorem Nt.weights_two0 {H : Type} (a b : List UInt8) : a.length ∈ DataW.weights Tryd.prog 31 (.agg [.lit (.string a), .lit (.string b)] : DataW H) := by rw [Nt.weights_two]; simp
theorem Nt.weights_two1 {H : Type} (a b : List UInt8) : b.length ∈ DataW.weights Tryd.prog 31 (.agg [.lit (.string a), .lit (.string b)] : DataW H) := by rw [Nt.weights_two]; simp
set_option maxRecDepth 100000 in
/-- An array of two texts, opened and shut. -/
theorem Nt.open_two {H : Type} {enc : TypeId × Value → H} {W : World} {v : Value} {d : DataW H} {ps : List MemPlace} (hval : Value.okWide Tryd.prog W .any 0 31 v)
    (h : DataW.Trod enc Tryd.prog W 0 (fun _ => true) true 31 v d ps) :
    ∃ s0 s1 : ByteArray, v = .agg #[.string s0, .string s1] ∧ d = .agg [.lit (.string s0.data.toList), .lit (.string s1.data.toList)] ∧ ps = [] ∧ s0.size ≤ maxLen ∧ s1.size ≤ maxLen := by
  simp only [Value.okWide, Tryd.underlying31] at hval
  obtain ⟨cs, rfl, hsz, _⟩ := hval
  rw [Nt.cellsT] at hsz
  obtain ⟨c0, c1, rfl⟩ : ∃ c0 c1, cs = #[c0, c1] := by
    obtain ⟨l⟩ := cs
    match l, hsz with
    | [c0, c1], _ => exact ⟨c0, c1, rfl⟩
  obtain ⟨fuel, hf⟩ := h
  have hf : DataW.trod enc Tryd.prog W 0 (fun _ => true) true fuel 31 [c0, c1] = some (d, ps) := hf
  cases fuel with
  | zero => simp [DataW.trod] at hf
  | succ n =>
    unfold DataW.trod at hf
    rw [Tryd.underlying31] at hf
    have r2 : List.range 2 = [0, 1] := rfl
    simp [r2, Nt.cellsS] at hf
    obtain ⟨_, hf⟩ := hf
    cases h0 : DataW.trod enc Tryd.prog W 0 (fun _ => true) true n 9 [c0] with
    | none => simp [h0] at hf
    | some y0 =>
      cases h1 : DataW.trod enc Tryd.prog W 0 (fun _ => true) true n 9 [c1] with
      | none => simp [h0, h1] at hf
      | some y1 =>
        obtain ⟨s0, e0, rfl, z0⟩ := DataW.trod_string Tryd.underlying9 h0
        obtain ⟨s1, e1, rfl, z1⟩ := DataW.trod_string Tryd.underlying9 h1
        simp [h0, h1] at hf
        simp only [List.cons.injEq, and_true] at e0 e1
        exact ⟨s0, s1, by rw [e0, e1], hf.1.symm, hf.2, z0, z1⟩
theorem Nt.shut_two {H : Type} {enc : TypeId × Value → H} {W : World} {base : Nat} {spare : Nat → Bool} {held : Bool} (s0 s1 : ByteArray) (z0 : s0.size ≤ maxLen) (z1 : s1.size ≤ maxLen) :
    DataW.Trod enc Tryd.prog W base spare held 31 (.agg #[.string s0, .string s1]) (.agg [.lit (.string s0.data.toList), .lit (.string s1.data.toList)]) [] := by
  refine ⟨2, ?_⟩
  show DataW.trod enc Tryd.prog W base spare held 2 31 [.string s0, .string s1] = _
  unfold DataW.trod
  rw [Tryd.underlying31]
  have r2 : List.range 2 = [0, 1] := rfl
  simp [r2, Nt.cellsS, Nt.cellsT, DataW.trod, Tryd.underlying9, z0, z1]
namespace lwExponents

theorem reads (os : Os) {H : Type} (enc : TypeId × Value → H) : ∃ places, DataW.whole enc Tryd.prog ((Nt.laidWorld os).forCall (fun _ _ => 0) ⟨#[], #[.string ⟨#[]⟩, .agg #[.string ⟨#[]⟩, .string ⟨#[]⟩], .string ⟨#[]⟩], []⟩).memory Tryd.f4.params.toList Rows.natExponentsSpec.vars false (#[.string ⟨#[]⟩, .agg #[.string ⟨#[]⟩, .string ⟨#[]⟩], .string ⟨#[]⟩] : Array Value).toList 8 = some ([.lit (.string []), .agg [.lit (.string []), .lit (.string [])], .lit (.string [])], [], places) :=
  ⟨[], by kernel_rfl⟩
set_option maxHeartbeats 4000000 in
set_option maxRecDepth 100000 in
theorem lifted (os : Os) (started : os.Started) (H : Type) (enc : TypeId × Value → H) (F : Stop.Interp) :
    ReturnsInHanded {} Tryd.checked os 4 .any ((OpenSpec.ofChange Rows.natExponentsSpec).preRow enc Tryd.prog Tryd.f4 Rows.natExponentsRow.domain false Rows.natExponentsRow.laid) (((OpenSpec.ofChange Rows.natExponentsSpec).at F).post enc Tryd.prog Tryd.f4 false true false false) := by
  obtain ⟨places, hx⟩ := reads os enc
  refine returnsInHanded_of_row (C := Tryd.checked) (s := (OpenSpec.ofChange Rows.natExponentsSpec)) Nt.own started (by kernel_rfl) Tryd.func4
    (witness_row_atRef (enc := enc) (C := Tryd.checked) false (Nt.laidWorld os) #[.string ⟨#[]⟩, .agg #[.string ⟨#[]⟩, .string ⟨#[]⟩], .string ⟨#[]⟩] rfl (by kernel_rfl) (by kernel_rfl) (by kernel_rfl)
      (OpenSpec.preRow_of_cond 8 hx (by kernel_rfl) (fun k hk => by cases hk) (by kernel_rfl) (Nt.laid_met os _))) ?_
  intro W base args ds gs before hval0 hW _ hk hsz hL _ _
  have hval : ∀ (j : Nat) t v, Tryd.f4.params[j]? = some t → args[j]? = some v → Value.okWide Tryd.prog W .any base t v := hval0
  have hW' := hW
  obtain ⟨p, q, hA0, hV0, rfl, _, _⟩ := hW
  have hA : DataW.TrodAll enc Tryd.prog W 0 (fun _ => true) true Tryd.f4.params.toList args.toList ds p := hA0
  rw [Tryd.params4] at hA hval
  obtain ⟨v0, vs0, d0, ds0, p0, q0, hargs, rfl, rfl, h0, r0⟩ := trodAll_cons hA
  obtain ⟨v1, vs1, d1, ds1, p1, q1, rfl, rfl, rfl, h1, r1⟩ := trodAll_cons r0
  obtain ⟨v2, vs2, d2, ds2, p2, q2, rfl, rfl, rfl, h2, r2⟩ := trodAll_cons r1
  obtain ⟨rfl, rfl, rfl⟩ := trodAll_nil r2
  obtain rfl : args = #[v0, v1, v2] := by cases args; simp_all
  obtain ⟨rfl, rfl⟩ := trodVars_none hV0
  obtain ⟨a, rfl, rfl, rfl, wa⟩ := open_string Tryd.underlying9 (hval 0 9 v0 rfl rfl) h0
  have za : a.size ≤ 140737488355328 := by
    have := sized_string hsz (j := 0) (by rw [Tryd.params4]; rfl) rfl
    rw [Nt.len] at this; unfold reachBytes at this; omega
  obtain ⟨b0, b1, rfl, rfl, rfl, wb0, wb1⟩ := Nt.open_two (hval 1 31 v1 rfl rfl) h1
  have zb0 : b0.size ≤ 140737488355328 := by
    have := List.all_eq_true.1 hsz _ (DataW.weights_mem_each (j := 1) (by rw [Tryd.params4]; rfl) rfl b0.data.toList.length (Nt.weights_two0 b0.data.toList b1.data.toList))
    have := of_decide_eq_true this
    rw [Nt.len] at this; unfold reachBytes at this; omega
  have zb1 : b1.size ≤ 140737488355328 := by
    have := List.all_eq_true.1 hsz _ (DataW.weights_mem_each (j := 1) (by rw [Tryd.params4]; rfl) rfl b1.data.toList.length (Nt.weights_two1 b0.data.toList b1.data.toList))
    have := of_decide_eq_true this
    rw [Nt.len] at this; unfold reachBytes at this; omega
  obtain ⟨c, rfl, rfl, rfl, wc⟩ := open_string Tryd.underlying9 (hval 2 9 v2 rfl rfl) h2
  have zc : c.size ≤ 140737488355328 := by
    have := sized_string hsz (j := 2) (by rw [Tryd.params4]; rfl) rfl
    rw [Nt.len] at this; unfold reachBytes at this; omega
  clear hA0 hV0 hval0
  refine (walk a b0 b1 c W (Nt.ok_of_laid hL) za zb0 zb1 zc).mono ?_
  rintro e W' ⟨rfl, bel⟩
  have e1 : ((OpenSpec.ofChange Rows.natExponentsSpec).at F).fn H ([.lit (.string a.data.toList), .agg [.lit (.string b0.data.toList), .lit (.string b1.data.toList)], .lit (.string c.data.toList)] ++ []) = { results := [.lit (.bool true)], args := [.lit (.string a.data.toList), .agg [.lit (.string b0.data.toList), .lit (.string b1.data.toList)], .lit (.string c.data.toList)] } := rfl
  refine ⟨_, rfl, _, _, _, [], [], [], hW', ?_, ?_, ?_, bel.frame _, fun h => by cases h⟩
  · rw [e1]; exact trodAll_cons_mk (shut_bool Tryd.underlying4 _) trodAll_mk0
  · rw [e1]; exact trodAll_cons_mk (shut_string Tryd.underlying9 wa) (trodAll_cons_mk (Nt.shut_two b0 b1 wb0 wb1) (trodAll_cons_mk (shut_string Tryd.underlying9 wc) trodAll_mk0))
  · rw [e1]; rfl

theorem said : Rows.NatExponentsSaid :=
  OpenClaim.holds_of_cond 4 Tryd.f4 rfl rfl rfl rfl rfl rfl rfl ⟨rfl, rfl, rfl, rfl, rfl⟩ rfl rfl rfl rfl rfl (by kernel_rfl) Tryd.func4 (by kernel_rfl)
    (of_decide_eq_true (by kernel_rfl)) (by unfold Func.isWrapper; rw [if_neg (of_decide_eq_false (by kernel_rfl))]; exact ⟨rfl, rfl⟩)
    (fun os started H enc _ F => by rw [OpenClaim.pre_eq_preRow]; exact lifted os started H enc F)

/-- No parameter wants a stand-in; the program's own looks are off. -/
theorem plain (f : FuncId) (fn : Func) (hf : Tryd.pinned.checked.prog.funcNamed "ostiary/ostiarylaw03.NatExponents" = some f) (hfn : Tryd.pinned.checked.prog.funcs[f]? = some fn) :
    true = Tryd.pinned.checked.prog.looks [] ∧ ∀ (j : Nat) t, fn.params[j]? = some t → Tryd.pinned.checked.prog.wantsStandIn t = false := by
  obtain rfl : f = 4 := Option.some.inj ((show Tryd.prog.funcNamed "ostiary/ostiarylaw03.NatExponents" = some 4 by kernel_rfl).symm.trans hf) |>.symm
  obtain rfl : fn = Tryd.f4 := (Option.some.inj (Tryd.func4.symm.trans hfn)).symm
  refine ⟨by kernel_rfl, fun j t ht => ?_⟩
  rw [Tryd.params4] at ht
  have hm := Array.mem_of_getElem? ht
  simp only [List.mem_toArray, List.mem_cons, List.mem_nil_iff, or_false] at hm
  rcases hm with rfl | rfl | rfl
  · exact (show Tryd.prog.wantsStandIn 9 = false by kernel_rfl)
  · exact (show Tryd.prog.wantsStandIn 31 = false by kernel_rfl)
  · exact (show Tryd.prog.wantsStandIn 9 = false by kernel_rfl)

theorem card : Rows.NatExponentsCardSaid :=
  Claim7.holds_tied_plain_at .later [] _ _ _ _ said (fun _ h => by cases h) (by kernel_rfl) (fun _ h => by cases h) natExponents_row_tie rfl ⟨rfl, rfl⟩ (by kernel_rfl) rfl plain (by kernel_rfl)

end lwExponents
end Go.Proofs.YtkebbdidipjefaaDoor
