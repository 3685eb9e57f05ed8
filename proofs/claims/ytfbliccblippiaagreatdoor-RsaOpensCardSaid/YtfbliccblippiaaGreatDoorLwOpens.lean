/- RsaOpens answers true for every key and every signature; they read as they did. -/
import Derived.Test.YtfbliccblippiaaGreatDoorLwOpensA
import Derived.Test.YtfbliccblippiaaGreatDoorRsJ
import Derived.Test.YtfbliccblippiaaGreatDoorCards
import Derived.Test.YtfbliccblippiaaGreatDoorTie
import Derived.OpenShut
namespace Go.Proofs.YtfbliccblippiaaGreatDoor
open Go.ChangeShapes Go.WideShapes Go.ChangeAt Go.RowKit
open Go.ChangeMaps (open_string shut_string)
namespace lwOpens

theorem reads (os : Os) {H : Type} (enc : TypeId × Value → H) : ∃ places, DataW.whole enc Tryz.prog ((Rs.laidWorld os).forCall (fun _ _ => 0) ⟨#[], #[.agg #[.string ⟨#[]⟩, .string ⟨#[]⟩], .string ⟨#[]⟩], []⟩).memory Tryz.f4.params.toList Rows.rsaOpensSpec.vars false (#[.agg #[.string ⟨#[]⟩, .string ⟨#[]⟩], .string ⟨#[]⟩] : Array Value).toList 8 = some ([.agg [.lit (.string []), .lit (.string [])], .lit (.string [])], [], places) :=
  ⟨[], by kernel_rfl⟩
set_option maxHeartbeats 4000000 in
set_option maxRecDepth 100000 in
theorem lifted (os : Os) (started : os.Started) (H : Type) (enc : TypeId × Value → H) (F : Stop.Interp) :
    ReturnsInHanded {} Tryz.checked os 4 .any ((OpenSpec.ofChange Rows.rsaOpensSpec).preRow enc Tryz.prog Tryz.f4 Rows.rsaOpensRow.domain false Rows.rsaOpensRow.laid) (((OpenSpec.ofChange Rows.rsaOpensSpec).at F).post enc Tryz.prog Tryz.f4 false true false false) := by
  obtain ⟨places, hx⟩ := reads os enc
  refine returnsInHanded_of_row (C := Tryz.checked) (s := (OpenSpec.ofChange Rows.rsaOpensSpec)) Rs.own started (by kernel_rfl) Tryz.func4
    (witness_row_atRef (enc := enc) (C := Tryz.checked) false (Rs.laidWorld os) #[.agg #[.string ⟨#[]⟩, .string ⟨#[]⟩], .string ⟨#[]⟩] rfl (by kernel_rfl) (by kernel_rfl) (by kernel_rfl)
      (OpenSpec.preRow_of_cond 8 hx (by kernel_rfl) (fun k hk => by cases hk) (by kernel_rfl) (Rs.laid_met os _))) ?_
  intro W base args ds gs before hval0 hW _ hk hsz hL _ _
  have hval : ∀ (j : Nat) t v, Tryz.f4.params[j]? = some t → args[j]? = some v → Value.okWide Tryz.prog W .any base t v := hval0
  have hW' := hW
  obtain ⟨p, q, hA0, hV0, rfl, _, _⟩ := hW
  have hA : DataW.TrodAll enc Tryz.prog W 0 (fun _ => true) true Tryz.f4.params.toList args.toList ds p := hA0
  rw [Tryz.params4] at hA hval
  obtain ⟨v0, vs0, d0, ds0, p0, q0, hargs, rfl, rfl, h0, r0⟩ := trodAll_cons hA
  obtain ⟨v1, vs1, d1, ds1, p1, q1, rfl, rfl, rfl, h1, r1⟩ := trodAll_cons r0
  obtain ⟨rfl, rfl, rfl⟩ := trodAll_nil r1
  obtain rfl : args = #[v0, v1] := by cases args; simp_all
  obtain ⟨rfl, rfl⟩ := trodVars_none hV0
  obtain ⟨a0, a1, rfl, rfl, rfl, wa0, wa1⟩ := Rs.open_key (hval 0 23 v0 rfl rfl) h0
  have za0 : a0.size ≤ 140737488355328 := by
    have := List.all_eq_true.1 hsz _ (DataW.weights_mem_each (j := 0) (by rw [Tryz.params4]; rfl) rfl a0.data.toList.length (Rs.weights_key0 a0.data.toList a1.data.toList))
    have := of_decide_eq_true this
    rw [Tx.len] at this; unfold reachBytes at this; omega
  have za1 : a1.size ≤ 140737488355328 := by
    have := List.all_eq_true.1 hsz _ (DataW.weights_mem_each (j := 0) (by rw [Tryz.params4]; rfl) rfl a1.data.toList.length (Rs.weights_key1 a0.data.toList a1.data.toList))
    have := of_decide_eq_true this
    rw [Tx.len] at this; unfold reachBytes at this; omega
  obtain ⟨b, rfl, rfl, rfl, wb⟩ := open_string Tryz.underlying9 (hval 1 9 v1 rfl rfl) h1
  have zb : b.size ≤ 140737488355328 := by
    have := sized_string hsz (j := 1) (by rw [Tryz.params4]; rfl) rfl
    rw [Tx.len] at this; unfold reachBytes at this; omega
  clear hA0 hV0 hval0
  refine (walk a0 a1 b W (Rs.ok_of_laid hL) za0 za1 zb).mono ?_
  rintro e W' ⟨rfl, bel⟩
  have e1 : ((OpenSpec.ofChange Rows.rsaOpensSpec).at F).fn H ([.agg [.lit (.string a0.data.toList), .lit (.string a1.data.toList)], .lit (.string b.data.toList)] ++ []) = { results := [.lit (.bool true)], args := [.agg [.lit (.string a0.data.toList), .lit (.string a1.data.toList)], .lit (.string b.data.toList)] } := rfl
  refine ⟨_, rfl, _, _, _, [], [], [], hW', ?_, ?_, ?_, bel.frame _, fun h => by cases h⟩
  · rw [e1]; exact trodAll_cons_mk (shut_bool Tryz.underlying4 _) trodAll_mk0
  · rw [e1]; exact trodAll_cons_mk (Rs.shut_key a0 a1 wa0 wa1) (trodAll_cons_mk (shut_string Tryz.underlying9 wb) trodAll_mk0)
  · rw [e1]; rfl

theorem said : Rows.RsaOpensSaid :=
  OpenClaim.holds_of_cond 4 Tryz.f4 rfl rfl rfl rfl rfl rfl rfl ⟨rfl, rfl, rfl, rfl, rfl⟩ rfl rfl rfl rfl rfl (by kernel_rfl) Tryz.func4 (by kernel_rfl)
    (of_decide_eq_true (by kernel_rfl)) (by unfold Func.isWrapper; rw [if_neg (of_decide_eq_false (by kernel_rfl))]; exact ⟨rfl, rfl⟩)
    (fun os started H enc _ F => by rw [OpenClaim.pre_eq_preRow]; exact lifted os started H enc F)

/-- No parameter wants a stand-in; the program's own looks are off. -/
theorem plain (f : FuncId) (fn : Func) (hf : Tryz.pinned.checked.prog.funcNamed "ostiary/ostiarylaw04.RsaOpens" = some f) (hfn : Tryz.pinned.checked.prog.funcs[f]? = some fn) :
    true = Tryz.pinned.checked.prog.looks [] ∧ ∀ (j : Nat) t, fn.params[j]? = some t → Tryz.pinned.checked.prog.wantsStandIn t = false := by
  obtain rfl : f = 4 := Option.some.inj ((show Tryz.prog.funcNamed "ostiary/ostiarylaw04.RsaOpens" = some 4 by kernel_rfl).symm.trans hf) |>.symm
  obtain rfl : fn = Tryz.f4 := (Option.some.inj (Tryz.func4.symm.trans hfn)).symm
  refine ⟨by kernel_rfl, fun j t ht => ?_⟩
  rw [Tryz.params4] at ht
  have hm := Array.mem_of_getElem? ht
  simp only [List.mem_toArray, List.mem_cons, List.mem_nil_iff, or_false] at hm
  rcases hm with rfl | rfl
  · exact (show Tryz.prog.wantsStandIn 23 = false by kernel_rfl)
  · exact (show Tryz.prog.wantsStandIn 9 = false by kernel_rfl)

theorem card : Rows.RsaOpensCardSaid :=
  Claim7.holds_tied_plain_at .later [] _ _ _ _ said (fun _ h => by cases h) (by kernel_rfl) (fun _ h => by cases h) rsaOpens_row_tie rfl ⟨rfl, rfl⟩ (by kernel_rfl) rfl plain (by kernel_rfl)


end lwOpens
end Go.Proofs.YtfbliccblippiaaGreatDoor
