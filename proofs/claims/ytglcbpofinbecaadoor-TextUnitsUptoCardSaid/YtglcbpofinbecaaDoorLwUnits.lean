/- TextUnits: for every two texts and every slice of ints (of bulk at most 1048576) it answers true; what came in reads as it did. -/
import Derived.Test.YtglcbpofinbecaaDoorLwUnitsN
import Derived.Test.YtglcbpofinbecaaDoorLwUnitsO
import Derived.Test.YtglcbpofinbecaaDoorLwUnitsB
import Derived.Test.YtglcbpofinbecaaDoorOpenI
import Derived.Test.YtglcbpofinbecaaDoorLaid
import Derived.Test.YtglcbpofinbecaaDoorCards
import Derived.Test.YtglcbpofinbecaaDoorTie
import Derived.OpenShut
namespace Go.Proofs.YtglcbpofinbecaaDoor
open Go.ChangeShapes Go.WideShapes Go.ChangeAt Go.RowKit
open Go.ChangeMaps (open_string shut_string)
namespace lwUnits

theorem walk (s t : ByteArray) (v : Value) (l : List Int) (w : World) (h : Tx.Ok w) (hs : s.size ≤ 4194304) (ht : t.size ≤ 4194304) (hl : l.length ≤ 4194304) (hv : Tx.Ints w w.heap.size v l) :
    Calls Tryd.prog 6 #[.string s, .string t, v] w fun e w' => e = .returned (.bool true) ∧ Below w.heap.size w w' := by
  have hr : (∃ ru, (∀ r ∈ ru, Tx.Rune r) ∧ Tx.readU l = .ok ru ∧ l = Tx.cu ru) ∨ Tx.readU l = .error 13 ∨ Tx.readU l = .error 14 := by
    rcases hx : Tx.readU l with c | ru
    · rcases Tx.readU_error l c hx with rfl | rfl
      · exact .inr (.inl rfl)
      · exact .inr (.inr rfl)
    · exact .inl ⟨ru, (Tx.readU_ok l ru hx).2, rfl, (Tx.readU_ok l ru hx).1⟩
  rcases Tx.units_cases s with ⟨a1, a2⟩ | ⟨rs, a1, a2, a3, a4⟩
  · rcases hr with ⟨ru, c1, c2, c3⟩ | c | c
    · exact walk_N_K s t v l w h hs ht hl hv a1 a2 ru c1 c2 c3
    · exact walk_N_13 s t v l w h hs ht hl hv a1 a2 c
    · exact walk_N_14 s t v l w h hs ht hl hv a1 a2 c
  · rcases Tx.units_cases t with ⟨b1, _⟩ | ⟨rt, _, b2, b3, _⟩
    · rcases hr with ⟨ru, c1, c2, c3⟩ | c | c
      · exact walk_O_K s t v l w h hs ht hl hv rs a1 a2 a3 a4 b1 ru c1 c2 c3
      · exact walk_O_13 s t v l w h hs ht hl hv rs a1 a2 a3 a4 b1 c
      · exact walk_O_14 s t v l w h hs ht hl hv rs a1 a2 a3 a4 b1 c
    · rcases hr with ⟨ru, c1, c2, c3⟩ | c | c
      · exact walk_B_K s t v l w h hs ht hl hv rs a1 a2 a3 a4 rt b2 b3 ru c1 c2 c3
      · exact walk_B_13 s t v l w h hs ht hl hv rs a1 a2 a3 a4 rt b2 b3 c
      · exact walk_B_14 s t v l w h hs ht hl hv rs a1 a2 a3 a4 rt b2 b3 c

theorem reads (os : Os) {H : Type} (enc : TypeId × Value → H) : ∃ places, DataW.whole enc Tryd.prog ((Tx.laidWorld os).forCall (fun _ _ => 0) ⟨#[], #[.string ⟨#[]⟩, .string ⟨#[]⟩, .slice none 0 0], []⟩).memory Tryd.f6.params.toList Rows.textUnitsSpec.vars false (#[.string ⟨#[]⟩, .string ⟨#[]⟩, .slice none 0 0] : Array Value).toList 8 = some ([.lit (.string []), .lit (.string []), .nil], [], places) :=
  ⟨[], by kernel_rfl⟩
set_option maxHeartbeats 4000000 in
set_option maxRecDepth 100000 in
theorem lifted (os : Os) (started : os.Started) (H : Type) (enc : TypeId × Value → H) (F : Stop.Interp) :
    ReturnsInHanded {} Tryd.checked os 6 .any ((Rows.OpenSpec.upto Rows.textUnitsSpec).preRow enc Tryd.prog Tryd.f6 Rows.textUnitsUptoRow.domain false Rows.textUnitsUptoRow.laid) (((Rows.OpenSpec.upto Rows.textUnitsSpec).at F).post enc Tryd.prog Tryd.f6 false true false false) := by
  obtain ⟨places, hx⟩ := reads os enc
  refine returnsInHanded_of_row (C := Tryd.checked) (s := (Rows.OpenSpec.upto Rows.textUnitsSpec)) Tx.own started (by kernel_rfl) Tryd.func6
    (witness_row_atRef (enc := enc) (C := Tryd.checked) false (Tx.laidWorld os) #[.string ⟨#[]⟩, .string ⟨#[]⟩, .slice none 0 0] rfl (by kernel_rfl) (by kernel_rfl) (by kernel_rfl)
      (OpenSpec.preRow_of_cond 8 hx (by kernel_rfl) (fun k hk => by cases hk; kernel_rfl) (by kernel_rfl) (Tx.laid_met os _))) ?_
  intro W base args ds gs before hval0 hW _ hk hsz hL _ _
  have hval : ∀ (j : Nat) t v, Tryd.f6.params[j]? = some t → args[j]? = some v → Value.okWide Tryd.prog W .any base t v := hval0
  have hW' := hW
  obtain ⟨p, q, hA0, hV0, rfl, _, _⟩ := hW
  have hA : DataW.TrodAll enc Tryd.prog W 0 (fun _ => true) true Tryd.f6.params.toList args.toList ds p := hA0
  rw [Tryd.params6] at hA hval
  obtain ⟨v0, vs0, d0, ds0, p0, q0, hargs, rfl, rfl, h0, r0⟩ := trodAll_cons hA
  obtain ⟨v1, vs1, d1, ds1, p1, q1, rfl, rfl, rfl, h1, r1⟩ := trodAll_cons r0
  obtain ⟨v2, vs2, d2, ds2, p2, q2, rfl, rfl, rfl, h2, r2⟩ := trodAll_cons r1
  obtain ⟨rfl, rfl, rfl⟩ := trodAll_nil r2
  obtain rfl : args = #[v0, v1, v2] := by cases args; simp_all
  obtain ⟨rfl, rfl⟩ := trodVars_none hV0
  obtain ⟨a, rfl, rfl, rfl, wa⟩ := open_string Tryd.underlying9 (hval 0 9 v0 rfl rfl) h0
  have za : a.size ≤ 140737488355328 := by
    have := sized_string hsz (j := 0) (by rw [Tryd.params6]; rfl) rfl
    rw [Tx.len] at this; unfold reachBytes at this; omega
  obtain ⟨b, rfl, rfl, rfl, wb⟩ := open_string Tryd.underlying9 (hval 1 9 v1 rfl rfl) h1
  have zb : b.size ≤ 140737488355328 := by
    have := sized_string hsz (j := 1) (by rw [Tryd.params6]; rfl) rfl
    rw [Tx.len] at this; unfold reachBytes at this; omega
  obtain ⟨lc, ic, nc, backc⟩ := Tx.open_ints (hval 2 29 v2 rfl rfl) h2
  clear hA0 hV0 hval0
  have hb := hk _ rfl
  have hb2 := of_decide_eq_true hb
  simp only [Rows.uptoBulkAll, Rows.uptoBulk, List.append_nil] at hb2
  refine (walk a b v2 lc W (Tx.ok_of_laid hL) (by rw [Tx.len, Tx.len] at hb2; omega) (by rw [Tx.len, Tx.len] at hb2; omega) (by omega) ic).mono ?_
  rintro e W' ⟨rfl, bel⟩
  have e1 : ((Rows.OpenSpec.upto Rows.textUnitsSpec).at F).fn H ([.lit (.string a.data.toList), .lit (.string b.data.toList), d2] ++ []) = { results := [.lit (.bool true)], args := [.lit (.string a.data.toList), .lit (.string b.data.toList), d2] } := rfl
  refine ⟨_, rfl, _, _, _, [], [] ++ ([] ++ (p2 ++ ([]))), [], hW', ?_, ?_, ?_, bel.frame _, fun h => by cases h⟩
  · rw [e1]; exact trodAll_cons_mk (shut_bool Tryd.underlying4 _) trodAll_mk0
  · rw [e1]; exact trodAll_cons_mk (shut_string Tryd.underlying9 wa) (trodAll_cons_mk (shut_string Tryd.underlying9 wb) (trodAll_cons_mk (backc _ _ bel (fun _ hx => decide_eq_true hx)) trodAll_mk0))
  · rw [e1]; rfl

theorem said : Rows.TextUnitsUptoSaid :=
  OpenClaim.holds_of_cond 6 Tryd.f6 rfl rfl rfl rfl rfl rfl rfl ⟨rfl, rfl, rfl, rfl, rfl⟩ rfl rfl rfl rfl rfl (by kernel_rfl) Tryd.func6 (by kernel_rfl)
    (of_decide_eq_true (by kernel_rfl)) (by unfold Func.isWrapper; rw [if_neg (of_decide_eq_false (by kernel_rfl))]; exact ⟨rfl, rfl⟩)
    (fun os started H enc _ F => by rw [OpenClaim.pre_eq_preRow]; exact lifted os started H enc F)

/-- No parameter wants a stand-in; the program's own looks are off. -/
theorem plain (f : FuncId) (fn : Func) (hf : Tryd.pinned.checked.prog.funcNamed "ostiary/ostiarylaw01.TextUnits" = some f) (hfn : Tryd.pinned.checked.prog.funcs[f]? = some fn) :
    true = Tryd.pinned.checked.prog.looks [] ∧ ∀ (j : Nat) t, fn.params[j]? = some t → Tryd.pinned.checked.prog.wantsStandIn t = false := by
  obtain rfl : f = 6 := Option.some.inj ((show Tryd.prog.funcNamed "ostiary/ostiarylaw01.TextUnits" = some 6 by kernel_rfl).symm.trans hf) |>.symm
  obtain rfl : fn = Tryd.f6 := (Option.some.inj (Tryd.func6.symm.trans hfn)).symm
  refine ⟨by kernel_rfl, fun j t ht => ?_⟩
  rw [Tryd.params6] at ht
  have hm := Array.mem_of_getElem? ht
  simp only [List.mem_toArray, List.mem_cons, List.mem_nil_iff, or_false] at hm
  rcases hm with rfl | rfl | rfl
  · exact (show Tryd.prog.wantsStandIn 9 = false by kernel_rfl)
  · exact (show Tryd.prog.wantsStandIn 9 = false by kernel_rfl)
  · exact (show Tryd.prog.wantsStandIn 29 = false by kernel_rfl)

theorem card : Rows.TextUnitsUptoCardSaid :=
  Claim7.holds_tied_plain_at .later [] _ _ _ _ said (fun _ h => by cases h) (by kernel_rfl) (fun _ h => by cases h) textUnitsUpto_row_tie rfl ⟨rfl, rfl⟩ (by kernel_rfl) rfl plain (by kernel_rfl)

end lwUnits
end Go.Proofs.YtglcbpofinbecaaDoor
