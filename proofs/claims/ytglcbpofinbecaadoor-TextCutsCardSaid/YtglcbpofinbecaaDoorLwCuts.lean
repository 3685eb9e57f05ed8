/- TextCuts: for every text and every place it answers true; what came in reads as it did. -/
import Derived.Test.YtglcbpofinbecaaDoorLwCutsA
import Derived.Test.YtglcbpofinbecaaDoorLwCutsB
import Derived.Test.YtglcbpofinbecaaDoorLwCutsC
import Derived.Test.YtglcbpofinbecaaDoorLwCutsD
namespace Go.Proofs.YtglcbpofinbecaaDoor
open Go.ChangeShapes Go.WideShapes Go.ChangeAt Go.RowKit
open Go.ChangeMaps (open_string shut_string)
namespace lwCuts

set_option maxHeartbeats 8000000 in
set_option maxRecDepth 100000 in
/-- No UTF-8, or a place out of the text: nothing is asked. -/
theorem trivially (s : ByteArray) (cut : Int) (w : World) (h : Tx.Ok w) (hs : s.size ≤ 140737488355328) (hc : (Tx.runes s.data.toList).isSome = false ∨ cut < 0 ∨ (s.size : Int) < cut) :
    Calls Tryd.prog 10 #[.string s, .int .i64 cut] w fun e w' => e = .returned (.bool true) ∧ Below w.heap.size w w' := by
  have HK := Lib.hid h
  have h3 := h.size
  have cf := Lib.hid (Tx.fixed_any w h)
  clear h
  have cv := fun W (hW : Tx.Ok W) => Tx.Utf8_any s W (by omega) hW.2
  rcases hv : (Tx.runes s.data.toList).isSome with _ | _
  · rw [hv] at cv
    have CV := Lib.hid cv
    clear cv hv hc
    go_enter Tryd.func10, Tryd.ntmps10
    go_wp2_with fail
    refine cf.out.mono ?_
    rintro e w1 ⟨rfl, b1⟩
    go_wp2_with fail
    refine (CV.out _ (HK.out.below b1 h3)).mono ?_
    rintro e w2 ⟨rfl, b2⟩
    go_wp2_with fail
    go_ret
    exact ⟨rfl, b1.trans (b2.mono b1.size)⟩
  · rw [hv] at cv hc
    have CV := Lib.hid cv
    clear cv hv
    rcases hc with hc | hc | hc
    · exact absurd hc (by simp)
    · go_enter Tryd.func10, Tryd.ntmps10
      go_wp2_with fail
      refine cf.out.mono ?_
      rintro e w1 ⟨rfl, b1⟩
      go_wp2_with fail
      refine (CV.out _ (HK.out.below b1 h3)).mono ?_
      rintro e w2 ⟨rfl, b2⟩
      go_wp2_with fail
      go_ret
      exact ⟨rfl, b1.trans (b2.mono b1.size)⟩
    · have h0 : ¬ cut < 0 := by omega
      go_enter Tryd.func10, Tryd.ntmps10
      go_wp2_with fail
      refine cf.out.mono ?_
      rintro e w1 ⟨rfl, b1⟩
      go_wp2_with fail
      refine (CV.out _ (HK.out.below b1 h3)).mono ?_
      rintro e w2 ⟨rfl, b2⟩
      go_wp2_with fail
      go_ret
      exact ⟨rfl, b1.trans (b2.mono b1.size)⟩

theorem walk (s : ByteArray) (cut : Int) (w : World) (h : Tx.Ok w) (hs : s.size ≤ 140737488355328) :
    Calls Tryd.prog 10 #[.string s, .int .i64 cut] w fun e w' => e = .returned (.bool true) ∧ Below w.heap.size w w' := by
  by_cases hc : (Tx.runes s.data.toList).isSome = false ∨ cut < 0 ∨ (s.size : Int) < cut
  · exact trivially s cut w h hs hc
  · have hv : (Tx.runes s.data.toList).isSome = true := by
      cases hx : (Tx.runes s.data.toList).isSome with
      | true => rfl
      | false => exact absurd (Or.inl hx) hc
    have h0 : ¬ (cut < 0 ∨ (s.size : Int) < cut) := fun hx => hc (Or.inr hx)
    obtain ⟨n, rfl⟩ := Int.eq_ofNat_of_zero_le (by omega : 0 ≤ cut)
    have hn : n ≤ s.size := by omega
    by_cases ce : n = s.size
    · exact at_end s n w h hs hv hn ce
    · have hlt : n < s.size := by omega
      by_cases c1 : (s[n].toNat : Int) < 128
      · exact at_low s n w h hs hv hn hlt c1
      · by_cases c2 : 192 ≤ (s[n].toNat : Int)
        · exact at_high s n w h hs hv hn hlt c1 c2
        · exact at_mid s n w h hs hv hn hlt c1 c2
theorem reads (os : Os) {H : Type} (enc : TypeId × Value → H) : ∃ places, DataW.whole enc Tryd.prog ((Tx.laidWorld os).forCall (fun _ _ => 0) ⟨#[], #[.string ⟨#[]⟩, .int .i64 0], []⟩).memory Tryd.f10.params.toList Rows.textCutsSpec.vars false (#[.string ⟨#[]⟩, .int .i64 0] : Array Value).toList 8 = some ([.lit (.string []), .lit (.int .i64 0)], [], places) :=
  ⟨[], by kernel_rfl⟩
set_option maxHeartbeats 4000000 in
set_option maxRecDepth 100000 in
theorem lifted (os : Os) (started : os.Started) (H : Type) (enc : TypeId × Value → H) (F : Stop.Interp) :
    ReturnsInHanded {} Tryd.checked os 10 .any ((OpenSpec.ofChange Rows.textCutsSpec).preRow enc Tryd.prog Tryd.f10 Rows.textCutsRow.domain false Rows.textCutsRow.laid) (((OpenSpec.ofChange Rows.textCutsSpec).at F).post enc Tryd.prog Tryd.f10 false true false false) := by
  obtain ⟨places, hx⟩ := reads os enc
  refine returnsInHanded_of_row (C := Tryd.checked) (s := (OpenSpec.ofChange Rows.textCutsSpec)) Tx.own started (by kernel_rfl) Tryd.func10
    (witness_row_atRef (enc := enc) (C := Tryd.checked) false (Tx.laidWorld os) #[.string ⟨#[]⟩, .int .i64 0] rfl (by kernel_rfl) (by kernel_rfl) (by kernel_rfl)
      (OpenSpec.preRow_of_cond 8 hx (by kernel_rfl) (fun k hk => by cases hk) (by kernel_rfl) (Tx.laid_met os _))) ?_
  intro W base args ds gs before hval0 hW _ hk hsz hL _ _
  have hval : ∀ (j : Nat) t v, Tryd.f10.params[j]? = some t → args[j]? = some v → Value.okWide Tryd.prog W .any base t v := hval0
  have hW' := hW
  obtain ⟨p, q, hA0, hV0, rfl, _, _⟩ := hW
  have hA : DataW.TrodAll enc Tryd.prog W 0 (fun _ => true) true Tryd.f10.params.toList args.toList ds p := hA0
  rw [Tryd.params10] at hA hval
  obtain ⟨v0, vs0, d0, ds0, p0, q0, hargs, rfl, rfl, h0, r0⟩ := trodAll_cons hA
  obtain ⟨v1, vs1, d1, ds1, p1, q1, rfl, rfl, rfl, h1, r1⟩ := trodAll_cons r0
  obtain ⟨rfl, rfl, rfl⟩ := trodAll_nil r1
  obtain rfl : args = #[v0, v1] := by cases args; simp_all
  obtain ⟨rfl, rfl⟩ := trodVars_none hV0
  obtain ⟨a, rfl, rfl, rfl, wa⟩ := open_string Tryd.underlying9 (hval 0 9 v0 rfl rfl) h0
  have za : a.size ≤ 140737488355328 := by
    have := sized_string hsz (j := 0) (by rw [Tryd.params10]; rfl) rfl
    rw [Tx.len] at this; unfold reachBytes at this; omega
  obtain ⟨b, rfl, rfl, rfl, wb⟩ := open_int Tryd.underlying3 (hval 1 3 v1 rfl rfl) h1
  clear hA0 hV0 hval0
  refine (walk a b W (Tx.ok_of_laid hL) za).mono ?_
  rintro e W' ⟨rfl, bel⟩
  have e1 : ((OpenSpec.ofChange Rows.textCutsSpec).at F).fn H ([.lit (.string a.data.toList), .lit (.int .i64 b)] ++ []) = { results := [.lit (.bool true)], args := [.lit (.string a.data.toList), .lit (.int .i64 b)] } := rfl
  refine ⟨_, rfl, _, _, _, [], [], [], hW', ?_, ?_, ?_, bel.frame _, fun h => by cases h⟩
  · rw [e1]; exact trodAll_cons_mk (shut_bool Tryd.underlying4 _) trodAll_mk0
  · rw [e1]; exact trodAll_cons_mk (shut_string Tryd.underlying9 wa) (trodAll_cons_mk (shut_int Tryd.underlying3 wb) trodAll_mk0)
  · rw [e1]; rfl

theorem said : Rows.TextCutsSaid :=
  OpenClaim.holds_of_cond 10 Tryd.f10 rfl rfl rfl rfl rfl rfl rfl ⟨rfl, rfl, rfl, rfl, rfl⟩ rfl rfl rfl rfl rfl (by kernel_rfl) Tryd.func10 (by kernel_rfl)
    (of_decide_eq_true (by kernel_rfl)) (by unfold Func.isWrapper; rw [if_neg (of_decide_eq_false (by kernel_rfl))]; exact ⟨rfl, rfl⟩)
    (fun os started H enc _ F => by rw [OpenClaim.pre_eq_preRow]; exact lifted os started H enc F)

/-- No parameter wants a stand-in; the program's own looks are off. -/
theorem plain (f : FuncId) (fn : Func) (hf : Tryd.pinned.checked.prog.funcNamed "ostiary/ostiarylaw01.TextCuts" = some f) (hfn : Tryd.pinned.checked.prog.funcs[f]? = some fn) :
    true = Tryd.pinned.checked.prog.looks [] ∧ ∀ (j : Nat) t, fn.params[j]? = some t → Tryd.pinned.checked.prog.wantsStandIn t = false := by
  obtain rfl : f = 10 := Option.some.inj ((show Tryd.prog.funcNamed "ostiary/ostiarylaw01.TextCuts" = some 10 by kernel_rfl).symm.trans hf) |>.symm
  obtain rfl : fn = Tryd.f10 := (Option.some.inj (Tryd.func10.symm.trans hfn)).symm
  refine ⟨by kernel_rfl, fun j t ht => ?_⟩
  rw [Tryd.params10] at ht
  have hm := Array.mem_of_getElem? ht
  simp only [List.mem_toArray, List.mem_cons, List.mem_nil_iff, or_false] at hm
  rcases hm with rfl | rfl
  · exact (show Tryd.prog.wantsStandIn 9 = false by kernel_rfl)
  · exact (show Tryd.prog.wantsStandIn 3 = false by kernel_rfl)

theorem card : Rows.TextCutsCardSaid :=
  Claim7.holds_tied_plain_at .later [] _ _ _ _ said (fun _ h => by cases h) (by kernel_rfl) (fun _ h => by cases h) textCuts_row_tie rfl ⟨rfl, rfl⟩ (by kernel_rfl) rfl plain (by kernel_rfl)

end lwCuts
end Go.Proofs.YtglcbpofinbecaaDoor
