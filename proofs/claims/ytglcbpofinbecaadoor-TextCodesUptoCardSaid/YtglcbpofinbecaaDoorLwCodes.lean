/- TextCodes: for every text (of bulk at most 1048576) it answers true; the text reads as it did. -/
import Derived.Test.YtglcbpofinbecaaDoorRefI
import Derived.Test.YtglcbpofinbecaaDoorFixed
import Derived.Test.YtglcbpofinbecaaDoorLaid
import Derived.Test.YtglcbpofinbecaaDoorCards
import Derived.Test.YtglcbpofinbecaaDoorTie
import Derived.OpenShut
namespace Go.Proofs.YtglcbpofinbecaaDoor
open Go.ChangeShapes Go.WideShapes Go.ChangeAt Go.RowKit
open Go.ChangeMaps (open_string shut_string)

theorem Tx.hd_place : ∀ k : Fin 16, 0 ≤ Lib.indexByte Tx.sixteen.data.toList (Tx.hd k.val) := by decide +kernel
theorem Tx.b6_place : ∀ k : Fin 64, 0 ≤ Lib.indexByte Tx.sixtyfour.data.toList (Tx.b6 k.val) := by decide +kernel
theorem Tx.hexL_digits : ∀ (l : List UInt8) (c : UInt8), c ∈ Tx.hexL l → 0 ≤ Lib.indexByte Tx.sixteen.data.toList c
  | [], c, h => by simp [Tx.hexL] at h
  | a :: l, c, h => by
    have ha := a.toNat_lt
    rw [Tx.hexL] at h
    rcases List.mem_cons.1 h with rfl | h
    · exact Tx.hd_place ⟨a.toNat / 16, by omega⟩
    · rcases List.mem_cons.1 h with rfl | h
      · exact Tx.hd_place ⟨a.toNat % 16, by omega⟩
      · exact Tx.hexL_digits l c h
theorem Tx.b64L_digits : ∀ (l : List UInt8) (c : UInt8), c ∈ Tx.b64L l → 0 ≤ Lib.indexByte Tx.sixtyfour.data.toList c
  | [], c, h => by simp [Tx.b64L] at h
  | [a], c, h => by
    have ha := a.toNat_lt
    rw [Tx.b64L, Tx.g1] at h
    simp only [List.mem_cons, List.mem_nil_iff, or_false] at h
    rcases h with rfl | rfl
    · exact Tx.b6_place ⟨a.toNat / 4, by omega⟩
    · exact Tx.b6_place ⟨a.toNat % 4 * 16, by omega⟩
  | [a, b], c, h => by
    have ha := a.toNat_lt
    have hb := b.toNat_lt
    rw [Tx.b64L, Tx.g2] at h
    simp only [List.mem_cons, List.mem_nil_iff, or_false] at h
    rcases h with rfl | rfl | rfl
    · exact Tx.b6_place ⟨a.toNat / 4, by omega⟩
    · exact Tx.b6_place ⟨a.toNat % 4 * 16 + b.toNat / 16, by omega⟩
    · exact Tx.b6_place ⟨b.toNat % 16 * 4, by omega⟩
  | a :: b :: d :: r, c, h => by
    have ha := a.toNat_lt
    have hb := b.toNat_lt
    have hd := d.toNat_lt
    rw [Tx.b64L, Tx.g3] at h
    rcases List.mem_append.1 h with h | h
    · simp only [List.mem_cons, List.mem_nil_iff, or_false] at h
      rcases h with rfl | rfl | rfl | rfl
      · exact Tx.b6_place ⟨a.toNat / 4, by omega⟩
      · exact Tx.b6_place ⟨a.toNat % 4 * 16 + b.toNat / 16, by omega⟩
      · exact Tx.b6_place ⟨b.toNat % 16 * 4 + d.toNat / 64, by omega⟩
      · exact Tx.b6_place ⟨d.toNat % 64, by omega⟩
    · exact Tx.b64L_digits r c h

/-- Both say the same of base sixteen. -/
theorem Tx.both_hex (s : ByteArray) (hs : s.size ≤ 1099511627776) : ∃ (x : ByteArray) (c : Int),
    (∀ w, Tx.Ok w → Calls Tryd.prog 12 #[.string s] w fun e w' => e = .returned (.tuple #[.string x, .int .i64 c]) ∧ Below w.heap.size w w') ∧
    (∀ w, Calls Tryd.prog 13 #[.string s] w fun e w' => e = .returned (.tuple #[.string x, .int .i64 c]) ∧ Below w.heap.size w w') := by
  rcases hu : Tx.unhexL s.data.toList with _ | b
  · refine ⟨⟨#[]⟩, 10, fun w h => ?_, fun w => ?_⟩
    · have := Tx.FromHex_any s w (by omega) h.1
      rw [hu] at this; exact this
    · refine (Tx.RFromHex_any s w hs).mono ?_
      rintro e w' ⟨⟨_, h, _⟩ | ⟨_, h⟩, hb⟩
      · exfalso
        have e := Tx.unhex_hex (Tx.ba (Tx.rsay Tx.sixteen 4 s)).data.toList
        rw [show Tx.hexL (Tx.ba (Tx.rsay Tx.sixteen 4 s)).data.toList = (Tx.hexB (Tx.ba (Tx.rsay Tx.sixteen 4 s))).data.toList from rfl, h, hu] at e
        cases e
      · exact ⟨h, hb⟩
  · have e1 : Tx.hexB (Tx.ba b) = s := by unfold Tx.hexB; rw [Tx.ba_list, Tx.hex_unhex hu, Tx.ba_data]
    have e2 : Tx.rsay Tx.sixteen 4 s = b := by
      have := Tx.rsay_hex (Tx.ba b)
      rw [e1, Tx.ba_list] at this
      exact this
    refine ⟨Tx.ba b, 0, fun w h => ?_, fun w => ?_⟩
    · have := Tx.FromHex_any s w (by omega) h.1
      rw [hu] at this; exact this
    · refine (Tx.RFromHex_any s w hs).mono ?_
      rintro e w' ⟨⟨_, _, h⟩ | ⟨h | h, _⟩, hb⟩
      · rw [e2] at h; exact ⟨h, hb⟩
      · exfalso
        obtain ⟨c, hc, hc2⟩ := h
        rw [← Tx.hex_unhex hu] at hc
        have := Tx.hexL_digits b c hc
        omega
      · exact absurd (by rw [e2]; exact e1) h
/-- Both say the same of base64url. -/
theorem Tx.both_b64 (s : ByteArray) (hs : s.size ≤ 1099511627776) : ∃ (x : ByteArray) (c : Int),
    (∀ w, Tx.Ok w → Calls Tryd.prog 14 #[.string s] w fun e w' => e = .returned (.tuple #[.string x, .int .i64 c]) ∧ Below w.heap.size w w') ∧
    (∀ w, Calls Tryd.prog 15 #[.string s] w fun e w' => e = .returned (.tuple #[.string x, .int .i64 c]) ∧ Below w.heap.size w w') := by
  rcases hu : Tx.unb64L s.data.toList with _ | b
  · refine ⟨⟨#[]⟩, 11, fun w h => ?_, fun w => ?_⟩
    · have := Tx.FromBase64_any s w (by omega) h.1
      rw [hu] at this; exact this
    · refine (Tx.RFromBase64_any s w hs).mono ?_
      rintro e w' ⟨⟨_, h, _⟩ | ⟨_, h⟩, hb⟩
      · exfalso
        rw [Tx.rb64B_eq] at h
        have e := Tx.unb64_b64 (Tx.ba (Tx.rsay Tx.sixtyfour 6 s)).data.toList
        rw [show Tx.b64L (Tx.ba (Tx.rsay Tx.sixtyfour 6 s)).data.toList = (Tx.b64B (Tx.ba (Tx.rsay Tx.sixtyfour 6 s))).data.toList from rfl, h, hu] at e
        cases e
      · exact ⟨h, hb⟩
  · have e1 : Tx.b64B (Tx.ba b) = s := by unfold Tx.b64B; rw [Tx.ba_list, Tx.b64_unb64 hu, Tx.ba_data]
    have e2 : Tx.rsay Tx.sixtyfour 6 s = b := by
      have := Tx.rsay_b64 (Tx.ba b)
      rw [e1, Tx.ba_list] at this
      exact this
    refine ⟨Tx.ba b, 0, fun w h => ?_, fun w => ?_⟩
    · have := Tx.FromBase64_any s w (by omega) h.1
      rw [hu] at this; exact this
    · refine (Tx.RFromBase64_any s w hs).mono ?_
      rintro e w' ⟨⟨_, _, h⟩ | ⟨h | h, _⟩, hb⟩
      · rw [e2] at h; exact ⟨h, hb⟩
      · exfalso
        obtain ⟨c, hc, hc2⟩ := h
        rw [← Tx.b64_unb64 hu] at hc
        have := Tx.b64L_digits b c hc
        omega
      · exact absurd (by rw [e2, Tx.rb64B_eq]; exact e1) h

namespace lwCodes

set_option maxHeartbeats 8000000 in
set_option maxRecDepth 100000 in
theorem walk (s : ByteArray) (w : World) (h : Tx.Ok w) (hs : s.size ≤ 1099511627776) :
    Calls Tryd.prog 3 #[.string s] w fun e w' => e = .returned (.bool true) ∧ Below w.heap.size w w' := by
  obtain ⟨x, c, h1, h2⟩ := Tx.both_hex s hs
  obtain ⟨y, d, h3, h4⟩ := Tx.both_b64 s hs
  have h5 := fun w => Tx.Hex_b s w (by omega)
  have h6 := fun w => Tx.RHex_any s w (by omega)
  have h7 := fun w => Tx.Base64_b s w (by omega)
  have h8 := fun w => Tx.RBase64_any s w (by omega)
  rw [show Tx.ba (Tx.hexL s.data.toList) = Tx.hexB s from rfl] at h6
  rw [show Tx.ba (Tx.rb64 s.data.toList ((8 * s.size + 5) / 6)) = Tx.rb64B s from rfl, Tx.rb64B_eq] at h8
  generalize Tx.hexB s = p at *
  generalize Tx.b64B s = q at *
  have H1 := Lib.hid h1
  have H2 := Lib.hid h2
  have H3 := Lib.hid h3
  have H4 := Lib.hid h4
  have H5 := Lib.hid h5
  have H6 := Lib.hid h6
  have H7 := Lib.hid h7
  have H8 := Lib.hid h8
  have S0 := Tx.Since.start h
  clear h1 h2 h3 h4 h5 h6 h7 h8 h
  go_enter Tryd.func3, Tryd.ntmps3
  go_wp2_with fail
  refine (H1.out w S0.ok).mono ?_
  rintro e w1 ⟨rfl, b1⟩
  have S1 := Tx.Since.then b1 S0
  clear b1 S0
  go_wp2_with fail
  refine (H2.out w1).mono ?_
  rintro e w2 ⟨rfl, b1⟩
  have S2 := Tx.Since.then b1 S1
  clear b1 S1
  go_wp2_with fail
  refine (H3.out w2 S2.ok).mono ?_
  rintro e w3 ⟨rfl, b1⟩
  have S3 := Tx.Since.then b1 S2
  clear b1 S2
  go_wp2_with fail
  refine (H4.out w3).mono ?_
  rintro e w4 ⟨rfl, b1⟩
  have S4 := Tx.Since.then b1 S3
  clear b1 S3
  go_wp2_with fail
  refine (Tx.fixed_any w4 S4.ok).mono ?_
  rintro e w5 ⟨rfl, b1⟩
  have S5 := Tx.Since.then b1 S4
  clear b1 S4
  go_wp2_with fail
  refine (H5.out w5).mono ?_
  rintro e w6 ⟨rfl, b1⟩
  have S6 := Tx.Since.then b1 S5
  clear b1 S5
  go_wp2_with fail
  refine (H6.out w6).mono ?_
  rintro e w7 ⟨rfl, b1⟩
  have S7 := Tx.Since.then b1 S6
  clear b1 S6
  go_wp2_with fail
  refine (H7.out w7).mono ?_
  rintro e w8 ⟨rfl, b1⟩
  have S8 := Tx.Since.then b1 S7
  clear b1 S7
  go_wp2_with fail
  refine (H8.out w8).mono ?_
  rintro e w9 ⟨rfl, b1⟩
  have S9 := Tx.Since.then b1 S8
  clear b1 S8
  go_wp2_with fail
  go_ret
  exact ⟨rfl, S9.below⟩

theorem reads (os : Os) {H : Type} (enc : TypeId × Value → H) : ∃ places, DataW.whole enc Tryd.prog ((Tx.laidWorld os).forCall (fun _ _ => 0) ⟨#[], #[.string ⟨#[]⟩], []⟩).memory Tryd.f3.params.toList Rows.textCodesSpec.vars false (#[.string ⟨#[]⟩] : Array Value).toList 8 = some ([.lit (.string [])], [], places) :=
  ⟨[], by kernel_rfl⟩
set_option maxHeartbeats 4000000 in
set_option maxRecDepth 100000 in
theorem lifted (os : Os) (started : os.Started) (H : Type) (enc : TypeId × Value → H) (F : Stop.Interp) :
    ReturnsInHanded {} Tryd.checked os 3 .any ((Rows.OpenSpec.upto Rows.textCodesSpec).preRow enc Tryd.prog Tryd.f3 Rows.textCodesUptoRow.domain false Rows.textCodesUptoRow.laid) (((Rows.OpenSpec.upto Rows.textCodesSpec).at F).post enc Tryd.prog Tryd.f3 false true false false) := by
  obtain ⟨places, hx⟩ := reads os enc
  refine returnsInHanded_of_row (C := Tryd.checked) (s := (Rows.OpenSpec.upto Rows.textCodesSpec)) Tx.own started (by kernel_rfl) Tryd.func3
    (witness_row_atRef (enc := enc) (C := Tryd.checked) false (Tx.laidWorld os) #[.string ⟨#[]⟩] rfl (by kernel_rfl) (by kernel_rfl) (by kernel_rfl)
      (OpenSpec.preRow_of_cond 8 hx (by kernel_rfl) (fun k hk => by cases hk; kernel_rfl) (by kernel_rfl) (Tx.laid_met os _))) ?_
  intro W base args ds gs before hval0 hW _ hk hsz hL _ _
  have hval : ∀ (j : Nat) t v, Tryd.f3.params[j]? = some t → args[j]? = some v → Value.okWide Tryd.prog W .any base t v := hval0
  have hW' := hW
  obtain ⟨p, q, hA0, hV0, rfl, _, _⟩ := hW
  have hA : DataW.TrodAll enc Tryd.prog W 0 (fun _ => true) true Tryd.f3.params.toList args.toList ds p := hA0
  rw [Tryd.params3] at hA hval
  obtain ⟨v0, vs0, d0, ds0, p0, q0, hargs, rfl, rfl, h0, r0⟩ := trodAll_cons hA
  obtain ⟨rfl, rfl, rfl⟩ := trodAll_nil r0
  obtain rfl : args = #[v0] := by cases args; simp_all
  obtain ⟨rfl, rfl⟩ := trodVars_none hV0
  obtain ⟨a, rfl, rfl, rfl, wa⟩ := open_string Tryd.underlying9 (hval 0 9 v0 rfl rfl) h0
  have za : a.size ≤ 140737488355328 := by
    have := sized_string hsz (j := 0) (by rw [Tryd.params3]; rfl) rfl
    rw [Tx.len] at this; unfold reachBytes at this; omega
  clear hA0 hV0 hval0
  have hb := hk _ rfl
  have hb2 := of_decide_eq_true hb
  simp only [Rows.uptoBulkAll, Rows.uptoBulk, List.append_nil] at hb2
  refine (walk a W (Tx.ok_of_laid hL) (by rw [Tx.len] at hb2; omega)).mono ?_
  rintro e W' ⟨rfl, bel⟩
  have e1 : ((Rows.OpenSpec.upto Rows.textCodesSpec).at F).fn H ([.lit (.string a.data.toList)] ++ []) = { results := [.lit (.bool true)], args := [.lit (.string a.data.toList)] } := rfl
  refine ⟨_, rfl, _, _, _, [], [], [], hW', ?_, ?_, ?_, bel.frame _, fun h => by cases h⟩
  · rw [e1]; exact trodAll_cons_mk (shut_bool Tryd.underlying4 _) trodAll_mk0
  · rw [e1]; exact trodAll_cons_mk (shut_string Tryd.underlying9 wa) trodAll_mk0
  · rw [e1]; rfl

theorem said : Rows.TextCodesUptoSaid :=
  OpenClaim.holds_of_cond 3 Tryd.f3 rfl rfl rfl rfl rfl rfl rfl ⟨rfl, rfl, rfl, rfl, rfl⟩ rfl rfl rfl rfl rfl (by kernel_rfl) Tryd.func3 (by kernel_rfl)
    (of_decide_eq_true (by kernel_rfl)) (by unfold Func.isWrapper; rw [if_neg (of_decide_eq_false (by kernel_rfl))]; exact ⟨rfl, rfl⟩)
    (fun os started H enc _ F => by rw [OpenClaim.pre_eq_preRow]; exact lifted os started H enc F)

/-- No parameter wants a stand-in; the program's own looks are off. -/
theorem plain (f : FuncId) (fn : Func) (hf : Tryd.pinned.checked.prog.funcNamed "ostiary/ostiarylaw01.TextCodes" = some f) (hfn : Tryd.pinned.checked.prog.funcs[f]? = some fn) :
    true = Tryd.pinned.checked.prog.looks [] ∧ ∀ (j : Nat) t, fn.params[j]? = some t → Tryd.pinned.checked.prog.wantsStandIn t = false := by
  obtain rfl : f = 3 := Option.some.inj ((show Tryd.prog.funcNamed "ostiary/ostiarylaw01.TextCodes" = some 3 by kernel_rfl).symm.trans hf) |>.symm
  obtain rfl : fn = Tryd.f3 := (Option.some.inj (Tryd.func3.symm.trans hfn)).symm
  refine ⟨by kernel_rfl, fun j t ht => ?_⟩
  rw [Tryd.params3] at ht
  have hm := Array.mem_of_getElem? ht
  simp only [List.mem_toArray, List.mem_cons, List.mem_nil_iff, or_false] at hm
  subst hm
  exact (show Tryd.prog.wantsStandIn 9 = false by kernel_rfl)

theorem card : Rows.TextCodesUptoCardSaid :=
  Claim7.holds_tied_plain_at .later [] _ _ _ _ said (fun _ h => by cases h) (by kernel_rfl) (fun _ h => by cases h) textCodesUpto_row_tie rfl ⟨rfl, rfl⟩ (by kernel_rfl) rfl plain (by kernel_rfl)

end lwCodes
end Go.Proofs.YtglcbpofinbecaaDoor
