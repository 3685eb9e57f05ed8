/- TextBack: for every two texts (together of at most 1048576 letters) it answers true; the texts read as they did. -/
import Derived.Test.YtglcbpofinbecaaDoorStr
import Derived.Test.YtglcbpofinbecaaDoorCards
import Derived.Test.YtglcbpofinbecaaDoorTie
import Derived.OpenShut
namespace Go.Proofs.YtglcbpofinbecaaDoor
open Go.ChangeShapes Go.WideShapes Go.ChangeAt Go.RowKit
open Go.ChangeMaps (open_string shut_string)
namespace lwBack

/-- How many points are put behind. -/
def mz (v : Value) : Nat := match v with | .string s => (3 - s.size % 3) % 3 | _ => 0

set_option maxHeartbeats 16000000 in
set_option maxRecDepth 100000 in
theorem walk (a b : ByteArray) (w : World) (h : Tx.Ok w) (ha : a.size ≤ 2097152) (hb : b.size ≤ 2097152) :
    Calls Tryd.prog 4 #[.string a, .string b] w fun e w' => e = .returned (.bool true) ∧ Below w.heap.size w w' := by
  have sab : (a ++ b).size = a.size + b.size := ByteArray.size_append
  have c6 := fun w => Tx.Hex_b (a ++ b) w (by rw [sab]; omega)
  simp only [Tx.hexB_append] at c6
  have C6 := Lib.hid c6
  have q1 := Tx.hexB_size a
  have q2 := Tx.b64B_size a
  have q3 := Tx.hexB_size b
  clear c6 sab
  have HK := Lib.hid h
  have h3 := h.size
  clear h
  have B0 := Below.refl w.heap.size w
  have z0 : w.heap.size ≤ w.heap.size := Nat.le_refl _
  have HK0 := HK
  go_enter Tryd.func4, Tryd.ntmps4
  go_wp2_with fail
  refine (Tx.Hex_b a w (by omega)).mono ?_
  rintro e w1 ⟨rfl, b1⟩
  have B1 := B0.trans (b1.mono z0)
  have HK1 := Lib.hid (HK.out.below B1 h3)
  have z1 := B1.size
  clear b1
  go_wp2_with fail
  refine (Tx.Base64_b a w1 (by omega)).mono ?_
  rintro e w2 ⟨rfl, b2⟩
  have B2 := B1.trans (b2.mono z1)
  have HK2 := Lib.hid (HK.out.below B2 h3)
  have z2 := B2.size
  clear b2
  go_wp2_with fail
  refine (Tx.FromHex_hex a w2 (by omega) HK2.out).mono ?_
  rintro e w3 ⟨rfl, b3⟩
  have B3 := B2.trans (b3.mono z2)
  have HK3 := Lib.hid (HK.out.below B3 h3)
  have z3 := B3.size
  clear b3
  go_wp2_with fail
  refine (Tx.FromBase64_b64 a w3 (by omega) HK3.out).mono ?_
  rintro e w4 ⟨rfl, b4⟩
  have B4 := B3.trans (b4.mono z3)
  have HK4 := Lib.hid (HK.out.below B4 h3)
  have z4 := B4.size
  clear b4
  go_wp2_with fail
  refine (Tx.fixed_any w4 HK4.out).mono ?_
  rintro e w5 ⟨rfl, b5⟩
  have B5 := B4.trans (b5.mono z4)
  have HK5 := Lib.hid (HK.out.below B5 h3)
  have z5 := B5.size
  clear b5
  go_wp2_with fail
  refine (C6.out w5).mono ?_
  rintro e w6 ⟨rfl, b6⟩
  have B6 := B5.trans (b6.mono z5)
  have HK6 := Lib.hid (HK.out.below B6 h3)
  have z6 := B6.size
  clear b6
  go_wp2_with fail
  refine (Tx.Hex_b b w6 (by omega)).mono ?_
  rintro e w7 ⟨rfl, b7⟩
  have B7 := B6.trans (b7.mono z6)
  have HK7 := Lib.hid (HK.out.below B7 h3)
  have z7 := B7.size
  clear b7
  go_wp2_with fail
  clear q1 q2 q3
  go_loop [0] (fun sa => ∃ a' : ByteArray, sa = .string a' ∧ a'.size + (3 - a'.size % 3) % 3 ≤ a.size + 2) (fun sa => mz sa)
  case atStart => exact ⟨a, rfl, by omega⟩
  case round =>
    obtain ⟨a', rfl, hsz⟩ := hrel
    by_cases h3' : a'.size % 3 = 0
    · have t1 : (((a'.size : Int) % 3) == 0) = true := by simp; omega
      have sab : (a' ++ b).size = a'.size + b.size := ByteArray.size_append
      have c8 := fun w => Tx.Base64_b (a' ++ b) w (by rw [sab]; omega)
      simp only [Tx.b64B_append a' b h3'] at c8
      have C8 := Lib.hid c8
      have hsa : a'.size ≤ 2097160 := by omega
      have q1 := Tx.b64B_size a'
      have q2 := Tx.b64B_size b
      clear c8 sab h3' hsz
      go_wp2_with fail
      refine (C8.out w7).mono ?_
      rintro e w8 ⟨rfl, b8⟩
      have B8 := B7.trans (b8.mono z7)
      have HK8 := Lib.hid (HK.out.below B8 h3)
      have z8 := B8.size
      clear b8
      go_wp2_with fail
      refine (Tx.Base64_b a' w8 (by omega)).mono ?_
      rintro e w9 ⟨rfl, b9⟩
      have B9 := B8.trans (b9.mono z8)
      have HK9 := Lib.hid (HK.out.below B9 h3)
      have z9 := B9.size
      clear b9
      go_wp2_with fail
      refine (Tx.Base64_b b w9 (by omega)).mono ?_
      rintro e w10 ⟨rfl, b10⟩
      have B10 := B9.trans (b10.mono z9)
      have HK10 := Lib.hid (HK.out.below B10 h3)
      have z10 := B10.size
      clear b10
      have cb1 := Tx.FromHex_cases b (by omega)
      have cb2 := Tx.FromBase64_cases b (by omega)
      rcases cb1 with d1 | ⟨s1, e1, n1, d1⟩
      · have D1 := Lib.hid d1
        clear d1
        rcases cb2 with d2 | ⟨s2, e2, n2, d2⟩
        · have D2 := Lib.hid d2
          clear d2
          go_wp2_with fail
          refine (D1.out w10 HK10.out).mono ?_
          rintro e w11 ⟨rfl, b11⟩
          have B11 := B10.trans (b11.mono z10)
          have HK11 := Lib.hid (HK.out.below B11 h3)
          have z11 := B11.size
          clear b11
          go_wp2_with fail
          refine (D2.out w11 HK11.out).mono ?_
          rintro e w12 ⟨rfl, b12⟩
          have B12 := B11.trans (b12.mono z11)
          have HK12 := Lib.hid (HK.out.below B12 h3)
          have z12 := B12.size
          clear b12
          go_wp2_with fail
          go_ret
          exact ⟨rfl, B12⟩
        · have D2 := Lib.hid d2
          clear d2
          have E2 := Lib.hid e2
          clear e2
          go_wp2_with fail
          refine (D1.out w10 HK10.out).mono ?_
          rintro e w11 ⟨rfl, b11⟩
          have B11 := B10.trans (b11.mono z10)
          have HK11 := Lib.hid (HK.out.below B11 h3)
          have z11 := B11.size
          clear b11
          go_wp2_with fail
          refine (D2.out w11 HK11.out).mono ?_
          rintro e w12 ⟨rfl, b12⟩
          have B12 := B11.trans (b12.mono z11)
          have HK12 := Lib.hid (HK.out.below B12 h3)
          have z12 := B12.size
          clear b12
          have ch := Tx.Base64_b s2 w12 (by omega)
          rw [E2.out] at ch
          have CG := Lib.hid ch
          clear ch
          go_wp2_with fail
          refine (CG.out).mono ?_
          rintro e w13 ⟨rfl, b13⟩
          have B13 := B12.trans (b13.mono z12)
          have HK13 := Lib.hid (HK.out.below B13 h3)
          have z13 := B13.size
          clear b13
          go_wp2_with fail
          go_ret
          exact ⟨rfl, B13⟩
      · have D1 := Lib.hid d1
        clear d1
        have E1 := Lib.hid e1
        clear e1
        rcases cb2 with d2 | ⟨s2, e2, n2, d2⟩
        · have D2 := Lib.hid d2
          clear d2
          go_wp2_with fail
          refine (D1.out w10 HK10.out).mono ?_
          rintro e w11 ⟨rfl, b11⟩
          have B11 := B10.trans (b11.mono z10)
          have HK11 := Lib.hid (HK.out.below B11 h3)
          have z11 := B11.size
          clear b11
          go_wp2_with fail
          refine (D2.out w11 HK11.out).mono ?_
          rintro e w12 ⟨rfl, b12⟩
          have B12 := B11.trans (b12.mono z11)
          have HK12 := Lib.hid (HK.out.below B12 h3)
          have z12 := B12.size
          clear b12
          have ch := Tx.Hex_b s1 w12 (by omega)
          rw [E1.out] at ch
          have CH := Lib.hid ch
          clear ch
          go_wp2_with fail
          refine (CH.out).mono ?_
          rintro e w13 ⟨rfl, b13⟩
          have B13 := B12.trans (b13.mono z12)
          have HK13 := Lib.hid (HK.out.below B13 h3)
          have z13 := B13.size
          clear b13
          go_wp2_with fail
          go_ret
          exact ⟨rfl, B13⟩
        · have D2 := Lib.hid d2
          clear d2
          have E2 := Lib.hid e2
          clear e2
          go_wp2_with fail
          refine (D1.out w10 HK10.out).mono ?_
          rintro e w11 ⟨rfl, b11⟩
          have B11 := B10.trans (b11.mono z10)
          have HK11 := Lib.hid (HK.out.below B11 h3)
          have z11 := B11.size
          clear b11
          go_wp2_with fail
          refine (D2.out w11 HK11.out).mono ?_
          rintro e w12 ⟨rfl, b12⟩
          have B12 := B11.trans (b12.mono z11)
          have HK12 := Lib.hid (HK.out.below B12 h3)
          have z12 := B12.size
          clear b12
          have ch := Tx.Hex_b s1 w12 (by omega)
          rw [E1.out] at ch
          have CH := Lib.hid ch
          clear ch
          go_wp2_with fail
          refine (CH.out).mono ?_
          rintro e w13 ⟨rfl, b13⟩
          have B13 := B12.trans (b13.mono z12)
          have HK13 := Lib.hid (HK.out.below B13 h3)
          have z13 := B13.size
          clear b13
          have ch := Tx.Base64_b s2 w13 (by omega)
          rw [E2.out] at ch
          have CG := Lib.hid ch
          clear ch
          go_wp2_with fail
          refine (CG.out).mono ?_
          rintro e w14 ⟨rfl, b14⟩
          have B14 := B13.trans (b14.mono z13)
          have HK14 := Lib.hid (HK.out.below B14 h3)
          have z14 := B14.size
          clear b14
          go_wp2_with fail
          go_ret
          exact ⟨rfl, B14⟩
    · have t1 : (((a'.size : Int) % 3) == 0) = false := by simp; omega
      have hz1 : a'.size ≤ 2097160 := by omega
      have hs1 : (⟨#[46]⟩ : ByteArray).size = 1 := rfl
      go_wp2_with fail
      refine ⟨⟨_, rfl, ?_⟩, ?_⟩
      · rw [ByteArray.size_append, hs1]; omega
      · show (3 - (a' ++ ⟨#[46]⟩ : ByteArray).size % 3) % 3 < (3 - a'.size % 3) % 3
        rw [ByteArray.size_append, hs1]; omega
theorem reads (os : Os) {H : Type} (enc : TypeId × Value → H) : ∃ places, DataW.whole enc Tryd.prog ((Tx.laidWorld os).forCall (fun _ _ => 0) ⟨#[], #[.string ⟨#[]⟩, .string ⟨#[]⟩], []⟩).memory Tryd.f4.params.toList Rows.textBackSpec.vars false (#[.string ⟨#[]⟩, .string ⟨#[]⟩] : Array Value).toList 8 = some ([.lit (.string []), .lit (.string [])], [], places) :=
  ⟨[], by kernel_rfl⟩
set_option maxHeartbeats 4000000 in
set_option maxRecDepth 100000 in
theorem lifted (os : Os) (started : os.Started) (H : Type) (enc : TypeId × Value → H) (F : Stop.Interp) :
    ReturnsInHanded {} Tryd.checked os 4 .any ((Rows.OpenSpec.upto Rows.textBackSpec).preRow enc Tryd.prog Tryd.f4 Rows.textBackUptoRow.domain false Rows.textBackUptoRow.laid) (((Rows.OpenSpec.upto Rows.textBackSpec).at F).post enc Tryd.prog Tryd.f4 false true false false) := by
  obtain ⟨places, hx⟩ := reads os enc
  refine returnsInHanded_of_row (C := Tryd.checked) (s := (Rows.OpenSpec.upto Rows.textBackSpec)) Tx.own started (by kernel_rfl) Tryd.func4
    (witness_row_atRef (enc := enc) (C := Tryd.checked) false (Tx.laidWorld os) #[.string ⟨#[]⟩, .string ⟨#[]⟩] rfl (by kernel_rfl) (by kernel_rfl) (by kernel_rfl)
      (OpenSpec.preRow_of_cond 8 hx (by kernel_rfl) (fun k hk => by cases hk; kernel_rfl) (by kernel_rfl) (Tx.laid_met os _))) ?_
  intro W base args ds gs before hval0 hW _ hk hsz hL _ _
  have hval : ∀ (j : Nat) t v, Tryd.f4.params[j]? = some t → args[j]? = some v → Value.okWide Tryd.prog W .any base t v := hval0
  have hW' := hW
  obtain ⟨p, q, hA0, hV0, rfl, _, _⟩ := hW
  have hA : DataW.TrodAll enc Tryd.prog W 0 (fun _ => true) true Tryd.f4.params.toList args.toList ds p := hA0
  rw [Tryd.params4] at hA hval
  obtain ⟨v0, vs0, d0, ds0, p0, q0, hargs, rfl, rfl, h0, r0⟩ := trodAll_cons hA
  obtain ⟨v1, vs1, d1, ds1, p1, q1, rfl, rfl, rfl, h1, r1⟩ := trodAll_cons r0
  obtain ⟨rfl, rfl, rfl⟩ := trodAll_nil r1
  obtain rfl : args = #[v0, v1] := by cases args; simp_all
  obtain ⟨rfl, rfl⟩ := trodVars_none hV0
  obtain ⟨a, rfl, rfl, rfl, wa⟩ := open_string Tryd.underlying9 (hval 0 9 v0 rfl rfl) h0
  have za : a.size ≤ 140737488355328 := by
    have := sized_string hsz (j := 0) (by rw [Tryd.params4]; rfl) rfl
    rw [Tx.len] at this; unfold reachBytes at this; omega
  obtain ⟨b, rfl, rfl, rfl, wb⟩ := open_string Tryd.underlying9 (hval 1 9 v1 rfl rfl) h1
  have zb : b.size ≤ 140737488355328 := by
    have := sized_string hsz (j := 1) (by rw [Tryd.params4]; rfl) rfl
    rw [Tx.len] at this; unfold reachBytes at this; omega
  clear hA0 hV0 hval0
  have hb := hk _ rfl
  have hb2 := of_decide_eq_true hb
  simp only [Rows.uptoBulkAll, Rows.uptoBulk, List.append_nil] at hb2
  refine (walk a b W (Tx.ok_of_laid hL) (by rw [Tx.len, Tx.len] at hb2; omega) (by rw [Tx.len, Tx.len] at hb2; omega)).mono ?_
  rintro e W' ⟨rfl, bel⟩
  have e1 : ((Rows.OpenSpec.upto Rows.textBackSpec).at F).fn H ([.lit (.string a.data.toList), .lit (.string b.data.toList)] ++ []) = { results := [.lit (.bool true)], args := [.lit (.string a.data.toList), .lit (.string b.data.toList)] } := rfl
  refine ⟨_, rfl, _, _, _, [], [], [], hW', ?_, ?_, ?_, bel.frame _, fun h => by cases h⟩
  · rw [e1]; exact trodAll_cons_mk (shut_bool Tryd.underlying4 _) trodAll_mk0
  · rw [e1]; exact trodAll_cons_mk (shut_string Tryd.underlying9 wa) (trodAll_cons_mk (shut_string Tryd.underlying9 wb) trodAll_mk0)
  · rw [e1]; rfl

theorem said : Rows.TextBackUptoSaid :=
  OpenClaim.holds_of_cond 4 Tryd.f4 rfl rfl rfl rfl rfl rfl rfl ⟨rfl, rfl, rfl, rfl, rfl⟩ rfl rfl rfl rfl rfl (by kernel_rfl) Tryd.func4 (by kernel_rfl)
    (of_decide_eq_true (by kernel_rfl)) (by unfold Func.isWrapper; rw [if_neg (of_decide_eq_false (by kernel_rfl))]; exact ⟨rfl, rfl⟩)
    (fun os started H enc _ F => by rw [OpenClaim.pre_eq_preRow]; exact lifted os started H enc F)

/-- No parameter wants a stand-in; the program's own looks are off. -/
theorem plain (f : FuncId) (fn : Func) (hf : Tryd.pinned.checked.prog.funcNamed "ostiary/ostiarylaw01.TextBack" = some f) (hfn : Tryd.pinned.checked.prog.funcs[f]? = some fn) :
    true = Tryd.pinned.checked.prog.looks [] ∧ ∀ (j : Nat) t, fn.params[j]? = some t → Tryd.pinned.checked.prog.wantsStandIn t = false := by
  obtain rfl : f = 4 := Option.some.inj ((show Tryd.prog.funcNamed "ostiary/ostiarylaw01.TextBack" = some 4 by kernel_rfl).symm.trans hf) |>.symm
  obtain rfl : fn = Tryd.f4 := (Option.some.inj (Tryd.func4.symm.trans hfn)).symm
  refine ⟨by kernel_rfl, fun j t ht => ?_⟩
  rw [Tryd.params4] at ht
  have hm := Array.mem_of_getElem? ht
  simp only [List.mem_toArray, List.mem_cons, List.mem_nil_iff, or_false] at hm
  rcases hm with rfl | rfl
  · exact (show Tryd.prog.wantsStandIn 9 = false by kernel_rfl)
  · exact (show Tryd.prog.wantsStandIn 9 = false by kernel_rfl)

theorem card : Rows.TextBackUptoCardSaid :=
  Claim7.holds_tied_plain_at .later [] _ _ _ _ said (fun _ h => by cases h) (by kernel_rfl) (fun _ h => by cases h) textBackUpto_row_tie rfl ⟨rfl, rfl⟩ (by kernel_rfl) rfl plain (by kernel_rfl)

end lwBack
end Go.Proofs.YtglcbpofinbecaaDoor
