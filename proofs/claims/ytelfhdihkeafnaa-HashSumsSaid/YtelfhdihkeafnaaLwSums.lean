/- HashSums: the sum of any bytes, of either kind, is what the reference reckons, from the roots of the primes on; of any other kind both refuse. For every input. -/
import Derived.Test.YtelfhdihkeafnaaRmC
import Derived.Test.YtelfhdihkeafnaaHsL
import Derived.OpenShut
import Derived.ChangeMaps5
namespace Go.Proofs.Ytelfhdihkeafnaa
open Go.ChangeShapes Go.WideShapes Go.ChangeAt Go.ChangeMaps Go.RowKit

namespace lwSums
set_option maxHeartbeats 8000000 in
set_option maxRecDepth 100000 in
theorem yes0 (s : ByteArray) (hs : s.size ≤ 140737488351232) (w : World) :
    Calls Try.prog 3 #[.int .i64 0, .string s] w fun e w' => e = .returned (.bool true) ∧ Below w.heap.size w w' := by
  have DF := Lib.hid (Hs.FSum_any 0 (by decide) s (by omega))
  have DR := Lib.hid (fun W => Rf.RSum0 W s hs)
  obtain ⟨X, hX⟩ : ∃ X, Tx.ba (Hs.sum 0 s.data.toList) = X := ⟨_, rfl⟩
  rw [hX] at DF DR
  clear hX
  go_enter Try.func3, Try.ntmps3
  go_wp2_with fail
  refine (DF.out w).mono ?_
  rintro e w1 ⟨rfl, b1⟩
  go_wp2_with fail
  refine (DR.out _).mono ?_
  rintro e w2 ⟨rfl, b2⟩
  have B2 := b1.trans (b2.mono b1.size)
  go_wp2_with fail
  refine (Hs.fixed_any _).mono ?_
  rintro e w3 ⟨rfl, b3⟩
  have B3 := B2.trans (b3.mono B2.size)
  go_wp2_with fail
  go_ret
  exact ⟨rfl, B3⟩
set_option maxHeartbeats 8000000 in
set_option maxRecDepth 100000 in
theorem yes1 (s : ByteArray) (hs : s.size ≤ 140737488351232) (w : World) :
    Calls Try.prog 3 #[.int .i64 1, .string s] w fun e w' => e = .returned (.bool true) ∧ Below w.heap.size w w' := by
  have DF := Lib.hid (Hs.FSum_any 1 (by decide) s (by omega))
  have DR := Lib.hid (fun W => Rf.RSum1 W s hs)
  obtain ⟨X, hX⟩ : ∃ X, Tx.ba (Hs.sum 1 s.data.toList) = X := ⟨_, rfl⟩
  rw [hX] at DF DR
  clear hX
  go_enter Try.func3, Try.ntmps3
  go_wp2_with fail
  refine (DF.out w).mono ?_
  rintro e w1 ⟨rfl, b1⟩
  go_wp2_with fail
  refine (DR.out _).mono ?_
  rintro e w2 ⟨rfl, b2⟩
  have B2 := b1.trans (b2.mono b1.size)
  go_wp2_with fail
  refine (Hs.fixed_any _).mono ?_
  rintro e w3 ⟨rfl, b3⟩
  have B3 := B2.trans (b3.mono B2.size)
  go_wp2_with fail
  go_ret
  exact ⟨rfl, B3⟩
set_option maxHeartbeats 8000000 in
set_option maxRecDepth 100000 in
theorem no (kind : Int) (h0 : kind ≠ 0) (h1 : kind ≠ 1) (s : ByteArray) (w : World) :
    Calls Try.prog 3 #[.int .i64 kind, .string s] w fun e w' => e = .returned (.bool true) ∧ Below w.heap.size w w' := by
  have DF := Lib.hid (Hs.FSum_no kind h0 h1 s)
  have DR := Lib.hid (fun W => Rf.RSum_no W kind h0 h1 s)
  go_enter Try.func3, Try.ntmps3
  go_wp2_with fail
  refine (DF.out w).mono ?_
  rintro e w1 ⟨rfl, rfl⟩
  go_wp2_with fail
  refine (DR.out _).mono ?_
  rintro e w2 ⟨rfl, b2⟩
  go_wp2_with fail
  refine (Hs.fixed_any _).mono ?_
  rintro e w3 ⟨rfl, b3⟩
  have B3 := b2.trans (b3.mono b2.size)
  go_wp2_with fail
  go_ret
  exact ⟨rfl, B3⟩
theorem walk (kind : Int) (s : ByteArray) (w : World) (hs : s.size ≤ 140737488351232) :
    Calls Try.prog 3 #[.int .i64 kind, .string s] w fun e w' => e = .returned (.bool true) ∧ Below w.heap.size w w' := by
  by_cases h0 : kind = 0
  · subst h0; exact yes0 s hs w
  · by_cases h1 : kind = 1
    · subst h1; exact yes1 s hs w
    · exact no kind h0 h1 s w
theorem reads (os : Os) {H : Type} (enc : TypeId × Value → H) : ∃ places, DataW.whole enc Try.prog ((Hs.world os).forCall (fun _ _ => 0) ⟨#[], #[.int .i64 0, .string ⟨#[]⟩], []⟩).memory Try.f3.params.toList Rows.hashSumsSpec.vars false (#[.int .i64 0, .string ⟨#[]⟩] : Array Value).toList 8 = some ([.lit (.int .i64 0), .lit (.string [])], [], places) :=
  ⟨[], by kernel_rfl⟩
set_option maxHeartbeats 4000000 in
set_option maxRecDepth 100000 in
theorem lifted (os : Os) (started : os.Started) (H : Type) (enc : TypeId × Value → H) (F : Stop.Interp) :
    ReturnsInHanded {} Try.checked os 3 .any ((OpenSpec.ofChange Rows.hashSumsSpec).preRow enc Try.prog Try.f3 Rows.hashSumsRow.domain false Rows.hashSumsRow.laid) (((OpenSpec.ofChange Rows.hashSumsSpec).at F).post enc Try.prog Try.f3 false true false false) := by
  obtain ⟨places, hx⟩ := reads os enc
  refine returnsInHanded_of_row (C := Try.checked) (s := (OpenSpec.ofChange Rows.hashSumsSpec)) Hs.own started (by kernel_rfl) Try.func3
    (witness_row_atRef (enc := enc) (C := Try.checked) false (Hs.world os) #[.int .i64 0, .string ⟨#[]⟩] rfl (by kernel_rfl) (by kernel_rfl) (by kernel_rfl)
      (OpenSpec.preRow_of_cond 8 hx (by kernel_rfl) (fun k hk => by cases hk) (by kernel_rfl) (Hs.laid_met os _))) ?_
  intro W base args ds gs before hval0 hW _ hk hsz hL _ _
  have hval : ∀ (j : Nat) t v, Try.f3.params[j]? = some t → args[j]? = some v → Value.okWide Try.prog W .any base t v := hval0
  have hW' := hW
  obtain ⟨p, q, hA0, hV0, rfl, _, _⟩ := hW
  have hA : DataW.TrodAll enc Try.prog W 0 (fun _ => true) true Try.f3.params.toList args.toList ds p := hA0
  rw [Try.params3] at hA hval
  obtain ⟨v0, vs0, d0, ds0, p0, q0, hargs, rfl, rfl, h0, r0⟩ := trodAll_cons hA
  obtain ⟨v1, vs1, d1, ds1, p1, q1, rfl, rfl, rfl, h1, r1⟩ := trodAll_cons r0
  obtain ⟨rfl, rfl, rfl⟩ := trodAll_nil r1
  obtain rfl : args = #[v0, v1] := by cases args; simp_all
  obtain ⟨rfl, rfl⟩ := trodVars_none hV0
  obtain ⟨a, rfl, rfl, rfl, wa⟩ := open_int Try.underlying3 (hval 0 3 v0 rfl rfl) h0
  obtain ⟨b, rfl, rfl, rfl, wb⟩ := open_string Try.underlying9 (hval 1 9 v1 rfl rfl) h1
  have zb : b.size ≤ 140737488351232 := by
    have := sized_string hsz (j := 1) (by rw [Try.params3]; rfl) rfl
    rw [Tx.len] at this; unfold reachBytes at this; omega
  clear hA0 hV0 hval0
  refine (walk a b W zb).mono ?_
  rintro e W' ⟨rfl, bel⟩
  have e1 : ((OpenSpec.ofChange Rows.hashSumsSpec).at F).fn H ([.lit (.int .i64 a), .lit (.string b.data.toList)] ++ []) = { results := [.lit (.bool true)], args := [.lit (.int .i64 a), .lit (.string b.data.toList)] } := rfl
  refine ⟨_, rfl, _, _, _, [], [], [], hW', ?_, ?_, ?_, bel.frame _, fun h => by cases h⟩
  · rw [e1]; exact trodAll_cons_mk (shut_bool Try.underlying4 _) trodAll_mk0
  · rw [e1]; exact trodAll_cons_mk (shut_int Try.underlying3 wa) (trodAll_cons_mk (shut_string Try.underlying9 wb) trodAll_mk0)
  · rw [e1]; rfl

theorem said : Rows.HashSumsSaid :=
  OpenClaim.holds_of_cond 3 Try.f3 rfl rfl rfl rfl rfl rfl rfl ⟨rfl, rfl, rfl, rfl, rfl⟩ rfl rfl rfl rfl rfl (by kernel_rfl) Try.func3 (by kernel_rfl)
    (of_decide_eq_true (by kernel_rfl)) (by unfold Func.isWrapper; rw [if_neg (of_decide_eq_false (by kernel_rfl))]; exact ⟨rfl, rfl⟩)
    (fun os started H enc _ F => by rw [OpenClaim.pre_eq_preRow]; exact lifted os started H enc F)

end lwSums
end Go.Proofs.Ytelfhdihkeafnaa
