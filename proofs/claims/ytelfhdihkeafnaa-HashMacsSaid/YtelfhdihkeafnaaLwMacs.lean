/- HashMacs: the mac of any key and bytes, of either kind, is what the reference reckons, from the roots of the primes on; of any other kind both refuse. For every input. -/
import Derived.Test.YtelfhdihkeafnaaRmC
import Derived.Test.YtelfhdihkeafnaaHsL
import Derived.OpenShut
import Derived.ChangeMaps5
namespace Go.Proofs.Ytelfhdihkeafnaa
open Go.ChangeShapes Go.WideShapes Go.ChangeAt Go.ChangeMaps Go.RowKit

namespace lwMacs
set_option maxHeartbeats 8000000 in
set_option maxRecDepth 100000 in
theorem yes0 (key s : ByteArray) (hk : key.size ≤ 140737488351232) (hs : s.size ≤ 140737488351232) (w : World) :
    Calls Try.prog 4 #[.int .i64 0, .string key, .string s] w fun e w' => e = .returned (.bool true) ∧ Below w.heap.size w w' := by
  have DF := Lib.hid (Hs.Mac_any 0 (by decide) key s (by omega) (by omega))
  have DR := Lib.hid (fun W => Rf.RMac0 W key s hk hs)
  obtain ⟨X, hX⟩ : ∃ X, Tx.ba (Hs.mac 0 key.data.toList s.data.toList) = X := ⟨_, rfl⟩
  rw [hX] at DF DR
  clear hX
  go_enter Try.func4, Try.ntmps4
  go_wp2_with fail
  refine (DF.out w).mono ?_
  rintro e w1 ⟨rfl, b1⟩
  go_wp2_with fail
  refine (DR.out _).mono ?_
  rintro e w2 ⟨rfl, b2⟩
  have B2 := b1.trans (b2.mono b1.size)
  go_wp2_with fail
  refine (Hs.fixed_any _).mono ?_
  rintro e w3 ⟨rfl, b3⟩
  have B3 := B2.trans (b3.mono B2.size)
  go_wp2_with fail
  go_ret
  exact ⟨rfl, B3⟩
set_option maxHeartbeats 8000000 in
set_option maxRecDepth 100000 in
theorem yes1 (key s : ByteArray) (hk : key.size ≤ 140737488351232) (hs : s.size ≤ 140737488351232) (w : World) :
    Calls Try.prog 4 #[.int .i64 1, .string key, .string s] w fun e w' => e = .returned (.bool true) ∧ Below w.heap.size w w' := by
  have DF := Lib.hid (Hs.Mac_any 1 (by decide) key s (by omega) (by omega))
  have DR := Lib.hid (fun W => Rf.RMac1 W key s hk hs)
  obtain ⟨X, hX⟩ : ∃ X, Tx.ba (Hs.mac 1 key.data.toList s.data.toList) = X := ⟨_, rfl⟩
  rw [hX] at DF DR
  clear hX
  go_enter Try.func4, Try.ntmps4
  go_wp2_with fail
  refine (DF.out w).mono ?_
  rintro e w1 ⟨rfl, b1⟩
  go_wp2_with fail
  refine (DR.out _).mono ?_
  rintro e w2 ⟨rfl, b2⟩
  have B2 := b1.trans (b2.mono b1.size)
  go_wp2_with fail
  refine (Hs.fixed_any _).mono ?_
  rintro e w3 ⟨rfl, b3⟩
  have B3 := B2.trans (b3.mono B2.size)
  go_wp2_with fail
  go_ret
  exact ⟨rfl, B3⟩
set_option maxHeartbeats 8000000 in
set_option maxRecDepth 100000 in
theorem no (kind : Int) (h0 : kind ≠ 0) (h1 : kind ≠ 1) (key s : ByteArray) (w : World) :
    Calls Try.prog 4 #[.int .i64 kind, .string key, .string s] w fun e w' => e = .returned (.bool true) ∧ Below w.heap.size w w' := by
  have DF := Lib.hid (Hs.Mac_no kind h0 h1 key s)
  have DR := Lib.hid (fun W => Rf.RMac_no W kind h0 h1 key s)
  go_enter Try.func4, Try.ntmps4
  go_wp2_with fail
  refine (DF.out w).mono ?_
  rintro e w1 ⟨rfl, rfl⟩
  go_wp2_with fail
  refine (DR.out _).mono ?_
  rintro e w2 ⟨rfl, b2⟩
  go_wp2_with fail
  refine (Hs.fixed_any _).mono ?_
  rintro e w3 ⟨rfl, b3⟩
  have B3 := b2.trans (b3.mono b2.size)
  go_wp2_with fail
  go_ret
  exact ⟨rfl, B3⟩
theorem walk (kind : Int) (key s : ByteArray) (w : World) (hk : key.size ≤ 140737488351232) (hs : s.size ≤ 140737488351232) :
    Calls Try.prog 4 #[.int .i64 kind, .string key, .string s] w fun e w' => e = .returned (.bool true) ∧ Below w.heap.size w w' := by
  by_cases h0 : kind = 0
  · subst h0; exact yes0 key s hk hs w
  · by_cases h1 : kind = 1
    · subst h1; exact yes1 key s hk hs w
    · exact no kind h0 h1 key s w
theorem reads (os : Os) {H : Type} (enc : TypeId × Value → H) : ∃ places, DataW.whole enc Try.prog ((Hs.world os).forCall (fun _ _ => 0) ⟨#[], #[.int .i64 0, .string ⟨#[]⟩, .string ⟨#[]⟩], []⟩).memory Try.f4.params.toList Rows.hashMacsSpec.vars false (#[.int .i64 0, .string ⟨#[]⟩, .string ⟨#[]⟩] : Array Value).toList 8 = some ([.lit (.int .i64 0), .lit (.string []), .lit (.string [])], [], places) :=
  ⟨[], by kernel_rfl⟩
set_option maxHeartbeats 4000000 in
set_option maxRecDepth 100000 in
theorem lifted (os : Os) (started : os.Started) (H : Type) (enc : TypeId × Value → H) (F : Stop.Interp) :
    ReturnsInHanded {} Try.checked os 4 .any ((OpenSpec.ofChange Rows.hashMacsSpec).preRow enc Try.prog Try.f4 Rows.hashMacsRow.domain false Rows.hashMacsRow.laid) (((OpenSpec.ofChange Rows.hashMacsSpec).at F).post enc Try.prog Try.f4 false true false false) := by
  obtain ⟨places, hx⟩ := reads os enc
  refine returnsInHanded_of_row (C := Try.checked) (s := (OpenSpec.ofChange Rows.hashMacsSpec)) Hs.own started (by kernel_rfl) Try.func4
    (witness_row_atRef (enc := enc) (C := Try.checked) false (Hs.world os) #[.int .i64 0, .string ⟨#[]⟩, .string ⟨#[]⟩] rfl (by kernel_rfl) (by kernel_rfl) (by kernel_rfl)
      (OpenSpec.preRow_of_cond 8 hx (by kernel_rfl) (fun k hk => by cases hk) (by kernel_rfl) (Hs.laid_met os _))) ?_
  intro W base args ds gs before hval0 hW _ hk hsz hL _ _
  have hval : ∀ (j : Nat) t v, Try.f4.params[j]? = some t → args[j]? = some v → Value.okWide Try.prog W .any base t v := hval0
  have hW' := hW
  obtain ⟨p, q, hA0, hV0, rfl, _, _⟩ := hW
  have hA : DataW.TrodAll enc Try.prog W 0 (fun _ => true) true Try.f4.params.toList args.toList ds p := hA0
  rw [Try.params4] at hA hval
  obtain ⟨v0, vs0, d0, ds0, p0, q0, hargs, rfl, rfl, h0, r0⟩ := trodAll_cons hA
  obtain ⟨v1, vs1, d1, ds1, p1, q1, rfl, rfl, rfl, h1, r1⟩ := trodAll_cons r0
  obtain ⟨v2, vs2, d2, ds2, p2, q2, rfl, rfl, rfl, h2, r2⟩ := trodAll_cons r1
  obtain ⟨rfl, rfl, rfl⟩ := trodAll_nil r2
  obtain rfl : args = #[v0, v1, v2] := by cases args; simp_all
  obtain ⟨rfl, rfl⟩ := trodVars_none hV0
  obtain ⟨a, rfl, rfl, rfl, wa⟩ := open_int Try.underlying3 (hval 0 3 v0 rfl rfl) h0
  obtain ⟨b, rfl, rfl, rfl, wb⟩ := open_string Try.underlying9 (hval 1 9 v1 rfl rfl) h1
  have zb : b.size ≤ 140737488351232 := by
    have := sized_string hsz (j := 1) (by rw [Try.params4]; rfl) rfl
    rw [Tx.len] at this; unfold reachBytes at this; omega
  obtain ⟨c, rfl, rfl, rfl, wc⟩ := open_string Try.underlying9 (hval 2 9 v2 rfl rfl) h2
  have zc : c.size ≤ 140737488351232 := by
    have := sized_string hsz (j := 2) (by rw [Try.params4]; rfl) rfl
    rw [Tx.len] at this; unfold reachBytes at this; omega
  clear hA0 hV0 hval0
  refine (walk a b c W zb zc).mono ?_
  rintro e W' ⟨rfl, bel⟩
  have e1 : ((OpenSpec.ofChange Rows.hashMacsSpec).at F).fn H ([.lit (.int .i64 a), .lit (.string b.data.toList), .lit (.string c.data.toList)] ++ []) = { results := [.lit (.bool true)], args := [.lit (.int .i64 a), .lit (.string b.data.toList), .lit (.string c.data.toList)] } := rfl
  refine ⟨_, rfl, _, _, _, [], [], [], hW', ?_, ?_, ?_, bel.frame _, fun h => by cases h⟩
  · rw [e1]; exact trodAll_cons_mk (shut_bool Try.underlying4 _) trodAll_mk0
  · rw [e1]; exact trodAll_cons_mk (shut_int Try.underlying3 wa) (trodAll_cons_mk (shut_string Try.underlying9 wb) (trodAll_cons_mk (shut_string Try.underlying9 wc) trodAll_mk0))
  · rw [e1]; rfl

theorem said : Rows.HashMacsSaid :=
  OpenClaim.holds_of_cond 4 Try.f4 rfl rfl rfl rfl rfl rfl rfl ⟨rfl, rfl, rfl, rfl, rfl⟩ rfl rfl rfl rfl rfl (by kernel_rfl) Try.func4 (by kernel_rfl)
    (of_decide_eq_true (by kernel_rfl)) (by unfold Func.isWrapper; rw [if_neg (of_decide_eq_false (by kernel_rfl))]; exact ⟨rfl, rfl⟩)
    (fun os started H enc _ F => by rw [OpenClaim.pre_eq_preRow]; exact lifted os started H enc F)

end lwMacs
end Go.Proofs.Ytelfhdihkeafnaa
