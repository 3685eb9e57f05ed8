/- RsaBlocks answers true for every text and every size; they read as they did. -/
import Derived.Test.YtfbliccblippiaaGreatDoorRsI
import Derived.Test.YtfbliccblippiaaGreatDoorRsN
import Derived.Test.YtfbliccblippiaaGreatDoorRsJ
import Derived.Test.YtfbliccblippiaaGreatDoorCards
import Derived.Test.YtfbliccblippiaaGreatDoorTie
import Derived.OpenShut
namespace Go.Proofs.YtfbliccblippiaaGreatDoor
section
open Go.RowKit
namespace lwBlocks
set_option maxHeartbeats 4000000 in
set_option maxRecDepth 100000 in
theorem near (s A B : ByteArray) (n : Int) (F G : Nat) (w : World) (ok : Rs.Ok w)
    (HA : ∀ W, Rs.Ok W → Calls Tryz.prog 17 #[.string s, .int .i64 n] W fun e w' => e = .returned (.tuple #[.string A, .int .i64 (F : Int)]) ∧ Below W.heap.size W w')
    (HX : ∀ W, Calls Tryz.prog 18 #[.string s, .int .i64 n] W fun e w' => e = .returned (.tuple #[.string A, .int .i64 (F : Int)]) ∧ Below W.heap.size W w')
    (HB : ∀ W, Calls Tryz.prog 19 #[.string s, .int .i64 n] W fun e w' => e = .returned (.tuple #[.string B, .int .i64 (G : Int)]) ∧ Below W.heap.size W w')
    (HY : ∀ W, Calls Tryz.prog 20 #[.string s, .int .i64 n] W fun e w' => e = .returned (.tuple #[.string B, .int .i64 (G : Int)]) ∧ Below W.heap.size W w') :
    Calls Tryz.prog 5 #[.string s, .int .i64 n] w fun e w' => e = .returned (.bool true) ∧ Below w.heap.size w w' := by
  have HA := Lib.hid HA
  have HX := Lib.hid HX
  have HB := Lib.hid HB
  have HY := Lib.hid HY
  have H0 := Lib.hid (And.intro ok (And.intro (Below.refl w.heap.size w) True.intro))
  clear ok
  go_enter Tryz.func5, Tryz.ntmps5
  go_wp2_with fail
  go_at_call 17
  refine Calls.mono (HA.out _ H0.out.1) ?_
  rintro e1 w1 ⟨rfl, hb⟩
  have H1 := Lib.hid (And.intro (H0.out.1.below hb) (And.intro (H0.out.2.1.trans (hb.mono H0.out.2.1.size)) True.intro))
  clear hb
  go_wp2_with fail
  go_at_call 18
  refine Calls.mono (HX.out _) ?_
  rintro e2 w2 ⟨rfl, hb⟩
  have H2 := Lib.hid (And.intro (H1.out.1.below hb) (And.intro (H1.out.2.1.trans (hb.mono H1.out.2.1.size)) True.intro))
  clear hb
  go_wp2_with fail
  go_at_call 19
  refine Calls.mono (HB.out _) ?_
  rintro e3 w3 ⟨rfl, hb⟩
  have H3 := Lib.hid (And.intro (H2.out.1.below hb) (And.intro (H2.out.2.1.trans (hb.mono H2.out.2.1.size)) True.intro))
  clear hb
  go_wp2_with fail
  go_at_call 20
  refine Calls.mono (HY.out _) ?_
  rintro e4 w4 ⟨rfl, hb⟩
  have H4 := Lib.hid (And.intro (H3.out.1.below hb) (And.intro (H3.out.2.1.trans (hb.mono H3.out.2.1.size)) True.intro))
  clear hb
  go_wp2_with fail
  go_at_call 13
  refine Calls.mono (Rs.fixed_any w4 H4.out.1) ?_
  rintro e5 w5 ⟨rfl, hb⟩
  have H5 := Lib.hid (H4.out.2.1.trans (hb.mono H4.out.2.1.size))
  clear hb
  go_wp2_with fail
  go_ret
  exact ⟨rfl, H5.out⟩
theorem walk (s : ByteArray) (n : Int) (w : World) (ok : Rs.Ok w) (zs : s.size ≤ 140737488351232) :
    Calls Tryz.prog 5 #[.string s, .int .i64 n] w fun e w' => e = .returned (.bool true) ∧ Below w.heap.size w w' := by
  by_cases hm : n < 0 ∨ (0 ≤ n ∧ 512 < n)
  · have hb : n < 62 ∨ (62 ≤ n ∧ 512 < n) := by omega
    exact near s _ _ n 42 42 w ok (fun W hW => Rs.Block_no W hW s n hb) (fun W => Rs.RBlock_no W s n hb) (fun W => Rs.Mask_no W s n hm) (fun W => Rs.RMask_no W s n hm)
  · obtain ⟨N, rfl⟩ : ∃ N : Nat, n = (N : Int) := ⟨n.toNat, by omega⟩
    have hN : N ≤ 512 := by omega
    have mB := fun W => Rs.Mask_ok W s N (by omega) hN
    have mY := fun W => Rs.RMask_ok W s N (by omega) hN
    by_cases h62 : N < 62
    · have hb : (N : Int) < 62 ∨ (62 ≤ (N : Int) ∧ 512 < (N : Int)) := by omega
      exact near s _ _ _ 42 0 w ok (fun W hW => Rs.Block_no W hW s _ hb) (fun W => Rs.RBlock_no W s _ hb) mB mY
    · exact near s _ _ _ 0 0 w ok (fun W _ => Rs.Block_ok W s N (by omega) (by omega) hN) (fun W => Rs.RBlock_ok W s N zs (by omega) hN) mB mY
end lwBlocks
end
section
open Go.ChangeShapes Go.WideShapes Go.ChangeAt Go.RowKit
open Go.ChangeMaps (open_string shut_string)
namespace lwBlocks

theorem reads (os : Os) {H : Type} (enc : TypeId × Value → H) : ∃ places, DataW.whole enc Tryz.prog ((Rs.laidWorld os).forCall (fun _ _ => 0) ⟨#[], #[.string ⟨#[]⟩, .int .i64 0], []⟩).memory Tryz.f5.params.toList Rows.rsaBlocksSpec.vars false (#[.string ⟨#[]⟩, .int .i64 0] : Array Value).toList 8 = some ([.lit (.string []), .lit (.int .i64 0)], [], places) :=
  ⟨[], by kernel_rfl⟩
set_option maxHeartbeats 4000000 in
set_option maxRecDepth 100000 in
theorem lifted (os : Os) (started : os.Started) (H : Type) (enc : TypeId × Value → H) (F : Stop.Interp) :
    ReturnsInHanded {} Tryz.checked os 5 .any ((OpenSpec.ofChange Rows.rsaBlocksSpec).preRow enc Tryz.prog Tryz.f5 Rows.rsaBlocksRow.domain false Rows.rsaBlocksRow.laid) (((OpenSpec.ofChange Rows.rsaBlocksSpec).at F).post enc Tryz.prog Tryz.f5 false true false false) := by
  obtain ⟨places, hx⟩ := reads os enc
  refine returnsInHanded_of_row (C := Tryz.checked) (s := (OpenSpec.ofChange Rows.rsaBlocksSpec)) Rs.own started (by kernel_rfl) Tryz.func5
    (witness_row_atRef (enc := enc) (C := Tryz.checked) false (Rs.laidWorld os) #[.string ⟨#[]⟩, .int .i64 0] rfl (by kernel_rfl) (by kernel_rfl) (by kernel_rfl)
      (OpenSpec.preRow_of_cond 8 hx (by kernel_rfl) (fun k hk => by cases hk) (by kernel_rfl) (Rs.laid_met os _))) ?_
  intro W base args ds gs before hval0 hW _ hk hsz hL _ _
  have hval : ∀ (j : Nat) t v, Tryz.f5.params[j]? = some t → args[j]? = some v → Value.okWide Tryz.prog W .any base t v := hval0
  have hW' := hW
  obtain ⟨p, q, hA0, hV0, rfl, _, _⟩ := hW
  have hA : DataW.TrodAll enc Tryz.prog W 0 (fun _ => true) true Tryz.f5.params.toList args.toList ds p := hA0
  rw [Tryz.params5] at hA hval
  obtain ⟨v0, vs0, d0, ds0, p0, q0, hargs, rfl, rfl, h0, r0⟩ := trodAll_cons hA
  obtain ⟨v1, vs1, d1, ds1, p1, q1, rfl, rfl, rfl, h1, r1⟩ := trodAll_cons r0
  obtain ⟨rfl, rfl, rfl⟩ := trodAll_nil r1
  obtain rfl : args = #[v0, v1] := by cases args; simp_all
  obtain ⟨rfl, rfl⟩ := trodVars_none hV0
  obtain ⟨a, rfl, rfl, rfl, wa⟩ := open_string Tryz.underlying9 (hval 0 9 v0 rfl rfl) h0
  have za : a.size ≤ 140737488351232 := by
    have := sized_string hsz (j := 0) (by rw [Tryz.params5]; rfl) rfl
    rw [Tx.len] at this; unfold reachBytes at this; omega
  obtain ⟨b, rfl, rfl, rfl, wb⟩ := open_int Tryz.underlying3 (hval 1 3 v1 rfl rfl) h1
  clear hA0 hV0 hval0
  refine (walk a b W (Rs.ok_of_laid hL) za).mono ?_
  rintro e W' ⟨rfl, bel⟩
  have e1 : ((OpenSpec.ofChange Rows.rsaBlocksSpec).at F).fn H ([.lit (.string a.data.toList), .lit (.int .i64 b)] ++ []) = { results := [.lit (.bool true)], args := [.lit (.string a.data.toList), .lit (.int .i64 b)] } := rfl
  refine ⟨_, rfl, _, _, _, [], [], [], hW', ?_, ?_, ?_, bel.frame _, fun h => by cases h⟩
  · rw [e1]; exact trodAll_cons_mk (shut_bool Tryz.underlying4 _) trodAll_mk0
  · rw [e1]; exact trodAll_cons_mk (shut_string Tryz.underlying9 wa) (trodAll_cons_mk (shut_int Tryz.underlying3 wb) trodAll_mk0)
  · rw [e1]; rfl

theorem said : Rows.RsaBlocksSaid :=
  OpenClaim.holds_of_cond 5 Tryz.f5 rfl rfl rfl rfl rfl rfl rfl ⟨rfl, rfl, rfl, rfl, rfl⟩ rfl rfl rfl rfl rfl (by kernel_rfl) Tryz.func5 (by kernel_rfl)
    (of_decide_eq_true (by kernel_rfl)) (by unfold Func.isWrapper; rw [if_neg (of_decide_eq_false (by kernel_rfl))]; exact ⟨rfl, rfl⟩)
    (fun os started H enc _ F => by rw [OpenClaim.pre_eq_preRow]; exact lifted os started H enc F)

/-- No parameter wants a stand-in; the program's own looks are off. -/
theorem plain (f : FuncId) (fn : Func) (hf : Tryz.pinned.checked.prog.funcNamed "ostiary/ostiarylaw04.RsaBlocks" = some f) (hfn : Tryz.pinned.checked.prog.funcs[f]? = some fn) :
    true = Tryz.pinned.checked.prog.looks [] ∧ ∀ (j : Nat) t, fn.params[j]? = some t → Tryz.pinned.checked.prog.wantsStandIn t = false := by
  obtain rfl : f = 5 := Option.some.inj ((show Tryz.prog.funcNamed "ostiary/ostiarylaw04.RsaBlocks" = some 5 by kernel_rfl).symm.trans hf) |>.symm
  obtain rfl : fn = Tryz.f5 := (Option.some.inj (Tryz.func5.symm.trans hfn)).symm
  refine ⟨by kernel_rfl, fun j t ht => ?_⟩
  rw [Tryz.params5] at ht
  have hm := Array.mem_of_getElem? ht
  simp only [List.mem_toArray, List.mem_cons, List.mem_nil_iff, or_false] at hm
  rcases hm with rfl | rfl
  · exact (show Tryz.prog.wantsStandIn 9 = false by kernel_rfl)
  · exact (show Tryz.prog.wantsStandIn 3 = false by kernel_rfl)

theorem card : Rows.RsaBlocksCardSaid :=
  Claim7.holds_tied_plain_at .later [] _ _ _ _ said (fun _ h => by cases h) (by kernel_rfl) (fun _ h => by cases h) rsaBlocks_row_tie rfl ⟨rfl, rfl⟩ (by kernel_rfl) rfl plain (by kernel_rfl)


end lwBlocks
end
end Go.Proofs.YtfbliccblippiaaGreatDoor
