/- HashKinds: of each kind's sums the lengths, the short names, and a hash in one piece, are alike; any other kind is refused everywhere. For every input. -/
import Derived.Test.YtejnkchfjkhheaaHsL
import Derived.OpenShut
import Derived.ChangeMaps5
namespace Go.Proofs.Ytejnkchfjkhheaa
open Go.ChangeShapes Go.WideShapes Go.ChangeAt Go.ChangeMaps Go.RowKit

namespace lwKinds
set_option maxHeartbeats 8000000 in
set_option maxRecDepth 100000 in
theorem no (kind : Int) (h0 : kind ≠ 0) (h1 : kind ≠ 1) (key s : ByteArray) (w : World) :
    Calls Try.prog 5 #[.int .i64 kind, .string key, .string s] w fun e w' => e = .returned (.bool true) ∧ Below w.heap.size w w' := by
  have DF := Lib.hid (Hs.FSum_no kind h0 h1 s)
  have DM := Lib.hid (Hs.Mac_no kind h0 h1 key s)
  have DN := Lib.hid (Hs.New_no kind h0 h1)
  have t0 : (kind != 0) = true := by rw [bne_iff_ne]; exact h0
  have t1 : (kind != 1) = true := by rw [bne_iff_ne]; exact h1
  go_enter Try.func5, Try.ntmps5
  go_wp2_with fail
  refine (DF.out w).mono ?_
  rintro e w1 ⟨rfl, rfl⟩
  go_wp2_with fail
  refine (DM.out _).mono ?_
  rintro e w2 ⟨rfl, rfl⟩
  go_wp2_with fail
  refine (DN.out _).mono ?_
  rintro e w3 ⟨rfl, rfl⟩
  go_wp2_with fail
  refine (Hs.fixed_any _).mono ?_
  rintro e w4 ⟨rfl, b4⟩
  go_wp2_with fail
  go_ret
  exact ⟨rfl, b4⟩
theorem sz (n : Nat) (h : n ≤ 140737488355328) : n ≤ 1152921504606845000 ∧ n ≤ 1152921504606846000 := by omega
set_option maxHeartbeats 8000000 in
set_option maxRecDepth 100000 in
theorem yes0 (key s : ByteArray) (hk : key.size ≤ 140737488355328) (hs : s.size ≤ 140737488355328) (w : World) :
    Calls Try.prog 5 #[.int .i64 0, .string key, .string s] w fun e w' => e = .returned (.bool true) ∧ Below w.heap.size w w' := by
  have k2 := (sz _ hk).2
  have s1 := (sz _ hs).1
  have s2 := (sz _ hs).2
  have DF := Lib.hid (Hs.FSum_any 0 (by decide) s s2)
  have DM := Lib.hid (Hs.Mac_any 0 (by decide) key s k2 s1)
  have DN := Lib.hid Hs.New0
  have DG := Lib.hid (Hs.Sum256_any s s2)
  have DH := Lib.hid (Hs.Mac256_any key s k2 s1)
  have DW := Lib.hid (fun (W : World) (p : Nat) (hW : Hs.Is W p 0 []) => Hs.Write_any W p 0 [] s hW (by simp; omega))
  have DS := Lib.hid (fun (W : World) (p : Nat) (hW : Hs.Is W p 0 s.data.toList) => Hs.Sum_any W p 0 _ hW (by rw [Tx.len]; exact s2))
  have DZ := Lib.hid (fun (W : World) (p : Nat) (hW : Hs.Is W p 0 s.data.toList) => by have := Hs.Size_any W p 0 _ hW; rw [Tx.len] at this; exact this)
  have lx : (Tx.ba (Hs.sum 0 s.data.toList)).size = 32 := Hs.sum_length 0 _
  have ly : (Tx.ba (Hs.mac 0 key.data.toList s.data.toList)).size = 32 := Hs.sum_length 0 _
  generalize Tx.ba (Hs.sum 0 s.data.toList) = X at *
  generalize Tx.ba (Hs.mac 0 key.data.toList s.data.toList) = Y at *
  go_enter Try.func5, Try.ntmps5
  go_wp2_with fail
  refine (DF.out w).mono ?_
  rintro e w1 ⟨rfl, b1⟩
  go_wp2_with fail
  refine (DM.out _).mono ?_
  rintro e w2 ⟨rfl, b2⟩
  have B2 := b1.trans (b2.mono b1.size)
  go_wp2_with fail
  refine (DN.out _).mono ?_
  rintro e w3 ⟨p, rfl, hp, h3, b3⟩
  have B3 := B2.trans (b3.mono B2.size)
  have hwp := Nat.le_trans B2.size hp
  go_wp2_with fail
  refine (Hs.fixed_any _).mono ?_
  rintro e w4 ⟨rfl, b4⟩
  have h4 := h3.below b4 h3.lt
  have B4 := B3.trans (b4.mono B3.size)
  go_wp2_with fail
  refine (DW.out _ _ h4).mono ?_
  rintro e w5 ⟨rfl, h5, b5⟩
  rw [List.nil_append] at h5
  have B5 := B4.trans (b5.toBelow hwp B4.size)
  clear b1 b2 b3 b4 b5 B2 B3 B4 h3 h4
  go_wp2_with fail
  refine (DS.out _ _ h5).mono ?_
  rintro e w6 ⟨rfl, b6⟩
  have h6 := h5.below b6 h5.lt
  have B6 := B5.trans (b6.mono B5.size)
  go_wp2_with fail
  refine (DZ.out _ _ h6).mono ?_
  rintro e w7 ⟨rfl, rfl⟩
  go_wp2_with fail
  refine (DG.out _).mono ?_
  rintro e w8 ⟨rfl, b8⟩
  have B8 := B6.trans (b8.mono B6.size)
  go_wp2_with fail
  refine (DH.out _).mono ?_
  rintro e w9 ⟨rfl, b9⟩
  have B9 := B8.trans (b9.mono B8.size)
  go_wp2_with fail
  go_ret
  exact ⟨rfl, B9⟩
set_option maxHeartbeats 8000000 in
set_option maxRecDepth 100000 in
theorem yes1 (key s : ByteArray) (hk : key.size ≤ 140737488355328) (hs : s.size ≤ 140737488355328) (w : World) :
    Calls Try.prog 5 #[.int .i64 1, .string key, .string s] w fun e w' => e = .returned (.bool true) ∧ Below w.heap.size w w' := by
  have k2 := (sz _ hk).2
  have s1 := (sz _ hs).1
  have s2 := (sz _ hs).2
  have DF := Lib.hid (Hs.FSum_any 1 (by decide) s s2)
  have DM := Lib.hid (Hs.Mac_any 1 (by decide) key s k2 s1)
  have DN := Lib.hid Hs.New1
  have DG := Lib.hid (Hs.Sum384_any s s2)
  have DW := Lib.hid (fun (W : World) (p : Nat) (hW : Hs.Is W p 1 []) => Hs.Write_any W p 1 [] s hW (by simp; omega))
  have DS := Lib.hid (fun (W : World) (p : Nat) (hW : Hs.Is W p 1 s.data.toList) => Hs.Sum_any W p 1 _ hW (by rw [Tx.len]; exact s2))
  have DZ := Lib.hid (fun (W : World) (p : Nat) (hW : Hs.Is W p 1 s.data.toList) => by have := Hs.Size_any W p 1 _ hW; rw [Tx.len] at this; exact this)
  have lx : (Tx.ba (Hs.sum 1 s.data.toList)).size = 48 := Hs.sum_length 1 _
  have ly : (Tx.ba (Hs.mac 1 key.data.toList s.data.toList)).size = 48 := Hs.sum_length 1 _
  generalize Tx.ba (Hs.sum 1 s.data.toList) = X at *
  generalize Tx.ba (Hs.mac 1 key.data.toList s.data.toList) = Y at *
  go_enter Try.func5, Try.ntmps5
  go_wp2_with fail
  refine (DF.out w).mono ?_
  rintro e w1 ⟨rfl, b1⟩
  go_wp2_with fail
  refine (DM.out _).mono ?_
  rintro e w2 ⟨rfl, b2⟩
  have B2 := b1.trans (b2.mono b1.size)
  go_wp2_with fail
  refine (DN.out _).mono ?_
  rintro e w3 ⟨p, rfl, hp, h3, b3⟩
  have B3 := B2.trans (b3.mono B2.size)
  have hwp := Nat.le_trans B2.size hp
  go_wp2_with fail
  refine (Hs.fixed_any _).mono ?_
  rintro e w4 ⟨rfl, b4⟩
  have h4 := h3.below b4 h3.lt
  have B4 := B3.trans (b4.mono B3.size)
  go_wp2_with fail
  refine (DW.out _ _ h4).mono ?_
  rintro e w5 ⟨rfl, h5, b5⟩
  rw [List.nil_append] at h5
  have B5 := B4.trans (b5.toBelow hwp B4.size)
  clear b1 b2 b3 b4 b5 B2 B3 B4 h3 h4
  go_wp2_with fail
  refine (DS.out _ _ h5).mono ?_
  rintro e w6 ⟨rfl, b6⟩
  have h6 := h5.below b6 h5.lt
  have B6 := B5.trans (b6.mono B5.size)
  go_wp2_with fail
  refine (DZ.out _ _ h6).mono ?_
  rintro e w7 ⟨rfl, rfl⟩
  go_wp2_with fail
  refine (DG.out _).mono ?_
  rintro e w8 ⟨rfl, b8⟩
  have B8 := B6.trans (b8.mono B6.size)
  go_wp2_with fail
  go_ret
  exact ⟨rfl, B8⟩
theorem walk (kind : Int) (key s : ByteArray) (w : World) (hk : key.size ≤ 140737488355328) (hs : s.size ≤ 140737488355328) :
    Calls Try.prog 5 #[.int .i64 kind, .string key, .string s] w fun e w' => e = .returned (.bool true) ∧ Below w.heap.size w w' := by
  by_cases h0 : kind = 0
  · subst h0; exact yes0 key s hk hs w
  · by_cases h1 : kind = 1
    · subst h1; exact yes1 key s hk hs w
    · exact no kind h0 h1 key s w
theorem reads (os : Os) {H : Type} (enc : TypeId × Value → H) : ∃ places, DataW.whole enc Try.prog ((Hs.world os).forCall (fun _ _ => 0) ⟨#[], #[.int .i64 0, .string ⟨#[]⟩, .string ⟨#[]⟩], []⟩).memory Try.f5.params.toList Rows.hashKindsSpec.vars false (#[.int .i64 0, .string ⟨#[]⟩, .string ⟨#[]⟩] : Array Value).toList 8 = some ([.lit (.int .i64 0), .lit (.string []), .lit (.string [])], [], places) :=
  ⟨[], by kernel_rfl⟩
set_option maxHeartbeats 4000000 in
set_option maxRecDepth 100000 in
theorem lifted (os : Os) (started : os.Started) (H : Type) (enc : TypeId × Value → H) (F : Stop.Interp) :
    ReturnsInHanded {} Try.checked os 5 .any ((OpenSpec.ofChange Rows.hashKindsSpec).preRow enc Try.prog Try.f5 Rows.hashKindsRow.domain false Rows.hashKindsRow.laid) (((OpenSpec.ofChange Rows.hashKindsSpec).at F).post enc Try.prog Try.f5 false true false false) := by
  obtain ⟨places, hx⟩ := reads os enc
  refine returnsInHanded_of_row (C := Try.checked) (s := (OpenSpec.ofChange Rows.hashKindsSpec)) Hs.own started (by kernel_rfl) Try.func5
    (witness_row_atRef (enc := enc) (C := Try.checked) false (Hs.world os) #[.int .i64 0, .string ⟨#[]⟩, .string ⟨#[]⟩] rfl (by kernel_rfl) (by kernel_rfl) (by kernel_rfl)
      (OpenSpec.preRow_of_cond 8 hx (by kernel_rfl) (fun k hk => by cases hk) (by kernel_rfl) (Hs.laid_met os _))) ?_
  intro W base args ds gs before hval0 hW _ hk hsz hL _ _
  have hval : ∀ (j : Nat) t v, Try.f5.params[j]? = some t → args[j]? = some v → Value.okWide Try.prog W .any base t v := hval0
  have hW' := hW
  obtain ⟨p, q, hA0, hV0, rfl, _, _⟩ := hW
  have hA : DataW.TrodAll enc Try.prog W 0 (fun _ => true) true Try.f5.params.toList args.toList ds p := hA0
  rw [Try.params5] at hA hval
  obtain ⟨v0, vs0, d0, ds0, p0, q0, hargs, rfl, rfl, h0, r0⟩ := trodAll_cons hA
  obtain ⟨v1, vs1, d1, ds1, p1, q1, rfl, rfl, rfl, h1, r1⟩ := trodAll_cons r0
  obtain ⟨v2, vs2, d2, ds2, p2, q2, rfl, rfl, rfl, h2, r2⟩ := trodAll_cons r1
  obtain ⟨rfl, rfl, rfl⟩ := trodAll_nil r2
  obtain rfl : args = #[v0, v1, v2] := by cases args; simp_all
  obtain ⟨rfl, rfl⟩ := trodVars_none hV0
  obtain ⟨a, rfl, rfl, rfl, wa⟩ := open_int Try.underlying3 (hval 0 3 v0 rfl rfl) h0
  obtain ⟨b, rfl, rfl, rfl, wb⟩ := open_string Try.underlying9 (hval 1 9 v1 rfl rfl) h1
  have zb : b.size ≤ 140737488355328 := by
    have := sized_string hsz (j := 1) (by rw [Try.params5]; rfl) rfl
    rw [Tx.len] at this; unfold reachBytes at this; omega
  obtain ⟨c, rfl, rfl, rfl, wc⟩ := open_string Try.underlying9 (hval 2 9 v2 rfl rfl) h2
  have zc : c.size ≤ 140737488355328 := by
    have := sized_string hsz (j := 2) (by rw [Try.params5]; rfl) rfl
    rw [Tx.len] at this; unfold reachBytes at this; omega
  clear hA0 hV0 hval0
  refine (walk a b c W zb zc).mono ?_
  rintro e W' ⟨rfl, bel⟩
  have e1 : ((OpenSpec.ofChange Rows.hashKindsSpec).at F).fn H ([.lit (.int .i64 a), .lit (.string b.data.toList), .lit (.string c.data.toList)] ++ []) = { results := [.lit (.bool true)], args := [.lit (.int .i64 a), .lit (.string b.data.toList), .lit (.string c.data.toList)] } := rfl
  refine ⟨_, rfl, _, _, _, [], [], [], hW', ?_, ?_, ?_, bel.frame _, fun h => by cases h⟩
  · rw [e1]; exact trodAll_cons_mk (shut_bool Try.underlying4 _) trodAll_mk0
  · rw [e1]; exact trodAll_cons_mk (shut_int Try.underlying3 wa) (trodAll_cons_mk (shut_string Try.underlying9 wb) (trodAll_cons_mk (shut_string Try.underlying9 wc) trodAll_mk0))
  · rw [e1]; rfl

theorem said : Rows.HashKindsSaid :=
  OpenClaim.holds_of_cond 5 Try.f5 rfl rfl rfl rfl rfl rfl rfl ⟨rfl, rfl, rfl, rfl, rfl⟩ rfl rfl rfl rfl rfl (by kernel_rfl) Try.func5 (by kernel_rfl)
    (of_decide_eq_true (by kernel_rfl)) (by unfold Func.isWrapper; rw [if_neg (of_decide_eq_false (by kernel_rfl))]; exact ⟨rfl, rfl⟩)
    (fun os started H enc _ F => by rw [OpenClaim.pre_eq_preRow]; exact lifted os started H enc F)

end lwKinds
end Go.Proofs.Ytejnkchfjkhheaa
