/- Units: writeUnits, Units. -/
import Derived.Test.YtbemgeicpbcdhaaDoorUni
namespace Go.Proofs.YtbemgeicpbcdhaaDoor
open Go.RowKit

theorem Tx.unitsR_len (r : Nat) : (Tx.unitsR r).length ≤ (Tx.enc r).length := by
  unfold Tx.unitsR Tx.enc; repeat' split
  all_goals first | (simp; done) | (simp; omega) | omega
theorem Tx.unitsOf_snoc (rs : List Nat) (r : Nat) : Tx.unitsOf (rs ++ [r]) = Tx.unitsOf rs ++ Tx.unitsR r := by simp [Tx.unitsOf]
theorem Tx.ci_append (a b : List Nat) : Tx.ci (a ++ b) = Tx.ci a ++ Tx.ci b := by simp [Tx.ci]
theorem Tx.decodeGo_drop (s : ByteArray) (k : Nat) (h : k < s.size) : Lib.decodeGo (s.extract k s.size) = Lib.decodeL (s.data.toList.drop k) := by
  have hs : (s.extract k s.size).size ≠ 0 := by
    rw [Lib.ext_size]; omega
  unfold Lib.decodeGo Lib.decodeL
  rw [if_neg hs]
  congr 1
  apply Tx.ba_ext
  exact (Tx.ext_list s k s.size).trans (List.take_of_length_le (by simp))
/-- A reader of ints answers the ints, in a row of its own, or an error that comes to c. -/
def Tx.IntsOr (c : Int) (r : Option (List Int)) (w : World) (e : Ending) (w' : World) : Prop :=
  Below w.heap.size w w' ∧ match r with
    | some b => ∃ v, e = .returned (.tuple #[v, .nilIface]) ∧ Tx.OwnI w' w.heap.size v b
    | none => ∃ n x, e = .returned (.tuple #[.slice none 0 0, x]) ∧ As.Chain c n x
theorem Tx.IntsOr.mk_some {c : Int} {r : Option (List Int)} {w w' : World} {b : List Int} {v : Value} (hr : r = some b) (hb : Below w.heap.size w w') (hv : Tx.OwnI w' w.heap.size v b) : Tx.IntsOr c r w (.returned (.tuple #[v, .nilIface])) w' := by
  subst hr; exact ⟨hb, v, rfl, hv⟩
theorem Tx.IntsOr.mk_none {c : Int} {r : Option (List Int)} {w w' : World} {n : Nat} {x : Value} (hr : r = none) (hb : Below w.heap.size w w') (hx : As.Chain c n x) : Tx.IntsOr c r w (.returned (.tuple #[.slice none 0 0, x])) w' := by
  subst hr; exact ⟨hb, n, x, rfl, hx⟩
def Tx.unitsL (l : List UInt8) : Option (List Int) := (Tx.runes l).map fun rs => Tx.ci (Tx.unitsOf rs)

set_option maxHeartbeats 4000000 in
set_option maxRecDepth 100000 in
theorem Tx.writeUnits_any (s : ByteArray) (w : World) (hs : s.size ≤ 8796093022208) (hT : Tx.Tabs w) (hw2 : 2 ≤ w.heap.size) :
    Calls Tryd.prog 25 #[.string s] w (Tx.IntsOr 12 (Tx.unitsL s.data.toList) w) := by
  have HT := Lib.hid hT
  clear hT
  go_enter Tryd.func25, Tryd.ntmps25
  go_wp2
  go_loopw [4, 5] (fun v i wr => ∃ (k : Nat) (rs : List Nat), k ≤ s.size ∧ i = .int .i64 k ∧ (Tx.unitsOf rs).length ≤ k ∧ Tx.OwnI wr w.heap.size v (Tx.ci (Tx.unitsOf rs)) ∧ Below w.heap.size w wr ∧ Tx.runes s.data.toList = (Tx.runes (s.data.toList.drop k)).map (rs ++ ·)) (fun _ i _ => s.size - (intOf i).toNat)
  case atStart => exact ⟨0, [], by omega, rfl, by simp [Tx.unitsOf], Tx.OwnI.nil _ _, Below.refl _ _, by simp⟩
  case round =>
    obtain ⟨k, rs, hk, rfl, hl, hown, hb, he⟩ := hrel
    have HE := Lib.hid he
    clear he
    have hbs := hb.size
    by_cases hlt : k < s.size
    · have hne : s.data.toList.drop k ≠ [] := by intro h; have := congrArg List.length h; simp at this; omega
      have HST := Lib.hid (Tx.runes_step _ hne)
      have cg := Tryd.utf8_DecodeRuneInString (s.extract k s.size) wr (HT.out.below hb hw2)
      rw [Tx.decodeGo_drop s k hlt] at cg
      have hkz : (k : Int) ≤ (s.size : Int) := by omega
      by_cases hbad : (Lib.decodeL (s.data.toList.drop k)).1 = 65533 ∧ (Lib.decodeL (s.data.toList.drop k)).2 = 1
      · rw [hbad.1, hbad.2] at cg
        have hfin : Tx.unitsL s.data.toList = none := by
          unfold Tx.unitsL
          rw [HE.out, HST.out, if_pos hbad]; rfl
        have HF := Lib.hid hfin
        have CG := Lib.hid cg
        clear hfin hbad cg hne
        go_wp2_with fail
        refine CG.out.mono ?_
        rintro e w1 ⟨rfl, hb1⟩
        go_wp2_with fail
        go_ret2
        exact Tx.IntsOr.mk_none HF.out (hb.trans (hb1.mono hbs)) (.placed _ .fault)
      · obtain ⟨hr, h1, h2⟩ := Tx.decodeL_good _ hne hbad
        obtain ⟨r, hrr⟩ : ∃ r, r = (Lib.decodeL (s.data.toList.drop k)).1 := ⟨_, rfl⟩
        obtain ⟨q, hqq⟩ : ∃ q, q = (Lib.decodeL (s.data.toList.drop k)).2 := ⟨_, rfl⟩
        have hst := HST.out
        rw [if_neg hbad] at hst
        rw [← hrr, ← hqq] at hst
        rw [← hrr, ← hqq] at cg hbad
        rw [← hrr] at hr h1 h2
        rw [← hqq] at h1 h2
        have hq1 : k + q ≤ s.size := by
          have := congrArg List.length h1
          rw [← h2, List.length_take, List.length_drop, Tx.len] at this
          have := (Tx.enc_pos r).1
          omega
        have hq0 : 1 ≤ q := by rw [h2]; exact (Tx.enc_pos r).1
        have hql : (Tx.unitsR r).length ≤ q := by rw [h2]; exact Tx.unitsR_len r
        have hrb : r ≤ 1114111 := by unfold Tx.Rune at hr; omega
        have hfin : Tx.runes s.data.toList = (Tx.runes (s.data.toList.drop (k + q))).map ((rs ++ [r]) ++ ·) := by
          rw [HE.out, hst]
          simp [Option.map_map, Function.comp_def, List.drop_drop]
        have hln : (Tx.unitsOf (rs ++ [r])).length ≤ k + q := by rw [Tx.unitsOf_snoc, List.length_append]; omega
        have hcl : (Tx.ci (Tx.unitsOf rs)).length + 2 ≤ 17592186044416 := by simp only [Tx.ci, List.length_map]; omega
        have HF := Lib.hid (And.intro hfin hln)
        have CG := Lib.hid cg
        clear hfin hln cg hne hst HST hrr hqq h1 h2 hr
        by_cases h65 : r = 65533
        · have hq3 : q ≠ 1 := fun h => hbad ⟨h65, h⟩
          have t1 : ((r : Int) == 65533) = true := by rw [h65]; rfl
          have t2 : ((q : Int) == 1) = false := by rw [beq_eq_false_iff_ne]; omega
          clear hbad h65 hq3
          go_wp2_with fail
          refine CG.out.mono ?_
          rintro e w1 ⟨rfl, hb1⟩
          have cw := Tx.writeRune_any r hrb w.heap.size u4 _ w1 (by have := hb1.size; omega) (hown.below hb1 (Nat.le_refl _)) hcl
          have CW := Lib.hid cw
          clear cw
          go_wp2_with fail
          refine CW.out.mono ?_
          rintro e w2 ⟨v2, rfl, hown2, hb2⟩
          go_wp2_with fail
          exact ⟨⟨k + q, rs ++ [r], by omega, by go_num, HF.out.2, by rw [Tx.unitsOf_snoc, Tx.ci_append]; exact hown2, (hb.trans (hb1.mono hbs)).trans hb2, HF.out.1⟩, by simp [intOf]; omega⟩
        · have t1 : ((r : Int) == 65533) = false := by rw [beq_eq_false_iff_ne]; omega
          clear hbad h65
          go_wp2_with fail
          refine CG.out.mono ?_
          rintro e w1 ⟨rfl, hb1⟩
          have cw := Tx.writeRune_any r hrb w.heap.size u4 _ w1 (by have := hb1.size; omega) (hown.below hb1 (Nat.le_refl _)) hcl
          have CW := Lib.hid cw
          clear cw
          go_wp2_with fail
          refine CW.out.mono ?_
          rintro e w2 ⟨v2, rfl, hown2, hb2⟩
          go_wp2_with fail
          exact ⟨⟨k + q, rs ++ [r], by omega, by go_num, HF.out.2, by rw [Tx.unitsOf_snoc, Tx.ci_append]; exact hown2, (hb.trans (hb1.mono hbs)).trans hb2, HF.out.1⟩, by simp [intOf]; omega⟩
    · have hk' : s.data.toList.drop k = [] := List.drop_eq_nil_of_le (by rw [Tx.len]; omega)
      have hr := HE.out
      rw [hk'] at hr
      have HR := Lib.hid hr
      clear hr hk'
      go_wp2
      go_ret2
      exact Tx.IntsOr.mk_some (by unfold Tx.unitsL; rw [HR.out]; simp [Tx.runes_nil]) hb hown

/-- The answer of Units: a row of its own, or refused. -/
def Tx.UnitsPost (r : Option (List Int)) (w : World) (e : Ending) (w' : World) : Prop :=
  Below w.heap.size w w' ∧ match r with
    | some b => ∃ v, e = .returned (.tuple #[v, .int .i64 0]) ∧ Tx.OwnI w' w.heap.size v b
    | none => e = .returned (.tuple #[.slice none 0 0, .int .i64 12])

set_option maxHeartbeats 4000000 in
set_option maxRecDepth 100000 in
theorem Tx.Units_any (s : ByteArray) (w : World) (hs : s.size ≤ 8796093022208) (hT : Tx.Tabs w) (hg : As.ErrVar w) :
    Calls Tryd.prog 16 #[.string s] w (Tx.UnitsPost (Tx.unitsL s.data.toList) w) := by
  have h3 := hg.size
  have cr := Tx.writeUnits_any s w hs hT (by omega)
  have HG := Lib.hid hg
  clear hg hT
  rcases hr : Tx.unitsL s.data.toList with _ | b
  · rw [hr] at cr
    have HR := Lib.hid hr
    have CR := Lib.hid cr
    clear hr cr
    go_enter Tryd.func16, Tryd.ntmps16
    go_wp2_with fail
    refine CR.out.mono ?_
    rintro e w1 ⟨hb, n, x, rfl, hx⟩
    have ct := As.told_err 12 n x hx
    have HG1 := Lib.hid (HG.out.below hb h3)
    go_wp2_with fail
    refine (ct _ HG1.out).mono ?_
    rintro e w2 ⟨rfl, hb2⟩
    go_wp2_with fail
    go_ret2
    exact ⟨hb.trans (hb2.mono hb.size), rfl⟩
  · rw [hr] at cr
    have HR := Lib.hid hr
    have CR := Lib.hid cr
    clear hr cr
    go_enter Tryd.func16, Tryd.ntmps16
    go_wp2_with fail
    refine CR.out.mono ?_
    rintro e w1 ⟨hb, v, rfl, hown⟩
    have ct := As.told_nil
    go_wp2_with fail
    refine (ct _).mono ?_
    rintro e w2 ⟨rfl, rfl⟩
    go_wp2_with fail
    go_ret2
    exact ⟨hb, v, rfl, hown⟩
end Go.Proofs.YtbemgeicpbcdhaaDoor
