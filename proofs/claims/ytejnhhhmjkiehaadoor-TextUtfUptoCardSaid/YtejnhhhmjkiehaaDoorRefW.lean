/- The reference's Runes and Units. -/
import Derived.Test.YtejnhhhmjkiehaaDoorRefV
namespace Go.Proofs.YtejnhhhmjkiehaaDoor
open Go.RowKit

theorem Tx.firstV_bad {l : List UInt8} (h : (Lib.decodeL l).1 = 65533 ∧ (Lib.decodeL l).2 = 1) : Tx.firstV l = .tuple #[.int .i64 0, .int .i64 0] := by unfold Tx.firstV; rw [if_pos h]
theorem Tx.firstV_good {l : List UInt8} (h : ¬ ((Lib.decodeL l).1 = 65533 ∧ (Lib.decodeL l).2 = 1)) : Tx.firstV l = .tuple #[.int .i64 ((Lib.decodeL l).1 : Int), .int .i64 ((Lib.decodeL l).2 : Int)] := by unfold Tx.firstV; rw [if_neg h]
/-- What Runes answers. -/
def Tx.RunesPost (r : Option (List Nat)) (w : World) (e : Ending) (w' : World) : Prop :=
  Below w.heap.size w w' ∧ match r with
    | some b => ∃ v, e = .returned (.tuple #[v, .bool true]) ∧ Tx.OwnI w' w.heap.size v (Tx.ci b)
    | none => e = .returned (.tuple #[.slice none 0 0, .bool false])
theorem Tx.RunesPost.mk_some {r : Option (List Nat)} {w w' : World} {b : List Nat} {v : Value} (hr : r = some b) (hb : Below w.heap.size w w') (hv : Tx.OwnI w' w.heap.size v (Tx.ci b)) : Tx.RunesPost r w (.returned (.tuple #[v, .bool true])) w' := by
  subst hr; exact ⟨hb, v, rfl, hv⟩
theorem Tx.RunesPost.mk_none {r : Option (List Nat)} {w w' : World} (hr : r = none) (hb : Below w.heap.size w w') : Tx.RunesPost r w (.returned (.tuple #[.slice none 0 0, .bool false])) w' := by
  subst hr; exact ⟨hb, rfl⟩

set_option maxHeartbeats 8000000 in
set_option maxRecDepth 100000 in
theorem Tx.RRunes_any (s : ByteArray) (w : World) (hs : s.size ≤ 8796093022208) :
    Calls Tryd.prog 45 #[.string s] w (Tx.RunesPost (Tx.runes s.data.toList) w) := by
  go_enter Tryd.func45, Tryd.ntmps45
  have hown0 := Tx.OwnI.empty w w.heap.size (Nat.le_refl _)
  go_wp2_with fail
  go_loopw [4, 5] (fun v i wr => ∃ (k : Nat) (rs : List Nat), k ≤ s.size ∧ i = .int .i64 k ∧ rs.length ≤ k ∧ Tx.OwnI wr w.heap.size v (Tx.ci rs) ∧ Below w.heap.size w wr ∧ Tx.runes s.data.toList = (Tx.runes (s.data.toList.drop k)).map (rs ++ ·)) (fun _ i _ => s.size - (intOf i).toNat)
  case atStart => exact ⟨0, [], by omega, rfl, by simp, by simpa [Tx.ci] using hown0, (Below.refl _ _).alloc (Nat.le_refl _) _, by simp⟩
  case round =>
    clear hown0
    obtain ⟨k, rs, hk, rfl, hl, hown, hb, he⟩ := hrel
    have HE := Lib.hid he
    clear he
    have hbs := hb.size
    by_cases hlt : k < s.size
    · have hne : s.data.toList.drop k ≠ [] := by intro h; have := congrArg List.length h; simp at this; omega
      have HST := Lib.hid (Tx.runes_step _ hne)
      have hkz : (k : Int) ≤ (s.size : Int) := by omega
      have hkz2 : (k : Int) < (s.size : Int) := by omega
      have hes : (s.extract k s.size).size = s.size - k := by rw [Lib.ext_size]
      have cg := Tx.Rfirst_any (s.extract k s.size) wr (by omega) (by omega)
      rw [Tx.ext_drop] at cg
      obtain ⟨w3, rfl⟩ : ∃ w3, w3 = wr := ⟨_, rfl⟩
      by_cases hbad : (Lib.decodeL (s.data.toList.drop k)).1 = 65533 ∧ (Lib.decodeL (s.data.toList.drop k)).2 = 1
      · rw [Tx.firstV_bad hbad] at cg
        have hfin : Tx.runes s.data.toList = none := by
          rw [HE.out, HST.out, if_pos hbad]; rfl
        have HF := Lib.hid hfin
        have CG := Lib.hid cg
        clear hfin hbad cg hne hes
        go_wp2_with fail
        refine CG.out.mono ?_
        rintro e w1 ⟨rfl, hb1⟩
        go_wp2_with fail
        go_ret2
        exact Tx.RunesPost.mk_none HF.out (hb.trans (hb1.mono hbs))
      · rw [Tx.firstV_good hbad] at cg
        obtain ⟨hr, h1, h2⟩ := Tx.decodeL_good _ hne hbad
        obtain ⟨r, hrr⟩ : ∃ r, r = (Lib.decodeL (s.data.toList.drop k)).1 := ⟨_, rfl⟩
        obtain ⟨q, hqq⟩ : ∃ q, q = (Lib.decodeL (s.data.toList.drop k)).2 := ⟨_, rfl⟩
        have hst := HST.out
        rw [if_neg hbad] at hst
        rw [← hrr, ← hqq] at hst
        rw [← hrr, ← hqq] at cg
        rw [← hrr] at hr h1 h2
        rw [← hqq] at h1 h2
        have hq1 : k + q ≤ s.size := by
          have := congrArg List.length h1
          rw [← h2, List.length_take, List.length_drop, Tx.len] at this
          have := (Tx.enc_pos r).1
          omega
        have hq0 : 1 ≤ q := by rw [h2]; exact (Tx.enc_pos r).1
        have hfin : Tx.runes s.data.toList = (Tx.runes (s.data.toList.drop (k + q))).map ((rs ++ [r]) ++ ·) := by
          rw [HE.out, hst]
          simp [Option.map_map, Function.comp_def, List.drop_drop]
        have hln : (rs ++ [r]).length ≤ k + q := by rw [List.length_append, List.length_singleton]; omega
        have HL : (Tx.ci rs).length + [()].length ≤ 17592186044416 := by simp only [Tx.ci, List.length_map, List.length_singleton]; omega
        have HF := Lib.hid (And.intro hfin hln)
        have CG := Lib.hid cg
        have t2 : ((q : Int) == 0) = false := by rw [beq_eq_false_iff_ne]; omega
        clear hfin hln cg hne hst HST hrr hqq h1 h2 hr hbad hes
        go_wp2_with fail
        refine CG.out.mono ?_
        rintro e w1 ⟨rfl, hb1⟩
        have hown1 := hown.below hb1 (Nat.le_refl _)
        have hbs1 := Nat.le_trans hbs hb1.size
        go_wp2_with (at_builtin; refine Tx.appendI rfl _ _ rfl w.heap.size _ _ rfl (Tx.OwnI.alloc hown1 _) ⟨_, 0, none⟩ 1 [_] rfl (World.news_of_block (heap_alloc_new _ _)) HL (by simp; omega) ?_; intro v2 w2 hown2 hb2 hz2)
        exact ⟨⟨k + q, rs ++ [r], by omega, by go_num, HF.out.2, by rw [Tx.ci_append]; exact hown2, (hb.trans (hb1.mono hbs)).trans (((Below.refl _ _).alloc hbs1 _).trans hb2), HF.out.1⟩, by simp [intOf]; omega⟩
    · have hk' : s.data.toList.drop k = [] := List.drop_eq_nil_of_le (by rw [Tx.len]; omega)
      have hr := HE.out
      rw [hk'] at hr
      have HR := Lib.hid hr
      clear hr hk'
      go_wp2
      go_ret2
      exact Tx.RunesPost.mk_some (by rw [HR.out]; simp [Tx.runes_nil]) hb hown

theorem Tx.len_flat : ∀ rs : List Nat, rs.length ≤ (Tx.flat rs).length
  | [] => by simp
  | r :: rs => by
    have h1 := (Tx.enc_pos r).1
    have h2 := Tx.len_flat rs
    rw [show Tx.flat (r :: rs) = Tx.enc r ++ Tx.flat rs by simp [Tx.flat], List.length_append, List.length_cons]
    omega
theorem Tx.unitsOf_take (rs : List Nat) (k r : Nat) (h : rs[k]? = some r) : Tx.unitsOf (rs.take (k + 1)) = Tx.unitsOf (rs.take k) ++ Tx.unitsR r := by
  rw [List.take_add_one, h, Option.toList_some, Tx.unitsOf_snoc]
theorem Tx.unitsOf_le : ∀ rs : List Nat, (Tx.unitsOf rs).length ≤ 2 * rs.length
  | [] => by simp [Tx.unitsOf]
  | r :: rs => by
    have := Tx.unitsOf_le rs
    have h2 : (Tx.unitsR r).length ≤ 2 := by unfold Tx.unitsR; split <;> simp
    rw [show Tx.unitsOf (r :: rs) = Tx.unitsR r ++ Tx.unitsOf rs by simp [Tx.unitsOf], List.length_append, List.length_cons]
    omega
/-- The ints of a slice, wherever it lies, behind a world. -/
structure Tx.IntsUp (w : World) (a : Option Addr) (n : Nat) (l : List Int) : Prop where
  mk ::
  out : n = 0 ∨ ∃ pb off, a = some ⟨pb, off, none⟩ ∧ ∀ W, Below w.heap.size w W → ∀ j, j < n → W.cell? ⟨pb, off + j, none⟩ = some (.int .i64 (l.getD j 0))
theorem Tx.Ints.up {w : World} {v : Value} {l : List Int} (h : Tx.Ints w w.heap.size v l) : ∃ a c, v = .slice a l.length c ∧ Tx.IntsUp w a l.length l := by
  rcases h with ⟨rfl, rfl⟩ | ⟨b, off, cap, rfl, h2, h2', h3, h4⟩
  · exact ⟨none, 0, rfl, ⟨.inl rfl⟩⟩
  · exact ⟨_, cap, rfl, ⟨.inr ⟨b, off, rfl, fun W S j hj => (S.cell (p := ⟨b, off + j, none⟩) h3).trans (h4 j hj)⟩⟩⟩
theorem Tx.UnitsPost.mk_some {r : Option (List Int)} {w w' : World} {b : List Int} {v : Value} (hr : r = some b) (hb : Below w.heap.size w w') (hv : Tx.OwnI w' w.heap.size v b) : Tx.UnitsPost r w (.returned (.tuple #[v, .int .i64 0])) w' := by
  subst hr; exact ⟨hb, v, rfl, hv⟩
theorem Tx.UnitsPost.mk_none {r : Option (List Int)} {w w' : World} (hr : r = none) (hb : Below w.heap.size w w') : Tx.UnitsPost r w (.returned (.tuple #[.slice none 0 0, .int .i64 12])) w' := by
  subst hr; exact ⟨hb, rfl⟩

set_option maxHeartbeats 8000000 in
set_option maxRecDepth 100000 in
theorem Tx.RUnits_any (s : ByteArray) (w : World) (hs : s.size ≤ 4398046511104) :
    Calls Tryd.prog 22 #[.string s] w (Tx.UnitsPost (Tx.unitsL s.data.toList) w) := by
  have cr := Tx.RRunes_any s w (by omega)
  rcases hr : Tx.runes s.data.toList with _ | rs
  · rw [hr] at cr
    have HR := Lib.hid hr
    have CR := Lib.hid cr
    clear hr cr
    go_enter Tryd.func22, Tryd.ntmps22
    go_wp2_with fail
    refine CR.out.mono ?_
    rintro e w1 ⟨hb, rfl⟩
    go_wp2_with fail
    go_ret2
    exact Tx.UnitsPost.mk_none (by unfold Tx.unitsL; rw [HR.out]; rfl) hb
  · rw [hr] at cr
    have HR := Lib.hid hr
    have hrl : rs.length ≤ s.size := by
      obtain ⟨h1, _⟩ := (Tx.runes_iff _ _).1 hr
      have h2 := congrArg List.length h1
      rw [Tx.len] at h2
      have h3 := Tx.len_flat rs
      omega
    have HB := Lib.hid (show ∀ r ∈ rs, r ≤ 1114111 from fun r h => by have := ((Tx.runes_iff _ _).1 hr).2 r h; unfold Tx.Rune at this; omega)
    have CR := Lib.hid cr
    clear hr cr
    go_enter Tryd.func22, Tryd.ntmps22
    go_wp2_with fail
    refine CR.out.mono ?_
    rintro e w1 ⟨hb, v, rfl, hownl⟩
    obtain ⟨a, c, rfl, hup⟩ := hownl.ints.up
    have hcl : (Tx.ci rs).length = rs.length := by simp [Tx.ci]
    rw [hcl] at hup ⊢
    have hz1 := hb.size
    have hown0 := Tx.OwnI.empty w1 w1.heap.size (Nat.le_refl _)
    clear hcl hownl CR
    go_wp2_with fail
    go_loopw [6, 7] (fun v i wr => ∃ k : Nat, k ≤ rs.length ∧ i = .int .i64 k ∧ Tx.OwnI wr w1.heap.size v (Tx.ci (Tx.unitsOf (rs.take k))) ∧ Below w1.heap.size w1 wr) (fun _ i _ => rs.length - (intOf i).toNat)
    case atStart => exact ⟨0, Nat.zero_le _, rfl, by simpa [Tx.ci, Tx.unitsOf] using hown0, (Below.refl _ _).alloc (Nat.le_refl _) _⟩
    case round =>
      clear hown0
      obtain ⟨k, hk, rfl, hown, hbk⟩ := hrel
      obtain ⟨w3, rfl⟩ : ∃ w3, w3 = wr := ⟨_, rfl⟩
      by_cases hlt : k < rs.length
      · have hlz : (k : Int) < (rs.length : Int) := by omega
        obtain ⟨r, hr⟩ : ∃ r, rs[k]? = some r := ⟨_, List.getElem?_eq_getElem hlt⟩
        have hrb := HB.out r (List.mem_of_getElem? hr)
        obtain ⟨pb, off, rfl, hcells⟩ : ∃ pb off, a = some ⟨pb, off, none⟩ ∧ ∀ W, Below w1.heap.size w1 W → ∀ j, j < rs.length → W.cell? ⟨pb, off + j, none⟩ = some (.int .i64 ((Tx.ci rs).getD j 0)) := by
          rcases hup.out with h0 | h0
          · omega
          · exact h0
        have cell := hcells w3 hbk k hlt
        rw [show (Tx.ci rs).getD k 0 = (r : Int) by simp [Tx.ci, List.getD_eq_getElem?_getD, hr]] at cell
        have HT := Lib.hid (Tx.unitsOf_take rs k r hr)
        have hle := Tx.unitsOf_le (rs.take k)
        have hle2 : (rs.take k).length ≤ k := List.length_take_le _ _
        have HL1 : (Tx.ci (Tx.unitsOf (rs.take k))).length + [()].length ≤ 17592186044416 := by simp only [Tx.ci, List.length_map, List.length_singleton]; omega
        have HL2 : (Tx.ci (Tx.unitsOf (rs.take k))).length + [(), ()].length ≤ 17592186044416 := by simp only [Tx.ci, List.length_map, List.length_cons, List.length_nil]; omega
        have hbks := hbk.size
        clear hcells hr hup hle hle2
        by_cases h6 : r < 65536
        · have h6z : (r : Int) < 65536 := by omega
          have HUR := Lib.hid (show Tx.ci (Tx.unitsR r) = [(r : Int)] by simp [Tx.ci, Tx.unitsR, h6])
          go_wp2_with (at_builtin; refine Tx.appendI rfl _ _ rfl w1.heap.size _ _ rfl (Tx.OwnI.alloc hown _) ⟨_, 0, none⟩ 1 [_] rfl (World.news_of_block (heap_alloc_new _ _)) HL1 (by simp; omega) ?_; intro v2 w2 hown2 hb2 hz2)
          exact ⟨⟨k + 1, by omega, by go_num, by rw [HT.out, Tx.ci_append, HUR.out]; exact hown2, hbk.trans (((Below.refl _ _).alloc hbks _).trans hb2)⟩, by simp [intOf]; omega⟩
        · have h6z : ¬ (r : Int) < 65536 := by omega
          obtain ⟨M, hM⟩ : ∃ M, M = r - 65536 := ⟨_, rfl⟩
          have e1 : IntKind.i64.wrap ((r : Int) - 65536) = (M : Int) := by rw [IntWalk.i64_in _ (by omega)]; omega
          have hMb : M ≤ 1048575 := by omega
          have HUR := Lib.hid (show Tx.ci (Tx.unitsR r) = [55296 + (M : Int) / 1024, 56320 + (M : Int) % 1024] by simp [Tx.ci, Tx.unitsR, h6, hM])
          clear hM
          go_wp2_with (at_builtin; refine Tx.appendI rfl _ _ rfl w1.heap.size _ _ rfl (Tx.OwnI.alloc hown _) ⟨_, 0, none⟩ 2 [_, _] rfl (World.news_of_block (heap_alloc_new _ _)) HL2 (by simp; omega) ?_; intro v2 w2 hown2 hb2 hz2)
          exact ⟨⟨k + 1, by omega, by go_num, by rw [HT.out, Tx.ci_append, HUR.out]; exact hown2, hbk.trans (((Below.refl _ _).alloc hbks _).trans hb2)⟩, by simp [intOf]; omega⟩
      · obtain rfl : k = rs.length := by omega
        rw [List.take_length] at hown
        go_wp2
        go_ret2
        exact Tx.UnitsPost.mk_some (by unfold Tx.unitsL; rw [HR.out]; rfl) (hb.trans (hbk.mono hz1)) (hown.mono hz1)
end Go.Proofs.YtejnhhhmjkiehaaDoor
