/- TextUtf: for every text and every slice of ints (of bulk at most 1048576) it answers true; what came in reads as it did. -/
import Derived.Test.YtejnhhhmjkiehaaDoorRefX
import Derived.Test.YtejnhhhmjkiehaaDoorOpenI
import Derived.Test.YtejnhhhmjkiehaaDoorLaid
import Derived.Test.YtejnhhhmjkiehaaDoorCards
import Derived.Test.YtejnhhhmjkiehaaDoorTie
import Derived.OpenShut
namespace Go.Proofs.YtejnhhhmjkiehaaDoor
open Go.ChangeShapes Go.WideShapes Go.ChangeAt Go.RowKit
open Go.ChangeMaps (open_string shut_string)

theorem Tx.same_t (x y : Value) (l : List Int) (w : World) (h1 : Tx.Held w x l) (h2 : Tx.Held w y l) :
    Calls Tryd.prog 25 #[x, y] w fun e w' => e = .returned (.bool true) ∧ Below w.heap.size w w' := by
  have := Tx.same_any x y l l w h1.out h2.out
  rw [decide_eq_true rfl] at this
  exact this
theorem Tx.Held.nil (w : World) : Tx.Held w (.slice none 0 0) [] := ⟨.inl ⟨rfl, rfl⟩⟩
theorem Tx.RUnits_none (s : ByteArray) (h : Tx.unitsL s.data.toList = none) (hs : s.size ≤ 4398046511104) (w : World) :
    Calls Tryd.prog 22 #[.string s] w fun e w' => e = .returned (.tuple #[.slice none 0 0, .int .i64 12]) ∧ Below w.heap.size w w' := by
  have := Tx.RUnits_any s w hs
  rw [h] at this
  exact this.mono fun e w' hp => ⟨hp.2, hp.1⟩
theorem Tx.RUnits_some (s : ByteArray) (l : List Int) (h : Tx.unitsL s.data.toList = some l) (hs : s.size ≤ 4398046511104) (w : World) :
    Calls Tryd.prog 22 #[.string s] w fun e w' => ∃ v, e = .returned (.tuple #[v, .int .i64 0]) ∧ Tx.OwnI w' w.heap.size v l ∧ Below w.heap.size w w' := by
  have := Tx.RUnits_any s w hs
  rw [h] at this
  exact this.mono fun e w' hp => let ⟨v, h1, h2⟩ := hp.2; ⟨v, h1, h2, hp.1⟩
theorem Tx.fromAns_form (r : Except Int (List Nat)) : ∃ S C, Tx.fromAns r = .tuple #[.string S, .int .i64 C] := by
  rcases r with c | rs
  · exact ⟨_, _, rfl⟩
  · exact ⟨_, _, rfl⟩
/-- A row of ints that a call owns. -/
def Tx.RowI (w : World) (g cap : Nat) : Prop := ∃ cur : Array Value, w.heap[g]? = some (.cells cur 3 (0, 0)) ∧ cur.size = cap
theorem Tx.RowI.cell {w : World} {g cap k : Nat} (h : Tx.RowI w g cap) (hk : k < cap) : ∃ v, w.cell? ⟨g, k, none⟩ = some v := by
  obtain ⟨cur, h1, h2⟩ := h
  exact ⟨cur[k], by simp [World.cell?, h1, Array.getElem?_eq_getElem (show k < cur.size by omega)]⟩
theorem Tx.RowI.frozen {w : World} {g cap k : Nat} (h : Tx.RowI w g cap) : w.frozen? ⟨g, k, none⟩ = false := by
  obtain ⟨cur, h1, h2⟩ := h
  simp [World.frozen?, h1]
theorem Tx.RowI.set {w : World} {g cap : Nat} (h : Tx.RowI w g cap) (k : Nat) (v : Value) : Tx.RowI (w.setCell ⟨g, k, none⟩ v) g cap := by
  obtain ⟨cur, h1, h2⟩ := h
  refine ⟨cur.setIfInBounds k v, ?_, by simp [h2]⟩
  simp [World.setCell, Array.getElem?_modify, h1]
theorem Tx.OwnI.grown {w w' : World} {B b : Nat} {v : Value} {l : List Int} (h : Tx.OwnI w B v l) (hg : w.grownBy w' (some b)) (hb : b < B) : Tx.OwnI w' B v l := by
  refine ⟨h.1, ?_⟩
  rcases h.2 with hn | ⟨g, cap, cur, rfl, hgB, hgg, rest⟩
  · exact .inl hn
  · refine .inr ⟨g, cap, cur, rfl, hgB, ?_, rest⟩
    rw [hg.block g (Array.getElem?_eq_some_iff.1 hgg).1 (by simp; omega)]
    exact hgg
theorem Tx.OwnI.cases {w : World} {B : Nat} {v : Value} {l : List Int} (h : Tx.OwnI w B v l) : (v = .slice none 0 0 ∧ l = []) ∨ ∃ n g cap, v = .slice (some ⟨g, 0, none⟩) n cap ∧ n = l.length ∧ B ≤ g ∧ g < w.heap.size ∧ n ≤ cap ∧ n ≤ 9223372036854775807 ∧ Tx.RowI w g cap := by
  rcases h.2 with ⟨hv, hn⟩ | ⟨g, cap, cur, hv, hgB, hgg, hc, hm, hs, ht⟩
  · exact .inl ⟨hv, List.length_eq_zero_iff.1 hn⟩
  · exact .inr ⟨_, g, cap, hv, rfl, hgB, (Array.getElem?_eq_some_iff.1 hgg).1, hc, by unfold maxLen at hm; omega, cur, hgg, by simpa using hs⟩
theorem Tx.cs_of {w : World} {B : Nat} {v : Value} {l : List Int} (h : Tx.OwnI w B v l) : Tx.Held w v l := Tx.Held.own h
namespace lwUtf
set_option maxHeartbeats 16000000 in
set_option maxRecDepth 100000 in
theorem walkN (s : ByteArray) (v : Value) (l : List Int) (w : World) (h : Tx.Ok w) (hs : s.size ≤ 4194304) (hl : l.length ≤ 4194304) (hv : Tx.Ints w w.heap.size v l) (hn : Tx.unitsL s.data.toList = none) (hu : (Tx.runes s.data.toList).isSome = false) :
    Calls Tryd.prog 5 #[.string s, v] w fun e w' => e = .returned (.bool true) ∧ Below w.heap.size w w' := by
  have S0 := Tx.Since.start h
  have H0 := Lib.hid h
  have V0 := Tx.Held.mk hv
  clear h hv
  have CF := Lib.hid (fun (W : World) (hW : Tx.Ok W) => Tx.fixed_any W hW)
  have C1 := Lib.hid (fun (W : World) (hW : Tx.Ok W) => Tx.Units_none s hn (by omega) W hW)
  have C2 := Lib.hid (fun (W : World) => Tx.RUnits_none s hn (by omega) W)
  have C3 := Lib.hid (fun (W : World) (hW : Tx.Ok W) => Tx.Utf8_b s false hu (by omega) W hW)
  obtain ⟨S, C, hf⟩ := Tx.fromAns_form (Tx.readU l)
  have c4 := fun (x : Value) (W : World) (hW : Tx.Ok W) (hx : Tx.Held W x l) => Tx.FromUnits_any x l W (by omega) hx.out hW.1
  have c5 := fun (x : Value) (W : World) (hx : Tx.Held W x l) => Tx.RFromUnits_any x l W (by omega) hx.out
  rw [hf] at c4 c5
  have C4 := Lib.hid c4
  have C5 := Lib.hid c5
  have CE := Lib.hid Tx.same_t
  have hll : ([] : List Int).length + l.length ≤ 17592186044416 := by simp; omega
  clear c4 c5 hf hn hu
  go_enter Tryd.func5, Tryd.ntmps5
  go_wp2_with (at_builtin; refine Tx.appendI_src rfl _ _ rfl w.heap.size _ [] rfl (Tx.OwnI.empty w _ (Nat.le_refl _)) _ _ rfl (V0.alloc _) hll (by simp) ?_; intro v1 w1 o1 b1 z1)
  have b1' : Below w.heap.size w w1 := ((Below.refl _ _).alloc (Nat.le_refl _) _).trans b1
  have S1 := Tx.Since.then b1' S0
  have V1 := V0.since b1'
  have O1 : Tx.Held w1 v1 l := Tx.Held.own o1
  clear S0 V0 o1 b1 b1' z1 hll
  go_wp2_with fail
  refine (C1.out w1 S1.ok).mono ?_
  rintro e w2 ⟨rfl, b2⟩
  have S2 := Tx.Since.then b2 S1
  have V2 := V1.since b2
  have O2 := O1.since b2
  clear S1 V1 O1 b2
  go_wp2_with fail
  refine (C2.out w2).mono ?_
  rintro e w3 ⟨rfl, b3⟩
  have S3 := Tx.Since.then b3 S2
  have V3 := V2.since b3
  have O3 := O2.since b3
  clear S2 V2 O2 b3
  go_wp2_with fail
  refine (C4.out v1 w3 S3.ok O3).mono ?_
  rintro e w4 ⟨rfl, b4⟩
  have S4 := Tx.Since.then b4 S3
  have V4 := V3.since b4
  have O4 := O3.since b4
  clear S3 V3 O3 b4
  go_wp2_with fail
  refine (C5.out v w4 V4).mono ?_
  rintro e w5 ⟨rfl, b5⟩
  have S5 := Tx.Since.then b5 S4
  have V5 := V4.since b5
  have O5 := O4.since b5
  clear S4 V4 O4 b5
  go_wp2_with fail
  refine (CF.out w5 S5.ok).mono ?_
  rintro e w6 ⟨rfl, b6⟩
  have S6 := Tx.Since.then b6 S5
  have V6 := V5.since b6
  have O6 := O5.since b6
  clear S5 V5 O5 b6
  go_wp2_with fail
  refine (CE.out _ _ [] w6 (Tx.Held.nil _) (Tx.Held.nil _)).mono ?_
  rintro e w7 ⟨rfl, b7⟩
  have S7 := Tx.Since.then b7 S6
  have V7 := V6.since b7
  have O7 := O6.since b7
  clear S6 V6 O6 b7
  go_wp2_with fail
  refine (C3.out w7 S7.ok).mono ?_
  rintro e w8 ⟨rfl, b8⟩
  have S8 := Tx.Since.then b8 S7
  have V8 := V7.since b8
  have O8 := O7.since b8
  clear S7 V7 O7 b8
  go_wp2_with fail
  refine (CE.out v1 v l w8 O8 V8).mono ?_
  rintro e w9 ⟨rfl, b9⟩
  have S9 := Tx.Since.then b9 S8
  have V9 := V8.since b9
  have O9 := O8.since b9
  clear S8 V8 O8 b9
  go_wp2_with fail
  refine wp_loop_rounds 1 ?_
  rw [rounds_succ]
  go_wp2_with fail
  refine (C1.out w9 S9.ok).mono ?_
  rintro e w10 ⟨rfl, b10⟩
  have S10 := Tx.Since.then b10 S9
  go_wp2_with fail
  refine (CE.out _ _ [] w10 (Tx.Held.nil _) (Tx.Held.nil _)).mono ?_
  rintro e w11 ⟨rfl, b11⟩
  have S11 := Tx.Since.then b11 S10
  go_wp2_with fail
  go_ret
  exact ⟨rfl, S11.below⟩

set_option maxHeartbeats 16000000 in
set_option maxRecDepth 100000 in
theorem walkS (s : ByteArray) (v : Value) (l : List Int) (w : World) (h : Tx.Ok w) (hs : s.size ≤ 4194304) (hl : l.length ≤ 4194304) (hv : Tx.Ints w w.heap.size v l) (L : List Int) (hn : Tx.unitsL s.data.toList = some L) (hu : (Tx.runes s.data.toList).isSome = true) :
    Calls Tryd.prog 5 #[.string s, v] w fun e w' => e = .returned (.bool true) ∧ Below w.heap.size w w' := by
  have S0 := Tx.Since.start h
  have H0 := Lib.hid h
  have V0 := Tx.Held.mk hv
  clear h hv
  have CF := Lib.hid (fun (W : World) (hW : Tx.Ok W) => Tx.fixed_any W hW)
  have C1 := Lib.hid (fun (W : World) (hW : Tx.Ok W) => Tx.Units_some s L hn (by omega) W hW)
  have C2 := Lib.hid (fun (W : World) => Tx.RUnits_some s L hn (by omega) W)
  have C3 := Lib.hid (fun (W : World) (hW : Tx.Ok W) => Tx.Utf8_b s true hu (by omega) W hW)
  obtain ⟨S, C, hf⟩ := Tx.fromAns_form (Tx.readU l)
  have c4 := fun (x : Value) (W : World) (hW : Tx.Ok W) (hx : Tx.Held W x l) => Tx.FromUnits_any x l W (by omega) hx.out hW.1
  have c5 := fun (x : Value) (W : World) (hx : Tx.Held W x l) => Tx.RFromUnits_any x l W (by omega) hx.out
  rw [hf] at c4 c5
  have C4 := Lib.hid c4
  have C5 := Lib.hid c5
  have CE := Lib.hid Tx.same_t
  have hll : ([] : List Int).length + l.length ≤ 17592186044416 := by simp; omega
  clear c4 c5 hf hn hu
  go_enter Tryd.func5, Tryd.ntmps5
  go_wp2_with (at_builtin; refine Tx.appendI_src rfl _ _ rfl w.heap.size _ [] rfl (Tx.OwnI.empty w _ (Nat.le_refl _)) _ _ rfl (V0.alloc _) hll (by simp) ?_; intro v1 w1 o1 b1 z1)
  have b1' : Below w.heap.size w w1 := ((Below.refl _ _).alloc (Nat.le_refl _) _).trans b1
  have S1 := Tx.Since.then b1' S0
  have V1 := V0.since b1'
  have O1 : Tx.Held w1 v1 l := Tx.Held.own o1
  clear S0 V0 o1 b1 b1' z1 hll
  have hw1 := Lib.hid S1.size
  go_wp2_with fail
  refine (C1.out w1 S1.ok).mono ?_
  rintro e w2 ⟨va, rfl, oa2, b2⟩
  have S2 := Tx.Since.then b2 S1
  have V2 := V1.since b2
  have O2 := O1.since b2
  clear S1 V1 O1 b2
  have hga : Hid (∀ n g cap, va = .slice (some ⟨g, 0, none⟩) n cap → g < w2.heap.size) := Lib.hid (by
    rcases oa2.cases with ⟨rfl, _⟩ | ⟨n, g, cap, rfl, _, _, h2, _⟩
    · intro n g cap h; cases h
    · intro n' g' cap' h; cases h; exact h2)
  go_wp2_with fail
  refine (C2.out w2).mono ?_
  rintro e w3 ⟨vb, rfl, ob3, b3⟩
  have S3 := Tx.Since.then b3 S2
  have V3 := V2.since b3
  have O3 := O2.since b3
  have oa3 := oa2.below b3 (Nat.le_refl _)
  clear S2 V2 O2 oa2 b3
  go_wp2_with fail
  refine (C4.out v1 w3 S3.ok O3).mono ?_
  rintro e w4 ⟨rfl, b4⟩
  have S4 := Tx.Since.then b4 S3
  have V4 := V3.since b4
  have O4 := O3.since b4
  have oa4 := oa3.below b4 (Nat.le_refl _)
  have ob4 := ob3.below b4 (Nat.le_refl _)
  clear S3 V3 O3 oa3 ob3 b4
  go_wp2_with fail
  refine (C5.out v w4 V4).mono ?_
  rintro e w5 ⟨rfl, b5⟩
  have S5 := Tx.Since.then b5 S4
  have V5 := V4.since b5
  have O5 := O4.since b5
  have oa5 := oa4.below b5 (Nat.le_refl _)
  have ob5 := ob4.below b5 (Nat.le_refl _)
  clear S4 V4 O4 oa4 ob4 b5
  go_wp2_with fail
  refine (CF.out w5 S5.ok).mono ?_
  rintro e w6 ⟨rfl, b6⟩
  have S6 := Tx.Since.then b6 S5
  have V6 := V5.since b6
  have O6 := O5.since b6
  have oa6 := oa5.below b6 (Nat.le_refl _)
  have ob6 := ob5.below b6 (Nat.le_refl _)
  clear S5 V5 O5 oa5 ob5 b6
  go_wp2_with fail
  refine (CE.out va vb L w6 (Tx.cs_of oa6) (Tx.cs_of ob6)).mono ?_
  rintro e w7 ⟨rfl, b7⟩
  have S7 := Tx.Since.then b7 S6
  have V7 := V6.since b7
  have O7 := O6.since b7
  have oa7 := oa6.below b7 (Nat.le_refl _)
  have ob7 := ob6.below b7 (Nat.le_refl _)
  clear S6 V6 O6 oa6 ob6 b7
  go_wp2_with fail
  refine (C3.out w7 S7.ok).mono ?_
  rintro e w8 ⟨rfl, b8⟩
  have S8 := Tx.Since.then b8 S7
  have V8 := V7.since b8
  have O8 := O7.since b8
  have oa8 := oa7.below b8 (Nat.le_refl _)
  have ob8 := ob7.below b8 (Nat.le_refl _)
  clear S7 V7 O7 oa7 ob7 b8
  go_wp2_with fail
  refine (CE.out v1 v l w8 O8 V8).mono ?_
  rintro e w9 ⟨rfl, b9⟩
  have S9 := Tx.Since.then b9 S8
  have V9 := V8.since b9
  have O9 := O8.since b9
  have oa9 := oa8.below b9 (Nat.le_refl _)
  have ob9 := ob8.below b9 (Nat.le_refl _)
  clear S8 V8 O8 oa8 ob8 b9
  have hwa : w.heap.size ≤ w1.heap.size := hw1.out
  rcases oa9.cases with ⟨rfl, rfl⟩ | ⟨n, g, cap, rfl, hn, hg1, hg2, hg3, hg4, hrow⟩
  · go_wp2_with fail
    refine wp_loop_rounds 1 ?_
    rw [rounds_succ]
    go_wp2_with fail
    refine (C1.out w9 S9.ok).mono ?_
    rintro e w10 ⟨vc, rfl, oc, b10⟩
    have S10 := Tx.Since.then b10 S9
    have ob10 := ob9.below b10 (Nat.le_refl _)
    go_wp2_with fail
    refine (CE.out vc vb [] w10 (Tx.cs_of oc) (Tx.cs_of ob10)).mono ?_
    rintro e w11 ⟨rfl, b11⟩
    have S11 := Tx.Since.then b11 S10
    go_wp2_with fail
    go_ret
    exact ⟨rfl, S11.below⟩
  · have hgb : g < w2.heap.size := hga.out n g cap rfl
    clear hn oa9 V9 O9
    go_wp2_with fail
    go_loopw [14] (fun i wr => ∃ k : Nat, k ≤ n ∧ i = .int .i64 (k : Int) ∧ Tx.RowI wr g cap ∧ w9.grownBy wr (some g)) (fun i _ => n - (intOf i).toNat)
    case atStart => exact ⟨0, Nat.zero_le _, rfl, hrow, ⟨rfl, rfl, rfl, Nat.le_refl _, fun _ _ _ => rfl⟩⟩
    case round =>
      obtain ⟨k, hk, rfl, hrow, hgr⟩ := hrel
      obtain ⟨w10, rfl⟩ : ∃ w10, w10 = wr := ⟨_, rfl⟩
      by_cases hlt : k < n
      · have hlz : (k : Int) < (n : Int) := by omega
        obtain ⟨x, hx⟩ := hrow.cell (k := k) (by omega)
        have hfz := hrow.frozen (k := k)
        have HK1 := Lib.hid (show k + 1 ≤ n ∧ n - (k + 1) < n - k by omega)
        have HRW := Lib.hid (And.intro hrow hgr)
        clear hrow hgr ob9 S9
        go_wp2_with fail
        exact ⟨⟨k + 1, HK1.out.1, by go_num, HRW.out.1.set k _, Tx.grown_trans HRW.out.2 (Tx.grown_set _ _ _ _)⟩, by simp only [intOf]; exact HK1.out.2⟩
      · obtain rfl : k = n := by omega
        have S10 := Tx.Since.grown hgr (Nat.le_trans hwa hg1) H0.out S9
        have ob10 := ob9.grown hgr hgb
        go_wp2_with fail
        refine (C1.out w10 S10.ok).mono ?_
        rintro e w11 ⟨vc, rfl, oc, b11⟩
        have S11 := Tx.Since.then b11 S10
        have ob11 := ob10.below b11 (Nat.le_refl _)
        go_wp2_with fail
        refine (CE.out vc vb L w11 (Tx.cs_of oc) (Tx.cs_of ob11)).mono ?_
        rintro e w12 ⟨rfl, b12⟩
        have S12 := Tx.Since.then b12 S11
        go_wp2_with fail
        go_ret
        exact ⟨rfl, S12.below⟩

theorem walk (s : ByteArray) (v : Value) (l : List Int) (w : World) (h : Tx.Ok w) (hs : s.size ≤ 4194304) (hl : l.length ≤ 4194304) (hv : Tx.Ints w w.heap.size v l) :
    Calls Tryd.prog 5 #[.string s, v] w fun e w' => e = .returned (.bool true) ∧ Below w.heap.size w w' := by
  rcases Tx.units_cases s with ⟨a1, a2⟩ | ⟨rs, a1, a2, a3, a4⟩
  · exact walkN s v l w h hs hl hv a1 a2
  · exact walkS s v l w h hs hl hv _ a3 a4
theorem reads (os : Os) {H : Type} (enc : TypeId × Value → H) : ∃ places, DataW.whole enc Tryd.prog ((Tx.laidWorld os).forCall (fun _ _ => 0) ⟨#[], #[.string ⟨#[]⟩, .slice none 0 0], []⟩).memory Tryd.f5.params.toList Rows.textUtfSpec.vars false (#[.string ⟨#[]⟩, .slice none 0 0] : Array Value).toList 8 = some ([.lit (.string []), .nil], [], places) :=
  ⟨[], by kernel_rfl⟩
set_option maxHeartbeats 4000000 in
set_option maxRecDepth 100000 in
theorem lifted (os : Os) (started : os.Started) (H : Type) (enc : TypeId × Value → H) (F : Stop.Interp) :
    ReturnsInHanded {} Tryd.checked os 5 .any ((Rows.OpenSpec.upto Rows.textUtfSpec).preRow enc Tryd.prog Tryd.f5 Rows.textUtfUptoRow.domain false Rows.textUtfUptoRow.laid) (((Rows.OpenSpec.upto Rows.textUtfSpec).at F).post enc Tryd.prog Tryd.f5 false true false false) := by
  obtain ⟨places, hx⟩ := reads os enc
  refine returnsInHanded_of_row (C := Tryd.checked) (s := (Rows.OpenSpec.upto Rows.textUtfSpec)) Tx.own started (by kernel_rfl) Tryd.func5
    (witness_row_atRef (enc := enc) (C := Tryd.checked) false (Tx.laidWorld os) #[.string ⟨#[]⟩, .slice none 0 0] rfl (by kernel_rfl) (by kernel_rfl) (by kernel_rfl)
      (OpenSpec.preRow_of_cond 8 hx (by kernel_rfl) (fun k hk => by cases hk; kernel_rfl) (by kernel_rfl) (Tx.laid_met os _))) ?_
  intro W base args ds gs before hval0 hW _ hk hsz hL _ _
  have hval : ∀ (j : Nat) t v, Tryd.f5.params[j]? = some t → args[j]? = some v → Value.okWide Tryd.prog W .any base t v := hval0
  have hW' := hW
  obtain ⟨p, q, hA0, hV0, rfl, _, _⟩ := hW
  have hA : DataW.TrodAll enc Tryd.prog W 0 (fun _ => true) true Tryd.f5.params.toList args.toList ds p := hA0
  rw [Tryd.params5] at hA hval
  obtain ⟨v0, vs0, d0, ds0, p0, q0, hargs, rfl, rfl, h0, r0⟩ := trodAll_cons hA
  obtain ⟨v1, vs1, d1, ds1, p1, q1, rfl, rfl, rfl, h1, r1⟩ := trodAll_cons r0
  obtain ⟨rfl, rfl, rfl⟩ := trodAll_nil r1
  obtain rfl : args = #[v0, v1] := by cases args; simp_all
  obtain ⟨rfl, rfl⟩ := trodVars_none hV0
  obtain ⟨a, rfl, rfl, rfl, wa⟩ := open_string Tryd.underlying9 (hval 0 9 v0 rfl rfl) h0
  have za : a.size ≤ 140737488355328 := by
    have := sized_string hsz (j := 0) (by rw [Tryd.params5]; rfl) rfl
    rw [Tx.len] at this; unfold reachBytes at this; omega
  obtain ⟨lb, ib, nb, backb⟩ := Tx.open_ints (hval 1 29 v1 rfl rfl) h1
  clear hA0 hV0 hval0
  have hb := hk _ rfl
  have hb2 := of_decide_eq_true hb
  simp only [Rows.uptoBulkAll, Rows.uptoBulk, List.append_nil] at hb2
  refine (walk a v1 lb W (Tx.ok_of_laid hL) (by rw [Tx.len] at hb2; omega) (by rw [Tx.len] at hb2; omega) ib).mono ?_
  rintro e W' ⟨rfl, bel⟩
  have e1 : ((Rows.OpenSpec.upto Rows.textUtfSpec).at F).fn H ([.lit (.string a.data.toList), d1] ++ []) = { results := [.lit (.bool true)], args := [.lit (.string a.data.toList), d1] } := rfl
  refine ⟨_, rfl, _, _, _, [], [] ++ (p1 ++ ([])), [], hW', ?_, ?_, ?_, bel.frame _, fun h => by cases h⟩
  · rw [e1]; exact trodAll_cons_mk (shut_bool Tryd.underlying4 _) trodAll_mk0
  · rw [e1]; exact trodAll_cons_mk (shut_string Tryd.underlying9 wa) (trodAll_cons_mk (backb _ _ bel (fun _ hx => decide_eq_true hx)) trodAll_mk0)
  · rw [e1]; rfl

theorem said : Rows.TextUtfUptoSaid :=
  OpenClaim.holds_of_cond 5 Tryd.f5 rfl rfl rfl rfl rfl rfl rfl ⟨rfl, rfl, rfl, rfl, rfl⟩ rfl rfl rfl rfl rfl (by kernel_rfl) Tryd.func5 (by kernel_rfl)
    (of_decide_eq_true (by kernel_rfl)) (by unfold Func.isWrapper; rw [if_neg (of_decide_eq_false (by kernel_rfl))]; exact ⟨rfl, rfl⟩)
    (fun os started H enc _ F => by rw [OpenClaim.pre_eq_preRow]; exact lifted os started H enc F)

/-- No parameter wants a stand-in; the program's own looks are off. -/
theorem plain (f : FuncId) (fn : Func) (hf : Tryd.pinned.checked.prog.funcNamed "ostiary/ostiarylaw01.TextUtf" = some f) (hfn : Tryd.pinned.checked.prog.funcs[f]? = some fn) :
    true = Tryd.pinned.checked.prog.looks [] ∧ ∀ (j : Nat) t, fn.params[j]? = some t → Tryd.pinned.checked.prog.wantsStandIn t = false := by
  obtain rfl : f = 5 := Option.some.inj ((show Tryd.prog.funcNamed "ostiary/ostiarylaw01.TextUtf" = some 5 by kernel_rfl).symm.trans hf) |>.symm
  obtain rfl : fn = Tryd.f5 := (Option.some.inj (Tryd.func5.symm.trans hfn)).symm
  refine ⟨by kernel_rfl, fun j t ht => ?_⟩
  rw [Tryd.params5] at ht
  have hm := Array.mem_of_getElem? ht
  simp only [List.mem_toArray, List.mem_cons, List.mem_nil_iff, or_false] at hm
  rcases hm with rfl | rfl
  · exact (show Tryd.prog.wantsStandIn 9 = false by kernel_rfl)
  · exact (show Tryd.prog.wantsStandIn 29 = false by kernel_rfl)

theorem card : Rows.TextUtfUptoCardSaid :=
  Claim7.holds_tied_plain_at .later [] _ _ _ _ said (fun _ h => by cases h) (by kernel_rfl) (fun _ h => by cases h) textUtfUpto_row_tie rfl ⟨rfl, rfl⟩ (by kernel_rfl) rfl plain (by kernel_rfl)

end lwUtf
end Go.Proofs.YtejnhhhmjkiehaaDoor
