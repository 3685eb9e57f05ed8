/- HashCuts: bytes written in pieces, cut at any places, and in one piece, leave hashes that go on alike: whatever is written then. Where the input's bulk is at most 1048576. -/
import Derived.Test.YtejnkchfjkhheaaHsK
import Derived.Lib.SmallJoins
namespace Go.Proofs.Ytejnkchfjkhheaa
open Go.ChangeShapes Go.WideShapes Go.ChangeAt Go.ChangeMaps Go.RowKit

theorem Hs.core_strs {H : Type} {enc : TypeId × Value → H} {W : World} {v : Value} {y : DataW H × List MemPlace} {fuel : Nat} (hval : Value.okWide Try.prog W .any 0 37 v)
    (hf : DataW.trod enc Try.prog W 0 (fun _ => true) true fuel 37 [v] = some y) :
    ∃ a n cap l, v = .slice a n cap ∧ n ≤ cap ∧ cap ≤ 9223372036854775807 ∧ Hs.StrsAt W a n l ∧ Hs.total l + l.length + 1 ≤ Rows.uptoBulk y.1 ∧ ∀ x ∈ y.2, x.block < W.heap.size := by
  have ok := Hs.okW_strs hval
  clear hval
  rcases ok with rfl | ⟨b, off, len, cap, rfl, hlc, hcm, hbW⟩
  · rcases open_strings Try.underlying37 Try.underlying9 Hs.cellsS hf with ⟨hcs, hx⟩ | ⟨a, len', cap', ss, hcs, _, hl, hm, hz, hx, hcell, hwz⟩
    · subst hx
      exact ⟨none, 0, 0, [], rfl, Nat.le_refl _, by omega, ⟨rfl, fun j s hj => by simp at hj⟩, Nat.le_refl _, by simp⟩
    · simp at hcs
  · rcases open_strings Try.underlying37 Try.underlying9 Hs.cellsS hf with ⟨hcs, hx⟩ | ⟨a, len', cap', ss, hcs, _, hl, hm, hz, hx, hcell, hwz⟩
    · simp at hcs
    · simp at hcs
      obtain ⟨rfl, rfl, rfl⟩ := hcs
      subst hx
      simp only [if_true] at hz
      have hlt : (ss.take len).length = len := by rw [List.length_take]; omega
      refine ⟨_, len, cap, ss.take len, rfl, hlc, hcm, ⟨hlt, fun j s hj => ⟨b, off, rfl, hbW, ?_⟩⟩, ?_, ?_⟩
      · have hjl : j < len := by have := (List.getElem?_eq_some_iff.1 hj).1; omega
        have := hcell j (by omega)
        rw [add_plain] at this
        rw [this]
        rw [List.getElem?_take, if_pos hjl] at hj
        rw [List.getD_eq_getElem?_getD, hj]
        rfl
      · show _ ≤ Rows.uptoBulkAll _ + Rows.uptoBulkAll _ + 1
        rw [Hs.bulk_strs]; omega
      · intro x hx
        simp only [MemPlace.row, List.mem_map] at hx
        obtain ⟨i, _, rfl⟩ := hx
        exact hbW
/-- The ints of a slice that came in. -/
structure Hs.IntsAt (w : World) (a : Option Addr) (n : Nat) : Prop where
  cell : ∀ j, j < n → ∃ b off z, a = some ⟨b, off, none⟩ ∧ b < w.heap.size ∧ w.cell? ⟨b, off + j, none⟩ = some (.int .i64 z)
set_option maxHeartbeats 4000000 in
set_option maxRecDepth 100000 in
theorem Hs.okW_ints {W : World} {v : Value} (h : Value.okWide Try.prog W .any 0 41 v) :
    v = .slice none 0 0 ∨ ∃ b off len cap, v = .slice (some ⟨b, off, none⟩) len cap ∧ len ≤ cap ∧ cap ≤ 9223372036854775807 ∧ b < W.heap.size := by
  obtain ⟨a, len, cap, rfl⟩ := okWide_slice Try.underlying41 h
  simp only [Value.okWide, Try.underlying41, Cell.okWide] at h
  rcases a with _ | ⟨b, off, spot⟩
  · left
    cases len <;> cases cap <;> simp_all [Cell.ok, Try.underlying41]
  · right
    simp only [Cell.ok, Try.underlying41] at h
    obtain ⟨h1, h2, _, h3, row, cells, h4, _⟩ := h
    have h3 : spot = none := h3
    subst h3
    have h2 : (cap : Int) ≤ 9223372036854775807 := h2
    refine ⟨b, off, len, cap, rfl, h1, by omega, ?_⟩
    have h4 : W.shape? b = some (row, cells) := h4
    by_cases hb : b < W.heap.size
    · exact hb
    · exfalso
      have hn : W.heap[b]? = none := by simp; omega
      simp [World.shape?, hn] at h4
theorem Hs.cellsI : Try.prog.cellsOf 3 = 1 := by kernel_rfl
theorem Hs.core_ints {H : Type} {enc : TypeId × Value → H} {W : World} {v : Value} {y : DataW H × List MemPlace} {fuel : Nat} (hval : Value.okWide Try.prog W .any 0 41 v)
    (hf : DataW.trod enc Try.prog W 0 (fun _ => true) true fuel 41 [v] = some y) :
    ∃ a n cap, v = .slice a n cap ∧ n ≤ cap ∧ cap ≤ 9223372036854775807 ∧ Hs.IntsAt W a n ∧ ∀ x ∈ y.2, x.block < W.heap.size := by
  have ok := Hs.okW_ints hval
  clear hval
  rcases ok with rfl | ⟨b, off, len, cap, rfl, hlc, hcm, hbW⟩
  · rcases Go.ChangeShapes.open_ints Try.underlying41 Try.underlying3 Hs.cellsI hf with ⟨hcs, hx⟩ | ⟨a, len', cap', zs, hcs, _, hl, hm, hz, hx, hcell, hwz⟩
    · subst hx
      exact ⟨none, 0, 0, rfl, Nat.le_refl _, by omega, ⟨fun j hj => by omega⟩, by simp⟩
    · simp at hcs
  · rcases Go.ChangeShapes.open_ints Try.underlying41 Try.underlying3 Hs.cellsI hf with ⟨hcs, hx⟩ | ⟨a, len', cap', zs, hcs, _, hl, hm, hz, hx, hcell, hwz⟩
    · simp at hcs
    · simp at hcs
      obtain ⟨rfl, rfl, rfl⟩ := hcs
      subst hx
      simp only [if_true] at hz
      refine ⟨_, len, cap, rfl, hlc, hcm, ⟨fun j hj => ⟨b, off, zs.getD j 0, rfl, hbW, ?_⟩⟩, ?_⟩
      · have := hcell j (by omega)
        rw [add_plain] at this
        exact this
      · intro x hx
        simp only [MemPlace.row, List.mem_map] at hx
        obtain ⟨i, _, rfl⟩ := hx
        exact hbW
theorem Hs.types43 : Try.prog.cellTypes Try.prog.depth 43 = some [41, 37] := by kernel_rfl
theorem Hs.readable43 : Try.prog.readableRec 43 = true := by kernel_rfl
theorem Hs.row43 : 43 < Try.prog.types.size := of_decide_eq_true (by kernel_rfl)
theorem Hs.open_ways {H : Type} {enc : TypeId × Value → H} {W : World} {v : Value} {d : DataW H} {ps : List MemPlace} (hval : Value.okWide Try.prog W .any 0 43 v)
    (h : DataW.Trod enc Try.prog W 0 (fun _ => true) true 43 v d ps) :
    ∃ a n cap b k cbp l, v = .agg #[.slice a n cap, .slice b k cbp] ∧ n ≤ cap ∧ cap ≤ 9223372036854775807 ∧ k ≤ cbp ∧ cbp ≤ 9223372036854775807 ∧ Hs.IntsAt W a n ∧ Hs.StrsAt W b k l ∧ Hs.total l + l.length + 1 ≤ Rows.uptoBulk d ∧
      ∀ W', Below W.heap.size W W' → DataW.Trod enc Try.prog W' 0 (fun b => decide (b < W.heap.size)) true 43 v d ps := by
  have hv2 : ∃ cs, v = .agg cs ∧ cs.size = Try.prog.cellsOf 43 ∧ Row.okWide Try.prog W .any 0 43 cs := by
    have := hval
    simp only [Value.okWide, Try.underlying43] at this
    exact this
  have h0 := h
  obtain ⟨v0, v1, y0, y1, m, rfl, rfl, rfl, t0, t1⟩ := Go.Joins.open_agg2 Try.underlying43 (by kernel_rfl) (by kernel_rfl) hval h
  obtain ⟨cs, hcs, _, ts, hts, _, hall⟩ := hv2
  simp only [Value.agg.injEq] at hcs
  subst hcs
  obtain rfl : ts = [41, 37] := Option.some.inj (hts.symm.trans Hs.types43)
  obtain ⟨u0, hu0, c0⟩ := hall 0 v0 rfl
  obtain ⟨u1, hu1, c1⟩ := hall 1 v1 rfl
  obtain rfl : 41 = u0 := by simpa using hu0
  obtain rfl : 37 = u1 := by simpa using hu1
  have w0 : Value.okWide Try.prog W .any 0 41 v0 := by simp only [Value.okWide, Try.underlying41]; exact c0
  have w1 : Value.okWide Try.prog W .any 0 37 v1 := by simp only [Value.okWide, Try.underlying37]; exact c1
  obtain ⟨a, n, cap, rfl, e1, e2, e3, e4⟩ := Hs.core_ints w0 t0
  obtain ⟨b, k, cbp, l, rfl, f1, f2, f3, f4, f5⟩ := Hs.core_strs w1 t1
  refine ⟨a, n, cap, b, k, cbp, l, rfl, e1, e2, f1, f2, e3, f3, ?_, fun W' hb => Below.trod Hs.laidOut Hs.readable43 Hs.row43 h0 hb ?_⟩
  · show _ ≤ Rows.uptoBulkAll [y0.1, y1.1] + 1
    simp only [Rows.uptoBulkAll]
    omega
  · intro x hx
    rcases List.mem_append.1 hx with hx | hx
    · exact e4 x hx
    · exact f5 x hx
namespace lwCuts
set_option maxHeartbeats 8000000 in
set_option maxRecDepth 100000 in
theorem no (kind : Int) (h0 : kind ≠ 0) (h1 : kind ≠ 1) (s : ByteArray) (v0 v1 : Value) (w : World) :
    Calls Try.prog 7 #[.int .i64 kind, .string s, .agg #[v0, v1]] w fun e w' => e = .returned (.bool true) ∧ Below w.heap.size w w' := by
  have DN := Lib.hid (Hs.New_no kind h0 h1)
  have t0 : (kind != 0) = true := by rw [bne_iff_ne]; exact h0
  have t1 : (kind != 1) = true := by rw [bne_iff_ne]; exact h1
  go_enter Try.func7, Try.ntmps7
  go_wp2_with fail
  have bA : Below w.heap.size w (w.alloc (.cells #[v0, v1] 43)) := (Below.refl _ _).alloc (Nat.le_refl _) _
  refine (DN.out _).mono ?_
  rintro e w2 ⟨rfl, rfl⟩
  go_wp2_with fail
  refine (DN.out _).mono ?_
  rintro e w3 ⟨rfl, rfl⟩
  go_wp2_with fail
  refine (Hs.fixed_any _).mono ?_
  rintro e w4 ⟨rfl, b4⟩
  have B4 := bA.trans (b4.mono bA.size)
  go_wp2_with fail
  go_ret
  exact ⟨rfl, B4⟩
structure Lp (w : World) (va vb : Value) (pa pb κ : Nat) (A D : List UInt8) (wr : World) : Prop where
  ia : Hs.Is wr pa κ A
  ib : Hs.Is wr pb κ D
  bx : wr.heap[w.heap.size]? = some (.cells #[va, vb] 43 (0, 0))
  ab : pa ≠ pb
  la : w.heap.size < pa
  lb : w.heap.size < pb
  B : Below w.heap.size w wr
section
variable {w : World} {va vb : Value} {pa pb κ : Nat} {A D : List UInt8} {wr W : World}
theorem Lp.c0 (h : Lp w va vb pa pb κ A D wr) : wr.cell? ⟨w.heap.size, 0, none⟩ = some va := by simp only [World.cell?, h.bx]; rfl
theorem Lp.c1 (h : Lp w va vb pa pb κ A D wr) : wr.cell? ⟨w.heap.size, 1, none⟩ = some vb := by simp only [World.cell?, h.bx]; rfl
theorem Lp.below (h : Lp w va vb pa pb κ A D wr) (hb : Below wr.heap.size wr W) : Lp w va vb pa pb κ A D W :=
  ⟨h.ia.below hb h.ia.lt, h.ib.below hb h.ib.lt, (hb.block _ (Array.getElem?_eq_some_iff.1 h.bx).1).trans h.bx, h.ab, h.la, h.lb, h.B.trans (hb.mono h.B.size)⟩
theorem Lp.wa {A' : List UInt8} (h : Lp w va vb pa pb κ A D wr) (i : Hs.Is W pa κ A') (hb : Hs.But pa wr W) : Lp w va vb pa pb κ A' D W :=
  ⟨i, h.ib.but hb h.ab.symm, (hb.block _ (Array.getElem?_eq_some_iff.1 h.bx).1 (Nat.ne_of_lt h.la)).trans h.bx, h.ab, h.la, h.lb, h.B.trans (hb.toBelow (Nat.le_of_lt h.la) h.B.size)⟩
theorem Lp.wb {D' : List UInt8} (h : Lp w va vb pa pb κ A D wr) (i : Hs.Is W pb κ D') (hb : Hs.But pb wr W) : Lp w va vb pa pb κ A D' W :=
  ⟨h.ia.but hb h.ab, i, (hb.block _ (Array.getElem?_eq_some_iff.1 h.bx).1 (Nat.ne_of_lt h.lb)).trans h.bx, h.ab, h.la, h.lb, h.B.trans (hb.toBelow (Nat.le_of_lt h.lb) h.B.size)⟩
end
set_option maxHeartbeats 8000000 in
set_option maxRecDepth 100000 in
theorem yes (κ : Nat) (hκ : κ < 2) (s : ByteArray) (hs : s.size ≤ 1048576) (a : Option Addr) (n cap : Nat) (b : Option Addr) (k cbp : Nat) (l : List ByteArray) (w : World) (hI : Hs.IntsAt w a n) (hS : Hs.StrsAt w b k l) (hn : n ≤ cap) (hcm : cap ≤ 9223372036854775807) (hk : k ≤ cbp) (hcb : cbp ≤ 9223372036854775807) (ht : Hs.total l ≤ 1048576) :
    Calls Try.prog 7 #[.int .i64 (κ : Int), .string s, .agg #[.slice a n cap, .slice b k cbp]] w fun e w' => e = .returned (.bool true) ∧ Below w.heap.size w w' := by
  have DN := Lib.hid (Hs.New_any κ hκ)
  have CW := Lib.hid (fun (W : World) (p : Nat) (s : ByteArray) (m : List UInt8) (hW : Hs.Is W p κ m) (hs : m.length + s.size ≤ 1152921504606846975) => Hs.Write_any W p κ m s hW hs)
  have CS := Lib.hid (fun (W : World) (p : Nat) (m : List UInt8) (hW : Hs.Is W p κ m) (hm : m.length ≤ 3000000) => Hs.Sum_any W p κ m hW (by omega))
  have CZ := Lib.hid Hs.Size_any
  go_enter Try.func7, Try.ntmps7
  go_wp2_with fail
  have bA : Below w.heap.size w (w.alloc (.cells #[.slice a n cap, .slice b k cbp] 43)) := (Below.refl _ _).alloc (Nat.le_refl _) _
  have hbx : (w.alloc (.cells #[.slice a n cap, .slice b k cbp] 43)).heap[w.heap.size]? = some (.cells #[.slice a n cap, .slice b k cbp] 43 (0, 0)) := heap_alloc_new _ _
  have hz0 : w.heap.size < (w.alloc (.cells #[.slice a n cap, .slice b k cbp] 43)).heap.size := by simp
  refine (DN.out _).mono ?_
  rintro e w1 ⟨pa, rfl, hpa, i1, b1⟩
  go_wp2_with fail
  refine (DN.out _).mono ?_
  rintro e w2 ⟨pb, rfl, hpb, j2, b2⟩
  have B2 := b1.trans (b2.mono b1.size)
  have hL2 : Lp w (.slice a n cap) (.slice b k cbp) pa pb κ [] [] w2 :=
    ⟨i1.below b2 i1.lt, j2, (B2.block _ hz0).trans hbx, Nat.ne_of_lt (Nat.lt_of_lt_of_le i1.lt hpb), Nat.lt_of_lt_of_le hz0 hpa, Nat.lt_of_lt_of_le (Nat.lt_of_lt_of_le hz0 b1.size) hpb, bA.trans (B2.mono bA.size)⟩
  clear bA hbx hz0 hpa hpb i1 j2 b1 b2 B2
  go_wp2_with fail
  refine (Hs.fixed_any _).mono ?_
  rintro e w3 ⟨rfl, b3⟩
  have hL3 := hL2.below b3
  clear hL2 b3
  go_wp2_with fail
  refine (CW.out _ _ s _ hL3.ia (by simp; omega)).mono ?_
  rintro e w4 ⟨rfl, i4, b4⟩
  have hL4 := hL3.wa i4 b4
  rw [List.nil_append] at hL4
  clear hL3 i4 b4
  go_wp2_with fail
  go_loopw [11, 12] (fun fv iv wr => ∃ (j f : Nat), j ≤ n ∧ iv = .int .i64 (j : Int) ∧ fv = .int .i64 (f : Int) ∧ f ≤ s.size ∧ Lp w (.slice a n cap) (.slice b k cbp) pa pb κ s.data.toList (s.data.toList.take f) wr) (fun _ iv _ => n - (intOf iv).toNat)
  case atStart => exact ⟨0, 0, by omega, rfl, rfl, by omega, by simpa using hL4⟩
  case round =>
  clear hL4
  obtain ⟨j, f, hj, rfl, rfl, hf, hL⟩ := hrel
  obtain ⟨w5, rfl⟩ : ∃ w5, w5 = wr := ⟨_, rfl⟩
  have c0 := hL.c0
  by_cases hlt : j < n
  · have hjz : (j : Int) < (n : Int) := by omega
    obtain ⟨b0, off0, z, rfl, hb0, hc00⟩ := hI.cell j hlt
    have hc0 := (hL.B.cell (p := ⟨b0, off0 + j, none⟩) hb0).trans hc00
    by_cases hz1 : z < (f : Int)
    · go_wp2_with fail
      exact ⟨⟨j + 1, f, by omega, by go_num, rfl, hf, hL⟩, by simp [intOf]; omega⟩
    · by_cases hz2 : (s.size : Int) < z
      · go_wp2_with fail
        exact ⟨⟨j + 1, f, by omega, by go_num, rfl, hf, hL⟩, by simp [intOf]; omega⟩
      · obtain ⟨t, rfl⟩ := Int.eq_ofNat_of_zero_le (by omega : 0 ≤ z)
        have q1 : (f : Int) ≤ (t : Int) := by omega
        have q2 : (t : Int) ≤ (s.size : Int) := by omega
        have hext : s.data.toList.take f ++ (s.extract f t).data.toList = s.data.toList.take t := by
          rw [Hs.ext_list, show t = f + (t - f) by omega, Nat.add_sub_cancel_left, List.take_add]
        have hes : (s.extract f t).size ≤ 1048576 := by rw [← Tx.len, Hs.ext_list, List.length_take, List.length_drop, Tx.len]; omega
        have hfl : (s.data.toList.take f).length ≤ 1048576 := by rw [List.length_take, Tx.len]; omega
        have HE := Lib.hid (And.intro hext (And.intro hes hfl))
        clear hext hes hfl
        go_wp2_with fail
        refine (CW.out _ _ (s.extract f t) _ hL.ib (by have := HE.out.2; omega)).mono ?_
        rintro e w6 ⟨rfl, i6, b6⟩
        have hL6 := hL.wb i6 b6
        rw [HE.out.1] at hL6
        clear c0 hc0
        go_wp2_with fail
        exact ⟨⟨j + 1, t, by omega, by go_num, rfl, by omega, hL6⟩, by simp [intOf]; omega⟩
  · have hjz : ¬ (j : Int) < (n : Int) := by omega
    have q1 : (f : Int) ≤ (s.size : Int) := by omega
    have hext : s.data.toList.take f ++ (s.extract f s.size).data.toList = s.data.toList := by
      have h1 : (s.extract f s.size).data.toList = s.data.toList.drop f := by
        rw [Hs.ext_list]
        exact List.take_of_length_le (by rw [List.length_drop, Tx.len]; omega)
      rw [h1, List.take_append_drop]
    have hes : (s.extract f s.size).size ≤ 1048576 := by rw [← Tx.len, Hs.ext_list, List.length_take, List.length_drop, Tx.len]; omega
    have hfl : (s.data.toList.take f).length ≤ 1048576 := by rw [List.length_take, Tx.len]; omega
    have HE := Lib.hid (And.intro hext (And.intro hes hfl))
    clear hext hes hfl
    go_wp2_with fail
    refine (CW.out _ _ (s.extract f s.size) _ hL.ib (by have := HE.out.2; omega)).mono ?_
    rintro e w6 ⟨rfl, i6, b6⟩
    have hL6 := hL.wb i6 b6
    rw [HE.out.1] at hL6
    clear c0 hL i6 b6 HE
    go_wp2_with fail
    go_loopw [14] (fun iv wr => ∃ (i : Nat) (m : List UInt8), i ≤ k ∧ iv = .int .i64 (i : Int) ∧ m.length ≤ s.size + Hs.total (l.take i) ∧ Lp w (.slice a n cap) (.slice b k cbp) pa pb κ m m wr) (fun iv _ => k - (intOf iv).toNat)
    case atStart => exact ⟨0, s.data.toList, by omega, rfl, by rw [Tx.len]; simp, hL6⟩
    case round =>
    clear hL6
    obtain ⟨i, m, hi, rfl, hm, hL⟩ := hrel
    obtain ⟨w7, rfl⟩ : ∃ w7, w7 = wr := ⟨_, rfl⟩
    have htk := Hs.total_le l i
    have hmb : m.length ≤ 2097152 := by omega
    have c1 := hL.c1
    by_cases hlt : i < k
    · have hiz : (i : Int) < (k : Int) := by omega
      obtain ⟨x, hx⟩ : ∃ x, l[i]? = some x := ⟨_, List.getElem?_eq_getElem (by rw [hS.len]; exact hlt)⟩
      have hts := Hs.total_take l i x hx
      have htl := Hs.total_le l (i + 1)
      obtain ⟨b0, off0, rfl, hb0, hc00⟩ := hS.cell i x hx
      obtain ⟨F, hF⟩ : ∃ F, m ++ x.data.toList = F := ⟨_, rfl⟩
      have lF : F.length ≤ s.size + Hs.total (l.take (i + 1)) := by rw [hts, ← hF, List.length_append, Tx.len]; omega
      have hxb : x.size ≤ 1048576 := by omega
      have HLF := Lib.hid lF
      clear hts htl htk hm lF
      go_wp2_with fail
      refine (CS.out _ _ _ hL.ia (by omega)).mono ?_
      rintro e w8 ⟨rfl, b8⟩
      have hL8 := hL.below b8
      clear hL b8 c1
      go_wp2_with fail
      refine (CS.out _ _ _ hL8.ib (by omega)).mono ?_
      rintro e w9 ⟨rfl, b9⟩
      have hL9 := hL8.below b9
      clear hL8 b9
      go_wp2_with fail
      refine (CZ.out _ _ _ _ hL9.ia).mono ?_
      rintro e w10 ⟨rfl, rfl⟩
      go_wp2_with fail
      refine (CZ.out _ _ _ _ hL9.ib).mono ?_
      rintro e w11 ⟨rfl, rfl⟩
      have c1 := hL9.c1
      have hc1 := (hL9.B.cell (p := ⟨b0, off0 + i, none⟩) hb0).trans hc00
      go_wp2_with fail
      refine (CW.out _ _ x _ hL9.ia (by omega)).mono ?_
      rintro e w12 ⟨rfl, i12, b12⟩
      have hL12 := hL9.wa i12 b12
      rw [hF] at hL12
      have c2 := hL12.c1
      have hc2 := (hL12.B.cell (p := ⟨b0, off0 + i, none⟩) hb0).trans hc00
      clear hL9 i12 b12 c1 hc1
      go_wp2_with fail
      refine (CW.out _ _ x _ hL12.ib (by omega)).mono ?_
      rintro e w13 ⟨rfl, i13, b13⟩
      have hL13 := hL12.wb i13 b13
      rw [hF] at hL13
      clear hL12 i13 b13 c2 hc2
      go_wp2_with fail
      exact ⟨⟨i + 1, F, by omega, by go_num, HLF.out, hL13⟩, by simp [intOf]; omega⟩
    · have hiz : ¬ (i : Int) < (k : Int) := by omega
      go_wp2_with fail
      refine (CS.out _ _ _ hL.ia (by omega)).mono ?_
      rintro e w8 ⟨rfl, b8⟩
      have hL8 := hL.below b8
      clear hL b8 c1
      go_wp2_with fail
      refine (CS.out _ _ _ hL8.ib (by omega)).mono ?_
      rintro e w9 ⟨rfl, b9⟩
      have hL9 := hL8.below b9
      clear hL8 b9
      go_wp2_with fail
      refine (CZ.out _ _ _ _ hL9.ia).mono ?_
      rintro e w10 ⟨rfl, rfl⟩
      go_wp2_with fail
      refine (CZ.out _ _ _ _ hL9.ib).mono ?_
      rintro e w11 ⟨rfl, rfl⟩
      have hB := hL9.B
      go_wp2_with fail
      go_ret
      exact ⟨rfl, hB⟩
theorem walk (kind : Int) (s : ByteArray) (a : Option Addr) (n cap : Nat) (b : Option Addr) (k cbp : Nat) (l : List ByteArray) (w : World) (hs : s.size ≤ 1048576) (hI : Hs.IntsAt w a n) (hS : Hs.StrsAt w b k l) (hn : n ≤ cap) (hcm : cap ≤ 9223372036854775807) (hk : k ≤ cbp) (hcb : cbp ≤ 9223372036854775807) (ht : Hs.total l ≤ 1048576) :
    Calls Try.prog 7 #[.int .i64 kind, .string s, .agg #[.slice a n cap, .slice b k cbp]] w fun e w' => e = .returned (.bool true) ∧ Below w.heap.size w w' := by
  by_cases h0 : kind = 0
  · subst h0; exact yes 0 (by decide) s hs a n cap b k cbp l w hI hS hn hcm hk hcb ht
  · by_cases h1 : kind = 1
    · subst h1; exact yes 1 (by decide) s hs a n cap b k cbp l w hI hS hn hcm hk hcb ht
    · exact no kind h0 h1 s _ _ w
theorem reads (os : Os) {H : Type} (enc : TypeId × Value → H) : ∃ places, DataW.whole enc Try.prog ((Hs.world os).forCall (fun _ _ => 0) ⟨#[], #[.int .i64 0, .string ⟨#[]⟩, .agg #[.slice none 0 0, .slice none 0 0]], []⟩).memory Try.f7.params.toList Rows.hashCutsSpec.vars false (#[.int .i64 0, .string ⟨#[]⟩, .agg #[.slice none 0 0, .slice none 0 0]] : Array Value).toList 8 = some ([.lit (.int .i64 0), .lit (.string []), .agg [.nil, .nil]], [], places) :=
  ⟨[], by kernel_rfl⟩
set_option maxHeartbeats 4000000 in
set_option maxRecDepth 100000 in
theorem lifted (os : Os) (started : os.Started) (H : Type) (enc : TypeId × Value → H) (F : Stop.Interp) :
    ReturnsInHanded {} Try.checked os 7 .any ((Rows.OpenSpec.upto Rows.hashCutsSpec).preRow enc Try.prog Try.f7 Rows.hashCutsUptoRow.domain false Rows.hashCutsUptoRow.laid) (((Rows.OpenSpec.upto Rows.hashCutsSpec).at F).post enc Try.prog Try.f7 false true false false) := by
  obtain ⟨places, hx⟩ := reads os enc
  refine returnsInHanded_of_row (C := Try.checked) (s := (Rows.OpenSpec.upto Rows.hashCutsSpec)) Hs.own started (by kernel_rfl) Try.func7
    (witness_row_atRef (enc := enc) (C := Try.checked) false (Hs.world os) #[.int .i64 0, .string ⟨#[]⟩, .agg #[.slice none 0 0, .slice none 0 0]] rfl (by kernel_rfl) (by kernel_rfl) (by kernel_rfl)
      (OpenSpec.preRow_of_cond 8 hx (by kernel_rfl) (fun k hk => by cases hk; kernel_rfl) (by kernel_rfl) (Hs.laid_met os _))) ?_
  intro W base args ds gs before hval0 hW _ hk hsz hL _ _
  have hval : ∀ (j : Nat) t v, Try.f7.params[j]? = some t → args[j]? = some v → Value.okWide Try.prog W .any base t v := hval0
  have hW' := hW
  obtain ⟨p, q, hA0, hV0, rfl, _, _⟩ := hW
  have hA : DataW.TrodAll enc Try.prog W 0 (fun _ => true) true Try.f7.params.toList args.toList ds p := hA0
  rw [Try.params7] at hA hval
  obtain ⟨v0, vs0, d0, ds0, p0, q0, hargs, rfl, rfl, h0, r0⟩ := trodAll_cons hA
  obtain ⟨v1, vs1, d1, ds1, p1, q1, rfl, rfl, rfl, h1, r1⟩ := trodAll_cons r0
  obtain ⟨v2, vs2, d2, ds2, p2, q2, rfl, rfl, rfl, h2, r2⟩ := trodAll_cons r1
  obtain ⟨rfl, rfl, rfl⟩ := trodAll_nil r2
  obtain rfl : args = #[v0, v1, v2] := by cases args; simp_all
  obtain ⟨rfl, rfl⟩ := trodVars_none hV0
  obtain ⟨a, rfl, rfl, rfl, wa⟩ := open_int Try.underlying3 (hval 0 3 v0 rfl rfl) h0
  obtain ⟨b, rfl, rfl, rfl, wb⟩ := open_string Try.underlying9 (hval 1 9 v1 rfl rfl) h1
  have zb : b.size ≤ 140737488355328 := by
    have := sized_string hsz (j := 1) (by rw [Try.params7]; rfl) rfl
    rw [Tx.len] at this; unfold reachBytes at this; omega
  obtain ⟨vac, nac, cac, vbc, nbc, cbc, lc, rfl, l1c, l2c, l3c, l4c, Ic, Sc, bkc, backc⟩ := Hs.open_ways (hval 2 43 v2 rfl rfl) h2
  clear hA0 hV0 hval0
  have hb := hk _ rfl
  have hb2 := of_decide_eq_true hb
  simp only [Rows.uptoBulkAll, Rows.uptoBulk, List.append_nil] at hb2
  refine (walk a b vac nac cac vbc nbc cbc lc W (by have := Tx.len b; omega) Ic Sc l1c l2c l3c l4c (by omega)).mono ?_
  rintro e W' ⟨rfl, bel⟩
  have e1 : ((Rows.OpenSpec.upto Rows.hashCutsSpec).at F).fn H ([.lit (.int .i64 a), .lit (.string b.data.toList), d2] ++ []) = { results := [.lit (.bool true)], args := [.lit (.int .i64 a), .lit (.string b.data.toList), d2] } := rfl
  refine ⟨_, rfl, _, _, _, [], [] ++ ([] ++ (p2 ++ ([]))), [], hW', ?_, ?_, ?_, bel.frame _, fun h => by cases h⟩
  · rw [e1]; exact trodAll_cons_mk (shut_bool Try.underlying4 _) trodAll_mk0
  · rw [e1]; exact trodAll_cons_mk (shut_int Try.underlying3 wa) (trodAll_cons_mk (shut_string Try.underlying9 wb) (trodAll_cons_mk (backc _ bel) trodAll_mk0))
  · rw [e1]; rfl

theorem said : Rows.HashCutsUptoSaid :=
  OpenClaim.holds_of_cond 7 Try.f7 rfl rfl rfl rfl rfl rfl rfl ⟨rfl, rfl, rfl, rfl, rfl⟩ rfl rfl rfl rfl rfl (by kernel_rfl) Try.func7 (by kernel_rfl)
    (of_decide_eq_true (by kernel_rfl)) (by unfold Func.isWrapper; rw [if_neg (of_decide_eq_false (by kernel_rfl))]; exact ⟨rfl, rfl⟩)
    (fun os started H enc _ F => by rw [OpenClaim.pre_eq_preRow]; exact lifted os started H enc F)

end lwCuts
end Go.Proofs.Ytejnkchfjkhheaa
