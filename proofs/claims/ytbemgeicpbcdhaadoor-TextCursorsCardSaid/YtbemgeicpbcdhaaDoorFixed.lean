/- The calls whose answers the document fixes: 'fixed' answers true. -/
import Derived.Test.YtbemgeicpbcdhaaDoorHexR
import Derived.Test.YtbemgeicpbcdhaaDoorB64F
import Derived.Test.YtbemgeicpbcdhaaDoorCurF
import Derived.Test.YtbemgeicpbcdhaaDoorUni2
import Derived.Test.YtbemgeicpbcdhaaDoorUniF
import Derived.Test.YtbemgeicpbcdhaaDoorSame
namespace Go.Proofs.YtbemgeicpbcdhaaDoor
open Go.RowKit

/-- The package-level variables hold what their initialisers lay. -/
def Tx.Ok (w : World) : Prop := As.ErrVar w ∧ Tx.Tabs w
theorem Tx.Ok.size {w : World} (h : Tx.Ok w) : 3 ≤ w.heap.size := h.1.size
theorem Tx.Ok.below {w w' : World} {B : Nat} (h : Tx.Ok w) (hb : Below B w w') (hB : 3 ≤ B) : Tx.Ok w' := ⟨h.1.below hb hB, h.2.below hb (by omega)⟩
theorem Tx.below_of_grown {w w' : World} {b B : Nat} (hg : w.grownBy w' (some b)) (hB : B ≤ b) (hw : B ≤ w.heap.size) : Below B w w' :=
  (Below.refl B w).grown hg hw (fun k hk => by simp at hk; omega)

theorem Tx.fx1 (w : World) (h : Tx.Ok w) : Calls Tryd.prog 15 #[.string ⟨#[45, 95, 56]⟩] w fun e w' => e = .returned (.tuple #[.string ⟨#[251, 255]⟩, .int .i64 0]) ∧ Below w.heap.size w w' := by
  have := Tx.FromBase64_any ⟨#[45, 95, 56]⟩ w (by decide) h.1
  rw [show Tx.unb64L (⟨#[45, 95, 56]⟩ : ByteArray).data.toList = some [251, 255] by decide +kernel] at this
  exact this
theorem Tx.fx2 (w : World) (h : Tx.Ok w) : Calls Tryd.prog 15 #[.string ⟨#[90, 104]⟩] w fun e w' => e = .returned (.tuple #[.string ⟨#[]⟩, .int .i64 11]) ∧ Below w.heap.size w w' := by
  have := Tx.FromBase64_any ⟨#[90, 104]⟩ w (by decide) h.1
  rw [show Tx.unb64L (⟨#[90, 104]⟩ : ByteArray).data.toList = none by decide +kernel] at this
  exact this
theorem Tx.fx3 (w : World) (h : Tx.Ok w) : Calls Tryd.prog 16 #[.string ⟨#[240, 159, 152, 128]⟩] w fun e w' => ∃ g cap, e = .returned (.tuple #[.slice (some ⟨g, 0, none⟩) 2 cap, .int .i64 0]) ∧ w.heap.size ≤ g ∧ g < w'.heap.size ∧ w'.cell? ⟨g, 0, none⟩ = some (.int .i64 55357) ∧ w'.cell? ⟨g, 1, none⟩ = some (.int .i64 56832) ∧ Below w.heap.size w w' := by
  have := Tx.Units_any ⟨#[240, 159, 152, 128]⟩ w (by decide) h.2 h.1
  rw [show Tx.unitsL (⟨#[240, 159, 152, 128]⟩ : ByteArray).data.toList = some [55357, 56832] by decide +kernel] at this
  refine this.mono ?_
  rintro e w' ⟨hb, v, rfl, hown⟩
  have hi := hown.ints
  rcases hown.2 with ⟨_, hn⟩ | ⟨g, cap, cur, rfl, hg, hgg, _⟩
  · simp at hn
  · rcases hi with ⟨hv, _⟩ | ⟨b, off, c2, hv, _, _, hb2, hc⟩
    · simp at hv
    · simp only [Value.slice.injEq, Option.some.injEq, Addr.mk.injEq] at hv
      obtain ⟨⟨rfl, rfl, _⟩, _, rfl⟩ := hv
      exact ⟨g, cap, rfl, hg, hb2, hc 0 (by simp), hc 1 (by simp), hb⟩
theorem Tx.fx4 (w : World) (h : Tx.Ok w) : Calls Tryd.prog 17 #[.slice (some ⟨w.heap.size, 0, none⟩) 2 2] (w.alloc (.cells #[.int .i64 55357, .int .i64 65536] 3)) fun e w' => e = .returned (.tuple #[.string ⟨#[]⟩, .int .i64 14]) ∧ Below w.heap.size w w' := by
  have hb : Below w.heap.size w (w.alloc (.cells #[.int .i64 55357, .int .i64 65536] 3)) := (Below.refl _ _).alloc (Nat.le_refl _) _
  have := Tx.FromUnits_any (.slice (some ⟨w.heap.size, 0, none⟩) 2 2) [55357, 65536] (w.alloc (.cells #[.int .i64 55357, .int .i64 65536] 3)) (by simp)
    (.inr ⟨w.heap.size, 0, 2, rfl, by simp, by omega, by simp, fun j hj => by
      match j, hj with
      | 0, _ => simp
      | 1, _ => simp
      | j + 2, hj => simp at hj; omega⟩) (h.below hb h.size).1
  rw [show Tx.readU [55357, 65536] = .error 14 by kernel_rfl] at this
  refine this.mono ?_
  rintro e w' ⟨rfl, hb2⟩
  exact ⟨rfl, hb.trans (hb2.mono hb.size)⟩
/-- The text of the document's cursor. -/
def Tx.S : ByteArray := ⟨#[97, 98, 44, 99, 100]⟩
theorem Tx.fx6 (w : World) (b : Nat) (h : Tx.Cur w b Tx.S 0) : Calls Tryd.prog 9 #[.pointer (some ⟨b, 0, none⟩), .int .u8 44] w fun e w' => e = .returned (.tuple #[.string ⟨#[97, 98]⟩, .int .i64 0]) ∧ Tx.Cur w' b Tx.S 3 ∧ w.grownBy w' (some b) :=
  Tx.Until_ok h (by decide) 44 2 (by decide) (by decide +kernel)
theorem Tx.fx7 (w : World) (b : Nat) (h : Tx.Cur w b Tx.S 3) (ho : Tx.Ok w) : Calls Tryd.prog 9 #[.pointer (some ⟨b, 0, none⟩), .int .u8 44] w fun e w' => e = .returned (.tuple #[.string ⟨#[]⟩, .int .i64 17]) ∧ Below w.heap.size w w' :=
  Tx.Until_no (Tx.until_none h (by decide) 44 (by decide +kernel)) ho.1
theorem Tx.fx8 (w : World) (b : Nat) (h : Tx.Cur w b Tx.S 3) : Calls Tryd.prog 11 #[.pointer (some ⟨b, 0, none⟩), .int .i64 1] w fun e w' => ∃ d, e = .returned (.tuple #[.pointer (some ⟨d, 0, none⟩), .int .i64 0]) ∧ w.heap.size ≤ d ∧ Tx.Cur w' d ⟨#[99]⟩ 0 ∧ Tx.Cur w' b Tx.S 4 ∧ w.grownBy w' (some b) :=
  Tx.Within_ok h (by decide) (L := 2) (by decide) 1 (by omega)
theorem Tx.fx9 (w : World) (b : Nat) (h : Tx.Cur w b Tx.S 4) : Calls Tryd.prog 6 #[.pointer (some ⟨b, 0, none⟩)] w fun e w' => e = .returned (.tuple #[.int .u8 100, .int .i64 0]) ∧ Tx.Cur w' b Tx.S 5 ∧ w.grownBy w' (some b) :=
  Tx.Byte_ok h (by decide) (by decide)
theorem Tx.fx10 (w : World) (b : Nat) (h : Tx.Cur w b Tx.S 5) (ho : Tx.Ok w) : Calls Tryd.prog 6 #[.pointer (some ⟨b, 0, none⟩)] w fun e w' => e = .returned (.tuple #[.int .u8 0, .int .i64 15]) ∧ Below w.heap.size w w' :=
  Tx.Byte_no (Tx.take_end h (by decide) (L := 0) (by decide) 1 (by omega) (by omega)) ho.1
theorem Tx.fx11 (w : World) (d : Nat) (h : Tx.Cur w d ⟨#[99]⟩ 0) : Calls Tryd.prog 14 #[.pointer (some ⟨d, 0, none⟩)] w fun e w' => e = .returned (.int .i64 1) ∧ ∃ n, w' = w.drewN n :=
  Tx.Left_any h (by decide) (L := 1) (by decide)
theorem Tx.fx12 (w : World) : Calls Tryd.prog 18 #[.string ⟨#[0, 255, 97]⟩] w fun e w' => e = .returned (.string ⟨#[48, 48, 102, 102, 54, 49]⟩) ∧ Below w.heap.size w w' := by
  have := Tx.Hex_any ⟨#[0, 255, 97]⟩ w (by decide)
  rw [show Tx.hexL (⟨#[0, 255, 97]⟩ : ByteArray).data.toList = [48, 48, 102, 102, 54, 49] by decide +kernel] at this
  exact this
theorem Tx.fx13 (w : World) (h : Tx.Ok w) : Calls Tryd.prog 19 #[.string ⟨#[192, 128]⟩] w fun e w' => e = .returned (.bool false) ∧ Below w.heap.size w w' := by
  have := Tx.Utf8_any ⟨#[192, 128]⟩ w (by decide) h.2
  rw [show (Tx.runes (⟨#[192, 128]⟩ : ByteArray).data.toList).isSome = false by decide +kernel] at this
  exact this
theorem Tx.fx14 (w : World) : Calls Tryd.prog 20 #[.string ⟨#[97]⟩, .string ⟨#[97]⟩] w fun e w' => e = .returned (.bool true) ∧ w = w' := by
  have := Tx.Same_any ⟨#[97]⟩ ⟨#[97]⟩ w (by decide) (by decide)
  rw [show decide ((⟨#[97]⟩ : ByteArray) = ⟨#[97]⟩) = true by decide +kernel] at this
  exact this
theorem Tx.fx15 (w : World) : Calls Tryd.prog 20 #[.string ⟨#[97]⟩, .string ⟨#[98]⟩] w fun e w' => e = .returned (.bool false) ∧ w = w' := by
  have := Tx.Same_any ⟨#[97]⟩ ⟨#[98]⟩ w (by decide) (by decide)
  rw [show decide ((⟨#[97]⟩ : ByteArray) = ⟨#[98]⟩) = false by decide +kernel] at this
  exact this

set_option maxHeartbeats 8000000 in
set_option maxRecDepth 100000 in
theorem Tx.fixed_any (w : World) (h : Tx.Ok w) : Calls Tryd.prog 5 #[] w fun e w' => e = .returned (.bool true) ∧ Below w.heap.size w w' := by
  have HK := Lib.hid h
  have h3 := h.size
  clear h
  go_enter Tryd.func5, Tryd.ntmps5
  go_wp2_with fail
  refine (Tx.fx1 _ HK.out).mono ?_
  rintro e w1 ⟨rfl, b1⟩
  have HK1 := Lib.hid (HK.out.below b1 h3)
  have z1 := b1.size
  go_wp2_with fail
  refine (Tx.fx2 _ HK1.out).mono ?_
  rintro e w2 ⟨rfl, b2⟩
  have B2 := b1.trans (b2.mono z1)
  have HK2 := Lib.hid (HK.out.below B2 h3)
  have z2 := B2.size
  clear b1 b2 HK1 z1
  go_wp2_with fail
  refine (Tx.fx3 _ HK2.out).mono ?_
  rintro e w3 ⟨g, cap, rfl, hg, hg3, c0, c1, b3⟩
  have B3 := B2.trans (b3.mono z2)
  have HK3 := Lib.hid (HK.out.below B3 h3)
  have z3 := B3.size
  have HC := Lib.hid (And.intro c0 c1)
  clear B2 b3 HK2 c0 c1
  go_wp2_with fail
  refine (Tx.fx4 w3 HK3.out).mono ?_
  rintro e w4 ⟨rfl, b4⟩
  have B4 := B3.trans (b4.mono z3)
  have HK4 := Lib.hid (HK.out.below B4 h3)
  have z4 := B4.size
  have c0 := (b4.cell (p := ⟨g, 0, none⟩) hg3).trans HC.out.1
  have c1 := (b4.cell (p := ⟨g, 1, none⟩) hg3).trans HC.out.2
  have hg4 : g < w4.heap.size := by have := b4.size; omega
  have HC4 := Lib.hid (And.intro c0 c1)
  clear B3 b4 HK3 c0 c1 HC hg3
  go_wp2_with fail
  refine (Tx.Open_any Tx.S w4).mono ?_
  rintro e w5 ⟨rfl, hc5, b5⟩
  have B5 := B4.trans (b5.mono z4)
  have HK5 := Lib.hid (HK.out.below B5 h3)
  have z5 := B5.size
  have c0 := (b5.cell (p := ⟨g, 0, none⟩) hg4).trans HC4.out.1
  have c1 := (b5.cell (p := ⟨g, 1, none⟩) hg4).trans HC4.out.2
  have HC5 := Lib.hid hc5
  obtain ⟨cb, hcb⟩ : ∃ cb, cb = w4.heap.size := ⟨_, rfl⟩
  rw [← hcb] at HC5 ⊢
  have hcw : w.heap.size ≤ cb := by omega
  clear B4 b5 HK4 hc5 HC4 hcb
  go_wp2_with fail
  refine (Tx.fx6 w5 cb HC5.out).mono ?_
  rintro e w6 ⟨rfl, hc6, g6⟩
  have B6 := B5.trans (Tx.below_of_grown g6 hcw z5)
  have HK6 := Lib.hid (HK.out.below B6 h3)
  have z6 := B6.size
  have HC6 := Lib.hid hc6
  clear B5 HK5 HC5 hc6 g6 c0 c1
  go_wp2_with fail
  refine (Tx.fx7 w6 cb HC6.out HK6.out).mono ?_
  rintro e w7 ⟨rfl, b7⟩
  have B7 := B6.trans (b7.mono z6)
  have HK7 := Lib.hid (HK.out.below B7 h3)
  have z7 := B7.size
  have HC7 := Lib.hid (HC6.out.below b7 HC6.out.lt)
  clear B6 HK6 HC6 b7
  go_wp2_with fail
  refine (Tx.fx8 w7 cb HC7.out).mono ?_
  rintro e w8 ⟨d, rfl, hd, hcd, hc8, g8⟩
  have B8 := B7.trans (Tx.below_of_grown g8 hcw z7)
  have HK8 := Lib.hid (HK.out.below B8 h3)
  have z8 := B8.size
  have hne : some d ≠ some cb := by
    have := HC7.out.lt
    intro h; simp at h; omega
  have HD8 := Lib.hid hcd
  have HC8 := Lib.hid hc8
  have HNE := Lib.hid hne
  clear B7 HK7 HC7 hcd hc8 g8 hne
  go_wp2_with fail
  refine (Tx.fx9 w8 cb HC8.out).mono ?_
  rintro e w9 ⟨rfl, hc9, g9⟩
  have B9 := B8.trans (Tx.below_of_grown g9 hcw z8)
  have HK9 := Lib.hid (HK.out.below B9 h3)
  have z9 := B9.size
  have HC9 := Lib.hid hc9
  have HD9 := Lib.hid (HD8.out.grown g9 HNE.out)
  clear B8 HK8 HC8 HD8 hc9 g9
  go_wp2_with fail
  refine (Tx.fx10 w9 cb HC9.out HK9.out).mono ?_
  rintro e w10 ⟨rfl, b10⟩
  have B10 := B9.trans (b10.mono z9)
  have HK10 := Lib.hid (HK.out.below B10 h3)
  have z10 := B10.size
  have HC10 := Lib.hid (HC9.out.below b10 HC9.out.lt)
  have HD10 := Lib.hid (HD9.out.below b10 HD9.out.lt)
  clear B9 HK9 HC9 HD9 b10
  go_wp2_with fail
  refine (Tx.fx11 w10 d HD10.out).mono ?_
  rintro e w11 ⟨rfl, q, hw11⟩
  have b11 : Below w10.heap.size w10 w11 := by rw [hw11]; exact Tx.drewN_below w10 q
  have B11 := B10.trans (b11.mono z10)
  have HK11 := Lib.hid (HK.out.below B11 h3)
  have z11 := B11.size
  have HC11 := Lib.hid (HC10.out.below b11 HC10.out.lt)
  clear B10 HK10 HC10 HD10 b11 hw11
  go_wp2_with fail
  refine (Tx.At_any HC11.out).mono ?_
  rintro e w12 ⟨rfl, rfl⟩
  go_wp2_with fail
  refine (Tx.fx12 w11).mono ?_
  rintro e w13 ⟨rfl, b13⟩
  have B13 := B11.trans (b13.mono z11)
  have HK13 := Lib.hid (HK.out.below B13 h3)
  have z13 := B13.size
  clear B11 HK11 HC11 b13
  go_wp2_with fail
  refine (Tx.fx13 w13 HK13.out).mono ?_
  rintro e w14 ⟨rfl, b14⟩
  have B14 := B13.trans (b14.mono z13)
  clear B13 HK13 b14
  go_wp2_with fail
  refine (Tx.fx14 w14).mono ?_
  rintro e w15 ⟨rfl, rfl⟩
  go_wp2_with fail
  refine (Tx.fx15 w14).mono ?_
  rintro e w15 ⟨rfl, rfl⟩
  go_wp2_with fail
  go_ret
  exact ⟨rfl, B14⟩
end Go.Proofs.YtbemgeicpbcdhaaDoor
