/- The reference's FromBase64. -/
import Derived.Test.YtglcbpofinbecaaDoorRefE
namespace Go.Proofs.YtglcbpofinbecaaDoor
open Go.RowKit

def Tx.sixtyfour : ByteArray := ⟨#[65, 66, 67, 68, 69, 70, 71, 72, 73, 74, 75, 76, 77, 78, 79, 80, 81, 82, 83, 84, 85, 86, 87, 88, 89, 90, 97, 98, 99, 100, 101, 102, 103, 104, 105, 106, 107, 108, 109, 110, 111, 112, 113, 114, 115, 116, 117, 118, 119, 120, 121, 122, 48, 49, 50, 51, 52, 53, 54, 55, 56, 57, 45, 95]⟩
/-- What the reference's Base64 writes. -/
def Tx.rb64B (b : ByteArray) : ByteArray := Tx.ba (Tx.rb64 b.data.toList ((8 * b.size + 5) / 6))

set_option maxHeartbeats 4000000 in
set_option maxRecDepth 100000 in
theorem Tx.RFromBase64_any (s : ByteArray) (w : World) (hs : s.size ≤ 1099511627776) :
    Calls Tryd.prog 15 #[.string s] w fun e w' =>
      (((∀ c ∈ s.data.toList, 0 ≤ Lib.indexByte Tx.sixtyfour.data.toList c) ∧ Tx.rb64B (Tx.ba (Tx.rsay Tx.sixtyfour 6 s)) = s ∧ e = .returned (.tuple #[.string (Tx.ba (Tx.rsay Tx.sixtyfour 6 s)), .int .i64 0])) ∨
       (((∃ c ∈ s.data.toList, Lib.indexByte Tx.sixtyfour.data.toList c < 0) ∨ Tx.rb64B (Tx.ba (Tx.rsay Tx.sixtyfour 6 s)) ≠ s) ∧ e = .returned (.tuple #[.string ⟨#[]⟩, .int .i64 11]))) ∧ Below w.heap.size w w' := by
  have cr := Tx.read_any s Tx.sixtyfour 6 w hs (by decide) (by decide) (by decide)
  have hl := Tx.rsay_length Tx.sixtyfour 6 s
  have ch := fun w => Tx.RBase64_any (Tx.ba (Tx.rsay Tx.sixtyfour 6 s)) w (by rw [Tx.ba_size, hl]; omega)
  rw [show Tx.ba (Tx.rb64 (Tx.ba (Tx.rsay Tx.sixtyfour 6 s)).data.toList ((8 * (Tx.ba (Tx.rsay Tx.sixtyfour 6 s)).size + 5) / 6)) = Tx.rb64B (Tx.ba (Tx.rsay Tx.sixtyfour 6 s)) from rfl] at ch
  rw [show Tx.rbytes (Tx.rbits Tx.sixtyfour.data.toList 6 s.data.toList) ((6 * s.size) / 8) = Tx.rsay Tx.sixtyfour 6 s from rfl] at cr
  unfold Tx.sixtyfour at *
  generalize Tx.ba (Tx.rsay _ 6 s) = b at *
  have CR := Lib.hid cr
  have CH := Lib.hid ch
  clear cr ch hl
  go_enter Tryd.func15, Tryd.ntmps15
  go_wp2_with fail
  refine CR.out.mono ?_
  rintro e w1 ⟨⟨hbad, rfl⟩ | ⟨hall, rfl⟩, b1⟩
  · have HB := Lib.hid hbad
    clear hbad
    go_wp2_with fail
    go_ret2
    exact ⟨.inr ⟨.inl HB.out, rfl⟩, b1⟩
  · have HA := Lib.hid hall
    clear hall
    by_cases he : Tx.rb64B b = s
    · have HE := Lib.hid he
      have ch2 := CH.out
      rw [he] at ch2
      have CH2 := Lib.hid ch2
      clear ch2 he
      go_wp2_with fail
      refine (CH2.out w1).mono ?_
      rintro e w2 ⟨rfl, b2⟩
      go_wp2_with fail
      go_ret2
      exact ⟨.inl ⟨HA.out, HE.out, rfl⟩, b1.trans (b2.mono b1.size)⟩
    · have HE := Lib.hid he
      have t1 : ((Tx.rb64B b).toList == s.toList) = false := by rw [Tx.eq_toList]; exact decide_eq_false he
      obtain ⟨x, hx⟩ : ∃ x, Tx.rb64B b = x := ⟨_, rfl⟩
      have ch2 := CH.out
      rw [hx] at ch2 t1
      have CH2 := Lib.hid ch2
      clear he hx ch2
      go_wp2_with fail
      refine (CH2.out w1).mono ?_
      rintro e w2 ⟨rfl, b2⟩
      go_wp2_with fail
      go_ret2
      exact ⟨.inr ⟨.inr HE.out, rfl⟩, b1.trans (b2.mono b1.size)⟩
end Go.Proofs.YtglcbpofinbecaaDoor
