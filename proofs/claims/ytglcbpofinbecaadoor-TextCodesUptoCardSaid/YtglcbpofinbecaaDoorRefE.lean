/- The reference's FromHex. -/
import Derived.Test.YtglcbpofinbecaaDoorRefD
import Derived.Test.YtglcbpofinbecaaDoorStr
namespace Go.Proofs.YtglcbpofinbecaaDoor
open Go.RowKit

def Tx.sixteen : ByteArray := ⟨#[48, 49, 50, 51, 52, 53, 54, 55, 56, 57, 97, 98, 99, 100, 101, 102]⟩
/-- The whole bytes that digits say. -/
def Tx.rsay (al : ByteArray) (wide : Nat) (s : ByteArray) : List UInt8 := Tx.rbytes (Tx.rbits al.data.toList wide s.data.toList) ((wide * s.size) / 8)
theorem Tx.rsay_length (al : ByteArray) (wide : Nat) (s : ByteArray) : (Tx.rsay al wide s).length = (wide * s.size) / 8 := Tx.rbytes_length _ _

set_option maxHeartbeats 4000000 in
set_option maxRecDepth 100000 in
theorem Tx.RFromHex_any (s : ByteArray) (w : World) (hs : s.size ≤ 1099511627776) :
    Calls Tryd.prog 13 #[.string s] w fun e w' =>
      (((∀ c ∈ s.data.toList, 0 ≤ Lib.indexByte Tx.sixteen.data.toList c) ∧ Tx.hexB (Tx.ba (Tx.rsay Tx.sixteen 4 s)) = s ∧ e = .returned (.tuple #[.string (Tx.ba (Tx.rsay Tx.sixteen 4 s)), .int .i64 0])) ∨
       (((∃ c ∈ s.data.toList, Lib.indexByte Tx.sixteen.data.toList c < 0) ∨ Tx.hexB (Tx.ba (Tx.rsay Tx.sixteen 4 s)) ≠ s) ∧ e = .returned (.tuple #[.string ⟨#[]⟩, .int .i64 10]))) ∧ Below w.heap.size w w' := by
  have cr := Tx.read_any s Tx.sixteen 4 w hs (by decide) (by decide) (by decide)
  have hl := Tx.rsay_length Tx.sixteen 4 s
  have ch := fun w => Tx.RHex_any (Tx.ba (Tx.rsay Tx.sixteen 4 s)) w (by rw [Tx.ba_size, hl]; omega)
  rw [show Tx.ba (Tx.hexL (Tx.ba (Tx.rsay Tx.sixteen 4 s)).data.toList) = Tx.hexB (Tx.ba (Tx.rsay Tx.sixteen 4 s)) from rfl] at ch
  rw [show Tx.rbytes (Tx.rbits Tx.sixteen.data.toList 4 s.data.toList) ((4 * s.size) / 8) = Tx.rsay Tx.sixteen 4 s from rfl] at cr
  unfold Tx.sixteen at *
  generalize Tx.ba (Tx.rsay _ 4 s) = b at *
  have CR := Lib.hid cr
  have CH := Lib.hid ch
  clear cr ch hl
  go_enter Tryd.func13, Tryd.ntmps13
  go_wp2_with fail
  refine CR.out.mono ?_
  rintro e w1 ⟨⟨hbad, rfl⟩ | ⟨hall, rfl⟩, b1⟩
  · have HB := Lib.hid hbad
    clear hbad
    go_wp2_with fail
    go_ret2
    exact ⟨.inr ⟨.inl HB.out, rfl⟩, b1⟩
  · have HA := Lib.hid hall
    clear hall
    by_cases he : Tx.hexB b = s
    · have HE := Lib.hid he
      have ch2 := CH.out
      rw [he] at ch2
      have CH2 := Lib.hid ch2
      clear ch2 he
      go_wp2_with fail
      refine (CH2.out w1).mono ?_
      rintro e w2 ⟨rfl, b2⟩
      go_wp2_with fail
      go_ret2
      exact ⟨.inl ⟨HA.out, HE.out, rfl⟩, b1.trans (b2.mono b1.size)⟩
    · have HE := Lib.hid he
      have t1 : ((Tx.hexB b).toList == s.toList) = false := by rw [Tx.eq_toList]; exact decide_eq_false he
      obtain ⟨x, hx⟩ : ∃ x, Tx.hexB b = x := ⟨_, rfl⟩
      have ch2 := CH.out
      rw [hx] at ch2 t1
      have CH2 := Lib.hid ch2
      clear he hx ch2
      go_wp2_with fail
      refine (CH2.out w1).mono ?_
      rintro e w2 ⟨rfl, b2⟩
      go_wp2_with fail
      go_ret2
      exact ⟨.inr ⟨.inr HE.out, rfl⟩, b1.trans (b2.mono b1.size)⟩
end Go.Proofs.YtglcbpofinbecaaDoor
