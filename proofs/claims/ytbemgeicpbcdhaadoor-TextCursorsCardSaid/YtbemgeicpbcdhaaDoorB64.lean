/- Base64url: writeGroup, Base64. -/
import Derived.Test.YtbemgeicpbcdhaaDoorKit
import Derived.Test.YtbemgeicpbcdhaaDoorB64M
import Derived.Laws.BitsAllLaws
namespace Go.Proofs.YtbemgeicpbcdhaaDoor
open Go.RowKit

theorem Tx.or_low (x y k : Nat) (h : x < 2 ^ k) : x ||| y * 2 ^ k = x + y * 2 ^ k := by
  have := Nat.two_pow_add_eq_or_of_lt h y
  rw [Nat.or_comm, Nat.mul_comm y, ← this, Nat.add_comm]
theorem Tx.or32 (x y m : Nat) (k : Nat) (hm : m = 2 ^ k) (h : x < m) (h2 : x + y * m < 4294967296) : bits .or .u32 (x : Int) ((y : Int) * (m : Int)) = (x : Int) + (y : Int) * (m : Int) := by
  subst hm
  have := u32_or_nat x (y * 2 ^ k) (by omega) (by omega)
  rw [Tx.or_low x y k h] at this
  simpa using this
theorem Tx.and63 (n : Nat) (h : n < 4294967296) : bits .and .u32 (n : Int) 63 = ((n % 64 : Nat) : Int) := by
  have := u32_and_nat n 63 h (by omega)
  rw [show (63 : Nat) = 2 ^ 6 - 1 by rfl, Nat.and_two_pow_sub_one_eq_mod] at this
  exact this
theorem Tx.b6_get (i : Nat) (h : i < ({ data := #[65, 66, 67, 68, 69, 70, 71, 72, 73, 74, 75, 76, 77, 78, 79, 80, 81, 82, 83, 84, 85, 86, 87, 88, 89, 90, 97, 98, 99, 100, 101, 102, 103, 104, 105, 106, 107, 108, 109, 110, 111, 112, 113, 114, 115, 116, 117, 118, 119, 120, 121, 122, 48, 49, 50, 51, 52, 53, 54, 55, 56, 57, 45, 95] } : ByteArray).size) : ({ data := #[65, 66, 67, 68, 69, 70, 71, 72, 73, 74, 75, 76, 77, 78, 79, 80, 81, 82, 83, 84, 85, 86, 87, 88, 89, 90, 97, 98, 99, 100, 101, 102, 103, 104, 105, 106, 107, 108, 109, 110, 111, 112, 113, 114, 115, 116, 117, 118, 119, 120, 121, 122, 48, 49, 50, 51, 52, 53, 54, 55, 56, 57, 45, 95] } : ByteArray)[i]'h = Tx.b6 i := by
  have h' : i < Tx.letters.length := h
  show Tx.letters[i] = Tx.letters.getD i 0
  rw [List.getD_eq_getElem?_getD, List.getElem?_eq_getElem h']; rfl

end Go.Proofs.YtbemgeicpbcdhaaDoor
