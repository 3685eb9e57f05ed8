/- What the reference reads of base64url is what was written. -/
import Derived.Test.YtglcbpofinbecaaDoorRefH
namespace Go.Proofs.YtglcbpofinbecaaDoor
open Go.RowKit

/-- Six bits, written out. -/
def Tx.six (n : Nat) : List Int := [((n / 32 % 2 : Nat) : Int), ((n / 16 % 2 : Nat) : Int), ((n / 8 % 2 : Nat) : Int), ((n / 4 % 2 : Nat) : Int), ((n / 2 % 2 : Nat) : Int), ((n % 2 : Nat) : Int)]
theorem Tx.rbits_b6 (n : Nat) (h : n < 64) (l : List UInt8) : Tx.rbits Tx.sixtyfour.data.toList 6 (Tx.b6 n :: l) = Tx.six n ++ Tx.rbits Tx.sixtyfour.data.toList 6 l := by
  have := Tx.lbits_eq ⟨n, h⟩
  unfold Tx.six
  rw [← this]
  simp [Tx.rbits, Tx.lbits]
theorem Tx.of_sum {x : Int} {a : UInt8} (h : x = (a.toNat : Int)) : UInt8.ofNat x.toNat = a := by
  subst h; simp
theorem Tx.six3 (a b c : UInt8) : Tx.rbytes (Tx.six (a.toNat / 4) ++ (Tx.six (a.toNat % 4 * 16 + b.toNat / 16) ++ (Tx.six (b.toNat % 16 * 4 + c.toNat / 64) ++ Tx.six (c.toNat % 64)))) 3 = [a, b, c] := by
  have ha := a.toNat_lt
  have hb := b.toNat_lt
  have hc := c.toNat_lt
  rw [show ∀ X : List Int, Tx.rbytes X 3 = [UInt8.ofNat (Tx.bsum X 0 8).toNat, UInt8.ofNat (Tx.bsum X 8 8).toNat, UInt8.ofNat (Tx.bsum X 16 8).toNat] by intro X; simp [Tx.rbytes, List.range_succ]]
  rw [Tx.of_sum (a := a) (by simp [Tx.bsum, Tx.six]; omega), Tx.of_sum (a := b) (by simp [Tx.bsum, Tx.six]; omega), Tx.of_sum (a := c) (by simp [Tx.bsum, Tx.six]; omega)]
theorem Tx.six1 (a : UInt8) : Tx.rbytes (Tx.six (a.toNat / 4) ++ Tx.six (a.toNat % 4 * 16)) 1 = [a] := by
  have ha := a.toNat_lt
  rw [show ∀ X : List Int, Tx.rbytes X 1 = [UInt8.ofNat (Tx.bsum X 0 8).toNat] by intro X; simp [Tx.rbytes, List.range_succ]]
  rw [Tx.of_sum (a := a) (by simp [Tx.bsum, Tx.six]; omega)]
theorem Tx.six2 (a b : UInt8) : Tx.rbytes (Tx.six (a.toNat / 4) ++ (Tx.six (a.toNat % 4 * 16 + b.toNat / 16) ++ Tx.six (b.toNat % 16 * 4))) 2 = [a, b] := by
  have ha := a.toNat_lt
  have hb := b.toNat_lt
  rw [show ∀ X : List Int, Tx.rbytes X 2 = [UInt8.ofNat (Tx.bsum X 0 8).toNat, UInt8.ofNat (Tx.bsum X 8 8).toNat] by intro X; simp [Tx.rbytes, List.range_succ]]
  rw [Tx.of_sum (a := a) (by simp [Tx.bsum, Tx.six]; omega), Tx.of_sum (a := b) (by simp [Tx.bsum, Tx.six]; omega)]
theorem Tx.rread_b64 : ∀ l : List UInt8, Tx.rbytes (Tx.rbits Tx.sixtyfour.data.toList 6 (Tx.b64L l)) l.length = l
  | [] => rfl
  | [a] => by
    have ha := a.toNat_lt
    rw [Tx.b64L, Tx.g1, Tx.rbits_b6 _ (by omega), Tx.rbits_b6 _ (by omega), show Tx.rbits Tx.sixtyfour.data.toList 6 [] = [] from rfl, List.append_nil]
    exact Tx.six1 a
  | [a, b] => by
    have ha := a.toNat_lt
    have hb := b.toNat_lt
    rw [Tx.b64L, Tx.g2, Tx.rbits_b6 _ (by omega), Tx.rbits_b6 _ (by omega), Tx.rbits_b6 _ (by omega), show Tx.rbits Tx.sixtyfour.data.toList 6 [] = [] from rfl, List.append_nil]
    exact Tx.six2 a b
  | a :: b :: c :: r => by
    have ha := a.toNat_lt
    have hb := b.toNat_lt
    have hc := c.toNat_lt
    rw [Tx.b64L, Tx.g3, List.cons_append, List.cons_append, List.cons_append, List.cons_append, List.nil_append, Tx.rbits_b6 _ (by omega), Tx.rbits_b6 _ (by omega), Tx.rbits_b6 _ (by omega), Tx.rbits_b6 _ (by omega)]
    rw [← List.append_assoc (Tx.six (b.toNat % 16 * 4 + c.toNat / 64)), ← List.append_assoc (Tx.six (a.toNat % 4 * 16 + b.toNat / 16)), ← List.append_assoc (Tx.six (a.toNat / 4)),
      show (a :: b :: c :: r).length = 3 + r.length by simp only [List.length_cons]; omega, Tx.rbytes_split _ _ 3 _ (by simp [Tx.six]), Tx.six3, Tx.rread_b64 r]
    rfl
theorem Tx.rsay_b64 (b : ByteArray) : Tx.rsay Tx.sixtyfour 6 (Tx.b64B b) = b.data.toList := by
  unfold Tx.rsay
  rw [show (Tx.b64B b).data.toList = Tx.b64L b.data.toList from rfl, Tx.b64B_size, show 6 * ((4 * b.size + 2) / 3) / 8 = b.data.toList.length by rw [Tx.len]; omega]
  exact Tx.rread_b64 _
end Go.Proofs.YtglcbpofinbecaaDoor
