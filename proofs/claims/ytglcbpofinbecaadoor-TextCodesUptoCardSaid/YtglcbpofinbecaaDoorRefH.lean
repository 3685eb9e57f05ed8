/- The reference's base64url is the program's. -/
import Derived.Test.YtglcbpofinbecaaDoorRefG
namespace Go.Proofs.YtglcbpofinbecaaDoor
open Go.RowKit

theorem Tx.bitN_shift (a b c : UInt8) (r : List UInt8) (k : Nat) : Tx.bitN (a :: b :: c :: r) (24 + k) = Tx.bitN r k := by
  unfold Tx.bitN
  rw [show (24 + k) / 8 = k / 8 + 1 + 1 + 1 by omega, show (24 + k) % 8 = k % 8 by omega]
  simp only [List.getElem?_cons_succ]
theorem Tx.bitsN_shift (a b c : UInt8) (r : List UInt8) (k : Nat) : ∀ j, Tx.bitsN (a :: b :: c :: r) (24 + k) j = Tx.bitsN r k j
  | 0 => rfl
  | j + 1 => by
    show 2 * Tx.bitsN (a :: b :: c :: r) (24 + k) j + Tx.bitN (a :: b :: c :: r) (24 + k + j) = 2 * Tx.bitsN r k j + Tx.bitN r (k + j)
    rw [Tx.bitsN_shift a b c r k j, Nat.add_assoc, Tx.bitN_shift]
theorem Tx.rb64_cons (a b c : UInt8) (r : List UInt8) (m : Nat) : Tx.rb64 (a :: b :: c :: r) (m + 4) =
    [Tx.b6 (Tx.bitsN (a :: b :: c :: r) 0 6), Tx.b6 (Tx.bitsN (a :: b :: c :: r) 6 6), Tx.b6 (Tx.bitsN (a :: b :: c :: r) 12 6), Tx.b6 (Tx.bitsN (a :: b :: c :: r) 18 6)] ++ Tx.rb64 r m := by
  induction m with
  | zero => simp [Tx.rb64, List.range_succ]
  | succ m ih =>
    rw [show m + 1 + 4 = (m + 4) + 1 by omega, Tx.rb64_snoc, ih, Tx.rb64_snoc, List.append_assoc, show 6 * (m + 4) = 24 + 6 * m by omega, Tx.bitsN_shift]
theorem Tx.bits3 (a b c : UInt8) (r : List UInt8) : Tx.bitsN (a :: b :: c :: r) 0 6 = a.toNat / 4 ∧ Tx.bitsN (a :: b :: c :: r) 6 6 = a.toNat % 4 * 16 + b.toNat / 16 ∧
    Tx.bitsN (a :: b :: c :: r) 12 6 = b.toNat % 16 * 4 + c.toNat / 64 ∧ Tx.bitsN (a :: b :: c :: r) 18 6 = c.toNat % 64 := by
  have ha := a.toNat_lt
  have hb := b.toNat_lt
  have hc := c.toNat_lt
  simp only [Tx.bitsN, Tx.bitN]
  simp
  refine ⟨by omega, by omega, by omega, by omega⟩
theorem Tx.bits1 (a : UInt8) : Tx.bitsN [a] 0 6 = a.toNat / 4 ∧ Tx.bitsN [a] 6 6 = a.toNat % 4 * 16 := by
  have ha := a.toNat_lt
  simp only [Tx.bitsN, Tx.bitN]
  simp
  refine ⟨by omega, by omega⟩
theorem Tx.bits2 (a b : UInt8) : Tx.bitsN [a, b] 0 6 = a.toNat / 4 ∧ Tx.bitsN [a, b] 6 6 = a.toNat % 4 * 16 + b.toNat / 16 ∧ Tx.bitsN [a, b] 12 6 = b.toNat % 16 * 4 := by
  have ha := a.toNat_lt
  have hb := b.toNat_lt
  simp only [Tx.bitsN, Tx.bitN]
  simp
  refine ⟨by omega, by omega, by omega⟩
theorem Tx.rb64_eq : ∀ l : List UInt8, Tx.rb64 l ((8 * l.length + 5) / 6) = Tx.b64L l
  | [] => rfl
  | [a] => by
    obtain ⟨h1, h2⟩ := Tx.bits1 a
    have e : Tx.rb64 [a] 2 = [Tx.b6 (Tx.bitsN [a] 0 6), Tx.b6 (Tx.bitsN [a] 6 6)] := by simp [Tx.rb64, List.range_succ]
    rw [show (8 * [a].length + 5) / 6 = 2 by simp, e, h1, h2, Tx.b64L, Tx.g1]
  | [a, b] => by
    obtain ⟨h1, h2, h3⟩ := Tx.bits2 a b
    have e : Tx.rb64 [a, b] 3 = [Tx.b6 (Tx.bitsN [a, b] 0 6), Tx.b6 (Tx.bitsN [a, b] 6 6), Tx.b6 (Tx.bitsN [a, b] 12 6)] := by simp [Tx.rb64, List.range_succ]
    rw [show (8 * [a, b].length + 5) / 6 = 3 by simp, e, h1, h2, h3, Tx.b64L, Tx.g2]
  | a :: b :: c :: r => by
    obtain ⟨h1, h2, h3, h4⟩ := Tx.bits3 a b c r
    rw [show (8 * (a :: b :: c :: r).length + 5) / 6 = (8 * r.length + 5) / 6 + 4 by simp only [List.length_cons]; omega, Tx.rb64_cons, Tx.rb64_eq r, h1, h2, h3, h4]
    rfl
theorem Tx.rb64B_eq (b : ByteArray) : Tx.rb64B b = Tx.b64B b := by
  unfold Tx.rb64B Tx.b64B
  rw [← Tx.rb64_eq, Tx.len]

/-- The bits of a letter. -/
def Tx.lbits (n : Nat) : List Int := Tx.dbits 6 (Lib.indexByte Tx.sixtyfour.data.toList (Tx.b6 n)).toNat 6
theorem Tx.lbits_eq : ∀ n : Fin 64, Tx.lbits n.val = [((n.val / 32 % 2 : Nat) : Int), ((n.val / 16 % 2 : Nat) : Int), ((n.val / 8 % 2 : Nat) : Int), ((n.val / 4 % 2 : Nat) : Int), ((n.val / 2 % 2 : Nat) : Int), ((n.val % 2 : Nat) : Int)] := by decide +kernel
theorem Tx.rbytes_split (X Y : List Int) (m n : Nat) (h : X.length = 8 * m) : Tx.rbytes (X ++ Y) (m + n) = Tx.rbytes X m ++ Tx.rbytes Y n := by
  unfold Tx.rbytes
  rw [List.range_add, List.map_append, List.map_map]
  congr 1
  · apply List.map_congr_left
    intro i hi
    have hi := List.mem_range.1 hi
    rw [Tx.bsum_congr (b := X) (l := 8 * i) 8 (fun j hj => by
      rw [List.getD_eq_getElem?_getD, List.getElem?_append_left (by omega), ← List.getD_eq_getElem?_getD])]
  · apply List.map_congr_left
    intro i _
    show UInt8.ofNat (Tx.bsum (X ++ Y) (8 * (m + i)) 8).toNat = _
    rw [Tx.bsum_congr (b := Y) (l := 8 * i) 8 (fun j hj => by
      rw [List.getD_eq_getElem?_getD, List.getElem?_append_right (by omega), show 8 * (m + i) + j - X.length = 8 * i + j by omega, ← List.getD_eq_getElem?_getD])]
end Go.Proofs.YtglcbpofinbecaaDoor
