/- Base64url: Base64. -/
import Derived.Test.YtbemgeicpbcdhaaDoorB64
namespace Go.Proofs.YtbemgeicpbcdhaaDoor
open Go.RowKit

theorem Tx.b64_step3 (l : List UInt8) (k : Nat) (h3 : k % 3 = 0) (h : k + 2 < l.length) : Tx.b64L (l.take (k + 3)) = Tx.b64L (l.take k) ++ Tx.g3 l[k] l[k + 1] l[k + 2] := by
  rw [List.take_succ_eq_append_getElem h, List.take_succ_eq_append_getElem (by omega : k + 1 < l.length), List.take_succ_eq_append_getElem (by omega : k < l.length), List.append_assoc, List.append_assoc, Tx.b64_append3 _ _ (by simp; omega)]
  rfl
theorem Tx.b64_step2 (l : List UInt8) (k : Nat) (h3 : k % 3 = 0) (h : k + 2 = l.length) : Tx.b64L (l.take (k + 3)) = Tx.b64L (l.take k) ++ Tx.g2 l[k] l[k + 1] := by
  have e : l.take (k + 3) = l.take (k + 2) := by rw [List.take_of_length_le (by omega), List.take_of_length_le (by omega)]
  rw [e, List.take_succ_eq_append_getElem (by omega : k + 1 < l.length), List.take_succ_eq_append_getElem (by omega : k < l.length), List.append_assoc, Tx.b64_append3 _ _ (by simp; omega)]
  rfl
theorem Tx.b64_step1 (l : List UInt8) (k : Nat) (h3 : k % 3 = 0) (h : k + 1 = l.length) : Tx.b64L (l.take (k + 3)) = Tx.b64L (l.take k) ++ Tx.g1 l[k] := by
  have e : l.take (k + 3) = l.take (k + 1) := by rw [List.take_of_length_le (by omega), List.take_of_length_le (by omega)]
  rw [e, List.take_succ_eq_append_getElem (by omega : k < l.length), Tx.b64_append3 _ _ (by simp; omega)]
  rfl
theorem Tx.b64_bstep3 (s : ByteArray) (k : Nat) (h3 : k % 3 = 0) (h : k + 2 < s.size) : Tx.b64L (s.data.toList.take (k + 3)) = Tx.b64L (s.data.toList.take k) ++ Tx.g3 s[k] s[k + 1] s[k + 2] :=
  Tx.b64_step3 s.data.toList k h3 (by rw [Tx.len]; exact h)
theorem Tx.b64_bstep2 (s : ByteArray) (k : Nat) (h3 : k % 3 = 0) (h : k + 2 = s.size) : Tx.b64L (s.data.toList.take (k + 3)) = Tx.b64L (s.data.toList.take k) ++ Tx.g2 s[k] s[k + 1] :=
  Tx.b64_step2 s.data.toList k h3 (by rw [Tx.len]; exact h)
theorem Tx.b64_bstep1 (s : ByteArray) (k : Nat) (h3 : k % 3 = 0) (h : k + 1 = s.size) : Tx.b64L (s.data.toList.take (k + 3)) = Tx.b64L (s.data.toList.take k) ++ Tx.g1 s[k] :=
  Tx.b64_step1 s.data.toList k h3 (by rw [Tx.len]; exact h)
theorem Tx.ba_ext {a b : ByteArray} (h : a.data.toList = b.data.toList) : a = b := by
  cases a; cases b; simp only [ByteArray.mk.injEq]; exact Array.toList_inj.1 h
theorem Tx.ext_list (s : ByteArray) (i j : Nat) : (s.extract i j).data.toList = (s.data.toList.drop i).take (j - i) := by
  simp
theorem Tx.ext3 (s : ByteArray) (k : Nat) (h : k + 2 < s.size) : s.extract k (k + 3) = ⟨#[s[k], s[k + 1], s[k + 2]]⟩ := by
  have hl := Tx.len s
  apply Tx.ba_ext
  rw [Tx.ext_list, List.drop_eq_getElem_cons (by omega : k < s.data.toList.length), List.drop_eq_getElem_cons (by omega : k + 1 < s.data.toList.length), List.drop_eq_getElem_cons (by omega : k + 2 < s.data.toList.length), show k + 3 - k = 3 by omega]
  rfl
theorem Tx.ext2 (s : ByteArray) (k : Nat) (h : k + 1 < s.size) : s.extract k (k + 2) = ⟨#[s[k], s[k + 1]]⟩ := by
  have hl := Tx.len s
  apply Tx.ba_ext
  rw [Tx.ext_list, List.drop_eq_getElem_cons (by omega : k < s.data.toList.length), List.drop_eq_getElem_cons (by omega : k + 1 < s.data.toList.length), show k + 2 - k = 2 by omega]
  rfl
theorem Tx.ext1 (s : ByteArray) (k : Nat) (h : k < s.size) : s.extract k (k + 1) = ⟨#[s[k]]⟩ := by
  have hl := Tx.len s
  apply Tx.ba_ext
  rw [Tx.ext_list, List.drop_eq_getElem_cons (by omega : k < s.data.toList.length), show k + 1 - k = 1 by omega]
  rfl

end Go.Proofs.YtbemgeicpbcdhaaDoor
