/- What the reference reads of base sixteen is what was written. -/
import Derived.Test.YtglcbpofinbecaaDoorRefF
namespace Go.Proofs.YtglcbpofinbecaaDoor
open Go.RowKit

theorem Tx.bsum_congr {a b : List Int} {k l : Nat} : ∀ n : Nat, (∀ j : Nat, j < n → a.getD (k + j) 0 = b.getD (l + j) 0) → Tx.bsum a k n = Tx.bsum b l n
  | 0, _ => rfl
  | n + 1, h => by
    show 2 * Tx.bsum a k n + a.getD (k + n) 0 = 2 * Tx.bsum b l n + b.getD (l + n) 0
    rw [Tx.bsum_congr n (fun j hj => h j (by omega)), h n (by omega)]
theorem Tx.getD_flat (f : UInt8 → List Int) (hf : ∀ c, (f c).length = 8) : ∀ (cs : List UInt8) (i j : Nat) (c : UInt8), cs[i]? = some c → j < 8 → (cs.flatMap f).getD (8 * i + j) 0 = (f c).getD (0 + j) 0
  | [], i, j, c, h, _ => by simp at h
  | b :: cs, 0, j, c, h, hj => by
    obtain rfl : b = c := by simpa using h
    rw [List.flatMap_cons, List.getD_eq_getElem?_getD, List.getD_eq_getElem?_getD, List.getElem?_append_left (by rw [hf]; omega), show 8 * 0 + j = 0 + j by omega]
  | b :: cs, i + 1, j, c, h, hj => by
    rw [List.flatMap_cons, List.getD_eq_getElem?_getD, List.getElem?_append_right (by rw [hf]; omega), hf, show 8 * (i + 1) + j - 8 = 8 * i + j by omega, ← List.getD_eq_getElem?_getD]
    exact Tx.getD_flat f hf cs i j c (by simpa using h) hj
theorem Tx.rbytes_flat (f : UInt8 → List Int) (hf : ∀ c, (f c).length = 8) (hs : ∀ c, Tx.bsum (f c) 0 8 = (c.toNat : Int)) (cs : List UInt8) : Tx.rbytes (cs.flatMap f) cs.length = cs := by
  apply List.ext_getElem?
  intro i
  by_cases hi : i < cs.length
  · have hc : cs[i]? = some cs[i] := List.getElem?_eq_getElem hi
    rw [hc]
    unfold Tx.rbytes
    rw [List.getElem?_map, List.getElem?_range hi]
    show some (UInt8.ofNat (Tx.bsum (cs.flatMap f) (8 * i) 8).toNat) = _
    rw [Tx.bsum_congr (b := f cs[i]) (l := 0) 8 (fun j hj => Tx.getD_flat f hf cs i j _ hc hj), hs]
    simp
  · rw [List.getElem?_eq_none (by rw [Tx.rbytes_length]; omega), List.getElem?_eq_none (by omega)]

/-- The eight bits that the two digits of a byte say. -/
def Tx.hbits (c : UInt8) : List Int := Tx.dbits 4 (Lib.indexByte Tx.sixteen.data.toList (Tx.hd (c.toNat / 16))).toNat 4 ++ Tx.dbits 4 (Lib.indexByte Tx.sixteen.data.toList (Tx.hd (c.toNat % 16))).toNat 4
theorem Tx.hbits_length (c : UInt8) : (Tx.hbits c).length = 8 := by unfold Tx.hbits; rw [List.length_append, Tx.dbits_length, Tx.dbits_length]
set_option maxRecDepth 100000 in
theorem Tx.hbits_sum' : ∀ c : Fin 256, Tx.bsum (Tx.hbits (UInt8.ofNat c.val)) 0 8 = ((c.val : Nat) : Int) := by decide +kernel
theorem Tx.hbits_sum (c : UInt8) : Tx.bsum (Tx.hbits c) 0 8 = (c.toNat : Int) := by
  have := Tx.hbits_sum' ⟨c.toNat, c.toNat_lt⟩
  simpa using this
theorem Tx.rbits_hex : ∀ cs : List UInt8, Tx.rbits Tx.sixteen.data.toList 4 (Tx.hexL cs) = cs.flatMap Tx.hbits
  | [] => rfl
  | c :: cs => by
    rw [List.flatMap_cons, ← Tx.rbits_hex cs]
    simp [Tx.rbits, Tx.hexL, Tx.hbits]
theorem Tx.rsay_hex (b : ByteArray) : Tx.rsay Tx.sixteen 4 (Tx.hexB b) = b.data.toList := by
  unfold Tx.rsay
  rw [show (Tx.hexB b).data.toList = Tx.hexL b.data.toList from rfl, Tx.rbits_hex, Tx.hexB_size, show 4 * (2 * b.size) / 8 = b.data.toList.length by rw [Tx.len]; omega]
  exact Tx.rbytes_flat Tx.hbits Tx.hbits_length Tx.hbits_sum _
end Go.Proofs.YtglcbpofinbecaaDoor
