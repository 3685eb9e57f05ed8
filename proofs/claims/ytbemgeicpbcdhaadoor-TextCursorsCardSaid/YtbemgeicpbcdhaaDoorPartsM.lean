/- TextParts: plain lists: the parts between one byte; append of a text's bytes; what a cursor's step leaves alone. -/
import Derived.Test.YtbemgeicpbcdhaaDoorRefA
import Derived.Test.YtbemgeicpbcdhaaDoorStr
import Derived.Lib.IndexLaws
import Derived.Lib.AppendStr
namespace Go.Proofs.YtbemgeicpbcdhaaDoor
open Go.RowKit

theorem Tx.count_none (l : List UInt8) (c : UInt8) (h : ∀ k : Nat, l[k]? ≠ some c) : l.count c = 0 := by
  refine List.count_eq_zero.2 fun hm => ?_
  obtain ⟨i, hi⟩ := List.mem_iff_getElem?.1 hm
  exact h i hi
theorem Tx.count_cut (l : List UInt8) (c : UInt8) (k : Nat) : l.count c = (l.take k).count c + (l.drop k).count c := by
  rw [← List.count_append, List.take_append_drop]
theorem Tx.count_snoc (l : List UInt8) (c x : UInt8) (k : Nat) (h : l[k]? = some x) : (l.take (k + 1)).count c = (l.take k).count c + if x = c then 1 else 0 := by
  rw [List.take_add_one, h, List.count_append]
  by_cases hx : x = c <;> simp [hx]
theorem Tx.part_next (l : List UInt8) (c : UInt8) (k : Nat) (h : (l.take k).count c < l.count c) : ∃ o : Nat, k + o < l.length ∧ Lib.indexByte (l.drop k) c = (o : Int) ∧ (∀ j, j < o → l[k + j]? ≠ some c) ∧ l[k + o]? = some c ∧ (l.take (k + (o + 1))).count c = (l.take k).count c + 1 := by
  have hge := Lib.indexByte_ge (l.drop k) c
  have hcut := Tx.count_cut l c k
  by_cases hn : Lib.indexByte (l.drop k) c = -1
  · have := Tx.count_none _ _ (Lib.indexByte_none hn)
    omega
  · obtain ⟨o, ho⟩ := Int.eq_ofNat_of_zero_le (by omega : 0 ≤ Lib.indexByte (l.drop k) c)
    obtain ⟨h1, h2⟩ := Lib.indexByte_some ho
    have h1' := h1
    rw [List.getElem?_drop] at h1
    refine ⟨o, (List.getElem?_eq_some_iff.1 h1).1, ho, fun j hj => by have := h2 j hj; rwa [List.getElem?_drop] at this, h1, ?_⟩
    rw [List.take_add, List.count_append, Tx.count_snoc _ c c o h1', if_pos rfl, Tx.count_none ((l.drop k).take o) c (fun j hj => ?_)]
    rw [List.getElem?_take] at hj
    by_cases hjo : j < o
    · rw [if_pos hjo] at hj; exact h2 j hjo hj
    · rw [if_neg hjo] at hj; exact absurd hj (by simp)
theorem Tx.part_none (l : List UInt8) (c : UInt8) (k : Nat) (h : (l.take k).count c = l.count c) : Lib.indexByte (l.drop k) c = -1 := by
  have hge := Lib.indexByte_ge (l.drop k) c
  have hcut := Tx.count_cut l c k
  by_cases hn : Lib.indexByte (l.drop k) c = -1
  · exact hn
  · obtain ⟨o, ho⟩ := Int.eq_ofNat_of_zero_le (by omega : 0 ≤ Lib.indexByte (l.drop k) c)
    have h1 := (Lib.indexByte_some ho).1
    have := List.count_pos_iff.2 (List.mem_of_getElem? h1)
    omega
theorem Tx.ext_get (s : ByteArray) (k o j : Nat) (h : j < o) : (s.extract k (k + o)).data.toList[j]? = s.data.toList[k + j]? := by
  rw [Tx.ext_list, Nat.add_sub_cancel_left, List.getElem?_take, if_pos h, List.getElem?_drop]
theorem Tx.ext_size (s : ByteArray) (k o : Nat) (h : k + o ≤ s.size) : (s.extract k (k + o)).size = o := by
  rw [← Tx.len, Tx.ext_list, List.length_take, List.length_drop, Tx.len]; omega
theorem Tx.take_ext (s : ByteArray) (k o : Nat) : s.data.toList.take k ++ (s.extract k (k + o)).data.toList = s.data.toList.take (k + o) := by
  rw [Tx.ext_list, Nat.add_sub_cancel_left, List.take_add]

theorem Tx.Own.grown {w w' : World} {B b : Nat} {v : Value} {l : List UInt8} (h : Tx.Own w B v l) (hg : w.grownBy w' (some b)) (hb : b < B) : Tx.Own w' B v l := by
  refine ⟨h.1, ?_⟩
  rcases h.2 with hn | ⟨g, cap, cur, rfl, hgB, hgg, rest⟩
  · exact .inl hn
  · refine .inr ⟨g, cap, cur, rfl, hgB, ?_, rest⟩
    rw [hg.block g (Array.getElem?_eq_some_iff.1 hgg).1 (by simp; omega)]
    exact hgg
theorem Tx.Since.of {w0 w : World} (h : Tx.Ok w0) (hb : Below w0.heap.size w0 w) (hs : w0.heap.size ≤ w.heap.size) : Tx.Since w0 w := ⟨h.below hb h.size, hb, hs⟩
theorem Tx.Since.grown {w0 w w' : World} {b : Nat} (hg : w.grownBy w' (some b)) (hb : w0.heap.size ≤ b) (h0 : Tx.Ok w0) (h : Tx.Since w0 w) : Tx.Since w0 w' :=
  Tx.Since.of h0 (h.below.trans (Tx.below_of_grown hg hb h.size)) (Nat.le_trans h.size hg.size)
/-- What lies above B was built by the way. -/
theorem Tx.Since.above {w0 w w' : World} {B : Nat} (hb : Below B w w') (hB : w0.heap.size ≤ B) (hs : B ≤ w'.heap.size) (h0 : Tx.Ok w0) (h : Tx.Since w0 w) : Tx.Since w0 w' :=
  Tx.Since.of h0 (h.below.trans (hb.mono hB)) (Nat.le_trans hB hs)

section
variable {w : World} {ops : Array Oper} {rest : List Oper} {o : Oper} {a : Act} {Q : Exit → Act → World → Prop}
/-- append of a text's bytes to what the call owns. -/
theorem Tx.appendS (hg : o.guard = none) (s x : Operand) (hop : o.op = .call { callee := .builtin .append, args := #[s, x], argTypes := #[38, 9] }) (B : Nat) (v : Value) (l : List UInt8) (hs : a.eval s = v) (hown : Tx.Own w B v l)
    (p : ByteArray) (hx : a.eval x = .string p) (hlen : l.length + p.size ≤ 140737488355328) (hB : B ≤ w.heap.size)
    (hK : ∀ v' w', Tx.Own w' B v' (l ++ p.data.toList) → Below B w w' → B ≤ w'.heap.size → wpList Tryd.prog ops Q rest (a.put o.dst v') w') : wpList Tryd.prog ops Q (o :: rest) a w := by
  obtain ⟨i0, hi, hz0, hz1, hz2⟩ := info_parts Tx.info8
  refine Lib.wpList_append_own_string w hg s x 38 9 hop B 5 i0 Tryd.underlying38 Tryd.underlying9 hi hz0 hz1 hz2 v l.length (l.map Tx.bv) hs hown p hx (by unfold maxLen; omega) hlen hB ?_
  intro v' w' h1 h2 _
  refine hK v' w' ?_ ((Below.refl _ _).grown h2 hB fun k hk => (World.ownsRow.lt hown k hk).1) (Nat.le_trans hB h2.size)
  have e : (l ++ p.data.toList).map Tx.bv = l.map Tx.bv ++ Lib.strCells p := by simp [Lib.strCells, Tx.bv]
  unfold Tx.Own
  rw [e, List.length_append, Tx.len]
  exact h1
end
end Go.Proofs.YtbemgeicpbcdhaaDoor
