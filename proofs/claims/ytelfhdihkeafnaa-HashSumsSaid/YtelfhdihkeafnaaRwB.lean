/- Two rows of bytes, apart; append to either. -/
import Derived.Test.YtelfhdihkeafnaaRwA
import Derived.Maps.AppendAt
namespace Go.Proofs.Ytelfhdihkeafnaa
open Go.RowKit

/-- append of some bytes: where the new row lies. -/
theorem Hs.appendB {w : World} {ops : Array Oper} {rest : List Oper} {o : Oper} {a : Act} {Q : Exit → Act → World → Prop} (hgd : o.guard = none) (s x : Operand) (hop : o.op = .call { callee := .builtin .append, args := #[s, x], argTypes := #[50, 50] }) (g : Nat) (v : Value) (l : List UInt8) (hs : a.eval s = v) (hrow : Hs.Row w g v l)
    (ad : Addr) (c : Nat) (bs : List UInt8) (hx : a.eval x = .slice (some ad) bs.length c) (hnew : ∀ j u, (bs.map Tx.bv)[j]? = some u → w.cell? (ad.add j) = some u) (hlen : l.length + bs.length ≤ 140737488355328)
    (hK : ∀ v' w' g', Hs.Row w' g' v' (l ++ bs) → (g' = g ∨ g' = w.heap.size) → Hs.But g w w' → wpList Try.prog ops Q rest (a.put o.dst v') w') : wpList Try.prog ops Q (o :: rest) a w := by
  obtain ⟨i0, hi, hz0, hz1, hz2⟩ := info_parts Tx.info8
  refine wpList_append_own_at w hgd s x 50 hop g 5 i0 (.int .u8 0) 1 1 Try.underlying50 hi hz0 hz1 hz2 rfl (by decide) v l.length (l.map Tx.bv) hs hrow.1 ad bs.length c (bs.map Tx.bv) hx (by simp) hnew (by intro u hu; obtain ⟨b, _, rfl⟩ := List.mem_map.1 hu; rfl) (by unfold maxLen; omega) (by omega) (Nat.le_of_lt hrow.lt) ?_
  intro v' w' h1 h2 _ h4
  have hown : Tx.Own w' g v' (l ++ bs) := by simpa [Tx.Own] using h1
  rw [hrow.2] at h2 h4
  rcases h4 with h4 | h4
  · exact hK v' w' g (Hs.Row.of hown h4) (.inl rfl) (Hs.But.of_grown h2)
  · exact hK v' w' w.heap.size (Hs.Row.of hown h4) (.inr rfl) (Hs.But.of_grown h2)
theorem Hs.keyed_sum (κ : Nat) (hκ : κ < 2) (key : List UInt8) (h : Hs.blk κ < key.length) : Hs.keyed κ (Hs.sum κ key) = Hs.keyed κ key := by
  unfold Hs.keyed
  rw [if_pos h, if_neg (by rw [Hs.sum_length]; have := (Hs.blk_le κ hκ).2; omega)]
theorem Hs.mac_long (κ : Nat) (hκ : κ < 2) (key m : List UInt8) (h : Hs.blk κ < key.length) : Hs.mac κ (Hs.sum κ key) m = Hs.mac κ key m := by
  unfold Hs.mac
  rw [Hs.keyed_sum κ hκ key h]
theorem Hs.mac_noughts (κ : Nat) (key m : List UInt8) (j : Nat) (h : key.length + j ≤ Hs.blk κ) : Hs.mac κ (key ++ List.replicate j 0) m = Hs.mac κ key m := by
  have : Hs.keyed κ (key ++ List.replicate j 0) = Hs.keyed κ key := by
    unfold Hs.keyed
    rw [if_neg (by rw [List.length_append, List.length_replicate]; omega), if_neg (by omega)]
    simp only [List.length_append, List.length_replicate, List.append_assoc, List.replicate_append_replicate]
    congr 2
    omega
  unfold Hs.mac
  rw [this]
namespace lwKeys
/-- Two rows of bytes, apart. -/
structure Two (w : World) (g1 g2 : Nat) (x1 x2 : Value) (A D : List UInt8) (wr : World) : Prop where
  r1 : Hs.Row wr g1 x1 A
  r2 : Hs.Row wr g2 x2 D
  ne : g1 ≠ g2
  l1 : w.heap.size ≤ g1
  l2 : w.heap.size ≤ g2
  B : Below w.heap.size w wr
section
variable {w : World} {g1 g2 : Nat} {x1 x2 : Value} {A D : List UInt8} {wr W : World}
theorem Two.below (h : Two w g1 g2 x1 x2 A D wr) (hb : Below wr.heap.size wr W) : Two w g1 g2 x1 x2 A D W := ⟨h.r1.below hb h.r1.lt, h.r2.below hb h.r2.lt, h.ne, h.l1, h.l2, h.B.trans (hb.mono h.B.size)⟩
theorem Two.one {W1 : World} {A' : List UInt8} {g : Nat} {y : Value} (h0 : Two w g1 g2 x1 x2 A D wr) (hb0 : Below wr.heap.size wr W) (r : Hs.Row W1 g y A') (hg : g = g1 ∨ g = W.heap.size) (hb : Hs.But g1 W W1) : Two w g g2 y x2 A' D W1 := by
  have h := h0.below hb0
  have l2 := h.r2.lt
  refine ⟨r, h.r2.but hb h.ne.symm, ?_, ?_, h.l2, h.B.trans (hb.toBelow h.l1 h.B.size)⟩
  · rcases hg with rfl | rfl
    · exact h.ne
    · omega
  · rcases hg with rfl | rfl
    · exact h.l1
    · exact h.B.size
theorem Two.two {W1 : World} {D' : List UInt8} {g : Nat} {y : Value} (h0 : Two w g1 g2 x1 x2 A D wr) (hb0 : Below wr.heap.size wr W) (r : Hs.Row W1 g y D') (hg : g = g2 ∨ g = W.heap.size) (hb : Hs.But g2 W W1) : Two w g1 g x1 y A D' W1 := by
  have h := h0.below hb0
  have l1 := h.r1.lt
  refine ⟨h.r1.but hb h.ne, r, ?_, h.l1, ?_, h.B.trans (hb.toBelow h.l2 h.B.size)⟩
  · rcases hg with rfl | rfl
    · exact h.ne
    · omega
  · rcases hg with rfl | rfl
    · exact h.l2
    · exact h.B.size
end
end lwKeys
end Go.Proofs.Ytelfhdihkeafnaa
