/- TextWithin: what stands beside what was built. -/
import Derived.Test.YtbemgeicpbcdhaaDoorPartsM
import Derived.Test.YtbemgeicpbcdhaaDoorCurF
namespace Go.Proofs.YtbemgeicpbcdhaaDoor
open Go.RowKit

theorem Tx.Own.ne {w : World} {B d : Nat} {v : Value} {l : List UInt8} (h : Tx.Own w B v l) (hd : w.heap.size ≤ d) : v.ownBlock ≠ some d := by
  rcases h.2 with ⟨rfl, _⟩ | ⟨g, cap, cur, rfl, hgB, hgg, rest⟩
  · simp [Value.ownBlock]
  · have := (Array.getElem?_eq_some_iff.1 hgg).1
    simp [Value.ownBlock]; omega
theorem Tx.Own.grownX {w w' : World} {B d : Nat} {v : Value} {l : List UInt8} (h : Tx.Own w B v l) (hg : w.grownBy w' (some d)) (hd : v.ownBlock ≠ some d) : Tx.Own w' B v l := by
  refine ⟨h.1, ?_⟩
  rcases h.2 with hn | ⟨g, cap, cur, rfl, hgB, hgg, rest⟩
  · exact .inl hn
  · refine .inr ⟨g, cap, cur, rfl, hgB, ?_, rest⟩
    rw [hg.block g (Array.getElem?_eq_some_iff.1 hgg).1 (by simpa [Value.ownBlock] using hd)]
    exact hgg
theorem Tx.Own.len {w : World} {B : Nat} {v : Value} {l : List UInt8} (h : Tx.Own w B v l) : ∃ g cap, v = .slice g l.length cap := h.size
section
variable {w : World} {ops : Array Oper} {rest : List Oper} {o : Oper} {a : Act} {Q : Exit → Act → World → Prop}
/-- append, a block d being apart. -/
theorem Tx.appendX (hg : o.guard = none) (s x : Operand) (hop : o.op = .call { callee := .builtin .append, args := #[s, x], argTypes := #[38, 38] }) (B d : Nat) (v : Value) (l : List UInt8) (hs : a.eval s = v) (hown : Tx.Own w B v l) (hd : v.ownBlock ≠ some d) (hdl : d < w.heap.size)
    (ad : Addr) (c : Nat) (bs : List UInt8) (hx : a.eval x = .slice (some ad) bs.length c) (hnew : ∀ j u, (bs.map Tx.bv)[j]? = some u → w.cell? (ad.add j) = some u) (hp : 0 < bs.length) (hlen : l.length + bs.length ≤ 140737488355328) (hB : B ≤ w.heap.size)
    (hK : ∀ v' w', Tx.Own w' B v' (l ++ bs) → v'.ownBlock ≠ some d → w.grownBy w' v.ownBlock → Below B w w' → B ≤ w'.heap.size → wpList Tryd.prog ops Q rest (a.put o.dst v') w') : wpList Tryd.prog ops Q (o :: rest) a w := by
  obtain ⟨i0, hi, hz0, hz1, hz2⟩ := info_parts Tx.info8
  refine wpList_append_lies w hg s x 38 hop B 5 i0 (.int .u8 0) 1 1 Tryd.underlying38 hi hz0 hz1 hz2 rfl (by decide) v l.length (l.map Tx.bv) hs hown ad bs.length c (bs.map Tx.bv) hx (by simp) hnew (by intro u hu; obtain ⟨b, _, rfl⟩ := List.mem_map.1 hu; rfl) hp (by unfold maxLen; omega) (by omega) hB w.heap.size rfl ?_
  intro g cap w' h1 h2 h3 _
  refine hK _ w' ?_ ?_ h2 ((Below.refl _ _).grown h2 hB fun k hk => (World.ownsRow.lt hown k hk).1) (Nat.le_trans hB h2.size)
  · simpa [Tx.Own] using h1
  · rcases h3 with h3 | h3
    · rw [h3] at hd; simpa [Value.ownBlock] using hd
    · rw [h3]; simp [Value.ownBlock]; omega
end
/-- The length of a slice's value. -/
def Tx.lenV (v : Value) : Nat := match v with | .slice _ n _ => n | _ => 0
/-- The ints of a slice, wherever it lies. -/
structure Tx.IntsAt (w : World) (a : Option Addr) (n : Nat) (l : List Int) : Prop where
  mk ::
  out : n = 0 ∨ ∃ pb off, a = some ⟨pb, off, none⟩ ∧ ∀ W, Tx.Since w W → ∀ j, j < n → W.cell? ⟨pb, off + j, none⟩ = some (.int .i64 (l.getD j 0))
theorem Tx.Ints.at {w : World} {v : Value} {l : List Int} (h : Tx.Ints w w.heap.size v l) : ∃ a c, v = .slice a l.length c ∧ Tx.IntsAt w a l.length l := by
  rcases h with ⟨rfl, rfl⟩ | ⟨b, off, cap, rfl, h2, h2', h3, h4⟩
  · exact ⟨none, 0, rfl, ⟨.inl rfl⟩⟩
  · exact ⟨_, cap, rfl, ⟨.inr ⟨b, off, rfl, fun W S j hj => (S.below.cell (p := ⟨b, off + j, none⟩) h3).trans (h4 j hj)⟩⟩⟩
theorem Tx.At_q {b : Nat} {s : ByteArray} {k : Nat} {w : World} (h : Tx.Cur w b s k) : Calls Tryd.prog 13 #[.pointer (some ⟨b, 0, none⟩)] w fun e w' => e = .returned (.int .i64 (k : Int)) ∧ w' = w := (Tx.At_any h).mono fun _ _ h => ⟨h.1, h.2.symm⟩
end Go.Proofs.YtbemgeicpbcdhaaDoor
