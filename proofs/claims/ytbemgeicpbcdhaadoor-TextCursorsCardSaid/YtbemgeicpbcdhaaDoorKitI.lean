/- Slices of ints: read ones, and those that a call owns. -/
import Derived.Test.YtbemgeicpbcdhaaDoorKit
namespace Go.Proofs.YtbemgeicpbcdhaaDoor
open Go.RowKit

def Tx.iv (z : Int) : Value := .int .i64 z
/-- Slice value v holds the ints l in a row of the call's own, from block B on. -/
def Tx.OwnI (w : World) (B : Nat) (v : Value) (l : List Int) : Prop := w.ownsRow B 3 1 v l.length (l.map Tx.iv)
theorem Tx.infoI : (Tryd.prog.info? 3).map (fun i => (i.zero, i.size, i.bytes)) = some (some (.int .i64 0), 1, 8) := by kernel_rfl
theorem Tx.OwnI.nil (w : World) (B : Nat) : Tx.OwnI w B (.slice none 0 0) [] := World.ownsRow_nil w B _ _
theorem Tx.OwnI.below {w w' : World} {B B' : Nat} {v : Value} {l : List Int} (h : Tx.OwnI w B v l) (hb : Below B' w w') (hB : w.heap.size ≤ B') : Tx.OwnI w' B v l := by
  refine ⟨h.1, ?_⟩
  rcases h.2 with hn | ⟨g, cap, cur, rfl, hg, hgg, rest⟩
  · exact .inl hn
  · refine .inr ⟨g, cap, cur, rfl, hg, ?_, rest⟩
    rw [hb.block g (Nat.lt_of_lt_of_le (Array.getElem?_eq_some_iff.1 hgg).1 hB)]
    exact hgg
theorem Tx.OwnI.drew {w : World} {B : Nat} {v : Value} {l : List Int} (h : Tx.OwnI w B v l) : Tx.OwnI w.drew B v l := h
theorem Tx.OwnI.drewN {w : World} {B : Nat} {v : Value} {l : List Int} (h : Tx.OwnI w B v l) : ∀ n, Tx.OwnI (w.drewN n) B v l
  | 0 => h
  | n + 1 => (Tx.OwnI.drewN h n).drew
theorem Tx.OwnI.alloc {w : World} {B : Nat} {v : Value} {l : List Int} (h : Tx.OwnI w B v l) (o : Obj) : Tx.OwnI (w.alloc o) B v l := World.ownsRow.alloc h o
theorem Tx.OwnI.mono {w : World} {B B' : Nat} {v : Value} {l : List Int} (h : Tx.OwnI w B v l) (hB : B' ≤ B) : Tx.OwnI w B' v l := by
  refine ⟨h.1, ?_⟩
  rcases h.2 with hn | ⟨g, cap, cur, rfl, hg, rest⟩
  · exact .inl hn
  · exact .inr ⟨g, cap, cur, rfl, Nat.le_trans hB hg, rest⟩

/-- Slice value v reads as the ints zs, its block below B. -/
def Tx.Ints (w : World) (B : Nat) (v : Value) (zs : List Int) : Prop :=
  (v = .slice none 0 0 ∧ zs = []) ∨ ∃ b off cap, v = .slice (some ⟨b, off, none⟩) zs.length cap ∧ zs.length ≤ cap ∧ cap ≤ 9223372036854775807 ∧ b < B ∧ ∀ j, j < zs.length → w.cell? ⟨b, off + j, none⟩ = some (.int .i64 (zs.getD j 0))
theorem Tx.Ints.below {w w' : World} {B B' : Nat} {v : Value} {zs : List Int} (h : Tx.Ints w B v zs) (hb : Below B' w w') (hB : B ≤ B') : Tx.Ints w' B v zs := by
  rcases h with h | ⟨b, off, cap, h1, h2, h2', h3, h4⟩
  · exact .inl h
  · exact .inr ⟨b, off, cap, h1, h2, h2', h3, fun j hj => (hb.cell (p := ⟨b, off + j, none⟩) (by simp; omega)).trans (h4 j hj)⟩
theorem Tx.Ints.mono {w : World} {B B' : Nat} {v : Value} {zs : List Int} (h : Tx.Ints w B v zs) (hB : B ≤ B') : Tx.Ints w B' v zs := by
  rcases h with h | ⟨b, off, cap, h1, h2, h2', h3, h4⟩
  · exact .inl h
  · exact .inr ⟨b, off, cap, h1, h2, h2', by omega, h4⟩
theorem Tx.OwnI.ints {w : World} {B : Nat} {v : Value} {l : List Int} (h : Tx.OwnI w B v l) : Tx.Ints w w.heap.size v l := by
  rcases h.2 with ⟨hv, hn⟩ | ⟨g, cap, cur, hv, hg, hgg, hc, hm, hs, ht⟩
  · exact .inl ⟨hv, List.length_eq_zero_iff.1 hn⟩
  · refine .inr ⟨g, 0, cap, hv, hc, by unfold maxLen at hm; omega, (Array.getElem?_eq_some_iff.1 hgg).1, fun j hj => ?_⟩
    have e := congrArg (·[j]?) ht
    simp only [List.getElem?_take, List.getElem?_map] at e
    rw [if_pos (by omega), List.getElem?_eq_getElem hj] at e
    simp only [Array.getElem?_toList, Option.map_some] at e
    simp [World.cell?, hgg, e, Tx.iv, List.getD_eq_getElem?_getD, List.getElem?_eq_getElem hj]

section
variable {w : World} {ops : Array Oper} {rest : List Oper} {o : Oper} {a : Act} {Q : Exit → Act → World → Prop}
/-- append of some ints to what the call owns. -/
theorem Tx.appendI (hg : o.guard = none) (s x : Operand) (hop : o.op = .call { callee := .builtin .append, args := #[s, x], argTypes := #[48, 48] }) (B : Nat) (v : Value) (l : List Int) (hs : a.eval s = v) (hown : Tx.OwnI w B v l)
    (ad : Addr) (c : Nat) (bs : List Int) (hx : a.eval x = .slice (some ad) bs.length c) (hnew : ∀ j u, (bs.map Tx.iv)[j]? = some u → w.cell? (ad.add j) = some u) (hlen : l.length + bs.length ≤ 17592186044416) (hB : B ≤ w.heap.size)
    (hK : ∀ v' w', Tx.OwnI w' B v' (l ++ bs) → Below B w w' → B ≤ w'.heap.size → wpList Tryd.prog ops Q rest (a.put o.dst v') w') : wpList Tryd.prog ops Q (o :: rest) a w := by
  obtain ⟨i0, hi, hz0, hz1, hz2⟩ := info_parts Tx.infoI
  refine wpList_append_own w hg s x 48 hop B 3 i0 (.int .i64 0) 1 8 Tryd.underlying48 hi hz0 hz1 hz2 rfl (by decide) v l.length (l.map Tx.iv) hs hown ad bs.length c (bs.map Tx.iv) hx (by simp) hnew (by intro u hu; obtain ⟨b, _, rfl⟩ := List.mem_map.1 hu; rfl) (by unfold maxLen; omega) (by omega) hB ?_
  intro v' w' h1 h2 _
  refine hK v' w' ?_ ((Below.refl _ _).grown h2 hB fun k hk => (World.ownsRow.lt hown k hk).1) (Nat.le_trans hB h2.size)
  simpa [Tx.OwnI] using h1
theorem Tx.appendI_step {K : Act → World → Prop} {E : Prop} (hg : o.guard = none) (s x : Operand) (hop : o.op = .call { callee := .builtin .append, args := #[s, x], argTypes := #[48, 48] }) (B : Nat) (v : Value) (l : List Int) (hs : a.eval s = v) (hown : Tx.OwnI w B v l)
    (ad : Addr) (c : Nat) (bs : List Int) (hx : a.eval x = .slice (some ad) bs.length c) (hnew : ∀ j u, (bs.map Tx.iv)[j]? = some u → w.cell? (ad.add j) = some u) (hp : 0 < bs.length) (hlen : l.length + bs.length ≤ 17592186044416) (hB : B ≤ w.heap.size)
    (hK : ∀ v' w', Tx.OwnI w' B v' (l ++ bs) → Below B w w' → B ≤ w'.heap.size → K (a.put o.dst v') w') : if Region.wanted o (yielded ops a.tmps) = true then Oper.wp Tryd.prog o a w K Q else E := by
  obtain ⟨i0, hi, hz0, hz1, hz2⟩ := info_parts Tx.infoI
  refine step_append_lies w hg s x 48 hop B 3 i0 (.int .i64 0) 1 8 Tryd.underlying48 hi hz0 hz1 hz2 rfl (by decide) v l.length (l.map Tx.iv) hs hown ad bs.length c (bs.map Tx.iv) hx (by simp) hnew (by intro u hu; obtain ⟨b, _, rfl⟩ := List.mem_map.1 hu; rfl) hp (by unfold maxLen; omega) (by omega) hB w.heap.size rfl ?_
  intro g cap w' h1 h2 _ _
  refine hK _ w' ?_ ((Below.refl _ _).grown h2 hB fun k hk => (World.ownsRow.lt hown k hk).1) (Nat.le_trans hB h2.size)
  simpa [Tx.OwnI] using h1
end
end Go.Proofs.YtbemgeicpbcdhaaDoor
