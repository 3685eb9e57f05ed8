/- Rows of bytes, each in a block of its own; texts in a slice that came in. -/
import Derived.Test.YtejnkchfjkhheaaHsL
import Derived.Lib.AppendStr
import Derived.OpenShut
import Derived.ChangeMaps5
import Derived.SliceStrings
import Derived.Carry
namespace Go.Proofs.Ytejnkchfjkhheaa
open Go.ChangeShapes Go.WideShapes Go.ChangeAt Go.RowKit

/-- Slice value v holds the bytes l, in block g. -/
def Hs.Row (w : World) (g : Nat) (v : Value) (l : List UInt8) : Prop := Tx.Own w g v l ∧ v.ownBlock = some g
theorem Hs.Row.lt {w : World} {g : Nat} {v : Value} {l : List UInt8} (h : Hs.Row w g v l) : g < w.heap.size := (World.ownsRow.lt h.1 g h.2).2
theorem Hs.Row.keep {w w' : World} {g : Nat} {v : Value} {l : List UInt8} (h : Hs.Row w g v l) (hk : w'.heap[g]? = w.heap[g]?) : Hs.Row w' g v l := by
  refine ⟨⟨h.1.1, ?_⟩, h.2⟩
  rcases h.1.2 with hn | ⟨g2, cap, cur, rfl, hg, hgg, rest⟩
  · exact .inl hn
  · have e : g2 = g := by have := h.2; simpa [Value.ownBlock] using this
    subst e
    exact .inr ⟨g2, cap, cur, rfl, hg, by rw [hk]; exact hgg, rest⟩
theorem Hs.Row.below {w w' : World} {g B : Nat} {v : Value} {l : List UInt8} (h : Hs.Row w g v l) (hb : Below B w w') (hB : g < B) : Hs.Row w' g v l := h.keep (hb.block g hB)
theorem Hs.Row.but {w w' : World} {g p : Nat} {v : Value} {l : List UInt8} (h : Hs.Row w g v l) (hb : Hs.But p w w') (hp : g ≠ p) : Hs.Row w' g v l := h.keep (hb.block g h.lt hp)
theorem Hs.Row.len {w : World} {g : Nat} {v : Value} {l : List UInt8} (h : Hs.Row w g v l) : ∃ cap, v = .slice (some ⟨g, 0, none⟩) l.length cap := by
  rcases h.1.2 with ⟨rfl, _⟩ | ⟨g2, cap, cur, rfl, _⟩
  · have := h.2; simp [Value.ownBlock] at this
  · have e : g2 = g := by have := h.2; simpa [Value.ownBlock] using this
    subst e
    exact ⟨cap, rfl⟩
theorem Hs.Row.nil (w : World) : Hs.Row (w.alloc (.cells #[] 5)) w.heap.size (.slice (some ⟨w.heap.size, 0, none⟩) 0 0) [] :=
  ⟨⟨rfl, .inr ⟨w.heap.size, 0, #[], rfl, Nat.le_refl _, heap_alloc_new _ _, Nat.le_refl _, Nat.zero_le _, rfl, rfl⟩⟩, rfl⟩
theorem Hs.Row.conv {w : World} {g : Nat} {v : Value} {l : List UInt8} (h : Hs.Row w g v l) : (convert 38 9 v).run Try.prog w = .ok (.string (Tx.ba l)) w := Tx.Own.conv h.1
theorem Hs.Row.of {w : World} {B g : Nat} {v : Value} {l : List UInt8} (h : Tx.Own w B v l) (hv : v.ownBlock = some g) : Hs.Row w g v l := by
  refine ⟨⟨h.1, ?_⟩, hv⟩
  rcases h.2 with ⟨rfl, _⟩ | ⟨g2, cap, cur, rfl, _, rest⟩
  · simp [Value.ownBlock] at hv
  · have e : g2 = g := by simpa [Value.ownBlock] using hv
    subst e
    exact .inr ⟨g2, cap, cur, rfl, Nat.le_refl _, rest⟩
theorem Hs.But.of_grown {w w' : World} {g : Nat} (h : w.grownBy w' (some g)) : Hs.But g w w' := ⟨h.os, h.tape, h.output, h.size, fun k hk hg => h.block k hk (by simp; exact fun e => hg e)⟩
theorem Hs.strCells_eq (l : List UInt8) (s : ByteArray) : (l ++ s.data.toList).map Tx.bv = l.map Tx.bv ++ Lib.strCells s := by simp [Lib.strCells, Tx.bv]
/-- append of a text's bytes: where the new row lies. -/
theorem Hs.run_append (w : World) (ty : TypeId) (g : Nat) (v : Value) (l : List UInt8) (h : Hs.Row w g v l) (s : ByteArray) (hb : l.length + s.size ≤ 140737488355328) :
    ∃ v' w' g', (Builtin.append_ #[38, 9] ty #[v, .string s]).run Try.prog w = .ok v' w' ∧ Hs.Row w' g' v' (l ++ s.data.toList) ∧ (g' = g ∨ g' = w.heap.size) ∧ Hs.But g w w' := by
  obtain ⟨i0, hi, hz0, hz1, hz2⟩ := info_parts Tx.info8
  obtain ⟨v', w', hr, h2, h3, h4⟩ := Lib.run_append_own_string (P := Try.prog) w g 38 9 ty 5 i0 Try.underlying38 Try.underlying9 hi hz0 hz1 hz2 v l.length (l.map Tx.bv) h.1 s (by unfold maxLen; omega) hb (Nat.le_of_lt h.lt)
  have hown : Tx.Own w' g v' (l ++ s.data.toList) := by
    unfold Tx.Own
    rw [Hs.strCells_eq, List.length_append, Tx.len]
    exact h2
  have hbk : v'.ownBlock = some g ∨ v'.ownBlock = some w.heap.size := by
    rcases h.1.2 with ⟨rfl, _⟩ | ⟨g2, cap, cur, rfl, hbg, hg, hnc, hcm, hcs, htake⟩
    · have := h.2; simp [Value.ownBlock] at this
    · have e : g2 = g := by have := h.2; simpa [Value.ownBlock] using this
      subst e
      by_cases hroom : l.length + s.size ≤ cap
      · have hr2 := Lib.run_append_room_string (P := Try.prog) w 38 9 ty 5 i0 Try.underlying38 Try.underlying9 hi hz1 g2 l.length cap cur hg s hroom (by simp at hcs; omega)
        rw [hr2] at hr
        injection hr with e1 e2
        left
        rw [← e1]
        rfl
      · have holds : ∀ j u, (l.map Tx.bv)[j]? = some u → w.cell? ((⟨g2, 0, none⟩ : Addr).add j) = some u := h.1.cells (g := g2) rfl
        have hr2 := Lib.run_append_grow_string (P := Try.prog) w 38 9 ty 5 i0 (.int .u8 0) Try.underlying38 Try.underlying9 hi hz0 ⟨g2, 0, none⟩ l.length cap (l.map Tx.bv) (by rw [hz1]; simp) holds s (by omega) (by omega) (by rw [hz2]; exact growslice_fits (by omega) (by omega))
        rw [hr2] at hr
        injection hr with e1 e2
        right
        rw [← e1]
        rfl
  rw [h.2] at h3
  rcases hbk with hbk | hbk
  · exact ⟨v', w', g, hr, Hs.Row.of hown hbk, .inl rfl, Hs.But.of_grown h3⟩
  · exact ⟨v', w', w.heap.size, hr, Hs.Row.of hown hbk, .inr rfl, Hs.But.of_grown h3⟩
theorem Hs.appendS {w : World} {ops : Array Oper} {rest : List Oper} {o : Oper} {a : Act} {Q : Exit → Act → World → Prop} (hgd : o.guard = none) (s x : Operand) (hop : o.op = .call { callee := .builtin .append, args := #[s, x], argTypes := #[38, 9] }) (g : Nat) (v : Value) (l : List UInt8) (hs : a.eval s = v) (hrow : Hs.Row w g v l)
    (p : ByteArray) (hx : a.eval x = .string p) (hlen : l.length + p.size ≤ 140737488355328)
    (hK : ∀ v' w' g', Hs.Row w' g' v' (l ++ p.data.toList) → (g' = g ∨ g' = w.heap.size) → Hs.But g w w' → wpList Try.prog ops Q rest (a.put o.dst v') w') : wpList Try.prog ops Q (o :: rest) a w := by
  refine wpList_plain hgd fun K hK2 => ?_
  obtain ⟨v', w', g', hr, h1, h2, h3⟩ := Hs.run_append w o.type g v l hrow p hlen
  unfold Oper.wp execOp
  simp only [hop, resolve, invoke, builtin, Sem.run_bind, Sem.run_pure, Result.andThen_ok, List.map_toArray, List.map_cons, List.map_nil, hs, hx, hr]
  exact hK2 _ _ (hK v' w' g' h1 h2 h3)

/-- How many letters texts have together. -/
def Hs.total : List ByteArray → Nat
  | [] => 0
  | s :: r => s.size + Hs.total r
theorem Hs.total_take : ∀ (l : List ByteArray) (k : Nat) (s : ByteArray), l[k]? = some s → Hs.total (l.take (k + 1)) = Hs.total (l.take k) + s.size
  | [], _, _, h => by simp at h
  | a :: r, 0, s, h => by
    have e : a = s := by simpa using h
    subst e
    simp [Hs.total]
  | a :: r, k + 1, s, h => by
    have := Hs.total_take r k s (by simpa using h)
    simp only [List.take_succ_cons, Hs.total, this]
    omega
theorem Hs.total_le : ∀ (l : List ByteArray) (k : Nat), Hs.total (l.take k) ≤ Hs.total l
  | [], _ => by simp
  | a :: r, 0 => by simp [Hs.total]
  | a :: r, k + 1 => by
    have := Hs.total_le r k
    simp only [List.take_succ_cons, Hs.total]
    omega
/-- The texts of a slice that came in. -/
structure Hs.StrsAt (w : World) (a : Option Addr) (n : Nat) (l : List ByteArray) : Prop where
  len : l.length = n
  cell : ∀ j s, l[j]? = some s → ∃ b off, a = some ⟨b, off, none⟩ ∧ b < w.heap.size ∧ w.cell? ⟨b, off + j, none⟩ = some (.string s)
theorem Hs.StrsAt.below {w w' : World} {a : Option Addr} {n : Nat} {l : List ByteArray} (h : Hs.StrsAt w a n l) (hb : Below w.heap.size w w') : Hs.StrsAt w' a n l :=
  ⟨h.len, fun j s hj => by
    obtain ⟨b, off, ha, hlt, hc⟩ := h.cell j s hj
    exact ⟨b, off, ha, Nat.lt_of_lt_of_le hlt hb.size, (hb.cell (p := ⟨b, off + j, none⟩) hlt).trans hc⟩⟩
theorem Hs.cellsS : Try.prog.cellsOf 9 = 1 := by kernel_rfl
theorem Hs.laidOut : laidOutB Try.prog = true := by kernel_rfl
theorem Hs.readable : Try.prog.readableRec 37 = true := by kernel_rfl
theorem Hs.row37 : 37 < Try.prog.types.size := of_decide_eq_true (by kernel_rfl)
theorem Hs.bulk_strs {H : Type} : ∀ (ss : List ByteArray), Rows.uptoBulkAll (strs (H := H) ss) = Hs.total ss + ss.length
  | [] => rfl
  | s :: r => by
    show (s.data.toList.length + 1) + Rows.uptoBulkAll (strs r) = s.size + Hs.total r + (r.length + 1)
    rw [Hs.bulk_strs r, Tx.len]; omega
set_option maxHeartbeats 4000000 in
set_option maxRecDepth 100000 in
theorem Hs.okW_strs {W : World} {v : Value} (h : Value.okWide Try.prog W .any 0 37 v) :
    v = .slice none 0 0 ∨ ∃ b off len cap, v = .slice (some ⟨b, off, none⟩) len cap ∧ len ≤ cap ∧ cap ≤ 9223372036854775807 ∧ b < W.heap.size := by
  obtain ⟨a, len, cap, rfl⟩ := okWide_slice Try.underlying37 h
  simp only [Value.okWide, Try.underlying37, Cell.okWide] at h
  rcases a with _ | ⟨b, off, spot⟩
  · left
    cases len <;> cases cap <;> simp_all [Cell.ok, Try.underlying37]
  · right
    simp only [Cell.ok, Try.underlying37] at h
    obtain ⟨h1, h2, _, h3, row, cells, h4, _⟩ := h
    have h3 : spot = none := h3
    subst h3
    have h2 : (cap : Int) ≤ 9223372036854775807 := h2
    refine ⟨b, off, len, cap, rfl, h1, by omega, ?_⟩
    have h4 : W.shape? b = some (row, cells) := h4
    by_cases hb : b < W.heap.size
    · exact hb
    · exfalso
      have hn : W.heap[b]? = none := by simp; omega
      simp [World.shape?, hn] at h4
set_option maxHeartbeats 4000000 in
set_option maxRecDepth 100000 in
theorem Hs.open_strs {H : Type} {enc : TypeId × Value → H} {W : World} {v : Value} {d : DataW H} {ps : List MemPlace} (hval : Value.okWide Try.prog W .any 0 37 v)
    (h : DataW.Trod enc Try.prog W 0 (fun _ => true) true 37 v d ps) :
    ∃ a n cap l, v = .slice a n cap ∧ n ≤ cap ∧ cap ≤ 9223372036854775807 ∧ Hs.StrsAt W a n l ∧ Hs.total l + l.length + 1 ≤ Rows.uptoBulk d ∧ ∀ W', Below W.heap.size W W' → DataW.Trod enc Try.prog W' 0 (fun b => decide (b < W.heap.size)) true 37 v d ps := by
  have ok := Hs.okW_strs hval
  clear hval
  have h0 := h
  obtain ⟨fuel, hf⟩ := h
  rcases ok with rfl | ⟨b, off, len, cap, rfl, hlc, hcm, hbW⟩
  · rcases open_strings Try.underlying37 Try.underlying9 Hs.cellsS hf with ⟨hcs, hx⟩ | ⟨a, len', cap', ss, hcs, _, hl, hm, hz, hx, hcell, hwz⟩
    · simp only [Prod.mk.injEq] at hx
      obtain ⟨rfl, rfl⟩ := hx
      exact ⟨none, 0, 0, [], rfl, Nat.le_refl _, by omega, ⟨rfl, fun j s hj => by simp at hj⟩, Nat.le_refl _, fun W' hb => Below.trod Hs.laidOut Hs.readable Hs.row37 h0 hb (by simp)⟩
    · simp [Value.cells] at hcs
  · rcases open_strings Try.underlying37 Try.underlying9 Hs.cellsS hf with ⟨hcs, hx⟩ | ⟨a, len', cap', ss, hcs, _, hl, hm, hz, hx, hcell, hwz⟩
    · simp [Value.cells] at hcs
    · simp [Value.cells] at hcs
      obtain ⟨rfl, rfl, rfl⟩ := hcs
      simp only [Prod.mk.injEq] at hx
      obtain ⟨rfl, rfl⟩ := hx
      simp only [if_true] at hz
      have hlt : (ss.take len).length = len := by rw [List.length_take]; omega
      refine ⟨_, len, cap, ss.take len, rfl, hlc, hcm, ⟨hlt, fun j s hj => ⟨b, off, rfl, hbW, ?_⟩⟩, ?_, fun W' hb => Below.trod Hs.laidOut Hs.readable Hs.row37 h0 hb ?_⟩
      · have hjl : j < len := by have := (List.getElem?_eq_some_iff.1 hj).1; omega
        have := hcell j (by omega)
        rw [add_plain] at this
        rw [this]
        rw [List.getElem?_take, if_pos hjl] at hj
        rw [List.getD_eq_getElem?_getD, hj]
        rfl
      · show _ ≤ Rows.uptoBulkAll _ + Rows.uptoBulkAll _ + 1
        rw [Hs.bulk_strs]; omega
      · intro x hx
        simp only [MemPlace.row, List.mem_map] at hx
        obtain ⟨i, _, rfl⟩ := hx
        exact hbW
end Go.Proofs.Ytejnkchfjkhheaa
