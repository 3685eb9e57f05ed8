/- A script that comes in, opened, and read again behind the call. -/
import Derived.Test.YtbemgeicpbcdhaaDoorCursM
import Derived.Test.YtbemgeicpbcdhaaDoorRows
import Derived.OpenShut
import Derived.Carry
import Derived.Deep.Slices
import Derived.Deep.Strs
import Derived.SizedLaws
namespace Go.Proofs.YtbemgeicpbcdhaaDoor
open Go.ChangeShapes Go.WideShapes Go.ChangeAt Go.RowKit
set_option maxHeartbeats 4000000 in
set_option maxRecDepth 100000 in
theorem Tx.okW_ops {W : World} {v : Value} (h : Value.okWide Tryd.prog W .any 0 22 v) :
    v = .slice none 0 0 ∨ ∃ b off len cap, v = .slice (some ⟨b, off, none⟩) len cap ∧ len ≤ cap ∧ cap ≤ 9223372036854775807 ∧ b < W.heap.size := by
  obtain ⟨a, len, cap, rfl⟩ := okWide_slice Tryd.underlying22 h
  simp only [Value.okWide, Tryd.underlying22, Cell.okWide] at h
  rcases a with _ | ⟨b, off, spot⟩
  · left
    cases len <;> cases cap <;> simp_all [Cell.ok, Tryd.underlying22]
  · right
    simp only [Cell.ok, Tryd.underlying22] at h
    obtain ⟨h1, h2, _, h3, row, cells, h4, _⟩ := h
    have h3 : spot = none := h3
    subst h3
    have h2 : (cap : Int) ≤ 9223372036854775807 := h2
    refine ⟨b, off, len, cap, rfl, h1, by omega, ?_⟩
    have h4 : W.shape? b = some (row, cells) := h4
    by_cases hb : b < W.heap.size
    · exact hb
    · exfalso
      have hn : W.heap[b]? = none := by simp; omega
      simp [World.shape?, hn] at h4
theorem Tx.cellsOp : Tryd.prog.cellsOf 32 = 3 := by kernel_rfl
theorem Tx.bytesOp : Tryd.prog.bytesOf 32 = 24 := by kernel_rfl
theorem Tx.cellsInt : Tryd.prog.cellsOf 3 = 1 := by kernel_rfl
theorem Tx.laidOutO : laidOutB Tryd.prog = true := by kernel_rfl
theorem Tx.readableO : Tryd.prog.readableRec 22 = true := by kernel_rfl
theorem Tx.rowO : 22 < Tryd.prog.types.size := of_decide_eq_true (by kernel_rfl)
set_option maxHeartbeats 4000000 in
set_option maxRecDepth 100000 in
theorem Tx.open_ops {H : Type} {enc : TypeId × Value → H} {W : World} {v : Value} {d : DataW H} {ps : List MemPlace} (hval : Value.okWide Tryd.prog W .any 0 22 v)
    (h : DataW.Trod enc Tryd.prog W 0 (fun _ => true) true 22 v d ps) :
    ∃ a n cap l, v = .slice a n cap ∧ Tx.OpsAt W a n l ∧ (n = 0 ∨ ∃ c, n ≤ c ∧ c * 24 ∈ DataW.weights Tryd.prog 22 d) ∧ ∀ W', Below W.heap.size W W' → DataW.Trod enc Tryd.prog W' 0 (fun b => decide (b < W.heap.size)) true 22 v d ps := by
  have ok := Tx.okW_ops hval
  clear hval
  have h0 := h
  obtain ⟨fuel, hf⟩ := h
  rcases ok with rfl | ⟨b, off, len, cap, rfl, hlc, hcm, hbW⟩
  · rcases Go.Deep.open_slice Tryd.underlying22 hf with ⟨hcs, hx⟩ | ⟨a, len, cap, m, n, D, Pl, hcs, _⟩
    · simp only [Prod.mk.injEq] at hx
      obtain ⟨rfl, rfl⟩ := hx
      exact ⟨none, 0, 0, [], rfl, ⟨rfl, .inl rfl⟩, .inl rfl, fun W' hb => Below.trod Tx.laidOutO Tx.readableO Tx.rowO h0 hb (by simp)⟩
    · simp [Value.cells] at hcs
  · rcases Go.Deep.open_slice Tryd.underlying22 hf with ⟨hcs, hx⟩ | ⟨a, len', cap', m, n, D, Pl, hcs, _, hl, hm, hmm, hx, hall⟩
    · simp [Value.cells] at hcs
    · simp [Value.cells] at hcs
      obtain ⟨rfl, rfl, rfl⟩ := hcs
      simp only [if_true] at hmm
      subst hmm
      simp only [Prod.mk.injEq] at hx
      obtain ⟨rfl, rfl⟩ := hx
      have each : ∀ i, i < m → ∃ q : Int × Int × Int, (W.cell? ⟨b, off + i * 3, none⟩ = some (.int .i64 q.1) ∧ W.cell? ⟨b, off + i * 3 + 1, none⟩ = some (.int .i64 q.2.1) ∧ W.cell? ⟨b, off + i * 3 + 2, none⟩ = some (.int .i64 q.2.2)) ∧ Pl i = [] := by
        intro i hi
        obtain ⟨cs', h1, h2⟩ := hall i hi
        rw [Tx.cellsOp] at h1
        obtain ⟨_, hlen, hcell⟩ := World.cells?_some h1
        obtain ⟨y0, y1, y2, n', hxy, _, g0, g1, g2⟩ := Go.Deep.trod_struct3 Tryd.underlying32 h2
        match cs', hlen with
        | [v0, v1, v2], _ =>
          simp [Tx.cellsInt] at g0 g1 g2
          obtain ⟨z0, e0, rfl, _⟩ := DataW.trod_int Tryd.underlying3 g0
          obtain ⟨z1, e1, rfl, _⟩ := DataW.trod_int Tryd.underlying3 g1
          obtain ⟨z2, e2, rfl, _⟩ := DataW.trod_int Tryd.underlying3 g2
          simp only [List.cons.injEq, and_true] at e0 e1 e2
          subst e0 e1 e2
          simp only [Prod.mk.injEq] at hxy
          have c0 := hcell 0 (by omega)
          have c1 := hcell 1 (by omega)
          have c2 := hcell 2 (by omega)
          rw [Go.Deep.add_add, add_plain] at c0 c1 c2
          exact ⟨(z0, z1, z2), ⟨by simpa using c0, by simpa [Nat.add_assoc] using c1, by simpa [Nat.add_assoc] using c2⟩, by simpa using hxy.2⟩
      obtain ⟨q, hq⟩ := Go.Deep.choose_lt each
      refine ⟨_, len, m, (List.range len).map q, rfl, ⟨by simp, .inr ⟨b, off, rfl, fun W' hS j o hj => ?_⟩⟩, .inr ⟨m, hlc, ?_⟩, fun W' hb => Below.trod Tx.laidOutO Tx.readableO Tx.rowO h0 hb ?_⟩
      · have hjl : j < len := by
          have := (List.getElem?_eq_some_iff.1 hj).1
          simpa using this
        have ho : q j = o := by simpa [hjl] using hj
        have hc := (hq j (by omega)).1
        rw [ho] at hc
        exact ⟨(hS.below.cell (p := ⟨b, off + j * 3, none⟩) hbW).trans hc.1, (hS.below.cell (p := ⟨b, off + j * 3 + 1, none⟩) hbW).trans hc.2.1, (hS.below.cell (p := ⟨b, off + j * 3 + 2, none⟩) hbW).trans hc.2.2⟩
      · simp only [DataW.weights, Tryd.underlying22, Tx.bytesOp]
        simp
        left
        omega
      · intro x hx
        rcases List.mem_append.1 hx with hx | hx
        · simp only [MemPlace.row, List.mem_map] at hx
          obtain ⟨i, _, rfl⟩ := hx
          exact hbW
        · obtain ⟨i, hi, hx⟩ := List.mem_flatMap.1 hx
          rw [(hq i (by simpa using hi)).2] at hx
          cases hx
end Go.Proofs.YtbemgeicpbcdhaaDoor
