/- A slice of ints that comes in, opened, and read again behind the call. -/
import Derived.Test.YtejnhhhmjkiehaaDoorKitI
import Derived.Test.YtejnhhhmjkiehaaDoorRows
import Derived.OpenShut
import Derived.ChangeSlices
namespace Go.Proofs.YtejnhhhmjkiehaaDoor
open Go.ChangeShapes Go.WideShapes Go.ChangeAt Go.RowKit

set_option maxHeartbeats 4000000 in
set_option maxRecDepth 100000 in
theorem Tx.okW_ints {W : World} {v : Value} (h : Value.okWide Tryd.prog W .any 0 29 v) :
    v = .slice none 0 0 ∨ ∃ b off len cap, v = .slice (some ⟨b, off, none⟩) len cap ∧ len ≤ cap ∧ cap ≤ 9223372036854775807 ∧ b < W.heap.size := by
  obtain ⟨a, len, cap, rfl⟩ := okWide_slice Tryd.underlying29 h
  simp only [Value.okWide, Tryd.underlying29, Cell.okWide] at h
  rcases a with _ | ⟨b, off, spot⟩
  · left
    cases len <;> cases cap <;> simp_all [Cell.ok, Tryd.underlying29]
  · right
    simp only [Cell.ok, Tryd.underlying29] at h
    obtain ⟨h1, h2, _, h3, row, cells, h4, _⟩ := h
    have h3 : spot = none := h3
    subst h3
    have h2 : (cap : Int) ≤ 9223372036854775807 := h2
    refine ⟨b, off, len, cap, rfl, h1, by omega, ?_⟩
    have h4 : W.shape? b = some (row, cells) := h4
    by_cases hb : b < W.heap.size
    · exact hb
    · exfalso
      have hn : W.heap[b]? = none := by simp; omega
      simp [World.shape?, hn] at h4

theorem Tx.cellsI : Tryd.prog.cellsOf 3 = 1 := by kernel_rfl
theorem Tx.bulk_lits {H : Type} (k : IntKind) (zs : List Int) : Rows.uptoBulkAll (lits (H := H) k zs) = zs.length := by
  induction zs with
  | nil => rfl
  | cons z zs ih =>
    show 1 + Rows.uptoBulkAll (lits (H := H) k zs) = _
    rw [ih, List.length_cons]; omega

set_option maxHeartbeats 4000000 in
set_option maxRecDepth 100000 in
theorem Tx.open_ints {H : Type} {enc : TypeId × Value → H} {W : World} {v : Value} {d : DataW H} {ps : List MemPlace} (hval : Value.okWide Tryd.prog W .any 0 29 v)
    (h : DataW.Trod enc Tryd.prog W 0 (fun _ => true) true 29 v d ps) :
    ∃ zs, Tx.Ints W W.heap.size v zs ∧ zs.length + 1 ≤ Rows.uptoBulk d ∧ ∀ W' sp, Below W.heap.size W W' → (∀ b, b < W.heap.size → sp b = true) → DataW.Trod enc Tryd.prog W' 0 sp true 29 v d ps := by
  have ok := Tx.okW_ints hval
  clear hval
  obtain ⟨fuel, hf⟩ := h
  rcases ok with rfl | ⟨b, off, len, cap, rfl, hlc, hcm, hbW⟩
  · rcases Go.ChangeShapes.open_ints Tryd.underlying29 Tryd.underlying3 Tx.cellsI hf with ⟨hcs, hx⟩ | ⟨a, len', cap', zs, hcs, _, hl, hm, hz, hx, hcell, hwz⟩
    · simp only [Prod.mk.injEq] at hx
      obtain ⟨rfl, rfl⟩ := hx
      exact ⟨[], .inl ⟨rfl, rfl⟩, Nat.le_refl _, fun W' sp _ _ => shut_slice_nil Tryd.underlying29⟩
    · simp [Value.cells] at hcs
  · rcases Go.ChangeShapes.open_ints Tryd.underlying29 Tryd.underlying3 Tx.cellsI hf with ⟨hcs, hx⟩ | ⟨a, len', cap', zs, hcs, _, hl, hm, hz, hx, hcell, hwz⟩
    · simp [Value.cells] at hcs
    · simp [Value.cells] at hcs
      obtain ⟨rfl, rfl, rfl⟩ := hcs
      simp only [Prod.mk.injEq] at hx
      obtain ⟨rfl, rfl⟩ := hx
      simp only [if_true] at hz
      have hlt : (zs.take len).length = len := by rw [List.length_take]; omega
      refine ⟨zs.take len, .inr ⟨b, off, cap, by rw [hlt], by rw [hlt]; exact hlc, hcm, hbW, fun j hj => ?_⟩, ?_, fun W' sp bel hsp => ?_⟩
      · rw [hlt] at hj
        have := hcell j (by omega)
        rw [add_plain] at this
        rw [this]
        congr 2
        simp [List.getD_eq_getElem?_getD, hj]
      · show _ ≤ Rows.uptoBulkAll _ + Rows.uptoBulkAll _ + 1
        rw [Tx.bulk_lits]; omega
      · have hcell' : ∀ i, i < zs.length → W'.cell? ((⟨b, off, none⟩ : Addr).add i) = some (.int .i64 (zs.getD i 0)) := by
          intro i hi
          have := hcell i hi
          rw [add_plain] at this ⊢
          exact (bel.cell (p := ⟨b, off + i, none⟩) hbW).trans this
        by_cases hz0 : zs.length = 0
        · have hc0 : cap = 0 := by omega
          have hl0 : len = 0 := by omega
          subst hc0; subst hl0
          have t0 := shut_ints (enc := enc) (w := W') (base := 0) (spare := sp) (held := true) (a := ⟨b, off, none⟩) (len := 0) (cap := 0) (zs := zs) 0 Tryd.underlying29 Tryd.underlying3 Tx.cellsI (Nat.zero_le _) (Nat.le_refl _) hm (by simp [hz0]) hcell' hwz
          exact ⟨2, by simpa [Value.cells] using t0⟩
        · have hspb : sp b = true := hsp b hbW
          have t0 := shut_ints (enc := enc) (w := W') (base := 0) (spare := sp) (held := true) (a := ⟨b, off, none⟩) (len := len) (cap := cap) (zs := zs) 0 Tryd.underlying29 Tryd.underlying3 Tx.cellsI (Nat.zero_le _) hl hm (by simp [hspb, hz]) hcell' hwz
          exact ⟨2, by simpa [Value.cells] using t0⟩
end Go.Proofs.YtejnhhhmjkiehaaDoor
