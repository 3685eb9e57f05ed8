/- The plan of a sum: its cells; planOf, block. -/
import Derived.Test.YtejnkchfjkhheaaHsA
import Derived.Deep.MidRow
import Derived.Deep.WholeRow
namespace Go.Proofs.Ytejnkchfjkhheaa
open Go.RowKit
theorem Hs.infoP : (Try.prog.info? 63).map (·.size) = some 23 := by kernel_rfl
/-- The plan's cells, of kind 0. -/
def Hs.pc0 : Array Value := #[.int .i64 4, .int .i64 8, .int .i64 64, .int .u64 7, .int .u64 18, .int .u64 3, .int .u64 17, .int .u64 19, .int .u64 10, .int .u64 6, .int .u64 11, .int .u64 25, .int .u64 2, .int .u64 13, .int .u64 22, .int .u64 1779033703, .int .u64 3144134277, .int .u64 1013904242, .int .u64 2773480762, .int .u64 1359893119, .int .u64 2600822924, .int .u64 528734635, .int .u64 1541459225]
theorem Hs.pcOk0 : Hs.pc0.all (·.oneCell') = true := by kernel_rfl
theorem Hs.pcAt0 (w : World) (j : Nat) (v : Value) (h : Hs.pc0[j]? = some v) : (w.alloc (.cells Hs.pc0 63)).cell? ⟨w.heap.size, j, none⟩ = some v := by
  simp only [World.cell?, heap_alloc_new]
  simpa using h
/-- The plan's cells, of kind 1. -/
def Hs.pc1 : Array Value := #[.int .i64 8, .int .i64 6, .int .i64 80, .int .u64 1, .int .u64 8, .int .u64 7, .int .u64 19, .int .u64 61, .int .u64 6, .int .u64 14, .int .u64 18, .int .u64 41, .int .u64 28, .int .u64 34, .int .u64 39, .int .u64 14680500436340154072, .int .u64 7105036623409894663, .int .u64 10473403895298186519, .int .u64 1526699215303891257, .int .u64 7436329637833083697, .int .u64 10282925794625328401, .int .u64 15784041429090275239, .int .u64 5167115440072839076]
theorem Hs.pcOk1 : Hs.pc1.all (·.oneCell') = true := by kernel_rfl
theorem Hs.pcAt1 (w : World) (j : Nat) (v : Value) (h : Hs.pc1[j]? = some v) : (w.alloc (.cells Hs.pc1 63)).cell? ⟨w.heap.size, j, none⟩ = some v := by
  simp only [World.cell?, heap_alloc_new]
  simpa using h
set_option maxHeartbeats 4000000 in
set_option maxRecDepth 100000 in
theorem Hs.planOf0 (w : World) :
    Calls Try.prog 31 #[.int .i64 0] w fun e w' => e = .returned (.agg Hs.pc0) ∧ Below w.heap.size w w' := by
  go_enter Try.func31, Try.ntmps31
  go_wp2_with (refine wpList_store_row rfl 63 (.tmp 2) (.tmp 10) rfl w.heap.size Hs.pc0 rfl rfl 63 _ (heap_alloc_new w _) Hs.infoP (by kernel_rfl) Hs.pcOk0 ?_; rw [World.setRow_alloc_new])
  exact bodyPost_ret (v := .agg Hs.pc0) (results_cell_row rfl _ _ w.heap.size 63 Hs.pc0 (0, 0) _ rfl (heap_alloc_new w _) Try.underlying63 rfl Hs.infoP) rfl ⟨rfl, (Below.refl _ _).alloc (Nat.le_refl _) _⟩
set_option maxHeartbeats 4000000 in
set_option maxRecDepth 100000 in
theorem Hs.planOf1 (w : World) :
    Calls Try.prog 31 #[.int .i64 1] w fun e w' => e = .returned (.agg Hs.pc1) ∧ Below w.heap.size w w' := by
  go_enter Try.func31, Try.ntmps31
  go_wp2_with (refine wpList_store_row rfl 63 (.tmp 2) (.tmp 16) rfl w.heap.size Hs.pc1 rfl rfl 63 _ (heap_alloc_new w _) Hs.infoP (by kernel_rfl) Hs.pcOk1 ?_; rw [World.setRow_alloc_new])
  exact bodyPost_ret (v := .agg Hs.pc1) (results_cell_row rfl _ _ w.heap.size 63 Hs.pc1 (0, 0) _ rfl (heap_alloc_new w _) Try.underlying63 rfl Hs.infoP) rfl ⟨rfl, (Below.refl _ _).alloc (Nat.le_refl _) _⟩
set_option maxHeartbeats 4000000 in
set_option maxRecDepth 100000 in
theorem Hs.block0 (w : World) :
    Calls Try.prog 32 #[.agg Hs.pc0] w fun e w' => e = .returned (.int .i64 64) ∧ Below w.heap.size w w' := by
  have c0 := Hs.pcAt0 w 0 (.int .i64 4) rfl
  go_enter Try.func32, Try.ntmps32
  go_wp2
  go_ret
  exact ⟨rfl, (Below.refl _ _).alloc (Nat.le_refl _) _⟩
set_option maxHeartbeats 4000000 in
set_option maxRecDepth 100000 in
theorem Hs.block1 (w : World) :
    Calls Try.prog 32 #[.agg Hs.pc1] w fun e w' => e = .returned (.int .i64 128) ∧ Below w.heap.size w w' := by
  have c0 := Hs.pcAt1 w 0 (.int .i64 8) rfl
  go_enter Try.func32, Try.ntmps32
  go_wp2
  go_ret
  exact ⟨rfl, (Below.refl _ _).alloc (Nat.le_refl _) _⟩
set_option maxHeartbeats 4000000 in
set_option maxRecDepth 100000 in
theorem Hs.known_any (k : Int) (w : World) :
    Calls Try.prog 24 #[.int .i64 k] w fun e w' => e = .returned (.bool (decide (k = 0 ∨ k = 1))) ∧ w' = w := by
  by_cases h0 : k = 0
  · subst h0
    go_enter Try.func24, Try.ntmps24
    go_wp2
    go_ret
    exact ⟨rfl, rfl⟩
  · by_cases h1 : k = 1
    · subst h1
      go_enter Try.func24, Try.ntmps24
      go_wp2
      go_ret
      exact ⟨rfl, rfl⟩
    · have t0 : (k == 0) = false := by rw [beq_eq_false_iff_ne]; exact h0
      have t1 : (k == 1) = false := by rw [beq_eq_false_iff_ne]; exact h1
      rw [decide_eq_false (by omega : ¬ (k = 0 ∨ k = 1))]
      go_enter Try.func24, Try.ntmps24
      go_wp2
      go_ret
      exact ⟨rfl, rfl⟩
/-- The cells of a hash: its kind, its state, what is not summed yet, how much was written. -/
def Hs.cells (kind : Int) (st rest : List Value) (n : Int) : Array Value := (.int .i64 kind :: (st ++ (rest ++ [.int .i64 n]))).toArray
end Go.Proofs.Ytejnkchfjkhheaa
