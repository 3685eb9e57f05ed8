/- The reference's Known at 0. -/
import Derived.Test.YtfbliccblippiaaGreatDoorRsG
import Derived.Laws.Tables
import Derived.Laws.Rows
namespace Go.Proofs.YtfbliccblippiaaGreatDoor
open Go.RowKit
theorem Rs.second (w : World) (a b : Obj) : ((w.alloc a).alloc b).heap[w.heap.size + 1]? = some b := by
  have h := heap_alloc_new (w.alloc a) b
  have e : (w.alloc a).heap.size = w.heap.size + 1 := by show (w.heap.push a).size = _; simp
  rw [e] at h
  exact h
/-- A block of memory, and what it holds. -/
structure Rs.Blk (w : World) (p : Nat) (o : Obj) : Prop where
  lt : p < w.heap.size
  eq : w.heap[p]? = some o
theorem Rs.Blk.below {w w' : World} {p : Nat} {o : Obj} (h : Rs.Blk w p o) (hb : Below w.heap.size w w') : Rs.Blk w' p o := ⟨Nat.lt_of_lt_of_le h.lt hb.size, (hb.block p h.lt).trans h.eq⟩
theorem Rs.Blk.new (w : World) (o : Obj) : Rs.Blk (w.alloc o) w.heap.size o := ⟨by show w.heap.size < (w.heap.push o).size; simp, heap_alloc_new w o⟩
theorem Rs.Blk.row {w : World} {p : Nat} {old : Array Value} {T : TypeId} (h : Rs.Blk w p (.cells old T (0, 0))) (new : Array Value) : Rs.Blk (w.setRow p new) p (.cells new T (0, 0)) :=
  ⟨by have := h.lt; simpa [World.setRow] using this, setRow_heap w p old new T _ h.eq⟩
theorem Rs.Blk.rowFar {w : World} {p q : Nat} {o : Obj} (h : Rs.Blk w p o) (new : Array Value) (hq : p ≠ q) : Rs.Blk (w.setRow q new) p o :=
  ⟨by have := h.lt; simpa [World.setRow] using this, (setRow_other w q p new hq).trans h.eq⟩
theorem Rs.Blk.set {w : World} {p j : Nat} {cs : Array Value} {T : TypeId} (h : Rs.Blk w p (.cells cs T (0, 0))) (v : Value) : Rs.Blk (w.setCell ⟨p, j, none⟩ v) p (.cells (cs.setIfInBounds j v) T (0, 0)) :=
  ⟨by have := h.lt; simpa using this, heap_setCell_same w p j cs _ v h.eq⟩
theorem Rs.Blk.setFar {w : World} {p q j : Nat} {o : Obj} {v : Value} (h : Rs.Blk w p o) (hq : p ≠ q) : Rs.Blk (w.setCell ⟨q, j, none⟩ v) p o :=
  ⟨by have := h.lt; simpa using this, (heap_setCell_other w ⟨q, j, none⟩ p v hq).trans h.eq⟩
theorem Rs.row_below {B : Nat} {w w' : World} (h : Below B w w') (p : Nat) (new : Array Value) (hp : B ≤ p) : Below B w (w'.setRow p new) :=
  ⟨h.os, h.tape, h.output, by have := h.size; simpa [World.setRow] using this, fun k hk => (setRow_other w' p k new (by omega)).trans (h.block k hk)⟩
def Rs.hx : Nat → ByteArray
  | 0 => Rs.hx00
  | 1 => Rs.hx01
  | 2 => Rs.hx02
  | 3 => Rs.hx03
  | 4 => Rs.hx04
  | 5 => Rs.hx05
  | _ => Rs.hx06
def Rs.kb : Nat → ByteArray
  | 0 => Rs.kb00
  | 1 => Rs.kb01
  | 2 => Rs.kb02
  | 3 => Rs.kb03
  | 4 => Rs.kb04
  | 5 => Rs.kb05
  | _ => Rs.kb06
theorem Rs.from0 (k : Nat) (hk : k < 7) (w : World) : Calls Tryz.prog 50 #[.string (Rs.hx k)] w fun e w' => e = .returned (.tuple #[.string (Rs.kb k), .int .i64 0]) ∧ Below w.heap.size w w' := by
  rcases k with _ | _ | _ | _ | _ | _ | _ | k
  · exact Rs.from00 w
  · exact Rs.from01 w
  · exact Rs.from02 w
  · exact Rs.from03 w
  · exact Rs.from04 w
  · exact Rs.from05 w
  · exact Rs.from06 w
  · omega
theorem Rs.tab_at (k : Nat) (hk : k < 7) : Rs.tab[k]? = some (.string (Rs.hx k)) := by
  rcases k with _ | _ | _ | _ | _ | _ | _ | k
  · rfl
  · rfl
  · rfl
  · rfl
  · rfl
  · rfl
  · rfl
  · omega
def Rs.part (k : Nat) : Array Value := #[.string (if 0 < k then Rs.kb 0 else ⟨#[]⟩), .string (if 1 < k then Rs.kb 1 else ⟨#[]⟩), .string (if 2 < k then Rs.kb 2 else ⟨#[]⟩), .string (if 3 < k then Rs.kb 3 else ⟨#[]⟩), .string (if 4 < k then Rs.kb 4 else ⟨#[]⟩), .string (if 5 < k then Rs.kb 5 else ⟨#[]⟩), .string (if 6 < k then Rs.kb 6 else ⟨#[]⟩)]
theorem Rs.part_set (k : Nat) (hk : k < 7) : (Rs.part k).setIfInBounds k (.string (Rs.kb k)) = Rs.part (k + 1) := by
  rcases k with _ | _ | _ | _ | _ | _ | _ | k
  · rfl
  · rfl
  · rfl
  · rfl
  · rfl
  · rfl
  · rfl
  · omega
def Rs.e7 : Array Value := #[.string ⟨#[]⟩, .string ⟨#[]⟩, .string ⟨#[]⟩, .string ⟨#[]⟩, .string ⟨#[]⟩, .string ⟨#[]⟩, .string ⟨#[]⟩]
theorem Rs.e7_one : Rs.e7.all (·.oneCell') = true := by kernel_rfl
theorem Rs.part_cell (k j : Nat) (hj : j < 7) : (Rs.part k)[j]? = some (.string (if j < k then Rs.kb j else ⟨#[]⟩)) := by
  rcases j with _ | _ | _ | _ | _ | _ | _ | j
  · rfl
  · rfl
  · rfl
  · rfl
  · rfl
  · rfl
  · rfl
  · omega
/-- The first known key, whole. -/
def Rs.pair0 : Array Value := #[.string (Rs.kb 0), .string (Rs.kb 1), .string (Rs.kb 2), .string (Rs.kb 3), .string (Rs.kb 4), .string (Rs.kb 5), .string (Rs.kb 6)]
theorem Rs.pair0_one : Rs.pair0.all (·.oneCell') = true := by simp [Rs.pair0, Value.oneCell']
theorem Rs.info41 : (Tryz.prog.info? 41).map (·.size) = some 7 := by kernel_rfl
set_option maxHeartbeats 4000000 in
set_option maxRecDepth 100000 in
theorem Rs.Known0 (w : World) :
    Calls Tryz.prog 25 #[.int .i64 0] w fun r w' => r = .returned (.agg Rs.pair0) ∧ Below w.heap.size w w' := by
  go_enter Tryz.func25, Tryz.ntmps25
  go_upto_region 2 with (first | (refine wpList_buildTo rfl 79 _ rfl (some 6) rfl Rs.kr0 (by kernel_rfl) ?_) | (refine wpList_buildTo rfl 79 _ rfl (some 7) rfl Rs.kr1 (by kernel_rfl) ?_) | (refine wpList_buildTo rfl 79 _ rfl (some 8) rfl Rs.kr2 (by kernel_rfl) ?_) | (refine wpList_buildTo rfl 79 _ rfl (some 9) rfl Rs.kr3 (by kernel_rfl) ?_) | (refine wpList_buildTo rfl 79 _ rfl (some 10) rfl Rs.kr4 (by kernel_rfl) ?_) | (refine wpList_buildTo rfl 80 _ rfl (some 11) rfl Rs.tab (by kernel_rfl) ?_) | (refine wpList_store_row rfl 80 (.tmp 3) (.tmp 11) rfl (w.heap.size + 1) Rs.tab rfl rfl 80 _ (Rs.second _ _ _) Rs.info80 (by kernel_rfl) Rs.tab_one ?_))
  have hs1 : (w.alloc (Obj.cells #[.string ⟨#[]⟩, .string ⟨#[]⟩, .string ⟨#[]⟩, .string ⟨#[]⟩, .string ⟨#[]⟩, .string ⟨#[]⟩, .string ⟨#[]⟩] 41)).heap.size = w.heap.size + 1 := by show (w.heap.push _).size = _; simp
  have b1 := (Below.refl w.heap.size w).alloc (Nat.le_refl _) (Obj.cells #[.string ⟨#[]⟩, .string ⟨#[]⟩, .string ⟨#[]⟩, .string ⟨#[]⟩, .string ⟨#[]⟩, .string ⟨#[]⟩, .string ⟨#[]⟩] 41)
  have k2 := Rs.Blk.new w (Obj.cells #[.string ⟨#[]⟩, .string ⟨#[]⟩, .string ⟨#[]⟩, .string ⟨#[]⟩, .string ⟨#[]⟩, .string ⟨#[]⟩, .string ⟨#[]⟩] 41)
  have k3 := Rs.Blk.new (w.alloc (Obj.cells #[.string ⟨#[]⟩, .string ⟨#[]⟩, .string ⟨#[]⟩, .string ⟨#[]⟩, .string ⟨#[]⟩, .string ⟨#[]⟩, .string ⟨#[]⟩] 41)) (Obj.cells #[.string ⟨#[]⟩, .string ⟨#[]⟩, .string ⟨#[]⟩, .string ⟨#[]⟩, .string ⟨#[]⟩, .string ⟨#[]⟩, .string ⟨#[]⟩, .string ⟨#[]⟩, .string ⟨#[]⟩, .string ⟨#[]⟩, .string ⟨#[]⟩, .string ⟨#[]⟩, .string ⟨#[]⟩, .string ⟨#[]⟩, .string ⟨#[]⟩, .string ⟨#[]⟩, .string ⟨#[]⟩, .string ⟨#[]⟩, .string ⟨#[]⟩, .string ⟨#[]⟩, .string ⟨#[]⟩, .string ⟨#[]⟩, .string ⟨#[]⟩, .string ⟨#[]⟩, .string ⟨#[]⟩, .string ⟨#[]⟩, .string ⟨#[]⟩, .string ⟨#[]⟩, .string ⟨#[]⟩, .string ⟨#[]⟩, .string ⟨#[]⟩, .string ⟨#[]⟩, .string ⟨#[]⟩, .string ⟨#[]⟩, .string ⟨#[]⟩] 80)
  have b2 := (Below.refl (w.alloc (Obj.cells #[.string ⟨#[]⟩, .string ⟨#[]⟩, .string ⟨#[]⟩, .string ⟨#[]⟩, .string ⟨#[]⟩, .string ⟨#[]⟩, .string ⟨#[]⟩] 41)).heap.size (w.alloc (Obj.cells #[.string ⟨#[]⟩, .string ⟨#[]⟩, .string ⟨#[]⟩, .string ⟨#[]⟩, .string ⟨#[]⟩, .string ⟨#[]⟩, .string ⟨#[]⟩] 41))).alloc (Nat.le_refl _) (Obj.cells #[.string ⟨#[]⟩, .string ⟨#[]⟩, .string ⟨#[]⟩, .string ⟨#[]⟩, .string ⟨#[]⟩, .string ⟨#[]⟩, .string ⟨#[]⟩, .string ⟨#[]⟩, .string ⟨#[]⟩, .string ⟨#[]⟩, .string ⟨#[]⟩, .string ⟨#[]⟩, .string ⟨#[]⟩, .string ⟨#[]⟩, .string ⟨#[]⟩, .string ⟨#[]⟩, .string ⟨#[]⟩, .string ⟨#[]⟩, .string ⟨#[]⟩, .string ⟨#[]⟩, .string ⟨#[]⟩, .string ⟨#[]⟩, .string ⟨#[]⟩, .string ⟨#[]⟩, .string ⟨#[]⟩, .string ⟨#[]⟩, .string ⟨#[]⟩, .string ⟨#[]⟩, .string ⟨#[]⟩, .string ⟨#[]⟩, .string ⟨#[]⟩, .string ⟨#[]⟩, .string ⟨#[]⟩, .string ⟨#[]⟩, .string ⟨#[]⟩] 80)
  have k2b := k2.below b2
  rw [hs1] at k3
  have k3b := k3.row Rs.tab
  have k2c := k2b.rowFar Rs.tab (q := w.heap.size + 1) (by omega)
  have bb := Rs.row_below (b1.trans (b2.mono b1.size)) (w.heap.size + 1) Rs.tab (by omega)
  clear hs1 b1 k2 k3 b2 k2b
  revert k3b k2c bb
  generalize World.setRow _ (w.heap.size + 1) Rs.tab = w1
  intro k3b k2c bb
  have H1 := Lib.hid (And.intro k3b (And.intro k2c bb))
  clear k3b k2c bb
  go_wp2_with (refine wpList_store_row rfl 79 (.tmp 4) (.tmp 18) rfl w1.heap.size Rs.e7 rfl rfl 79 _ (heap_alloc_new w1 _) Rs.info79 (by kernel_rfl) Rs.e7_one ?_; rw [World.setRow_alloc_new])
  have hp2 : w.heap.size < w1.heap.size := H1.out.2.1.lt
  have hp3 : w.heap.size + 1 < w1.heap.size := H1.out.1.lt
  have k4 := Rs.Blk.new w1 (Obj.cells Rs.e7 79)
  have b2 := (Below.refl w1.heap.size w1).alloc (Nat.le_refl _) (Obj.cells Rs.e7 79)
  revert k4 b2
  generalize w1.alloc (Obj.cells Rs.e7 79) = w2
  intro k4 b2
  have H2 := Lib.hid (And.intro (H1.out.1.below b2) (And.intro (H1.out.2.1.below b2) (And.intro k4 (And.intro (H1.out.2.2.trans (b2.mono H1.out.2.2.size)) (And.intro hp2 hp3)))))
  clear k4 b2 hp2 hp3
  go_loopw [5] (fun iv wr => ∃ k : Nat, k ≤ 7 ∧ iv = .int .i64 (k : Int) ∧ Rs.Blk wr (w.heap.size + 1) (.cells Rs.tab 80 (0, 0)) ∧ Rs.Blk wr w.heap.size (Obj.cells #[.string ⟨#[]⟩, .string ⟨#[]⟩, .string ⟨#[]⟩, .string ⟨#[]⟩, .string ⟨#[]⟩, .string ⟨#[]⟩, .string ⟨#[]⟩] 41) ∧ Rs.Blk wr w1.heap.size (.cells (Rs.part k) 79 (0, 0)) ∧ Below w.heap.size w wr) (fun iv _ => 7 - (intOf iv).toNat)
  case atStart => exact ⟨0, by omega, rfl, H2.out.1, H2.out.2.1, H2.out.2.2.1, H2.out.2.2.2.1⟩
  case round =>
  obtain ⟨k, hk, rfl, k3, k2, k4, hB⟩ := hrel
  obtain ⟨w4, rfl⟩ : ∃ w4, w4 = wr := ⟨_, rfl⟩
  by_cases hlt : k < 7
  · have hkz : (k : Int) < 7 := by omega
    have hk0 : 0 ≤ (k : Int) := by omega
    have ck := (cell_of_row w4 (w.heap.size + 1) k _ _ _ k3.eq).trans (Rs.tab_at k hlt)
    have HF := Lib.hid (Rs.from0 k hlt w4)
    have H4 := Lib.hid (And.intro k3 (And.intro k2 (And.intro k4 (And.intro hB hlt))))
    clear k3 k2 k4 hB
    go_wp2_with fail
    refine Calls.mono HF.out ?_
    rintro e5 w5 ⟨rfl, hb⟩
    have k4 := H4.out.2.2.1.below hb
    have d0 := (cell_of_row w5 w1.heap.size k _ _ _ k4.eq).trans (Rs.part_cell k k hlt)
    have fz : w5.frozen? ⟨w1.heap.size, k, none⟩ = false := by
      have h := k4.eq
      simp [World.frozen?, h]
    have hk4 := k4.set (j := k) (.string (Rs.kb k))
    rw [Rs.part_set k hlt] at hk4
    have hk2 := (H4.out.2.1.below hb).setFar (j := k) (v := .string (Rs.kb k)) (Nat.ne_of_lt H2.out.2.2.2.2.1)
    have hk3 := (H4.out.1.below hb).setFar (j := k) (v := .string (Rs.kb k)) (Nat.ne_of_lt H2.out.2.2.2.2.2)
    have hbl := (H4.out.2.2.2.1.trans (hb.mono H4.out.2.2.2.1.size)).setCell (p := ⟨w1.heap.size, k, none⟩) (Nat.le_of_lt H2.out.2.2.2.2.1) (.string (Rs.kb k))
    have H5 := Lib.hid (And.intro hk3 (And.intro hk2 (And.intro hk4 hbl)))
    clear hb k4 hk4 hk2 hk3 hbl ck
    go_wp2_with fail
    exact ⟨⟨k + 1, by omega, by go_num, H5.out.1, H5.out.2.1, H5.out.2.2.1, H5.out.2.2.2⟩, by simp [intOf]; omega⟩
  · have hkz : ¬ (k : Int) < 7 := by omega
    obtain rfl : k = 7 := by omega
    have c0 : w4.cell? ⟨w1.heap.size, 0, none⟩ = some (.string (Rs.kb 0)) := (cell_of_row w4 w1.heap.size 0 _ _ _ k4.eq).trans (Rs.part_cell 7 0 (by decide))
    have c1 : w4.cell? ⟨w1.heap.size, 1, none⟩ = some (.string (Rs.kb 1)) := (cell_of_row w4 w1.heap.size 1 _ _ _ k4.eq).trans (Rs.part_cell 7 1 (by decide))
    have c2 : w4.cell? ⟨w1.heap.size, 2, none⟩ = some (.string (Rs.kb 2)) := (cell_of_row w4 w1.heap.size 2 _ _ _ k4.eq).trans (Rs.part_cell 7 2 (by decide))
    have c3 : w4.cell? ⟨w1.heap.size, 3, none⟩ = some (.string (Rs.kb 3)) := (cell_of_row w4 w1.heap.size 3 _ _ _ k4.eq).trans (Rs.part_cell 7 3 (by decide))
    have c4 : w4.cell? ⟨w1.heap.size, 4, none⟩ = some (.string (Rs.kb 4)) := (cell_of_row w4 w1.heap.size 4 _ _ _ k4.eq).trans (Rs.part_cell 7 4 (by decide))
    have c5 : w4.cell? ⟨w1.heap.size, 5, none⟩ = some (.string (Rs.kb 5)) := (cell_of_row w4 w1.heap.size 5 _ _ _ k4.eq).trans (Rs.part_cell 7 5 (by decide))
    have c6 : w4.cell? ⟨w1.heap.size, 6, none⟩ = some (.string (Rs.kb 6)) := (cell_of_row w4 w1.heap.size 6 _ _ _ k4.eq).trans (Rs.part_cell 7 6 (by decide))
    have H4 := Lib.hid (And.intro k2 hB)
    clear k3 k2 k4 hB hlt hk
    go_wp2_with (refine wpList_store_row rfl 41 (.tmp 2) (.tmp 49) rfl w.heap.size Rs.pair0 rfl rfl 41 _ H4.out.1.eq Rs.info41 rfl Rs.pair0_one ?_)
    exact bodyPost_ret (v := .agg Rs.pair0) (results_cell_row rfl _ _ w.heap.size 41 Rs.pair0 (0, 0) _ rfl (H4.out.1.row Rs.pair0).eq Tryz.underlying41 rfl Rs.info41) rfl ⟨rfl, Rs.row_below H4.out.2 _ _ (Nat.le_refl _)⟩
end Go.Proofs.YtfbliccblippiaaGreatDoor
