/- Arrays of numbers: what they hold, cell by cell. -/
import Derived.Test.YtejnkchfjkhheaaHsB
import Derived.Deep.CutRange
namespace Go.Proofs.Ytejnkchfjkhheaa
open Go.RowKit

structure Hs.Up (w0 w : World) : Prop where
  below : Below w0.heap.size w0 w
  size : w0.heap.size ≤ w.heap.size
theorem Hs.Up.start (w : World) : Hs.Up w w := ⟨Below.refl _ _, Nat.le_refl _⟩
theorem Hs.Up.then {w0 w w' : World} (hb : Below w.heap.size w w') (h : Hs.Up w0 w) : Hs.Up w0 w' := ⟨h.below.trans (hb.mono h.size), Nat.le_trans h.size hb.size⟩
theorem Hs.Up.alloc {w0 w : World} (h : Hs.Up w0 w) (o : Obj) : Hs.Up w0 (w.alloc o) := Hs.Up.then ((Below.refl _ _).alloc (Nat.le_refl _) o) h
theorem Hs.drewN_below (w : World) : ∀ n, Below w.heap.size w (w.drewN n) := below_drewN (Below.refl _ _)
theorem Hs.Up.drewN {w0 w : World} (h : Hs.Up w0 w) (n : Nat) : Hs.Up w0 (w.drewN n) := Hs.Up.then (Hs.drewN_below w n) h

/-- n cells of a kind, told by a function. -/
def Hs.row (k : IntKind) (n : Nat) (f : Nat → Nat) : Array Value := ((List.range n).map fun j => Value.int k (f j : Int)).toArray
theorem Hs.row_size (k : IntKind) (n : Nat) (f : Nat → Nat) : (Hs.row k n f).size = n := by simp [Hs.row]
theorem Hs.row_get (k : IntKind) (n : Nat) (f : Nat → Nat) (j : Nat) (h : j < n) : (Hs.row k n f)[j]? = some (.int k (f j : Int)) := by
  simp [Hs.row, h]
theorem Hs.row_set (k : IntKind) (n : Nat) (f : Nat → Nat) (i x : Nat) : (Hs.row k n f).setIfInBounds i (.int k (x : Int)) = Hs.row k n (fun j => if j = i then x else f j) := by
  apply Array.ext_getElem?
  intro j
  rw [Array.getElem?_setIfInBounds]
  by_cases hj : j < n
  · rw [Hs.row_get _ _ _ _ hj]
    by_cases hi : i = j
    · subst hi
      rw [if_pos rfl, if_pos (by rw [Hs.row_size]; exact hj), Hs.row_get _ _ _ _ hj, if_pos rfl]
    · rw [if_neg hi, Hs.row_get _ _ _ _ hj, if_neg (fun e => hi e.symm)]
  · have h1 : (Hs.row k n f)[j]? = none := by rw [Array.getElem?_eq_none]; rw [Hs.row_size]; omega
    have h2 : (Hs.row k n (fun j => if j = i then x else f j))[j]? = none := by rw [Array.getElem?_eq_none]; rw [Hs.row_size]; omega
    rw [h1, h2]
    split
    · rw [if_neg (by rw [Hs.row_size]; omega)]
    · rfl
theorem Hs.row_congr (k : IntKind) (n : Nat) (f g : Nat → Nat) (h : ∀ j, j < n → f j = g j) : Hs.row k n f = Hs.row k n g := by
  unfold Hs.row
  congr 1
  apply List.map_congr_left
  intro j hj
  rw [h j (List.mem_range.1 hj)]
theorem Hs.row_one (k : IntKind) (n : Nat) (f : Nat → Nat) : (Hs.row k n f).all (·.oneCell') = true := by
  rw [Array.all_eq_true_iff_forall_mem]
  intro v hv
  simp only [Hs.row, List.mem_toArray, List.mem_map] at hv
  obtain ⟨j, _, rfl⟩ := hv
  rfl
/-- Block b is an array of n numbers of kind k, of type T, told by f. -/
def Hs.Arr (w : World) (b : Nat) (T : TypeId) (k : IntKind) (n : Nat) (f : Nat → Nat) : Prop := w.heap[b]? = some (.cells (Hs.row k n f) T (0, 0))
theorem Hs.Arr.cell {w : World} {b n : Nat} {T : TypeId} {k : IntKind} {f : Nat → Nat} (h : Hs.Arr w b T k n f) {j : Nat} (hj : j < n) : w.cell? ⟨b, j, none⟩ = some (.int k (f j : Int)) := by
  have h' : w.heap[b]? = some (.cells (Hs.row k n f) T (0, 0)) := h
  simp only [World.cell?, h']
  exact Hs.row_get k n f j hj
theorem Hs.Arr.frozen {w : World} {b n : Nat} {T : TypeId} {k : IntKind} {f : Nat → Nat} (h : Hs.Arr w b T k n f) (j : Nat) : w.frozen? ⟨b, j, none⟩ = false := by
  have h' : w.heap[b]? = some (.cells (Hs.row k n f) T (0, 0)) := h
  simp [World.frozen?, h']
theorem Hs.Arr.set {w : World} {b n : Nat} {T : TypeId} {k : IntKind} {f : Nat → Nat} (h : Hs.Arr w b T k n f) (i x : Nat) : Hs.Arr (w.setCell ⟨b, i, none⟩ (.int k (x : Int))) b T k n (fun j => if j = i then x else f j) := by
  have h' : w.heap[b]? = some (.cells (Hs.row k n f) T (0, 0)) := h
  have : (w.setCell ⟨b, i, none⟩ (.int k (x : Int))).heap[b]? = some (.cells ((Hs.row k n f).setIfInBounds i (.int k (x : Int))) T (0, 0)) := by
    simp [World.setCell, Array.getElem?_modify, h']
  rw [Hs.row_set] at this
  exact this
theorem Hs.Arr.congr {w : World} {b n : Nat} {T : TypeId} {k : IntKind} {f g : Nat → Nat} (h : Hs.Arr w b T k n f) (e : ∀ j, j < n → f j = g j) : Hs.Arr w b T k n g := by
  unfold Hs.Arr at *
  rw [← Hs.row_congr k n f g e]; exact h
theorem Hs.Arr.lt {w : World} {b n : Nat} {T : TypeId} {k : IntKind} {f : Nat → Nat} (h : Hs.Arr w b T k n f) : b < w.heap.size := (Array.getElem?_eq_some_iff.1 h).1
theorem Hs.Arr.below {w w' : World} {b B n : Nat} {T : TypeId} {k : IntKind} {f : Nat → Nat} (h : Hs.Arr w b T k n f) (hb : Below B w w') (hB : b < B) : Hs.Arr w' b T k n f := (hb.block b hB).trans h
/-- A block that another block's store leaves alone. -/
theorem Hs.heap_set (w : World) (p : Addr) (v : Value) (b : Nat) (h : b ≠ p.block) : (w.setCell p v).heap[b]? = w.heap[b]? := by
  simp only [World.setCell, Array.getElem?_modify]
  rw [if_neg (fun e => h e.symm)]
/-- The zero value of an array of 80 numbers. -/
theorem Hs.info81 : (Try.prog.info? 81).map (fun i => (i.zero, i.size)) = some (some (.agg (Hs.row .u32 80 fun _ => 0)), 80) := by kernel_rfl
theorem Hs.info83 : (Try.prog.info? 83).map (fun i => (i.zero, i.size)) = some (some (.agg (Hs.row .u64 80 fun _ => 0)), 80) := by kernel_rfl
theorem Hs.zero81 (w : World) : (zeroValue 81).run Try.prog w = .ok (.agg (Hs.row .u32 80 fun _ => 0)) w := (zero_of_info Hs.info81).1 w
theorem Hs.zero83 (w : World) : (zeroValue 83).run Try.prog w = .ok (.agg (Hs.row .u64 80 fun _ => 0)) w := (zero_of_info Hs.info83).1 w
theorem Hs.size81 : (Try.prog.info? 81).map (·.size) = some 80 := (zero_of_info Hs.info81).2
theorem Hs.size83 : (Try.prog.info? 83).map (·.size) = some 80 := (zero_of_info Hs.info83).2

/-- The bytes of a word, so many of them; the word. -/
def Hs.part (n wb : Nat) (B : Nat → Nat) (i : Nat) : Nat → Nat
  | 0 => 0
  | k + 1 => Hs.part n wb B i k * 256 % 2 ^ n ||| B (i * wb + k)
theorem Hs.part_lt (n wb : Nat) (B : Nat → Nat) (i : Nat) (hn : 8 ≤ n) (hB : ∀ j, B j < 256) : ∀ k, Hs.part n wb B i k < 2 ^ n
  | 0 => Nat.two_pow_pos n
  | k + 1 => Nat.or_lt_two_pow (Nat.mod_lt _ (Nat.two_pow_pos n)) (Nat.lt_of_lt_of_le (hB _) (Nat.pow_le_pow_right (n := 2) (by decide) hn))
end Go.Proofs.Ytejnkchfjkhheaa
