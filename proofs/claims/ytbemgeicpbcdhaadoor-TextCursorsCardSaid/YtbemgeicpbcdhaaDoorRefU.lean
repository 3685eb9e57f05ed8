/- The reference's May, Rune, low, high. -/
import Derived.Test.YtbemgeicpbcdhaaDoorRefA
import Derived.Test.YtbemgeicpbcdhaaDoorUniS
import Derived.Test.YtbemgeicpbcdhaaDoorPartsM
namespace Go.Proofs.YtbemgeicpbcdhaaDoor
open Go.RowKit

/-- A world behind w0: what lay below is as it was. -/
structure Tx.Up (w0 w : World) : Prop where
  below : Below w0.heap.size w0 w
  size : w0.heap.size ≤ w.heap.size
theorem Tx.Up.start (w : World) : Tx.Up w w := ⟨Below.refl _ _, Nat.le_refl _⟩
theorem Tx.Up.drew {w0 w : World} (h : Tx.Up w0 w) : Tx.Up w0 w.drew := ⟨h.below.drew, h.size⟩
theorem Tx.Up.then {w0 w w' : World} (hb : Below w.heap.size w w') (h : Tx.Up w0 w) : Tx.Up w0 w' := ⟨h.below.trans (hb.mono h.size), Nat.le_trans h.size hb.size⟩
theorem Tx.Up.alloc {w0 w : World} (h : Tx.Up w0 w) (o : Obj) : Tx.Up w0 (w.alloc o) := Tx.Up.then ((Below.refl _ _).alloc (Nat.le_refl _) o) h
theorem Tx.Up.drewN {w0 w : World} (h : Tx.Up w0 w) (n : Nat) : Tx.Up w0 (w.drewN n) := Tx.Up.then (Tx.drewN_below w n) h
theorem Tx.Up.above {w0 w w' : World} {B : Nat} (hb : Below B w w') (hB : w0.heap.size ≤ B) (hs : B ≤ w'.heap.size) (h : Tx.Up w0 w) : Tx.Up w0 w' :=
  ⟨h.below.trans (hb.mono hB), Nat.le_trans hB hs⟩

theorem Tx.Own.made (w : World) (B : Nat) (hB : B ≤ w.heap.size) (l : List UInt8) (hl : l.length ≤ 1000) : Tx.Own (w.alloc (.cells (l.map Tx.bv).toArray 5)) B (.slice (some ⟨w.heap.size, 0, none⟩) l.length l.length) l :=
  ⟨by simp, .inr ⟨w.heap.size, l.length, (l.map Tx.bv).toArray, rfl, hB, heap_alloc_new w _, Nat.le_refl _, by unfold maxLen; omega, by simp, by simp [List.take_of_length_le]⟩⟩
theorem Tx.conv_made (w : World) (l : List UInt8) (n : Nat) (cs : Array Value) (hn : n = l.length) (hc : cs = (l.map Tx.bv).toArray) (hl : l.length ≤ 1000) :
    (convert 38 9 (.slice (some ⟨w.heap.size, 0, none⟩) n n)).run Tryd.prog (w.alloc (.cells cs 5)) = .ok (.string (Tx.ba l)) (w.alloc (.cells cs 5)) := by
  subst hn hc
  exact (Tx.Own.made w w.heap.size (Nat.le_refl _) l hl).conv

theorem Tx.byteOf (n : Nat) (h : n < 256) : ∃ c : UInt8, c = UInt8.ofNat n ∧ c.toNat = n := ⟨_, rfl, Tx.o8 n h⟩
end Go.Proofs.YtbemgeicpbcdhaaDoor
