/- What a hash is in memory; how a block is summed into it. -/
import Derived.Test.YtelfhdihkeafnaaHsN
import Derived.Deep.CutRange
import Derived.Deep.RegionHeld3
namespace Go.Proofs.Ytelfhdihkeafnaa
open Go.RowKit
/-- The cells of a hash: its kind, its state, what was written behind the last whole block, how much was written. -/
def Hs.cf (κ : Nat) (v : Hs.V8) (R : Nat → Nat) (n : Nat) (j : Nat) : Value :=
  if j = 0 then .int .i64 (κ : Int) else if j < 9 then .int .u64 (v.get (j - 1) : Int) else if j < 137 then .int .u8 (R (j - 9) : Int) else .int .i64 (n : Int)
def Hs.At (w : World) (p κ : Nat) (v : Hs.V8) (R : Nat → Nat) (n : Nat) : Prop := Hs.Blk w p 62 138 (Hs.cf κ v R n)
theorem Hs.At.kind {w : World} {p κ : Nat} {v : Hs.V8} {R : Nat → Nat} {n : Nat} (h : Hs.At w p κ v R n) : w.cell? ⟨p, 0, none⟩ = some (.int .i64 (κ : Int)) := Hs.Blk.cell h (j := 0) (by omega)
theorem Hs.At.len {w : World} {p κ : Nat} {v : Hs.V8} {R : Nat → Nat} {n : Nat} (h : Hs.At w p κ v R n) : w.cell? ⟨p, 137, none⟩ = some (.int .i64 (n : Int)) := Hs.Blk.cell h (j := 137) (by omega)
theorem Hs.At.rest {w : World} {p κ : Nat} {v : Hs.V8} {R : Nat → Nat} {n : Nat} (h : Hs.At w p κ v R n) (j : Nat) (hj : j < 128) : w.cell? ⟨p, 9 + j, none⟩ = some (.int .u8 (R j : Int)) := by
  rw [Hs.Blk.cell h (j := 9 + j) (by omega)]
  unfold Hs.cf
  rw [if_neg (by omega), if_neg (by omega), if_pos (by omega), Nat.add_sub_cancel_left]
theorem Hs.At.state {w : World} {p κ : Nat} {v : Hs.V8} {R : Nat → Nat} {n : Nat} (h : Hs.At w p κ v R n) (j : Nat) (hj : j < 8) : w.cell? ⟨p, 1 + j, none⟩ = some (.int .u64 (v.get j : Int)) := by
  rw [Hs.Blk.cell h (j := 1 + j) (by omega)]
  unfold Hs.cf
  rw [if_neg (by omega), if_pos (by omega), Nat.add_sub_cancel_left]
def Hs.stateL (v : Hs.V8) : List Value := (List.range 8).map fun j => Value.int .u64 (v.get j : Int)
theorem Hs.stateL_row (v : Hs.V8) : (Hs.stateL v).toArray = Hs.row .u64 8 v.get := rfl
theorem Hs.At.range {w : World} {p κ : Nat} {v : Hs.V8} {R : Nat → Nat} {n : Nat} (h : Hs.At w p κ v R n) : w.rangeAt p 1 (Hs.stateL v) := fun j x hx => by
  have hj : j < 8 := by have := (List.getElem?_eq_some_iff.1 hx).1; simpa [Hs.stateL] using this
  rw [h.state j hj]
  simpa [Hs.stateL, hj] using hx
theorem Hs.At.below {w w' : World} {p κ B : Nat} {v : Hs.V8} {R : Nat → Nat} {n : Nat} (h : Hs.At w p κ v R n) (hb : Below B w w') (hB : p < B) : Hs.At w' p κ v R n := Hs.Blk.below h hb hB
theorem Hs.At.lt {w : World} {p κ : Nat} {v : Hs.V8} {R : Nat → Nat} {n : Nat} (h : Hs.At w p κ v R n) : p < w.heap.size := Hs.Blk.lt h
theorem Hs.At.but {w w' : World} {p κ b : Nat} {v : Hs.V8} {R : Nat → Nat} {n : Nat} (h : Hs.At w p κ v R n) (hb : Hs.But b w w') (hp : p ≠ b) : Hs.At w' p κ v R n := (hb.block p h.lt hp).trans h
theorem Hs.At.setState {w : World} {p κ : Nat} {v : Hs.V8} {R : Nat → Nat} {n : Nat} (h : Hs.At w p κ v R n) (u : Hs.V8) : Hs.At (w.setCells p 1 (Hs.stateL u)) p κ u R n := by
  refine Hs.Blk.congr (Hs.Blk.setCells (Hs.stateL u) 1 w _ h) fun j hj => ?_
  have hl : (Hs.stateL u).length = 8 := by simp [Hs.stateL]
  rw [hl]
  unfold Hs.cf
  by_cases h1 : 1 ≤ j ∧ j < 1 + 8
  · rw [if_pos h1, if_neg (by omega), if_pos (by omega)]
    simp [Hs.stateL, List.getD_eq_getElem?_getD, show j - 1 < 8 by omega]
  · rw [if_neg h1]
    by_cases h0 : j = 0
    · rw [if_pos h0, if_pos h0]
    · have h9 : ¬ j < 9 := by omega
      rw [if_neg h0, if_neg h0, if_neg h9, if_neg h9]
theorem Hs.At.setRest {w : World} {p κ : Nat} {v : Hs.V8} {R : Nat → Nat} {n : Nat} (h : Hs.At w p κ v R n) (l : List UInt8) (a : Nat) (ha : a + l.length ≤ 128) :
    Hs.At (w.setCells p (9 + a) (Hs.cellsOf l)) p κ v (fun j => if a ≤ j ∧ j < a + l.length then (l.getD (j - a) 0).toNat else R j) n := by
  refine Hs.Blk.congr (Hs.Blk.setCells (Hs.cellsOf l) (9 + a) w _ h) fun j hj => ?_
  have hl : (Hs.cellsOf l).length = l.length := by simp [Hs.cellsOf]
  rw [hl]
  unfold Hs.cf
  by_cases h1 : 9 + a ≤ j ∧ j < 9 + a + l.length
  · rw [if_pos h1, if_neg (by omega), if_neg (by omega), if_pos (by omega)]
    simp only []
    rw [if_pos (by omega), show j - 9 - a = j - (9 + a) by omega]
    simp [Hs.cellsOf, List.getD_eq_getElem?_getD, show j - (9 + a) < l.length by omega]
  · rw [if_neg h1]
    by_cases h0 : j = 0
    · rw [if_pos h0, if_pos h0]
    · by_cases h9 : j < 9
      · rw [if_neg h0, if_neg h0, if_pos h9, if_pos h9]
      · by_cases h137 : j < 137
        · rw [if_neg h0, if_neg h0, if_neg h9, if_neg h9, if_pos h137, if_pos h137]
          simp only []
          rw [if_neg (by omega)]
        · rw [if_neg h0, if_neg h0, if_neg h9, if_neg h9, if_neg h137, if_neg h137]
theorem Hs.At.setLen {w : World} {p κ : Nat} {v : Hs.V8} {R : Nat → Nat} {n : Nat} (h : Hs.At w p κ v R n) (k : Nat) : Hs.At (w.setCell ⟨p, 137, none⟩ (.int .i64 (k : Int))) p κ v R k := by
  refine Hs.Blk.congr (Hs.Blk.set h 137 (.int .i64 (k : Int))) fun j hj => ?_
  unfold Hs.cf
  by_cases h1 : j = 137
  · rw [if_pos h1, if_neg (by omega), if_neg (by omega), if_neg (by omega)]
  · rw [if_neg h1]
    by_cases h0 : j = 0
    · rw [if_pos h0, if_pos h0]
    · by_cases h9 : j < 9
      · rw [if_neg h0, if_neg h0, if_pos h9, if_pos h9]
      · rw [if_neg h0, if_neg h0, if_neg h9, if_neg h9, if_pos (by omega), if_pos (by omega)]
/-- A hash of the bytes m: the state behind the whole blocks, and what is behind them. -/
structure Hs.Is (w : World) (p κ : Nat) (m : List UInt8) : Prop where
  kind : κ < 2
  size : m.length ≤ 1152921504606846975
  obj : ∃ R : Nat → Nat, (∀ j, R j < 256) ∧ (∀ j, j < m.length % Hs.blk κ → R j = (m.getD (m.length / Hs.blk κ * Hs.blk κ + j) 0).toNat) ∧ Hs.At w p κ (Hs.after κ m (m.length / Hs.blk κ)) R m.length
end Go.Proofs.Ytelfhdihkeafnaa
