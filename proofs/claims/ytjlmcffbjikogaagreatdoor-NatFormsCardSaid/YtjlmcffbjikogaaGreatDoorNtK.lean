/- make of limbs: noughts. -/
import Derived.Test.YtjlmcffbjikogaaGreatDoorNtJ
import Derived.Laws.MakeOwn
import Derived.Laws.CopyOwn
import Derived.OwnWalk
namespace Go.Proofs.YtjlmcffbjikogaaGreatDoor
open Go.RowKit

theorem Nt.info32 : (Tryz.prog.info? 75).map (fun i => (i.zero, i.size, i.bytes)) = some (some (.int .u32 0), 1, 4) := by kernel_rfl
theorem Nt.made (c : Nat) : madeCells (Value.int .u32 0).cells (c * 1) = (List.replicate c (Value.int .u32 0)).toArray := by
  apply Array.ext_getElem?
  intro j
  by_cases hj : j < c
  · simp [madeCells, Value.cells, hj, Nat.mod_one]
  · rw [Array.getElem?_eq_none (by rw [size_madeCells]; omega), Array.getElem?_eq_none (by simp; omega)]
theorem Nt.wpList_make {w : World} {ops : Array Oper} {rest : List Oper} {o : Oper} {a : Act} {Q : Exit → Act → World → Prop} (hg : o.guard = none) (l c : Operand) (hop : o.op = Op.makeSlice 57 l c) (C : Nat)
    (hl : a.eval l = .int .i64 (C : Int)) (hc : a.eval c = .int .i64 (C : Int)) (hC : C ≤ 1000000)
    (hK : wpList Tryz.prog ops Q rest (a.put o.dst (.slice (some ⟨w.heap.size, 0, none⟩) C C)) (w.alloc (.cells (List.replicate C (Value.int .u32 0)).toArray 75))) : wpList Tryz.prog ops Q (o :: rest) a w := by
  obtain ⟨i0, hi, hz0, hz1, hz2⟩ := info_parts Nt.info32
  have hr := run_make (P := Tryz.prog) w 57 75 i0 (.int .u32 0) Tryz.underlying57 hi hz0 .i64 .i64 (C : Int) (C : Int) (by omega) (by omega) (by rw [hz2]; omega) (by omega)
  rw [hz1] at hr
  simp only [Int.toNat_natCast] at hr
  rw [Nt.made] at hr
  refine wpList_plain hg fun K hK2 => ?_
  unfold Oper.wp
  simp [execOp, hop, hl, hc, hr, Result.andThen]
  exact hK2 _ _ hK
end Go.Proofs.YtjlmcffbjikogaaGreatDoor
