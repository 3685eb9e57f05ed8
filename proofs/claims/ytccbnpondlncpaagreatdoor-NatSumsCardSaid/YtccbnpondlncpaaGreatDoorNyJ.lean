/- What the rows' list of package-level variables gives the walks, and a world that holds them. -/
import Derived.Test.YtccbnpondlncpaaGreatDoorRows
import Derived.Test.YtccbnpondlncpaaGreatDoorNyI
import Derived.ProofKit
import Derived.Deep.DeepHandedRow
import Derived.Deep.DeepWitnessRowRef
import Derived.Lib.LaidU8
import Derived.PinnedBridge
import Derived.Stop.Joined
import Derived.Stop.LaidTwo
import Derived.LaidHandle
import Derived.SizedLaws
namespace Go.Proofs.YtccbnpondlncpaaGreatDoor
open Go.RowKit

def Nt.laidL : List (String × DataW Unit) := [("unicode/utf8.acceptRanges", Rows.laid_unicode_utf8_acceptRanges), ("ostiary/nat.errLong", Rows.laid_ostiary_nat_errLong), ("ostiary/nat.errZero", Rows.laid_ostiary_nat_errZero), ("ostiary/nat.errBelow", Rows.laid_ostiary_nat_errBelow), ("ostiary/nat.errNone", Rows.laid_ostiary_nat_errNone), ("ostiary/nat.errEven", Rows.laid_ostiary_nat_errEven), ("ostiary/nat.errWide", Rows.laid_ostiary_nat_errWide), ("unicode/utf8.first", Rows.laid_unicode_utf8_first)]
theorem Nt.own : ownKnob Tryz.prog.godebug = none := by kernel_rfl
theorem Nt.gLong : Tryz.prog.globalNamed "ostiary/nat.errLong" = some 1 := by kernel_rfl
theorem Nt.gZero : Tryz.prog.globalNamed "ostiary/nat.errZero" = some 2 := by kernel_rfl
theorem Nt.gBelow : Tryz.prog.globalNamed "ostiary/nat.errBelow" = some 0 := by kernel_rfl
theorem Nt.gNone : Tryz.prog.globalNamed "ostiary/nat.errNone" = some 3 := by kernel_rfl
theorem Nt.gEven : Tryz.prog.globalNamed "ostiary/nat.errEven" = some 4 := by kernel_rfl
theorem Nt.gWide : Tryz.prog.globalNamed "ostiary/nat.errWide" = some 5 := by kernel_rfl
theorem Nt.star : "*" ++ "errors.errorString" = "*errors.errorString" := by decide
theorem Nt.rowE (u : TypeId) (h : Tryz.prog.typeName? 3 u = some "*errors.errorString") : u = 142 :=
  typeName_ptr_named (P := Tryz.prog) (nm := "errors.errorString") (tp := 142) (by rw [Nt.star]; kernel_rfl) (by kernel_rfl) (by decide) u (by rw [Nt.star]; exact h)
theorem Nt.cells1 : Tryz.prog.cellsOf 164 = 1 := by kernel_rfl
theorem Nt.cells2 : Tryz.prog.cellsOf 9 = 1 := by kernel_rfl
theorem Nt.ok_of_laid {W : World} (h : laidMetH Tryz.prog Nt.laidL W) : Nt.Ok W := by
  have h' : laidMet Tryz.prog [("unicode/utf8.acceptRanges", Rows.laid_unicode_utf8_acceptRanges), ("ostiary/nat.errLong", Rows.laid_ostiary_nat_errLong), ("ostiary/nat.errZero", Rows.laid_ostiary_nat_errZero), ("ostiary/nat.errBelow", Rows.laid_ostiary_nat_errBelow), ("ostiary/nat.errNone", Rows.laid_ostiary_nat_errNone), ("ostiary/nat.errEven", Rows.laid_ostiary_nat_errEven), ("ostiary/nat.errWide", Rows.laid_ostiary_nat_errWide), ("unicode/utf8.first", Rows.laid_unicode_utf8_first)] W := h
  have h0 := h'.tail
  have h1 := h0.tail
  have h2 := h1.tail
  have h3 := h2.tail
  have h4 := h3.tail
  obtain ⟨a30, a31, s30, s31, c30, c31, t30, t31, v30, v31, e30, x30, _, e31, x31, _, _, b30, b31⟩ := laid_sentinels2 h0 Nt.gLong (by kernel_rfl) Nt.gZero (by kernel_rfl) Tryz.underlying59 Nt.rowE Tryz.underlying142 Tryz.underlying164 rfl rfl Tryz.underlying9 Nt.cells1 Nt.cells2
  obtain ⟨a32, a33, s32, s33, c32, c33, t32, t33, v32, v33, e32, x32, _, e33, x33, _, _, b32, b33⟩ := laid_sentinels2 h2 Nt.gBelow (by kernel_rfl) Nt.gNone (by kernel_rfl) Tryz.underlying59 Nt.rowE Tryz.underlying142 Tryz.underlying164 rfl rfl Tryz.underlying9 Nt.cells1 Nt.cells2
  obtain ⟨a34, a35, s34, s35, c34, c35, t34, t35, v34, v35, e34, x34, _, e35, x35, _, _, b34, b35⟩ := laid_sentinels2 h4 Nt.gEven (by kernel_rfl) Nt.gWide (by kernel_rfl) Tryz.underlying59 Nt.rowE Tryz.underlying142 Tryz.underlying164 rfl rfl Tryz.underlying9 Nt.cells1 Nt.cells2
  have r30 : W.cell? ⟨1, 0, none⟩ = some (.iface 142 (.pointer (some a30))) := by simpa using World.var?_cell Nt.gLong v30 0
  have r31 : W.cell? ⟨2, 0, none⟩ = some (.iface 142 (.pointer (some a31))) := by simpa using World.var?_cell Nt.gZero v31 0
  have r32 : W.cell? ⟨0, 0, none⟩ = some (.iface 142 (.pointer (some a32))) := by simpa using World.var?_cell Nt.gBelow v32 0
  have r33 : W.cell? ⟨3, 0, none⟩ = some (.iface 142 (.pointer (some a33))) := by simpa using World.var?_cell Nt.gNone v33 0
  have r34 : W.cell? ⟨4, 0, none⟩ = some (.iface 142 (.pointer (some a34))) := by simpa using World.var?_cell Nt.gEven v34 0
  have r35 : W.cell? ⟨5, 0, none⟩ = some (.iface 142 (.pointer (some a35))) := by simpa using World.var?_cell Nt.gWide v35 0
  intro k k1 k2
  have hk : k = 30 ∨ k = 31 ∨ k = 32 ∨ k = 33 ∨ k = 34 ∨ k = 35 := by omega
  rcases hk with rfl | rfl | rfl | rfl | rfl | rfl
  · exact ⟨a30, r30, ⟨s30, e30, x30⟩, ⟨c30, t30, b30⟩⟩
  · exact ⟨a31, r31, ⟨s31, e31, x31⟩, ⟨c31, t31, b31⟩⟩
  · exact ⟨a32, r32, ⟨s32, e32, x32⟩, ⟨c32, t32, b32⟩⟩
  · exact ⟨a33, r33, ⟨s33, e33, x33⟩, ⟨c33, t33, b33⟩⟩
  · exact ⟨a34, r34, ⟨s34, e34, x34⟩, ⟨c34, t34, b34⟩⟩
  · exact ⟨a35, r35, ⟨s35, e35, x35⟩, ⟨c35, t35, b35⟩⟩

/-- The text of the error k. -/
def Nt.sOf (k : Nat) : Value := .string ⟨(Nt.tOf k).toArray⟩
/-- A world that holds them: the errors' structs in blocks of their own behind what there is. -/
noncomputable def Nt.laidWorld (os : Os) : World :=
  let w0 := World.holding Tryz.prog os ⟨#[], #[], []⟩
  let n := w0.heap.size
  let put (h : Array Obj) (g : Nat) (cs : Array Value) : Array Obj := h.modify g fun
    | .cells _ t frozen => .cells cs t frozen
    | o => o
  let h0 := ((((((w0.heap.push (.cells #[Nt.sOf 30] 164 (0, 0))).push (.cells #[Nt.sOf 31] 164 (0, 0))).push (.cells #[Nt.sOf 32] 164 (0, 0))).push (.cells #[Nt.sOf 33] 164 (0, 0))).push (.cells #[Nt.sOf 34] 164 (0, 0))).push (.cells #[Nt.sOf 35] 164 (0, 0)))
  let ptr (i : Nat) : Array Value := #[.iface 142 (.pointer (some ⟨n + i, 0, none⟩))]
  let h1 := put h0 7 (Lib.firstTab.map fun z => Value.int .u8 z).toArray
  let h2 := put h1 8 ((List.range 16).flatMap fun i => [Value.int .u8 (Lib.accLo i), Value.int .u8 (Lib.accHi i)]).toArray
  let h3 := put (put (put (put (put (put h2 1 (ptr 0)) 2 (ptr 1)) 0 (ptr 2)) 3 (ptr 3)) 4 (ptr 4)) 5 (ptr 5)
  { w0 with heap := h3 }
theorem Nt.laid_met (os : Os) (args : Array Value) : laidMetH Tryz.prog Nt.laidL ((Nt.laidWorld os).forCall (fun _ _ => 0) ⟨#[], args, []⟩).memory :=
  laidMetH_of_parts (laidMet_of_run' 8 (by kernel_rfl) (by kernel_rfl)) (by kernel_rfl)
end Go.Proofs.YtccbnpondlncpaaGreatDoor
