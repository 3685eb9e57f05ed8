/- What the rows' list of package-level variables gives the walks, and a world that holds them. -/
import Derived.Test.YthlecdggkolgmaaGreatDoorRows
import Derived.Test.YthlecdggkolgmaaGreatDoorRsI
import Derived.ProofKit
import Derived.Deep.DeepHandedRow
import Derived.Deep.DeepWitnessRowRef
import Derived.Lib.LaidU8
import Derived.PinnedBridge
import Derived.Stop.Joined
import Derived.Stop.LaidTwo
import Derived.LaidHandle
import Derived.SizedLaws
namespace Go.Proofs.YthlecdggkolgmaaGreatDoor
open Go.RowKit
def Rs.laidL : List (String × DataW Unit) := [("unicode/utf8.acceptRanges", Rows.laid_unicode_utf8_acceptRanges), ("ostiary/nat.errLong", Rows.laid_ostiary_nat_errLong), ("ostiary/nat.errZero", Rows.laid_ostiary_nat_errZero), ("ostiary/nat.errBelow", Rows.laid_ostiary_nat_errBelow), ("ostiary/nat.errNone", Rows.laid_ostiary_nat_errNone), ("ostiary/nat.errEven", Rows.laid_ostiary_nat_errEven), ("ostiary/nat.errWide", Rows.laid_ostiary_nat_errWide), ("ostiary/rsa.errKey", Rows.laid_ostiary_rsa_errKey), ("ostiary/rsa.errSize", Rows.laid_ostiary_rsa_errSize), ("ostiary/rsa.errBlock", Rows.laid_ostiary_rsa_errBlock), ("unicode/utf8.first", Rows.laid_unicode_utf8_first)]
theorem Rs.own : ownKnob Tryz.prog.godebug = none := by kernel_rfl
theorem Rs.g30 : Tryz.prog.globalNamed "ostiary/nat.errLong" = some 6 := by kernel_rfl
theorem Rs.g31 : Tryz.prog.globalNamed "ostiary/nat.errZero" = some 4 := by kernel_rfl
theorem Rs.g32 : Tryz.prog.globalNamed "ostiary/nat.errBelow" = some 7 := by kernel_rfl
theorem Rs.g33 : Tryz.prog.globalNamed "ostiary/nat.errNone" = some 8 := by kernel_rfl
theorem Rs.g34 : Tryz.prog.globalNamed "ostiary/nat.errEven" = some 9 := by kernel_rfl
theorem Rs.g35 : Tryz.prog.globalNamed "ostiary/nat.errWide" = some 5 := by kernel_rfl
theorem Rs.g40 : Tryz.prog.globalNamed "ostiary/rsa.errKey" = some 0 := by kernel_rfl
theorem Rs.g41 : Tryz.prog.globalNamed "ostiary/rsa.errSize" = some 1 := by kernel_rfl
theorem Rs.g42 : Tryz.prog.globalNamed "ostiary/rsa.errBlock" = some 2 := by kernel_rfl
theorem Rs.star : "*" ++ "errors.errorString" = "*errors.errorString" := by decide
theorem Rs.rowE (u : TypeId) (h : Tryz.prog.typeName? 3 u = some "*errors.errorString") : u = 200 :=
  typeName_ptr_named (P := Tryz.prog) (nm := "errors.errorString") (tp := 200) (by rw [Rs.star]; kernel_rfl) (by kernel_rfl) (by decide) u (by rw [Rs.star]; exact h)
theorem Rs.cells1 : Tryz.prog.cellsOf 222 = 1 := by kernel_rfl
theorem Rs.cells2 : Tryz.prog.cellsOf 9 = 1 := by kernel_rfl
/-- A world that holds them: the errors' structs in blocks of their own behind what there is. -/
noncomputable def Rs.laidWorld (os : Os) : World :=
  let w0 := World.holding Tryz.prog os ⟨#[],#[],[]⟩
  let n := w0.heap.size
  let put (h : Array Obj) (g : Nat) (cs : Array Value) : Array Obj := h.modify g fun
    | .cells _ t frozen => .cells cs t frozen
    | o => o
  let h0 := (((((((((w0.heap.push (.cells #[.string ⟨(Nt.tOf 30).toArray⟩] 222 (0,0))).push (.cells #[.string ⟨(Nt.tOf 31).toArray⟩] 222 (0,0))).push (.cells #[.string ⟨(Nt.tOf 32).toArray⟩] 222 (0,0))).push (.cells #[.string ⟨(Nt.tOf 33).toArray⟩] 222 (0,0))).push (.cells #[.string ⟨(Nt.tOf 34).toArray⟩] 222 (0,0))).push (.cells #[.string ⟨(Nt.tOf 35).toArray⟩] 222 (0,0))).push (.cells #[.string ⟨(Rs.tOf 40).toArray⟩] 222 (0,0))).push (.cells #[.string ⟨(Rs.tOf 41).toArray⟩] 222 (0,0))).push (.cells #[.string ⟨(Rs.tOf 42).toArray⟩] 222 (0,0)))
  let ptr (i : Nat) : Array Value := #[.iface 200 (.pointer (some ⟨n + i,0,none⟩))]
  let h1 := put h0 11 (Lib.firstTab.map fun z => Value.int .u8 z).toArray
  let h2 := put h1 12 ((List.range 16).flatMap fun i => [Value.int .u8 (Lib.accLo i),Value.int .u8 (Lib.accHi i)]).toArray
  let h3 := (put (put (put (put (put (put (put (put (put h2 6 (ptr 0)) 4 (ptr 1)) 7 (ptr 2)) 8 (ptr 3)) 9 (ptr 4)) 5 (ptr 5)) 0 (ptr 6)) 1 (ptr 7)) 2 (ptr 8))
  { w0 with heap := h3 }
end Go.Proofs.YthlecdggkolgmaaGreatDoor
