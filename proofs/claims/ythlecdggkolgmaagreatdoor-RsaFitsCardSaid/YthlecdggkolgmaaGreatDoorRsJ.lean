/- What the rows' list of package-level variables gives the walks, and a world that holds them. -/
import Derived.Test.YthlecdggkolgmaaGreatDoorRows
import Derived.Test.YthlecdggkolgmaaGreatDoorRsI
import Derived.ProofKit
import Derived.Deep.DeepHandedRow
import Derived.Deep.DeepWitnessRowRef
import Derived.Lib.LaidU8
import Derived.PinnedBridge
import Derived.Stop.Joined
import Derived.Stop.LaidTwo
import Derived.LaidHandle
import Derived.SizedLaws
namespace Go.Proofs.YthlecdggkolgmaaGreatDoor
open Go.RowKit
def Rs.laidL : List (String × DataW Unit) := [("unicode/utf8.acceptRanges", Rows.laid_unicode_utf8_acceptRanges), ("ostiary/nat.errLong", Rows.laid_ostiary_nat_errLong), ("ostiary/nat.errZero", Rows.laid_ostiary_nat_errZero), ("ostiary/nat.errBelow", Rows.laid_ostiary_nat_errBelow), ("ostiary/nat.errNone", Rows.laid_ostiary_nat_errNone), ("ostiary/nat.errEven", Rows.laid_ostiary_nat_errEven), ("ostiary/nat.errWide", Rows.laid_ostiary_nat_errWide), ("ostiary/rsa.errKey", Rows.laid_ostiary_rsa_errKey), ("ostiary/rsa.errSize", Rows.laid_ostiary_rsa_errSize), ("ostiary/rsa.errBlock", Rows.laid_ostiary_rsa_errBlock), ("unicode/utf8.first", Rows.laid_unicode_utf8_first)]
theorem Rs.own : ownKnob Tryz.prog.godebug = none := by kernel_rfl
theorem Rs.g30 : Tryz.prog.globalNamed "ostiary/nat.errLong" = some 6 := by kernel_rfl
theorem Rs.g31 : Tryz.prog.globalNamed "ostiary/nat.errZero" = some 4 := by kernel_rfl
theorem Rs.g32 : Tryz.prog.globalNamed "ostiary/nat.errBelow" = some 7 := by kernel_rfl
theorem Rs.g33 : Tryz.prog.globalNamed "ostiary/nat.errNone" = some 8 := by kernel_rfl
theorem Rs.g34 : Tryz.prog.globalNamed "ostiary/nat.errEven" = some 9 := by kernel_rfl
theorem Rs.g35 : Tryz.prog.globalNamed "ostiary/nat.errWide" = some 5 := by kernel_rfl
theorem Rs.g40 : Tryz.prog.globalNamed "ostiary/rsa.errKey" = some 0 := by kernel_rfl
theorem Rs.g41 : Tryz.prog.globalNamed "ostiary/rsa.errSize" = some 1 := by kernel_rfl
theorem Rs.g42 : Tryz.prog.globalNamed "ostiary/rsa.errBlock" = some 2 := by kernel_rfl
theorem Rs.star : "*" ++ "errors.errorString" = "*errors.errorString" := by decide
theorem Rs.rowE (u : TypeId) (h : Tryz.prog.typeName? 3 u = some "*errors.errorString") : u = 200 :=
  typeName_ptr_named (P := Tryz.prog) (nm := "errors.errorString") (tp := 200) (by rw [Rs.star]; kernel_rfl) (by kernel_rfl) (by decide) u (by rw [Rs.star]; exact h)
theorem Rs.cells1 : Tryz.prog.cellsOf 222 = 1 := by kernel_rfl
theorem Rs.cells2 : Tryz.prog.cellsOf 9 = 1 := by kernel_rfl
theorem Rs.ok_of_laid {W : World} (h : laidMetH Tryz.prog Rs.laidL W) : Rs.Ok W := by
  have h' : laidMet Tryz.prog [("unicode/utf8.acceptRanges", Rows.laid_unicode_utf8_acceptRanges), ("ostiary/nat.errLong", Rows.laid_ostiary_nat_errLong), ("ostiary/nat.errZero", Rows.laid_ostiary_nat_errZero), ("ostiary/nat.errBelow", Rows.laid_ostiary_nat_errBelow), ("ostiary/nat.errNone", Rows.laid_ostiary_nat_errNone), ("ostiary/nat.errEven", Rows.laid_ostiary_nat_errEven), ("ostiary/nat.errWide", Rows.laid_ostiary_nat_errWide), ("ostiary/rsa.errKey", Rows.laid_ostiary_rsa_errKey), ("ostiary/rsa.errSize", Rows.laid_ostiary_rsa_errSize), ("ostiary/rsa.errBlock", Rows.laid_ostiary_rsa_errBlock), ("unicode/utf8.first", Rows.laid_unicode_utf8_first)] W := h
  have h0 := h'.tail
  have h1 := h0.tail
  have h2 := h1.tail
  have h3 := h2.tail
  have h4 := h3.tail
  have h5 := h4.tail
  have h6 := h5.tail
  have h7 := h6.tail
  obtain ⟨a30, a31, s30, s31, c30, c31, t30, t31, v30, v31, e30, x30, _, e31, x31, _, _, b30, b31⟩ := laid_sentinels2 h0 Rs.g30 (by kernel_rfl) Rs.g31 (by kernel_rfl) Tryz.underlying33 Rs.rowE Tryz.underlying200 Tryz.underlying222 rfl rfl Tryz.underlying9 Rs.cells1 Rs.cells2
  obtain ⟨a32, a33, s32, s33, c32, c33, t32, t33, v32, v33, e32, x32, _, e33, x33, _, _, b32, b33⟩ := laid_sentinels2 h2 Rs.g32 (by kernel_rfl) Rs.g33 (by kernel_rfl) Tryz.underlying33 Rs.rowE Tryz.underlying200 Tryz.underlying222 rfl rfl Tryz.underlying9 Rs.cells1 Rs.cells2
  obtain ⟨a34, a35, s34, s35, c34, c35, t34, t35, v34, v35, e34, x34, _, e35, x35, _, _, b34, b35⟩ := laid_sentinels2 h4 Rs.g34 (by kernel_rfl) Rs.g35 (by kernel_rfl) Tryz.underlying33 Rs.rowE Tryz.underlying200 Tryz.underlying222 rfl rfl Tryz.underlying9 Rs.cells1 Rs.cells2
  obtain ⟨a40, a41, s40, s41, c40, c41, t40, t41, v40, v41, e40, x40, _, e41, x41, _, _, b40, b41⟩ := laid_sentinels2 h6 Rs.g40 (by kernel_rfl) Rs.g41 (by kernel_rfl) Tryz.underlying33 Rs.rowE Tryz.underlying200 Tryz.underlying222 rfl rfl Tryz.underlying9 Rs.cells1 Rs.cells2
  obtain ⟨a41q, a42, s41q, s42, c41q, c42, t41q, t42, v41q, v42, e41q, x41q, _, e42, x42, _, _, b41q, b42⟩ := laid_sentinels2 h7 Rs.g41 (by kernel_rfl) Rs.g42 (by kernel_rfl) Tryz.underlying33 Rs.rowE Tryz.underlying200 Tryz.underlying222 rfl rfl Tryz.underlying9 Rs.cells1 Rs.cells2
  have r30 : W.cell? ⟨6, 0, none⟩ = some (.iface 200 (.pointer (some a30))) := by simpa using World.var?_cell Rs.g30 v30 0
  have r31 : W.cell? ⟨4, 0, none⟩ = some (.iface 200 (.pointer (some a31))) := by simpa using World.var?_cell Rs.g31 v31 0
  have r32 : W.cell? ⟨7, 0, none⟩ = some (.iface 200 (.pointer (some a32))) := by simpa using World.var?_cell Rs.g32 v32 0
  have r33 : W.cell? ⟨8, 0, none⟩ = some (.iface 200 (.pointer (some a33))) := by simpa using World.var?_cell Rs.g33 v33 0
  have r34 : W.cell? ⟨9, 0, none⟩ = some (.iface 200 (.pointer (some a34))) := by simpa using World.var?_cell Rs.g34 v34 0
  have r35 : W.cell? ⟨5, 0, none⟩ = some (.iface 200 (.pointer (some a35))) := by simpa using World.var?_cell Rs.g35 v35 0
  have r40 : W.cell? ⟨0, 0, none⟩ = some (.iface 200 (.pointer (some a40))) := by simpa using World.var?_cell Rs.g40 v40 0
  have r41 : W.cell? ⟨1, 0, none⟩ = some (.iface 200 (.pointer (some a41))) := by simpa using World.var?_cell Rs.g41 v41 0
  have r42 : W.cell? ⟨2, 0, none⟩ = some (.iface 200 (.pointer (some a42))) := by simpa using World.var?_cell Rs.g42 v42 0
  refine ⟨fun k k1 k2 => ?_, fun k k1 k2 => ?_⟩
  · have hk : k = 30 ∨ k = 31 ∨ k = 32 ∨ k = 33 ∨ k = 34 ∨ k = 35 := by omega
    rcases hk with rfl | rfl | rfl | rfl | rfl | rfl
    · exact ⟨a30, r30, ⟨s30, e30, x30⟩, ⟨c30, t30, b30⟩⟩
    · exact ⟨a31, r31, ⟨s31, e31, x31⟩, ⟨c31, t31, b31⟩⟩
    · exact ⟨a32, r32, ⟨s32, e32, x32⟩, ⟨c32, t32, b32⟩⟩
    · exact ⟨a33, r33, ⟨s33, e33, x33⟩, ⟨c33, t33, b33⟩⟩
    · exact ⟨a34, r34, ⟨s34, e34, x34⟩, ⟨c34, t34, b34⟩⟩
    · exact ⟨a35, r35, ⟨s35, e35, x35⟩, ⟨c35, t35, b35⟩⟩
  · have hk : k = 40 ∨ k = 41 ∨ k = 42 := by omega
    rcases hk with rfl | rfl | rfl
    · exact ⟨a40, r40, ⟨s40, e40, x40⟩, ⟨c40, t40, b40⟩⟩
    · exact ⟨a41, r41, ⟨s41, e41, x41⟩, ⟨c41, t41, b41⟩⟩
    · exact ⟨a42, r42, ⟨s42, e42, x42⟩, ⟨c42, t42, b42⟩⟩
/-- A world that holds them: the errors' structs in blocks of their own behind what there is. -/
noncomputable def Rs.laidWorld (os : Os) : World :=
  let w0 := World.holding Tryz.prog os ⟨#[], #[], []⟩
  let n := w0.heap.size
  let put (h : Array Obj) (g : Nat) (cs : Array Value) : Array Obj := h.modify g fun
    | .cells _ t frozen => .cells cs t frozen
    | o => o
  let h0 := (((((((((w0.heap.push (.cells #[.string ⟨(Nt.tOf 30).toArray⟩] 222 (0, 0))).push (.cells #[.string ⟨(Nt.tOf 31).toArray⟩] 222 (0, 0))).push (.cells #[.string ⟨(Nt.tOf 32).toArray⟩] 222 (0, 0))).push (.cells #[.string ⟨(Nt.tOf 33).toArray⟩] 222 (0, 0))).push (.cells #[.string ⟨(Nt.tOf 34).toArray⟩] 222 (0, 0))).push (.cells #[.string ⟨(Nt.tOf 35).toArray⟩] 222 (0, 0))).push (.cells #[.string ⟨(Rs.tOf 40).toArray⟩] 222 (0, 0))).push (.cells #[.string ⟨(Rs.tOf 41).toArray⟩] 222 (0, 0))).push (.cells #[.string ⟨(Rs.tOf 42).toArray⟩] 222 (0, 0)))
  let ptr (i : Nat) : Array Value := #[.iface 200 (.pointer (some ⟨n + i, 0, none⟩))]
  let h1 := put h0 11 (Lib.firstTab.map fun z => Value.int .u8 z).toArray
  let h2 := put h1 12 ((List.range 16).flatMap fun i => [Value.int .u8 (Lib.accLo i), Value.int .u8 (Lib.accHi i)]).toArray
  let h3 := (put (put (put (put (put (put (put (put (put h2 6 (ptr 0)) 4 (ptr 1)) 7 (ptr 2)) 8 (ptr 3)) 9 (ptr 4)) 5 (ptr 5)) 0 (ptr 6)) 1 (ptr 7)) 2 (ptr 8))
  { w0 with heap := h3 }
theorem Rs.laid_met (os : Os) (args : Array Value) : laidMetH Tryz.prog Rs.laidL ((Rs.laidWorld os).forCall (fun _ _ => 0) ⟨#[], args, []⟩).memory :=
  laidMetH_of_parts (laidMet_of_run' 8 (by kernel_rfl) (by kernel_rfl)) (by kernel_rfl)
end Go.Proofs.YthlecdggkolgmaaGreatDoor
