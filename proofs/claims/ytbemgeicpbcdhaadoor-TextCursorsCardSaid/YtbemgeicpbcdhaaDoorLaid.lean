/- What the rows' list of package-level variables gives the walks, and a world that holds them. -/
import Derived.Test.YtbemgeicpbcdhaaDoorRows
import Derived.Test.YtbemgeicpbcdhaaDoorFixed
import Derived.ProofKit
import Derived.Deep.DeepHandedRow
import Derived.Deep.DeepWitnessRowRef
import Derived.Lib.LaidU8
import Derived.PinnedBridge
import Derived.Stop.Joined
import Derived.LaidHandle
import Derived.SizedLaws
namespace Go.Proofs.YtbemgeicpbcdhaaDoor
open Go.RowKit

def Tx.laidL : List (String × DataW Unit) := [("unicode/utf8.acceptRanges", Rows.laid_unicode_utf8_acceptRanges), ("errors.errorType", Rows.laid_errors_errorType), ("unicode/utf8.first", Rows.laid_unicode_utf8_first)]
theorem Tx.own : ownKnob Tryd.prog.godebug = none := by kernel_rfl
theorem Tx.gErr : Tryd.prog.globalNamed "errors.errorType" = some 2 := by kernel_rfl
theorem Tx.rt : (Tryd.prog.cutTypes.find? (·.1 == "internal/reflectlite.rtype")).map (·.2) = some 103 := by kernel_rfl
theorem Tx.oneRow : ((List.range Tryd.prog.types.size).filter fun t => Tryd.prog.rowNamed t [101, 114, 114, 111, 114]) = [56] := by kernel_rfl
theorem Tx.handleName : Rows.laid_errors_errorType.handleName? (H := Unit) = some [101, 114, 114, 111, 114] := by kernel_rfl
theorem Tx.handleIn : Rows.laid_errors_errorType.funcsIn? (H := Unit) = none := by kernel_rfl
theorem Tx.ok_of_laid {W : World} (h : laidMetH Tryd.prog Tx.laidL W) : Tx.Ok W := by
  have h' : laidMet Tryd.prog [("unicode/utf8.acceptRanges", Rows.laid_unicode_utf8_acceptRanges), ("unicode/utf8.first", Rows.laid_unicode_utf8_first)] W ∧ handlesMet Tryd.prog [("errors.errorType", Rows.laid_errors_errorType)] W := h
  refine ⟨?_, ?_⟩
  · have hx := h'.2 _ (List.mem_singleton.2 rfl)
    simp only [Tx.handleIn] at hx
    obtain ⟨name, u, ty, e1, e2, e3, e4, e5⟩ := hx
    have en : name = [101, 114, 114, 111, 114] := (Option.some.inj (Tx.handleName.symm.trans e1)).symm
    subst en
    obtain rfl := Option.some.inj (Tx.rt.symm.trans e2)
    have hm : ty ∈ (List.range Tryd.prog.types.size).filter fun t => Tryd.prog.rowNamed t [101, 114, 114, 111, 114] := List.mem_filter.2 ⟨List.mem_range.2 e3, e4⟩
    rw [Tx.oneRow] at hm
    obtain rfl := List.mem_singleton.1 hm
    have hh : typeHandle Tryd.prog 56 = .pointer (some ⟨4, 56, none⟩) := by kernel_rfl
    rw [hh] at e5
    have := World.var?_cell Tx.gErr e5 0
    unfold As.ErrVar
    simpa using this
  · have r1 := Lib.laidMet.reads h'.1 (List.Mem.tail _ (List.Mem.head _))
    have r2 := Lib.laidMet.reads h'.1 (List.Mem.head _)
    have e1 : (Rows.laid_unicode_utf8_first : DataW Unit) = Lib.firstData := Pinned.utf8First_eq
    have e2 : (Rows.laid_unicode_utf8_acceptRanges : DataW Unit) = Lib.acceptData := by kernel_rfl
    rw [e1] at r1
    rw [e2] at r2
    exact utf8Tabs_of_reads Tryd.lays260 ⟨by kernel_rfl, by kernel_rfl, by kernel_rfl, by kernel_rfl, by kernel_rfl, by kernel_rfl, by kernel_rfl⟩ r1 r2

/-- A world that holds them. -/
noncomputable def Tx.laidWorld (os : Os) : World :=
  let w0 := World.holding Tryd.prog os ⟨#[], #[], []⟩
  let put (h : Array Obj) (g : Nat) (cs : Array Value) : Array Obj := h.modify g fun
    | .cells _ t frozen => .cells cs t frozen
    | o => o
  let h1 := put w0.heap 0 (Lib.firstTab.map fun z => Value.int .u8 z).toArray
  let h2 := put h1 1 ((List.range 16).flatMap fun i => [Value.int .u8 (Lib.accLo i), Value.int .u8 (Lib.accHi i)]).toArray
  let h3 := put h2 2 #[.iface 103 (.agg #[.pointer (some ⟨4, 56, none⟩)])]
  { w0 with heap := h3 }
theorem Tx.laid_met (os : Os) (args : Array Value) : laidMetH Tryd.prog Tx.laidL ((Tx.laidWorld os).forCall (fun _ _ => 0) ⟨#[], args, []⟩).memory :=
  laidMetH_of_parts (laidMet_of_run' 8 (by kernel_rfl) (by kernel_rfl)) (by kernel_rfl)
end Go.Proofs.YtbemgeicpbcdhaaDoor
