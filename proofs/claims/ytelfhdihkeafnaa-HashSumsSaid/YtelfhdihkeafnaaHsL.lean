/- What the rows' frames want: no package variable is laid. -/
import Derived.Test.YtelfhdihkeafnaaRows
import Derived.Test.YtelfhdihkeafnaaHsZ
import Derived.ProofKit
import Derived.Deep.DeepHandedRow
import Derived.Deep.DeepWitnessRowRef
import Derived.LaidHandle
import Derived.SizedLaws
namespace Go.Proofs.Ytelfhdihkeafnaa
open Go.RowKit

theorem Hs.own : ownKnob Try.prog.godebug = none := by kernel_rfl
noncomputable def Hs.world (os : Os) : World := World.holding Try.prog os ⟨#[], #[], []⟩
theorem Hs.laid_met (os : Os) (args : Array Value) : laidMetH Try.prog [] ((Hs.world os).forCall (fun _ _ => 0) ⟨#[], args, []⟩).memory :=
  laidMetH_of_parts (laidMet_of_run' 8 (by kernel_rfl) (by kernel_rfl)) (by kernel_rfl)
end Go.Proofs.Ytelfhdihkeafnaa
