/- The reference's base sixteen: Hex. -/
import Derived.Test.YtbemgeicpbcdhaaDoorHex
namespace Go.Proofs.YtbemgeicpbcdhaaDoor
open Go.RowKit

theorem Tx.Own.empty (w : World) (B : Nat) (hB : B ≤ w.heap.size) : Tx.Own (w.alloc (.cells #[] 5)) B (.slice (some ⟨w.heap.size, 0, none⟩) 0 0) [] :=
  World.ownsRow_made w #[] 0 hB (by unfold maxLen; omega) rfl

end Go.Proofs.YtbemgeicpbcdhaaDoor
