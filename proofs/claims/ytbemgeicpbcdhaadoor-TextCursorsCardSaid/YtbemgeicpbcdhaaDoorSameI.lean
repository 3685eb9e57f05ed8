/- The laws' own 'same': are two slices of ints the same numbers. -/
import Derived.Test.YtbemgeicpbcdhaaDoorStr
namespace Go.Proofs.YtbemgeicpbcdhaaDoor
open Go.RowKit

theorem Tx.Ints.shape {w : World} {B : Nat} {v : Value} {zs : List Int} (h : Tx.Ints w B v zs) : ∃ a c, v = .slice a zs.length c := by
  rcases h with ⟨rfl, rfl⟩ | ⟨b, off, cap, rfl, _⟩
  · exact ⟨_, _, rfl⟩
  · exact ⟨_, _, rfl⟩

end Go.Proofs.YtbemgeicpbcdhaaDoor
