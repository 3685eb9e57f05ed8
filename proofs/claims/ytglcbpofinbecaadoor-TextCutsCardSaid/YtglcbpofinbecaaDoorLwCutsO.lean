/- TextCuts: what the two calls behind the cut answer. -/
import Derived.Test.YtglcbpofinbecaaDoorStr
import Derived.Test.YtglcbpofinbecaaDoorCutM
import Derived.Test.YtglcbpofinbecaaDoorCards
import Derived.Test.YtglcbpofinbecaaDoorTie
import Derived.OpenShut
namespace Go.Proofs.YtglcbpofinbecaaDoor
open Go.ChangeShapes Go.WideShapes Go.ChangeAt Go.RowKit
open Go.ChangeMaps (open_string shut_string)
namespace lwCuts

/-- The two calls behind the cut, where both answer β. -/
theorem both (s : ByteArray) (n : Nat) (β : Bool) (hs : s.size ≤ 140737488355328) (h1 : (Tx.runes (s.data.toList.take n)).isSome = β) (h2 : (Tx.runes (s.data.toList.drop n)).isSome = β) (t : ByteArray) (ht : t = s.extract 0 n ∨ t = s.extract n s.size) (W : World) (h : Tx.Ok W) :
    Calls Tryd.prog 26 #[.string t] W fun e w' => e = .returned (.bool β) ∧ Below W.heap.size W w' := by
  have hsz : t.size ≤ s.size := by
    rcases ht with rfl | rfl <;> rw [← Tx.len, Tx.ext_list, List.length_take, List.length_drop, Tx.len] <;> omega
  have := Tx.Utf8_any t W (by omega) h.2
  have e : (Tx.runes t.data.toList).isSome = β := by
    rcases ht with rfl | rfl
    · rw [Tx.ext_list, List.drop_zero, Nat.sub_zero]; exact h1
    · rw [Tx.ext_list, List.take_of_length_le (by rw [List.length_drop, Tx.len]; omega)]; exact h2
  rw [e] at this
  exact this

end lwCuts
end Go.Proofs.YtglcbpofinbecaaDoor
