/- What the laws' walks want of texts that are compared. -/
import Derived.Test.YtccbnpondlncpaaGreatDoorNyJ
import Derived.Test.YtccbnpondlncpaaGreatDoorNyK
namespace Go.Proofs.YtccbnpondlncpaaGreatDoor
open Go.RowKit

theorem Nt.len (s : ByteArray) : s.data.toList.length = s.size := by simp
theorem Nt.toList_ne {s t : ByteArray} (h : s ≠ t) : ¬ s.toList = t.toList := fun e => h (by
  rw [Lib.toList_data, Lib.toList_data] at e
  cases s; cases t
  simp_all)
theorem Nt.toList_beq {s t : ByteArray} (h : s ≠ t) : (s.toList == t.toList) = false := by rw [beq_eq_false_iff_ne]; exact Nt.toList_ne h
theorem Nt.toList_nil {s : ByteArray} (h : s ≠ ⟨#[]⟩) : ¬ s.toList = [] := fun e => Nt.toList_ne h (by rw [e, Lib.toList_data])
theorem Nt.toList_emp {s : ByteArray} (h : s ≠ ⟨#[]⟩) : s.toList.isEmpty = false := by
  have := Nt.toList_nil h
  cases hs : s.toList with
  | nil => exact absurd hs this
  | cons _ _ => rfl
end Go.Proofs.YtccbnpondlncpaaGreatDoor
