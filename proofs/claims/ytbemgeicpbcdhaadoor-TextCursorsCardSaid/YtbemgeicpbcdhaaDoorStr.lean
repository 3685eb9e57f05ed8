/- Strings and lists of bytes: small facts that the laws share. -/
import Derived.Test.YtbemgeicpbcdhaaDoorLaid
namespace Go.Proofs.YtbemgeicpbcdhaaDoor
open Go.RowKit

/-- A world behind w0: what lay below is as it was, and the package-level variables hold what they held. -/
structure Tx.Since (w0 w : World) : Prop where
  ok : Tx.Ok w
  below : Below w0.heap.size w0 w
  size : w0.heap.size ≤ w.heap.size
theorem Tx.Since.start {w : World} (h : Tx.Ok w) : Tx.Since w w := ⟨h, Below.refl _ _, Nat.le_refl _⟩
theorem Tx.Since.drew {w0 w : World} (h : Tx.Since w0 w) : Tx.Since w0 w.drew := ⟨h.ok.below ((Below.refl _ _).drew) h.ok.size, h.below.drew, h.size⟩
theorem Tx.Since.then {w0 w w' : World} (hb : Below w.heap.size w w') (h : Tx.Since w0 w) : Tx.Since w0 w' := ⟨h.ok.below hb h.ok.size, h.below.trans (hb.mono h.size), Nat.le_trans h.size hb.size⟩
theorem Tx.Since.alloc {w0 w : World} (h : Tx.Since w0 w) (o : Obj) : Tx.Since w0 (w.alloc o) := Tx.Since.then ((Below.refl _ _).alloc (Nat.le_refl _) o) h
theorem Tx.Since.drewN {w0 w : World} (h : Tx.Since w0 w) (n : Nat) : Tx.Since w0 (w.drewN n) := Tx.Since.then (Tx.drewN_below w n) h

def Tx.hexB (s : ByteArray) : ByteArray := Tx.ba (Tx.hexL s.data.toList)
def Tx.b64B (s : ByteArray) : ByteArray := Tx.ba (Tx.b64L s.data.toList)
theorem Tx.ba_data (s : ByteArray) : Tx.ba s.data.toList = s := by apply Tx.ba_ext; rfl
theorem Tx.data_append (a b : ByteArray) : (a ++ b).data.toList = a.data.toList ++ b.data.toList := by simp
theorem Tx.ba_append (a b : List UInt8) : Tx.ba (a ++ b) = Tx.ba a ++ Tx.ba b := by apply Tx.ba_ext; rw [Tx.data_append]; rfl
theorem Tx.ba_size (l : List UInt8) : (Tx.ba l).size = l.length := by rw [← Tx.len]; rfl
theorem Tx.hexB_append (a b : ByteArray) : Tx.hexB (a ++ b) = Tx.hexB a ++ Tx.hexB b := by
  unfold Tx.hexB; rw [Tx.data_append, Tx.hexL_append, Tx.ba_append]
theorem Tx.b64B_append (a b : ByteArray) (h : a.size % 3 = 0) : Tx.b64B (a ++ b) = Tx.b64B a ++ Tx.b64B b := by
  unfold Tx.b64B; rw [Tx.data_append, Tx.b64_append3 _ _ (by rw [Tx.len]; exact h), Tx.ba_append]
theorem Tx.hexB_size (a : ByteArray) : (Tx.hexB a).size = 2 * a.size := by unfold Tx.hexB; rw [Tx.ba_size, Tx.hexL_length, Tx.len]
theorem Tx.b64B_size (a : ByteArray) : (Tx.b64B a).size = (4 * a.size + 2) / 3 := by unfold Tx.b64B; rw [Tx.ba_size, Tx.b64_length, Tx.len]
theorem Tx.eq_toList (a b : ByteArray) : (a.toList == b.toList) = decide (a = b) := by
  by_cases h : a = b
  · subst h; simp
  · rw [decide_eq_false h, beq_eq_false_iff_ne]
    intro he
    apply h
    apply Tx.ba_ext
    simpa [ByteArray.toList_eq] using he
theorem Tx.Hex_b (s : ByteArray) (w : World) (hs : s.size ≤ 70368744177664) : Calls Tryd.prog 18 #[.string s] w fun e w' => e = .returned (.string (Tx.hexB s)) ∧ Below w.heap.size w w' := Tx.Hex_any s w hs
theorem Tx.FromBase64_b64 (s : ByteArray) (w : World) (hs : s.size ≤ 35184372088832) (h : Tx.Ok w) : Calls Tryd.prog 15 #[.string (Tx.b64B s)] w fun e w' => e = .returned (.tuple #[.string s, .int .i64 0]) ∧ Below w.heap.size w w' := by
  have := Tx.FromBase64_any (Tx.b64B s) w (by rw [Tx.b64B_size]; omega) h.1
  have e : Tx.unb64L (Tx.b64B s).data.toList = some s.data.toList := Tx.unb64_b64 _
  rw [e] at this
  simp only [Tx.bytesAns, Tx.ba_data] at this
  exact this
theorem Tx.FromBase64_cases (s : ByteArray) (hs : s.size ≤ 70368744177664) : (∀ w, Tx.Ok w → Calls Tryd.prog 15 #[.string s] w fun e w' => e = .returned (.tuple #[.string ⟨#[]⟩, .int .i64 11]) ∧ Below w.heap.size w w') ∨
    ∃ t : ByteArray, Tx.b64B t = s ∧ t.size ≤ s.size ∧ ∀ w, Tx.Ok w → Calls Tryd.prog 15 #[.string s] w fun e w' => e = .returned (.tuple #[.string t, .int .i64 0]) ∧ Below w.heap.size w w' := by
  rcases hu : Tx.unb64L s.data.toList with _ | b
  · refine .inl fun w h => ?_
    have := Tx.FromBase64_any s w hs h.1
    rw [hu] at this; exact this
  · refine .inr ⟨Tx.ba b, ?_, ?_, fun w h => ?_⟩
    · unfold Tx.b64B; rw [Tx.ba_list, Tx.b64_unb64 hu, Tx.ba_data]
    · have := Tx.b64_length b; rw [Tx.b64_unb64 hu, Tx.len] at this; rw [Tx.ba_size]; omega
    · have := Tx.FromBase64_any s w hs h.1
      rw [hu] at this; exact this
end Go.Proofs.YtbemgeicpbcdhaaDoor
