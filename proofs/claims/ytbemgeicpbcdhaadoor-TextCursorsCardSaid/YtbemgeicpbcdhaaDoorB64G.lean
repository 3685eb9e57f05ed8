/- Base64url: readGroup whole. -/
import Derived.Test.YtbemgeicpbcdhaaDoorB64R
import Derived.Test.YtbemgeicpbcdhaaDoorB64W
import Derived.Test.YtbemgeicpbcdhaaDoorHexR
namespace Go.Proofs.YtbemgeicpbcdhaaDoor
open Go.RowKit

theorem Tx.readGroup_some {gl g : List UInt8} (h : Tx.ungroup gl = some g) (B : Nat) (v : Value) (l : List UInt8) (w : World) (hB : B ≤ w.heap.size) (hown : Tx.Own w B v l) (hl : l.length + 4 ≤ 140737488355328) :
    Calls Tryd.prog 31 #[v, .string (Tx.ba gl)] w fun e w' => ∃ v', e = .returned (.tuple #[v', .nilIface]) ∧ Tx.Own w' B v' (l ++ g) ∧ Below B w w' := by
  unfold Tx.ungroup at h
  split at h
  · rename_i a b
    split at h
    · rename_i x y hx hy
      split at h
      · rename_i hc
        simp only [Option.some.injEq] at h; subst h
        exact Tx.rg2_ok a b hx hy hc B v l w hB hown hl
      · simp at h
    · simp at h
  · rename_i a b c
    split at h
    · rename_i x y z hx hy hz
      split at h
      · rename_i hc
        simp only [Option.some.injEq] at h; subst h
        exact Tx.rg3_ok a b c hx hy hz hc B v l w hB hown hl
      · simp at h
    · simp at h
  · rename_i a b c d
    split at h
    · rename_i x y z t hx hy hz ht
      simp only [Option.some.injEq] at h; subst h
      exact Tx.rg4_ok a b c d hx hy hz ht B v l w hB hown hl
    · simp at h
  · simp at h
theorem Tx.readGroup_none {gl : List UInt8} (h : Tx.ungroup gl = none) (h1 : 1 ≤ gl.length) (h4 : gl.length ≤ 4) (v : Value) (w : World) :
    Calls Tryd.prog 31 #[v, .string (Tx.ba gl)] w fun e w' => ∃ n x, e = .returned (.tuple #[.slice none 0 0, x]) ∧ As.Chain 11 n x ∧ w = w' := by
  match gl, h1, h4 with
  | [a], _, _ =>
    rcases hx : Tx.un6 a with _ | x
    · exact Tx.rg1_bad0 a hx v w
    · exact Tx.rg1_tail a hx v w
  | [a, b], _, _ =>
    rcases hx : Tx.un6 a with _ | x
    · exact Tx.rg2_bad0 a b hx v w
    rcases hy : Tx.un6 b with _ | y
    · exact Tx.rg2_bad1 a b hx hy v w
    · refine Tx.rg2_tail a b hx hy (fun hc => ?_) v w
      simp [Tx.ungroup, hx, hy, hc] at h
  | [a, b, c], _, _ =>
    rcases hx : Tx.un6 a with _ | x
    · exact Tx.rg3_bad0 a b c hx v w
    rcases hy : Tx.un6 b with _ | y
    · exact Tx.rg3_bad1 a b c hx hy v w
    rcases hz : Tx.un6 c with _ | z
    · exact Tx.rg3_bad2 a b c hx hy hz v w
    · refine Tx.rg3_tail a b c hx hy hz (fun hc => ?_) v w
      simp [Tx.ungroup, hx, hy, hz, hc] at h
  | [a, b, c, d], _, _ =>
    rcases hx : Tx.un6 a with _ | x
    · exact Tx.rg4_bad0 a b c d hx v w
    rcases hy : Tx.un6 b with _ | y
    · exact Tx.rg4_bad1 a b c d hx hy v w
    rcases hz : Tx.un6 c with _ | z
    · exact Tx.rg4_bad2 a b c d hx hy hz v w
    rcases ht : Tx.un6 d with _ | t
    · exact Tx.rg4_bad3 a b c d hx hy hz ht v w
    · simp [Tx.ungroup, hx, hy, hz, ht] at h
  | [], h1, _ => simp at h1
  | _ :: _ :: _ :: _ :: _ :: _, _, h4 => simp at h4

theorem Tx.unb64_step (l : List UInt8) (h : l ≠ []) : Tx.unb64L l = (Tx.ungroup (l.take 4)).bind fun g => (Tx.unb64L (l.drop 4)).map (g ++ ·) := by
  match l with
  | [] => simp at h
  | [a] => simp [Tx.unb64L, Tx.ungroup]
  | [a, b] => simp only [Tx.unb64L, List.take_succ_cons, List.take_nil, List.drop_succ_cons, List.drop_nil]; cases Tx.ungroup [a, b] <;> simp
  | [a, b, c] => simp only [Tx.unb64L, List.take_succ_cons, List.take_nil, List.drop_succ_cons, List.drop_nil]; cases Tx.ungroup [a, b, c] <;> simp
  | a :: b :: c :: d :: r =>
    simp only [Tx.unb64L, List.take_succ_cons, List.take_zero, List.drop_succ_cons, List.drop_zero]
    cases Tx.ungroup [a, b, c, d] <;> cases Tx.unb64L r <;> rfl
theorem Tx.ba_list (l : List UInt8) : (Tx.ba l).data.toList = l := rfl
theorem Tx.ext4 (s : ByteArray) (k : Nat) (_h : k + 4 ≤ s.size) : s.extract k (k + 4) = Tx.ba ((s.data.toList.drop k).take 4) := by
  apply Tx.ba_ext
  rw [Tx.ext_list, Tx.ba_list, show k + 4 - k = 4 by omega]
theorem Tx.ext_end (s : ByteArray) (k : Nat) (h : s.size < k + 4) : s.extract k s.size = Tx.ba ((s.data.toList.drop k).take 4) := by
  apply Tx.ba_ext
  have hl := Tx.len s
  rw [Tx.ext_list, Tx.ba_list, List.take_of_length_le (by simp), List.take_of_length_le (by simp; omega)]

end Go.Proofs.YtbemgeicpbcdhaaDoor
