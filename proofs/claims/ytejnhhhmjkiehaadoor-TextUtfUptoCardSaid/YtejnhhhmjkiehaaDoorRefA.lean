/- The reference's base sixteen: Hex. -/
import Derived.Test.YtejnhhhmjkiehaaDoorHex
namespace Go.Proofs.YtejnhhhmjkiehaaDoor
open Go.RowKit

theorem Tx.Own.empty (w : World) (B : Nat) (hB : B ≤ w.heap.size) : Tx.Own (w.alloc (.cells #[] 5)) B (.slice (some ⟨w.heap.size, 0, none⟩) 0 0) [] :=
  World.ownsRow_made w #[] 0 hB (by unfold maxLen; omega) rfl

set_option maxHeartbeats 4000000 in
set_option maxRecDepth 100000 in
theorem Tx.RHex_any (s : ByteArray) (w : World) (hs : s.size ≤ 70368744177664) :
    Calls Tryd.prog 18 #[.string s] w fun e w' => e = .returned (.string (Tx.ba (Tx.hexL s.data.toList))) ∧ Below w.heap.size w w' := by
  go_enter Tryd.func18, Tryd.ntmps18
  have hown0 := Tx.Own.empty w w.heap.size (Nat.le_refl _)
  go_wp2_with fail
  go_loopw [3, 4] (fun v i wr => ∃ k : Nat, k ≤ s.size ∧ i = .int .i64 k ∧ Tx.Own wr w.heap.size v (Tx.hexL (s.data.toList.take k)) ∧ Below w.heap.size w wr) (fun _ i _ => s.size - (intOf i).toNat)
  case atStart => exact ⟨0, Nat.zero_le _, rfl, by simpa [Tx.hexL] using hown0, (Below.refl _ _).alloc (Nat.le_refl _) _⟩
  case round =>
    obtain ⟨k, hk, rfl, hown, hb⟩ := hrel
    by_cases hlt : k < s.size
    · have hlz : (k : Int) < (s.size : Int) := by omega
      go_wp2_with fail
      have q1 : (s[k].toNat : Int) / 16 < 16 := by have := s[k].toNat_lt; omega
      have q2 : 0 ≤ (s[k].toNat : Int) / 16 := by omega
      have q4 : (s[k].toNat : Int) % 16 < 16 := by omega
      have q5 : 0 ≤ (s[k].toNat : Int) % 16 := by omega
      have q0 : 0 ≤ (s[k].toNat : Int) := by omega
      have q6 : IntKind.u8.wrap ((s[k].toNat : Int) / 16) = (s[k].toNat : Int) / 16 := by rw [IntKind.wrap_u8]; omega
      have q7 : Int.tmod (s[k].toNat : Int) 16 = (s[k].toNat : Int) % 16 := Int.tmod_eq_emod_of_nonneg (by omega)
      have hl := Tx.hexL_length (s.data.toList.take k)
      have hl2 : (s.data.toList.take k).length ≤ k := List.length_take_le _ _
      have HL : (Tx.hexL (s.data.toList.take k)).length + 2 ≤ 140737488355328 := by omega
      clear hl hl2
      go_region_held3 (fun _ => True) (trivial) ((refine Tx.append_step rfl _ _ rfl w.heap.size u3 (Tx.hexL (s.data.toList.take k)) (by rfl) ((hown.alloc _).drew) ⟨wr.heap.size, 0, none⟩ 2 [_, _] (by rfl) (World.news_of_block (heap_alloc_new wr _)) (by simp) HL (by have := hb.size; simp; omega) ?_; intro v1 w1 hown1 hb1 hz1))
      all_goals
        go_wp2
        refine ⟨⟨k + 1, by omega, by go_num, ?_, ((hb.alloc hb.size _).drew).trans hb1⟩, by simp [intOf]; omega⟩
        rw [Tx.hexL_snoc _ k (by simpa using hlt), Tx.get s k hlt]
        rw [Tx.hd_get, Tx.hd_get] at hown1
        rw [show ((s[k].toNat : Int) / 16).toNat = s[k].toNat / 16 by omega, show ((s[k].toNat : Int) % 16).toNat = s[k].toNat % 16 by omega] at hown1
        exact hown1
    · obtain rfl : k = s.size := by omega
      have hcv := hown.conv
      rw [Tx.take_all] at hcv
      go_wp2
      go_ret
      exact ⟨rfl, hb⟩
end Go.Proofs.YtejnhhhmjkiehaaDoor
