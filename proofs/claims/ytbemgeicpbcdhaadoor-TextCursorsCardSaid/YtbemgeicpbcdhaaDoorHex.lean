/- Base sixteen: Hex, readHex, FromHex. -/
import Derived.Test.YtbemgeicpbcdhaaDoorKit
import Derived.Test.YtbemgeicpbcdhaaDoorAs
import Derived.Test.YtbemgeicpbcdhaaDoorHexM
import Derived.StillTailTactics
import Derived.Deep.QuietTactic
import Derived.BigQuiet
namespace Go.Proofs.YtbemgeicpbcdhaaDoor
open Go.RowKit

set_option maxRecDepth 100000 in
theorem Tx.and15 : ∀ X : Fin 256, bits .and .u8 ((X.val : Nat) : Int) 15 = ((X.val : Nat) : Int) % 16 := by decide
theorem Tx.hd_get (i : Nat) (h : i < (⟨#[48, 49, 50, 51, 52, 53, 54, 55, 56, 57, 97, 98, 99, 100, 101, 102]⟩ : ByteArray).size) : (⟨#[48, 49, 50, 51, 52, 53, 54, 55, 56, 57, 97, 98, 99, 100, 101, 102]⟩ : ByteArray)[i]'h = Tx.hd i := by
  have h' : i < Tx.hexDigits.length := h
  show Tx.hexDigits[i] = Tx.hexDigits.getD i 0
  rw [List.getD_eq_getElem?_getD, List.getElem?_eq_getElem h']; rfl

set_option maxHeartbeats 4000000 in
set_option maxRecDepth 100000 in
theorem Tx.Hex_any (s : ByteArray) (w : World) (hs : s.size ≤ 70368744177664) :
    Calls Tryd.prog 18 #[.string s] w fun e w' => e = .returned (.string (Tx.ba (Tx.hexL s.data.toList))) ∧ Below w.heap.size w w' := by
  go_enter Tryd.func18, Tryd.ntmps18
  go_wp2_with (at_make; refine Tx.make rfl _ _ rfl w.heap.size (2 * s.size) _ rfl rfl (by omega) (by omega) (Nat.le_refl _) ?_; intro v0 w0 hown0 hb0 hz0)
  go_loopw [3, 11] (fun v i wr => ∃ k : Nat, k ≤ s.size ∧ i = .int .i64 k ∧ Tx.Own wr w.heap.size v (Tx.hexL (s.data.toList.take k)) ∧ Below w.heap.size w wr) (fun _ i _ => s.size - (intOf i).toNat)
  case atStart => exact ⟨0, Nat.zero_le _, rfl, by simpa [Tx.hexL] using hown0, hb0⟩
  case round =>
    obtain ⟨k, hk, rfl, hown, hb⟩ := hrel
    by_cases hlt : k < s.size
    · have hlz : (k : Int) < (s.size : Int) := by omega
      go_wp2_with fail
      have q1 : (s[k].toNat : Int) / 16 < 16 := by have := s[k].toNat_lt; omega
      have q2 : 0 ≤ (s[k].toNat : Int) / 16 := by omega
      have q3 : bits BinOp.and IntKind.u8 (s[k].toNat : Int) 15 = (s[k].toNat : Int) % 16 := by have := Tx.and15 ⟨s[k].toNat, s[k].toNat_lt⟩; simpa using this
      have q4 : (s[k].toNat : Int) % 16 < 16 := by omega
      have q5 : 0 ≤ (s[k].toNat : Int) % 16 := by omega
      have hl := Tx.hexL_length (s.data.toList.take k)
      have hl2 : (s.data.toList.take k).length ≤ k := List.length_take_le _ _
      have HL : (Tx.hexL (s.data.toList.take k)).length + 2 ≤ 140737488355328 := by omega
      clear hl hl2
      go_region_held3 (fun _ => True) (trivial) ((refine Tx.append_step rfl _ _ rfl w.heap.size u3 (Tx.hexL (s.data.toList.take k)) (by rfl) ((hown.alloc _).drew) ⟨wr.heap.size, 0, none⟩ 2 [_, _] (by rfl) (World.news_of_block (heap_alloc_new wr _)) (by simp) HL (by have := hb.size; simp; omega) ?_; intro v1 w1 hown1 hb1 hz1))
      all_goals
        go_wp2
        refine ⟨⟨k + 1, by omega, by go_num, ?_, ((hb.alloc hb.size _).drew).trans hb1⟩, by simp [intOf]; omega⟩
        rw [Tx.hexL_snoc _ k (by simpa using hlt), Tx.get s k hlt]
        rw [Tx.hd_get, Tx.hd_get] at hown1
        rw [show ((s[k].toNat : Int) / 16).toNat = s[k].toNat / 16 by omega, show ((s[k].toNat : Int) % 16).toNat = s[k].toNat % 16 by omega] at hown1
        exact hown1
    · obtain rfl : k = s.size := by omega
      have hcv := hown.conv
      rw [Tx.take_all] at hcv
      go_wp2
      go_ret
      exact ⟨rfl, hb⟩

/-- The fault of base sixteen. -/
def Tx.flt (c : Int) : Value := .iface 69 (.agg #[.int .i64 c])

set_option maxRecDepth 100000 in
theorem Tx.or16 : ∀ X Y : Fin 16, bits .or .u8 ((X.val : Nat) * 16 : Int) ((Y.val : Nat) : Int) = ((X.val : Nat) * 16 + Y.val : Int) := by decide

end Go.Proofs.YtbemgeicpbcdhaaDoor
