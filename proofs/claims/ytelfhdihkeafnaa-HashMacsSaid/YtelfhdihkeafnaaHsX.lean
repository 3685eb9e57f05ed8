/- Macs: masked, keyBlock, mac, Mac. -/
import Derived.Test.YtelfhdihkeafnaaHsW
namespace Go.Proofs.Ytelfhdihkeafnaa
open Go.RowKit

theorem Hs.u8_xor (x y : UInt8) : bits .xor .u8 (x.toNat : Int) (y.toNat : Int) = ((x ^^^ y).toNat : Int) := by
  rw [u8_xor_nat _ _ (UInt8.toNat_lt _) (UInt8.toNat_lt _), UInt8.toNat_xor]
/-- Block b holds the bytes l. -/
def Hs.Bytes (w : World) (b n : Nat) (l : List UInt8) : Prop := Hs.Blk w b 5 n (fun j => Tx.bv (l.getD j 0))
theorem Hs.Bytes.below {w w' : World} {b n B : Nat} {l : List UInt8} (h : Hs.Bytes w b n l) (hb : Below B w w') (hB : b < B) : Hs.Bytes w' b n l := Hs.Blk.below h hb hB
theorem Hs.Bytes.but {w w' : World} {b n p : Nat} {l : List UInt8} (h : Hs.Bytes w b n l) (hb : Hs.But p w w') (hp : b ≠ p) : Hs.Bytes w' b n l := (hb.block b (Hs.Blk.lt h) hp).trans h
set_option maxHeartbeats 4000000 in
set_option maxRecDepth 100000 in
theorem Hs.masked_any (w : World) (b n : Nat) (l : List UInt8) (h : Hs.Bytes w b n l) (hl : l.length = n) (hn : n ≤ 1000) (mask : UInt8) :
    Calls Try.prog 36 #[.slice (some ⟨b, 0, none⟩) n n, .int .u8 (mask.toNat : Int)] w fun e w' => e = .returned (.string (Tx.ba (l.map (· ^^^ mask)))) ∧ Below w.heap.size w w' := by
  have hb := Hs.Blk.lt h
  go_enter Try.func36, Try.ntmps36
  go_wp2_with (at_make; refine Hs.wpList_make rfl _ _ rfl n n rfl rfl (Nat.le_refl _) (by omega) ?_)
  have bA : Below w.heap.size w (w.alloc (.cells (Hs.fn n (fun _ => .int .u8 0)) 5)) := (Below.refl _ _).alloc (Nat.le_refl _) _
  have h1 := h.below bA hb
  have h0 : Hs.Blk (w.alloc (.cells (Hs.fn n (fun _ => .int .u8 0)) 5)) w.heap.size 5 n (fun _ => .int .u8 0) := heap_alloc_new _ _
  generalize w.alloc (.cells (Hs.fn n (fun _ => .int .u8 0)) 5) = w1 at bA h1 h0 ⊢
  go_loopw [13] (fun iv wr => ∃ i : Nat, i ≤ n ∧ iv = .int .i64 (i : Int) ∧ Hs.Bytes wr b n l ∧ Hs.Blk wr w.heap.size 5 n (fun j => if j < i then Tx.bv (l.getD j 0 ^^^ mask) else .int .u8 0) ∧ Below w.heap.size w wr) (fun iv _ => n - (intOf iv).toNat)
  case atStart => exact ⟨0, by omega, rfl, h1, h0.congr (fun j _ => by simp), bA⟩
  case round =>
    clear h1 h0 bA h
    obtain ⟨i, hi, rfl, hk, hq, hbw⟩ := hrel
    obtain ⟨w2, rfl⟩ : ∃ w2, w2 = wr := ⟨_, rfl⟩
    by_cases hlt : i < n
    · have hlz : (i : Int) < (n : Int) := by omega
      have ck := Hs.Blk.cell hk (j := i) hlt
      have cq := Hs.Blk.cell hq (j := i) hlt
      have fq := Hs.Blk.frozen hq i
      obtain ⟨x, hx⟩ : ∃ x, l.getD i 0 = x := ⟨_, rfl⟩
      rw [hx] at ck
      simp only [Nat.lt_irrefl, if_false] at cq
      have ex := Hs.u8_xor x mask
      have hS := (hq.set i (.int .u8 ((x ^^^ mask).toNat : Int))).congr (d := fun j => if j < i + 1 then Tx.bv (l.getD j 0 ^^^ mask) else .int .u8 0) (fun j _ => by
        by_cases hj : j = i
        · subst hj
          rw [if_pos rfl, if_pos (by omega), hx]
          rfl
        · rw [if_neg hj]
          by_cases h1 : j < i
          · rw [if_pos h1, if_pos (by omega)]
          · rw [if_neg h1, if_neg (by omega)])
      have hkS : Hs.Bytes (w2.setCell ⟨w.heap.size, i, none⟩ (.int .u8 ((x ^^^ mask).toNat : Int))) b n l := hk.but (Hs.But.set _ _ _) (by omega)
      have hbS := hbw.trans (Hs.set_above w.heap.size i (.int .u8 ((x ^^^ mask).toNat : Int)) (Nat.le_refl _) : Below w.heap.size w2 (w2.setCell ⟨w.heap.size, i, none⟩ (.int .u8 ((x ^^^ mask).toNat : Int))))
      have HS := Lib.hid (And.intro hkS (And.intro hS hbS))
      unfold Tx.bv at ck
      obtain ⟨y, hy⟩ : ∃ y, x ^^^ mask = y := ⟨_, rfl⟩
      rw [hy] at ex HS
      clear hS hkS hbS hk hq hx hy
      go_wp2_with fail
      exact ⟨⟨i + 1, by omega, by go_num, HS.out.1, HS.out.2.1, HS.out.2.2⟩, by simp [intOf]; omega⟩
    · obtain rfl : i = n := by omega
      have own := Hs.own_of_blk (B := w.heap.size) (l := l.map (· ^^^ mask)) hq (Nat.le_refl _) (by simp; omega) (by unfold maxLen; omega) (fun j x hj => by
        have hjl : j < l.length := by have := (List.getElem?_eq_some_iff.1 hj).1; simpa using this
        rw [if_pos (by omega)]
        simp only [List.getElem?_map, List.getElem?_eq_getElem hjl, Option.map_some, Option.some.injEq] at hj
        rw [List.getD_eq_getElem?_getD, List.getElem?_eq_getElem hjl, ← hj]
        rfl)
      rw [List.length_map, hl] at own
      have hcv := own.conv
      clear own hq hk
      go_wp2_with fail
      go_ret
      exact ⟨rfl, hbw⟩
theorem Hs.tell_length (κ : Nat) (v : Hs.V8) : (Hs.tell κ v).length = (Hs.K κ).nn * (Hs.K κ).wb := by simp [Hs.tell]
theorem Hs.sum_length (κ : Nat) (m : List UInt8) : (Hs.sum κ m).length = (Hs.K κ).nn * (Hs.K κ).wb := Hs.tell_length _ _
theorem Hs.block_any (κ : Nat) (hκ : κ < 2) (w : World) : Calls Try.prog 30 #[.agg (Hs.pc κ)] w fun e w' => e = .returned (.int .i64 (Hs.blk κ : Int)) ∧ Below w.heap.size w w' :=
  Hs.two (P := fun κ => Calls Try.prog 30 #[.agg (Hs.pc κ)] w fun e w' => e = .returned (.int .i64 (Hs.blk κ : Int)) ∧ Below w.heap.size w w') (Hs.block0 w) (Hs.block1 w) κ hκ
theorem Hs.blk_le (κ : Nat) (h : κ < 2) : Hs.blk κ ≤ 128 ∧ (Hs.K κ).nn * (Hs.K κ).wb ≤ Hs.blk κ := by
  obtain rfl | rfl : κ = 0 ∨ κ = 1 := by omega
  · decide
  · decide
theorem Hs.keyed_length (κ : Nat) (hκ : κ < 2) (key : List UInt8) : (Hs.keyed κ key).length = Hs.blk κ := by
  unfold Hs.keyed
  have := (Hs.blk_le κ hκ).2
  split
  · rw [List.length_append, List.length_replicate, Hs.sum_length]; omega
  · rw [List.length_append, List.length_replicate]; omega
end Go.Proofs.Ytelfhdihkeafnaa
