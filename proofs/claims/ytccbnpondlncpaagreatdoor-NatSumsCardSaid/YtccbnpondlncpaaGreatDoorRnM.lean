/- The reference: Pow. -/
import Derived.Test.YtccbnpondlncpaaGreatDoorRnK
namespace Go.Proofs.YtccbnpondlncpaaGreatDoor
section
open Go.RowKit
set_option maxHeartbeats 1000000 in
set_option maxRecDepth 100000 in
theorem Rn.Left_any (w : World) (ax ay : Option Addr) (n cx x m cy y : Nat) (hx : Rn.Num w ax n cx x) (hy : Rn.Num w ay m cy y) (hn : n ≤ 400000) (hm : m ≤ 400000) (hy0 : 0 < y) :
    Calls Tryz.prog 27 #[.slice ax n cx, .slice ay m cy] w fun e w' => ∃ av k c, e = .returned (.slice av k c) ∧ Rn.Num w' av k c (x % y) ∧ Below w.heap.size w w' := by
  have HD := Lib.hid (Rn.Divide_any w ax ay n cx x m cy y hx hy hn hm hy0)
  clear hx hy
  go_enter Tryz.func27, Tryz.ntmps27
  go_wp2_with (go_at_call 32; refine Calls.mono HD.out ?_; rintro e1 w1 ⟨av, k, c, bv, l, d, rfl, h1, h2, h3⟩; have HN := Lib.hid (And.intro h2 h3); clear h1 h2 h3)
  go_ret
  exact ⟨_, _, _, rfl, HN.out.1, HN.out.2⟩
end
section
open Go.RowKit
theorem Rn.pow_step (a e m k b : Nat) (hb : e / 2 ^ k % 2 = b) :
    (b = 0 → (a ^ (e / 2 ^ (k + 1)) % m) * (a ^ (e / 2 ^ (k + 1)) % m) % m = a ^ (e / 2 ^ k) % m) ∧
    (b = 1 → (a ^ (e / 2 ^ (k + 1)) % m) * (a ^ (e / 2 ^ (k + 1)) % m) % m * a % m = a ^ (e / 2 ^ k) % m) := by
  have e1 : e / 2 ^ (k + 1) = e / 2 ^ k / 2 := by rw [Nat.pow_succ, Nat.div_div_eq_div_mul]
  rw [e1]
  obtain ⟨E, hE⟩ : ∃ E, e / 2 ^ k = E := ⟨_, rfl⟩
  rw [hE] at hb ⊢
  obtain ⟨q, hq⟩ : ∃ q, E / 2 = q := ⟨_, rfl⟩
  rw [hq, ← Nat.mul_mod, ← Nat.pow_add]
  refine ⟨fun h => ?_, fun h => ?_⟩
  · rw [show q + q = E by omega]
  · rw [Nat.mul_mod, Nat.mod_mod, ← Nat.mul_mod, ← Nat.pow_succ]
    rw [show (q + q).succ = E by omega]
theorem Rn.one_lim (w : World) : Rn.Num (w.alloc (Obj.cells #[Value.int IntKind.u64 1] 47)) (some ⟨w.heap.size, 0, none⟩) 1 1 1 := by
  have h : Rn.Lim (w.alloc (Obj.cells #[Value.int IntKind.u64 1] 47)) w.heap.size 0 1 (fun _ => 1) := by
    refine Rn.Lim.ofRow (T := 47) (l := [Value.int .u64 1]) (heap_alloc_new _ _) (fun j hj => ?_) (fun _ => (show 1 < 65536 by decide))
    obtain rfl : j = 0 := by omega
    rfl
  exact ⟨Nat.le_refl _, w.heap.size, 0, fun _ => 1, fun _ => ⟨rfl, h⟩, fun _ => (show 1 < 65536 by decide), rfl, .inr (by decide)⟩
theorem Rn.Num.mod {w : World} {av : Option Addr} {k c x y : Nat} (h : Rn.Num w av k c (x % y)) {w2 : World} {bv : Option Addr} {l d : Nat} (g : Rn.Num w2 bv l d y) (hy : 0 < y) : k ≤ l := h.mono2 g (Nat.le_of_lt (Nat.mod_lt _ hy))
theorem Rn.Num.mul {w : World} {av : Option Addr} {k c x y n m : Nat} (h : Rn.Num w av k c (x * y)) (hx : x < 65536 ^ n) (hy : y < 65536 ^ m) : k ≤ n + m := h.len _ (by
  rw [Nat.pow_add]
  exact Nat.mul_lt_mul'' hx hy)
set_option maxHeartbeats 2000000 in
set_option maxRecDepth 100000 in
theorem Rn.Pow_any (w : World) (ax ay az : Option Addr) (n cx x m cy y l cz z : Nat) (hx : Rn.Num w ax n cx x) (hy : Rn.Num w ay m cy y) (hz : Rn.Num w az l cz z) (hn : n ≤ 100000) (hm : m ≤ 100000) (hl : l ≤ 100000) (hz0 : 0 < z) :
    Calls Tryz.prog 24 #[.slice ax n cx, .slice ay m cy, .slice az l cz] w fun e w' => ∃ av k c, e = .returned (.slice av k c) ∧ Rn.Num w' av k c (x ^ y % z) ∧ Below w.heap.size w w' := by
  obtain ⟨T, hT⟩ : ∃ T, Nt.dig y = T := ⟨_, rfl⟩
  have hTn : T ≤ 16 * m := by
    rw [← hT]
    refine Nt.dig_of_lt _ _ ?_
    rw [Nat.pow_mul]; exact hy.lt
  have hTb : (T : Int) ≤ 1600000 := by omega
  have hyT : y < 2 ^ T := by rw [← hT]; exact Nt.dig_lt y
  obtain ⟨T1, hT1⟩ : ∃ T1 : Int, (T : Int) - 1 = T1 := ⟨_, rfl⟩
  have hT1b : T1 ≤ 1600000 := by omega
  have hT1c : -1 ≤ T1 := by omega
  have hb0 := (Below.refl w.heap.size w).alloc (Nat.le_refl _) (Obj.cells #[Value.int IntKind.u64 1] 47)
  have HL := Lib.hid (Rn.Left_any _ (some ⟨w.heap.size, 0, none⟩) az 1 1 1 l cz z (Rn.one_lim w) (hz.below hb0) (by omega) (by omega) hz0)
  have H0 := Lib.hid (And.intro hx (And.intro hy (And.intro hz (And.intro hT (And.intro hTn (And.intro hyT (And.intro hz0 hb0)))))))
  clear hx hy hz hT hTn hyT hz0 hb0
  go_enter Tryz.func24, Tryz.ntmps24
  go_wp2_with fail
  go_at_call 27
  refine Calls.mono HL.out ?_
  rintro e1 w1 ⟨av, k, c, rfl, hN, hb⟩
  have hB : Below w.heap.size w w1 := H0.out.2.2.2.2.2.2.2.trans (hb.mono H0.out.2.2.2.2.2.2.2.size)
  have HB := Lib.hid (Rn.Bits_any w1 ay m cy y (H0.out.2.1.below hB) (by omega))
  rw [H0.out.2.2.2.1] at HB
  have HN := Lib.hid (And.intro hN hB)
  clear hN hB hb
  go_wp2_with (go_at_call 19; refine Calls.mono HB.out ?_; rintro e2 w1 ⟨rfl, rfl⟩)
  have HT1 := Lib.hid hT1
  clear hT1
  go_loopw [7, 8] (fun ov iv wr => ∃ (kk : Nat) (i : Int) (av : Option Addr) (k c : Nat), kk ≤ T ∧ iv = .int .i64 i ∧ i = (kk : Int) - 1 ∧ ov = .slice av k c ∧ Rn.Num wr av k c (x ^ (y / 2 ^ kk) % z) ∧ Below w.heap.size w wr) (fun _ iv _ => (intOf iv + 1).toNat)
  case atStart => exact ⟨T, T1, av, k, c, Nat.le_refl _, rfl, HT1.out.symm, rfl, by rw [Nat.div_eq_of_lt H0.out.2.2.2.2.2.1, Nat.pow_zero]; exact HN.out.1, HN.out.2⟩
  case round =>
  obtain ⟨kk, i, av, k, c, hkk, rfl, hi, rfl, hN, hB⟩ := hrel
  obtain ⟨w2, rfl⟩ : ∃ w2, w2 = wr := ⟨_, rfl⟩
  by_cases hk0 : kk = 0
  · have hi0 : ¬ 0 ≤ i := by omega
    subst hk0
    rw [Nat.pow_zero, Nat.div_one] at hN
    have HN2 := Lib.hid (And.intro hN hB)
    clear hN hB hi
    go_wp2_with fail
    go_ret
    exact ⟨_, _, _, rfl, HN2.out.1, HN2.out.2⟩
  · obtain ⟨j, hj⟩ : ∃ j, kk - 1 = j := ⟨_, rfl⟩
    obtain rfl : i = (j : Int) := by omega
    obtain rfl : kk = j + 1 := by omega
    have hjz : 0 ≤ (j : Int) := by omega
    have hjT : j < 16 * m := by have := H0.out.2.2.2.2.1; omega
    have hX := H0.out.1.below hB
    have hY := H0.out.2.1.below hB
    have hZ := H0.out.2.2.1.below hB
    have hz0 := H0.out.2.2.2.2.2.2.1
    have hkl := hN.mod hZ hz0
    obtain ⟨b, hb⟩ : ∃ b, y / 2 ^ j % 2 = b := ⟨_, rfl⟩
    have hb2 : b = 0 ∨ b = 1 := by omega
    have hst := Rn.pow_step x y z j b hb
    obtain ⟨V, hV⟩ : ∃ V, x ^ (y / 2 ^ (j + 1)) % z = V := ⟨_, rfl⟩
    rw [hV] at hN hst
    have H2 := Lib.hid (And.intro hX (And.intro hY (And.intro hZ (And.intro hN (And.intro hB (And.intro hst hb))))))
    clear hX hY hZ hN hB hst hb hV hi hj hk0
    go_wp2_with fail
    go_at_call 28
    refine Calls.mono (Rn.Times_any w2 av av k c V k c V H2.out.2.2.2.1 H2.out.2.2.2.1 (by omega) (by omega)) ?_
    rintro e3 w3 ⟨bv, k2, c2, rfl, hN3, hb3⟩
    have hk2 := hN3.mul H2.out.2.2.2.1.lt H2.out.2.2.2.1.lt
    have H3 := Lib.hid (And.intro (H2.out.1.below hb3) (And.intro (H2.out.2.1.below hb3) (And.intro (H2.out.2.2.1.below hb3) (And.intro hN3 (H2.out.2.2.2.2.1.trans (hb3.mono H2.out.2.2.2.2.1.size))))))
    clear hN3 hb3
    go_wp2_with fail
    go_at_call 27
    refine Calls.mono (Rn.Left_any w3 bv az k2 c2 (V * V) l cz z H3.out.2.2.2.1 H3.out.2.2.1 (by omega) (by omega) hz0) ?_
    rintro e4 w4 ⟨cv, k3, c3, rfl, hN4, hb4⟩
    have hk3 := hN4.mod H3.out.2.2.1 hz0
    have H4 := Lib.hid (And.intro (H3.out.1.below hb4) (And.intro (H3.out.2.1.below hb4) (And.intro (H3.out.2.2.1.below hb4) (And.intro hN4 (H3.out.2.2.2.2.trans (hb4.mono H3.out.2.2.2.2.size))))))
    clear hN4 hb4
    have HBit := Lib.hid (Rn.Bit_any w4 ay m cy y j H4.out.2.1 (by omega) hjT)
    rw [H2.out.2.2.2.2.2.2] at HBit
    rcases hb2 with rfl | rfl
    · go_wp2_with (go_at_call 44; refine Calls.mono HBit.out ?_; rintro e5 w5 ⟨rfl, rfl⟩)
      exact ⟨⟨j, (j : Int) - 1, _, _, _, by omega, rfl, rfl, rfl, by rw [← H2.out.2.2.2.2.2.1.1 trivial]; exact H4.out.2.2.2.1, H4.out.2.2.2.2⟩, by simp [intOf] <;> omega⟩
    · go_wp2_with (go_at_call 44; refine Calls.mono HBit.out ?_; rintro e5 w4 ⟨rfl, rfl⟩)
      go_at_call 28
      refine Calls.mono (Rn.Times_any _ cv ax k3 c3 _ n cx x H4.out.2.2.2.1 H4.out.1 (by omega) (by omega)) ?_
      rintro e6 w6 ⟨dv, k4, c4, rfl, hN6, hb6⟩
      have hk4 := hN6.mul H4.out.2.2.2.1.lt H4.out.1.lt
      have H6 := Lib.hid (And.intro (H4.out.2.2.1.below hb6) (And.intro hN6 (H4.out.2.2.2.2.trans (hb6.mono H4.out.2.2.2.2.size))))
      clear hN6 hb6
      go_wp2_with fail
      go_at_call 27
      refine Calls.mono (Rn.Left_any w6 dv az k4 c4 _ l cz z H6.out.2.1 H6.out.1 (by omega) (by omega) hz0) ?_
      rintro e7 w7 ⟨ev, k5, c5, rfl, hN7, hb7⟩
      have H7 := Lib.hid (And.intro hN7 (H6.out.2.2.trans (hb7.mono H6.out.2.2.size)))
      clear hN7 hb7
      go_wp2_with fail
      exact ⟨⟨j, (j : Int) - 1, _, _, _, by omega, rfl, rfl, rfl, by rw [← H2.out.2.2.2.2.2.1.2 trivial]; exact H7.out.1, H7.out.2⟩, by simp [intOf] <;> omega⟩
end
end Go.Proofs.YtccbnpondlncpaaGreatDoor
