/- The reference: Gcd. -/
import Derived.Test.YtccbnpondlncpaaGreatDoorRnO
namespace Go.Proofs.YtccbnpondlncpaaGreatDoor
open Go.RowKit
theorem Rn.gcd_both (x y : Nat) (hx : x % 2 = 0) (hy : y % 2 = 0) : Nat.gcd x y = Nat.gcd (x / 2) (y / 2) * 2 := by
  obtain ⟨a, rfl⟩ : ∃ a, x = a * 2 := ⟨x / 2, by omega⟩
  obtain ⟨b, rfl⟩ : ∃ b, y = b * 2 := ⟨y / 2, by omega⟩
  rw [Nat.mul_div_cancel _ (by decide), Nat.mul_div_cancel _ (by decide), Nat.gcd_mul_right]
theorem Rn.gcd_one (x y : Nat) (hx : x % 2 = 0) (hy : y % 2 = 1) : Nat.gcd x y = Nat.gcd (x / 2) y := by
  obtain ⟨a, rfl⟩ : ∃ a, x = 2 * a := ⟨x / 2, by omega⟩
  rw [Nat.mul_div_cancel_left _ (by decide)]
  exact Nat.Coprime.gcd_mul_left_cancel a (show Nat.gcd 2 y = 1 by rw [Nat.gcd_rec, hy]; rfl)
theorem Rn.gcd_two (x y : Nat) (hx : x % 2 = 1) (hy : y % 2 = 0) : Nat.gcd x y = Nat.gcd x (y / 2) := by
  rw [Nat.gcd_comm, Rn.gcd_one y x hy hx, Nat.gcd_comm]
theorem Rn.gcd_less (x y : Nat) (h : y ≤ x) : Nat.gcd x y = Nat.gcd (x - y) y := by
  obtain ⟨d, rfl⟩ : ∃ d, x = d + y := ⟨x - y, by omega⟩
  rw [Nat.add_sub_cancel, Nat.gcd_add_self_left]
theorem Rn.gcd_less2 (x y : Nat) (h : x ≤ y) : Nat.gcd x y = Nat.gcd x (y - x) := by
  rw [Nat.gcd_comm, Rn.gcd_less y x h, Nat.gcd_comm]
theorem Rn.gcd_end (x y : Nat) (h : x = 0 ∨ y = 0) : Nat.gcd x y = x + y := by
  rcases h with rfl | rfl <;> simp
structure Rn.St (X Y x y t : Nat) : Prop where
  g : Nat.gcd X Y = Nat.gcd x y * 2 ^ t
  x : x * 2 ^ t ≤ X
  y : y * 2 ^ t ≤ Y
theorem Rn.St.both {X Y x y t : Nat} (h : Rn.St X Y x y t) (hx : x % 2 = 0) (hy : y % 2 = 0) : Rn.St X Y (x / 2) (y / 2) (t + 1) := by
  refine ⟨by rw [h.g, Rn.gcd_both x y hx hy, Nat.mul_assoc, Nat.pow_succ, Nat.mul_comm 2], ?_, ?_⟩
  · have := h.x
    rw [Nat.pow_succ, Nat.mul_comm (2 ^ t), ← Nat.mul_assoc, show x / 2 * 2 = x by omega]; exact this
  · have := h.y
    rw [Nat.pow_succ, Nat.mul_comm (2 ^ t), ← Nat.mul_assoc, show y / 2 * 2 = y by omega]; exact this
theorem Rn.St.to {X Y x y t : Nat} (h : Rn.St X Y x y t) (a b : Nat) (hg : Nat.gcd x y = Nat.gcd a b) (ha : a ≤ x) (hb : b ≤ y) : Rn.St X Y a b t :=
  ⟨by rw [h.g, hg], Nat.le_trans (Nat.mul_le_mul_right _ ha) h.x, Nat.le_trans (Nat.mul_le_mul_right _ hb) h.y⟩
theorem Rn.St.few {X Y x y t n : Nat} (h : Rn.St X Y x y t) (h0 : 0 < x) (hX : X < 65536 ^ n) : t < 16 * n := by
  have h1 : 2 ^ t ≤ x * 2 ^ t := Nat.le_mul_of_pos_left _ h0
  have h2 : 2 ^ t < 2 ^ (16 * n) := by
    rw [Nat.pow_mul]; exact Nat.lt_of_le_of_lt h1 (Nat.lt_of_le_of_lt h.x hX)
  exact (Nat.pow_lt_pow_iff_right (by decide)).1 h2
theorem Rn.St.xle {X Y x y t : Nat} (h : Rn.St X Y x y t) : x ≤ X := Nat.le_trans (Nat.le_mul_of_pos_right _ (Nat.pow_pos (by decide))) h.x
theorem Rn.St.yle {X Y x y t : Nat} (h : Rn.St X Y x y t) : y ≤ Y := Nat.le_trans (Nat.le_mul_of_pos_right _ (Nat.pow_pos (by decide))) h.y
theorem Rn.gcd_lt {X Y n m : Nat} (hX : X < 65536 ^ n) (hY : Y < 65536 ^ m) : Nat.gcd X Y < 65536 ^ (n + m) := by
  have h1 : (65536 : Nat) ^ n ≤ 65536 ^ (n + m) := Nat.pow_le_pow_right (by decide) (by omega)
  have h2 : (65536 : Nat) ^ m ≤ 65536 ^ (n + m) := Nat.pow_le_pow_right (by decide) (by omega)
  rcases Nat.eq_zero_or_pos X with rfl | h0
  · rw [Nat.gcd_zero_left]; omega
  · have := Nat.gcd_le_left Y h0; omega
theorem Rn.twice {G s t i : Nat} (h : G = s * 2 ^ t) (hi : i ≤ t) : s * 2 ^ i ≤ G := by
  rw [h]; exact Nat.mul_le_mul_left _ (Nat.pow_le_pow_right (by decide) hi)
set_option maxHeartbeats 4000000 in
set_option maxRecDepth 100000 in
theorem Rn.Gcd_any (w : World) (ax ay : Option Addr) (n0 cx X m0 cy Y : Nat) (hx : Rn.Num w ax n0 cx X) (hy : Rn.Num w ay m0 cy Y) (hn : n0 ≤ 40000) (hm : m0 ≤ 40000) :
    Calls Tryz.prog 26 #[.slice ax n0 cx, .slice ay m0 cy] w fun e w' => ∃ av k c, e = .returned (.slice av k c) ∧ Rn.Num w' av k c (Nat.gcd X Y) ∧ Below w.heap.size w w' := by
  have H0 := Lib.hid (And.intro hx (And.intro hy (And.intro (Rn.gcd_lt hx.lt hy.lt) (And.intro hx.lt hy.lt))))
  clear hx hy
  go_enter Tryz.func26, Tryz.ntmps26
  go_wp2_with fail
  go_loopg [0, 1, 5] (X + Y + 1) (fun gk av bv tv wx => ∃ ax n cx x ay m cy y t, av = .slice ax n cx ∧ bv = .slice ay m cy ∧ tv = .int .i64 (t : Nat) ∧ Rn.Num wx ax n cx x ∧ Rn.Num wx ay m cy y ∧ Rn.St X Y x y t ∧ t ≤ 16 * n0 ∧ x + y < gk ∧ Below w.heap.size w wx)
  case atStart => exact ⟨_, _, _, X, _, _, _, Y, 0, rfl, rfl, rfl, H0.out.1, H0.out.2.1, ⟨by rw [Nat.pow_zero, Nat.mul_one], by rw [Nat.pow_zero, Nat.mul_one]; exact Nat.le_refl _, by rw [Nat.pow_zero, Nat.mul_one]; exact Nat.le_refl _⟩, Nat.zero_le _, Nat.lt_succ_self _, Below.refl _ _⟩
  case round =>
  obtain ⟨ax, n, cx, x, ay, m, cy, y, t, rfl, rfl, rfl, hX, hY, hS, htb, hgk, hB⟩ := hrel
  obtain ⟨w2, rfl⟩ : ∃ w2, w2 = wr := ⟨_, rfl⟩
  have hn2 := hX.mono2 H0.out.1 hS.xle
  have hm2 := hY.mono2 H0.out.2.1 hS.yle
  have htz : (t : Int) ≤ 640000 := by omega
  by_cases hx0 : x = 0
  · have hn0 : n = 0 := hX.zero.2 hx0
    have hG : Nat.gcd X Y = (x + y) * 2 ^ t := by rw [hS.g, Rn.gcd_end x y (.inl hx0)]
    have H2 := Lib.hid (And.intro hX (And.intro hY (And.intro hG (And.intro hB (And.intro hn2 hm2)))))
    clear hX hY hG hB hn2 hm2 hS hx0 hgk
    subst hn0
    go_wp2_with fail
    go_at_call 30
    refine Calls.mono (Rn.Plus_any w2 ax ay 0 cx x m cy y H2.out.1 H2.out.2.1 (by have := H2.out.2.2.2.2; omega) (by have := H2.out.2.2.2.2; omega)) ?_
    rintro e3 w3 ⟨ov, k, c, rfl, hN3, hb3⟩
    have H3 := Lib.hid (And.intro hN3 (H2.out.2.2.2.1.trans (hb3.mono H2.out.2.2.2.1.size)))
    clear hN3 hb3
    go_wp2_with fail
    go_loopw [6, 7] (fun ov iv wr => ∃ (i : Nat) (av : Option Addr) (k c : Nat), i ≤ t ∧ ov = .slice av k c ∧ iv = .int .i64 (i : Int) ∧ Rn.Num wr av k c ((x + y) * 2 ^ i) ∧ Below w.heap.size w wr) (fun _ iv _ => t - (intOf iv).toNat)
    case atStart => exact ⟨0, _, _, _, Nat.zero_le _, rfl, rfl, by rw [Nat.pow_zero, Nat.mul_one]; exact H3.out.1, H3.out.2⟩
    case round =>
    clear H3
    obtain ⟨i, av, k, c, hi, rfl, rfl, hN, hB⟩ := hrel
    obtain ⟨w4, rfl⟩ : ∃ w4, w4 = wr := ⟨_, rfl⟩
    have hib : (i : Int) ≤ 1600000 := by omega
    by_cases hit : i < t
    · have hiz : (i : Int) < (t : Int) := by omega
      have hkb := hN.len (n0 + m0) (Nat.lt_of_le_of_lt (Rn.twice H2.out.2.2.1 hi) H0.out.2.2.1)
      have H4 := Lib.hid (And.intro hN hB)
      clear hN hB
      go_wp2_with fail
      go_at_call 30
      refine Calls.mono (Rn.Plus_any w4 av av k c _ k c _ H4.out.1 H4.out.1 (by omega) (by omega)) ?_
      rintro e5 w5 ⟨bv, k5, c5, rfl, hN5, hb5⟩
      have H5 := Lib.hid (And.intro hN5 (H4.out.2.trans (hb5.mono H4.out.2.size)))
      clear hN5 hb5
      go_wp2_with fail
      exact ⟨⟨i + 1, _, _, _, by omega, rfl, by go_num, by rw [Nat.pow_succ, ← Nat.mul_assoc, Nat.mul_two]; exact H5.out.1, H5.out.2⟩, by simp [intOf]; omega⟩
    · have hiz : ¬ (i : Int) < (t : Int) := by omega
      have hie : i = t := by omega
      have H4 := Lib.hid (And.intro hN (And.intro hB hie))
      clear hN hB hie hi hit
      go_wp2_with fail
      go_ret
      exact ⟨_, _, _, rfl, by rw [H2.out.2.2.1, ← H4.out.2.2]; exact H4.out.1, H4.out.2.1⟩
  by_cases hy0 : y = 0
  · have hm0 : m = 0 := hY.zero.2 hy0
    have hn1 : (0 : Int) < (n : Int) := by
      have : n ≠ 0 := fun e => hx0 (hX.zero.1 e)
      omega
    have hG : Nat.gcd X Y = (x + y) * 2 ^ t := by rw [hS.g, Rn.gcd_end x y (.inr hy0)]
    have H2 := Lib.hid (And.intro hX (And.intro hY (And.intro hG (And.intro hB (And.intro hn2 hm2)))))
    clear hX hY hG hB hn2 hm2 hS hx0 hy0 hgk
    subst hm0
    go_wp2_with fail
    go_at_call 30
    refine Calls.mono (Rn.Plus_any w2 ax ay n cx x 0 cy y H2.out.1 H2.out.2.1 (by have := H2.out.2.2.2.2; omega) (by have := H2.out.2.2.2.2; omega)) ?_
    rintro e3 w3 ⟨ov, k, c, rfl, hN3, hb3⟩
    have H3 := Lib.hid (And.intro hN3 (H2.out.2.2.2.1.trans (hb3.mono H2.out.2.2.2.1.size)))
    clear hN3 hb3
    go_wp2_with fail
    go_loopw [6, 7] (fun ov iv wr => ∃ (i : Nat) (av : Option Addr) (k c : Nat), i ≤ t ∧ ov = .slice av k c ∧ iv = .int .i64 (i : Int) ∧ Rn.Num wr av k c ((x + y) * 2 ^ i) ∧ Below w.heap.size w wr) (fun _ iv _ => t - (intOf iv).toNat)
    case atStart => exact ⟨0, _, _, _, Nat.zero_le _, rfl, rfl, by rw [Nat.pow_zero, Nat.mul_one]; exact H3.out.1, H3.out.2⟩
    case round =>
    clear H3
    obtain ⟨i, av, k, c, hi, rfl, rfl, hN, hB⟩ := hrel
    obtain ⟨w4, rfl⟩ : ∃ w4, w4 = wr := ⟨_, rfl⟩
    have hib : (i : Int) ≤ 1600000 := by omega
    by_cases hit : i < t
    · have hiz : (i : Int) < (t : Int) := by omega
      have hkb := hN.len (n0 + m0) (Nat.lt_of_le_of_lt (Rn.twice H2.out.2.2.1 hi) H0.out.2.2.1)
      have H4 := Lib.hid (And.intro hN hB)
      clear hN hB
      go_wp2_with fail
      go_at_call 30
      refine Calls.mono (Rn.Plus_any w4 av av k c _ k c _ H4.out.1 H4.out.1 (by omega) (by omega)) ?_
      rintro e5 w5 ⟨bv, k5, c5, rfl, hN5, hb5⟩
      have H5 := Lib.hid (And.intro hN5 (H4.out.2.trans (hb5.mono H4.out.2.size)))
      clear hN5 hb5
      go_wp2_with fail
      exact ⟨⟨i + 1, _, _, _, by omega, rfl, by go_num, by rw [Nat.pow_succ, ← Nat.mul_assoc, Nat.mul_two]; exact H5.out.1, H5.out.2⟩, by simp [intOf]; omega⟩
    · have hiz : ¬ (i : Int) < (t : Int) := by omega
      have hie : i = t := by omega
      have H4 := Lib.hid (And.intro hN (And.intro hB hie))
      clear hN hB hie hi hit
      go_wp2_with fail
      go_ret
      exact ⟨_, _, _, rfl, by rw [H2.out.2.2.1, ← H4.out.2.2]; exact H4.out.1, H4.out.2.1⟩
  obtain ⟨hnp, bx, ox, u, hax, cu, hpu, hub⟩ := hX.low (Nat.pos_of_ne_zero hx0)
  obtain ⟨hmp, by', oy, v, hay, cv, hpv, hvb⟩ := hY.low (Nat.pos_of_ne_zero hy0)
  have hn1 : (0 : Int) < (n : Int) := by omega
  have hm1 : (0 : Int) < (m : Int) := by omega
  have htl := hS.few (Nat.pos_of_ne_zero hx0) H0.out.2.2.2.1
  have H2 := Lib.hid (And.intro hX (And.intro hY (And.intro hS (And.intro hB (And.intro hn2 hm2)))))
  clear hX hY hS hB hn2 hm2
  subst hax hay
  obtain ⟨p, hp⟩ : ∃ p, u % 2 = p := ⟨_, rfl⟩
  obtain ⟨q, hq⟩ : ∃ q, v % 2 = q := ⟨_, rfl⟩
  have rp : (u : Int) % 2 = (p : Int) := by omega
  have rq : (v : Int) % 2 = (q : Int) := by omega
  rw [hp] at hpu
  rw [hq] at hpv
  have hp2 : p = 0 ∨ p = 1 := by omega
  have hq2 : q = 0 ∨ q = 1 := by omega
  clear hp hq
  rcases hp2 with rfl | rfl
  · rcases hq2 with rfl | rfl
    · have HM := Lib.hid (And.intro (H2.out.2.2.1.both hpu hpv) (show x / 2 + y / 2 < x + y ∧ t + 1 ≤ 16 * n0 ∧ x + y < gk by omega))
      clear hpu hpv hx0 hy0 htl hgk htb
      go_wp2_with fail
      go_at_call 50
      refine Calls.mono (Rn.half_any _ _ n cx x H2.out.1 (by have := H2.out.2.2.2.2; omega)) ?_
      rintro e3 w3 ⟨av, k, c, rfl, hN3, hb3⟩
      have H3 := Lib.hid (And.intro hN3 (And.intro (H2.out.2.1.below hb3) (H2.out.2.2.2.1.trans (hb3.mono H2.out.2.2.2.1.size))))
      clear hN3 hb3
      go_wp2_with fail
      go_at_call 50
      refine Calls.mono (Rn.half_any _ _ m cy y H3.out.2.1 (by have := H2.out.2.2.2.2; omega)) ?_
      rintro e4 w4 ⟨bv, k4, c4, rfl, hN4, hb4⟩
      have H4 := Lib.hid (And.intro (H3.out.1.below hb4) (And.intro hN4 (H3.out.2.2.trans (hb4.mono H3.out.2.2.size))))
      clear hN4 hb4
      go_wp2_with fail
      go_roundg (x + y)
      case rel => exact ⟨_, _, _, _, _, _, _, _, t + 1, rfl, rfl, by go_num, H4.out.1, H4.out.2.1, HM.out.1, HM.out.2.2.1, HM.out.2.1, H4.out.2.2⟩
      exact HM.out.2.2.2
    · have HM := Lib.hid (And.intro (H2.out.2.2.1.to (x / 2) y (Rn.gcd_one x y hpu hpv) (by omega) (Nat.le_refl _)) (show x / 2 + y < x + y ∧ t ≤ 16 * n0 ∧ x + y < gk by omega))
      clear hpu hpv hx0 hy0 htl hgk htb
      go_wp2_with fail
      go_at_call 50
      refine Calls.mono (Rn.half_any _ _ n cx x H2.out.1 (by have := H2.out.2.2.2.2; omega)) ?_
      rintro e3 w3 ⟨av, k, c, rfl, hN3, hb3⟩
      have H3 := Lib.hid (And.intro hN3 (And.intro (H2.out.2.1.below hb3) (H2.out.2.2.2.1.trans (hb3.mono H2.out.2.2.2.1.size))))
      clear hN3 hb3
      go_wp2_with fail
      go_roundg (x + y)
      case rel => exact ⟨_, _, _, _, _, _, _, _, t, rfl, rfl, rfl, H3.out.1, H3.out.2.1, HM.out.1, HM.out.2.2.1, HM.out.2.1, H3.out.2.2⟩
      exact HM.out.2.2.2
  · rcases hq2 with rfl | rfl
    · have HM := Lib.hid (And.intro (H2.out.2.2.1.to x (y / 2) (Rn.gcd_two x y hpu hpv) (Nat.le_refl _) (by omega)) (show x + y / 2 < x + y ∧ t ≤ 16 * n0 ∧ x + y < gk by omega))
      clear hpu hpv hx0 hy0 htl hgk htb
      go_wp2_with fail
      go_at_call 50
      refine Calls.mono (Rn.half_any _ _ m cy y H2.out.2.1 (by have := H2.out.2.2.2.2; omega)) ?_
      rintro e3 w3 ⟨av, k, c, rfl, hN3, hb3⟩
      have H3 := Lib.hid (And.intro (H2.out.1.below hb3) (And.intro hN3 (H2.out.2.2.2.1.trans (hb3.mono H2.out.2.2.2.1.size))))
      clear hN3 hb3
      go_wp2_with fail
      go_roundg (x + y)
      case rel => exact ⟨_, _, _, _, _, _, _, _, t, rfl, rfl, rfl, H3.out.1, H3.out.2.1, HM.out.1, HM.out.2.2.1, HM.out.2.1, H3.out.2.2⟩
      exact HM.out.2.2.2
    · have HC := Lib.hid (Rn.Cmp_any w2 _ _ n cx x m cy y H2.out.1 H2.out.2.1 (by have := H2.out.2.2.2.2; omega) (by have := H2.out.2.2.2.2; omega))
      by_cases hyx : y ≤ x
      · have HM := Lib.hid (And.intro (H2.out.2.2.1.to (x - y) y (Rn.gcd_less x y hyx) (by omega) (Nat.le_refl _)) (show (x - y + y < x + y ∧ t ≤ 16 * n0 ∧ x + y < gk) ∧ y ≤ x by omega))
        obtain ⟨r, hr⟩ : ∃ r, Nt.cmp x y = r := ⟨_, rfl⟩
        rw [hr] at HC
        have hr0 : ¬ r < 0 := by
          rw [← hr]; unfold Nt.cmp
          rw [if_neg (by omega)]
          split <;> decide
        have hr1 : 0 ≤ r := by omega
        clear hpu hpv hx0 hy0 htl hgk htb hr hyx
        go_wp2_with fail
        go_at_call 21
        refine Calls.mono HC.out ?_
        rintro e3 w3 ⟨rfl, j3, hw3⟩
        have hb3 : Below w2.heap.size w2 w3 := by rw [hw3]; exact Rn.beyond (Below.refl _ _) j3
        have H3 := Lib.hid (And.intro (H2.out.1.below hb3) (And.intro (H2.out.2.1.below hb3) (H2.out.2.2.2.1.trans (hb3.mono H2.out.2.2.2.1.size))))
        clear hb3 hw3
        go_wp2_with fail
        go_at_call 31
        refine Calls.mono (Rn.Minus_any w3 _ _ n cx x m cy y H3.out.1 H3.out.2.1 (by have := H2.out.2.2.2.2; omega) HM.out.2.2) ?_
        rintro e4 w4 ⟨bv, k4, c4, rfl, hN4, hb4⟩
        have H4 := Lib.hid (And.intro hN4 (And.intro (H3.out.2.1.below hb4) (H3.out.2.2.trans (hb4.mono H3.out.2.2.size))))
        clear hN4 hb4
        go_wp2_with fail
        go_roundg (x + y)
        case rel => exact ⟨_, _, _, _, _, _, _, _, t, rfl, rfl, rfl, H4.out.1, H4.out.2.1, HM.out.1, HM.out.2.1.2.1, HM.out.2.1.1, H4.out.2.2⟩
        exact HM.out.2.1.2.2
      · have HM := Lib.hid (And.intro (H2.out.2.2.1.to x (y - x) (Rn.gcd_less2 x y (by omega)) (Nat.le_refl _) (by omega)) (show (x + (y - x) < x + y ∧ t ≤ 16 * n0 ∧ x + y < gk) ∧ x ≤ y by omega))
        obtain ⟨r, hr⟩ : ∃ r, Nt.cmp x y = r := ⟨_, rfl⟩
        rw [hr] at HC
        have hr0 : r < 0 := by
          rw [← hr]; unfold Nt.cmp
          rw [if_pos (by omega)]
          decide
        have hr1 : ¬ 0 ≤ r := by omega
        clear hpu hpv hx0 hy0 htl hgk htb hr hyx
        go_wp2_with fail
        go_at_call 21
        refine Calls.mono HC.out ?_
        rintro e3 w3 ⟨rfl, j3, hw3⟩
        have hb3 : Below w2.heap.size w2 w3 := by rw [hw3]; exact Rn.beyond (Below.refl _ _) j3
        have H3 := Lib.hid (And.intro (H2.out.1.below hb3) (And.intro (H2.out.2.1.below hb3) (H2.out.2.2.2.1.trans (hb3.mono H2.out.2.2.2.1.size))))
        clear hb3 hw3
        go_wp2_with fail
        go_at_call 31
        refine Calls.mono (Rn.Minus_any w3 _ _ m cy y n cx x H3.out.2.1 H3.out.1 (by have := H2.out.2.2.2.2; omega) HM.out.2.2) ?_
        rintro e4 w4 ⟨bv, k4, c4, rfl, hN4, hb4⟩
        have H4 := Lib.hid (And.intro (H3.out.1.below hb4) (And.intro hN4 (H3.out.2.2.trans (hb4.mono H3.out.2.2.size))))
        clear hN4 hb4
        go_wp2_with fail
        go_roundg (x + y)
        case rel => exact ⟨_, _, _, _, _, _, _, _, t, rfl, rfl, rfl, H4.out.1, H4.out.2.1, HM.out.1, HM.out.2.1.2.1, HM.out.2.1.1, H4.out.2.2⟩
        exact HM.out.2.1.2.2
end Go.Proofs.YtccbnpondlncpaaGreatDoor
