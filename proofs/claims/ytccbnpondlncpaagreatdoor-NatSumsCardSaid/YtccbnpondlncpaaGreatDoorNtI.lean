/- The guess, in values: what guess answers is the quotient's digit, or one more. -/
import Derived.Test.YtccbnpondlncpaaGreatDoorNtG
namespace Go.Proofs.YtccbnpondlncpaaGreatDoor
section
open Go.RowKit

theorem Nt.two_limbs (x y : Nat) (hy : y < 4294967296) : (x * 4294967296 ||| y) = x * 4294967296 + y := by
  have := Nat.two_pow_add_eq_or_of_lt (i := 32) hy x
  rw [Nat.mul_comm] at this
  exact this.symm
theorem Nt.two_or (x y z : Nat) (hx : x < 4294967296) (hy : y < 4294967296) (h : x * 4294967296 + y = z) : bits .or .u64 ((x : Int) * 4294967296) (y : Int) = (z : Int) := by
  have e : (x : Int) * 4294967296 = ((x * 4294967296 : Nat) : Int) := by simp
  rw [e, u64_or_nat _ _ (by omega) (by omega), Nt.two_limbs x y hy, h]
theorem Nt.w64 (d n : Nat) (h : d < n) (hn : n ≤ 1000000) : wrap64 (d : Int) = (d : Int) := by unfold wrap64; omega
theorem Nt.i64w (d n : Nat) (h : d < n) (hn : n ≤ 1000000) : IntKind.i64.wrap (d : Int) = (d : Int) := IntWalk.i64_in _ (by omega)
theorem Nt.guess_any (w : World) (bx ox nx cx : Nat) (fx : Nat → Nat) (b' oy n cy : Nat) (fy : Nat → Nat) (u v E sec thi : Nat) (hx : Nt.Lim w bx ox nx fx) (hy : Nt.Lim w b' oy n fy) (hnx : nx = n + 1) (hn0 : 0 < n) (hn : n ≤ 1000000)
    (h1 : n = 1 → sec = 0 ∧ thi = 0) (h2 : 1 < n → fy (n - 2) = sec ∧ fx (n - 2) = thi) (hf : 0 < fy (n - 1)) (hL : Nt.Lead 4294967296 u v (fx n * 4294967296 + fx (n - 1)) thi (fy (n - 1)) sec E) :
    Calls Tryz.prog 100 #[.slice (some ⟨bx, ox, none⟩) nx cx, .slice (some ⟨b', oy, none⟩) n cy] w fun e w' => ∃ t, e = .returned (.int .u32 ((t : Nat) : Int)) ∧ t < 4294967296 ∧ u / v ≤ t ∧ t ≤ u / v + 1 ∧ ∃ k, w' = w.drewN k := by
  obtain ⟨a, ha⟩ : ∃ a, n - 1 = a := ⟨_, rfl⟩
  have hna : (n : Int) - 1 = (a : Int) := by omega
  have haw : IntKind.i64.wrap (a : Int) = (a : Int) := IntWalk.i64_in _ (by omega)
  have haw64 : wrap64 (a : Int) = (a : Int) := by unfold wrap64; omega
  have haz : (a : Int) < (n : Int) := by omega
  have haz0 : 0 ≤ (a : Int) := by omega
  have hax : (a : Int) < (nx : Int) := by omega
  have hnxz : (n : Int) < (nx : Int) := by omega
  have hbn : a + 1 = n := by omega
  have hal : a < n := by omega
  have hal2 : a < nx := by omega
  have hal3 : n < nx := by omega
  have c1 := hy.cell a hal
  have c2 := hx.cell n hal3
  have c3 := hx.cell a hal2
  have d1 := hy.dig a
  have d2 := hx.dig n
  have d3 := hx.dig a
  rw [ha] at hf hL
  obtain ⟨f1, e1⟩ : ∃ f1, fy a = f1 := ⟨_, rfl⟩
  obtain ⟨f2, e2⟩ : ∃ f2, fx n = f2 := ⟨_, rfl⟩
  obtain ⟨f3, e3⟩ : ∃ f3, fx a = f3 := ⟨_, rfl⟩
  rw [e1] at c1 d1 hf hL
  rw [e2] at c2 d2 hL
  rw [e3] at c3 d3 hL
  obtain ⟨hi, ehi⟩ : ∃ hi, f2 * 4294967296 + f3 = hi := ⟨_, rfl⟩
  have hib : hi < 18446744073709551616 := by clear haw haw64; omega
  have eor := Nt.two_or f2 f3 hi d2 d3 ehi
  rw [ehi] at hL
  have hq : Int.tdiv (hi : Int) (f1 : Int) = ((hi / f1 : Nat) : Int) := rfl
  have hr : Int.tmod (hi : Int) (f1 : Int) = ((hi % f1 : Nat) : Int) := rfl
  obtain ⟨q, eq⟩ : ∃ q, hi / f1 = q := ⟨_, rfl⟩
  obtain ⟨r, er⟩ : ∃ r, hi % f1 = r := ⟨_, rfl⟩
  have hG := Nt.Guess.start 4294967296 hi f1
  have hS := hL.start hf
  have hql : hi / f1 ≤ hi := Nat.div_le_self _ _
  have hrl : hi % f1 ≤ hi := Nat.mod_le _ _
  rw [eq] at hq hG hS hql
  rw [er] at hr hG hrl
  have hf0 : ¬ (f1 : Int) = 0 := by clear haw haw64 eor hq hr; omega
  have hfp := Lib.hid hf
  have HH := Lib.hid (And.intro ha (And.intro hnx (And.intro ehi (And.intro hib (And.intro d2 (And.intro d3 (And.intro e1 (And.intro e2 e3))))))))
  have H1 := Lib.hid h1
  have H2 := Lib.hid h2
  have hsec := hL.sec
  have hthi := hL.thi
  have HL := Lib.hid (And.intro hL (And.intro hG hS))
  have HXY := Lib.hid (And.intro hx hy)
  clear hf ha hnx ehi e1 e2 e3 h1 h2 hL hG hS eq er hx hy
  by_cases hn1 : n = 1
  · obtain ⟨rfl, rfl⟩ := H1.out hn1
    have hnz : ¬ (1 : Int) < (n : Int) := by clear haw haw64 eor hq hr; omega
    clear hn1
    go_enter Tryz.func100, Tryz.ntmps100
    go_wp2_with fail
    go_quiet (fail)
    go_wp2_with fail
    go_quiet (fail)
    go_wp2_with fail
    go_loopw [8, 9] (fun tv lv wr => ∃ (t l k : Nat), tv = .int .u64 (t : Int) ∧ lv = .int .u64 (l : Int) ∧ Nt.Guess 4294967296 hi f1 t l ∧ u / v ≤ t ∧ wr = w.drewN k) (fun tv _ _ => (intOf tv).toNat)
    case atStart => exact ⟨q, r, _, rfl, rfl, HL.out.2.1, HL.out.2.2, by first | rfl | (simp only [World.drewN_drewN]; rfl)⟩
    case round =>
    obtain ⟨t, l, k, rfl, rfl, hG, hS, hw⟩ := hrel
    obtain ⟨w2, rfl⟩ : ∃ w2, w2 = wr := ⟨_, rfl⟩
    have htl : t * f1 + l = hi := hG.eq
    have htm : t ≤ t * f1 := Nat.le_mul_of_pos_right t hfp.out
    have htu : t < 18446744073709551616 := by (try clear hdw hdw64); clear haw haw64 eor hq hr; omega
    have hlu : l < 18446744073709551616 := by (try clear hdw hdw64); clear haw haw64 eor hq hr; omega
    have HW := Lib.hid (And.intro hG (And.intro hS (And.intro hw (And.intro htl htm))))
    clear hG hS hw htl htm
    by_cases hA : 4294967296 ≤ t
    · obtain ⟨s, hs⟩ : ∃ s, t = s + 1 := ⟨t - 1, by (try clear hdw hdw64); clear haw haw64 eor hq hr; omega⟩
      have hsn : u / v ≤ s := by
        have h1 := HL.out.1.digit
        (try clear hdw hdw64)
        clear haw haw64 eor hq hr
        omega
      have hGn : Nt.Guess 4294967296 hi f1 s (l + f1) := Nt.Guess.next (by rw [← hs]; exact HW.out.1)
      have hln : l + f1 < 18446744073709551616 := by
        have h1 := hGn.eq
        (try clear hdw hdw64)
        clear haw haw64 eor hq hr
        omega
      have hzs : (t : Int) - 1 = (s : Int) := by (try clear hdw hdw64); clear haw haw64 eor hq hr; omega
      have hsu : s < 18446744073709551616 := by (try clear hdw hdw64); clear haw haw64 eor hq hr; omega
      obtain ⟨c, hc⟩ : ∃ c, t / 4294967296 = c := ⟨_, rfl⟩
      have hcz : (t : Int) / 4294967296 = (c : Int) := by (try clear hdw hdw64); clear haw haw64 eor hq hr; omega
      have hc0 : ((c : Int) != 0) = true := by rw [bne_iff_ne]; (try clear hdw hdw64); clear haw haw64 eor hq hr; omega
      have hlz : (l : Int) + (f1 : Int) = ((l + f1 : Nat) : Int) := by simp
      obtain ⟨m, hm⟩ : ∃ m, l + f1 = m := ⟨_, rfl⟩
      rw [hm] at hlz hln hGn
      have HZ := Lib.hid (And.intro hs (And.intro hsn (And.intro hGn hm)))
      clear hA hs hsn hGn hm hc
      go_wp2_with fail
      refine ⟨⟨s, m, k, by go_num, by go_num, HZ.out.2.2.1, HZ.out.2.1, HW.out.2.2.1⟩, by have := HZ.out.1; simp [intOf]; omega⟩
    · have htb : t < 4294967296 := by (try clear hdw hdw64); clear haw haw64 eor hq hr; omega
      have htbz : (t : Int) < 4294967296 := by (try clear hdw hdw64); clear haw haw64 eor hq hr; omega
      have hcz : (t : Int) / 4294967296 = 0 := by (try clear hdw hdw64); clear haw haw64 eor hq hr; omega
      clear hA
      by_cases hB : 4294967296 ≤ l
      · obtain ⟨c, hc⟩ : ∃ c, l / 4294967296 = c := ⟨_, rfl⟩
        have hlz : (l : Int) / 4294967296 = (c : Int) := by (try clear hdw hdw64); clear haw haw64 eor hq hr; omega
        have hc0 : ((c : Int) == 0) = false := by rw [beq_eq_false_iff_ne]; (try clear hdw hdw64); clear haw haw64 eor hq hr; omega
        have hst := HL.out.1.stop hfp.out HW.out.1 htb (Or.inl hB)
        have HB := Lib.hid hst
        clear hB hc hst
        go_wp2_with fail
        go_ret
        exact ⟨t, by go_num, htb, HW.out.2.1, HB.out, k, HW.out.2.2.1⟩
      · have hlb : l < 4294967296 := by (try clear hdw hdw64); clear haw haw64 eor hq hr; omega
        have hlz : (l : Int) / 4294967296 = 0 := by (try clear hdw hdw64); clear haw haw64 eor hq hr; omega
        clear hB
        obtain ⟨W, hWw⟩ : ∃ W, l * 4294967296 + 0 = W := ⟨_, rfl⟩
        have hor : bits .or .u64 ((l : Int) * 4294967296) (0) = (W : Int) := Nt.two_or l 0 W hlb hthi hWw
        have hWz : (W : Int) ≥ 0 := by (try clear hdw hdw64); clear haw haw64 eor hq hr; omega
        have hst := HL.out.1.stop hfp.out HW.out.1 htb (Or.inr (by rw [Nat.mul_zero]; exact Nat.zero_le _))
        have HB := Lib.hid hst
        have hWn : ¬ (W : Int) < 0 := by (try clear hdw hdw64); clear haw haw64 eor hq hr; omega
        clear hWw hst
        go_wp2_with fail
        go_ret
        exact ⟨t, by go_num, htb, HW.out.2.1, HB.out, k, HW.out.2.2.1⟩
  · have hnz : (1 : Int) < (n : Int) := by clear haw haw64 eor hq hr; omega
    obtain ⟨d, hd⟩ : ∃ d, n - 2 = d := ⟨_, rfl⟩
    have h2 := H2.out (by clear haw haw64 eor hq hr; omega)
    rw [hd] at h2
    have hdn : d < n := by clear haw haw64 eor hq hr; omega
    have hdx : d < nx := Nat.lt_trans hdn hal3
    have c4 := HXY.out.2.cell d hdn
    have c5 := HXY.out.1.cell d hdx
    rw [h2.1] at c4
    rw [h2.2] at c5
    have hdz : (n : Int) - 2 = (d : Int) := by clear haw haw64 eor hq hr; omega
    have hdz0 : 0 ≤ (d : Int) := by clear haw haw64 eor hq hr; omega
    have hdn2 : (d : Int) < (n : Int) := by clear haw haw64 eor hq hr; omega
    have hdx2 : (d : Int) < (nx : Int) := by clear haw haw64 eor hq hr; omega
    have hdw : IntKind.i64.wrap (d : Int) = (d : Int) := Nt.i64w d n hdn hn
    have hdw64 : wrap64 (d : Int) = (d : Int) := Nt.w64 d n hdn hn
    clear hn1 h2 hd
    go_enter Tryz.func100, Tryz.ntmps100
    go_wp2_with fail
    go_quiet (fail)
    go_wp2_with fail
    go_quiet (fail)
    go_wp2_with fail
    go_quiet (fail)
    go_wp2_with fail
    go_loopw [8, 9] (fun tv lv wr => ∃ (t l k : Nat), tv = .int .u64 (t : Int) ∧ lv = .int .u64 (l : Int) ∧ Nt.Guess 4294967296 hi f1 t l ∧ u / v ≤ t ∧ wr = w.drewN k) (fun tv _ _ => (intOf tv).toNat)
    case atStart => exact ⟨q, r, _, rfl, rfl, HL.out.2.1, HL.out.2.2, by first | rfl | (simp only [World.drewN_drewN]; rfl)⟩
    case round =>
    obtain ⟨t, l, k, rfl, rfl, hG, hS, hw⟩ := hrel
    obtain ⟨w2, rfl⟩ : ∃ w2, w2 = wr := ⟨_, rfl⟩
    have htl : t * f1 + l = hi := hG.eq
    have htm : t ≤ t * f1 := Nat.le_mul_of_pos_right t hfp.out
    have htu : t < 18446744073709551616 := by (try clear hdw hdw64); clear haw haw64 eor hq hr; omega
    have hlu : l < 18446744073709551616 := by (try clear hdw hdw64); clear haw haw64 eor hq hr; omega
    have HW := Lib.hid (And.intro hG (And.intro hS (And.intro hw (And.intro htl htm))))
    clear hG hS hw htl htm
    by_cases hA : 4294967296 ≤ t
    · obtain ⟨s, hs⟩ : ∃ s, t = s + 1 := ⟨t - 1, by (try clear hdw hdw64); clear haw haw64 eor hq hr; omega⟩
      have hsn : u / v ≤ s := by
        have h1 := HL.out.1.digit
        (try clear hdw hdw64)
        clear haw haw64 eor hq hr
        omega
      have hGn : Nt.Guess 4294967296 hi f1 s (l + f1) := Nt.Guess.next (by rw [← hs]; exact HW.out.1)
      have hln : l + f1 < 18446744073709551616 := by
        have h1 := hGn.eq
        (try clear hdw hdw64)
        clear haw haw64 eor hq hr
        omega
      have hzs : (t : Int) - 1 = (s : Int) := by (try clear hdw hdw64); clear haw haw64 eor hq hr; omega
      have hsu : s < 18446744073709551616 := by (try clear hdw hdw64); clear haw haw64 eor hq hr; omega
      obtain ⟨c, hc⟩ : ∃ c, t / 4294967296 = c := ⟨_, rfl⟩
      have hcz : (t : Int) / 4294967296 = (c : Int) := by (try clear hdw hdw64); clear haw haw64 eor hq hr; omega
      have hc0 : ((c : Int) != 0) = true := by rw [bne_iff_ne]; (try clear hdw hdw64); clear haw haw64 eor hq hr; omega
      have hlz : (l : Int) + (f1 : Int) = ((l + f1 : Nat) : Int) := by simp
      obtain ⟨m, hm⟩ : ∃ m, l + f1 = m := ⟨_, rfl⟩
      rw [hm] at hlz hln hGn
      have HZ := Lib.hid (And.intro hs (And.intro hsn (And.intro hGn hm)))
      clear hA hs hsn hGn hm hc
      go_wp2_with fail
      refine ⟨⟨s, m, k, by go_num, by go_num, HZ.out.2.2.1, HZ.out.2.1, HW.out.2.2.1⟩, by have := HZ.out.1; simp [intOf]; omega⟩
    · have htb : t < 4294967296 := by (try clear hdw hdw64); clear haw haw64 eor hq hr; omega
      have htbz : (t : Int) < 4294967296 := by (try clear hdw hdw64); clear haw haw64 eor hq hr; omega
      have hcz : (t : Int) / 4294967296 = 0 := by (try clear hdw hdw64); clear haw haw64 eor hq hr; omega
      clear hA
      by_cases hB : 4294967296 ≤ l
      · obtain ⟨c, hc⟩ : ∃ c, l / 4294967296 = c := ⟨_, rfl⟩
        have hlz : (l : Int) / 4294967296 = (c : Int) := by (try clear hdw hdw64); clear haw haw64 eor hq hr; omega
        have hc0 : ((c : Int) == 0) = false := by rw [beq_eq_false_iff_ne]; (try clear hdw hdw64); clear haw haw64 eor hq hr; omega
        have hst := HL.out.1.stop hfp.out HW.out.1 htb (Or.inl hB)
        have HB := Lib.hid hst
        clear hB hc hst
        go_wp2_with fail
        go_ret
        exact ⟨t, by go_num, htb, HW.out.2.1, HB.out, k, HW.out.2.2.1⟩
      · have hlb : l < 4294967296 := by (try clear hdw hdw64); clear haw haw64 eor hq hr; omega
        have hlz : (l : Int) / 4294967296 = 0 := by (try clear hdw hdw64); clear haw haw64 eor hq hr; omega
        clear hB
        obtain ⟨W, hWw⟩ : ∃ W, l * 4294967296 + thi = W := ⟨_, rfl⟩
        have hor : bits .or .u64 ((l : Int) * 4294967296) ((thi : Int)) = (W : Int) := Nt.two_or l thi W hlb hthi hWw
        obtain ⟨P, hP⟩ : ∃ P, t * sec = P := ⟨_, rfl⟩
        have hPb : P < 18446744073709551616 := by
          rw [← hP]
          exact Nat.mul_lt_mul'' htb hsec
        have hPz : (t : Int) * (sec : Int) = (P : Int) := by rw [← hP]; simp
        by_cases hC : W < P
        · have hCz : (W : Int) < (P : Int) := by (try clear hdw hdw64); clear haw haw64 eor hq hr; omega
          have ht1 : 1 ≤ t := by
            rcases Nat.eq_zero_or_pos t with h | h
            · rw [h, Nat.zero_mul] at hP
              (try clear hdw hdw64)
              clear haw haw64 eor hq hr
              omega
            · exact h
          obtain ⟨s, hs⟩ : ∃ s, t = s + 1 := ⟨t - 1, by (try clear hdw hdw64); clear haw haw64 eor hq hr; omega⟩
          have hsn : u / v ≤ s := HL.out.1.down (by rw [← hs]; exact HW.out.1) (by rw [← hs, hP, hWw]; exact hC)
          have hGn : Nt.Guess 4294967296 hi f1 s (l + f1) := Nt.Guess.next (by rw [← hs]; exact HW.out.1)
          have hln : l + f1 < 18446744073709551616 := by
            (try clear hdw hdw64)
            clear haw haw64 eor hq hr
            omega
          have hzs : (t : Int) - 1 = (s : Int) := by (try clear hdw hdw64); clear haw haw64 eor hq hr; omega
          have hsu : s < 18446744073709551616 := by (try clear hdw hdw64); clear haw haw64 eor hq hr; omega
          have hlz2 : (l : Int) + (f1 : Int) = ((l + f1 : Nat) : Int) := by simp
          obtain ⟨m, hm⟩ : ∃ m, l + f1 = m := ⟨_, rfl⟩
          rw [hm] at hlz2 hln hGn
          have HZ := Lib.hid (And.intro hs (And.intro hsn (And.intro hGn hm)))
          clear hC hs hsn hGn hm hP hWw ht1
          go_wp2_with fail
          refine ⟨⟨s, m, k, by go_num, by go_num, HZ.out.2.2.1, HZ.out.2.1, HW.out.2.2.1⟩, by have := HZ.out.1; simp [intOf]; omega⟩
        · have hCz : ¬ (W : Int) < (P : Int) := by (try clear hdw hdw64); clear haw haw64 eor hq hr; omega
          have hst := HL.out.1.stop hfp.out HW.out.1 htb (Or.inr (by rw [hP, hWw]; exact Nat.le_of_not_lt hC))
          have HB := Lib.hid hst
          clear hWw hst hP hC
          go_wp2_with fail
          go_ret
          exact ⟨t, by go_num, htb, HW.out.2.1, HB.out, k, HW.out.2.2.1⟩
end
section
open Go.RowKit

theorem Nt.lead_two (B : Nat) (hB : 0 < B) (f g : Nat → Nat) (m : Nat) (hf : ∀ j, f j < B) (hg : ∀ j, g j < B) (hlt : Vl.val B f (m + 3) < B * Vl.val B g (m + 2)) :
    Nt.Lead B (Vl.val B f (m + 3)) (Vl.val B g (m + 2)) (f (m + 2) * B + f (m + 1)) (f m) (g (m + 1)) (g m) (B ^ m) := by
  have a1 := Vl.val_lt B hB f m (fun j _ => hf j)
  have a2 := Vl.val_lt B hB g m (fun j _ => hg j)
  have e1 : Vl.val B f (m + 3) = Vl.val B f m + f m * B ^ m + f (m + 1) * B ^ (m + 1) + f (m + 2) * B ^ (m + 2) := rfl
  have e2 : Vl.val B g (m + 2) = Vl.val B g m + g m * B ^ m + g (m + 1) * B ^ (m + 1) := rfl
  have k1 : ((f (m + 2) * B + f (m + 1)) * B + f m) * B ^ m = f m * B ^ m + f (m + 1) * B ^ (m + 1) + f (m + 2) * B ^ (m + 2) := by
    have p2 : B ^ (m + 2) = B ^ m * B * B := rfl
    have p1 : B ^ (m + 1) = B ^ m * B := rfl
    rw [p1, p2]
    generalize B ^ m = P
    rw [Nat.add_mul _ _ P, Nat.add_mul _ _ B, Nat.add_mul _ _ P]
    have h1 : f (m + 1) * B * P = f (m + 1) * (P * B) := by ac_rfl
    have h2 : f (m + 2) * B * B * P = f (m + 2) * (P * B * B) := by ac_rfl
    rw [h1, h2]
    omega
  have k2 : (g (m + 1) * B + g m) * B ^ m = g m * B ^ m + g (m + 1) * B ^ (m + 1) := by
    have p1 : B ^ (m + 1) = B ^ m * B := rfl
    rw [p1]
    generalize B ^ m = P
    rw [Nat.add_mul _ _ P]
    have h1 : g (m + 1) * B * P = g (m + 1) * (P * B) := by ac_rfl
    rw [h1]
    omega
  refine ⟨?_, ?_, ?_, ?_, hg m, hf m, hlt⟩
  · rw [k1, e1]; omega
  · rw [Nat.add_mul _ 1, k1, e1]; omega
  · rw [k2, e2]; omega
  · rw [Nat.add_mul _ 1, k2, e2]; omega
theorem Nt.lead_one (B : Nat) (hB : 0 < B) (f g : Nat → Nat) (hlt : Vl.val B f 2 < B * Vl.val B g 1) :
    Nt.Lead B (Vl.val B f 2 * B) (Vl.val B g 1 * B) (f 1 * B + f 0) 0 (g 0) 0 1 := by
  have e1 : Vl.val B f 2 = f 1 * B + f 0 := by simp [Vl.val, Nat.add_comm]
  have e2 : Vl.val B g 1 = g 0 := by simp [Vl.val]
  rw [e1, e2] at hlt ⊢
  refine ⟨by simp, by simp, by simp, by simp, hB, hB, ?_⟩
  rw [← Nat.mul_assoc]
  exact Nat.mul_lt_mul_of_pos_right hlt hB
theorem Nt.guess_val (w : World) (bx ox nx cx : Nat) (fx : Nat → Nat) (b' oy n cy : Nat) (fy : Nat → Nat) (hx : Nt.Lim w bx ox nx fx) (hy : Nt.Lim w b' oy n fy) (hnx : nx = n + 1) (hn0 : 0 < n) (hn : n ≤ 1000000)
    (hf : 0 < fy (n - 1)) (hlt : Vl.val 4294967296 fx (n + 1) < 4294967296 * Vl.val 4294967296 fy n) :
    Calls Tryz.prog 100 #[.slice (some ⟨bx, ox, none⟩) nx cx, .slice (some ⟨b', oy, none⟩) n cy] w fun e w' => ∃ t, e = .returned (.int .u32 ((t : Nat) : Int)) ∧ t < 4294967296 ∧ Vl.val 4294967296 fx (n + 1) / Vl.val 4294967296 fy n ≤ t ∧ t ≤ Vl.val 4294967296 fx (n + 1) / Vl.val 4294967296 fy n + 1 ∧ ∃ k, w' = w.drewN k := by
  by_cases h1 : n = 1
  · subst h1
    have hq := Nat.mul_div_mul_right (Vl.val 4294967296 fx 2) (Vl.val 4294967296 fy 1) (show 0 < 4294967296 by decide)
    have h := Nt.guess_any w bx ox nx cx fx b' oy 1 cy fy _ _ _ 0 0 hx hy hnx hn0 hn (fun _ => ⟨rfl, rfl⟩) (fun h => absurd h (by decide)) hf (Nt.lead_one 4294967296 (by decide) fx fy hlt)
    rw [hq] at h
    exact h
  · obtain ⟨m, rfl⟩ : ∃ m, n = m + 2 := ⟨n - 2, by omega⟩
    exact Nt.guess_any w bx ox nx cx fx b' oy (m + 2) cy fy _ _ _ (fy m) (fx m) hx hy hnx hn0 hn (fun h => absurd h h1) (fun _ => ⟨rfl, rfl⟩) hf (Nt.lead_two 4294967296 (by decide) fx fy m hx.dig hy.dig hlt)
end
end Go.Proofs.YtccbnpondlncpaaGreatDoor
