/- digit: the quotient's digit, and what is left. -/
import Derived.Test.YthlecdggkolgmaaGreatDoorNtG
import Derived.Deep.RegionWith
namespace Go.Proofs.YthlecdggkolgmaaGreatDoor
section
section
open Go.RowKit

theorem Nt.two_limbs (x y : Nat) (hy : y < 4294967296) : (x * 4294967296 ||| y) = x * 4294967296 + y := by
  have := Nat.two_pow_add_eq_or_of_lt (i := 32) hy x
  rw [Nat.mul_comm] at this
  exact this.symm
theorem Nt.two_or (x y z : Nat) (hx : x < 4294967296) (hy : y < 4294967296) (h : x * 4294967296 + y = z) : bits .or .u64 ((x : Int) * 4294967296) (y : Int) = (z : Int) := by
  have e : (x : Int) * 4294967296 = ((x * 4294967296 : Nat) : Int) := by simp
  rw [e,u64_or_nat _ _ (by omega) (by omega),Nt.two_limbs x y hy,h]
theorem Nt.w64 (d n : Nat) (h : d < n) (hn : n ≤ 1000000) : wrap64 (d : Int) = (d : Int) := by unfold wrap64; omega
theorem Nt.i64w (d n : Nat) (h : d < n) (hn : n ≤ 1000000) : IntKind.i64.wrap (d : Int) = (d : Int) := IntWalk.i64_in _ (by omega)
theorem Nt.guess_any (w : World) (bx ox nx cx : Nat) (fx : Nat → Nat) (b' oy n cy : Nat) (fy : Nat → Nat) (u v E sec thi : Nat) (hx : Nt.Lim w bx ox nx fx) (hy : Nt.Lim w b' oy n fy) (hnx : nx = n + 1) (hn0 : 0 < n) (hn : n ≤ 1000000)
    (h1 : n = 1 → sec = 0 ∧ thi = 0) (h2 : 1 < n → fy (n - 2) = sec ∧ fx (n - 2) = thi) (hf : 0 < fy (n - 1)) (hL : Nt.Lead 4294967296 u v (fx n * 4294967296 + fx (n - 1)) thi (fy (n - 1)) sec E) :
    Calls Tryz.prog 142 #[.slice (some ⟨bx,ox,none⟩) nx cx,.slice (some ⟨b',oy,none⟩) n cy] w fun e w' => ∃ t,e = .returned (.int .u32 ((t : Nat) : Int)) ∧ t < 4294967296 ∧ u / v ≤ t ∧ t ≤ u / v + 1 ∧ ∃ k,w' = w.drewN k := by
  obtain ⟨a,ha⟩ : ∃ a,n - 1 = a := ⟨_,rfl⟩
  have hna : (n : Int) - 1 = (a : Int) := by omega
  have haw : IntKind.i64.wrap (a : Int) = (a : Int) := IntWalk.i64_in _ (by omega)
  have haw64 : wrap64 (a : Int) = (a : Int) := by unfold wrap64; omega
  have haz : (a : Int) < (n : Int) := by omega
  have haz0 : 0 ≤ (a : Int) := by omega
  have hax : (a : Int) < (nx : Int) := by omega
  have hnxz : (n : Int) < (nx : Int) := by omega
  have hbn : a + 1 = n := by omega
  have hal : a < n := by omega
  have hal2 : a < nx := by omega
  have hal3 : n < nx := by omega
  have c1 := hy.cell a hal
  have c2 := hx.cell n hal3
  have c3 := hx.cell a hal2
  have d1 := hy.dig a
  have d2 := hx.dig n
  have d3 := hx.dig a
  rw [ha] at hf hL
  obtain ⟨f1,e1⟩ : ∃ f1,fy a = f1 := ⟨_,rfl⟩
  obtain ⟨f2,e2⟩ : ∃ f2,fx n = f2 := ⟨_,rfl⟩
  obtain ⟨f3,e3⟩ : ∃ f3,fx a = f3 := ⟨_,rfl⟩
  rw [e1] at c1 d1 hf hL
  rw [e2] at c2 d2 hL
  rw [e3] at c3 d3 hL
  obtain ⟨hi,ehi⟩ : ∃ hi,f2 * 4294967296 + f3 = hi := ⟨_,rfl⟩
  have hib : hi < 18446744073709551616 := by clear haw haw64; omega
  have eor := Nt.two_or f2 f3 hi d2 d3 ehi
  rw [ehi] at hL
  have hq : Int.tdiv (hi : Int) (f1 : Int) = ((hi / f1 : Nat) : Int) := rfl
  have hr : Int.tmod (hi : Int) (f1 : Int) = ((hi % f1 : Nat) : Int) := rfl
  obtain ⟨q,eq⟩ : ∃ q,hi / f1 = q := ⟨_,rfl⟩
  obtain ⟨r,er⟩ : ∃ r,hi % f1 = r := ⟨_,rfl⟩
  have hG := Nt.Guess.start 4294967296 hi f1
  have hS := hL.start hf
  have hql : hi / f1 ≤ hi := Nat.div_le_self _ _
  have hrl : hi % f1 ≤ hi := Nat.mod_le _ _
  rw [eq] at hq hG hS hql
  rw [er] at hr hG hrl
  have hf0 : ¬ (f1 : Int) = 0 := by clear haw haw64 eor hq hr; omega
  have hfp := Lib.hid hf
  have HH := Lib.hid (And.intro ha (And.intro hnx (And.intro ehi (And.intro hib (And.intro d2 (And.intro d3 (And.intro e1 (And.intro e2 e3))))))))
  have H1 := Lib.hid h1
  have H2 := Lib.hid h2
  have hsec := hL.sec
  have hthi := hL.thi
  have HL := Lib.hid (And.intro hL (And.intro hG hS))
  have HXY := Lib.hid (And.intro hx hy)
  clear hf ha hnx ehi e1 e2 e3 h1 h2 hL hG hS eq er hx hy
  by_cases hn1 : n = 1
  · obtain ⟨rfl,rfl⟩ := H1.out hn1
    have hnz : ¬ (1 : Int) < (n : Int) := by clear haw haw64 eor hq hr; omega
    clear hn1
    go_enter Tryz.func142,Tryz.ntmps142
    go_wp2_with fail
    go_quiet (fail)
    go_wp2_with fail
    go_quiet (fail)
    go_wp2_with fail
    go_loopw [8,9] (fun tv lv wr => ∃ (t l k : Nat),tv = .int .u64 (t : Int) ∧ lv = .int .u64 (l : Int) ∧ Nt.Guess 4294967296 hi f1 t l ∧ u / v ≤ t ∧ wr = w.drewN k) (fun tv _ _ => (intOf tv).toNat)
    case atStart => exact ⟨q,r,_,rfl,rfl,HL.out.2.1,HL.out.2.2,by first | rfl | (simp only [World.drewN_drewN]; rfl)⟩
    case round =>
    obtain ⟨t,l,k,rfl,rfl,hG,hS,hw⟩ := hrel
    obtain ⟨w2,rfl⟩ : ∃ w2,w2 = wr := ⟨_,rfl⟩
    have htl : t * f1 + l = hi := hG.eq
    have htm : t ≤ t * f1 := Nat.le_mul_of_pos_right t hfp.out
    have htu : t < 18446744073709551616 := by (try clear hdw hdw64); clear haw haw64 eor hq hr; omega
    have hlu : l < 18446744073709551616 := by (try clear hdw hdw64); clear haw haw64 eor hq hr; omega
    have HW := Lib.hid (And.intro hG (And.intro hS (And.intro hw (And.intro htl htm))))
    clear hG hS hw htl htm
    by_cases hA : 4294967296 ≤ t
    · obtain ⟨s,hs⟩ : ∃ s,t = s + 1 := ⟨t - 1,by (try clear hdw hdw64); clear haw haw64 eor hq hr; omega⟩
      have hsn : u / v ≤ s := by
        have h1 := HL.out.1.digit
        (try clear hdw hdw64)
        clear haw haw64 eor hq hr
        omega
      have hGn : Nt.Guess 4294967296 hi f1 s (l + f1) := Nt.Guess.next (by rw [← hs]; exact HW.out.1)
      have hln : l + f1 < 18446744073709551616 := by
        have h1 := hGn.eq
        (try clear hdw hdw64)
        clear haw haw64 eor hq hr
        omega
      have hzs : (t : Int) - 1 = (s : Int) := by (try clear hdw hdw64); clear haw haw64 eor hq hr; omega
      have hsu : s < 18446744073709551616 := by (try clear hdw hdw64); clear haw haw64 eor hq hr; omega
      obtain ⟨c,hc⟩ : ∃ c,t / 4294967296 = c := ⟨_,rfl⟩
      have hcz : (t : Int) / 4294967296 = (c : Int) := by (try clear hdw hdw64); clear haw haw64 eor hq hr; omega
      have hc0 : ((c : Int) != 0) = true := by rw [bne_iff_ne]; (try clear hdw hdw64); clear haw haw64 eor hq hr; omega
      have hlz : (l : Int) + (f1 : Int) = ((l + f1 : Nat) : Int) := by simp
      obtain ⟨m,hm⟩ : ∃ m,l + f1 = m := ⟨_,rfl⟩
      rw [hm] at hlz hln hGn
      have HZ := Lib.hid (And.intro hs (And.intro hsn (And.intro hGn hm)))
      clear hA hs hsn hGn hm hc
      go_wp2_with fail
      refine ⟨⟨s,m,k,by go_num,by go_num,HZ.out.2.2.1,HZ.out.2.1,HW.out.2.2.1⟩,by have := HZ.out.1; simp [intOf]; omega⟩
    · have htb : t < 4294967296 := by (try clear hdw hdw64); clear haw haw64 eor hq hr; omega
      have htbz : (t : Int) < 4294967296 := by (try clear hdw hdw64); clear haw haw64 eor hq hr; omega
      have hcz : (t : Int) / 4294967296 = 0 := by (try clear hdw hdw64); clear haw haw64 eor hq hr; omega
      clear hA
      by_cases hB : 4294967296 ≤ l
      · obtain ⟨c,hc⟩ : ∃ c,l / 4294967296 = c := ⟨_,rfl⟩
        have hlz : (l : Int) / 4294967296 = (c : Int) := by (try clear hdw hdw64); clear haw haw64 eor hq hr; omega
        have hc0 : ((c : Int) == 0) = false := by rw [beq_eq_false_iff_ne]; (try clear hdw hdw64); clear haw haw64 eor hq hr; omega
        have hst := HL.out.1.stop hfp.out HW.out.1 htb (Or.inl hB)
        have HB := Lib.hid hst
        clear hB hc hst
        go_wp2_with fail
        go_ret
        exact ⟨t,by go_num,htb,HW.out.2.1,HB.out,k,HW.out.2.2.1⟩
      · have hlb : l < 4294967296 := by (try clear hdw hdw64); clear haw haw64 eor hq hr; omega
        have hlz : (l : Int) / 4294967296 = 0 := by (try clear hdw hdw64); clear haw haw64 eor hq hr; omega
        clear hB
        obtain ⟨W,hWw⟩ : ∃ W,l * 4294967296 + 0 = W := ⟨_,rfl⟩
        have hor : bits .or .u64 ((l : Int) * 4294967296) (0) = (W : Int) := Nt.two_or l 0 W hlb hthi hWw
        have hWz : (W : Int) ≥ 0 := by (try clear hdw hdw64); clear haw haw64 eor hq hr; omega
        have hst := HL.out.1.stop hfp.out HW.out.1 htb (Or.inr (by rw [Nat.mul_zero]; exact Nat.zero_le _))
        have HB := Lib.hid hst
        have hWn : ¬ (W : Int) < 0 := by (try clear hdw hdw64); clear haw haw64 eor hq hr; omega
        clear hWw hst
        go_wp2_with fail
        go_ret
        exact ⟨t,by go_num,htb,HW.out.2.1,HB.out,k,HW.out.2.2.1⟩
  · have hnz : (1 : Int) < (n : Int) := by clear haw haw64 eor hq hr; omega
    obtain ⟨d,hd⟩ : ∃ d,n - 2 = d := ⟨_,rfl⟩
    have h2 := H2.out (by clear haw haw64 eor hq hr; omega)
    rw [hd] at h2
    have hdn : d < n := by clear haw haw64 eor hq hr; omega
    have hdx : d < nx := Nat.lt_trans hdn hal3
    have c4 := HXY.out.2.cell d hdn
    have c5 := HXY.out.1.cell d hdx
    rw [h2.1] at c4
    rw [h2.2] at c5
    have hdz : (n : Int) - 2 = (d : Int) := by clear haw haw64 eor hq hr; omega
    have hdz0 : 0 ≤ (d : Int) := by clear haw haw64 eor hq hr; omega
    have hdn2 : (d : Int) < (n : Int) := by clear haw haw64 eor hq hr; omega
    have hdx2 : (d : Int) < (nx : Int) := by clear haw haw64 eor hq hr; omega
    have hdw : IntKind.i64.wrap (d : Int) = (d : Int) := Nt.i64w d n hdn hn
    have hdw64 : wrap64 (d : Int) = (d : Int) := Nt.w64 d n hdn hn
    clear hn1 h2 hd
    go_enter Tryz.func142,Tryz.ntmps142
    go_wp2_with fail
    go_quiet (fail)
    go_wp2_with fail
    go_quiet (fail)
    go_wp2_with fail
    go_quiet (fail)
    go_wp2_with fail
    go_loopw [8,9] (fun tv lv wr => ∃ (t l k : Nat),tv = .int .u64 (t : Int) ∧ lv = .int .u64 (l : Int) ∧ Nt.Guess 4294967296 hi f1 t l ∧ u / v ≤ t ∧ wr = w.drewN k) (fun tv _ _ => (intOf tv).toNat)
    case atStart => exact ⟨q,r,_,rfl,rfl,HL.out.2.1,HL.out.2.2,by first | rfl | (simp only [World.drewN_drewN]; rfl)⟩
    case round =>
    obtain ⟨t,l,k,rfl,rfl,hG,hS,hw⟩ := hrel
    obtain ⟨w2,rfl⟩ : ∃ w2,w2 = wr := ⟨_,rfl⟩
    have htl : t * f1 + l = hi := hG.eq
    have htm : t ≤ t * f1 := Nat.le_mul_of_pos_right t hfp.out
    have htu : t < 18446744073709551616 := by (try clear hdw hdw64); clear haw haw64 eor hq hr; omega
    have hlu : l < 18446744073709551616 := by (try clear hdw hdw64); clear haw haw64 eor hq hr; omega
    have HW := Lib.hid (And.intro hG (And.intro hS (And.intro hw (And.intro htl htm))))
    clear hG hS hw htl htm
    by_cases hA : 4294967296 ≤ t
    · obtain ⟨s,hs⟩ : ∃ s,t = s + 1 := ⟨t - 1,by (try clear hdw hdw64); clear haw haw64 eor hq hr; omega⟩
      have hsn : u / v ≤ s := by
        have h1 := HL.out.1.digit
        (try clear hdw hdw64)
        clear haw haw64 eor hq hr
        omega
      have hGn : Nt.Guess 4294967296 hi f1 s (l + f1) := Nt.Guess.next (by rw [← hs]; exact HW.out.1)
      have hln : l + f1 < 18446744073709551616 := by
        have h1 := hGn.eq
        (try clear hdw hdw64)
        clear haw haw64 eor hq hr
        omega
      have hzs : (t : Int) - 1 = (s : Int) := by (try clear hdw hdw64); clear haw haw64 eor hq hr; omega
      have hsu : s < 18446744073709551616 := by (try clear hdw hdw64); clear haw haw64 eor hq hr; omega
      obtain ⟨c,hc⟩ : ∃ c,t / 4294967296 = c := ⟨_,rfl⟩
      have hcz : (t : Int) / 4294967296 = (c : Int) := by (try clear hdw hdw64); clear haw haw64 eor hq hr; omega
      have hc0 : ((c : Int) != 0) = true := by rw [bne_iff_ne]; (try clear hdw hdw64); clear haw haw64 eor hq hr; omega
      have hlz : (l : Int) + (f1 : Int) = ((l + f1 : Nat) : Int) := by simp
      obtain ⟨m,hm⟩ : ∃ m,l + f1 = m := ⟨_,rfl⟩
      rw [hm] at hlz hln hGn
      have HZ := Lib.hid (And.intro hs (And.intro hsn (And.intro hGn hm)))
      clear hA hs hsn hGn hm hc
      go_wp2_with fail
      refine ⟨⟨s,m,k,by go_num,by go_num,HZ.out.2.2.1,HZ.out.2.1,HW.out.2.2.1⟩,by have := HZ.out.1; simp [intOf]; omega⟩
    · have htb : t < 4294967296 := by (try clear hdw hdw64); clear haw haw64 eor hq hr; omega
      have htbz : (t : Int) < 4294967296 := by (try clear hdw hdw64); clear haw haw64 eor hq hr; omega
      have hcz : (t : Int) / 4294967296 = 0 := by (try clear hdw hdw64); clear haw haw64 eor hq hr; omega
      clear hA
      by_cases hB : 4294967296 ≤ l
      · obtain ⟨c,hc⟩ : ∃ c,l / 4294967296 = c := ⟨_,rfl⟩
        have hlz : (l : Int) / 4294967296 = (c : Int) := by (try clear hdw hdw64); clear haw haw64 eor hq hr; omega
        have hc0 : ((c : Int) == 0) = false := by rw [beq_eq_false_iff_ne]; (try clear hdw hdw64); clear haw haw64 eor hq hr; omega
        have hst := HL.out.1.stop hfp.out HW.out.1 htb (Or.inl hB)
        have HB := Lib.hid hst
        clear hB hc hst
        go_wp2_with fail
        go_ret
        exact ⟨t,by go_num,htb,HW.out.2.1,HB.out,k,HW.out.2.2.1⟩
      · have hlb : l < 4294967296 := by (try clear hdw hdw64); clear haw haw64 eor hq hr; omega
        have hlz : (l : Int) / 4294967296 = 0 := by (try clear hdw hdw64); clear haw haw64 eor hq hr; omega
        clear hB
        obtain ⟨W,hWw⟩ : ∃ W,l * 4294967296 + thi = W := ⟨_,rfl⟩
        have hor : bits .or .u64 ((l : Int) * 4294967296) ((thi : Int)) = (W : Int) := Nt.two_or l thi W hlb hthi hWw
        obtain ⟨P,hP⟩ : ∃ P,t * sec = P := ⟨_,rfl⟩
        have hPb : P < 18446744073709551616 := by
          rw [← hP]
          exact Nat.mul_lt_mul'' htb hsec
        have hPz : (t : Int) * (sec : Int) = (P : Int) := by rw [← hP]; simp
        by_cases hC : W < P
        · have hCz : (W : Int) < (P : Int) := by (try clear hdw hdw64); clear haw haw64 eor hq hr; omega
          have ht1 : 1 ≤ t := by
            rcases Nat.eq_zero_or_pos t with h | h
            · rw [h,Nat.zero_mul] at hP
              (try clear hdw hdw64)
              clear haw haw64 eor hq hr
              omega
            · exact h
          obtain ⟨s,hs⟩ : ∃ s,t = s + 1 := ⟨t - 1,by (try clear hdw hdw64); clear haw haw64 eor hq hr; omega⟩
          have hsn : u / v ≤ s := HL.out.1.down (by rw [← hs]; exact HW.out.1) (by rw [← hs,hP,hWw]; exact hC)
          have hGn : Nt.Guess 4294967296 hi f1 s (l + f1) := Nt.Guess.next (by rw [← hs]; exact HW.out.1)
          have hln : l + f1 < 18446744073709551616 := by
            (try clear hdw hdw64)
            clear haw haw64 eor hq hr
            omega
          have hzs : (t : Int) - 1 = (s : Int) := by (try clear hdw hdw64); clear haw haw64 eor hq hr; omega
          have hsu : s < 18446744073709551616 := by (try clear hdw hdw64); clear haw haw64 eor hq hr; omega
          have hlz2 : (l : Int) + (f1 : Int) = ((l + f1 : Nat) : Int) := by simp
          obtain ⟨m,hm⟩ : ∃ m,l + f1 = m := ⟨_,rfl⟩
          rw [hm] at hlz2 hln hGn
          have HZ := Lib.hid (And.intro hs (And.intro hsn (And.intro hGn hm)))
          clear hC hs hsn hGn hm hP hWw ht1
          go_wp2_with fail
          refine ⟨⟨s,m,k,by go_num,by go_num,HZ.out.2.2.1,HZ.out.2.1,HW.out.2.2.1⟩,by have := HZ.out.1; simp [intOf]; omega⟩
        · have hCz : ¬ (W : Int) < (P : Int) := by (try clear hdw hdw64); clear haw haw64 eor hq hr; omega
          have hst := HL.out.1.stop hfp.out HW.out.1 htb (Or.inr (by rw [hP,hWw]; exact Nat.le_of_not_lt hC))
          have HB := Lib.hid hst
          clear hWw hst hP hC
          go_wp2_with fail
          go_ret
          exact ⟨t,by go_num,htb,HW.out.2.1,HB.out,k,HW.out.2.2.1⟩
end
section
open Go.RowKit

theorem Nt.lead_two (B : Nat) (hB : 0 < B) (f g : Nat → Nat) (m : Nat) (hf : ∀ j,f j < B) (hg : ∀ j,g j < B) (hlt : Vl.val B f (m + 3) < B * Vl.val B g (m + 2)) :
    Nt.Lead B (Vl.val B f (m + 3)) (Vl.val B g (m + 2)) (f (m + 2) * B + f (m + 1)) (f m) (g (m + 1)) (g m) (B ^ m) := by
  have a1 := Vl.val_lt B hB f m (fun j _ => hf j)
  have a2 := Vl.val_lt B hB g m (fun j _ => hg j)
  have e1 : Vl.val B f (m + 3) = Vl.val B f m + f m * B ^ m + f (m + 1) * B ^ (m + 1) + f (m + 2) * B ^ (m + 2) := rfl
  have e2 : Vl.val B g (m + 2) = Vl.val B g m + g m * B ^ m + g (m + 1) * B ^ (m + 1) := rfl
  have k1 : ((f (m + 2) * B + f (m + 1)) * B + f m) * B ^ m = f m * B ^ m + f (m + 1) * B ^ (m + 1) + f (m + 2) * B ^ (m + 2) := by
    have p2 : B ^ (m + 2) = B ^ m * B * B := rfl
    have p1 : B ^ (m + 1) = B ^ m * B := rfl
    rw [p1,p2]
    generalize B ^ m = P
    rw [Nat.add_mul _ _ P,Nat.add_mul _ _ B,Nat.add_mul _ _ P]
    have h1 : f (m + 1) * B * P = f (m + 1) * (P * B) := by ac_rfl
    have h2 : f (m + 2) * B * B * P = f (m + 2) * (P * B * B) := by ac_rfl
    rw [h1,h2]
    omega
  have k2 : (g (m + 1) * B + g m) * B ^ m = g m * B ^ m + g (m + 1) * B ^ (m + 1) := by
    have p1 : B ^ (m + 1) = B ^ m * B := rfl
    rw [p1]
    generalize B ^ m = P
    rw [Nat.add_mul _ _ P]
    have h1 : g (m + 1) * B * P = g (m + 1) * (P * B) := by ac_rfl
    rw [h1]
    omega
  refine ⟨?_,?_,?_,?_,hg m,hf m,hlt⟩
  · rw [k1,e1]; omega
  · rw [Nat.add_mul _ 1,k1,e1]; omega
  · rw [k2,e2]; omega
  · rw [Nat.add_mul _ 1,k2,e2]; omega
theorem Nt.lead_one (B : Nat) (hB : 0 < B) (f g : Nat → Nat) (hlt : Vl.val B f 2 < B * Vl.val B g 1) :
    Nt.Lead B (Vl.val B f 2 * B) (Vl.val B g 1 * B) (f 1 * B + f 0) 0 (g 0) 0 1 := by
  have e1 : Vl.val B f 2 = f 1 * B + f 0 := by simp [Vl.val,Nat.add_comm]
  have e2 : Vl.val B g 1 = g 0 := by simp [Vl.val]
  rw [e1,e2] at hlt ⊢
  refine ⟨by simp,by simp,by simp,by simp,hB,hB,?_⟩
  rw [← Nat.mul_assoc]
  exact Nat.mul_lt_mul_of_pos_right hlt hB
theorem Nt.guess_val (w : World) (bx ox nx cx : Nat) (fx : Nat → Nat) (b' oy n cy : Nat) (fy : Nat → Nat) (hx : Nt.Lim w bx ox nx fx) (hy : Nt.Lim w b' oy n fy) (hnx : nx = n + 1) (hn0 : 0 < n) (hn : n ≤ 1000000)
    (hf : 0 < fy (n - 1)) (hlt : Vl.val 4294967296 fx (n + 1) < 4294967296 * Vl.val 4294967296 fy n) :
    Calls Tryz.prog 142 #[.slice (some ⟨bx,ox,none⟩) nx cx,.slice (some ⟨b',oy,none⟩) n cy] w fun e w' => ∃ t,e = .returned (.int .u32 ((t : Nat) : Int)) ∧ t < 4294967296 ∧ Vl.val 4294967296 fx (n + 1) / Vl.val 4294967296 fy n ≤ t ∧ t ≤ Vl.val 4294967296 fx (n + 1) / Vl.val 4294967296 fy n + 1 ∧ ∃ k,w' = w.drewN k := by
  by_cases h1 : n = 1
  · subst h1
    have hq := Nat.mul_div_mul_right (Vl.val 4294967296 fx 2) (Vl.val 4294967296 fy 1) (show 0 < 4294967296 by decide)
    have h := Nt.guess_any w bx ox nx cx fx b' oy 1 cy fy _ _ _ 0 0 hx hy hnx hn0 hn (fun _ => ⟨rfl,rfl⟩) (fun h => absurd h (by decide)) hf (Nt.lead_one 4294967296 (by decide) fx fy hlt)
    rw [hq] at h
    exact h
  · obtain ⟨m,rfl⟩ : ∃ m,n = m + 2 := ⟨n - 2,by omega⟩
    exact Nt.guess_any w bx ox nx cx fx b' oy (m + 2) cy fy _ _ _ (fy m) (fx m) hx hy hnx hn0 hn (fun h => absurd h h1) (fun _ => ⟨rfl,rfl⟩) hf (Nt.lead_two 4294967296 (by decide) fx fy m hx.dig hy.dig hlt)
end
end
section
open Go.RowKit

theorem Nt.Lim.narrow {w : World} {b off n m : Nat} {f : Nat → Nat} (h : Nt.Lim w b off n f) (hm : m ≤ n) : Nt.Lim w b off m f := ⟨fun j hj => h.cell j (by omega),fun j hj => h.fro j (by omega),h.dig,h.lt⟩
theorem Nt.Lim.widen {w w' : World} {b off n m : Nat} {f g : Nat → Nat} (h : Nt.Lim w b off n f) (ho : Nt.Only b off m w w') (hg : Nt.Lim w' b off m g) (he : ∀ j,m ≤ j → g j = f j) : Nt.Lim w' b off n g := by
  refine ⟨fun j hj => ?_,fun j hj => ?_,hg.dig,hg.lt⟩
  · by_cases hjm : j < m
    · exact hg.cell j hjm
    · rw [ho.cell _ (Or.inr (by omega)),he j (by omega)]
      exact h.cell j hj
  · rw [ho.fro]
    exact h.fro j hj
theorem Nt.Only.wider {w w' : World} {b off n m : Nat} (h : Nt.Only b off m w w') (hm : m ≤ n) : Nt.Only b off n w w' := ⟨h.os,h.tape,h.output,h.size,h.block,fun o ho => h.cell o (by omega),h.fro⟩
theorem Nt.digit_any (w : World) (bx ox nx cx : Nat) (fx : Nat → Nat) (b' oy n cy : Nat) (fy : Nat → Nat) (hx : Nt.Lim w bx ox nx fx) (hy : Nt.Lim w b' oy n fy) (hnx : nx = n + 1) (hn0 : 0 < n) (hn : n ≤ 900000) (hcx : nx ≤ cx) (hne : b' ≠ bx)
    (hf : 0 < fy (n - 1)) (hlt : Vl.val 4294967296 fx (n + 1) < 4294967296 * Vl.val 4294967296 fy n) :
    Calls Tryz.prog 137 #[.slice (some ⟨bx,ox,none⟩) nx cx,.slice (some ⟨b',oy,none⟩) n cy] w fun e w' => ∃ t fo,e = .returned (.int .u32 ((t : Nat) : Int)) ∧ t < 4294967296 ∧ t = Vl.val 4294967296 fx (n + 1) / Vl.val 4294967296 fy n ∧ Nt.Lim w' bx ox nx fo ∧ Vl.val 4294967296 fo n = Vl.val 4294967296 fx (n + 1) % Vl.val 4294967296 fy n ∧ fo n = 0 ∧ (∀ j,n < j → fo j = fx j) ∧ Nt.Only bx ox nx w w' := by
  have G := Nt.guess_val w bx ox nx cx fx b' oy n cy fy hx hy hnx hn0 (by omega) hf hlt
  have hnz0 : 0 ≤ (n : Int) := by omega
  have hnc : (n : Int) ≤ (cx : Int) := by omega
  have hnxz : (n : Int) < (nx : Int) := by omega
  have hncn : n ≤ cx := by omega
  have hnn : n ≤ 1000000 := by omega
  have hnl : n < nx := by omega
  have HG := Lib.hid G
  have HH := Lib.hid (And.intro hx (And.intro hy (And.intro hnx (And.intro hn0 (And.intro hf (And.intro hlt hne))))))
  clear G hx hy hnx hf hlt hne
  go_enter Tryz.func137,Tryz.ntmps137
  go_wp2_with (go_at_call 142; refine Calls.mono HG.out ?_; rintro e1 w1 ⟨t,rfl,htb,hq1,hq2,k,rfl⟩)
  have T := Nt.takeTimes_any (w.drewN k) bx ox n cx fx b' oy n cy fy t ((HH.out.1.drewN k).narrow (by omega)) (HH.out.2.1.drewN k) (Nat.le_refl _) hnn htb HH.out.2.2.2.2.2.2
  have HT := Lib.hid T
  have HQ := Lib.hid (And.intro hq1 hq2)
  clear T hq1 hq2
  go_wp2_with (fail)
  go_at_call 143
  refine Calls.mono HT.out ?_
  rintro e2 w2 ⟨c,fo,rfl,hcb,hLo,hv,heo,hO⟩
  have hL2 := (HH.out.1.drewN k).widen hO hLo heo
  have hO2 := (Nt.Only.drewN bx ox n w k).trans hO
  have c6 := hL2.cell n hnl
  have r6 := hL2.fro n hnl
  have d6 := hL2.dig n
  have ht6 := heo n (Nat.le_refl _)
  obtain ⟨top,htop⟩ : ∃ top,fo n = top := ⟨_,rfl⟩
  rw [htop] at c6 d6 ht6
  have eU : Vl.val 4294967296 fx (n + 1) = Vl.val 4294967296 fx n + top * 4294967296 ^ n := by rw [ht6]; rfl
  have v1 := Vl.val_lt 4294967296 (by decide) fy n (fun j _ => HH.out.2.1.dig j)
  have v2 := Vl.val_lt 4294967296 (by decide) fo n (fun j _ => hLo.dig j)
  obtain ⟨P,hP⟩ : ∃ P,4294967296 ^ n = P := ⟨_,rfl⟩
  rw [hP] at eU v1 v2 hv
  have v0 : 0 < Vl.val 4294967296 fy n := by
    have := HH.out.2.2.2.2.2.1
    rcases Nat.eq_zero_or_pos (Vl.val 4294967296 fy n) with h | h
    · rw [h] at this; omega
    · exact h
  have HV := Lib.hid (And.intro hv (And.intro v1 (And.intro v2 (And.intro eU v0))))
  have HA3 := Lib.hid hO
  have HP := Lib.hid hP
  have HO := Lib.hid (And.intro hL2 (And.intro hO2 heo))
  clear hv v1 v2 eU v0 hL2 hO2 heo hLo hO hP ht6
  by_cases hct : top < c
  · have hctz : (top : Int) < (c : Int) := by omega
    have htd : 1 ≤ t := by
      rcases Nat.eq_zero_or_pos t with h | h
      · have h1 := HV.out.1
        have h2 : P ≤ c * P := Nat.le_mul_of_pos_left P (by omega)
        have h3 := HV.out.2.2.1
        rw [h,Nat.zero_mul] at h1
        omega
      · exact h
    obtain ⟨s,hs⟩ : ∃ s,t = s + 1 := ⟨t - 1,by omega⟩
    have hsz : (t : Int) - 1 = (s : Int) := by omega
    have hsb : s < 4294967296 := by omega
    have hcw : IntKind.u32.wrap (c : Int) = (c : Int) := Nt.u32_eq _ _ (by omega)
    have hcc : (c : Int) - (c : Int) = 0 := by omega
    have HS := Lib.hid hs
    have A := fun d => Nt.addTimes_any (w2.drewN d) bx ox n cx fo b' oy n cy fy 1 ((HO.out.1.drewN d).narrow (Nat.le_of_lt hnl)) (((HH.out.2.1.drewN k).only HA3.out HH.out.2.2.2.2.2.2).drewN d) (Nat.le_refl _) hnn (by decide) HH.out.2.2.2.2.2.2
    have HA2 := Lib.hid A
    clear A
    go_wp2_with (fail)
    go_region_with (go_at_call 139; refine Calls.mono (HA2.out _) ?_; rintro e3 w3 ⟨c2,fo2,rfl,hcb2,hLo2,hv2,heo2,hO2⟩; have hL3 := (HO.out.1.drewN _).widen hO2 hLo2 heo2; have c7 := hL3.cell n hnl; have r7 := hL3.fro n hnl; rw [heo2 n (Nat.le_refl _),htop] at c7; rw [HP.out,Nat.one_mul] at hv2; have hv3 := Nt.digit_over P (Vl.val 4294967296 fx n) (Vl.val 4294967296 fy n) top t (Vl.val 4294967296 fo n) (Vl.val 4294967296 fo2 n) c2 c (Nat.lt_succ_of_lt HV.out.2.1) HV.out.2.2.2.2 (by rw [← HP.out]; exact Vl.val_lt 4294967296 (by decide) fo2 n (fun j _ => hLo2.dig j)) (by rw [← HV.out.2.2.2.1]; exact HQ.out.1) (by rw [← HV.out.2.2.2.1]; exact HQ.out.2) HV.out.1 HV.out.2.2.1 hct hv2; have hcz : (top : Int) + (c2 : Int) = (c : Int) := (by have := hv3.2.2; omega); have HD := Lib.hid hv3; have HO3 := Lib.hid (And.intro hL3 (And.intro hO2 heo2)); clear hv2 hv3 hL3 hO2 heo2 hLo2)
    all_goals
      have hL4 := HO3.out.1.set n c hnl hcb
      have c8 := hL4.cell n hnl
      have r8 := hL4.fro n hnl
      have eu : Vl.upd fo2 n c n = c := by unfold Vl.upd; rw [if_pos rfl]
      rw [eu] at c8
      clear eu hcb2
      go_wp2_with fail
      go_ret
      refine ⟨s,Vl.upd (Vl.upd fo2 n c) n 0,rfl,hsb,?_,hL4.set n 0 hnl (by decide),?_,?_,?_,?_⟩
      · have h1 := HD.out.1
        rw [← HV.out.2.2.2.1,HS.out] at h1
        omega
      · rw [Vl.val_congr 4294967296 (Vl.upd (Vl.upd fo2 n c) n 0) fo2 n (fun j hj => by unfold Vl.upd; rw [if_neg (by omega),if_neg (by omega)])]
        rw [HV.out.2.2.2.1]
        exact HD.out.2.1
      · unfold Vl.upd
        rw [if_pos rfl]
      · intro j hj
        unfold Vl.upd
        rw [if_neg (by omega),if_neg (by omega),HO3.out.2.2 j (by omega)]
        exact HO.out.2.2 j (by omega)
      · refine (HO.out.2.1.wider (Nat.le_of_lt hnl)).trans (((Nt.Only.drewN bx ox nx w2 _).trans (HO3.out.2.1.wider (Nat.le_of_lt hnl))).trans ((Nt.Only.set _ n _ hnl).trans (Nt.Only.set _ n _ hnl)))
  · have hctz : ¬ (top : Int) < (c : Int) := by omega
    have D := Nt.digit_fits P (Vl.val 4294967296 fx n) (Vl.val 4294967296 fy n) top t (Vl.val 4294967296 fo n) c (Nat.lt_succ_of_lt HV.out.2.1) HV.out.2.2.2.2 (by rw [← HV.out.2.2.2.1]; exact HQ.out.1) HV.out.1 (by omega)
    have hz : (top : Int) - (c : Int) = 0 := by omega
    rw [← HV.out.2.2.2.1] at D
    have HD := Lib.hid D
    clear D hct
    go_wp2_with fail
    go_ret
    refine ⟨t,Vl.upd fo n 0,rfl,htb,HD.out.1,HO.out.1.set n 0 hnl (by decide),?_,?_,?_,(HO.out.2.1.wider (Nat.le_of_lt hnl)).trans (Nt.Only.set w2 n _ hnl)⟩
    · rw [Vl.val_congr 4294967296 (Vl.upd fo n 0) fo n (fun j hj => by unfold Vl.upd; rw [if_neg (by omega)])]
      exact HD.out.2.1
    · unfold Vl.upd
      rw [if_pos rfl]
    · intro j hj
      unfold Vl.upd
      rw [if_neg (by omega)]
      exact HO.out.2.2 j (by omega)
end
end Go.Proofs.YthlecdggkolgmaaGreatDoor
