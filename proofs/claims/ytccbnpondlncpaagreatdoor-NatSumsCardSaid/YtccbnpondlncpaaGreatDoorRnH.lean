/- The reference: Minus. -/
import Derived.Test.YtccbnpondlncpaaGreatDoorRnF
namespace Go.Proofs.YtccbnpondlncpaaGreatDoor
section
open Go.RowKit
/-- One digit of a sum. -/
theorem Rn.plus_step (x y i c s : Nat) (l : List Nat) (hl : l.length = i) (h : Rn.nm l + c * 65536 ^ i = x % 65536 ^ i + y % 65536 ^ i) (hs : c + (Rn.dg x i + Rn.dg y i) = s) :
    Rn.nm (l ++ [s % 65536]) + s / 65536 * 65536 ^ (i + 1) = x % 65536 ^ (i + 1) + y % 65536 ^ (i + 1) := by
  rw [Rn.nm_snoc, hl, Rn.mod_step, Rn.mod_step, Nat.pow_succ]
  obtain ⟨P, hP⟩ : ∃ P, 65536 ^ i = P := ⟨_, rfl⟩
  rw [hP] at h ⊢
  have e : s / 65536 * (P * 65536) + s % 65536 * P = s * P := by
    have := Nat.div_add_mod s 65536
    rw [show s / 65536 * (P * 65536) = 65536 * (s / 65536) * P by rw [Nat.mul_comm P, ← Nat.mul_assoc, Nat.mul_comm (s / 65536)], ← Nat.add_mul, this]
  rw [← hs, Nat.add_mul, Nat.add_mul] at e
  rw [Nat.mul_comm P (Rn.dg x i), Nat.mul_comm P (Rn.dg y i)]
  rw [hs] at e
  omega
set_option maxHeartbeats 1000000 in
set_option maxRecDepth 100000 in
theorem Rn.Plus_any (w : World) (ax ay : Option Addr) (n cx x m cy y : Nat) (hx : Rn.Num w ax n cx x) (hy : Rn.Num w ay m cy y) (hn : n ≤ 1000000) (hm : m ≤ 1000000) :
    Calls Tryz.prog 30 #[.slice ax n cx, .slice ay m cy] w fun e w' => ∃ av k c, e = .returned (.slice av k c) ∧ Rn.Num w' av k c (x + y) ∧ Below w.heap.size w w' := by
  obtain ⟨M, hM⟩ : ∃ M : Nat, max n m = M := ⟨_, rfl⟩
  have hMz : max (n : Int) (m : Int) = (M : Int) := by omega
  have hMb : M ≤ 1000000 := by omega
  have H0 := Lib.hid (And.intro hx (And.intro hy hM))
  clear hx hy hM
  go_enter Tryz.func30, Tryz.ntmps30
  go_wp2_with fail
  have hown0 : Rn.Own (w.alloc (Obj.cells #[] 47)) w.heap.size (.slice (some ⟨w.heap.size, 0, none⟩) 0 0) [] := ⟨rfl, .inr ⟨w.heap.size, 0, #[], rfl, Nat.le_refl _, heap_alloc_new _ _, Nat.le_refl _, Nat.zero_le _, rfl, rfl⟩⟩
  have hb0 := (Below.refl w.heap.size w).alloc (Nat.le_refl _) (Obj.cells #[] 47)
  obtain ⟨g, hg⟩ : ∃ g, w.heap.size = g := ⟨_, rfl⟩
  revert hown0 hb0
  generalize w.alloc (Obj.cells #[] 47) = w0
  rw [hg]
  intro hown0 hb0
  have HG := Lib.hid (And.intro hg (And.intro hown0 hb0))
  clear hown0 hb0 hg
  go_loopw [5, 6, 7] (fun v cv iv wr => ∃ (i c : Nat) (l : List Nat), i ≤ M + 1 ∧ iv = .int .i64 i ∧ cv = .int .u64 c ∧ c ≤ 1 ∧ l.length = i ∧ (∀ d, d ∈ l → d < 65536) ∧ Rn.nm l + c * 65536 ^ i = x % 65536 ^ i + y % 65536 ^ i ∧ Rn.Own wr g v l ∧ Below g w wr ∧ g ≤ wr.heap.size) (fun _ _ iv _ => (M + 1 - (intOf iv).toNat))
  case atStart => exact ⟨0, 0, [], Nat.zero_le _, rfl, rfl, Nat.zero_le _, rfl, (fun d hd => absurd hd List.not_mem_nil), by rw [Nat.pow_zero, Nat.mod_one, Nat.mod_one]; rfl, HG.out.2.1, HG.out.2.2, by rw [← HG.out.1]; exact HG.out.2.2.size⟩
  case round =>
  obtain ⟨i, c, l, hi, rfl, rfl, hc, hl, hd, hv, hown, hB, hgs⟩ := hrel
  have hib : i ≤ 1000001 := by omega
  have HX := Lib.hid (And.intro (H0.out.1.below (by rw [HG.out.1]; exact hB)) (H0.out.2.1.below (by rw [HG.out.1]; exact hB)))
  by_cases hiM : i ≤ M
  · have hiz : (i : Int) ≤ (M : Int) := by omega
    have HV := Lib.hid (And.intro hv (And.intro hd hl))
    have HB := Lib.hid hB
    obtain ⟨ga, cap, rfl⟩ := hown.size
    have dxb := Rn.dg_lt x i
    have dyb := Rn.dg_lt y i
    have HDX := Lib.hid (Rn.digit_any _ ax n cx x HX.out.1 i)
    have HDY := Lib.hid (Rn.digit_any _ ay m cy y HX.out.2 i)
    obtain ⟨dx, hdx⟩ : ∃ dx, Rn.dg x i = dx := ⟨_, rfl⟩
    obtain ⟨dy, hdy⟩ : ∃ dy, Rn.dg y i = dy := ⟨_, rfl⟩
    rw [hdx] at HDX dxb
    rw [hdy] at HDY dyb
    have HE := Lib.hid (And.intro hdx hdy)
    clear hv hd hB hdx hdy
    obtain ⟨s, hs⟩ : ∃ s, c + (dx + dy) = s := ⟨_, rfl⟩
    have hsz : (c : Int) + ((dx : Int) + (dy : Int)) = (s : Int) := by omega
    have hlen : l.length ≤ 1000001 := by omega
    have HS := Lib.hid hs
    have hsb : s ≤ 131071 := by omega
    clear hs hl
    go_wp2_with (first | (go_at_call 52; (first | (with_reducible refine HDX.out.mono ?_) | (with_reducible refine HDY.out.mono ?_)); rintro e w' ⟨rfl, rfl⟩) | (at_builtin; refine Rn.append rfl _ _ rfl g _ _ rfl (Rn.Own.alloc (by assumption) _) ⟨_, 0, none⟩ 1 [s % 65536] rfl (World.news_of_block (heap_alloc_new _ _)) (by simp; try omega) (by simp; omega) ?_; intro v1 w1 hown1 hb1 hz1))
    refine ⟨⟨i + 1, s / 65536, l ++ [s % 65536], by omega, by go_num, by go_num, by omega, by rw [List.length_append, HV.out.2.2]; rfl, fun d hd => ?_, Rn.plus_step x y i c s l HV.out.2.2 HV.out.1 (by rw [HE.out.1, HE.out.2]; exact HS.out), hown1, HB.out.trans ((Below.refl g _).alloc hgs _ |>.trans hb1), hz1⟩, by simp [intOf]; omega⟩
    rcases List.mem_append.1 hd with h | h
    · exact HV.out.2.1 d h
    · rw [List.mem_singleton] at h; omega
  · have hie : i = M + 1 := by omega
    have hiz : ¬ (i : Int) ≤ (M : Int) := by omega
    have hval : Rn.nm l = x + y := by
      have hx1 := HX.out.1.lt
      have hy1 := HX.out.2.lt
      have hM := H0.out.2.2
      have h1 : 65536 ^ n ≤ 65536 ^ M := Nat.pow_le_pow_right (by decide) (by omega)
      have h2 : 65536 ^ m ≤ 65536 ^ M := Nat.pow_le_pow_right (by decide) (by omega)
      rw [hie, Nat.pow_succ] at hv
      obtain ⟨P, hP⟩ : ∃ P, 65536 ^ M = P := ⟨_, rfl⟩
      rw [hP] at h1 h2 hv
      rw [Nat.mod_eq_of_lt (show x < P * 65536 by omega), Nat.mod_eq_of_lt (show y < P * 65536 by omega)] at hv
      have hc0 : c = 0 := by
        rcases Nat.eq_zero_or_pos c with h | h
        · exact h
        · have : 1 * (P * 65536) ≤ c * (P * 65536) := Nat.mul_le_mul_right _ h
          omega
      rw [hc0, Nat.zero_mul] at hv
      exact hv
    have hlen : l.length ≤ 10000000 := by omega
    have HT := Lib.hid (And.intro (Rn.trim_own _ g _ l hown hd hlen) (And.intro hB hval))
    clear hv hd hl hlen hval hB hown
    go_wp2_with (go_at_call 41; refine Calls.mono HT.out.1 ?_; rintro e1 w4 ⟨av, k, ck, rfl, hN, rfl⟩; have HN := Lib.hid hN; clear hN)
    go_ret
    exact ⟨_, _, _, rfl, by rw [← HT.out.2.2]; exact HN.out, HT.out.2.1.mono (Nat.le_of_eq HG.out.1)⟩
end
section
open Go.RowKit
/-- One digit of a difference. -/
theorem Rn.minus_step (x y i c t : Nat) (l : List Nat) (hl : l.length = i) (h : Rn.nm l + y % 65536 ^ i = x % 65536 ^ i + c * 65536 ^ i) (ht : t + Rn.dg y i + c = 65536 + Rn.dg x i) (hc : c ≤ 1) :
    Rn.nm (l ++ [t % 65536]) + y % 65536 ^ (i + 1) = x % 65536 ^ (i + 1) + (1 - t / 65536) * 65536 ^ (i + 1) := by
  have hx := Rn.dg_lt x i
  rw [Rn.nm_snoc, hl, Rn.mod_step, Rn.mod_step, Nat.pow_succ]
  obtain ⟨P, hP⟩ : ∃ P, 65536 ^ i = P := ⟨_, rfl⟩
  rw [hP] at h ⊢
  have hq : t / 65536 ≤ 1 := by omega
  have e : c + t % 65536 + Rn.dg y i = Rn.dg x i + (1 - t / 65536) * 65536 := by omega
  have e2 := congrArg (· * P) e
  simp only [Nat.add_mul] at e2
  rw [Nat.mul_comm P (Rn.dg x i), Nat.mul_comm P (Rn.dg y i), Nat.mul_comm P 65536, ← Nat.mul_assoc]
  omega
theorem Rn.beyond {g : Nat} {w wr : World} (h : Below g w wr) : ∀ k, Below g w (wr.drewN k)
  | 0 => h
  | k + 1 => (Rn.beyond h k).drew
set_option maxHeartbeats 1000000 in
set_option maxRecDepth 100000 in
theorem Rn.Minus_any (w : World) (ax ay : Option Addr) (n cx x m cy y : Nat) (hx : Rn.Num w ax n cx x) (hy : Rn.Num w ay m cy y) (hn : n ≤ 1000000) (hyx : y ≤ x) :
    Calls Tryz.prog 31 #[.slice ax n cx, .slice ay m cy] w fun e w' => ∃ av k c, e = .returned (.slice av k c) ∧ Rn.Num w' av k c (x - y) ∧ Below w.heap.size w w' := by
  have hy2 := hy
  have hx2 := hx
  obtain ⟨_, bx, ox, fx, hLx, dfx, hvx, _⟩ := hx
  have H0 := Lib.hid (And.intro hx2 (And.intro hy2 (And.intro hLx (And.intro dfx (And.intro hvx hyx)))))
  clear hx2 hy hy2 hLx dfx hvx hyx
  go_enter Tryz.func31, Tryz.ntmps31
  go_wp2_with fail
  have hown0 : Rn.Own (w.alloc (Obj.cells #[] 47)) w.heap.size (.slice (some ⟨w.heap.size, 0, none⟩) 0 0) [] := ⟨rfl, .inr ⟨w.heap.size, 0, #[], rfl, Nat.le_refl _, heap_alloc_new _ _, Nat.le_refl _, Nat.zero_le _, rfl, rfl⟩⟩
  have hb0 := (Below.refl w.heap.size w).alloc (Nat.le_refl _) (Obj.cells #[] 47)
  obtain ⟨g, hg⟩ : ∃ g, w.heap.size = g := ⟨_, rfl⟩
  revert hown0 hb0
  generalize w.alloc (Obj.cells #[] 47) = w0
  rw [hg]
  intro hown0 hb0
  have HG := Lib.hid (And.intro hg (And.intro hown0 hb0))
  clear hown0 hb0 hg
  go_loopw [5, 6, 7] (fun v cv iv wr => ∃ (i c : Nat) (l : List Nat), i ≤ n ∧ iv = .int .i64 i ∧ cv = .int .u64 c ∧ c ≤ 1 ∧ l.length = i ∧ (∀ d, d ∈ l → d < 65536) ∧ Rn.nm l + y % 65536 ^ i = x % 65536 ^ i + c * 65536 ^ i ∧ Rn.Own wr g v l ∧ Below g w wr ∧ g ≤ wr.heap.size) (fun _ _ iv _ => (n - (intOf iv).toNat))
  case atStart => exact ⟨0, 0, [], Nat.zero_le _, rfl, rfl, Nat.zero_le _, rfl, (fun d hd => absurd hd List.not_mem_nil), by rw [Nat.pow_zero, Nat.mod_one, Nat.mod_one]; rfl, HG.out.2.1, HG.out.2.2, by rw [← HG.out.1]; exact HG.out.2.2.size⟩
  case round =>
  obtain ⟨i, c, l, hi, rfl, rfl, hc, hl, hd, hv, hown, hB, hgs⟩ := hrel
  have hib : i ≤ 1000000 := by omega
  have HX := Lib.hid (H0.out.2.1.below (by rw [HG.out.1]; exact hB))
  by_cases hin : i < n
  · have hiz : (i : Int) < (n : Int) := by omega
    have hi0 : 0 ≤ (i : Int) := by omega
    obtain ⟨rfl, hLx⟩ := H0.out.2.2.1 (by omega)
    have hbx : bx < g := by rw [← HG.out.1]; exact hLx.lt
    have hLw := hLx.below hB hbx
    have cc := hLw.cell i hin
    have hex : fx i = Rn.dg x i := by rw [← H0.out.2.2.2.2.1, Rn.dg_val fx H0.out.2.2.2.1 n i hin]
    rw [hex] at cc
    have HV := Lib.hid (And.intro hv (And.intro hd hl))
    have HB := Lib.hid (And.intro hB hown)
    obtain ⟨ga, cap, rfl⟩ := hown.size
    have dxb := Rn.dg_lt x i
    have dyb := Rn.dg_lt y i
    have HDY := Lib.hid (fun k => Rn.digit_any _ ay m cy y (HX.out.drewN k) i)
    obtain ⟨dx, hdx⟩ : ∃ dx, Rn.dg x i = dx := ⟨_, rfl⟩
    obtain ⟨dy, hdy⟩ : ∃ dy, Rn.dg y i = dy := ⟨_, rfl⟩
    rw [hdx] at cc dxb
    rw [hdy] at HDY dyb
    have HE := Lib.hid (And.intro hdx hdy)
    clear hv hd hB hdx hdy hown hLw hLx hex
    obtain ⟨t, ht⟩ : ∃ t, 65536 + dx - dy - c = t := ⟨_, rfl⟩
    have hs1 : (65536 : Int) + (dx : Int) - (dy : Int) - (c : Int) = (t : Int) := by omega
    have hlen : l.length ≤ 1000000 := by omega
    have HS := Lib.hid (show t + dy + c = 65536 + dx by omega)
    have htb : t ≤ 131071 := by omega
    clear ht hl
    go_wp2_with fail
    go_quiet (first | (go_at_call 52; with_reducible exact Calls.quiet_of_same (HDY.out _)))
    generalize hw3 : wr.drewN nq = w3
    have hown3 : Rn.Own w3 g (.slice ga l.length cap) l := by rw [← hw3]; exact HB.out.2.drewN _
    have HB3 := Lib.hid (show Below g w w3 by rw [← hw3]; exact Rn.beyond HB.out.1 _)
    have hgs3 : g ≤ w3.heap.size := by rw [← hw3, Tx.drewN_size]; exact hgs
    clear hw3
    have hq : (1 : Int) - (t : Int) / 65536 = ((1 - t / 65536 : Nat) : Int) := by omega
    go_wp2_with (at_builtin; refine Rn.append rfl _ _ rfl g _ _ rfl (Rn.Own.alloc hown3 _) ⟨_, 0, none⟩ 1 [t % 65536] rfl (World.news_of_block (heap_alloc_new _ _)) (by simp; try omega) (by simp; omega) ?_; intro v1 w1 hown1 hb1 hz1)
    refine ⟨⟨i + 1, 1 - t / 65536, l ++ [t % 65536], by omega, by go_num, by first | rfl | (congr 1), by omega, by rw [List.length_append, HV.out.2.2]; rfl, fun d hd => ?_, Rn.minus_step x y i c t l HV.out.2.2 HV.out.1 (by rw [HE.out.1, HE.out.2]; exact HS.out) hc, hown1, HB3.out.trans ((Below.refl g _).alloc hgs3 _ |>.trans hb1), hz1⟩, by simp [intOf]; omega⟩
    rcases List.mem_append.1 hd with h | h
    · exact HV.out.2.1 d h
    · rw [List.mem_singleton] at h; omega
  · have hie : i = n := by omega
    have hiz : ¬ (i : Int) < (n : Int) := by omega
    have hval : Rn.nm l = x - y := by
      have hx1 := H0.out.1.lt
      have hyx := H0.out.2.2.2.2.2
      have hl2 := Rn.nm_lt l hd
      rw [hl, hie] at hl2
      rw [hie] at hv
      obtain ⟨P, hP⟩ : ∃ P, 65536 ^ n = P := ⟨_, rfl⟩
      rw [hP] at hx1 hv hl2
      rw [Nat.mod_eq_of_lt hx1, Nat.mod_eq_of_lt (show y < P by omega)] at hv
      have hc0 : c = 0 := by
        rcases Nat.eq_zero_or_pos c with h | h
        · exact h
        · have : 1 * P ≤ c * P := Nat.mul_le_mul_right _ h
          omega
      rw [hc0, Nat.zero_mul] at hv
      omega
    have hlen : l.length ≤ 10000000 := by omega
    have HT := Lib.hid (And.intro (Rn.trim_own _ g _ l hown hd hlen) (And.intro hB hval))
    clear hv hd hl hlen hval hB hown
    go_wp2_with (go_at_call 41; refine Calls.mono HT.out.1 ?_; rintro e1 w4 ⟨av, k, ck, rfl, hN, rfl⟩; have HN := Lib.hid hN; clear hN)
    go_ret
    exact ⟨_, _, _, rfl, by rw [← HT.out.2.2]; exact HN.out, HT.out.2.1.mono (Nat.le_of_eq HG.out.1)⟩
end
end Go.Proofs.YtccbnpondlncpaaGreatDoor
