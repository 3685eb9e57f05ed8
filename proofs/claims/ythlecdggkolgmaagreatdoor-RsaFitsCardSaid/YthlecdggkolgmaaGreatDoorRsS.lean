/- PSS: fits behind a salt. -/
import Derived.Test.YthlecdggkolgmaaGreatDoorRsQ
import Derived.Test.YthlecdggkolgmaaGreatDoorRsE
namespace Go.Proofs.YthlecdggkolgmaaGreatDoor
section
open Go.RowKit
set_option maxHeartbeats 1000000 in
set_option maxRecDepth 100000 in
theorem Rs.fits_len (w : World) (ok : Rs.Ok w) (s x : ByteArray) (b : Int) (h : b < 1 ∨ (1 ≤ b ∧ 4096 < b) ∨ (1 ≤ b ∧ b ≤ 4096 ∧ (x.size : Int) ≠ (b + 7) / 8) ∨ (1 ≤ b ∧ b ≤ 4096 ∧ (x.size : Int) = (b + 7) / 8 ∧ (x.size : Int) < 66)) :
    Calls Tryz.prog 11 #[.string s, .string x, .int .i64 b] w fun e w' => ∃ v, e = .returned v ∧ Rs.Err w' v 42 ∧ Below w.heap.size w w' := by
  obtain ⟨a, hv⟩ := ok.2 42 (by decide) (by decide)
  have hx : w.cell? ⟨2, 0, none⟩ = some (.iface 200 (.pointer (some a))) := hv.var
  have HV := Lib.hid hv
  clear hv ok
  rcases h with h | ⟨h1, h⟩ | ⟨h1, h2, h⟩ | ⟨h1, h2, h, h3⟩
  · skip
    go_enter Tryz.func11, Tryz.ntmps11
    go_wp2_with fail
    go_ret
    exact ⟨_, rfl, .inr ⟨by decide, by decide, a, 1, .about _ .leaf, HV.out⟩, Below.refl _ _⟩
  · have h1 : ¬ b < 1 := by omega
    go_enter Tryz.func11, Tryz.ntmps11
    go_wp2_with fail
    go_ret
    exact ⟨_, rfl, .inr ⟨by decide, by decide, a, 1, .about _ .leaf, HV.out⟩, Below.refl _ _⟩
  · have t1 : ¬ b < 1 := by omega
    have t2 : ¬ 4096 < b := by omega
    have q1 : Int.tdiv (b + 7) 8 = (b + 7) / 8 := Int.tdiv_eq_ediv_of_nonneg (by omega)
    obtain ⟨L, hL⟩ : ∃ L : Nat, (b + 7) / 8 = (L : Int) := ⟨((b + 7) / 8).toNat, by omega⟩
    rw [hL] at h q1
    have hLb : (L : Int) ≤ 512 := by omega
    have hbi : b ≤ 4096 := by omega
    have hbl : 1 ≤ b := by omega
    obtain ⟨z, hz⟩ : ∃ z, (x.size : Int) = z := ⟨_, rfl⟩
    rw [hz] at h
    have hne : (z != (L : Int)) = true := by rw [bne_iff_ne]; exact h
    clear hL h1 h2
    go_enter Tryz.func11, Tryz.ntmps11
    go_wp2_with fail
    go_ret
    exact ⟨_, rfl, .inr ⟨by decide, by decide, a, 1, .about _ .leaf, HV.out⟩, Below.refl _ _⟩
  · have t1 : ¬ b < 1 := by omega
    have t2 : ¬ 4096 < b := by omega
    have q1 : Int.tdiv (b + 7) 8 = (b + 7) / 8 := Int.tdiv_eq_ediv_of_nonneg (by omega)
    rw [← h] at q1
    have hbi : b ≤ 4096 := by omega
    have hbl : 1 ≤ b := by omega
    obtain ⟨z, hz⟩ : ∃ z, (x.size : Int) = z := ⟨_, rfl⟩
    rw [hz] at h3 q1
    clear h h1 h2
    go_enter Tryz.func11, Tryz.ntmps11
    go_wp2_with fail
    go_ret
    exact ⟨_, rfl, .inr ⟨by decide, by decide, a, 1, .about _ .leaf, HV.out⟩, Below.refl _ _⟩
set_option maxHeartbeats 1000000 in
set_option maxRecDepth 100000 in
theorem Rs.fits_end (w : World) (ok : Rs.Ok w) (s x : ByteArray) (B n : Nat) (h1 : 1 ≤ B) (h2 : B ≤ 4096) (hx : x.size = n) (hn : n = (B + 7) / 8) (hn66 : 66 ≤ n) (hC : ∀ W, Calls Tryz.prog 26 #[.string x, .string ⟨#[188]⟩] W fun e w' => e = .returned (.tuple #[.string x, .bool false]) ∧ w' = W) :
    Calls Tryz.prog 11 #[.string s, .string x, .int .i64 (B : Int)] w fun e w' => ∃ v, e = .returned v ∧ Rs.Err w' v 42 ∧ Below w.heap.size w w' := by
  obtain ⟨a, hv⟩ := ok.2 42 (by decide) (by decide)
  have hvx : w.cell? ⟨2, 0, none⟩ = some (.iface 200 (.pointer (some a))) := hv.var
  have HV := Lib.hid hv
  have HC := Lib.hid hC
  have t1 : ¬ (B : Int) < 1 := by omega
  have t2 : ¬ (4096 : Int) < (B : Int) := by omega
  have hbi : (B : Int) ≤ 4096 := by omega
  have hbl : 1 ≤ (B : Int) := by omega
  have hzn : (x.size : Int) = (n : Int) := by omega
  have q1 : Int.tdiv ((B : Int) + 7) 8 = (n : Int) := by rw [Int.tdiv_eq_ediv_of_nonneg (by omega)]; omega
  have h66 : ¬ (n : Int) < 66 := by omega
  have hnb : (n : Int) ≤ 512 := by omega
  clear hv ok hC hx hn
  go_enter Tryz.func11, Tryz.ntmps11
  go_wp2_with fail
  go_at_call 26
  refine Calls.mono (HC.out _) ?_
  rintro e1 w1 ⟨rfl, rfl⟩
  go_wp2_with fail
  go_ret
  exact ⟨_, rfl, .inr ⟨by decide, by decide, a, 1, .about _ .leaf, HV.out⟩, Below.refl _ _⟩
set_option maxHeartbeats 1000000 in
set_option maxRecDepth 100000 in
theorem Rs.fits_salt (w : World) (ok : Rs.Ok w) (s x : ByteArray) (B n : Nat) (h1 : 1 ≤ B) (h2 : B ≤ 4096) (hx : x.size = n) (hn : n = (B + 7) / 8) (hn66 : 66 ≤ n) (sp : Nat) (hsp : sp + B = 8 * n) (_hsp7 : sp ≤ 7) (R A H : ByteArray) (hRs : R.size = n - 1) (hA : R.extract 0 (n - 33) = A) (hH : R.extract (n - 33) (n - 1) = H)
    (hC : ∀ W, Calls Tryz.prog 26 #[.string x, .string ⟨#[188]⟩] W fun e w' => e = .returned (.tuple #[.string R, .bool true]) ∧ w' = W)
    (hS : ∀ W, Rs.Ok W → Calls Tryz.prog 27 #[.string A, .string H, .int .i64 (sp : Int)] W fun e w' => ∃ v, e = .returned (.tuple #[.string ⟨#[]⟩, v]) ∧ Rs.Err w' v 42 ∧ Below W.heap.size W w') :
    Calls Tryz.prog 11 #[.string s, .string x, .int .i64 (B : Int)] w fun e w' => ∃ v, e = .returned v ∧ Rs.Err w' v 42 ∧ Below w.heap.size w w' := by
  have t1 : ¬ (B : Int) < 1 := by omega
  have t2 : ¬ (4096 : Int) < (B : Int) := by omega
  have hbi : (B : Int) ≤ 4096 := by omega
  have hbl : 1 ≤ (B : Int) := by omega
  have hzn : (x.size : Int) = (n : Int) := by omega
  have q1 : Int.tdiv ((B : Int) + 7) 8 = (n : Int) := by rw [Int.tdiv_eq_ediv_of_nonneg (by omega)]; omega
  have h66 : ¬ (n : Int) < 66 := by omega
  have hnb : (n : Int) ≤ 512 := by omega
  have hk : (n : Int) - 1 = ((n - 1 : Nat) : Int) := by omega
  obtain ⟨k, ek⟩ : ∃ k, n - 1 = k := ⟨_, rfl⟩
  rw [ek] at hRs hH
  have hRz : (R.size : Int) = (k : Int) := by omega
  obtain ⟨p, ep⟩ : ∃ p, n - 33 = p := ⟨_, rfl⟩
  rw [ep] at hA hH
  have hkp : (k : Int) - 32 = (p : Int) := by omega
  have hkb : (k : Int) ≤ 511 := by omega
  have hpb : (p : Int) ≤ 479 := by omega
  have hpk : (p : Int) ≤ (k : Int) := by omega
  have h8 : 8 * (n : Int) - (B : Int) = (sp : Int) := by omega
  have h8b : 8 * (n : Int) ≤ 4096 := by omega
  have hsb : (sp : Int) ≤ 7 := by omega
  have hw8 : IntKind.i64.wrap (8 * (n : Int)) = 8 * (n : Int) := by unfold IntKind.wrap; simp [IntKind.bits, IntKind.signed]; omega
  have hws : IntKind.i64.wrap (sp : Int) = (sp : Int) := by unfold IntKind.wrap; simp [IntKind.bits, IntKind.signed]; omega
  have HC := Lib.hid hC
  have HS := Lib.hid (And.intro hS ok)
  clear ok hC hS hx hn hk ek ep
  go_enter Tryz.func11, Tryz.ntmps11
  go_wp2_with fail
  go_at_call 26
  refine Calls.mono (HC.out _) ?_
  rintro e1 w1 ⟨rfl, rfl⟩
  go_upto_region 7 with fail
  go_region_with (go_at_call 27; refine Calls.mono (HS.out.1 _ (HS.out.2.below (below_drewN (Below.refl _ _) 1))) ?_; rintro e5 w5 ⟨v, rfl, hE, hb5⟩; obtain ⟨T, u, rfl⟩ := hE.some (by decide); have H5 := Lib.hid (And.intro hE ((below_drewN (Below.refl w1.heap.size w1) 1).trans hb5)); clear hb5 hE)
  all_goals
    go_wp2_with fail
    go_ret
    exact ⟨_, rfl, H5.out.1, H5.out.2⟩
end
section
open Go.RowKit
set_option maxHeartbeats 1000000 in
set_option maxRecDepth 100000 in
theorem Rs.fits_sum (w : World) (ok : Rs.Ok w) (s x : ByteArray) (B n : Nat) (h1 : 1 ≤ B) (h2 : B ≤ 4096) (hx : x.size = n) (hn : n = (B + 7) / 8) (hn66 : 66 ≤ n) (sp : Nat) (hsp : sp + B = 8 * n) (_hsp7 : sp ≤ 7) (R A H S Z : ByteArray) (hRs : R.size = n - 1) (hA : R.extract 0 (n - 33) = A) (hH : R.extract (n - 33) (n - 1) = H)
    (hC : ∀ W, Calls Tryz.prog 26 #[.string x, .string ⟨#[188]⟩] W fun e w' => e = .returned (.tuple #[.string R, .bool true]) ∧ w' = W)
    (hS : ∀ W, Rs.Ok W → Calls Tryz.prog 27 #[.string A, .string H, .int .i64 (sp : Int)] W fun e w' => e = .returned (.tuple #[.string S, .nilIface]) ∧ Below W.heap.size W w')
    (hT : ∀ W, Calls Tryz.prog 28 #[.string s, .string S] W fun e w' => e = .returned (.string Z) ∧ Below W.heap.size W w') :
    Calls Tryz.prog 11 #[.string s, .string x, .int .i64 (B : Int)] w fun e w' => ((H = Z ∧ e = .returned .nilIface) ∨ (H ≠ Z ∧ ∃ v, e = .returned v ∧ Rs.Err w' v 42)) ∧ Below w.heap.size w w' := by
  have t1 : ¬ (B : Int) < 1 := by omega
  have t2 : ¬ (4096 : Int) < (B : Int) := by omega
  have hbi : (B : Int) ≤ 4096 := by omega
  have hbl : 1 ≤ (B : Int) := by omega
  have hzn : (x.size : Int) = (n : Int) := by omega
  have q1 : Int.tdiv ((B : Int) + 7) 8 = (n : Int) := by rw [Int.tdiv_eq_ediv_of_nonneg (by omega)]; omega
  have h66 : ¬ (n : Int) < 66 := by omega
  have hnb : (n : Int) ≤ 512 := by omega
  have hk : (n : Int) - 1 = ((n - 1 : Nat) : Int) := by omega
  obtain ⟨k, ek⟩ : ∃ k, n - 1 = k := ⟨_, rfl⟩
  rw [ek] at hRs hH
  have hRz : (R.size : Int) = (k : Int) := by omega
  obtain ⟨p, ep⟩ : ∃ p, n - 33 = p := ⟨_, rfl⟩
  rw [ep] at hA hH
  have hkp : (k : Int) - 32 = (p : Int) := by omega
  have hkb : (k : Int) ≤ 511 := by omega
  have hpb : (p : Int) ≤ 479 := by omega
  have hpk : (p : Int) ≤ (k : Int) := by omega
  have h8 : 8 * (n : Int) - (B : Int) = (sp : Int) := by omega
  have h8b : 8 * (n : Int) ≤ 4096 := by omega
  have hsb : (sp : Int) ≤ 7 := by omega
  have hw8 : IntKind.i64.wrap (8 * (n : Int)) = 8 * (n : Int) := by unfold IntKind.wrap; simp [IntKind.bits, IntKind.signed]; omega
  have hws : IntKind.i64.wrap (sp : Int) = (sp : Int) := by unfold IntKind.wrap; simp [IntKind.bits, IntKind.signed]; omega
  have HC := Lib.hid hC
  have HS := Lib.hid hS
  have HT := Lib.hid hT
  have HO := Lib.hid ok
  clear ok hC hS hT hx hn hk ek ep
  by_cases hE : H = Z
  · have t3 : (H.toList == Z.toList) = true := by rw [hE]; simp
    have t4 : (H.toList != Z.toList) = false := by rw [hE]; simp
    have HE := Lib.hid hE
    clear hE
    go_enter Tryz.func11, Tryz.ntmps11
    go_wp2_with fail
    go_at_call 26
    refine Calls.mono (HC.out _) ?_
    rintro e1 w1 ⟨rfl, rfl⟩
    go_upto_region 7 with fail
    go_region_with (go_at_call 27; refine Calls.mono (HS.out _ (HO.out.below (below_drewN (Below.refl _ _) 1))) ?_; rintro e5 w5 ⟨rfl, hb5⟩; have H5 := Lib.hid ((below_drewN (Below.refl w1.heap.size w1) 1).trans hb5); clear hb5)
    all_goals
      go_upto_region 10 with fail
      go_region_with (go_at_call 28; refine Calls.mono (HT.out _) ?_; rintro e6 w6 ⟨rfl, hb6⟩; have H6 := Lib.hid (H5.out.trans ((below_drewN (Below.refl w5.heap.size w5) 1).trans hb6 |>.mono H5.out.size)); clear hb6)
      all_goals
        go_wp2_with fail
        go_ret
        exact ⟨.inl ⟨HE.out, rfl⟩, H6.out⟩
  · have t3 : (H.toList == Z.toList) = false := by rw [beq_eq_false_iff_ne]; exact fun e => hE (by rwa [Rs.toList_inj] at e)
    have t4 : (H.toList != Z.toList) = true := by rw [bne, t3]; rfl
    have HE := Lib.hid hE
    clear hE
    go_enter Tryz.func11, Tryz.ntmps11
    go_wp2_with fail
    go_at_call 26
    refine Calls.mono (HC.out _) ?_
    rintro e1 w1 ⟨rfl, rfl⟩
    go_upto_region 7 with fail
    go_region_with (go_at_call 27; refine Calls.mono (HS.out _ (HO.out.below (below_drewN (Below.refl _ _) 1))) ?_; rintro e5 w5 ⟨rfl, hb5⟩; have H5 := Lib.hid ((below_drewN (Below.refl w1.heap.size w1) 1).trans hb5); clear hb5)
    all_goals
      go_upto_region 10 with fail
      go_region_with (go_at_call 28; refine Calls.mono (HT.out _) ?_; rintro e6 w6 ⟨rfl, hb6⟩; have H6 := Lib.hid (H5.out.trans ((below_drewN (Below.refl w5.heap.size w5) 1).trans hb6 |>.mono H5.out.size)); clear hb6)
      all_goals
        obtain ⟨u, hv⟩ := (HO.out.below H6.out).2 42 (by decide) (by decide)
        have hvx : w6.cell? ⟨2, 0, none⟩ = some (.iface 200 (.pointer (some u))) := hv.var
        have HV := Lib.hid hv
        clear hv
        go_wp2_with fail
        go_ret
        exact ⟨.inr ⟨HE.out, _, rfl, .inr ⟨by decide, by decide, u, 1, .about _ .leaf, HV.out⟩⟩, H6.out⟩
end
end Go.Proofs.YthlecdggkolgmaaGreatDoor
