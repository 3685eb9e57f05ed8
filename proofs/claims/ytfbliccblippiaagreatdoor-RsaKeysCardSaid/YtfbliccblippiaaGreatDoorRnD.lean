/- The reference: Cmp, Form. -/
import Derived.Test.YtfbliccblippiaaGreatDoorRnC
import Derived.Test.YtfbliccblippiaaGreatDoorKit
namespace Go.Proofs.YtfbliccblippiaaGreatDoor
open Go.RowKit

theorem Rn.cmp_limb (f g : Nat → Nat) (hf : ∀ j, f j < 65536) (hg : ∀ j, g j < 65536) (i n : Nat) (hi : i < n) (he : ∀ j, i < j → j < n → f j = g j) : (f i < g i → Nt.cmp (Vl.val 65536 f n) (Vl.val 65536 g n) = -1) ∧ (g i < f i → Nt.cmp (Vl.val 65536 f n) (Vl.val 65536 g n) = 1) := by
  constructor
  · intro h
    have := Nt.lt_of_limb 65536 (by decide) f g hf i n hi h he
    unfold Nt.cmp
    rw [if_pos this]
  · intro h
    have := Nt.lt_of_limb 65536 (by decide) g f hg i n hi h (fun j h1 h2 => (he j h1 h2).symm)
    unfold Nt.cmp
    rw [if_neg (by omega), if_pos this]
set_option maxHeartbeats 1000000 in
set_option maxRecDepth 100000 in
theorem Rn.Cmp_any (w : World) (ax ay : Option Addr) (n cx x m cy y : Nat) (hx : Rn.Num w ax n cx x) (hy : Rn.Num w ay m cy y) (hn : n ≤ 1000000) (hm : m ≤ 1000000) :
    Calls Tryz.prog 40 #[.slice ax n cx, .slice ay m cy] w fun e w' => e = .returned (.int .i64 (Nt.cmp x y)) ∧ ∃ k, w' = w.drewN k := by
  obtain ⟨_, bx, ox, fx, hLx, dx, hvx, tx⟩ := hx
  obtain ⟨_, b', oy, fy, hLy, dy, hvy, ty⟩ := hy
  obtain ⟨R, hR⟩ : ∃ R, Nt.cmp x y = R := ⟨_, rfl⟩
  rw [hR]
  rcases Nat.lt_trichotomy n m with hnm | hnm | hnm
  · have h := Nt.lt_of_len 65536 (by decide) fx fy dx n m hnm (ty.resolve_left (by omega))
    rw [hvx, hvy] at h
    have hr : R = -1 := by rw [← hR]; unfold Nt.cmp; rw [if_pos h]
    subst hr
    have hz : (n : Int) < (m : Int) := by omega
    clear hLx hLy dx dy hvx hvy tx ty h hR hnm
    go_enter Tryz.func40, Tryz.ntmps40
    go_wp2_with fail
    go_ret
    exact ⟨rfl, 0, rfl⟩
  · subst hnm
    have hz : ¬ (n : Int) < (n : Int) := by omega
    have HR := Lib.hid (And.intro hR (And.intro hvx hvy))
    obtain ⟨n1, hn1⟩ : ∃ n1 : Int, (n : Int) - 1 = n1 := ⟨_, rfl⟩
    have hn1b : n1 ≤ 1000000 := by omega
    have hn1c : -1 ≤ n1 := by omega
    have HN := Lib.hid hn1
    clear hR hvx hvy tx ty
    go_enter Tryz.func40, Tryz.ntmps40
    go_wp2_with fail
    clear hn1
    go_loopw [5] (fun iv wr => ∃ (q k : Nat) (z : Int), q ≤ n ∧ iv = .int .i64 z ∧ z = (q : Int) - 1 ∧ (∀ j, q ≤ j → j < n → fx j = fy j) ∧ wr = w.drewN k) (fun iv _ => (intOf iv + 1).toNat)
    case atStart => exact ⟨n, 0, n1, Nat.le_refl _, rfl, HN.out.symm, fun j h1 h2 => by omega, rfl⟩
    case round =>
    obtain ⟨q, k, z, hq, rfl, hzq, he, hw⟩ := hrel
    obtain ⟨w2, rfl⟩ : ∃ w2, w2 = wr := ⟨_, rfl⟩
    by_cases hq0 : q = 0
    · have hz0 : ¬ 0 ≤ z := by omega
      have hr : R = 0 := by
        rw [← HR.out.1, ← HR.out.2.1, ← HR.out.2.2, Vl.val_congr 65536 fx fy n (fun j hj => he j (by omega) hj)]
        unfold Nt.cmp
        rw [if_neg (by omega), if_neg (by omega)]
      have HW := Lib.hid (And.intro hw hr)
      clear hw hr he hzq hq0
      go_wp2_with fail
      go_ret
      exact ⟨by rw [HW.out.2]; rfl, k, HW.out.1⟩
    · obtain ⟨a, ha⟩ : ∃ a, q - 1 = a := ⟨_, rfl⟩
      obtain rfl : z = (a : Int) := by omega
      have han : a < n := by omega
      obtain ⟨rfl, hLx2⟩ := hLx (by omega)
      obtain ⟨rfl, hLy2⟩ := hLy (by omega)
      have haz : (a : Int) < (n : Int) := by omega
      have ha0 : 0 ≤ (a : Int) := by omega
      have cx2 := (hLx2.drewN k).cell a han
      have cy2 := (hLy2.drewN k).cell a han
      rw [← hw] at cx2 cy2
      have hlim := Rn.cmp_limb fx fy dx dy a n han (fun j h1 h2 => he j (by omega) h2)
      rw [HR.out.2.1, HR.out.2.2, HR.out.1] at hlim
      obtain ⟨u, eu⟩ : ∃ u, fx a = u := ⟨_, rfl⟩
      obtain ⟨v, ev⟩ : ∃ v, fy a = v := ⟨_, rfl⟩
      rw [eu] at cx2 hlim
      rw [ev] at cy2 hlim
      have hab : (a : Int) ≤ 1000000 := by omega
      have HH := Lib.hid (And.intro he (And.intro hw (And.intro hlim (And.intro ha (And.intro eu ev)))))
      clear he hw hlim ha eu ev hzq hLx2 hLy2
      rcases Nat.lt_trichotomy u v with huv | huv | huv
      · have hr := HH.out.2.2.1.1 huv
        have HRr := Lib.hid hr
        have h1 : (u : Int) < (v : Int) := by omega
        clear hr
        go_wp2_with fail
        go_quiet (fail)
        go_wp2_with fail
        go_ret
        exact ⟨by rw [HRr.out]; rfl, _, by rw [HH.out.2.1, World.drewN_drewN]⟩
      · subst huv
        go_wp2_with fail
        go_quiet (fail)
        go_wp2_with fail
        go_quiet (fail)
        go_wp2_with fail
        refine ⟨⟨a, ?kk, (a : Int) - 1, by omega, rfl, rfl, fun j h1 h2 => ?_, ?ww⟩, by simp [intOf] <;> omega⟩
        case ww => rw [HH.out.2.1, World.drewN_drewN]
        · by_cases hj : j = a
          · rw [hj, HH.out.2.2.2.2.1, HH.out.2.2.2.2.2]
          · exact HH.out.1 j (by have := HH.out.2.2.2.1; omega) h2
      · have hr := HH.out.2.2.1.2 huv
        have HRr := Lib.hid hr
        have h1 : ¬ (u : Int) < (v : Int) := by omega
        have h2 : (v : Int) < (u : Int) := by omega
        clear hr
        go_wp2_with fail
        go_quiet (fail)
        go_wp2_with fail
        go_quiet (fail)
        go_wp2_with fail
        go_ret
        exact ⟨by rw [HRr.out]; rfl, _, by rw [HH.out.2.1, World.drewN_drewN, World.drewN_drewN]⟩
  · have h := Nt.lt_of_len 65536 (by decide) fy fx dy m n hnm (tx.resolve_left (by omega))
    rw [hvx, hvy] at h
    have hr : R = 1 := by rw [← hR]; unfold Nt.cmp; rw [if_neg (by omega), if_pos h]
    subst hr
    have hz : ¬ (n : Int) < (m : Int) := by omega
    have hz2 : (m : Int) < (n : Int) := by omega
    clear hLx hLy dx dy hvx hvy tx ty h hR hnm
    go_enter Tryz.func40, Tryz.ntmps40
    go_wp2_with fail
    go_ret
    exact ⟨rfl, 0, rfl⟩
end Go.Proofs.YtfbliccblippiaaGreatDoor
