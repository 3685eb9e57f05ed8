/- below. -/
import Derived.Test.YtjlmcffbjikogaaGreatDoorNtF
namespace Go.Proofs.YtjlmcffbjikogaaGreatDoor
open Go.RowKit

theorem Nt.lt_iff (f g : Nat → Nat) (hf : ∀ j, f j < 4294967296) (hg : ∀ j, g j < 4294967296) (i n : Nat) (hi : i < n) (hne : f i ≠ g i) (he : ∀ j, i < j → j < n → f j = g j) : (Vl.val 4294967296 f n < Vl.val 4294967296 g n) ↔ f i < g i := by
  rcases Nat.lt_or_gt_of_ne hne with h | h
  · exact ⟨fun _ => h, fun _ => Nt.lt_of_limb _ (by decide) f g hf i n hi h he⟩
  · have := Nt.lt_of_limb _ (by decide) g f hg i n hi h (fun j h1 h2 => (he j h1 h2).symm)
    omega
theorem Nt.len_iff (f g : Nat → Nat) (hf : ∀ j, f j < 4294967296) (hg : ∀ j, g j < 4294967296) (n m : Nat) (hnm : n ≠ m) (tf : n = 0 ∨ f (n - 1) ≠ 0) (tg : m = 0 ∨ g (m - 1) ≠ 0) : (Vl.val 4294967296 f n < Vl.val 4294967296 g m) ↔ n < m := by
  rcases Nat.lt_or_gt_of_ne hnm with h | h
  · exact ⟨fun _ => h, fun _ => Nt.lt_of_len _ (by decide) f g hf n m h (tg.resolve_left (by omega))⟩
  · have := Nt.lt_of_len _ (by decide) g f hg m n h (tf.resolve_left (by omega))
    omega
set_option maxHeartbeats 1000000 in
set_option maxRecDepth 100000 in
theorem Nt.below_any (w : World) (ax : Option Addr) (bx ox n cx : Nat) (fx : Nat → Nat) (ay : Option Addr) (b' oy m cy : Nat) (fy : Nat → Nat) (hx : 0 < n → ax = some ⟨bx, ox, none⟩ ∧ Nt.Lim w bx ox n fx) (hy : 0 < m → ay = some ⟨b', oy, none⟩ ∧ Nt.Lim w b' oy m fy) (dx : ∀ j, fx j < 4294967296) (dy : ∀ j, fy j < 4294967296)
    (hn : n ≤ 1000000) (hm : m ≤ 1000000) (tx : n = 0 ∨ fx (n - 1) ≠ 0) (ty : m = 0 ∨ fy (m - 1) ≠ 0) :
    Calls Tryz.prog 58 #[.slice ax n cx, .slice ay m cy] w fun e w' => e = .returned (.bool (decide (Vl.val 4294967296 fx n < Vl.val 4294967296 fy m))) ∧ ∃ k, w' = w.drewN k := by
  by_cases hnm : n = m
  · subst hnm
    obtain ⟨R, hR⟩ : ∃ R, decide (Vl.val 4294967296 fx n < Vl.val 4294967296 fy n) = R := ⟨_, rfl⟩
    have HR := Lib.hid hR
    rw [hR]
    clear hR tx ty
    go_enter Tryz.func58, Tryz.ntmps58
    go_wp2_with fail
    go_loopw [19] (fun iv wr => ∃ (i k : Nat), i ≤ n ∧ iv = .int .i64 (i : Int) ∧ (∀ j, n - i ≤ j → j < n → fx j = fy j) ∧ wr = w.drewN k) (fun iv _ => n - (intOf iv).toNat)
    case atStart => exact ⟨0, 0, by omega, rfl, fun j h1 h2 => by omega, rfl⟩
    case round =>
    obtain ⟨i, k, hi, rfl, he, hw⟩ := hrel
    obtain ⟨w2, rfl⟩ : ∃ w2, w2 = wr := ⟨_, rfl⟩
    by_cases hin : i < n
    · have hiz : (i : Int) < (n : Int) := by omega
      obtain ⟨rfl, hLx⟩ := hx (by omega)
      obtain ⟨rfl, hLy⟩ := hy (by omega)
      obtain ⟨a, ha⟩ : ∃ a, n - 1 - i = a := ⟨_, rfl⟩
      have han : a < n := by omega
      have haz : (a : Int) < (n : Int) := by omega
      have haz0 : 0 ≤ (a : Int) := by omega
      have hat : (n : Int) - 1 - (i : Int) = (a : Int) := by omega
      have hn1 : wrap64 ((n : Int) - 1) = (n : Int) - 1 := by unfold wrap64; omega
      have haw : wrap64 (a : Int) = (a : Int) := by unfold wrap64; omega
      have cx2 := (hLx.drewN k).cell a han
      have cy2 := (hLy.drewN k).cell a han
      rw [← hw] at cx2 cy2
      have hai : a + i + 1 = n := by omega
      have hlim := Nt.lt_iff fx fy dx dy a n han
      have HE := Lib.hid (And.intro he (And.intro hw (And.intro hai hlim)))
      obtain ⟨x, ex⟩ : ∃ x, fx a = x := ⟨_, rfl⟩
      obtain ⟨y, ey⟩ : ∃ y, fy a = y := ⟨_, rfl⟩
      rw [ex] at cx2
      rw [ey] at cy2
      have HX := Lib.hid (And.intro ex ey)
      clear he hw ha hai hlim ex ey
      by_cases hxy : x = y
      · subst hxy
        go_wp2_with fail
        go_quiet (fail)
        go_wp2_with fail
        refine ⟨⟨i + 1, k + nq, by omega, by go_num, fun j h1 h2 => ?_, ?_⟩, by simp [intOf]; omega⟩
        · by_cases hj : j = a
          · rw [hj, HX.out.1, HX.out.2]
          · exact HE.out.1 j (by have := HE.out.2.2.1; omega) h2
        · rw [HE.out.2.1, World.drewN_drewN]
      · have hxyz : ((x : Int) != (y : Int)) = true := by rw [bne_iff_ne]; omega
        have hRR : R = decide (x < y) := by
          rw [← HR.out]
          apply decide_eq_decide.2
          rw [HE.out.2.2.2 (by rw [HX.out.1, HX.out.2]; exact hxy) (fun j h1 h2 => HE.out.1 j (by have := HE.out.2.2.1; omega) h2), HX.out.1, HX.out.2]
        have HRR := Lib.hid hRR
        clear hRR hxy
        go_wp2_with fail
        go_quiet (fail)
        go_wp2_with fail
        go_quiet (fail)
        go_wp2_with fail
        go_ret
        exact ⟨by rw [HRR.out]; rfl, _, by rw [HE.out.2.1, World.drewN_drewN, World.drewN_drewN]⟩
    · have hie : i = n := by omega
      have hiz : ¬ (i : Int) < (n : Int) := by omega
      have hRf : R = false := by
        rw [← HR.out]
        apply decide_eq_false
        rw [Vl.val_congr 4294967296 fx fy n (fun j hj => he j (by omega) hj)]
        omega
      have HRR := Lib.hid hRf
      have HW := Lib.hid hw
      clear hRf he hie hw
      go_wp2_with fail
      go_ret
      exact ⟨by rw [HRR.out]; rfl, k, HW.out⟩
  · have hb := Nt.len_iff fx fy dx dy n m hnm tx ty
    have hR : decide (Vl.val 4294967296 fx n < Vl.val 4294967296 fy m) = decide (n < m) := by
      apply decide_eq_decide.2
      rw [hb]
    rw [hR]
    have hz : ((n : Int) != (m : Int)) = true := by rw [bne_iff_ne]; omega
    clear hb hR hnm tx ty hx hy
    go_enter Tryz.func58, Tryz.ntmps58
    go_wp2_with fail
    go_ret
    exact ⟨rfl, 0, rfl⟩
end Go.Proofs.YtjlmcffbjikogaaGreatDoor
