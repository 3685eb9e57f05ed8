/- takeTimes. -/
import Derived.Test.YtjlmcffbjikogaaGreatDoorNtC
namespace Go.Proofs.YtjlmcffbjikogaaGreatDoor
open Go.RowKit

theorem Nt.u32_eq (z : Int) (d : Nat) (h : z % 4294967296 = (d : Int)) : IntKind.u32.wrap z = (d : Int) := by
  unfold IntKind.wrap
  simpa [IntKind.bits, IntKind.signed] using h
theorem Nt.low_int (x lo d : Nat) (hx : x < 4294967296) (hlo : lo < 4294967296) (hd : Nt.low 4294967296 x lo = d) : ((x : Int) - (lo : Int)) % 4294967296 = (d : Int) := by
  unfold Nt.low at hd
  split at hd <;> omega
set_option maxHeartbeats 1000000 in
set_option maxRecDepth 100000 in
theorem Nt.takeTimes_any (w : World) (bx ox nx cx : Nat) (fx : Nat → Nat) (b' oy n cy : Nat) (fy : Nat → Nat) (t : Nat) (hx : Nt.Lim w bx ox nx fx) (hy : Nt.Lim w b' oy n fy) (hn : n ≤ nx) (hnm : nx ≤ 1000000) (ht : t < 4294967296) (hne : b' ≠ bx) :
    Calls Tryz.prog 76 #[.slice (some ⟨bx, ox, none⟩) nx cx, .slice (some ⟨b', oy, none⟩) n cy, .int .u32 (t : Int)] w fun e w' => ∃ c fo, e = .returned (.int .u32 ((c : Nat) : Int)) ∧ c < 4294967296 ∧ Nt.Lim w' bx ox nx fo ∧ Vl.val 4294967296 fo n + t * Vl.val 4294967296 fy n = Vl.val 4294967296 fx n + c * 4294967296 ^ n ∧ (∀ j, n ≤ j → fo j = fx j) ∧ Nt.Only bx ox n w w' := by
  go_enter Tryz.func76, Tryz.ntmps76
  go_wp2_with fail
  go_loopw [7, 12] (fun cv iv wr => ∃ (i c : Nat) (fo : Nat → Nat), i ≤ n ∧ iv = .int .i64 (i : Int) ∧ cv = .int .u64 (c : Int) ∧ c < 4294967296 ∧ Nt.Lim wr bx ox nx fo ∧ Vl.val 4294967296 fo n + t * Vl.val 4294967296 fy i = Vl.val 4294967296 fx n + c * 4294967296 ^ i ∧ (∀ j, n ≤ j → fo j = fx j) ∧ Nt.Only bx ox n w wr) (fun _ iv _ => n - (intOf iv).toNat)
  case atStart => exact ⟨0, 0, fx, by omega, rfl, rfl, by decide, hx, by simp [Vl.val], fun _ _ => rfl, Nt.Only.refl _ _ _ _⟩
  case round =>
  obtain ⟨i, c, fo, hi, rfl, rfl, hc, hL, hv, hhi, hO⟩ := hrel
  obtain ⟨w2, rfl⟩ : ∃ w2, w2 = wr := ⟨_, rfl⟩
  by_cases hin : i < n
  · have hiz : (i : Int) < (n : Int) := by omega
    have hiz0 : 0 ≤ (i : Int) := by omega
    have hix : (i : Int) < (nx : Int) := by omega
    have cy2 := (hy.only hO hne).cell i hin
    have cx2 := hL.cell i (by omega)
    have fx2 := hL.fro i (by omega)
    have dy := hy.dig i
    have dx := hL.dig i
    have hst := Nt.take_step 4294967296 (by decide) fo n i c (fy i) t (Vl.val 4294967296 fy i) (Vl.val 4294967296 fx n) hin hv
    have hcr := Nt.bor_lt 4294967296 (fo i) (fy i) t c dy ht hc
    have evy : Vl.val 4294967296 fy i + fy i * 4294967296 ^ i = Vl.val 4294967296 fy (i + 1) := rfl
    rw [evy] at hst
    obtain ⟨y, ey⟩ : ∃ y, fy i = y := ⟨_, rfl⟩
    obtain ⟨x, ex⟩ : ∃ x, fo i = x := ⟨_, rfl⟩
    rw [ey, ex] at hst hcr
    rw [ey] at cy2 dy
    rw [ex] at cx2 dx
    have em : (y : Int) * (t : Int) = ((y * t : Nat) : Int) := by simp
    obtain ⟨m, hm⟩ : ∃ m, y * t = m := ⟨_, rfl⟩
    rw [hm] at em hst hcr
    obtain ⟨s, hs⟩ : ∃ s, m + c = s := ⟨_, rfl⟩
    rw [hs] at hst hcr
    have hsb : s < 18446744073709551616 := hcr.1
    obtain ⟨lo, hlo⟩ : ∃ lo, s % 4294967296 = lo := ⟨_, rfl⟩
    rw [hlo] at hst
    have hlol : lo < 4294967296 := by omega
    have hdl := Nt.low_lt 4294967296 x lo dx hlol
    have kd := fun d hd => Nt.low_int x lo d dx hlol hd
    obtain ⟨d, hd⟩ : ∃ d, Nt.low 4294967296 x lo = d := ⟨_, rfl⟩
    have kd := kd d hd
    rw [hd] at hst hdl
    obtain ⟨c', hc'⟩ : ∃ c', Nt.bor 4294967296 x s = c' := ⟨_, rfl⟩
    rw [hc'] at hst hcr
    obtain ⟨c0, hc0⟩ : ∃ c0, s / 4294967296 = c0 := ⟨_, rfl⟩
    have hL3 := hL.set i d (by omega) hdl
    have hO3 := hO.trans (Nt.Only.set w2 i (.int .u32 (d : Int)) hin)
    have hhi3 : ∀ j, n ≤ j → Vl.upd fo i d j = fx j := fun j hj => by
      unfold Vl.upd
      rw [if_neg (by omega)]
      exact hhi j hj
    have HH := Lib.hid (And.intro hcr.2 (And.intro hL3 (And.intro hst (And.intro hhi3 hO3))))
    have hbc : c' = c0 + if x < lo then 1 else 0 := by rw [← hc', ← hc0, ← hlo]; rfl
    have k1 : IntKind.u64.wrap (y : Int) = (y : Int) := IntWalk.u64_in _ (by omega)
    have k2 : IntKind.u64.wrap (t : Int) = (t : Int) := IntWalk.u64_in _ (by omega)
    have k4 : IntKind.u64.wrap ((y : Int) * (t : Int)) = (m : Int) := by rw [em]; exact IntWalk.u64_in _ (by omega)
    have k6 : IntKind.u64.wrap ((m : Int) + (c : Int)) = (s : Int) := by rw [IntWalk.u64_in _ (by omega)]; omega
    have k6b : (m : Int) + (c : Int) = (s : Int) := by omega
    have kM : IntKind.u64.wrap (m : Int) = (m : Int) := IntWalk.u64_in _ (by omega)
    have kS : IntKind.u64.wrap (s : Int) = (s : Int) := IntWalk.u64_in _ (by omega)
    have k8 : (s : Int) % 4294967296 = (lo : Int) := by omega
    have k7 : IntKind.u32.wrap (s : Int) = (lo : Int) := Nt.u32_eq _ _ k8
    have k9 : (s : Int) / 4294967296 = (c0 : Int) := by omega
    have k10 : IntKind.u32.wrap ((x : Int) - (lo : Int)) = (d : Int) := Nt.u32_eq _ _ kd
    by_cases hb : x < lo
    · have hbz : (x : Int) < (lo : Int) := by omega
      rw [if_pos hb] at hbc
      have k11 : IntKind.u64.wrap ((c0 : Int) + 1) = (c' : Int) := by rw [IntWalk.u64_in _ (by omega)]; omega
      have k12 : (c0 : Int) + 1 = (c' : Int) := by omega
      have kC : IntKind.u64.wrap (c' : Int) = (c' : Int) := IntWalk.u64_in _ (by have := hcr.2; omega)
      clear hv hhi hst hcr hhi3 hL3 hO3 evy ey ex hm hs hsb hlo hlol hd hc' hc0 hc dx dy hbc hb hdl hL hO
      go_wp2_with fail
      exact ⟨⟨i + 1, c', _, by omega, by go_num, rfl, HH.out.1, HH.out.2.1, HH.out.2.2.1, HH.out.2.2.2.1, HH.out.2.2.2.2⟩, by simp [intOf]; omega⟩
    · have hbz : ¬ (x : Int) < (lo : Int) := by omega
      rw [if_neg hb, Nat.add_zero] at hbc
      subst hbc
      clear hv hhi hst hcr hhi3 hL3 hO3 evy ey ex hm hs hsb hlo hlol hd hc' hc0 hc dx dy hb hdl hL hO
      go_wp2_with fail
      exact ⟨⟨i + 1, c', _, by omega, by go_num, rfl, HH.out.1, HH.out.2.1, HH.out.2.2.1, HH.out.2.2.2.1, HH.out.2.2.2.2⟩, by simp [intOf]; omega⟩
  · have hie : i = n := by omega
    have hiz : ¬ (i : Int) < (n : Int) := by omega
    have k8 : (c : Int) % 4294967296 = (c : Int) := by omega
    have k7 : IntKind.u32.wrap (c : Int) = (c : Int) := Nt.u32_eq _ _ k8
    rw [hie] at hv
    have HH := Lib.hid (And.intro hc (And.intro hL (And.intro hv (And.intro hhi hO))))
    clear hc hL hv hhi hO hie
    go_wp2_with fail
    go_ret
    exact ⟨c, rfl, HH.out.1, fo, HH.out.2⟩
end Go.Proofs.YtjlmcffbjikogaaGreatDoor
