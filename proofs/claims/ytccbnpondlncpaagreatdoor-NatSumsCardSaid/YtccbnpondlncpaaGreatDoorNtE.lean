/- moveUp, moveDown. -/
import Derived.Test.YtccbnpondlncpaaGreatDoorNtC
import Derived.Laws.BitsAllLaws
import Derived.Laws.Bits64b
namespace Go.Proofs.YtccbnpondlncpaaGreatDoor
section
open Go.RowKit

theorem Nt.u32_eq (z : Int) (d : Nat) (h : z % 4294967296 = (d : Int)) : IntKind.u32.wrap z = (d : Int) := by
  unfold IntKind.wrap
  simpa [IntKind.bits, IntKind.signed] using h
theorem Nt.low_int (x lo d : Nat) (hx : x < 4294967296) (hlo : lo < 4294967296) (hd : Nt.low 4294967296 x lo = d) : ((x : Int) - (lo : Int)) % 4294967296 = (d : Int) := by
  unfold Nt.low at hd
  split at hd <;> omega
set_option maxHeartbeats 1000000 in
set_option maxRecDepth 100000 in
theorem Nt.takeTimes_any (w : World) (bx ox nx cx : Nat) (fx : Nat → Nat) (b' oy n cy : Nat) (fy : Nat → Nat) (t : Nat) (hx : Nt.Lim w bx ox nx fx) (hy : Nt.Lim w b' oy n fy) (hn : n ≤ nx) (hnm : nx ≤ 1000000) (ht : t < 4294967296) (hne : b' ≠ bx) :
    Calls Tryz.prog 76 #[.slice (some ⟨bx, ox, none⟩) nx cx, .slice (some ⟨b', oy, none⟩) n cy, .int .u32 (t : Int)] w fun e w' => ∃ c fo, e = .returned (.int .u32 ((c : Nat) : Int)) ∧ c < 4294967296 ∧ Nt.Lim w' bx ox nx fo ∧ Vl.val 4294967296 fo n + t * Vl.val 4294967296 fy n = Vl.val 4294967296 fx n + c * 4294967296 ^ n ∧ (∀ j, n ≤ j → fo j = fx j) ∧ Nt.Only bx ox n w w' := by
  go_enter Tryz.func76, Tryz.ntmps76
  go_wp2_with fail
  go_loopw [7, 12] (fun cv iv wr => ∃ (i c : Nat) (fo : Nat → Nat), i ≤ n ∧ iv = .int .i64 (i : Int) ∧ cv = .int .u64 (c : Int) ∧ c < 4294967296 ∧ Nt.Lim wr bx ox nx fo ∧ Vl.val 4294967296 fo n + t * Vl.val 4294967296 fy i = Vl.val 4294967296 fx n + c * 4294967296 ^ i ∧ (∀ j, n ≤ j → fo j = fx j) ∧ Nt.Only bx ox n w wr) (fun _ iv _ => n - (intOf iv).toNat)
  case atStart => exact ⟨0, 0, fx, by omega, rfl, rfl, by decide, hx, by simp [Vl.val], fun _ _ => rfl, Nt.Only.refl _ _ _ _⟩
  case round =>
  obtain ⟨i, c, fo, hi, rfl, rfl, hc, hL, hv, hhi, hO⟩ := hrel
  obtain ⟨w2, rfl⟩ : ∃ w2, w2 = wr := ⟨_, rfl⟩
  by_cases hin : i < n
  · have hiz : (i : Int) < (n : Int) := by omega
    have hiz0 : 0 ≤ (i : Int) := by omega
    have hix : (i : Int) < (nx : Int) := by omega
    have cy2 := (hy.only hO hne).cell i hin
    have cx2 := hL.cell i (by omega)
    have fx2 := hL.fro i (by omega)
    have dy := hy.dig i
    have dx := hL.dig i
    have hst := Nt.take_step 4294967296 (by decide) fo n i c (fy i) t (Vl.val 4294967296 fy i) (Vl.val 4294967296 fx n) hin hv
    have hcr := Nt.bor_lt 4294967296 (fo i) (fy i) t c dy ht hc
    have evy : Vl.val 4294967296 fy i + fy i * 4294967296 ^ i = Vl.val 4294967296 fy (i + 1) := rfl
    rw [evy] at hst
    obtain ⟨y, ey⟩ : ∃ y, fy i = y := ⟨_, rfl⟩
    obtain ⟨x, ex⟩ : ∃ x, fo i = x := ⟨_, rfl⟩
    rw [ey, ex] at hst hcr
    rw [ey] at cy2 dy
    rw [ex] at cx2 dx
    have em : (y : Int) * (t : Int) = ((y * t : Nat) : Int) := by simp
    obtain ⟨m, hm⟩ : ∃ m, y * t = m := ⟨_, rfl⟩
    rw [hm] at em hst hcr
    obtain ⟨s, hs⟩ : ∃ s, m + c = s := ⟨_, rfl⟩
    rw [hs] at hst hcr
    have hsb : s < 18446744073709551616 := hcr.1
    obtain ⟨lo, hlo⟩ : ∃ lo, s % 4294967296 = lo := ⟨_, rfl⟩
    rw [hlo] at hst
    have hlol : lo < 4294967296 := by omega
    have hdl := Nt.low_lt 4294967296 x lo dx hlol
    have kd := fun d hd => Nt.low_int x lo d dx hlol hd
    obtain ⟨d, hd⟩ : ∃ d, Nt.low 4294967296 x lo = d := ⟨_, rfl⟩
    have kd := kd d hd
    rw [hd] at hst hdl
    obtain ⟨c', hc'⟩ : ∃ c', Nt.bor 4294967296 x s = c' := ⟨_, rfl⟩
    rw [hc'] at hst hcr
    obtain ⟨c0, hc0⟩ : ∃ c0, s / 4294967296 = c0 := ⟨_, rfl⟩
    have hL3 := hL.set i d (by omega) hdl
    have hO3 := hO.trans (Nt.Only.set w2 i (.int .u32 (d : Int)) hin)
    have hhi3 : ∀ j, n ≤ j → Vl.upd fo i d j = fx j := fun j hj => by
      unfold Vl.upd
      rw [if_neg (by omega)]
      exact hhi j hj
    have HH := Lib.hid (And.intro hcr.2 (And.intro hL3 (And.intro hst (And.intro hhi3 hO3))))
    have hbc : c' = c0 + if x < lo then 1 else 0 := by rw [← hc', ← hc0, ← hlo]; rfl
    have k1 : IntKind.u64.wrap (y : Int) = (y : Int) := IntWalk.u64_in _ (by omega)
    have k2 : IntKind.u64.wrap (t : Int) = (t : Int) := IntWalk.u64_in _ (by omega)
    have k4 : IntKind.u64.wrap ((y : Int) * (t : Int)) = (m : Int) := by rw [em]; exact IntWalk.u64_in _ (by omega)
    have k6 : IntKind.u64.wrap ((m : Int) + (c : Int)) = (s : Int) := by rw [IntWalk.u64_in _ (by omega)]; omega
    have k6b : (m : Int) + (c : Int) = (s : Int) := by omega
    have kM : IntKind.u64.wrap (m : Int) = (m : Int) := IntWalk.u64_in _ (by omega)
    have kS : IntKind.u64.wrap (s : Int) = (s : Int) := IntWalk.u64_in _ (by omega)
    have k8 : (s : Int) % 4294967296 = (lo : Int) := by omega
    have k7 : IntKind.u32.wrap (s : Int) = (lo : Int) := Nt.u32_eq _ _ k8
    have k9 : (s : Int) / 4294967296 = (c0 : Int) := by omega
    have k10 : IntKind.u32.wrap ((x : Int) - (lo : Int)) = (d : Int) := Nt.u32_eq _ _ kd
    by_cases hb : x < lo
    · have hbz : (x : Int) < (lo : Int) := by omega
      rw [if_pos hb] at hbc
      have k11 : IntKind.u64.wrap ((c0 : Int) + 1) = (c' : Int) := by rw [IntWalk.u64_in _ (by omega)]; omega
      have k12 : (c0 : Int) + 1 = (c' : Int) := by omega
      have kC : IntKind.u64.wrap (c' : Int) = (c' : Int) := IntWalk.u64_in _ (by have := hcr.2; omega)
      clear hv hhi hst hcr hhi3 hL3 hO3 evy ey ex hm hs hsb hlo hlol hd hc' hc0 hc dx dy hbc hb hdl hL hO
      go_wp2_with fail
      exact ⟨⟨i + 1, c', _, by omega, by go_num, rfl, HH.out.1, HH.out.2.1, HH.out.2.2.1, HH.out.2.2.2.1, HH.out.2.2.2.2⟩, by simp [intOf]; omega⟩
    · have hbz : ¬ (x : Int) < (lo : Int) := by omega
      rw [if_neg hb, Nat.add_zero] at hbc
      subst hbc
      clear hv hhi hst hcr hhi3 hL3 hO3 evy ey ex hm hs hsb hlo hlol hd hc' hc0 hc dx dy hb hdl hL hO
      go_wp2_with fail
      exact ⟨⟨i + 1, c', _, by omega, by go_num, rfl, HH.out.1, HH.out.2.1, HH.out.2.2.1, HH.out.2.2.2.1, HH.out.2.2.2.2⟩, by simp [intOf]; omega⟩
  · have hie : i = n := by omega
    have hiz : ¬ (i : Int) < (n : Int) := by omega
    have k8 : (c : Int) % 4294967296 = (c : Int) := by omega
    have k7 : IntKind.u32.wrap (c : Int) = (c : Int) := Nt.u32_eq _ _ k8
    rw [hie] at hv
    have HH := Lib.hid (And.intro hc (And.intro hL (And.intro hv (And.intro hhi hO))))
    clear hc hL hv hhi hO hie
    go_wp2_with fail
    go_ret
    exact ⟨c, rfl, HH.out.1, fo, HH.out.2⟩
end
section
open Go.RowKit

/-- A limb moved up by k binary digits, with what comes over from the limb below. -/
def Nt.over (f : Nat → Nat) (k : Nat) : Nat → Nat
  | 0 => 0
  | j + 1 => f j / 2 ^ (32 - k)
def Nt.up (f : Nat → Nat) (k j : Nat) : Nat := f j * 2 ^ k % 4294967296 + Nt.over f k j
theorem Nt.over_lt (f : Nat → Nat) (k : Nat) (hk : k ≤ 32) (hf : ∀ j, f j < 4294967296) : ∀ j, Nt.over f k j < 2 ^ k
  | 0 => Nat.two_pow_pos k
  | j + 1 => by
    unfold Nt.over
    refine Nat.div_lt_of_lt_mul ?_
    rw [← Nat.pow_add, show 32 - k + k = 32 by omega]
    exact hf j
theorem Nt.up_or (x k l : Nat) (hk : k ≤ 32) (hl : l < 2 ^ k) : (x * 2 ^ k % 4294967296 ||| l) = x * 2 ^ k % 4294967296 + l := by
  have e : x * 2 ^ k % 4294967296 = (x % 2 ^ (32 - k)) * 2 ^ k := by
    rw [show (4294967296 : Nat) = 2 ^ (32 - k) * 2 ^ k by rw [← Nat.pow_add, show 32 - k + k = 32 by omega], Nat.mul_mod_mul_right]
  rw [e]
  have := Nat.shiftLeft_add_eq_or_of_lt hl (x % 2 ^ (32 - k))
  rw [Nat.shiftLeft_eq] at this
  exact this.symm
theorem Nt.up_lt (f : Nat → Nat) (k j : Nat) (hk : k ≤ 32) (hf : ∀ j, f j < 4294967296) : Nt.up f k j < 4294967296 := by
  unfold Nt.up
  rw [← Nt.up_or (f j) k _ hk (Nt.over_lt f k hk hf j)]
  refine Nat.or_lt_two_pow (n := 32) (Nat.mod_lt _ (by decide)) (Nat.lt_of_lt_of_le (Nt.over_lt f k hk hf j) ?_)
  exact Nat.pow_le_pow_right (by decide) hk
def Nt.part (f g : Nat → Nat) (i j : Nat) : Nat := if j < i then g j else f j
theorem Nt.part_upd (f g : Nat → Nat) (i : Nat) : Vl.upd (Nt.part f g i) i (g i) = Nt.part f g (i + 1) := by
  funext j
  unfold Vl.upd Nt.part
  by_cases h : j = i
  · subst h; rw [if_pos rfl, if_pos (by omega)]
  · rw [if_neg h]
    by_cases h2 : j < i
    · rw [if_pos h2, if_pos (by omega)]
    · rw [if_neg h2, if_neg (by omega)]
set_option maxHeartbeats 1000000 in
set_option maxRecDepth 100000 in
theorem Nt.moveUp_any (w : World) (b o n c : Nat) (f : Nat → Nat) (k : Nat) (hx : Nt.Lim w b o n f) (hn : n ≤ 1000000) (hk : k < 32) :
    Calls Tryz.prog 91 #[.slice (some ⟨b, o, none⟩) n c, .int .i64 (k : Int)] w fun e w' => e = .returned (.tuple #[]) ∧ Nt.Lim w' b o n (Nt.part f (Nt.up f k) n) ∧ Nt.Only b o n w w' := by
  have hk0 : ¬ (k : Int) < 0 := by omega
  have hkm : min k 64 = k := Nat.min_eq_left (by omega)
  obtain ⟨t, ht⟩ : ∃ t, 32 - k = t := ⟨_, rfl⟩
  have ht0 : ¬ (t : Int) < 0 := by omega
  have htm : min t 64 = t := Nat.min_eq_left (by omega)
  have htk : (32 : Int) - (k : Int) = (t : Int) := by omega
  have htw : IntKind.i64.wrap (t : Int) = (t : Int) := IntWalk.i64_in _ (by omega)
  have htb : (t : Int) ≤ 32 := by omega
  have hkb : (k : Int) ≤ 32 := by omega
  have HK := Lib.hid (And.intro hk ht)
  clear hk ht
  go_enter Tryz.func91, Tryz.ntmps91
  go_wp2_with fail
  go_loopw [4, 9] (fun lv iv wr => ∃ (i : Nat), i ≤ n ∧ iv = .int .i64 (i : Int) ∧ lv = .int .u32 (Nt.over f k i : Int) ∧ Nt.Lim wr b o n (Nt.part f (Nt.up f k) i) ∧ Nt.Only b o n w wr) (fun _ iv _ => n - (intOf iv).toNat)
  case atStart => exact ⟨0, by omega, rfl, rfl, hx, Nt.Only.refl _ _ _ _⟩
  case round =>
  obtain ⟨i, hi, rfl, rfl, hL, hO⟩ := hrel
  obtain ⟨w2, rfl⟩ : ∃ w2, w2 = wr := ⟨_, rfl⟩
  by_cases hin : i < n
  · have hiz : (i : Int) < (n : Int) := by omega
    have hiz0 : 0 ≤ (i : Int) := by omega
    have cx2 := hL.cell i hin
    have fx2 := hL.fro i hin
    have exi : Nt.part f (Nt.up f k) i i = f i := by unfold Nt.part; rw [if_neg (by omega)]
    rw [exi] at cx2
    have hul := Nt.up_lt f k i (by have := HK.out.1; omega) hx.dig
    have hov := Nt.over_lt f k (by have := HK.out.1; omega) hx.dig i
    have hor := Nt.up_or (f i) k (Nt.over f k i) (by have := HK.out.1; omega) hov
    have hL3 := hL.set i _ hin hul
    rw [Nt.part_upd] at hL3
    have hO3 := hO.trans (Nt.Only.set w2 i (.int .u32 ((Nt.up f k i : Nat) : Int)) hin)
    have hup : Nt.up f k i = f i * 2 ^ k % 4294967296 + Nt.over f k i := rfl
    have hnx : Nt.over f k (i + 1) = f i / 2 ^ t := by rw [← HK.out.2]; rfl
    have dx := hx.dig i
    have hl32 : Nt.over f k i < 4294967296 := Nat.lt_of_lt_of_le hov (show 2 ^ k ≤ 2 ^ 32 from Nat.pow_le_pow_right (by decide) (by have := HK.out.1; omega))
    have ha32 := Nat.mod_lt (f i * 2 ^ k) (show 0 < 4294967296 by decide)
    rw [← hup] at hor
    obtain ⟨u, hu⟩ : ∃ u, Nt.up f k i = u := ⟨_, rfl⟩
    obtain ⟨l, hl⟩ : ∃ l, Nt.over f k i = l := ⟨_, rfl⟩
    obtain ⟨x, ex⟩ : ∃ x, f i = x := ⟨_, rfl⟩
    rw [hu] at hor hL3 hO3
    rw [hl] at hor hl32 ⊢
    rw [ex] at cx2 dx hor hnx ha32
    have k1 : IntKind.u32.wrap ((x : Int) * 2 ^ k) = ((x * 2 ^ k % 4294967296 : Nat) : Int) := Nt.u32_eq _ _ (by simp)
    have k1b : (x : Int) * 2 ^ k % 4294967296 = ((x * 2 ^ k % 4294967296 : Nat) : Int) := by simp
    have k3 : (x : Int) / 2 ^ t = ((x / 2 ^ t : Nat) : Int) := by simp
    obtain ⟨a, ha⟩ : ∃ a, x * 2 ^ k % 4294967296 = a := ⟨_, rfl⟩
    rw [ha] at k1 k1b hor ha32
    obtain ⟨h, hh⟩ : ∃ h, x / 2 ^ t = h := ⟨_, rfl⟩
    rw [hh] at k3 hnx
    have k2 : bits .or .u32 (a : Int) (l : Int) = (u : Int) := by rw [u32_or_nat _ _ ha32 hl32, hor]
    have HH := Lib.hid (And.intro hnx (And.intro hL3 hO3))
    clear hor hL3 hO3 hup hnx hu hl ex ha hh ha32 hl32 dx hul hov hL hO exi
    go_wp2_with fail
    exact ⟨⟨i + 1, by omega, by go_num, by rw [HH.out.1], HH.out.2.1, HH.out.2.2⟩, by simp [intOf]; omega⟩
  · have hie : i = n := by omega
    have hiz : ¬ (i : Int) < (n : Int) := by omega
    rw [hie] at hL
    clear hie
    go_wp2_with fail
    go_end0
    exact ⟨rfl, hL, hO⟩
end
end Go.Proofs.YtccbnpondlncpaaGreatDoor
