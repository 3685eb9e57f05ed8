/- below. -/
import Derived.Test.YthlecdggkolgmaaGreatDoorNtC
import Derived.Laws.BitsAllLaws
import Derived.Laws.Bits64b
namespace Go.Proofs.YthlecdggkolgmaaGreatDoor
section
section
open Go.RowKit

theorem Nt.u32_eq (z : Int) (d : Nat) (h : z % 4294967296 = (d : Int)) : IntKind.u32.wrap z = (d : Int) := by
  unfold IntKind.wrap
  simpa [IntKind.bits,IntKind.signed] using h
theorem Nt.low_int (x lo d : Nat) (hx : x < 4294967296) (hlo : lo < 4294967296) (hd : Nt.low 4294967296 x lo = d) : ((x : Int) - (lo : Int)) % 4294967296 = (d : Int) := by
  unfold Nt.low at hd
  split at hd <;> omega
set_option maxHeartbeats 1000000 in
set_option maxRecDepth 100000 in
theorem Nt.takeTimes_any (w : World) (bx ox nx cx : Nat) (fx : Nat → Nat) (b' oy n cy : Nat) (fy : Nat → Nat) (t : Nat) (hx : Nt.Lim w bx ox nx fx) (hy : Nt.Lim w b' oy n fy) (hn : n ≤ nx) (hnm : nx ≤ 1000000) (ht : t < 4294967296) (hne : b' ≠ bx) :
    Calls Tryz.prog 143 #[.slice (some ⟨bx,ox,none⟩) nx cx,.slice (some ⟨b',oy,none⟩) n cy,.int .u32 (t : Int)] w fun e w' => ∃ c fo,e = .returned (.int .u32 ((c : Nat) : Int)) ∧ c < 4294967296 ∧ Nt.Lim w' bx ox nx fo ∧ Vl.val 4294967296 fo n + t * Vl.val 4294967296 fy n = Vl.val 4294967296 fx n + c * 4294967296 ^ n ∧ (∀ j,n ≤ j → fo j = fx j) ∧ Nt.Only bx ox n w w' := by
  go_enter Tryz.func143,Tryz.ntmps143
  go_wp2_with fail
  go_loopw [7,12] (fun cv iv wr => ∃ (i c : Nat) (fo : Nat → Nat),i ≤ n ∧ iv = .int .i64 (i : Int) ∧ cv = .int .u64 (c : Int) ∧ c < 4294967296 ∧ Nt.Lim wr bx ox nx fo ∧ Vl.val 4294967296 fo n + t * Vl.val 4294967296 fy i = Vl.val 4294967296 fx n + c * 4294967296 ^ i ∧ (∀ j,n ≤ j → fo j = fx j) ∧ Nt.Only bx ox n w wr) (fun _ iv _ => n - (intOf iv).toNat)
  case atStart => exact ⟨0,0,fx,by omega,rfl,rfl,by decide,hx,by simp [Vl.val],fun _ _ => rfl,Nt.Only.refl _ _ _ _⟩
  case round =>
  obtain ⟨i,c,fo,hi,rfl,rfl,hc,hL,hv,hhi,hO⟩ := hrel
  obtain ⟨w2,rfl⟩ : ∃ w2,w2 = wr := ⟨_,rfl⟩
  by_cases hin : i < n
  · have hiz : (i : Int) < (n : Int) := by omega
    have hiz0 : 0 ≤ (i : Int) := by omega
    have hix : (i : Int) < (nx : Int) := by omega
    have cy2 := (hy.only hO hne).cell i hin
    have cx2 := hL.cell i (by omega)
    have fx2 := hL.fro i (by omega)
    have dy := hy.dig i
    have dx := hL.dig i
    have hst := Nt.take_step 4294967296 (by decide) fo n i c (fy i) t (Vl.val 4294967296 fy i) (Vl.val 4294967296 fx n) hin hv
    have hcr := Nt.bor_lt 4294967296 (fo i) (fy i) t c dy ht hc
    have evy : Vl.val 4294967296 fy i + fy i * 4294967296 ^ i = Vl.val 4294967296 fy (i + 1) := rfl
    rw [evy] at hst
    obtain ⟨y,ey⟩ : ∃ y,fy i = y := ⟨_,rfl⟩
    obtain ⟨x,ex⟩ : ∃ x,fo i = x := ⟨_,rfl⟩
    rw [ey,ex] at hst hcr
    rw [ey] at cy2 dy
    rw [ex] at cx2 dx
    have em : (y : Int) * (t : Int) = ((y * t : Nat) : Int) := by simp
    obtain ⟨m,hm⟩ : ∃ m,y * t = m := ⟨_,rfl⟩
    rw [hm] at em hst hcr
    obtain ⟨s,hs⟩ : ∃ s,m + c = s := ⟨_,rfl⟩
    rw [hs] at hst hcr
    have hsb : s < 18446744073709551616 := hcr.1
    obtain ⟨lo,hlo⟩ : ∃ lo,s % 4294967296 = lo := ⟨_,rfl⟩
    rw [hlo] at hst
    have hlol : lo < 4294967296 := by omega
    have hdl := Nt.low_lt 4294967296 x lo dx hlol
    have kd := fun d hd => Nt.low_int x lo d dx hlol hd
    obtain ⟨d,hd⟩ : ∃ d,Nt.low 4294967296 x lo = d := ⟨_,rfl⟩
    have kd := kd d hd
    rw [hd] at hst hdl
    obtain ⟨c',hc'⟩ : ∃ c',Nt.bor 4294967296 x s = c' := ⟨_,rfl⟩
    rw [hc'] at hst hcr
    obtain ⟨c0,hc0⟩ : ∃ c0,s / 4294967296 = c0 := ⟨_,rfl⟩
    have hL3 := hL.set i d (by omega) hdl
    have hO3 := hO.trans (Nt.Only.set w2 i (.int .u32 (d : Int)) hin)
    have hhi3 : ∀ j,n ≤ j → Vl.upd fo i d j = fx j := fun j hj => by
      unfold Vl.upd
      rw [if_neg (by omega)]
      exact hhi j hj
    have HH := Lib.hid (And.intro hcr.2 (And.intro hL3 (And.intro hst (And.intro hhi3 hO3))))
    have hbc : c' = c0 + if x < lo then 1 else 0 := by rw [← hc',← hc0,← hlo]; rfl
    have k1 : IntKind.u64.wrap (y : Int) = (y : Int) := IntWalk.u64_in _ (by omega)
    have k2 : IntKind.u64.wrap (t : Int) = (t : Int) := IntWalk.u64_in _ (by omega)
    have k4 : IntKind.u64.wrap ((y : Int) * (t : Int)) = (m : Int) := by rw [em]; exact IntWalk.u64_in _ (by omega)
    have k6 : IntKind.u64.wrap ((m : Int) + (c : Int)) = (s : Int) := by rw [IntWalk.u64_in _ (by omega)]; omega
    have k6b : (m : Int) + (c : Int) = (s : Int) := by omega
    have kM : IntKind.u64.wrap (m : Int) = (m : Int) := IntWalk.u64_in _ (by omega)
    have kS : IntKind.u64.wrap (s : Int) = (s : Int) := IntWalk.u64_in _ (by omega)
    have k8 : (s : Int) % 4294967296 = (lo : Int) := by omega
    have k7 : IntKind.u32.wrap (s : Int) = (lo : Int) := Nt.u32_eq _ _ k8
    have k9 : (s : Int) / 4294967296 = (c0 : Int) := by omega
    have k10 : IntKind.u32.wrap ((x : Int) - (lo : Int)) = (d : Int) := Nt.u32_eq _ _ kd
    by_cases hb : x < lo
    · have hbz : (x : Int) < (lo : Int) := by omega
      rw [if_pos hb] at hbc
      have k11 : IntKind.u64.wrap ((c0 : Int) + 1) = (c' : Int) := by rw [IntWalk.u64_in _ (by omega)]; omega
      have k12 : (c0 : Int) + 1 = (c' : Int) := by omega
      have kC : IntKind.u64.wrap (c' : Int) = (c' : Int) := IntWalk.u64_in _ (by have := hcr.2; omega)
      clear hv hhi hst hcr hhi3 hL3 hO3 evy ey ex hm hs hsb hlo hlol hd hc' hc0 hc dx dy hbc hb hdl hL hO
      go_wp2_with fail
      exact ⟨⟨i + 1,c',_,by omega,by go_num,rfl,HH.out.1,HH.out.2.1,HH.out.2.2.1,HH.out.2.2.2.1,HH.out.2.2.2.2⟩,by simp [intOf]; omega⟩
    · have hbz : ¬ (x : Int) < (lo : Int) := by omega
      rw [if_neg hb,Nat.add_zero] at hbc
      subst hbc
      clear hv hhi hst hcr hhi3 hL3 hO3 evy ey ex hm hs hsb hlo hlol hd hc' hc0 hc dx dy hb hdl hL hO
      go_wp2_with fail
      exact ⟨⟨i + 1,c',_,by omega,by go_num,rfl,HH.out.1,HH.out.2.1,HH.out.2.2.1,HH.out.2.2.2.1,HH.out.2.2.2.2⟩,by simp [intOf]; omega⟩
  · have hie : i = n := by omega
    have hiz : ¬ (i : Int) < (n : Int) := by omega
    have k8 : (c : Int) % 4294967296 = (c : Int) := by omega
    have k7 : IntKind.u32.wrap (c : Int) = (c : Int) := Nt.u32_eq _ _ k8
    rw [hie] at hv
    have HH := Lib.hid (And.intro hc (And.intro hL (And.intro hv (And.intro hhi hO))))
    clear hc hL hv hhi hO hie
    go_wp2_with fail
    go_ret
    exact ⟨c,rfl,HH.out.1,fo,HH.out.2⟩
end
section
open Go.RowKit

/-- A limb moved up by k binary digits, with what comes over from the limb below. -/
def Nt.over (f : Nat → Nat) (k : Nat) : Nat → Nat
  | 0 => 0
  | j + 1 => f j / 2 ^ (32 - k)
def Nt.up (f : Nat → Nat) (k j : Nat) : Nat := f j * 2 ^ k % 4294967296 + Nt.over f k j
theorem Nt.over_lt (f : Nat → Nat) (k : Nat) (hk : k ≤ 32) (hf : ∀ j,f j < 4294967296) : ∀ j,Nt.over f k j < 2 ^ k
  | 0 => Nat.two_pow_pos k
  | j + 1 => by
    unfold Nt.over
    refine Nat.div_lt_of_lt_mul ?_
    rw [← Nat.pow_add,show 32 - k + k = 32 by omega]
    exact hf j
theorem Nt.up_or (x k l : Nat) (hk : k ≤ 32) (hl : l < 2 ^ k) : (x * 2 ^ k % 4294967296 ||| l) = x * 2 ^ k % 4294967296 + l := by
  have e : x * 2 ^ k % 4294967296 = (x % 2 ^ (32 - k)) * 2 ^ k := by
    rw [show (4294967296 : Nat) = 2 ^ (32 - k) * 2 ^ k by rw [← Nat.pow_add,show 32 - k + k = 32 by omega],Nat.mul_mod_mul_right]
  rw [e]
  have := Nat.shiftLeft_add_eq_or_of_lt hl (x % 2 ^ (32 - k))
  rw [Nat.shiftLeft_eq] at this
  exact this.symm
theorem Nt.up_lt (f : Nat → Nat) (k j : Nat) (hk : k ≤ 32) (hf : ∀ j,f j < 4294967296) : Nt.up f k j < 4294967296 := by
  unfold Nt.up
  rw [← Nt.up_or (f j) k _ hk (Nt.over_lt f k hk hf j)]
  refine Nat.or_lt_two_pow (n := 32) (Nat.mod_lt _ (by decide)) (Nat.lt_of_lt_of_le (Nt.over_lt f k hk hf j) ?_)
  exact Nat.pow_le_pow_right (by decide) hk
def Nt.part (f g : Nat → Nat) (i j : Nat) : Nat := if j < i then g j else f j
theorem Nt.part_upd (f g : Nat → Nat) (i : Nat) : Vl.upd (Nt.part f g i) i (g i) = Nt.part f g (i + 1) := by
  funext j
  unfold Vl.upd Nt.part
  by_cases h : j = i
  · subst h; rw [if_pos rfl,if_pos (by omega)]
  · rw [if_neg h]
    by_cases h2 : j < i
    · rw [if_pos h2,if_pos (by omega)]
    · rw [if_neg h2,if_neg (by omega)]
set_option maxHeartbeats 1000000 in
set_option maxRecDepth 100000 in
theorem Nt.moveUp_any (w : World) (b o n c : Nat) (f : Nat → Nat) (k : Nat) (hx : Nt.Lim w b o n f) (hn : n ≤ 1000000) (hk : k < 32) :
    Calls Tryz.prog 136 #[.slice (some ⟨b,o,none⟩) n c,.int .i64 (k : Int)] w fun e w' => e = .returned (.tuple #[]) ∧ Nt.Lim w' b o n (Nt.part f (Nt.up f k) n) ∧ Nt.Only b o n w w' := by
  have hk0 : ¬ (k : Int) < 0 := by omega
  have hkm : min k 64 = k := Nat.min_eq_left (by omega)
  obtain ⟨t,ht⟩ : ∃ t,32 - k = t := ⟨_,rfl⟩
  have ht0 : ¬ (t : Int) < 0 := by omega
  have htm : min t 64 = t := Nat.min_eq_left (by omega)
  have htk : (32 : Int) - (k : Int) = (t : Int) := by omega
  have htw : IntKind.i64.wrap (t : Int) = (t : Int) := IntWalk.i64_in _ (by omega)
  have htb : (t : Int) ≤ 32 := by omega
  have hkb : (k : Int) ≤ 32 := by omega
  have HK := Lib.hid (And.intro hk ht)
  clear hk ht
  go_enter Tryz.func136,Tryz.ntmps136
  go_wp2_with fail
  go_loopw [4,9] (fun lv iv wr => ∃ (i : Nat),i ≤ n ∧ iv = .int .i64 (i : Int) ∧ lv = .int .u32 (Nt.over f k i : Int) ∧ Nt.Lim wr b o n (Nt.part f (Nt.up f k) i) ∧ Nt.Only b o n w wr) (fun _ iv _ => n - (intOf iv).toNat)
  case atStart => exact ⟨0,by omega,rfl,rfl,hx,Nt.Only.refl _ _ _ _⟩
  case round =>
  obtain ⟨i,hi,rfl,rfl,hL,hO⟩ := hrel
  obtain ⟨w2,rfl⟩ : ∃ w2,w2 = wr := ⟨_,rfl⟩
  by_cases hin : i < n
  · have hiz : (i : Int) < (n : Int) := by omega
    have hiz0 : 0 ≤ (i : Int) := by omega
    have cx2 := hL.cell i hin
    have fx2 := hL.fro i hin
    have exi : Nt.part f (Nt.up f k) i i = f i := by unfold Nt.part; rw [if_neg (by omega)]
    rw [exi] at cx2
    have hul := Nt.up_lt f k i (by have := HK.out.1; omega) hx.dig
    have hov := Nt.over_lt f k (by have := HK.out.1; omega) hx.dig i
    have hor := Nt.up_or (f i) k (Nt.over f k i) (by have := HK.out.1; omega) hov
    have hL3 := hL.set i _ hin hul
    rw [Nt.part_upd] at hL3
    have hO3 := hO.trans (Nt.Only.set w2 i (.int .u32 ((Nt.up f k i : Nat) : Int)) hin)
    have hup : Nt.up f k i = f i * 2 ^ k % 4294967296 + Nt.over f k i := rfl
    have hnx : Nt.over f k (i + 1) = f i / 2 ^ t := by rw [← HK.out.2]; rfl
    have dx := hx.dig i
    have hl32 : Nt.over f k i < 4294967296 := Nat.lt_of_lt_of_le hov (show 2 ^ k ≤ 2 ^ 32 from Nat.pow_le_pow_right (by decide) (by have := HK.out.1; omega))
    have ha32 := Nat.mod_lt (f i * 2 ^ k) (show 0 < 4294967296 by decide)
    rw [← hup] at hor
    obtain ⟨u,hu⟩ : ∃ u,Nt.up f k i = u := ⟨_,rfl⟩
    obtain ⟨l,hl⟩ : ∃ l,Nt.over f k i = l := ⟨_,rfl⟩
    obtain ⟨x,ex⟩ : ∃ x,f i = x := ⟨_,rfl⟩
    rw [hu] at hor hL3 hO3
    rw [hl] at hor hl32 ⊢
    rw [ex] at cx2 dx hor hnx ha32
    have k1 : IntKind.u32.wrap ((x : Int) * 2 ^ k) = ((x * 2 ^ k % 4294967296 : Nat) : Int) := Nt.u32_eq _ _ (by simp)
    have k1b : (x : Int) * 2 ^ k % 4294967296 = ((x * 2 ^ k % 4294967296 : Nat) : Int) := by simp
    have k3 : (x : Int) / 2 ^ t = ((x / 2 ^ t : Nat) : Int) := by simp
    obtain ⟨a,ha⟩ : ∃ a,x * 2 ^ k % 4294967296 = a := ⟨_,rfl⟩
    rw [ha] at k1 k1b hor ha32
    obtain ⟨h,hh⟩ : ∃ h,x / 2 ^ t = h := ⟨_,rfl⟩
    rw [hh] at k3 hnx
    have k2 : bits .or .u32 (a : Int) (l : Int) = (u : Int) := by rw [u32_or_nat _ _ ha32 hl32,hor]
    have HH := Lib.hid (And.intro hnx (And.intro hL3 hO3))
    clear hor hL3 hO3 hup hnx hu hl ex ha hh ha32 hl32 dx hul hov hL hO exi
    go_wp2_with fail
    exact ⟨⟨i + 1,by omega,by go_num,by rw [HH.out.1],HH.out.2.1,HH.out.2.2⟩,by simp [intOf]; omega⟩
  · have hie : i = n := by omega
    have hiz : ¬ (i : Int) < (n : Int) := by omega
    rw [hie] at hL
    clear hie
    go_wp2_with fail
    go_end0
    exact ⟨rfl,hL,hO⟩
end
end
section
section
open Go.RowKit

/-- A limb moved down by k binary digits, with what comes over from the limb above. -/
def Nt.under (f : Nat → Nat) (n k j : Nat) : Nat := if j + 1 < n then f (j + 1) * 2 ^ (32 - k) % 4294967296 else 0
def Nt.dn (f : Nat → Nat) (n k j : Nat) : Nat := f j / 2 ^ k + Nt.under f n k j
theorem Nt.under_mul (f : Nat → Nat) (n k j : Nat) : ∃ z,Nt.under f n k j = z * 2 ^ (32 - k) % 4294967296 := by
  unfold Nt.under
  split
  · exact ⟨_,rfl⟩
  · exact ⟨0,by simp⟩
theorem Nt.dn_or (f : Nat → Nat) (n k j : Nat) (hk : k ≤ 32) (hf : f j < 4294967296) : (f j / 2 ^ k ||| Nt.under f n k j) = Nt.dn f n k j := by
  obtain ⟨z,hz⟩ := Nt.under_mul f n k j
  have hl : f j / 2 ^ k < 2 ^ (32 - k) := by
    refine Nat.div_lt_of_lt_mul ?_
    rw [← Nat.pow_add,show k + (32 - k) = 32 by omega]
    exact hf
  have := Nt.up_or z (32 - k) (f j / 2 ^ k) (by omega) hl
  unfold Nt.dn
  rw [hz,Nat.or_comm,this,Nat.add_comm]
theorem Nt.under_lt (f : Nat → Nat) (n k j : Nat) : Nt.under f n k j < 4294967296 := by
  obtain ⟨z,hz⟩ := Nt.under_mul f n k j
  rw [hz]
  exact Nat.mod_lt _ (by decide)
theorem Nt.dn_lt (f : Nat → Nat) (n k j : Nat) (hk : k ≤ 32) (hf : f j < 4294967296) : Nt.dn f n k j < 4294967296 := by
  rw [← Nt.dn_or f n k j hk hf]
  exact Nat.or_lt_two_pow (n := 32) (Nat.lt_of_le_of_lt (Nat.div_le_self _ _) hf) (Nt.under_lt f n k j)
/-- From limb m on the numbers of g. -/
def Nt.from (f g : Nat → Nat) (m n j : Nat) : Nat := if m ≤ j ∧ j < n then g j else f j
theorem Nt.from_upd (f g : Nat → Nat) (m n : Nat) (h : m < n) : Vl.upd (Nt.from f g (m + 1) n) m (g m) = Nt.from f g m n := by
  funext j
  unfold Vl.upd Nt.from
  by_cases e : j = m
  · subst e; rw [if_pos rfl,if_pos ⟨Nat.le_refl _,h⟩]
  · rw [if_neg e]
    by_cases h2 : m + 1 ≤ j ∧ j < n
    · rw [if_pos h2,if_pos (by omega)]
    · rw [if_neg h2,if_neg (by omega)]
set_option maxHeartbeats 1000000 in
set_option maxRecDepth 100000 in
theorem Nt.moveDown_any (w : World) (b o n c : Nat) (f : Nat → Nat) (k : Nat) (hx : Nt.Lim w b o n f) (hn : n ≤ 1000000) (hk : k < 32) :
    Calls Tryz.prog 138 #[.slice (some ⟨b,o,none⟩) n c,.int .i64 (k : Int)] w fun e w' => e = .returned (.tuple #[]) ∧ Nt.Lim w' b o n (Nt.from f (Nt.dn f n k) 0 n) ∧ Nt.Only b o n w w' := by
  have hk0 : ¬ (k : Int) < 0 := by omega
  have hkm : min k 64 = k := Nat.min_eq_left (by omega)
  obtain ⟨t,ht⟩ : ∃ t,32 - k = t := ⟨_,rfl⟩
  have ht0 : ¬ (t : Int) < 0 := by omega
  have htm : min t 64 = t := Nat.min_eq_left (by omega)
  have htk : (32 : Int) - (k : Int) = (t : Int) := by omega
  have htw : IntKind.i64.wrap (t : Int) = (t : Int) := IntWalk.i64_in _ (by omega)
  have htb : (t : Int) ≤ 32 := by omega
  have hkb : (k : Int) ≤ 32 := by omega
  have HK := Lib.hid (And.intro hk ht)
  clear hk ht
  go_enter Tryz.func138,Tryz.ntmps138
  go_wp2_with fail
  go_loopw [4,10] (fun hv iv wr => ∃ (i m g : Nat),i + m = n ∧ iv = .int .i64 (i : Int) ∧ hv = .int .u32 (g : Int) ∧ (0 < m → g = Nt.under f n k (m - 1)) ∧ Nt.Lim wr b o n (Nt.from f (Nt.dn f n k) m n) ∧ Nt.Only b o n w wr) (fun _ iv _ => n - (intOf iv).toNat)
  case atStart =>
    refine ⟨0,n,0,by omega,rfl,rfl,?_,?_,Nt.Only.refl _ _ _ _⟩
    · intro h0
      unfold Nt.under
      rw [if_neg (by omega)]
    · have : Nt.from f (Nt.dn f n k) n n = f := by funext j; unfold Nt.from; rw [if_neg (by omega)]
      rw [this]; exact hx
  case round =>
  obtain ⟨i,m,g,him,rfl,rfl,hgm,hL,hO⟩ := hrel
  obtain ⟨w2,rfl⟩ : ∃ w2,w2 = wr := ⟨_,rfl⟩
  by_cases hin : i < n
  · have hiz : (i : Int) < (n : Int) := by omega
    obtain ⟨a,rfl⟩ : ∃ a,m = a + 1 := ⟨m - 1,by omega⟩
    have han : a < n := by omega
    have haz : (a : Int) < (n : Int) := by omega
    have haz0 : 0 ≤ (a : Int) := by omega
    have hat : (n : Int) - 1 - (i : Int) = (a : Int) := by omega
    have haw : wrap64 (a : Int) = (a : Int) := by unfold wrap64; omega
    have hn1 : wrap64 ((n : Int) - 1) = (n : Int) - 1 := by unfold wrap64; omega
    have cx2 := hL.cell a han
    have fx2 := hL.fro a han
    have exi : Nt.from f (Nt.dn f n k) (a + 1) n a = f a := by unfold Nt.from; rw [if_neg (by omega)]
    rw [exi] at cx2
    have hul := Nt.dn_lt f n k a (by have := HK.out.1; omega) (hx.dig a)
    have hor := Nt.dn_or f n k a (by have := HK.out.1; omega) (hx.dig a)
    have hL3 := hL.set a _ han hul
    rw [Nt.from_upd _ _ _ _ han] at hL3
    have hO3 := hO.trans (Nt.Only.set w2 a (.int .u32 ((Nt.dn f n k a : Nat) : Int)) han)
    have hnx : Nt.under f n k (a - 1) = f a * 2 ^ t % 4294967296 ∨ a = 0 := by
      by_cases h0 : a = 0
      · exact .inr h0
      · left
        unfold Nt.under
        rw [if_pos (by omega),show a - 1 + 1 = a by omega,HK.out.2]
    have dx := hx.dig a
    have hl32 := Nt.under_lt f n k a
    have e1 : a + 1 - 1 = a := by omega
    have hgm := hgm (by omega)
    rw [e1] at hgm
    subst hgm
    obtain ⟨u,hu⟩ : ∃ u,Nt.dn f n k a = u := ⟨_,rfl⟩
    obtain ⟨l,hl⟩ : ∃ l,Nt.under f n k a = l := ⟨_,rfl⟩
    obtain ⟨x,ex⟩ : ∃ x,f a = x := ⟨_,rfl⟩
    rw [hu] at hor hL3 hO3
    rw [hl] at hor hl32 ⊢
    rw [ex] at cx2 dx hor hnx
    have hd32 : x / 2 ^ k < 4294967296 := Nat.lt_of_le_of_lt (Nat.div_le_self _ _) dx
    have k1 : IntKind.u32.wrap ((x : Int) * 2 ^ t) = ((x * 2 ^ t % 4294967296 : Nat) : Int) := Nt.u32_eq _ _ (by simp)
    have k1b : (x : Int) * 2 ^ t % 4294967296 = ((x * 2 ^ t % 4294967296 : Nat) : Int) := by simp
    have k3 : (x : Int) / 2 ^ k = ((x / 2 ^ k : Nat) : Int) := by simp
    obtain ⟨s,hs⟩ : ∃ s,x * 2 ^ t % 4294967296 = s := ⟨_,rfl⟩
    rw [hs] at k1 k1b hnx
    obtain ⟨h,hh⟩ : ∃ h,x / 2 ^ k = h := ⟨_,rfl⟩
    rw [hh] at k3 hor hd32
    have k2 : bits .or .u32 (h : Int) (l : Int) = (u : Int) := by rw [u32_or_nat _ _ hd32 hl32,hor]
    have HH := Lib.hid (And.intro hnx (And.intro hL3 hO3))
    clear hor hL3 hO3 hnx hu hl ex hs hh hd32 hl32 dx hul hL hO exi e1
    go_wp2_with fail
    exact ⟨⟨i + 1,a,s,by omega,by go_num,rfl,fun h0 => (HH.out.1.resolve_right (by omega)).symm,HH.out.2.1,HH.out.2.2⟩,by simp [intOf]; omega⟩
  · have hie : m = 0 := by omega
    have hiz : ¬ (i : Int) < (n : Int) := by omega
    rw [hie] at hL
    clear hie hgm
    go_wp2_with fail
    go_end0
    exact ⟨rfl,hL,hO⟩
set_option maxHeartbeats 1000000 in
set_option maxRecDepth 100000 in
theorem Nt.trimmed_any (w : World) (b o n c : Nat) (f : Nat → Nat) (hx : Nt.Lim w b o n f) (hc : n ≤ c) (hn : c ≤ 1000000) :
    Calls Tryz.prog 124 #[.slice (some ⟨b,o,none⟩) n c] w fun e w' => w' = w ∧ ∃ m,e = .returned (.slice (some ⟨b,o,none⟩) m c) ∧ m ≤ n ∧ (∀ j,m ≤ j → j < n → f j = 0) ∧ (m = 0 ∨ f (m - 1) ≠ 0) := by
  go_enter Tryz.func124,Tryz.ntmps124
  go_wp2_with fail
  go_loop [0] (fun v => ∃ (m : Nat),m ≤ n ∧ v = .slice (some ⟨b,o,none⟩) m c ∧ ∀ j,m ≤ j → j < n → f j = 0) (fun v => match v with | .slice _ m _ => m | _ => 0)
  case atStart => exact ⟨n,Nat.le_refl _,rfl,fun j h1 h2 => by omega⟩
  case round =>
  obtain ⟨m,hm,rfl,hz⟩ := hrel
  by_cases hm0 : m = 0
  · subst hm0
    have HZ := Lib.hid hz
    clear hz
    go_wp2_with fail
    go_ret
    exact ⟨rfl,0,rfl,Nat.zero_le _,HZ.out,.inl rfl⟩
  · obtain ⟨a,rfl⟩ : ∃ a,m = a + 1 := ⟨m - 1,by omega⟩
    have hmz : (0 : Int) < ((a + 1 : Nat) : Int) := by omega
    have ca := hx.cell a (by omega)
    have ea : ((a + 1 : Nat) : Int) - 1 = (a : Int) := by omega
    have ea0 : 0 ≤ (a : Int) := by omega
    have eal : (a : Int) < ((a + 1 : Nat) : Int) := by omega
    have eac : (a : Int) ≤ (c : Int) := by omega
    obtain ⟨x,ex⟩ : ∃ x,f a = x := ⟨_,rfl⟩
    rw [ex] at ca
    have HZ := Lib.hid (And.intro hz ex)
    obtain ⟨m1,hm1⟩ : ∃ m1,a + 1 = m1 := ⟨_,rfl⟩
    rw [hm1] at hmz ea eal hm ⊢
    have haw : wrap64 (a : Int) = (a : Int) := by unfold wrap64; omega
    have HM := Lib.hid hm1
    clear hz ex hm1 hm0
    by_cases hx0 : x = 0
    · subst hx0
      go_wp2_with fail
      refine ⟨⟨a,by have := HM.out; omega,rfl,fun j h1 h2 => ?_⟩,by have := HM.out; show a < m1; omega⟩
      by_cases hj : j = a
      · rw [hj]; exact HZ.out.2
      · exact HZ.out.1 j (by omega) h2
    · have hx0z : ((x : Int) == 0) = false := by rw [beq_eq_false_iff_ne]; omega
      go_wp2_with fail
      go_ret
      exact ⟨rfl,m1,rfl,hm,(by rw [← HM.out]; exact HZ.out.1),.inr (by rw [← HM.out]; show f a ≠ 0; rw [HZ.out.2]; exact hx0)⟩
end
section
open Go.RowKit

theorem Nt.lt_iff (f g : Nat → Nat) (hf : ∀ j,f j < 4294967296) (hg : ∀ j,g j < 4294967296) (i n : Nat) (hi : i < n) (hne : f i ≠ g i) (he : ∀ j,i < j → j < n → f j = g j) : (Vl.val 4294967296 f n < Vl.val 4294967296 g n) ↔ f i < g i := by
  rcases Nat.lt_or_gt_of_ne hne with h | h
  · exact ⟨fun _ => h,fun _ => Nt.lt_of_limb _ (by decide) f g hf i n hi h he⟩
  · have := Nt.lt_of_limb _ (by decide) g f hg i n hi h (fun j h1 h2 => (he j h1 h2).symm)
    omega
theorem Nt.len_iff (f g : Nat → Nat) (hf : ∀ j,f j < 4294967296) (hg : ∀ j,g j < 4294967296) (n m : Nat) (hnm : n ≠ m) (tf : n = 0 ∨ f (n - 1) ≠ 0) (tg : m = 0 ∨ g (m - 1) ≠ 0) : (Vl.val 4294967296 f n < Vl.val 4294967296 g m) ↔ n < m := by
  rcases Nat.lt_or_gt_of_ne hnm with h | h
  · exact ⟨fun _ => h,fun _ => Nt.lt_of_len _ (by decide) f g hf n m h (tg.resolve_left (by omega))⟩
  · have := Nt.lt_of_len _ (by decide) g f hg m n h (tf.resolve_left (by omega))
    omega
set_option maxHeartbeats 1000000 in
set_option maxRecDepth 100000 in
theorem Nt.below_any (w : World) (ax : Option Addr) (bx ox n cx : Nat) (fx : Nat → Nat) (ay : Option Addr) (b' oy m cy : Nat) (fy : Nat → Nat) (hx : 0 < n → ax = some ⟨bx,ox,none⟩ ∧ Nt.Lim w bx ox n fx) (hy : 0 < m → ay = some ⟨b',oy,none⟩ ∧ Nt.Lim w b' oy m fy) (dx : ∀ j,fx j < 4294967296) (dy : ∀ j,fy j < 4294967296)
    (hn : n ≤ 1000000) (hm : m ≤ 1000000) (tx : n = 0 ∨ fx (n - 1) ≠ 0) (ty : m = 0 ∨ fy (m - 1) ≠ 0) :
    Calls Tryz.prog 133 #[.slice ax n cx,.slice ay m cy] w fun e w' => e = .returned (.bool (decide (Vl.val 4294967296 fx n < Vl.val 4294967296 fy m))) ∧ ∃ k,w' = w.drewN k := by
  by_cases hnm : n = m
  · subst hnm
    obtain ⟨R,hR⟩ : ∃ R,decide (Vl.val 4294967296 fx n < Vl.val 4294967296 fy n) = R := ⟨_,rfl⟩
    have HR := Lib.hid hR
    rw [hR]
    clear hR tx ty
    go_enter Tryz.func133,Tryz.ntmps133
    go_wp2_with fail
    go_loopw [19] (fun iv wr => ∃ (i k : Nat),i ≤ n ∧ iv = .int .i64 (i : Int) ∧ (∀ j,n - i ≤ j → j < n → fx j = fy j) ∧ wr = w.drewN k) (fun iv _ => n - (intOf iv).toNat)
    case atStart => exact ⟨0,0,by omega,rfl,fun j h1 h2 => by omega,rfl⟩
    case round =>
    obtain ⟨i,k,hi,rfl,he,hw⟩ := hrel
    obtain ⟨w2,rfl⟩ : ∃ w2,w2 = wr := ⟨_,rfl⟩
    by_cases hin : i < n
    · have hiz : (i : Int) < (n : Int) := by omega
      obtain ⟨rfl,hLx⟩ := hx (by omega)
      obtain ⟨rfl,hLy⟩ := hy (by omega)
      obtain ⟨a,ha⟩ : ∃ a,n - 1 - i = a := ⟨_,rfl⟩
      have han : a < n := by omega
      have haz : (a : Int) < (n : Int) := by omega
      have haz0 : 0 ≤ (a : Int) := by omega
      have hat : (n : Int) - 1 - (i : Int) = (a : Int) := by omega
      have hn1 : wrap64 ((n : Int) - 1) = (n : Int) - 1 := by unfold wrap64; omega
      have haw : wrap64 (a : Int) = (a : Int) := by unfold wrap64; omega
      have cx2 := (hLx.drewN k).cell a han
      have cy2 := (hLy.drewN k).cell a han
      rw [← hw] at cx2 cy2
      have hai : a + i + 1 = n := by omega
      have hlim := Nt.lt_iff fx fy dx dy a n han
      have HE := Lib.hid (And.intro he (And.intro hw (And.intro hai hlim)))
      obtain ⟨x,ex⟩ : ∃ x,fx a = x := ⟨_,rfl⟩
      obtain ⟨y,ey⟩ : ∃ y,fy a = y := ⟨_,rfl⟩
      rw [ex] at cx2
      rw [ey] at cy2
      have HX := Lib.hid (And.intro ex ey)
      clear he hw ha hai hlim ex ey
      by_cases hxy : x = y
      · subst hxy
        go_wp2_with fail
        go_quiet (fail)
        go_wp2_with fail
        refine ⟨⟨i + 1,k + nq,by omega,by go_num,fun j h1 h2 => ?_,?_⟩,by simp [intOf]; omega⟩
        · by_cases hj : j = a
          · rw [hj,HX.out.1,HX.out.2]
          · exact HE.out.1 j (by have := HE.out.2.2.1; omega) h2
        · rw [HE.out.2.1,World.drewN_drewN]
      · have hxyz : ((x : Int) != (y : Int)) = true := by rw [bne_iff_ne]; omega
        have hRR : R = decide (x < y) := by
          rw [← HR.out]
          apply decide_eq_decide.2
          rw [HE.out.2.2.2 (by rw [HX.out.1,HX.out.2]; exact hxy) (fun j h1 h2 => HE.out.1 j (by have := HE.out.2.2.1; omega) h2),HX.out.1,HX.out.2]
        have HRR := Lib.hid hRR
        clear hRR hxy
        go_wp2_with fail
        go_quiet (fail)
        go_wp2_with fail
        go_quiet (fail)
        go_wp2_with fail
        go_ret
        exact ⟨by rw [HRR.out]; rfl,_,by rw [HE.out.2.1,World.drewN_drewN,World.drewN_drewN]⟩
    · have hie : i = n := by omega
      have hiz : ¬ (i : Int) < (n : Int) := by omega
      have hRf : R = false := by
        rw [← HR.out]
        apply decide_eq_false
        rw [Vl.val_congr 4294967296 fx fy n (fun j hj => he j (by omega) hj)]
        omega
      have HRR := Lib.hid hRf
      have HW := Lib.hid hw
      clear hRf he hie hw
      go_wp2_with fail
      go_ret
      exact ⟨by rw [HRR.out]; rfl,k,HW.out⟩
  · have hb := Nt.len_iff fx fy dx dy n m hnm tx ty
    have hR : decide (Vl.val 4294967296 fx n < Vl.val 4294967296 fy m) = decide (n < m) := by
      apply decide_eq_decide.2
      rw [hb]
    rw [hR]
    have hz : ((n : Int) != (m : Int)) = true := by rw [bne_iff_ne]; omega
    clear hb hR hnm tx ty hx hy
    go_enter Tryz.func133,Tryz.ntmps133
    go_wp2_with fail
    go_ret
    exact ⟨rfl,0,rfl⟩
end
end
end Go.Proofs.YthlecdggkolgmaaGreatDoor
