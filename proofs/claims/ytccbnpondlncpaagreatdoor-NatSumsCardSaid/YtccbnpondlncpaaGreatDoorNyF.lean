/- inverseOfByte; montgomery. -/
import Derived.Test.YtccbnpondlncpaaGreatDoorNyE
namespace Go.Proofs.YtccbnpondlncpaaGreatDoor
open Go.RowKit

/-- The byte under way to the inverse of c. -/
def Nt.ib (c : Nat) : Nat → Nat
  | 0 => c
  | i + 1 => Nt.ib c i * ((258 - c * Nt.ib c i % 256) % 256) % 256
theorem Nt.ib_ok : ∀ c : Fin 256, c.val % 2 = 1 → c.val * Nt.ib c.val 2 % 256 = 1 ∧ Nt.ib c.val 2 < 256 := by decide +kernel
theorem Nt.u8_eq (x : Int) (y : Nat) (h : x % 256 = (y : Int)) : IntKind.u8.wrap x = (y : Int) := by
  unfold IntKind.wrap
  simpa [IntKind.bits, IntKind.signed] using h
theorem Nt.inverseOfByte_any (w : World) (c : Nat) (hc : c < 256) :
    Calls Tryz.prog 74 #[.int .u8 (c : Int)] w fun e w' => e = .returned (.int .u8 ((Nt.ib c 2 : Nat) : Int)) ∧ w' = w := by
  go_enter Tryz.func74, Tryz.ntmps74
  go_wp2_with fail
  go_loop [3, 5] (fun xv iv => ∃ (i : Nat), i ≤ 2 ∧ iv = .int .i64 (i : Int) ∧ xv = .int .u8 ((Nt.ib c i : Nat) : Int) ∧ Nt.ib c i < 256) (fun _ iv => 2 - (intOf iv).toNat)
  case atStart => exact ⟨0, by decide, rfl, rfl, hc⟩
  case round =>
  obtain ⟨i, hi, rfl, rfl, hx⟩ := hrel
  by_cases hin : i < 2
  · have hiz : (i : Int) < 2 := by omega
    have hn : Nt.ib c (i + 1) = Nt.ib c i * ((258 - c * Nt.ib c i % 256) % 256) % 256 := rfl
    obtain ⟨x, ex⟩ : ∃ x, Nt.ib c i = x := ⟨_, rfl⟩
    rw [ex] at hx hn ⊢
    obtain ⟨m, hm⟩ : ∃ m, c * x = m := ⟨_, rfl⟩
    obtain ⟨p, hp⟩ : ∃ p, m % 256 = p := ⟨_, rfl⟩
    obtain ⟨q, hq⟩ : ∃ q, (258 - p) % 256 = q := ⟨_, rfl⟩
    obtain ⟨r, hr⟩ : ∃ r, x * q = r := ⟨_, rfl⟩
    obtain ⟨y, hy⟩ : ∃ y, r % 256 = y := ⟨_, rfl⟩
    rw [hm, hp, hq, hr, hy] at hn
    have hmz : (c : Int) * (x : Int) = (m : Int) := by rw [← hm]; simp
    have hrz : (x : Int) * (q : Int) = (r : Int) := by rw [← hr]; simp
    have HN := Lib.hid (And.intro hn (by omega : y < 256))
    have k1 : IntKind.u8.wrap (m : Int) = (p : Int) := Nt.u8_eq _ _ (by omega)
    have k2 : IntKind.u8.wrap (2 - (p : Int)) = (q : Int) := Nt.u8_eq _ _ (by omega)
    have k3 : IntKind.u8.wrap (r : Int) = (y : Int) := Nt.u8_eq _ _ (by omega)
    have j1 : (m : Int) % 256 = (p : Int) := by omega
    have j2 : (2 - (p : Int)) % 256 = (q : Int) := by omega
    have j3 : (r : Int) % 256 = (y : Int) := by omega
    clear hn ex hm hp hq hr hy hc hx
    go_wp2_with fail
    exact ⟨⟨i + 1, by omega, by go_num, by rw [HN.out.1], by rw [HN.out.1]; exact HN.out.2⟩, by simp [intOf]; omega⟩
  · have hie : i = 2 := by omega
    have hiz : ¬ (i : Int) < 2 := by omega
    have HE := Lib.hid hie
    clear hie hx
    go_wp2_with fail
    go_ret
    exact ⟨by rw [HE.out]; rfl, rfl⟩
theorem Nt.mont_dvd (X md q tb u c : Nat) (hX : X % 256 = tb) (hm : md % 256 = c) (hq : tb * u % 256 = q) (hu : (1 + u * c) % 256 = 0) : (X + q * md) % 256 = 0 := by
  have e1 : q * md % 256 = tb * u * c % 256 := by rw [← hq, ← hm, Nat.mod_mul_mod, Nat.mul_mod_mod]
  have e2 : tb + tb * u * c = tb * (1 + u * c) := by rw [Nat.mul_add, Nat.mul_one, Nat.mul_assoc]
  have e3 : (tb + tb * u * c) % 256 = 0 := by rw [e2, Nat.mul_mod, hu, Nat.mul_zero, Nat.zero_mod]
  rw [Nat.add_mod, hX, e1, Nat.add_mod_mod]
  exact e3
theorem Nt.mont_u (c v : Nat) (h : c * v % 256 = 1) (hv : v < 256) : (1 + (256 - v) % 256 * c) % 256 = 0 := by
  have hv0 : 0 < v := by
    rcases Nat.eq_zero_or_pos v with h0 | h0
    · rw [h0, Nat.mul_zero] at h; exact absurd h (by decide)
    · exact h0
  rw [Nat.mod_eq_of_lt (by omega : 256 - v < 256)]
  have e : (256 - v) * c + v * c = 256 * c := by rw [← Nat.add_mul, Nat.sub_add_cancel (by omega)]
  rw [Nat.mul_comm c v] at h
  omega
theorem Nt.mont_step (X md q i R : Nat) (hX : X < md) (hq : q < 256) (hd : (X + q * md) % 256 = 0) (hR : X * 256 ^ i % md = R) : (X + q * md) / 256 < md ∧ (X + q * md) / 256 * 256 ^ (i + 1) % md = R := by
  constructor
  · refine Nat.div_lt_of_lt_mul ?_
    have : q * md ≤ 255 * md := Nat.mul_le_mul_right _ (by omega)
    omega
  · have e : (X + q * md) / 256 * 256 = X + q * md := Nat.div_mul_cancel (Nat.dvd_of_mod_eq_zero hd)
    rw [Nat.pow_succ, Nat.mul_comm (256 ^ i), ← Nat.mul_assoc, e, Nat.add_mul, Nat.mul_right_comm q md, Nat.add_mul_mod_self_right]
    exact hR
theorem Nt.low_byte (f : Nat → Nat) (hf : ∀ j, f j < 4294967296) (n : Nat) (hn : 0 < n) : Vl.val 4294967296 f n % 256 = f 0 % 256 := by
  obtain ⟨m, rfl⟩ : ∃ m, n = 1 + m := ⟨n - 1, by omega⟩
  rw [Nt.val_split]
  have e : Vl.val 4294967296 f 1 = f 0 := by simp [Vl.val]
  rw [e, Nat.pow_one]
  have := hf 0
  omega
set_option maxHeartbeats 1000000 in
set_option maxRecDepth 100000 in
theorem Nt.montgomery_zero (w : World) (ok : Nt.Ok w) (v0 v1 : Value) (az : Option Addr) (cz : Nat) :
    Calls Tryz.prog 51 #[v0, v1, .slice az 0 cz] w fun e w' => ∃ v, e = .returned (.tuple #[.slice none 0 0, v]) ∧ Nt.Err w' v 31 ∧ Below w.heap.size w w' := by
  obtain ⟨a, hv⟩ := ok 31 (by decide) (by decide)
  have hc : w.cell? ⟨2, 0, none⟩ = some (.iface 142 (.pointer (some a))) := hv.var
  have HV := Lib.hid hv
  clear hv ok
  go_enter Tryz.func51, Tryz.ntmps51
  go_wp2_with fail
  go_quiet (fail)
  go_wp2_with fail
  go_ret2
  exact ⟨_, rfl, .inr ⟨by decide, by decide, a, rfl, HV.out.below (Tx.drewNb w _)⟩, Tx.drewNb w _⟩
set_option maxHeartbeats 1000000 in
set_option maxRecDepth 100000 in
theorem Nt.montgomery_even (w : World) (ok : Nt.Ok w) (v0 v1 : Value) (az : Option Addr) (l cz md : Nat) (hz : Nt.Num w az l cz md) (hmd : 0 < md) (hl : l ≤ 100000) (he : md % 2 = 0) :
    Calls Tryz.prog 51 #[v0, v1, .slice az l cz] w fun e w' => ∃ v, e = .returned (.tuple #[.slice none 0 0, v]) ∧ Nt.Err w' v 34 ∧ Below w.heap.size w w' := by
  have hl0 : l ≠ 0 := fun h => by have := hz.zero.1 h; omega
  have hlz : ((l : Int) == 0) = false := by rw [beq_eq_false_iff_ne]; omega
  have hB := Nt.bit_any w az l cz md 0 hz (by omega) (by omega)
  rw [Nat.pow_zero, Nat.div_one, he] at hB
  obtain ⟨a, hv⟩ := ok 34 (by decide) (by decide)
  have hc : w.cell? ⟨4, 0, none⟩ = some (.iface 142 (.pointer (some a))) := hv.var
  have HV := Lib.hid hv
  have HB := Lib.hid hB
  clear hv ok hB hz hl0 he
  go_enter Tryz.func51, Tryz.ntmps51
  go_wp2_with fail
  go_at_call 72
  refine Calls.mono HB.out ?_
  rintro e1 w1 ⟨rfl, rfl⟩
  go_wp2_with fail
  go_quiet (fail)
  go_wp2_with fail
  go_ret2
  exact ⟨_, rfl, .inr ⟨by decide, by decide, a, rfl, HV.out.below (Tx.drewNb _ _)⟩, Tx.drewNb _ _⟩
set_option maxHeartbeats 2000000 in
set_option maxRecDepth 100000 in
theorem Nt.montgomery_any (w : World) (ax ay az : Option Addr) (n cx a m cy b l cz md : Nat) (hx : Nt.Num w ax n cx a) (hy : Nt.Num w ay m cy b) (hz : Nt.Num w az l cz md) (hmd : 0 < md) (hodd : md % 2 = 1) (hn : n ≤ 100000) (hm : m ≤ 100000) (hl : l ≤ 100000) :
    Calls Tryz.prog 51 #[.slice ax n cx, .slice ay m cy, .slice az l cz] w fun e' w' => ∃ av k c R, e' = .returned (.tuple #[.slice av k c, .nilIface]) ∧ Nt.Num w' av k c R ∧ R < md ∧ R * 256 ^ Nt.by md % md = a * b % md ∧ Below w.heap.size w w' := by
  have hl0 : l ≠ 0 := fun h => by have := hz.zero.1 h; omega
  have hlz : ((l : Int) == 0) = false := by rw [beq_eq_false_iff_ne]; omega
  have hlz1 : (0 : Int) < (l : Int) := by omega
  have hB := Nt.bit_any w az l cz md 0 hz (by omega) (by omega)
  rw [Nat.pow_zero, Nat.div_one, hodd] at hB
  have hlt := hz.lt
  obtain ⟨_, bz, oz, fz, hLz, dz, hvz, _⟩ := id hz
  obtain ⟨rfl, hLz2⟩ := hLz (by omega)
  have c0 := hLz2.cell 0 (by omega)
  rw [Nat.add_zero] at c0
  have dz0 := dz 0
  have hlow := Nt.low_byte fz dz l (by omega)
  rw [hvz] at hlow
  obtain ⟨t0, et0⟩ : ∃ t0, fz 0 = t0 := ⟨_, rfl⟩
  rw [et0] at c0 hlow dz0
  obtain ⟨c, hc⟩ : ∃ c, t0 % 256 = c := ⟨_, rfl⟩
  rw [hc] at hlow
  have hcb : c < 256 := by omega
  have hib := Nt.ib_ok ⟨c, hcb⟩ (by show c % 2 = 1; omega)
  obtain ⟨v, hv⟩ : ∃ v, Nt.ib c 2 = v := ⟨_, rfl⟩
  have hI := fun W : World => Nt.inverseOfByte_any W c hcb
  rw [hv] at hI
  have hib1 : c * v % 256 = 1 := by rw [← hv]; exact hib.1
  have hib2 : v < 256 := by rw [← hv]; exact hib.2
  have hu := Nt.mont_u c v hib1 hib2
  obtain ⟨u, eu⟩ : ∃ u, (256 - v) % 256 = u := ⟨_, rfl⟩
  rw [eu] at hu
  have hub : u < 256 := by omega
  obtain ⟨L1, hL1⟩ : ∃ L1, l + 1 = L1 := ⟨_, rfl⟩
  have hL1z : (l : Int) + 1 = (L1 : Int) := by omega
  obtain ⟨D, hD⟩ : ∃ D, Nt.dig md = D := ⟨_, rfl⟩
  obtain ⟨Y, hY⟩ : ∃ Y, Nt.by md = Y := ⟨_, rfl⟩
  obtain ⟨D7, hD7⟩ : ∃ D7, D + 7 = D7 := ⟨_, rfl⟩
  have hDb : D ≤ 32 * l := by rw [← hD]; exact Nt.dig_of_lt md (32 * l) (by rw [Nat.pow_mul]; exact hlt)
  have hq : (D7 : Int) / 8 = (Y : Int) := by rw [← hY, ← hD7, ← hD]; unfold Nt.by; omega
  have hD7z : (D : Int) + 7 = (D7 : Int) := by omega
  have hDbz : (D : Int) ≤ 3200000 := by omega
  have hD7b : (D7 : Int) ≤ 3200007 := by omega
  have hYb : (Y : Int) ≤ 3200007 := by omega
  have hL1b : (L1 : Int) ≤ 100001 := by omega
  have hbd := Nt.bits_any
  have H0 := Lib.hid (And.intro hx (And.intro hy (And.intro hz (And.intro hmd (And.intro hn (And.intro hm (And.intro hl (And.intro hlt (And.intro hlow (And.intro hu (And.intro hL1 (And.intro hD (And.intro hY hl0)))))))))))))
  have HI := Lib.hid (And.intro hB hI)
  rw [hY]
  have k1 : IntKind.u8.wrap (t0 : Int) = (c : Int) := Nt.u8_eq _ _ (by omega)
  have j1 : (t0 : Int) % 256 = (c : Int) := by omega
  have k2 : IntKind.u8.wrap (-(v : Int)) = (u : Int) := Nt.u8_eq _ _ (by omega)
  have j2 : (-(v : Int)) % 256 = (u : Int) := by omega
  clear hx hy hz hmd hn hm hl hlt hlow hu hL1 hD hY hl0 hB hI hLz hLz2 dz hvz et0 hc hib hv hib1 hib2 eu hD7 hDb hodd hbd dz0
  go_enter Tryz.func51, Tryz.ntmps51
  go_wp2_with (first | (go_at_call 72; (with_reducible refine Calls.mono HI.out.1 ?_); rintro e1 w1 ⟨rfl, rfl⟩) | (go_at_call 74; (with_reducible refine Calls.mono (HI.out.2 _) ?_); rintro e1 w1 ⟨rfl, rfl⟩))
  clear c0 k1 j1 k2 j2
  go_at_call 55
  refine Calls.mono (Nt.widened_num w1 (some ⟨bz, oz, none⟩) l cz md L1 H0.out.2.2.1 (by have := H0.out; omega) (by omega)) ?_
  rintro e2 w2 ⟨g1, f1, rfl, hg1, hL, hv1, _, hb2⟩
  have H2 := Lib.hid (And.intro hg1 (And.intro hL (And.intro hv1 hb2)))
  clear hg1 hL hv1 hb2
  go_wp2_with fail
  go_at_call 71
  refine Calls.mono (Nt.times_any w2 ax ay (some ⟨bz, oz, none⟩) n cx a m cy b l cz md (H0.out.1.below H2.out.2.2.2) (H0.out.2.1.below H2.out.2.2.2) (H0.out.2.2.1.below H2.out.2.2.2) H0.out.2.2.2.1 (by have := H0.out; omega) (by have := H0.out; omega) (by have := H0.out; omega)) ?_
  rintro e3 w3 ⟨xv, kx, cx', rfl, h3, hb3⟩
  have hkl : kx ≤ l := h3.mono2 H0.out.2.2.1 (Nat.le_of_lt (Nat.mod_lt _ H0.out.2.2.2.1))
  have H3 := Lib.hid (And.intro h3 (And.intro hb3 hkl))
  clear h3 hb3 hkl
  go_wp2_with fail
  go_at_call 55
  refine Calls.mono (Nt.widened_num w3 xv kx cx' (a * b % md) L1 H3.out.1 (by have := H0.out; have := H3.out.2.2; omega) (by omega)) ?_
  rintro e4 w4 ⟨g2, f2, rfl, hg2, hL2, hv2, _, hb4⟩
  have hg12 : g1 < g2 := Nat.lt_of_lt_of_le H2.out.2.1.lt (Nat.le_trans H3.out.2.1.size hg2)
  have hB4 : Below w1.heap.size w1 w4 := (H2.out.2.2.2.trans (H3.out.2.1.mono H2.out.2.2.2.size)).trans (hb4.mono (Nat.le_trans H2.out.2.2.2.size H3.out.2.1.size))
  have hL14 : Nt.Lim w4 g1 0 L1 f1 := (H2.out.2.1.below H3.out.2.1 H2.out.2.1.lt).below hb4 (Nat.lt_of_lt_of_le H2.out.2.1.lt H3.out.2.1.size)
  have H4 := Lib.hid (And.intro hL2 (And.intro hv2 (And.intro hg12 (And.intro hB4 hL14))))
  have HG := Lib.hid H2.out.1
  clear hg2 hL2 hv2 hb4 hg12 hB4 hL14
  go_wp2_with fail
  go_at_call 61
  have HBt := Nt.bits_any w4 (some ⟨bz, oz, none⟩) l cz md (H0.out.2.2.1.below H4.out.2.2.2.1) (by have := H0.out; omega)
  rw [H0.out.2.2.2.2.2.2.2.2.2.2.2.1] at HBt
  have HBt := Lib.hid HBt
  refine Calls.mono HBt.out ?_
  rintro e5 w5 ⟨rfl, rfl⟩
  clear HBt
  go_wp2_with fail
  go_loopw [42] (fun iv wr => ∃ (i : Nat) (f : Nat → Nat), i ≤ Y ∧ iv = .int .i64 (i : Int) ∧ Nt.Lim wr g1 0 L1 f1 ∧ Nt.Lim wr g2 0 L1 f ∧ Vl.val 4294967296 f L1 < md ∧ Vl.val 4294967296 f L1 * 256 ^ i % md = a * b % md ∧ Below w1.heap.size w1 wr) (fun iv _ => Y - (intOf iv).toNat)
  case atStart => exact ⟨0, f2, Nat.zero_le _, rfl, H4.out.2.2.2.2, H4.out.1, by rw [H4.out.2.1]; exact Nat.mod_lt _ H0.out.2.2.2.1, by rw [H4.out.2.1, Nat.pow_zero, Nat.mul_one, Nat.mod_mod], H4.out.2.2.2.1⟩
  case round =>
  obtain ⟨i, f, hi, rfl, hLw, hLx, hXl, hXm, hB⟩ := hrel
  obtain ⟨w6, rfl⟩ : ∃ w6, w6 = wr := ⟨_, rfl⟩
  have hall := H0.out
  have hL1 := hall.2.2.2.2.2.2.2.2.2.2.1
  by_cases hin : i < Y
  · have hiz : (i : Int) < (Y : Int) := by omega
    have cx0 := hLx.cell 0 (by omega)
    have df0 := hLx.dig 0
    have hlow := Nt.low_byte f hLx.dig L1 (by omega)
    rw [Nat.add_zero] at cx0
    obtain ⟨t, et⟩ : ∃ t, f 0 = t := ⟨_, rfl⟩
    rw [et] at cx0 df0 hlow
    obtain ⟨tb, htb⟩ : ∃ tb, t % 256 = tb := ⟨_, rfl⟩
    rw [htb] at hlow
    obtain ⟨r, hr⟩ : ∃ r, tb * u = r := ⟨_, rfl⟩
    obtain ⟨q, hqq⟩ : ∃ q, r % 256 = q := ⟨_, rfl⟩
    have hqb : q < 256 := by omega
    have hd := Nt.mont_dvd (Vl.val 4294967296 f L1) md q tb u c hlow hall.2.2.2.2.2.2.2.2.1 (by rw [hr]; exact hqq) hall.2.2.2.2.2.2.2.2.2.1
    have hst := Nt.mont_step (Vl.val 4294967296 f L1) md q i (a * b % md) hXl hqb hd hXm
    have hA := Nt.addTimes_any w6 g2 0 L1 L1 f g1 0 L1 L1 f1 q hLx hLw (Nat.le_refl _) (by omega) (by omega) (by have := H4.out.2.2.1; omega)
    rw [H2.out.2.2.1] at hA
    have hXX : Vl.val 4294967296 f L1 + q * md < 4294967296 ^ L1 := by
      have h1 : q * md ≤ 255 * md := Nat.mul_le_mul_right _ (by omega)
      have h2 := hall.2.2.2.2.2.2.2.1
      have hP : 4294967296 ^ L1 = 4294967296 ^ l * 4294967296 := by rw [← hL1, Nat.pow_succ]
      rw [hP]
      clear hst hXm hd
      omega
    have hrz : (tb : Int) * (u : Int) = (r : Int) := by rw [← hr]; simp
    have HA := Lib.hid hA
    have HV := Lib.hid (And.intro hLw (And.intro hLx (And.intro hst (And.intro hXX hB))))
    have k3 : IntKind.u8.wrap (t : Int) = (tb : Int) := Nt.u8_eq _ _ (by omega)
    have j3 : (t : Int) % 256 = (tb : Int) := by omega
    have k4 : IntKind.u8.wrap (r : Int) = (q : Int) := Nt.u8_eq _ _ (by omega)
    have j4 : (r : Int) % 256 = (q : Int) := by omega
    have k5 : IntKind.u32.wrap (q : Int) = (q : Int) := Nt.u32_eq _ _ (by omega)
    clear hLw hLx hXl hXm hB et htb hr hqq hd hst hA hXX hlow hall hL1 df0
    go_wp2_with fail
    go_at_call 56
    refine Calls.mono HA.out ?_
    rintro e7 w7 ⟨cc, fo, rfl, hcb2, hLo, hvo, _, hO⟩
    have hc0 : cc = 0 := by
      rcases Nat.eq_zero_or_pos cc with h | h
      · exact h
      · have h5 : 4294967296 ^ L1 ≤ cc * 4294967296 ^ L1 := Nat.le_mul_of_pos_left _ h
        have := HV.out.2.2.2.1
        omega
    rw [hc0, Nat.zero_mul, Nat.add_zero] at hvo
    have hMD := Lib.hid (Nt.moveDown_any w7 g2 0 L1 L1 fo 8 hLo (by omega) (by decide))
    have hLw7 := HV.out.1.only hO (by have := H4.out.2.2.1; omega)
    have hB7 := HV.out.2.2.2.2.trans (hO.below (B := w1.heap.size) (by have := H4.out.2.2.1; have := HG.out; omega) HV.out.2.2.2.2.size)
    have H7 := Lib.hid (And.intro hLw7 (And.intro hB7 hvo))
    clear hc0 hcb2 hLo hvo hO hLw7 hB7
    go_wp2_with fail
    go_at_call 75
    refine Calls.mono hMD.out ?_
    rintro e8 w8 ⟨rfl, hL8, hO8⟩
    have hv8 := Nt.down_value fo 8 L1 (by decide)
    rw [H7.out.2.2] at hv8
    have hLw8 := H7.out.1.only hO8 (by have := H4.out.2.2.1; omega)
    have hB8 := H7.out.2.1.trans (hO8.below (B := w1.heap.size) (by have := H4.out.2.2.1; have := HG.out; omega) H7.out.2.1.size)
    have H8 := Lib.hid (And.intro hL8 (And.intro hv8 (And.intro hLw8 hB8)))
    clear hL8 hO8 hv8 hLw8 hB8 hMD
    go_wp2_with fail
    exact ⟨⟨i + 1, _, by omega, by go_num, H8.out.2.2.1, H8.out.1, by rw [H8.out.2.1]; exact HV.out.2.2.1.1, by rw [H8.out.2.1]; exact HV.out.2.2.1.2, H8.out.2.2.2⟩, by simp [intOf]; omega⟩
  · have hie : i = Y := by omega
    have hiz : ¬ (i : Int) < (Y : Int) := by omega
    rw [hie] at hXm
    have HT := Lib.hid (And.intro (Nt.trimmed_any w6 g2 0 L1 L1 f hLx (Nat.le_refl _) (by omega)) (And.intro hLx (And.intro hXl (And.intro hXm hB))))
    clear hLw hLx hXl hXm hB hie hall hL1
    go_wp2_with fail
    go_at_call 57
    refine Calls.mono HT.out.1 ?_
    rintro e10 w10 ⟨rfl, k1, rfl, hk1, hz1, ht1⟩
    have HK := Lib.hid (And.intro hk1 (And.intro hz1 ht1))
    clear hk1 hz1 ht1
    go_wp2_with fail
    go_ret2
    exact ⟨_, _, _, _, rfl, Nt.Num.of HT.out.2.1 HK.out.1 HK.out.1 HK.out.2.1 HK.out.2.2, HT.out.2.2.1, HT.out.2.2.2.1, HT.out.2.2.2.2⟩
end Go.Proofs.YtccbnpondlncpaaGreatDoor
