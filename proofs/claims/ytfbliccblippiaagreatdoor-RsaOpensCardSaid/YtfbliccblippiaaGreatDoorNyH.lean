/- Pow, Mont, Inv. -/
import Derived.Test.YtfbliccblippiaaGreatDoorNyA
import Derived.Test.YtfbliccblippiaaGreatDoorNtV
import Derived.Great.BuildSlice
import Derived.Deep.LoopGhost
namespace Go.Proofs.YtfbliccblippiaaGreatDoor
section
section
section
open Go.RowKit

theorem Nt.Num.one {w : World} {b : Nat} {T : TypeId} (h : w.heap[b]? = some (.cells #[Value.int .u32 1] T (0, 0))) : Nt.Num w (some ⟨b, 0, none⟩) 1 1 1 := by
  have hl : Nt.Lim w b 0 1 (fun j => if j = 0 then 1 else 0) := by
    refine ⟨fun j hj => ?_, fun j hj => ?_, fun j => ?_, (Array.getElem?_eq_some_iff.1 h).1⟩
    · obtain rfl : j = 0 := by omega
      simp [World.cell?, h]
    · simp [World.frozen?, h]
    · split <;> decide
  exact ⟨Nat.le_refl _, b, 0, _, fun _ => ⟨rfl, hl⟩, hl.dig, by simp [Vl.val], .inr (by decide)⟩
theorem Nt.Num.mono2 {w w2 : World} {ax ay : Option Addr} {n cx x m cy y : Nat} (h : Nt.Num w ax n cx x) (g : Nt.Num w2 ay m cy y) (hxy : x ≤ y) : n ≤ m := h.len m (Nat.lt_of_le_of_lt hxy g.lt)
theorem Nt.pow_two (a md q b : Nat) (hb : b < 2) : (if b = 1 then (a ^ q % md) * (a ^ q % md) % md * a % md else (a ^ q % md) * (a ^ q % md) % md) = a ^ (2 * q + b) % md := by
  have h1 : (a ^ q % md) * (a ^ q % md) % md = a ^ (2 * q) % md := by
    rw [← Nat.mul_mod, ← Nat.pow_add, show q + q = 2 * q by omega]
  rw [h1]
  by_cases h : b = 1
  · rw [if_pos h, h, Nat.pow_succ]
    rw [Nat.mod_mul_mod]
  · rw [if_neg h, show b = 0 by omega, Nat.add_zero]
theorem Nt.half (e k : Nat) : e / 2 ^ k = 2 * (e / 2 ^ (k + 1)) + e / 2 ^ k % 2 := by
  rw [Nat.pow_succ, ← Nat.div_div_eq_div_mul]
  omega
set_option maxHeartbeats 1000000 in
set_option maxRecDepth 100000 in
theorem Nt.power_zero (w : World) (ok : Nt.Ok w) (v0 v1 : Value) (az : Option Addr) (cz : Nat) :
    Calls Tryz.prog 87 #[v0, v1, .slice az 0 cz] w fun e w' => ∃ v, e = .returned (.tuple #[.slice none 0 0, v]) ∧ Nt.Err w' v 31 ∧ Below w.heap.size w w' := by
  obtain ⟨a, hv⟩ := ok 31 (by decide) (by decide)
  have hc : w.cell? ⟨6, 0, none⟩ = some (.iface 217 (.pointer (some a))) := hv.var
  have HV := Lib.hid hv
  clear hv ok
  go_enter Tryz.func87, Tryz.ntmps87
  go_wp2_with fail
  go_quiet (fail)
  go_wp2_with fail
  go_ret2
  exact ⟨_, rfl, .inr ⟨by decide, by decide, a, rfl, HV.out.below (Tx.drewNb w _)⟩, Tx.drewNb w _⟩
set_option maxHeartbeats 2000000 in
set_option maxRecDepth 100000 in
theorem Nt.power_any (w : World) (ax ay az : Option Addr) (n cx a m cy e l cz md : Nat) (hx : Nt.Num w ax n cx a) (hy : Nt.Num w ay m cy e) (hz : Nt.Num w az l cz md) (hmd : 0 < md) (hn : n ≤ 100000) (hm : m ≤ 100000) (hl : l ≤ 100000) :
    Calls Tryz.prog 87 #[.slice ax n cx, .slice ay m cy, .slice az l cz] w fun e' w' => ∃ av k c, e' = .returned (.tuple #[.slice av k c, .nilIface]) ∧ Nt.Num w' av k c (a ^ e % md) ∧ Below w.heap.size w w' := by
  have hl0 : ((l : Int) == 0) = false := by
    rw [beq_eq_false_iff_ne]
    intro h
    have := hz.zero.1 (by omega)
    omega
  obtain ⟨D, hD⟩ : ∃ D, Nt.dig e = D := ⟨_, rfl⟩
  have hDm : D ≤ 32 * m := by rw [← hD]; exact Nt.dig_of_lt e (32 * m) (by rw [Nat.pow_mul]; exact hy.lt)
  have hDe : e < 2 ^ D := by rw [← hD]; exact Nt.dig_lt e
  have H0 := Lib.hid (And.intro hx (And.intro hy (And.intro hz (And.intro hmd (And.intro hn (And.intro hm (And.intro hl (And.intro hD (And.intro hDm hDe)))))))))
  have hDb : (D : Int) ≤ 3200000 := by omega
  clear hx hy hz hmd hn hm hl hD hDm hDe
  go_enter Tryz.func87, Tryz.ntmps87
  go_wp2_with fail
  go_at_call 123
  refine Calls.mono (Nt.leftOf_any w ax az n cx a l cz md H0.out.1 H0.out.2.2.1 H0.out.2.2.2.1 (by have := H0.out; omega) (by have := H0.out; omega)) ?_
  rintro e1 w1 ⟨bx, k1, c1, rfl, h1, hb1⟩
  have H1 := Lib.hid (And.intro h1 hb1)
  clear h1 hb1
  go_wp2_with fail
  go_at_call 123
  have hB1 : Below w1.heap.size w1 (w1.alloc (Obj.cells #[Value.int IntKind.u32 1] 121)) := (Below.refl _ _).alloc (Nat.le_refl _) _
  refine Calls.mono (Nt.leftOf_any (w1.alloc (Obj.cells #[Value.int IntKind.u32 1] 121)) (some ⟨w1.heap.size, 0, none⟩) az 1 1 1 l cz md (Nt.Num.one (heap_alloc_new _ _)) ((H0.out.2.2.1.below H1.out.2).below hB1) H0.out.2.2.2.1 (by decide) (by have := H0.out; omega)) ?_
  rintro e2 w2 ⟨xx, kx, c2, rfl, h2, hb2⟩
  have hB2 : Below w.heap.size w w2 := (H1.out.2.trans (hB1.mono H1.out.2.size)).trans (hb2.mono (Nat.le_trans H1.out.2.size hB1.size))
  have H2 := Lib.hid (And.intro h2 (And.intro hB2 ((H1.out.1.below hB1).below hb2)))
  clear h2 hB2 hB1 hb2
  go_wp2_with fail
  go_at_call 103
  have HBt := Nt.bits_any w2 ay m cy e (H0.out.2.1.below H2.out.2.1) (by have := H0.out; omega)
  rw [H0.out.2.2.2.2.2.2.2.1] at HBt
  have HBt := Lib.hid HBt
  refine Calls.mono HBt.out ?_
  rintro e3 w3 ⟨rfl, rfl⟩
  clear HBt
  go_wp2_with fail
  go_loopw [8, 24] (fun xv iv wr => ∃ (i : Nat) (av : Option Addr) (k c : Nat), i ≤ D ∧ xv = .slice av k c ∧ iv = .int .i64 (i : Int) ∧ Nt.Num wr av k c ((a % md) ^ (e / 2 ^ (D - i)) % md) ∧ Below w3.heap.size w3 wr) (fun _ iv _ => D - (intOf iv).toNat)
  case atStart => exact ⟨0, _, _, _, Nat.zero_le _, rfl, rfl, by rw [Nat.sub_zero, Nat.div_eq_of_lt H0.out.2.2.2.2.2.2.2.2.2, Nat.pow_zero]; exact H2.out.1, Below.refl _ _⟩
  case round =>
  obtain ⟨i, av, k, c, hi, rfl, rfl, hN, hB⟩ := hrel
  obtain ⟨w4, rfl⟩ : ∃ w4, w4 = wr := ⟨_, rfl⟩
  have hall := H0.out
  by_cases hin : i < D
  · have hiz : (i : Int) < (D : Int) := by omega
    obtain ⟨D1, hD1⟩ : ∃ D1, D - 1 = D1 := ⟨_, rfl⟩
    obtain ⟨q, hq⟩ : ∃ q, D1 - i = q := ⟨_, rfl⟩
    have hD1z : (D : Int) - 1 = (D1 : Int) := by omega
    have hqz : (D1 : Int) - (i : Int) = (q : Int) := by omega
    have hD1b : (D1 : Int) ≤ 3200000 := by omega
    have hqb : (q : Int) ≤ 3200000 := by omega
    have hq0 : 0 ≤ (q : Int) := by omega
    have hq1 : D - i = q + 1 := by omega
    have hq2 : D - (i + 1) = q := by omega
    have hq3 : q < 32 * m := by omega
    rw [hq1] at hN
    have hlt : (a % md) ^ (e / 2 ^ (q + 1)) % md < md := Nat.mod_lt _ hall.2.2.2.1
    have hkl := hN.mono2 hall.2.2.1 (Nat.le_of_lt hlt)
    obtain ⟨X, hX⟩ : ∃ X, (a % md) ^ (e / 2 ^ (q + 1)) % md = X := ⟨_, rfl⟩
    have hstep := Nt.pow_two (a % md) md (e / 2 ^ (q + 1)) (e / 2 ^ q % 2) (Nat.mod_lt _ (by decide))
    rw [← Nt.half, hX] at hstep
    rw [hX] at hN
    obtain ⟨b, hb⟩ : ∃ b, e / 2 ^ q % 2 = b := ⟨_, rfl⟩
    have hb2 : b < 2 := by rw [← hb]; exact Nat.mod_lt _ (by decide)
    rw [hb] at hstep
    have hBw : Below w.heap.size w w4 := H2.out.2.1.trans (hB.mono H2.out.2.1.size)
    have HV := Lib.hid (And.intro hN (And.intro hB (And.intro hkl (And.intro hb (And.intro hstep (And.intro hq2 (And.intro hq3 hBw)))))))
    have hzz := hall.2.2.1.below hBw
    have HT := Lib.hid (Nt.times_any w4 av av az k c X k c X l cz md hN hN hzz hall.2.2.2.1 (by omega) (by omega) (by omega))
    clear hN hB hkl hb hstep hq1 hq2 hq3 hX hlt hD1 hq hBw hzz hall
    go_wp2_with fail
    go_at_call 124
    refine Calls.mono HT.out ?_
    rintro e5 w5 ⟨a2, k2, c2', rfl, h5, hb5⟩
    have hk2 : k2 ≤ l := h5.mono2 H0.out.2.2.1 (Nat.le_of_lt (Nat.mod_lt _ H0.out.2.2.2.1))
    have hBw5 : Below w.heap.size w w5 := HV.out.2.2.2.2.2.2.2.trans (hb5.mono HV.out.2.2.2.2.2.2.2.size)
    have hB35 : Below w3.heap.size w3 w5 := HV.out.2.1.trans (hb5.mono HV.out.2.1.size)
    have hBt := Nt.bit_any w5 ay m cy e q (H0.out.2.1.below hBw5) (by have := H0.out; omega) HV.out.2.2.2.2.2.2.1
    rw [HV.out.2.2.2.1] at hBt
    have HBt := Lib.hid hBt
    have H5 := Lib.hid (And.intro h5 (And.intro hBw5 (And.intro hB35 hk2)))
    clear hBt h5 hb5 hk2 hBw5 hB35 HT
    have hb01 : b = 0 ∨ b = 1 := by omega
    rcases hb01 with rfl | rfl
    · go_wp2_with fail
      go_at_call 125
      refine Calls.mono HBt.out ?_
      rintro e6 w6 ⟨rfl, rfl⟩
      go_wp2_with fail
      have hst := HV.out.2.2.2.2.1
      rw [if_neg (by decide)] at hst
      exact ⟨⟨i + 1, _, _, _, by omega, rfl, by go_num, by rw [HV.out.2.2.2.2.2.1, ← hst]; exact H5.out.1, H5.out.2.2.1⟩, by simp [intOf]; omega⟩
    · have HT2 := Lib.hid (Nt.times_any w5 a2 bx az k2 c2' (X * X % md) k1 c1 (a % md) l cz md H5.out.1 (by have h := H2.out.2.2; exact (h.below H5.out.2.2.1)) (H0.out.2.2.1.below H5.out.2.1) H0.out.2.2.2.1 (by have := H5.out.2.2.2; have := H0.out; omega) (by
        have h := H1.out.1.mono2 H0.out.2.2.1 (Nat.le_of_lt (Nat.mod_lt _ H0.out.2.2.2.1))
        have := H0.out
        omega) (by have := H0.out; omega))
      go_wp2_with fail
      go_at_call 125
      refine Calls.mono HBt.out ?_
      rintro e6 w6 ⟨rfl, rfl⟩
      go_wp2_with fail
      go_at_call 124
      refine Calls.mono HT2.out ?_
      rintro e7 w7 ⟨a3, k3, c3, rfl, h7, hb7⟩
      have H7 := Lib.hid (And.intro h7 hb7)
      clear h7 hb7
      go_wp2_with fail
      have hst := HV.out.2.2.2.2.1
      rw [if_pos (by trivial)] at hst
      exact ⟨⟨i + 1, _, _, _, by omega, rfl, by go_num, by rw [HV.out.2.2.2.2.2.1, ← hst]; exact H7.out.1, H5.out.2.2.1.trans (H7.out.2.mono H5.out.2.2.1.size)⟩, by simp [intOf]; omega⟩
  · have hie : i = D := by omega
    have hiz : ¬ (i : Int) < (D : Int) := by omega
    rw [hie, Nat.sub_self, Nat.pow_zero, Nat.div_one, ← Nat.pow_mod] at hN
    have HE := Lib.hid (And.intro hN hB)
    clear hN hB hie hall
    go_wp2_with fail
    go_ret2
    exact ⟨_, _, _, rfl, HE.out.1, H2.out.2.1.trans (HE.out.2.mono H2.out.2.1.size)⟩
end
section
open Go.RowKit

/-- The byte under way to the inverse of c. -/
def Nt.ib (c : Nat) : Nat → Nat
  | 0 => c
  | i + 1 => Nt.ib c i * ((258 - c * Nt.ib c i % 256) % 256) % 256
theorem Nt.ib_ok : ∀ c : Fin 256, c.val % 2 = 1 → c.val * Nt.ib c.val 2 % 256 = 1 ∧ Nt.ib c.val 2 < 256 := by decide +kernel
theorem Nt.u8_eq (x : Int) (y : Nat) (h : x % 256 = (y : Int)) : IntKind.u8.wrap x = (y : Int) := by
  unfold IntKind.wrap
  simpa [IntKind.bits, IntKind.signed] using h
theorem Nt.mont_dvd (X md q tb u c : Nat) (hX : X % 256 = tb) (hm : md % 256 = c) (hq : tb * u % 256 = q) (hu : (1 + u * c) % 256 = 0) : (X + q * md) % 256 = 0 := by
  have e1 : q * md % 256 = tb * u * c % 256 := by rw [← hq, ← hm, Nat.mod_mul_mod, Nat.mul_mod_mod]
  have e2 : tb + tb * u * c = tb * (1 + u * c) := by rw [Nat.mul_add, Nat.mul_one, Nat.mul_assoc]
  have e3 : (tb + tb * u * c) % 256 = 0 := by rw [e2, Nat.mul_mod, hu, Nat.mul_zero, Nat.zero_mod]
  rw [Nat.add_mod, hX, e1, Nat.add_mod_mod]
  exact e3
theorem Nt.mont_u (c v : Nat) (h : c * v % 256 = 1) (hv : v < 256) : (1 + (256 - v) % 256 * c) % 256 = 0 := by
  have hv0 : 0 < v := by
    rcases Nat.eq_zero_or_pos v with h0 | h0
    · rw [h0, Nat.mul_zero] at h; exact absurd h (by decide)
    · exact h0
  rw [Nat.mod_eq_of_lt (by omega : 256 - v < 256)]
  have e : (256 - v) * c + v * c = 256 * c := by rw [← Nat.add_mul, Nat.sub_add_cancel (by omega)]
  rw [Nat.mul_comm c v] at h
  omega
theorem Nt.mont_step (X md q i R : Nat) (hX : X < md) (hq : q < 256) (hd : (X + q * md) % 256 = 0) (hR : X * 256 ^ i % md = R) : (X + q * md) / 256 < md ∧ (X + q * md) / 256 * 256 ^ (i + 1) % md = R := by
  constructor
  · refine Nat.div_lt_of_lt_mul ?_
    have : q * md ≤ 255 * md := Nat.mul_le_mul_right _ (by omega)
    omega
  · have e : (X + q * md) / 256 * 256 = X + q * md := Nat.div_mul_cancel (Nat.dvd_of_mod_eq_zero hd)
    rw [Nat.pow_succ, Nat.mul_comm (256 ^ i), ← Nat.mul_assoc, e, Nat.add_mul, Nat.mul_right_comm q md, Nat.add_mul_mod_self_right]
    exact hR
theorem Nt.low_byte (f : Nat → Nat) (hf : ∀ j, f j < 4294967296) (n : Nat) (hn : 0 < n) : Vl.val 4294967296 f n % 256 = f 0 % 256 := by
  obtain ⟨m, rfl⟩ : ∃ m, n = 1 + m := ⟨n - 1, by omega⟩
  rw [Nt.val_split]
  have e : Vl.val 4294967296 f 1 = f 0 := by simp [Vl.val]
  rw [e, Nat.pow_one]
  have := hf 0
  omega
end
end
section
open Go.RowKit

/-- The sign that the factors have. -/
def Nt.sg (mn : Bool) : Int := if mn then 1 else -1
/-- Numbers under way. -/
structure Nt.Euc (a md high low hb lb : Nat) (mn : Bool) : Prop where
  gcd : Nat.gcd high low = Nat.gcd a md
  pos : 0 < high
  det : hb * low + lb * high = md
  hbl : hb ≤ md
  hl : high ≤ md
  ll : low ≤ md
  h1 : (md : Int) ∣ (high : Int) + Nt.sg mn * ((hb * a : Nat) : Int)
  h2 : (md : Int) ∣ (low : Int) - Nt.sg mn * ((lb * a : Nat) : Int)
theorem Nt.Euc.start (a md : Nat) (h : 0 < md) : Nt.Euc a md md (a % md) 0 1 true := by
  refine ⟨?_, h, by omega, Nat.zero_le _, Nat.le_refl _, Nat.le_of_lt (Nat.mod_lt _ h), ?_, ?_⟩
  · rw [Nat.gcd_comm a md]
    exact (Nat.gcd_comm _ _).trans (Nat.gcd_rec md a).symm
  · rw [Nat.zero_mul]
    simp [Nt.sg]
  · have e : ((a % md : Nat) : Int) - Nt.sg true * ((1 * a : Nat) : Int) = -((md : Int) * ((a / md : Nat) : Int)) := by
      have h1 := Nat.div_add_mod a md
      have h2 : ((md * (a / md) + a % md : Nat) : Int) = (a : Int) := by rw [h1]
      rw [Int.natCast_add, Int.natCast_mul] at h2
      rw [Nat.one_mul]
      simp only [Nt.sg, if_true, Int.one_mul]
      omega
    rw [e]
    exact Int.dvd_neg.2 ⟨_, rfl⟩
theorem Nt.Euc.lbl {a md high low hb lb : Nat} {mn : Bool} (h : Nt.Euc a md high low hb lb mn) : lb ≤ md := by
  have h1 := h.det
  have h2 : lb ≤ lb * high := Nat.le_mul_of_pos_right _ h.pos
  omega
theorem Nt.Euc.step {a md high low hb lb : Nat} {mn : Bool} (h : Nt.Euc a md high low hb lb mn) (hl : 0 < low) : Nt.Euc a md low (high % low) lb (hb + high / low * lb) (!mn) := by
  have hd := Nat.div_add_mod high low
  have hm := Nat.mod_lt high hl
  obtain ⟨q, hq⟩ : ∃ q, high / low = q := ⟨_, rfl⟩
  obtain ⟨r, hr⟩ : ∃ r, high % low = r := ⟨_, rfl⟩
  rw [hq, hr] at hd ⊢
  rw [hr] at hm
  refine ⟨?_, hl, ?_, h.lbl, h.ll, Nat.le_trans (Nat.le_of_lt hm) h.ll, ?_, ?_⟩
  · rw [← h.gcd, ← hr, Nat.gcd_comm low]
    exact (Nat.gcd_rec low high).symm.trans (Nat.gcd_comm _ _)
  · have h1 := h.det
    rw [← hd, Nat.mul_add] at h1
    rw [Nat.add_mul, Nat.mul_right_comm q lb low, Nat.mul_comm q low]
    rw [← Nat.mul_assoc, Nat.mul_comm lb low, Nat.mul_assoc low lb q, Nat.mul_comm lb q, ← Nat.mul_assoc] at h1
    omega
  · have h2 := h.h2
    have e : Nt.sg (!mn) = -Nt.sg mn := by cases mn <;> rfl
    rw [e, Int.neg_mul]
    exact h2
  · have h1 := h.h1
    have h2 : (md : Int) ∣ (q : Int) * ((low : Int) - Nt.sg mn * ((lb * a : Nat) : Int)) := by
      obtain ⟨z, hz⟩ := h.h2
      exact ⟨(q : Int) * z, by rw [hz, Int.mul_left_comm]⟩
    have h3 := Int.dvd_sub h1 h2
    have e : Nt.sg (!mn) = -Nt.sg mn := by cases mn <;> rfl
    have e2 : (((hb + q * lb) * a : Nat) : Int) = ((hb * a : Nat) : Int) + (q : Int) * ((lb * a : Nat) : Int) := by
      rw [Nat.add_mul, Nat.mul_assoc, Int.natCast_add, Int.natCast_mul q]
    have e3 : (high : Int) = (low : Int) * (q : Int) + (r : Int) := by rw [← hd, Int.natCast_add, Int.natCast_mul]
    rw [e, e2]
    have e4 : (r : Int) - -Nt.sg mn * (((hb * a : Nat) : Int) + (q : Int) * ((lb * a : Nat) : Int)) = (high : Int) + Nt.sg mn * ((hb * a : Nat) : Int) - (q : Int) * ((low : Int) - Nt.sg mn * ((lb * a : Nat) : Int)) := by
      rw [e3, Int.mul_sub, Int.mul_comm (low : Int), Int.neg_mul, Int.mul_add, Int.mul_left_comm (q : Int) (Nt.sg mn)]
      omega
    rw [e4]
    exact h3
/-- What Euclid ends with. -/
theorem Nt.Euc.done {a md high hb lb : Nat} {mn : Bool} (h : Nt.Euc a md high 0 hb lb mn) (h1 : high = 1) : Nat.gcd a md = 1 ∧ (if mn then md - hb else hb) % md * a % md = 1 % md := by
  constructor
  · rw [← h.gcd, h1]; rfl
  · rw [Nat.mod_mul_mod]
    have hd := h.h1
    rw [h1] at hd
    cases mn
    · simp only [Nt.sg, Bool.false_eq_true, if_false] at hd ⊢
      obtain ⟨k, hk⟩ := hd
      have e : ((hb * a : Nat) : Int) % (md : Int) = (1 : Int) % (md : Int) := by
        have : ((hb * a : Nat) : Int) = 1 + (md : Int) * (-k) := by rw [Int.mul_neg]; omega
        rw [this, Int.add_mul_emod_self_left]
      have e2 : ((hb * a % md : Nat) : Int) = ((1 % md : Nat) : Int) := by
        rw [Int.natCast_emod, e]; rfl
      exact Int.ofNat.inj e2
    · simp only [Nt.sg, if_true, Int.one_mul] at hd ⊢
      have hd2 : md ∣ 1 + hb * a := by
        have : ((md : Nat) : Int) ∣ ((1 + hb * a : Nat) : Int) := by rw [Int.natCast_add]; exact hd
        exact Int.natCast_dvd_natCast.1 this
      obtain ⟨z, hz⟩ := hd2
      have e : (md - hb) * a + md * z = 1 + md * a := by
        have h3 := h.hbl
        rw [← hz, Nat.sub_mul]
        have : hb * a ≤ md * a := Nat.mul_le_mul_right _ h3
        omega
      have e2 := congrArg (· % md) e
      simp only [Nat.add_mul_mod_self_left] at e2
      exact e2
theorem Nt.dig_one (x : Nat) (hx : 0 < x) : Nt.dig x = 1 ↔ x = 1 := by
  constructor
  · intro h
    have := Nt.dig_lt x
    rw [h] at this
    omega
  · rintro rfl
    exact Nt.dig_spec 1 0 (by decide) (by decide)
def Nt.Inv (w' : World) (v : Value) (a md R : Nat) : Prop := (Nat.gcd a md = 1 ∧ R < md ∧ R * a % md = 1 % md ∧ v = .nilIface) ∨ (Nat.gcd a md ≠ 1 ∧ R = 0 ∧ Nt.Err w' v 33)
end
end
section
open Go.RowKit

def Nt.PowP (a e md R K : Nat) : Prop := (md = 0 ∧ R = 0 ∧ K = 31) ∨ (0 < md ∧ R = a ^ e % md ∧ K = 0)
def Nt.MontP (a b md R K : Nat) : Prop := (md = 0 ∧ R = 0 ∧ K = 31) ∨ (0 < md ∧ md % 2 = 0 ∧ R = 0 ∧ K = 34) ∨ (md % 2 = 1 ∧ R < md ∧ R * 256 ^ Nt.by md % md = a * b % md ∧ K = 0)
def Nt.InvP (a md R K : Nat) : Prop := (md = 0 ∧ R = 0 ∧ K = 31) ∨ (0 < md ∧ Nat.gcd a md ≠ 1 ∧ R = 0 ∧ K = 33) ∨ (0 < md ∧ Nat.gcd a md = 1 ∧ R < md ∧ R * a % md = 1 % md ∧ K = 0)
theorem Nt.power_all (w : World) (ok : Nt.Ok w) (ax ay az : Option Addr) (n cx a m cy e l cz md : Nat) (hx : Nt.Num w ax n cx a) (hy : Nt.Num w ay m cy e) (hz : Nt.Num w az l cz md) (hn : n ≤ 100000) (hm : m ≤ 100000) (hl : l ≤ 100000) :
    Calls Tryz.prog 87 #[.slice ax n cx, .slice ay m cy, .slice az l cz] w fun e' w' => ∃ av k c v R K, e' = .returned (.tuple #[.slice av k c, v]) ∧ Nt.Num w' av k c R ∧ Nt.Err w' v K ∧ Nt.PowP a e md R K ∧ k ≤ l ∧ Below w.heap.size w w' := by
  rcases Nat.eq_zero_or_pos md with h0 | h0
  · have hl0 := hz.zero.2 h0
    subst hl0
    refine (Nt.power_zero w ok _ _ az cz).mono ?_
    rintro e' w' ⟨v, rfl, hE, hb⟩
    exact ⟨_, _, _, _, 0, 31, rfl, Nt.Num.nil _, hE, .inl ⟨h0, rfl, rfl⟩, Nat.le_refl _, hb⟩
  · refine (Nt.power_any w ax ay az n cx a m cy e l cz md hx hy hz h0 hn hm hl).mono ?_
    rintro e' w' ⟨av, k, c, rfl, hN, hb⟩
    exact ⟨_, _, _, _, _, 0, rfl, hN, .inl ⟨rfl, rfl⟩, .inr ⟨h0, rfl, rfl⟩, hN.mono2 hz (Nat.le_of_lt (Nat.mod_lt _ h0)), hb⟩
set_option maxHeartbeats 1000000 in
set_option maxRecDepth 100000 in
theorem Nt.ofThree_power (w : World) (ok : Nt.Ok w) (s t r : ByteArray) (hs : s.size ≤ 512) (ht : t.size ≤ 512) (hr : r.size ≤ 512) :
    Calls Tryz.prog 86 #[Value.func (Fn.func 87) #[] #[], .string s, .string t, .string r] w fun e w' => ∃ R K : Nat, e = .returned (.tuple #[.string ⟨(Nt.fm R).toArray⟩, .int .i64 (K : Int)]) ∧ Nt.PowP (Nt.nv s) (Nt.nv t) (Nt.nv r) R K ∧ Below w.heap.size w w' := by
  have HS := Lib.hid (And.intro ok (And.intro hs (And.intro ht hr)))
  clear ok hs ht hr
  go_enter Tryz.func86, Tryz.ntmps86
  go_wp2_with fail
  go_at_call 91
  refine Calls.mono (Nt.readTwo_ok w s t HS.out.2.1 HS.out.2.2.1) ?_
  rintro e1 w1 ⟨ax, n, cx, ay, m, cy, rfl, h1, h2, hn, hm, hb⟩
  have H1 := Lib.hid (And.intro h1 (And.intro h2 (And.intro hn (And.intro hm hb))))
  clear h1 h2 hn hm hb
  go_wp2_with fail
  go_at_call 122
  refine Calls.mono (Nt.read_ok w1 r HS.out.2.2.2) ?_
  rintro e2 w2 ⟨az, l, cz, rfl, h3, hb2⟩
  have hl := h3.bytes 128 r.size (Nt.nv_lt r) HS.out.2.2.2
  have H2 := Lib.hid (And.intro h3 (And.intro hb2 hl))
  clear h3 hb2 hl
  go_wp2_with fail
  refine Calls.mono (Nt.power_all w2 ((HS.out.1.below H1.out.2.2.2.2).below H2.out.2.1) ax ay az n cx (Nt.nv s) m cy (Nt.nv t) l cz (Nt.nv r) (H1.out.1.below H2.out.2.1) (H1.out.2.1.below H2.out.2.1) H2.out.1 (by have := H1.out.2.2.1; omega) (by have := H1.out.2.2.2.1; omega) (by have := H2.out.2.2; omega)) ?_
  rintro e3 w3 ⟨av, k, c, v, R, K, rfl, hN, hE, hP, hk, hb3⟩
  have H3 := Lib.hid (And.intro hN (And.intro hE (And.intro hP (And.intro hk hb3))))
  clear hN hE hP hk hb3
  go_wp2_with fail
  go_at_call 65
  refine Calls.mono (Nt.form_any w3 av k c R H3.out.1 (by have := H3.out.2.2.2.1; have := H2.out.2.2; omega)) ?_
  rintro e4 w4 ⟨rfl, hb4⟩
  have H4 := Lib.hid hb4
  clear hb4
  go_wp2_with fail
  go_at_call 63
  refine Calls.mono (Nt.told_any w4 ((((HS.out.1.below H1.out.2.2.2.2).below H2.out.2.1).below H3.out.2.2.2.2).below H4.out) _ K (H3.out.2.1.below H4.out)) ?_
  rintro e5 w5 ⟨rfl, rfl⟩
  go_wp2_with fail
  go_ret2
  have hs1 := H1.out.2.2.2.2.size
  have hs2 := Nat.le_trans hs1 H2.out.2.1.size
  have hs3 := Nat.le_trans hs2 H3.out.2.2.2.2.size
  exact ⟨R, K, rfl, H3.out.2.2.1, ((H1.out.2.2.2.2.trans (H2.out.2.1.mono hs1)).trans (H3.out.2.2.2.2.mono hs2)).trans (H4.out.mono hs3)⟩
set_option maxRecDepth 100000 in
theorem Nt.Pow_ok (w : World) (ok : Nt.Ok w) (s t r : ByteArray) (hs : s.size ≤ 512) (ht : t.size ≤ 512) (hr : r.size ≤ 512) :
    Calls Tryz.prog 51 #[.string s, .string t, .string r] w fun e w' => ∃ R K : Nat, e = .returned (.tuple #[.string ⟨(Nt.fm R).toArray⟩, .int .i64 (K : Int)]) ∧ Nt.PowP (Nt.nv s) (Nt.nv t) (Nt.nv r) R K ∧ Below w.heap.size w w' := by
  have HC := Lib.hid (Nt.ofThree_power w ok s t r hs ht hr)
  clear ok hs ht hr
  go_enter Tryz.func51, Tryz.ntmps51
  go_wp2_with fail
  go_at_call 86
  refine Calls.mono HC.out ?_
  rintro e1 w1 ⟨R, K, rfl, hP, hb⟩
  have H1 := Lib.hid (And.intro hP hb)
  clear hP hb
  go_wp2_with fail
  go_ret2
  exact ⟨R, K, rfl, H1.out.1, H1.out.2⟩
end
end Go.Proofs.YtfbliccblippiaaGreatDoor
