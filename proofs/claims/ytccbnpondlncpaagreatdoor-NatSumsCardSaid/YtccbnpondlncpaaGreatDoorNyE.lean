/- power. -/
import Derived.Test.YtccbnpondlncpaaGreatDoorNyA
import Derived.Test.YtccbnpondlncpaaGreatDoorNtV
import Derived.Great.BuildSlice
namespace Go.Proofs.YtccbnpondlncpaaGreatDoor
open Go.RowKit

theorem Nt.Num.one {w : World} {b : Nat} {T : TypeId} (h : w.heap[b]? = some (.cells #[Value.int .u32 1] T (0, 0))) : Nt.Num w (some ⟨b, 0, none⟩) 1 1 1 := by
  have hl : Nt.Lim w b 0 1 (fun j => if j = 0 then 1 else 0) := by
    refine ⟨fun j hj => ?_, fun j hj => ?_, fun j => ?_, (Array.getElem?_eq_some_iff.1 h).1⟩
    · obtain rfl : j = 0 := by omega
      simp [World.cell?, h]
    · simp [World.frozen?, h]
    · split <;> decide
  exact ⟨Nat.le_refl _, b, 0, _, fun _ => ⟨rfl, hl⟩, hl.dig, by simp [Vl.val], .inr (by decide)⟩
theorem Nt.Num.mono2 {w w2 : World} {ax ay : Option Addr} {n cx x m cy y : Nat} (h : Nt.Num w ax n cx x) (g : Nt.Num w2 ay m cy y) (hxy : x ≤ y) : n ≤ m := h.len m (Nat.lt_of_le_of_lt hxy g.lt)
theorem Nt.pow_two (a md q b : Nat) (hb : b < 2) : (if b = 1 then (a ^ q % md) * (a ^ q % md) % md * a % md else (a ^ q % md) * (a ^ q % md) % md) = a ^ (2 * q + b) % md := by
  have h1 : (a ^ q % md) * (a ^ q % md) % md = a ^ (2 * q) % md := by
    rw [← Nat.mul_mod, ← Nat.pow_add, show q + q = 2 * q by omega]
  rw [h1]
  by_cases h : b = 1
  · rw [if_pos h, h, Nat.pow_succ]
    rw [Nat.mod_mul_mod]
  · rw [if_neg h, show b = 0 by omega, Nat.add_zero]
theorem Nt.half (e k : Nat) : e / 2 ^ k = 2 * (e / 2 ^ (k + 1)) + e / 2 ^ k % 2 := by
  rw [Nat.pow_succ, ← Nat.div_div_eq_div_mul]
  omega
set_option maxHeartbeats 1000000 in
set_option maxRecDepth 100000 in
theorem Nt.power_zero (w : World) (ok : Nt.Ok w) (v0 v1 : Value) (az : Option Addr) (cz : Nat) :
    Calls Tryz.prog 48 #[v0, v1, .slice az 0 cz] w fun e w' => ∃ v, e = .returned (.tuple #[.slice none 0 0, v]) ∧ Nt.Err w' v 31 ∧ Below w.heap.size w w' := by
  obtain ⟨a, hv⟩ := ok 31 (by decide) (by decide)
  have hc : w.cell? ⟨2, 0, none⟩ = some (.iface 142 (.pointer (some a))) := hv.var
  have HV := Lib.hid hv
  clear hv ok
  go_enter Tryz.func48, Tryz.ntmps48
  go_wp2_with fail
  go_quiet (fail)
  go_wp2_with fail
  go_ret2
  exact ⟨_, rfl, .inr ⟨by decide, by decide, a, rfl, HV.out.below (Tx.drewNb w _)⟩, Tx.drewNb w _⟩
set_option maxHeartbeats 2000000 in
set_option maxRecDepth 100000 in
theorem Nt.power_any (w : World) (ax ay az : Option Addr) (n cx a m cy e l cz md : Nat) (hx : Nt.Num w ax n cx a) (hy : Nt.Num w ay m cy e) (hz : Nt.Num w az l cz md) (hmd : 0 < md) (hn : n ≤ 100000) (hm : m ≤ 100000) (hl : l ≤ 100000) :
    Calls Tryz.prog 48 #[.slice ax n cx, .slice ay m cy, .slice az l cz] w fun e' w' => ∃ av k c, e' = .returned (.tuple #[.slice av k c, .nilIface]) ∧ Nt.Num w' av k c (a ^ e % md) ∧ Below w.heap.size w w' := by
  have hl0 : ((l : Int) == 0) = false := by
    rw [beq_eq_false_iff_ne]
    intro h
    have := hz.zero.1 (by omega)
    omega
  obtain ⟨D, hD⟩ : ∃ D, Nt.dig e = D := ⟨_, rfl⟩
  have hDm : D ≤ 32 * m := by rw [← hD]; exact Nt.dig_of_lt e (32 * m) (by rw [Nat.pow_mul]; exact hy.lt)
  have hDe : e < 2 ^ D := by rw [← hD]; exact Nt.dig_lt e
  have H0 := Lib.hid (And.intro hx (And.intro hy (And.intro hz (And.intro hmd (And.intro hn (And.intro hm (And.intro hl (And.intro hD (And.intro hDm hDe)))))))))
  have hDb : (D : Int) ≤ 3200000 := by omega
  clear hx hy hz hmd hn hm hl hD hDm hDe
  go_enter Tryz.func48, Tryz.ntmps48
  go_wp2_with fail
  go_at_call 70
  refine Calls.mono (Nt.leftOf_any w ax az n cx a l cz md H0.out.1 H0.out.2.2.1 H0.out.2.2.2.1 (by have := H0.out; omega) (by have := H0.out; omega)) ?_
  rintro e1 w1 ⟨bx, k1, c1, rfl, h1, hb1⟩
  have H1 := Lib.hid (And.intro h1 hb1)
  clear h1 hb1
  go_wp2_with fail
  go_at_call 70
  have hB1 : Below w1.heap.size w1 (w1.alloc (Obj.cells #[Value.int IntKind.u32 1] 75)) := (Below.refl _ _).alloc (Nat.le_refl _) _
  refine Calls.mono (Nt.leftOf_any (w1.alloc (Obj.cells #[Value.int IntKind.u32 1] 75)) (some ⟨w1.heap.size, 0, none⟩) az 1 1 1 l cz md (Nt.Num.one (heap_alloc_new _ _)) ((H0.out.2.2.1.below H1.out.2).below hB1) H0.out.2.2.2.1 (by decide) (by have := H0.out; omega)) ?_
  rintro e2 w2 ⟨xx, kx, c2, rfl, h2, hb2⟩
  have hB2 : Below w.heap.size w w2 := (H1.out.2.trans (hB1.mono H1.out.2.size)).trans (hb2.mono (Nat.le_trans H1.out.2.size hB1.size))
  have H2 := Lib.hid (And.intro h2 (And.intro hB2 ((H1.out.1.below hB1).below hb2)))
  clear h2 hB2 hB1 hb2
  go_wp2_with fail
  go_at_call 61
  have HBt := Nt.bits_any w2 ay m cy e (H0.out.2.1.below H2.out.2.1) (by have := H0.out; omega)
  rw [H0.out.2.2.2.2.2.2.2.1] at HBt
  have HBt := Lib.hid HBt
  refine Calls.mono HBt.out ?_
  rintro e3 w3 ⟨rfl, rfl⟩
  clear HBt
  go_wp2_with fail
  go_loopw [8, 24] (fun xv iv wr => ∃ (i : Nat) (av : Option Addr) (k c : Nat), i ≤ D ∧ xv = .slice av k c ∧ iv = .int .i64 (i : Int) ∧ Nt.Num wr av k c ((a % md) ^ (e / 2 ^ (D - i)) % md) ∧ Below w3.heap.size w3 wr) (fun _ iv _ => D - (intOf iv).toNat)
  case atStart => exact ⟨0, _, _, _, Nat.zero_le _, rfl, rfl, by rw [Nat.sub_zero, Nat.div_eq_of_lt H0.out.2.2.2.2.2.2.2.2.2, Nat.pow_zero]; exact H2.out.1, Below.refl _ _⟩
  case round =>
  obtain ⟨i, av, k, c, hi, rfl, rfl, hN, hB⟩ := hrel
  obtain ⟨w4, rfl⟩ : ∃ w4, w4 = wr := ⟨_, rfl⟩
  have hall := H0.out
  by_cases hin : i < D
  · have hiz : (i : Int) < (D : Int) := by omega
    obtain ⟨D1, hD1⟩ : ∃ D1, D - 1 = D1 := ⟨_, rfl⟩
    obtain ⟨q, hq⟩ : ∃ q, D1 - i = q := ⟨_, rfl⟩
    have hD1z : (D : Int) - 1 = (D1 : Int) := by omega
    have hqz : (D1 : Int) - (i : Int) = (q : Int) := by omega
    have hD1b : (D1 : Int) ≤ 3200000 := by omega
    have hqb : (q : Int) ≤ 3200000 := by omega
    have hq0 : 0 ≤ (q : Int) := by omega
    have hq1 : D - i = q + 1 := by omega
    have hq2 : D - (i + 1) = q := by omega
    have hq3 : q < 32 * m := by omega
    rw [hq1] at hN
    have hlt : (a % md) ^ (e / 2 ^ (q + 1)) % md < md := Nat.mod_lt _ hall.2.2.2.1
    have hkl := hN.mono2 hall.2.2.1 (Nat.le_of_lt hlt)
    obtain ⟨X, hX⟩ : ∃ X, (a % md) ^ (e / 2 ^ (q + 1)) % md = X := ⟨_, rfl⟩
    have hstep := Nt.pow_two (a % md) md (e / 2 ^ (q + 1)) (e / 2 ^ q % 2) (Nat.mod_lt _ (by decide))
    rw [← Nt.half, hX] at hstep
    rw [hX] at hN
    obtain ⟨b, hb⟩ : ∃ b, e / 2 ^ q % 2 = b := ⟨_, rfl⟩
    have hb2 : b < 2 := by rw [← hb]; exact Nat.mod_lt _ (by decide)
    rw [hb] at hstep
    have hBw : Below w.heap.size w w4 := H2.out.2.1.trans (hB.mono H2.out.2.1.size)
    have HV := Lib.hid (And.intro hN (And.intro hB (And.intro hkl (And.intro hb (And.intro hstep (And.intro hq2 (And.intro hq3 hBw)))))))
    have hzz := hall.2.2.1.below hBw
    have HT := Lib.hid (Nt.times_any w4 av av az k c X k c X l cz md hN hN hzz hall.2.2.2.1 (by omega) (by omega) (by omega))
    clear hN hB hkl hb hstep hq1 hq2 hq3 hX hlt hD1 hq hBw hzz hall
    go_wp2_with fail
    go_at_call 71
    refine Calls.mono HT.out ?_
    rintro e5 w5 ⟨a2, k2, c2', rfl, h5, hb5⟩
    have hk2 : k2 ≤ l := h5.mono2 H0.out.2.2.1 (Nat.le_of_lt (Nat.mod_lt _ H0.out.2.2.2.1))
    have hBw5 : Below w.heap.size w w5 := HV.out.2.2.2.2.2.2.2.trans (hb5.mono HV.out.2.2.2.2.2.2.2.size)
    have hB35 : Below w3.heap.size w3 w5 := HV.out.2.1.trans (hb5.mono HV.out.2.1.size)
    have hBt := Nt.bit_any w5 ay m cy e q (H0.out.2.1.below hBw5) (by have := H0.out; omega) HV.out.2.2.2.2.2.2.1
    rw [HV.out.2.2.2.1] at hBt
    have HBt := Lib.hid hBt
    have H5 := Lib.hid (And.intro h5 (And.intro hBw5 (And.intro hB35 hk2)))
    clear hBt h5 hb5 hk2 hBw5 hB35 HT
    have hb01 : b = 0 ∨ b = 1 := by omega
    rcases hb01 with rfl | rfl
    · go_wp2_with fail
      go_at_call 72
      refine Calls.mono HBt.out ?_
      rintro e6 w6 ⟨rfl, rfl⟩
      go_wp2_with fail
      have hst := HV.out.2.2.2.2.1
      rw [if_neg (by decide)] at hst
      exact ⟨⟨i + 1, _, _, _, by omega, rfl, by go_num, by rw [HV.out.2.2.2.2.2.1, ← hst]; exact H5.out.1, H5.out.2.2.1⟩, by simp [intOf]; omega⟩
    · have HT2 := Lib.hid (Nt.times_any w5 a2 bx az k2 c2' (X * X % md) k1 c1 (a % md) l cz md H5.out.1 (by have h := H2.out.2.2; exact (h.below H5.out.2.2.1)) (H0.out.2.2.1.below H5.out.2.1) H0.out.2.2.2.1 (by have := H5.out.2.2.2; have := H0.out; omega) (by
        have h := H1.out.1.mono2 H0.out.2.2.1 (Nat.le_of_lt (Nat.mod_lt _ H0.out.2.2.2.1))
        have := H0.out
        omega) (by have := H0.out; omega))
      go_wp2_with fail
      go_at_call 72
      refine Calls.mono HBt.out ?_
      rintro e6 w6 ⟨rfl, rfl⟩
      go_wp2_with fail
      go_at_call 71
      refine Calls.mono HT2.out ?_
      rintro e7 w7 ⟨a3, k3, c3, rfl, h7, hb7⟩
      have H7 := Lib.hid (And.intro h7 hb7)
      clear h7 hb7
      go_wp2_with fail
      have hst := HV.out.2.2.2.2.1
      rw [if_pos (by trivial)] at hst
      exact ⟨⟨i + 1, _, _, _, by omega, rfl, by go_num, by rw [HV.out.2.2.2.2.2.1, ← hst]; exact H7.out.1, H5.out.2.2.1.trans (H7.out.2.mono H5.out.2.2.1.size)⟩, by simp [intOf]; omega⟩
  · have hie : i = D := by omega
    have hiz : ¬ (i : Int) < (D : Int) := by omega
    rw [hie, Nat.sub_self, Nat.pow_zero, Nat.div_one, ← Nat.pow_mod] at hN
    have HE := Lib.hid (And.intro hN hB)
    clear hN hB hie hall
    go_wp2_with fail
    go_ret2
    exact ⟨_, _, _, rfl, HE.out.1, H2.out.2.1.trans (HE.out.2.mono H2.out.2.1.size)⟩
end Go.Proofs.YtccbnpondlncpaaGreatDoor
