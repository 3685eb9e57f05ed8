/- open, Open: a key that is none, too great a signature, and what is opened. -/
import Derived.Test.YthlecdggkolgmaaGreatDoorNyA
import Derived.Test.YthlecdggkolgmaaGreatDoorNtV
import Derived.Great.BuildSlice
import Derived.Deep.LoopGhost
import Derived.Test.YthlecdggkolgmaaGreatDoorRsK
import Derived.Test.YthlecdggkolgmaaGreatDoorNyK
namespace Go.Proofs.YthlecdggkolgmaaGreatDoor
section
section
section
section
open Go.RowKit

theorem Nt.Num.one {w : World} {b : Nat} {T : TypeId} (h : w.heap[b]? = some (.cells #[Value.int .u32 1] T (0,0))) : Nt.Num w (some ⟨b,0,none⟩) 1 1 1 := by
  have hl : Nt.Lim w b 0 1 (fun j => if j = 0 then 1 else 0) := by
    refine ⟨fun j hj => ?_,fun j hj => ?_,fun j => ?_,(Array.getElem?_eq_some_iff.1 h).1⟩
    · obtain rfl : j = 0 := by omega
      simp [World.cell?,h]
    · simp [World.frozen?,h]
    · split <;> decide
  exact ⟨Nat.le_refl _,b,0,_,fun _ => ⟨rfl,hl⟩,hl.dig,by simp [Vl.val],.inr (by decide)⟩
theorem Nt.Num.mono2 {w w2 : World} {ax ay : Option Addr} {n cx x m cy y : Nat} (h : Nt.Num w ax n cx x) (g : Nt.Num w2 ay m cy y) (hxy : x ≤ y) : n ≤ m := h.len m (Nat.lt_of_le_of_lt hxy g.lt)
theorem Nt.pow_two (a md q b : Nat) (hb : b < 2) : (if b = 1 then (a ^ q % md) * (a ^ q % md) % md * a % md else (a ^ q % md) * (a ^ q % md) % md) = a ^ (2 * q + b) % md := by
  have h1 : (a ^ q % md) * (a ^ q % md) % md = a ^ (2 * q) % md := by
    rw [← Nat.mul_mod,← Nat.pow_add,show q + q = 2 * q by omega]
  rw [h1]
  by_cases h : b = 1
  · rw [if_pos h,h,Nat.pow_succ]
    rw [Nat.mod_mul_mod]
  · rw [if_neg h,show b = 0 by omega,Nat.add_zero]
theorem Nt.half (e k : Nat) : e / 2 ^ k = 2 * (e / 2 ^ (k + 1)) + e / 2 ^ k % 2 := by
  rw [Nat.pow_succ,← Nat.div_div_eq_div_mul]
  omega
set_option maxHeartbeats 1000000 in
set_option maxRecDepth 100000 in
theorem Nt.power_zero (w : World) (ok : Nt.Ok w) (v0 v1 : Value) (az : Option Addr) (cz : Nat) :
    Calls Tryz.prog 91 #[v0,v1,.slice az 0 cz] w fun e w' => ∃ v,e = .returned (.tuple #[.slice none 0 0,v]) ∧ Nt.Err w' v 31 ∧ Below w.heap.size w w' := by
  obtain ⟨a,hv⟩ := ok 31 (by decide) (by decide)
  have hc : w.cell? ⟨4,0,none⟩ = some (.iface 200 (.pointer (some a))) := hv.var
  have HV := Lib.hid hv
  clear hv ok
  go_enter Tryz.func91,Tryz.ntmps91
  go_wp2_with fail
  go_quiet (fail)
  go_wp2_with fail
  go_ret2
  exact ⟨_,rfl,.inr ⟨by decide,by decide,a,rfl,HV.out.below (Tx.drewNb w _)⟩,Tx.drewNb w _⟩
set_option maxHeartbeats 2000000 in
set_option maxRecDepth 100000 in
theorem Nt.power_any (w : World) (ax ay az : Option Addr) (n cx a m cy e l cz md : Nat) (hx : Nt.Num w ax n cx a) (hy : Nt.Num w ay m cy e) (hz : Nt.Num w az l cz md) (hmd : 0 < md) (hn : n ≤ 100000) (hm : m ≤ 100000) (hl : l ≤ 100000) :
    Calls Tryz.prog 91 #[.slice ax n cx,.slice ay m cy,.slice az l cz] w fun e' w' => ∃ av k c,e' = .returned (.tuple #[.slice av k c,.nilIface]) ∧ Nt.Num w' av k c (a ^ e % md) ∧ Below w.heap.size w w' := by
  have hl0 : ((l : Int) == 0) = false := by
    rw [beq_eq_false_iff_ne]
    intro h
    have := hz.zero.1 (by omega)
    omega
  obtain ⟨D,hD⟩ : ∃ D,Nt.dig e = D := ⟨_,rfl⟩
  have hDm : D ≤ 32 * m := by rw [← hD]; exact Nt.dig_of_lt e (32 * m) (by rw [Nat.pow_mul]; exact hy.lt)
  have hDe : e < 2 ^ D := by rw [← hD]; exact Nt.dig_lt e
  have H0 := Lib.hid (And.intro hx (And.intro hy (And.intro hz (And.intro hmd (And.intro hn (And.intro hm (And.intro hl (And.intro hD (And.intro hDm hDe)))))))))
  have hDb : (D : Int) ≤ 3200000 := by omega
  clear hx hy hz hmd hn hm hl hD hDm hDe
  go_enter Tryz.func91,Tryz.ntmps91
  go_wp2_with fail
  go_at_call 108
  refine Calls.mono (Nt.leftOf_any w ax az n cx a l cz md H0.out.1 H0.out.2.2.1 H0.out.2.2.2.1 (by have := H0.out; omega) (by have := H0.out; omega)) ?_
  rintro e1 w1 ⟨bx,k1,c1,rfl,h1,hb1⟩
  have H1 := Lib.hid (And.intro h1 hb1)
  clear h1 hb1
  go_wp2_with fail
  go_at_call 108
  have hB1 : Below w1.heap.size w1 (w1.alloc (Obj.cells #[Value.int IntKind.u32 1] 145)) := (Below.refl _ _).alloc (Nat.le_refl _) _
  refine Calls.mono (Nt.leftOf_any (w1.alloc (Obj.cells #[Value.int IntKind.u32 1] 145)) (some ⟨w1.heap.size,0,none⟩) az 1 1 1 l cz md (Nt.Num.one (heap_alloc_new _ _)) ((H0.out.2.2.1.below H1.out.2).below hB1) H0.out.2.2.2.1 (by decide) (by have := H0.out; omega)) ?_
  rintro e2 w2 ⟨xx,kx,c2,rfl,h2,hb2⟩
  have hB2 : Below w.heap.size w w2 := (H1.out.2.trans (hB1.mono H1.out.2.size)).trans (hb2.mono (Nat.le_trans H1.out.2.size hB1.size))
  have H2 := Lib.hid (And.intro h2 (And.intro hB2 ((H1.out.1.below hB1).below hb2)))
  clear h2 hB2 hB1 hb2
  go_wp2_with fail
  go_at_call 109
  have HBt := Nt.bits_any w2 ay m cy e (H0.out.2.1.below H2.out.2.1) (by have := H0.out; omega)
  rw [H0.out.2.2.2.2.2.2.2.1] at HBt
  have HBt := Lib.hid HBt
  refine Calls.mono HBt.out ?_
  rintro e3 w3 ⟨rfl,rfl⟩
  clear HBt
  go_wp2_with fail
  go_loopw [8,24] (fun xv iv wr => ∃ (i : Nat) (av : Option Addr) (k c : Nat),i ≤ D ∧ xv = .slice av k c ∧ iv = .int .i64 (i : Int) ∧ Nt.Num wr av k c ((a % md) ^ (e / 2 ^ (D - i)) % md) ∧ Below w3.heap.size w3 wr) (fun _ iv _ => D - (intOf iv).toNat)
  case atStart => exact ⟨0,_,_,_,Nat.zero_le _,rfl,rfl,by rw [Nat.sub_zero,Nat.div_eq_of_lt H0.out.2.2.2.2.2.2.2.2.2,Nat.pow_zero]; exact H2.out.1,Below.refl _ _⟩
  case round =>
  obtain ⟨i,av,k,c,hi,rfl,rfl,hN,hB⟩ := hrel
  obtain ⟨w4,rfl⟩ : ∃ w4,w4 = wr := ⟨_,rfl⟩
  have hall := H0.out
  by_cases hin : i < D
  · have hiz : (i : Int) < (D : Int) := by omega
    obtain ⟨D1,hD1⟩ : ∃ D1,D - 1 = D1 := ⟨_,rfl⟩
    obtain ⟨q,hq⟩ : ∃ q,D1 - i = q := ⟨_,rfl⟩
    have hD1z : (D : Int) - 1 = (D1 : Int) := by omega
    have hqz : (D1 : Int) - (i : Int) = (q : Int) := by omega
    have hD1b : (D1 : Int) ≤ 3200000 := by omega
    have hqb : (q : Int) ≤ 3200000 := by omega
    have hq0 : 0 ≤ (q : Int) := by omega
    have hq1 : D - i = q + 1 := by omega
    have hq2 : D - (i + 1) = q := by omega
    have hq3 : q < 32 * m := by omega
    rw [hq1] at hN
    have hlt : (a % md) ^ (e / 2 ^ (q + 1)) % md < md := Nat.mod_lt _ hall.2.2.2.1
    have hkl := hN.mono2 hall.2.2.1 (Nat.le_of_lt hlt)
    obtain ⟨X,hX⟩ : ∃ X,(a % md) ^ (e / 2 ^ (q + 1)) % md = X := ⟨_,rfl⟩
    have hstep := Nt.pow_two (a % md) md (e / 2 ^ (q + 1)) (e / 2 ^ q % 2) (Nat.mod_lt _ (by decide))
    rw [← Nt.half,hX] at hstep
    rw [hX] at hN
    obtain ⟨b,hb⟩ : ∃ b,e / 2 ^ q % 2 = b := ⟨_,rfl⟩
    have hb2 : b < 2 := by rw [← hb]; exact Nat.mod_lt _ (by decide)
    rw [hb] at hstep
    have hBw : Below w.heap.size w w4 := H2.out.2.1.trans (hB.mono H2.out.2.1.size)
    have HV := Lib.hid (And.intro hN (And.intro hB (And.intro hkl (And.intro hb (And.intro hstep (And.intro hq2 (And.intro hq3 hBw)))))))
    have hzz := hall.2.2.1.below hBw
    have HT := Lib.hid (Nt.times_any w4 av av az k c X k c X l cz md hN hN hzz hall.2.2.2.1 (by omega) (by omega) (by omega))
    clear hN hB hkl hb hstep hq1 hq2 hq3 hX hlt hD1 hq hBw hzz hall
    go_wp2_with fail
    go_at_call 110
    refine Calls.mono HT.out ?_
    rintro e5 w5 ⟨a2,k2,c2',rfl,h5,hb5⟩
    have hk2 : k2 ≤ l := h5.mono2 H0.out.2.2.1 (Nat.le_of_lt (Nat.mod_lt _ H0.out.2.2.2.1))
    have hBw5 : Below w.heap.size w w5 := HV.out.2.2.2.2.2.2.2.trans (hb5.mono HV.out.2.2.2.2.2.2.2.size)
    have hB35 : Below w3.heap.size w3 w5 := HV.out.2.1.trans (hb5.mono HV.out.2.1.size)
    have hBt := Nt.bit_any w5 ay m cy e q (H0.out.2.1.below hBw5) (by have := H0.out; omega) HV.out.2.2.2.2.2.2.1
    rw [HV.out.2.2.2.1] at hBt
    have HBt := Lib.hid hBt
    have H5 := Lib.hid (And.intro h5 (And.intro hBw5 (And.intro hB35 hk2)))
    clear hBt h5 hb5 hk2 hBw5 hB35 HT
    have hb01 : b = 0 ∨ b = 1 := by omega
    rcases hb01 with rfl | rfl
    · go_wp2_with fail
      go_at_call 111
      refine Calls.mono HBt.out ?_
      rintro e6 w6 ⟨rfl,rfl⟩
      go_wp2_with fail
      have hst := HV.out.2.2.2.2.1
      rw [if_neg (by decide)] at hst
      exact ⟨⟨i + 1,_,_,_,by omega,rfl,by go_num,by rw [HV.out.2.2.2.2.2.1,← hst]; exact H5.out.1,H5.out.2.2.1⟩,by simp [intOf]; omega⟩
    · have HT2 := Lib.hid (Nt.times_any w5 a2 bx az k2 c2' (X * X % md) k1 c1 (a % md) l cz md H5.out.1 (by have h := H2.out.2.2; exact (h.below H5.out.2.2.1)) (H0.out.2.2.1.below H5.out.2.1) H0.out.2.2.2.1 (by have := H5.out.2.2.2; have := H0.out; omega) (by
        have h := H1.out.1.mono2 H0.out.2.2.1 (Nat.le_of_lt (Nat.mod_lt _ H0.out.2.2.2.1))
        have := H0.out
        omega) (by have := H0.out; omega))
      go_wp2_with fail
      go_at_call 111
      refine Calls.mono HBt.out ?_
      rintro e6 w6 ⟨rfl,rfl⟩
      go_wp2_with fail
      go_at_call 110
      refine Calls.mono HT2.out ?_
      rintro e7 w7 ⟨a3,k3,c3,rfl,h7,hb7⟩
      have H7 := Lib.hid (And.intro h7 hb7)
      clear h7 hb7
      go_wp2_with fail
      have hst := HV.out.2.2.2.2.1
      rw [if_pos (by trivial)] at hst
      exact ⟨⟨i + 1,_,_,_,by omega,rfl,by go_num,by rw [HV.out.2.2.2.2.2.1,← hst]; exact H7.out.1,H5.out.2.2.1.trans (H7.out.2.mono H5.out.2.2.1.size)⟩,by simp [intOf]; omega⟩
  · have hie : i = D := by omega
    have hiz : ¬ (i : Int) < (D : Int) := by omega
    rw [hie,Nat.sub_self,Nat.pow_zero,Nat.div_one,← Nat.pow_mod] at hN
    have HE := Lib.hid (And.intro hN hB)
    clear hN hB hie hall
    go_wp2_with fail
    go_ret2
    exact ⟨_,_,_,rfl,HE.out.1,H2.out.2.1.trans (HE.out.2.mono H2.out.2.1.size)⟩
end
section
open Go.RowKit

/-- The byte under way to the inverse of c. -/
def Nt.ib (c : Nat) : Nat → Nat
  | 0 => c
  | i + 1 => Nt.ib c i * ((258 - c * Nt.ib c i % 256) % 256) % 256
end
end
section
open Go.RowKit

/-- The sign that the factors have. -/
def Nt.sg (mn : Bool) : Int := if mn then 1 else -1
/-- Numbers under way. -/
structure Nt.Euc (a md high low hb lb : Nat) (mn : Bool) : Prop where
  gcd : Nat.gcd high low = Nat.gcd a md
  pos : 0 < high
  det : hb * low + lb * high = md
  hbl : hb ≤ md
  hl : high ≤ md
  ll : low ≤ md
  h1 : (md : Int) ∣ (high : Int) + Nt.sg mn * ((hb * a : Nat) : Int)
  h2 : (md : Int) ∣ (low : Int) - Nt.sg mn * ((lb * a : Nat) : Int)
theorem Nt.Euc.start (a md : Nat) (h : 0 < md) : Nt.Euc a md md (a % md) 0 1 true := by
  refine ⟨?_,h,by omega,Nat.zero_le _,Nat.le_refl _,Nat.le_of_lt (Nat.mod_lt _ h),?_,?_⟩
  · rw [Nat.gcd_comm a md]
    exact (Nat.gcd_comm _ _).trans (Nat.gcd_rec md a).symm
  · rw [Nat.zero_mul]
    simp [Nt.sg]
  · have e : ((a % md : Nat) : Int) - Nt.sg true * ((1 * a : Nat) : Int) = -((md : Int) * ((a / md : Nat) : Int)) := by
      have h1 := Nat.div_add_mod a md
      have h2 : ((md * (a / md) + a % md : Nat) : Int) = (a : Int) := by rw [h1]
      rw [Int.natCast_add,Int.natCast_mul] at h2
      rw [Nat.one_mul]
      simp only [Nt.sg,if_true,Int.one_mul]
      omega
    rw [e]
    exact Int.dvd_neg.2 ⟨_,rfl⟩
theorem Nt.Euc.lbl {a md high low hb lb : Nat} {mn : Bool} (h : Nt.Euc a md high low hb lb mn) : lb ≤ md := by
  have h1 := h.det
  have h2 : lb ≤ lb * high := Nat.le_mul_of_pos_right _ h.pos
  omega
theorem Nt.Euc.step {a md high low hb lb : Nat} {mn : Bool} (h : Nt.Euc a md high low hb lb mn) (hl : 0 < low) : Nt.Euc a md low (high % low) lb (hb + high / low * lb) (!mn) := by
  have hd := Nat.div_add_mod high low
  have hm := Nat.mod_lt high hl
  obtain ⟨q,hq⟩ : ∃ q,high / low = q := ⟨_,rfl⟩
  obtain ⟨r,hr⟩ : ∃ r,high % low = r := ⟨_,rfl⟩
  rw [hq,hr] at hd ⊢
  rw [hr] at hm
  refine ⟨?_,hl,?_,h.lbl,h.ll,Nat.le_trans (Nat.le_of_lt hm) h.ll,?_,?_⟩
  · rw [← h.gcd,← hr,Nat.gcd_comm low]
    exact (Nat.gcd_rec low high).symm.trans (Nat.gcd_comm _ _)
  · have h1 := h.det
    rw [← hd,Nat.mul_add] at h1
    rw [Nat.add_mul,Nat.mul_right_comm q lb low,Nat.mul_comm q low]
    rw [← Nat.mul_assoc,Nat.mul_comm lb low,Nat.mul_assoc low lb q,Nat.mul_comm lb q,← Nat.mul_assoc] at h1
    omega
  · have h2 := h.h2
    have e : Nt.sg (!mn) = -Nt.sg mn := by cases mn <;> rfl
    rw [e,Int.neg_mul]
    exact h2
  · have h1 := h.h1
    have h2 : (md : Int) ∣ (q : Int) * ((low : Int) - Nt.sg mn * ((lb * a : Nat) : Int)) := by
      obtain ⟨z,hz⟩ := h.h2
      exact ⟨(q : Int) * z,by rw [hz,Int.mul_left_comm]⟩
    have h3 := Int.dvd_sub h1 h2
    have e : Nt.sg (!mn) = -Nt.sg mn := by cases mn <;> rfl
    have e2 : (((hb + q * lb) * a : Nat) : Int) = ((hb * a : Nat) : Int) + (q : Int) * ((lb * a : Nat) : Int) := by
      rw [Nat.add_mul,Nat.mul_assoc,Int.natCast_add,Int.natCast_mul q]
    have e3 : (high : Int) = (low : Int) * (q : Int) + (r : Int) := by rw [← hd,Int.natCast_add,Int.natCast_mul]
    rw [e,e2]
    have e4 : (r : Int) - -Nt.sg mn * (((hb * a : Nat) : Int) + (q : Int) * ((lb * a : Nat) : Int)) = (high : Int) + Nt.sg mn * ((hb * a : Nat) : Int) - (q : Int) * ((low : Int) - Nt.sg mn * ((lb * a : Nat) : Int)) := by
      rw [e3,Int.mul_sub,Int.mul_comm (low : Int),Int.neg_mul,Int.mul_add,Int.mul_left_comm (q : Int) (Nt.sg mn)]
      omega
    rw [e4]
    exact h3
/-- What Euclid ends with. -/
theorem Nt.Euc.done {a md high hb lb : Nat} {mn : Bool} (h : Nt.Euc a md high 0 hb lb mn) (h1 : high = 1) : Nat.gcd a md = 1 ∧ (if mn then md - hb else hb) % md * a % md = 1 % md := by
  constructor
  · rw [← h.gcd,h1]; rfl
  · rw [Nat.mod_mul_mod]
    have hd := h.h1
    rw [h1] at hd
    cases mn
    · simp only [Nt.sg,Bool.false_eq_true,if_false] at hd ⊢
      obtain ⟨k,hk⟩ := hd
      have e : ((hb * a : Nat) : Int) % (md : Int) = (1 : Int) % (md : Int) := by
        have : ((hb * a : Nat) : Int) = 1 + (md : Int) * (-k) := by rw [Int.mul_neg]; omega
        rw [this,Int.add_mul_emod_self_left]
      have e2 : ((hb * a % md : Nat) : Int) = ((1 % md : Nat) : Int) := by
        rw [Int.natCast_emod,e]; rfl
      exact Int.ofNat.inj e2
    · simp only [Nt.sg,if_true,Int.one_mul] at hd ⊢
      have hd2 : md ∣ 1 + hb * a := by
        have : ((md : Nat) : Int) ∣ ((1 + hb * a : Nat) : Int) := by rw [Int.natCast_add]; exact hd
        exact Int.natCast_dvd_natCast.1 this
      obtain ⟨z,hz⟩ := hd2
      have e : (md - hb) * a + md * z = 1 + md * a := by
        have h3 := h.hbl
        rw [← hz,Nat.sub_mul]
        have : hb * a ≤ md * a := Nat.mul_le_mul_right _ h3
        omega
      have e2 := congrArg (· % md) e
      simp only [Nat.add_mul_mod_self_left] at e2
      exact e2
def Nt.Inv (w' : World) (v : Value) (a md R : Nat) : Prop := (Nat.gcd a md = 1 ∧ R < md ∧ R * a % md = 1 % md ∧ v = .nilIface) ∨ (Nat.gcd a md ≠ 1 ∧ R = 0 ∧ Nt.Err w' v 33)
end
end
section
open Go.RowKit

def Nt.PowP (a e md R K : Nat) : Prop := (md = 0 ∧ R = 0 ∧ K = 31) ∨ (0 < md ∧ R = a ^ e % md ∧ K = 0)
def Nt.MontP (a b md R K : Nat) : Prop := (md = 0 ∧ R = 0 ∧ K = 31) ∨ (0 < md ∧ md % 2 = 0 ∧ R = 0 ∧ K = 34) ∨ (md % 2 = 1 ∧ R < md ∧ R * 256 ^ Nt.by md % md = a * b % md ∧ K = 0)
def Nt.InvP (a md R K : Nat) : Prop := (md = 0 ∧ R = 0 ∧ K = 31) ∨ (0 < md ∧ Nat.gcd a md ≠ 1 ∧ R = 0 ∧ K = 33) ∨ (0 < md ∧ Nat.gcd a md = 1 ∧ R < md ∧ R * a % md = 1 % md ∧ K = 0)
theorem Nt.power_all (w : World) (ok : Nt.Ok w) (ax ay az : Option Addr) (n cx a m cy e l cz md : Nat) (hx : Nt.Num w ax n cx a) (hy : Nt.Num w ay m cy e) (hz : Nt.Num w az l cz md) (hn : n ≤ 100000) (hm : m ≤ 100000) (hl : l ≤ 100000) :
    Calls Tryz.prog 91 #[.slice ax n cx,.slice ay m cy,.slice az l cz] w fun e' w' => ∃ av k c v R K,e' = .returned (.tuple #[.slice av k c,v]) ∧ Nt.Num w' av k c R ∧ Nt.Err w' v K ∧ Nt.PowP a e md R K ∧ k ≤ l ∧ Below w.heap.size w w' := by
  rcases Nat.eq_zero_or_pos md with h0 | h0
  · have hl0 := hz.zero.2 h0
    subst hl0
    refine (Nt.power_zero w ok _ _ az cz).mono ?_
    rintro e' w' ⟨v,rfl,hE,hb⟩
    exact ⟨_,_,_,_,0,31,rfl,Nt.Num.nil _,hE,.inl ⟨h0,rfl,rfl⟩,Nat.le_refl _,hb⟩
  · refine (Nt.power_any w ax ay az n cx a m cy e l cz md hx hy hz h0 hn hm hl).mono ?_
    rintro e' w' ⟨av,k,c,rfl,hN,hb⟩
    exact ⟨_,_,_,_,_,0,rfl,hN,.inl ⟨rfl,rfl⟩,.inr ⟨h0,rfl,rfl⟩,hN.mono2 hz (Nat.le_of_lt (Nat.mod_lt _ h0)),hb⟩
set_option maxHeartbeats 1000000 in
set_option maxRecDepth 100000 in
theorem Nt.ofThree_power (w : World) (ok : Nt.Ok w) (s t r : ByteArray) (hs : s.size ≤ 512) (ht : t.size ≤ 512) (hr : r.size ≤ 512) :
    Calls Tryz.prog 90 #[Value.func (Fn.func 91) #[] #[],.string s,.string t,.string r] w fun e w' => ∃ R K : Nat,e = .returned (.tuple #[.string ⟨(Nt.fm R).toArray⟩,.int .i64 (K : Int)]) ∧ Nt.PowP (Nt.nv s) (Nt.nv t) (Nt.nv r) R K ∧ Below w.heap.size w w' := by
  have HS := Lib.hid (And.intro ok (And.intro hs (And.intro ht hr)))
  clear ok hs ht hr
  go_enter Tryz.func90,Tryz.ntmps90
  go_wp2_with fail
  go_at_call 105
  refine Calls.mono (Nt.readTwo_ok w s t HS.out.2.1 HS.out.2.2.1) ?_
  rintro e1 w1 ⟨ax,n,cx,ay,m,cy,rfl,h1,h2,hn,hm,hb⟩
  have H1 := Lib.hid (And.intro h1 (And.intro h2 (And.intro hn (And.intro hm hb))))
  clear h1 h2 hn hm hb
  go_wp2_with fail
  go_at_call 106
  refine Calls.mono (Nt.read_ok w1 r HS.out.2.2.2) ?_
  rintro e2 w2 ⟨az,l,cz,rfl,h3,hb2⟩
  have hl := h3.bytes 128 r.size (Nt.nv_lt r) HS.out.2.2.2
  have H2 := Lib.hid (And.intro h3 (And.intro hb2 hl))
  clear h3 hb2 hl
  go_wp2_with fail
  refine Calls.mono (Nt.power_all w2 ((HS.out.1.below H1.out.2.2.2.2).below H2.out.2.1) ax ay az n cx (Nt.nv s) m cy (Nt.nv t) l cz (Nt.nv r) (H1.out.1.below H2.out.2.1) (H1.out.2.1.below H2.out.2.1) H2.out.1 (by have := H1.out.2.2.1; omega) (by have := H1.out.2.2.2.1; omega) (by have := H2.out.2.2; omega)) ?_
  rintro e3 w3 ⟨av,k,c,v,R,K,rfl,hN,hE,hP,hk,hb3⟩
  have H3 := Lib.hid (And.intro hN (And.intro hE (And.intro hP (And.intro hk hb3))))
  clear hN hE hP hk hb3
  go_wp2_with fail
  go_at_call 107
  refine Calls.mono (Nt.form_any w3 av k c R H3.out.1 (by have := H3.out.2.2.2.1; have := H2.out.2.2; omega)) ?_
  rintro e4 w4 ⟨rfl,hb4⟩
  have H4 := Lib.hid hb4
  clear hb4
  go_wp2_with fail
  go_at_call 93
  refine Calls.mono (Nt.told_any w4 ((((HS.out.1.below H1.out.2.2.2.2).below H2.out.2.1).below H3.out.2.2.2.2).below H4.out) _ K (H3.out.2.1.below H4.out)) ?_
  rintro e5 w5 ⟨rfl,rfl⟩
  go_wp2_with fail
  go_ret2
  have hs1 := H1.out.2.2.2.2.size
  have hs2 := Nat.le_trans hs1 H2.out.2.1.size
  have hs3 := Nat.le_trans hs2 H3.out.2.2.2.2.size
  exact ⟨R,K,rfl,H3.out.2.2.1,((H1.out.2.2.2.2.trans (H2.out.2.1.mono hs1)).trans (H3.out.2.2.2.2.mono hs2)).trans (H4.out.mono hs3)⟩
set_option maxRecDepth 100000 in
theorem Nt.Pow_ok (w : World) (ok : Nt.Ok w) (s t r : ByteArray) (hs : s.size ≤ 512) (ht : t.size ≤ 512) (hr : r.size ≤ 512) :
    Calls Tryz.prog 63 #[.string s,.string t,.string r] w fun e w' => ∃ R K : Nat,e = .returned (.tuple #[.string ⟨(Nt.fm R).toArray⟩,.int .i64 (K : Int)]) ∧ Nt.PowP (Nt.nv s) (Nt.nv t) (Nt.nv r) R K ∧ Below w.heap.size w w' := by
  have HC := Lib.hid (Nt.ofThree_power w ok s t r hs ht hr)
  clear ok hs ht hr
  go_enter Tryz.func63,Tryz.ntmps63
  go_wp2_with fail
  go_at_call 90
  refine Calls.mono HC.out ?_
  rintro e1 w1 ⟨R,K,rfl,hP,hb⟩
  have H1 := Lib.hid (And.intro hP hb)
  clear hP hb
  go_wp2_with fail
  go_ret2
  exact ⟨R,K,rfl,H1.out.1,H1.out.2⟩
end
end
section
open Go.RowKit
/-- A signature to the power E, as bytes. -/
def Rs.opened (n e sig : ByteArray) : ByteArray := Nt.pd (Nt.nv sig ^ Nt.nv e % Nt.nv n) n.size
theorem Rs.odd_small (a : ByteArray) (l m k : Nat) (h : Rs.odd a l m) (hm : m + 7 ≤ 8 * k) : a.size ≤ k := by
  have h1 := Nt.ts_size a
  rw [h.2.2.1] at h1
  rw [h1]
  unfold Nt.by
  have := h.2.1
  omega
theorem Rs.odd_pos (a : ByteArray) (l m : Nat) (h : Rs.odd a l m) : 0 < Nt.nv a := by
  have := h.2.2.2
  omega
set_option maxHeartbeats 2000000 in
set_option maxRecDepth 100000 in
theorem Rs.open_bad (w : World) (ok : Rs.Ok w) (n e sig : ByteArray) (hn : n.size ≤ 150000000000000) (he : e.size ≤ 150000000000000) (hg : Rs.bad n e) :
    Calls Tryz.prog 35 #[.agg #[.string n,.string e],.string sig] w fun r w' => ∃ v,r = .returned (.tuple #[.string ⟨#[]⟩,v]) ∧ Rs.Err w' v 40 ∧ Below w.heap.size w w' := by
  have HC := Lib.hid (Rs.boxed w ok n e hn he)
  rw [if_pos hg] at HC
  clear ok hg
  go_enter Tryz.func35,Tryz.ntmps35
  go_wp2_with fail
  go_at_call 36
  refine Calls.mono HC.out ?_
  rintro r w1 ⟨v,rfl,hE,hO,c0,c1,hb⟩
  obtain ⟨T,x,rfl⟩ := hE.some (by decide)
  have H1 := Lib.hid (And.intro hE hb)
  clear hE hO hb c0 c1
  go_wp2_with fail
  go_ret2
  exact ⟨_,rfl,H1.out.1,H1.out.2⟩
set_option maxHeartbeats 2000000 in
set_option maxRecDepth 100000 in
theorem Rs.open_value (w : World) (ok : Rs.Ok w) (n e sig : ByteArray) (hn : n.size ≤ 150000000000000) (he : e.size ≤ 150000000000000) (hg : ¬ Rs.bad n e) (hz : sig.size = n.size) (hv : Nt.nv n ≤ Nt.nv sig) :
    Calls Tryz.prog 35 #[.agg #[.string n,.string e],.string sig] w fun r w' => ∃ v,r = .returned (.tuple #[.string ⟨#[]⟩,v]) ∧ Rs.Err w' v 41 ∧ Below w.heap.size w w' := by
  have HC := Lib.hid (Rs.boxed w ok n e hn he)
  rw [if_neg hg] at HC
  have hzz : (sig.size : Int) = (n.size : Int) := by omega
  have hcmp : ∃ r : Int,0 ≤ r ∧ ∀ W,Calls Tryz.prog 62 #[.string sig,.string n] W fun x w' => x = .returned (.int .i64 r) ∧ w' = W := by
    refine ⟨_,?_,fun W => Nt.Cmp_any W sig n (by omega) (by omega)⟩
    unfold Nt.cmp
    rw [if_neg (by omega)]
    split <;> decide
  obtain ⟨r,hr,hcmp⟩ := hcmp
  have HM := Lib.hid hcmp
  clear ok hg hz hv hcmp
  go_enter Tryz.func35,Tryz.ntmps35
  go_wp2_with fail
  go_at_call 36
  refine Calls.mono HC.out ?_
  rintro x w1 ⟨v,rfl,hE,hO,c0,c1,hb⟩
  obtain rfl := hE.none
  obtain ⟨a,hv⟩ := hO.2 41 (by decide) (by decide)
  have hx : w1.cell? ⟨1,0,none⟩ = some (.iface 200 (.pointer (some a))) := hv.var
  have H1 := Lib.hid (And.intro hv hb)
  clear hE hO hv hb
  go_wp2_with fail
  go_at_call 62
  refine Calls.mono (HM.out _) ?_
  rintro x w1 ⟨rfl,rfl⟩
  go_wp2_with fail
  go_quiet (fail)
  go_wp2_with fail
  go_ret2
  exact ⟨_,rfl,.inr ⟨by decide,by decide,a,1,.about _ .leaf,H1.out.1.below (below_drewN (Below.refl _ _) _)⟩,H1.out.2.trans (below_drewN (Below.refl _ _) _)⟩
set_option maxHeartbeats 2000000 in
set_option maxRecDepth 100000 in
theorem Rs.open_ok (w : World) (ok : Rs.Ok w) (n e sig : ByteArray) (hn : n.size ≤ 150000000000000) (he : e.size ≤ 150000000000000) (hg : ¬ Rs.bad n e) (hz : sig.size = n.size) (hv : Nt.nv sig < Nt.nv n) :
    Calls Tryz.prog 35 #[.agg #[.string n,.string e],.string sig] w fun r w' => r = .returned (.tuple #[.string (Rs.opened n e sig),.nilIface]) ∧ Below w.heap.size w w' := by
  have HC := Lib.hid (Rs.boxed w ok n e hn he)
  rw [if_neg hg] at HC
  have hgg : Rs.odd n 512 2048 ∧ Rs.odd e 2 32 := Decidable.not_not.1 hg
  have sn := Rs.odd_small n _ _ 257 hgg.1 (by decide)
  have se := Rs.odd_small e _ _ 5 hgg.2 (by decide)
  have pn := Rs.odd_pos n _ _ hgg.1
  have hzz : (sig.size : Int) = (n.size : Int) := by omega
  have hcmp : ∀ W,Calls Tryz.prog 62 #[.string sig,.string n] W fun x w' => x = .returned (.int .i64 (-1)) ∧ w' = W := fun W => by
    have h := Nt.Cmp_any W sig n (by omega) (by omega)
    unfold Nt.cmp at h
    rw [if_pos hv] at h
    exact h
  obtain ⟨R,hR⟩ : ∃ R,Nt.nv sig ^ Nt.nv e % Nt.nv n = R := ⟨_,rfl⟩
  obtain ⟨X,hX⟩ : ∃ X : ByteArray,⟨(Nt.fm R).toArray⟩ = X := ⟨_,rfl⟩
  have hXn : Nt.nv X = R := by rw [← hX]; exact Nt.rd_fm R
  have hpow : ∀ W,Nt.Ok W → Calls Tryz.prog 63 #[.string sig,.string e,.string n] W fun x w' => x = .returned (.tuple #[.string X,.int .i64 0]) ∧ Below W.heap.size W w' := fun W hW => by
    refine (Nt.Pow_ok W hW sig e n (by omega) (by omega) (by omega)).mono ?_
    rintro x w1 ⟨R2,K,rfl,hP,hb⟩
    rcases hP with ⟨h,_⟩ | ⟨_,rfl,rfl⟩
    · omega
    · rw [hR,hX]; exact ⟨rfl,hb⟩
  have hpad : ∀ W,Calls Tryz.prog 64 #[.string X,.int .i64 (n.size : Int)] W fun x w' => x = .returned (.tuple #[.string (Rs.opened n e sig),.int .i64 0]) ∧ Below W.heap.size W w' := fun W => by
    have h := Nt.Pad_ok W X n.size (by omega) (by
      rw [hXn,← hR]
      exact Nt.by_le _ _ (Nat.lt_trans (Nat.mod_lt _ pn) (Nt.nv_lt n)))
    rw [hXn,← hR] at h
    exact h
  obtain ⟨O,hO⟩ : ∃ O,Rs.opened n e sig = O := ⟨_,rfl⟩
  rw [hO] at hpad ⊢
  have HM := Lib.hid (And.intro hcmp (And.intro hpow hpad))
  clear ok hg hz hv hcmp hpow hpad hgg sn se pn hR hX hXn hO
  go_enter Tryz.func35,Tryz.ntmps35
  go_wp2_with fail
  go_at_call 36
  refine Calls.mono HC.out ?_
  rintro x w1 ⟨v,rfl,hE,hO,c0,c1,hb⟩
  obtain rfl := hE.none
  have H1 := Lib.hid (And.intro hO (And.intro c0 (And.intro c1 hb)))
  clear hE hO hb
  go_wp2_with fail
  go_at_call 62
  refine Calls.mono (HM.out.1 _) ?_
  rintro x w1 ⟨rfl,rfl⟩
  go_wp2_with fail
  go_at_call 63
  refine Calls.mono (HM.out.2.1 _ H1.out.1.1) ?_
  rintro x w2 ⟨rfl,hb⟩
  have H2 := Lib.hid (H1.out.2.2.2.trans (hb.mono H1.out.2.2.2.size))
  clear hb c0 c1
  go_wp2_with fail
  go_at_call 64
  refine Calls.mono (HM.out.2.2 _) ?_
  rintro x w3 ⟨rfl,hb⟩
  have H3 := Lib.hid (H2.out.trans (hb.mono H2.out.size))
  clear hb
  go_wp2_with fail
  go_ret2
  exact ⟨rfl,H3.out⟩
end
end Go.Proofs.YthlecdggkolgmaaGreatDoor
