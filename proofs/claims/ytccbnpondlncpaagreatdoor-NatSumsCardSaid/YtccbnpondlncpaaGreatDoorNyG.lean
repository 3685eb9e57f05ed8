/- inverse: Euclid. -/
import Derived.Test.YtccbnpondlncpaaGreatDoorNyE
import Derived.Deep.LoopGhost
namespace Go.Proofs.YtccbnpondlncpaaGreatDoor
open Go.RowKit

/-- The sign that the factors have. -/
def Nt.sg (mn : Bool) : Int := if mn then 1 else -1
/-- Numbers under way. -/
structure Nt.Euc (a md high low hb lb : Nat) (mn : Bool) : Prop where
  gcd : Nat.gcd high low = Nat.gcd a md
  pos : 0 < high
  det : hb * low + lb * high = md
  hbl : hb ≤ md
  hl : high ≤ md
  ll : low ≤ md
  h1 : (md : Int) ∣ (high : Int) + Nt.sg mn * ((hb * a : Nat) : Int)
  h2 : (md : Int) ∣ (low : Int) - Nt.sg mn * ((lb * a : Nat) : Int)
theorem Nt.Euc.start (a md : Nat) (h : 0 < md) : Nt.Euc a md md (a % md) 0 1 true := by
  refine ⟨?_, h, by omega, Nat.zero_le _, Nat.le_refl _, Nat.le_of_lt (Nat.mod_lt _ h), ?_, ?_⟩
  · rw [Nat.gcd_comm a md]
    exact (Nat.gcd_comm _ _).trans (Nat.gcd_rec md a).symm
  · rw [Nat.zero_mul]
    simp [Nt.sg]
  · have e : ((a % md : Nat) : Int) - Nt.sg true * ((1 * a : Nat) : Int) = -((md : Int) * ((a / md : Nat) : Int)) := by
      have h1 := Nat.div_add_mod a md
      have h2 : ((md * (a / md) + a % md : Nat) : Int) = (a : Int) := by rw [h1]
      rw [Int.natCast_add, Int.natCast_mul] at h2
      rw [Nat.one_mul]
      simp only [Nt.sg, if_true, Int.one_mul]
      omega
    rw [e]
    exact Int.dvd_neg.2 ⟨_, rfl⟩
theorem Nt.Euc.lbl {a md high low hb lb : Nat} {mn : Bool} (h : Nt.Euc a md high low hb lb mn) : lb ≤ md := by
  have h1 := h.det
  have h2 : lb ≤ lb * high := Nat.le_mul_of_pos_right _ h.pos
  omega
theorem Nt.Euc.step {a md high low hb lb : Nat} {mn : Bool} (h : Nt.Euc a md high low hb lb mn) (hl : 0 < low) : Nt.Euc a md low (high % low) lb (hb + high / low * lb) (!mn) := by
  have hd := Nat.div_add_mod high low
  have hm := Nat.mod_lt high hl
  obtain ⟨q, hq⟩ : ∃ q, high / low = q := ⟨_, rfl⟩
  obtain ⟨r, hr⟩ : ∃ r, high % low = r := ⟨_, rfl⟩
  rw [hq, hr] at hd ⊢
  rw [hr] at hm
  refine ⟨?_, hl, ?_, h.lbl, h.ll, Nat.le_trans (Nat.le_of_lt hm) h.ll, ?_, ?_⟩
  · rw [← h.gcd, ← hr, Nat.gcd_comm low]
    exact (Nat.gcd_rec low high).symm.trans (Nat.gcd_comm _ _)
  · have h1 := h.det
    rw [← hd, Nat.mul_add] at h1
    rw [Nat.add_mul, Nat.mul_right_comm q lb low, Nat.mul_comm q low]
    rw [← Nat.mul_assoc, Nat.mul_comm lb low, Nat.mul_assoc low lb q, Nat.mul_comm lb q, ← Nat.mul_assoc] at h1
    omega
  · have h2 := h.h2
    have e : Nt.sg (!mn) = -Nt.sg mn := by cases mn <;> rfl
    rw [e, Int.neg_mul]
    exact h2
  · have h1 := h.h1
    have h2 : (md : Int) ∣ (q : Int) * ((low : Int) - Nt.sg mn * ((lb * a : Nat) : Int)) := by
      obtain ⟨z, hz⟩ := h.h2
      exact ⟨(q : Int) * z, by rw [hz, Int.mul_left_comm]⟩
    have h3 := Int.dvd_sub h1 h2
    have e : Nt.sg (!mn) = -Nt.sg mn := by cases mn <;> rfl
    have e2 : (((hb + q * lb) * a : Nat) : Int) = ((hb * a : Nat) : Int) + (q : Int) * ((lb * a : Nat) : Int) := by
      rw [Nat.add_mul, Nat.mul_assoc, Int.natCast_add, Int.natCast_mul q]
    have e3 : (high : Int) = (low : Int) * (q : Int) + (r : Int) := by rw [← hd, Int.natCast_add, Int.natCast_mul]
    rw [e, e2]
    have e4 : (r : Int) - -Nt.sg mn * (((hb * a : Nat) : Int) + (q : Int) * ((lb * a : Nat) : Int)) = (high : Int) + Nt.sg mn * ((hb * a : Nat) : Int) - (q : Int) * ((low : Int) - Nt.sg mn * ((lb * a : Nat) : Int)) := by
      rw [e3, Int.mul_sub, Int.mul_comm (low : Int), Int.neg_mul, Int.mul_add, Int.mul_left_comm (q : Int) (Nt.sg mn)]
      omega
    rw [e4]
    exact h3
/-- What Euclid ends with. -/
theorem Nt.Euc.done {a md high hb lb : Nat} {mn : Bool} (h : Nt.Euc a md high 0 hb lb mn) (h1 : high = 1) : Nat.gcd a md = 1 ∧ (if mn then md - hb else hb) % md * a % md = 1 % md := by
  constructor
  · rw [← h.gcd, h1]; rfl
  · rw [Nat.mod_mul_mod]
    have hd := h.h1
    rw [h1] at hd
    cases mn
    · simp only [Nt.sg, Bool.false_eq_true, if_false] at hd ⊢
      obtain ⟨k, hk⟩ := hd
      have e : ((hb * a : Nat) : Int) % (md : Int) = (1 : Int) % (md : Int) := by
        have : ((hb * a : Nat) : Int) = 1 + (md : Int) * (-k) := by rw [Int.mul_neg]; omega
        rw [this, Int.add_mul_emod_self_left]
      have e2 : ((hb * a % md : Nat) : Int) = ((1 % md : Nat) : Int) := by
        rw [Int.natCast_emod, e]; rfl
      exact Int.ofNat.inj e2
    · simp only [Nt.sg, if_true, Int.one_mul] at hd ⊢
      have hd2 : md ∣ 1 + hb * a := by
        have : ((md : Nat) : Int) ∣ ((1 + hb * a : Nat) : Int) := by rw [Int.natCast_add]; exact hd
        exact Int.natCast_dvd_natCast.1 this
      obtain ⟨z, hz⟩ := hd2
      have e : (md - hb) * a + md * z = 1 + md * a := by
        have h3 := h.hbl
        rw [← hz, Nat.sub_mul]
        have : hb * a ≤ md * a := Nat.mul_le_mul_right _ h3
        omega
      have e2 := congrArg (· % md) e
      simp only [Nat.add_mul_mod_self_left] at e2
      exact e2
theorem Nt.dig_one (x : Nat) (hx : 0 < x) : Nt.dig x = 1 ↔ x = 1 := by
  constructor
  · intro h
    have := Nt.dig_lt x
    rw [h] at this
    omega
  · rintro rfl
    exact Nt.dig_spec 1 0 (by decide) (by decide)
set_option maxHeartbeats 1000000 in
set_option maxRecDepth 100000 in
theorem Nt.inverse_zero (w : World) (ok : Nt.Ok w) (v0 : Value) (az : Option Addr) (cz : Nat) :
    Calls Tryz.prog 49 #[v0, .slice az 0 cz] w fun e w' => ∃ v, e = .returned (.tuple #[.slice none 0 0, v]) ∧ Nt.Err w' v 31 ∧ Below w.heap.size w w' := by
  obtain ⟨a, hv⟩ := ok 31 (by decide) (by decide)
  have hc : w.cell? ⟨2, 0, none⟩ = some (.iface 142 (.pointer (some a))) := hv.var
  have HV := Lib.hid hv
  clear hv ok
  go_enter Tryz.func49, Tryz.ntmps49
  go_wp2_with fail
  go_quiet (fail)
  go_wp2_with fail
  go_ret2
  exact ⟨_, rfl, .inr ⟨by decide, by decide, a, rfl, HV.out.below (Tx.drewNb w _)⟩, Tx.drewNb w _⟩
def Nt.Inv (w' : World) (v : Value) (a md R : Nat) : Prop := (Nat.gcd a md = 1 ∧ R < md ∧ R * a % md = 1 % md ∧ v = .nilIface) ∨ (Nat.gcd a md ≠ 1 ∧ R = 0 ∧ Nt.Err w' v 33)
set_option maxHeartbeats 2000000 in
set_option maxRecDepth 100000 in
theorem Nt.inverse_any (w : World) (ok : Nt.Ok w) (ax az : Option Addr) (n cx a l cz md : Nat) (hx : Nt.Num w ax n cx a) (hz : Nt.Num w az l cz md) (hmd : 0 < md) (hn : n ≤ 100000) (hl : l ≤ 100000) :
    Calls Tryz.prog 49 #[.slice ax n cx, .slice az l cz] w fun e' w' => ∃ av k c v R, e' = .returned (.tuple #[.slice av k c, v]) ∧ Nt.Num w' av k c R ∧ Nt.Inv w' v a md R ∧ Below w.heap.size w w' := by
  have hl0 : ((l : Int) == 0) = false := by
    rw [beq_eq_false_iff_ne]
    intro h
    have := hz.zero.1 (by omega)
    omega
  have H0 := Lib.hid (And.intro hx (And.intro hz (And.intro hmd (And.intro hn (And.intro hl ok)))))
  clear hx hz hmd hn hl ok
  go_enter Tryz.func49, Tryz.ntmps49
  go_wp2_with fail
  go_at_call 70
  refine Calls.mono (Nt.leftOf_any w ax az n cx a l cz md H0.out.1 H0.out.2.1 H0.out.2.2.1 (by have := H0.out; omega) (by have := H0.out; omega)) ?_
  rintro e1 w1 ⟨bx, k1, c1, rfl, h1, hb1⟩
  have H1 := Lib.hid (And.intro h1 hb1)
  clear h1 hb1
  go_wp2_with fail
  have hone := Nt.Num.one (heap_alloc_new w1 (Obj.cells #[Value.int IntKind.u32 1] 75))
  have hB1 : Below w1.heap.size w1 (w1.alloc (Obj.cells #[Value.int IntKind.u32 1] 75)) := (Below.refl _ _).alloc (Nat.le_refl _) _
  obtain ⟨g, hg⟩ : ∃ g, w1.heap.size = g := ⟨_, rfl⟩
  revert hone hB1
  generalize w1.alloc (Obj.cells #[Value.int IntKind.u32 1] 75) = w2
  intro hone hB1
  rw [hg] at hone ⊢
  have hB2 : Below w.heap.size w w2 := H1.out.2.trans (hB1.mono H1.out.2.size)
  have H2 := Lib.hid (And.intro hone (And.intro hB2 (H1.out.1.below hB1)))
  clear hone hB1 hg hB2
  go_loopg [6, 7, 8, 9, 10] (md + 1) (fun gk hv lv hbv lbv mv wx => ∃ ah nh ch high al nl cl low ab nb cb hb ac nc cc lb mn, hv = .slice ah nh ch ∧ lv = .slice al nl cl ∧ hbv = .slice ab nb cb ∧ lbv = .slice ac nc cc ∧ mv = .bool mn ∧ Nt.Num wx ah nh ch high ∧ Nt.Num wx al nl cl low ∧ Nt.Num wx ab nb cb hb ∧ Nt.Num wx ac nc cc lb ∧ Nt.Euc a md high low hb lb mn ∧ low < gk ∧ Below w.heap.size w wx)
  case atStart => exact ⟨_, _, _, md, _, _, _, a % md, _, _, _, 0, _, _, _, 1, true, rfl, rfl, rfl, rfl, rfl, H0.out.2.1.below H2.out.2.1, H2.out.2.2, Nt.Num.nil _, H2.out.1, Nt.Euc.start a md H0.out.2.2.1, by have := Nat.mod_lt a H0.out.2.2.1; omega, H2.out.2.1⟩
  case round =>
  obtain ⟨ah, nh, ch, high, al, nl, cl, low, ab, nb, cb, hb, ac, nc, cc, lb, mn, rfl, rfl, rfl, rfl, rfl, hH, hLo, hHb, hLb, hE, hgk, hB⟩ := hrel
  have hmdN := H0.out.2.1
  have nh1 := hH.mono2 hmdN hE.hl
  have nl1 := hLo.mono2 hmdN hE.ll
  have nb1 := hHb.mono2 hmdN hE.hbl
  have nc1 := hLb.mono2 hmdN hE.lbl
  have hln := H0.out.2.2.2.2.1
  by_cases hlow : low = 0
  · have hnl : nl = 0 := hLo.zero.2 hlow
    subst hnl
    subst hlow
    have hD := Nt.bits_any wr ah nh ch high hH (by omega)
    obtain ⟨D, eD⟩ : ∃ D, Nt.dig high = D := ⟨_, rfl⟩
    rw [eD] at hD
    have hDb : D ≤ 3200000 := by rw [← eD]; exact Nat.le_trans (Nt.dig_of_lt high (32 * nh) (by rw [Nat.pow_mul]; exact hH.lt)) (by omega)
    have HB := Lib.hid hD
    have HE := Lib.hid (And.intro hH (And.intro hHb (And.intro hE (And.intro hB (And.intro eD (And.intro nb1 hln))))))
    clear hD hH hLo hHb hLb hgk hB nh1 nl1 nb1 nc1 hmdN hln eD
    by_cases hh : high = 1
    · have hd1 : D = 1 := by rw [← HE.out.2.2.2.2.1]; exact (Nt.dig_one high hE.pos).2 hh
      have hdz : ((D : Int) != 1) = false := by rw [hd1]; rfl
      have hdn := hE.done hh
      have HD := Lib.hid (And.intro hdn hd1)
      clear hdn hd1 hE hh
      cases mn
      · go_wp2_with fail
        go_at_call 61
        refine Calls.mono HB.out ?_
        rintro e3 w3 ⟨rfl, rfl⟩
        go_wp2_with fail
        go_at_call 70
        refine Calls.mono (Nt.leftOf_any w3 ab az nb cb hb l cz md HE.out.2.1 (H0.out.2.1.below HE.out.2.2.2.1) H0.out.2.2.1 (by have := HE.out.2.2.2.2.2; omega) (by have := HE.out.2.2.2.2.2; omega)) ?_
        rintro e4 w4 ⟨av, k, c, rfl, h4, hb4⟩
        have H4 := Lib.hid (And.intro h4 hb4)
        clear h4 hb4
        go_wp2_with fail
        go_ret2
        have hd2 := HD.out.1.2
        simp only [Bool.false_eq_true, if_false] at hd2
        exact ⟨_, _, _, _, _, rfl, H4.out.1, .inl ⟨HD.out.1.1, Nat.mod_lt _ H0.out.2.2.1, hd2, rfl⟩, HE.out.2.2.2.1.trans (H4.out.2.mono HE.out.2.2.2.1.size)⟩
      · go_wp2_with fail
        go_at_call 61
        refine Calls.mono HB.out ?_
        rintro e3 w3 ⟨rfl, rfl⟩
        go_wp2_with fail
        go_at_call 59
        refine Calls.mono (Nt.without_any w3 az ab l cz md nb cb hb (H0.out.2.1.below HE.out.2.2.2.1) HE.out.2.1 HE.out.2.2.1.hbl (by have := HE.out.2.2.2.2.2; omega)) ?_
        rintro e5 w5 ⟨bv, k5, c5, rfl, h5, hb5⟩
        have hk5 := h5.mono2 H0.out.2.1 (Nat.sub_le _ _)
        have H5 := Lib.hid (And.intro h5 (And.intro hb5 hk5))
        clear h5 hb5 hk5
        go_wp2_with fail
        go_at_call 70
        refine Calls.mono (Nt.leftOf_any w5 bv az k5 c5 (md - hb) l cz md H5.out.1 ((H0.out.2.1.below HE.out.2.2.2.1).below H5.out.2.1) H0.out.2.2.1 (by have := H5.out.2.2; have := HE.out.2.2.2.2.2; omega) (by have := HE.out.2.2.2.2.2; omega)) ?_
        rintro e4 w4 ⟨av, k, c, rfl, h4, hb4⟩
        have H4 := Lib.hid (And.intro h4 hb4)
        clear h4 hb4
        go_wp2_with fail
        go_ret2
        have hd2 := HD.out.1.2
        simp only [if_true] at hd2
        exact ⟨_, _, _, _, _, rfl, H4.out.1, .inl ⟨HD.out.1.1, Nat.mod_lt _ H0.out.2.2.1, hd2, rfl⟩, (HE.out.2.2.2.1.trans (H5.out.2.1.mono HE.out.2.2.2.1.size)).trans (H4.out.2.mono (Nat.le_trans HE.out.2.2.2.1.size H5.out.2.1.size))⟩
    · have hd1 : D ≠ 1 := fun h => hh ((Nt.dig_one high hE.pos).1 (by rw [HE.out.2.2.2.2.1, h]))
      have hdz : ((D : Int) != 1) = true := by rw [bne_iff_ne]; omega
      have hg : Nat.gcd a md ≠ 1 := by rw [← hE.gcd, Nat.gcd_zero_right]; exact hh
      obtain ⟨p, hv⟩ := (H0.out.2.2.2.2.2.below HE.out.2.2.2.1) 33 (by decide) (by decide)
      have hc : wr.cell? ⟨3, 0, none⟩ = some (.iface 142 (.pointer (some p))) := hv.var
      have HV := Lib.hid (And.intro hv hg)
      clear hv hg hd1 hE hh
      go_wp2_with fail
      go_at_call 61
      refine Calls.mono HB.out ?_
      rintro e3 w3 ⟨rfl, rfl⟩
      go_wp2_with fail
      go_quiet (fail)
      go_wp2_with fail
      go_ret2
      exact ⟨_, _, _, _, _, rfl, Nt.Num.nil _, .inr ⟨HV.out.2, rfl, .inr ⟨by decide, by decide, p, rfl, HV.out.1.below (Tx.drewNb _ _)⟩⟩, HE.out.2.2.2.1.trans (Tx.drewNb _ _)⟩
  · have hnl : (0 : Int) < (nl : Int) := by
      have : nl ≠ 0 := fun h => hlow (hLo.zero.1 h)
      omega
    have hS := Nt.split_any wr ah al nh ch high nl cl low hH hLo (by omega) (by omega) (by omega)
    have hst := hE.step (by omega)
    have hqm : high / low ≤ md := Nat.le_trans (Nat.div_le_self _ _) hE.hl
    have HS := Lib.hid hS
    have HE := Lib.hid (And.intro hLo (And.intro hHb (And.intro hLb (And.intro hst (And.intro hB (And.intro nl1 (And.intro nb1 (And.intro nc1 (And.intro hln (And.intro hqm (And.intro hgk hlow)))))))))))
    clear hS hst hqm hH hLo hHb hLb hgk hB nh1 nl1 nb1 nc1 hmdN hln hE hlow
    go_wp2_with fail
    go_at_call 73
    refine Calls.mono HS.out ?_
    rintro e3 w3 ⟨aq, kq, cq, ar, kr, cr, rfl, h3, h4, hb3⟩
    have hkq := h3.mono2 H0.out.2.1 HE.out.2.2.2.2.2.2.2.2.2.1
    have H3 := Lib.hid (And.intro h3 (And.intro h4 (And.intro hb3 hkq)))
    clear h3 h4 hb3 hkq HS
    go_wp2_with fail
    go_at_call 37
    refine Calls.mono (Nt.product_any w3 aq ac kq cq (high / low) nc cc lb H3.out.1 (HE.out.2.2.1.below H3.out.2.2.1) (by have := HE.out; have := H3.out.2.2.2; omega) (by have := HE.out; omega)) ?_
    rintro e5 w5 ⟨ap, kp, cp, rfl, h5, hb5⟩
    have hkp := h5.len (kq + nc) (by
      have a1 := H3.out.1.lt
      have a2 := HE.out.2.2.1.lt
      rw [Nat.pow_add]
      exact Nat.mul_lt_mul_of_lt_of_le a1 (Nat.le_of_lt a2) (Nat.pow_pos (by decide)))
    have H5 := Lib.hid (And.intro h5 (And.intro hb5 hkp))
    clear h5 hb5 hkp
    go_wp2_with fail
    go_at_call 35
    refine Calls.mono (Nt.sum_any w5 ab ap nb cb hb kp cp (high / low * lb) ((HE.out.2.1.below H3.out.2.2.1).below H5.out.2.1) H5.out.1 (by have := HE.out; omega) (by have := H5.out.2.2; have := H3.out.2.2.2; have := HE.out; omega)) ?_
    rintro e6 w6 ⟨az6, ks, cs, rfl, h6, hb6⟩
    have H6 := Lib.hid (And.intro h6 hb6)
    clear h6 hb6
    go_wp2_with fail
    have hgk := HE.out.2.2.2.2.2.2.2.2.2.2
    obtain ⟨g', rfl⟩ : ∃ g', gk = g' + 1 := ⟨gk - 1, by omega⟩
    go_roundg g'
    case rel =>
      have hm := Nat.mod_lt high (show 0 < low by omega)
      exact ⟨_, _, _, low, _, _, _, high % low, _, _, _, lb, _, _, _, hb + high / low * lb, !mn, rfl, rfl, rfl, rfl, rfl, ((HE.out.1.below H3.out.2.2.1).below H5.out.2.1).below H6.out.2, (H3.out.2.1.below H5.out.2.1).below H6.out.2, ((HE.out.2.2.1.below H3.out.2.2.1).below H5.out.2.1).below H6.out.2, H6.out.1, HE.out.2.2.2.1, by omega, ((HE.out.2.2.2.2.1.trans (H3.out.2.2.1.mono HE.out.2.2.2.2.1.size)).trans (H5.out.2.1.mono (Nat.le_trans HE.out.2.2.2.2.1.size H3.out.2.2.1.size))).trans (H6.out.2.mono (Nat.le_trans HE.out.2.2.2.2.1.size (Nat.le_trans H3.out.2.2.1.size H5.out.2.1.size)))⟩
    omega
end Go.Proofs.YtccbnpondlncpaaGreatDoor
