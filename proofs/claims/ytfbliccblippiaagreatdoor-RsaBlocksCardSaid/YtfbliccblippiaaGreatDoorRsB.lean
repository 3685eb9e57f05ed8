/- Keys: oddForm, checked, Check. -/
import Derived.Test.YtfbliccblippiaaGreatDoorRsA
import Derived.Test.YtfbliccblippiaaGreatDoorNyD
namespace Go.Proofs.YtfbliccblippiaaGreatDoor
open Go.RowKit
theorem Nt.toList_ne2 {s t : ByteArray} (h : s ≠ t) : ¬ s.toList = t.toList := fun e => h (by
  rw [Lib.toList_data, Lib.toList_data] at e
  cases s; cases t
  simp_all)
theorem Nt.toList_beq2 {s t : ByteArray} (h : s ≠ t) : (s.toList == t.toList) = false := by
  rw [beq_eq_false_iff_ne]
  exact Nt.toList_ne2 h
/-- An odd number's form, of least to most binary digits. -/
def Rs.odd (a : ByteArray) (least most : Nat) : Prop := least ≤ Nt.dig (Nt.nv a) ∧ Nt.dig (Nt.nv a) ≤ most ∧ Nt.ts a = a ∧ Nt.nv a % 2 = 1
instance Rs.odd_dec (a : ByteArray) (least most : Nat) : Decidable (Rs.odd a least most) := by unfold Rs.odd; infer_instance
set_option maxRecDepth 100000 in
theorem Rs.and8 : ∀ X : Fin 256, bits .and .u8 ((X.val : Nat) : Int) 1 = ((X.val % 2 : Nat) : Int) := by decide
theorem Rs.last (a : ByteArray) (p : Nat) (h : a.size = p + 1) (h2 : p < a.size) : Nt.nv a % 2 = (a[p]).toNat % 2 := by
  have hl : a.data.toList.length = p + 1 := by rw [← h]; simp
  have h3 : a.data.toList = a.data.toList.take p ++ [a[p]] := by
    have h4 : a.data.toList.drop p = [a[p]] := by
      rw [List.drop_eq_getElem_cons (by omega), List.drop_eq_nil_of_le (by omega)]
      rfl
    conv => lhs; rw [← List.take_append_drop p a.data.toList, h4]
  unfold Nt.nv
  rw [h3, Nt.rd_append]
  show (_ * 256 ^ 1 + (a[p].toNat * 256 ^ 0 + 0)) % 2 = _
  omega
set_option maxHeartbeats 2000000 in
set_option maxRecDepth 100000 in
theorem Rs.oddForm_any (w : World) (a : ByteArray) (least most : Nat) (ha : a.size ≤ 150000000000000) (hl : 0 < least) (hlb : least ≤ 100000) :
    Calls Tryz.prog 67 #[.string a, .int .i64 (least : Int), .int .i64 (most : Int)] w fun e w' => e = .returned (.bool (decide (Rs.odd a least most))) ∧ w' = w := by
  have hB := fun W => Nt.Bits_any W a ha
  have hT := fun W => Nt.Trim_any W a
  obtain ⟨D, hD⟩ : ∃ D, Nt.dig (Nt.nv a) = D := ⟨_, rfl⟩
  have hDb : D ≤ 1200000000000000 := by
    rw [← hD]
    refine Nat.le_trans (Nt.dig_of_lt _ (8 * a.size) ?_) (by omega)
    rw [Nat.pow_mul]
    exact Nt.nv_lt a
  rw [hD] at hB
  have HB := Lib.hid hB
  have HT := Lib.hid hT
  clear hB hT
  by_cases h1 : D < least
  · have hr : decide (Rs.odd a least most) = false := decide_eq_false (fun h => by have := h.1; omega)
    have h1z : ¬ (least : Int) ≤ (D : Int) := by omega
    rw [hr]
    clear hr hD
    go_enter Tryz.func67, Tryz.ntmps67
    go_wp2_with (go_at_call 29; refine Calls.mono (HB.out _) ?_; rintro e w' ⟨rfl, rfl⟩)
    go_ret
    exact ⟨rfl, rfl⟩
  have h1z : (least : Int) ≤ (D : Int) := by omega
  by_cases h2 : most < D
  · have hr : decide (Rs.odd a least most) = false := decide_eq_false (fun h => by have := h.2.1; omega)
    have h2z : ¬ (D : Int) ≤ (most : Int) := by omega
    rw [hr]
    clear hr hD
    go_enter Tryz.func67, Tryz.ntmps67
    go_wp2_with (go_at_call 29; refine Calls.mono (HB.out _) ?_; rintro e w' ⟨rfl, rfl⟩)
    go_ret
    exact ⟨rfl, rfl⟩
  have h2z : (D : Int) ≤ (most : Int) := by omega
  by_cases h3 : Nt.ts a = a
  · rw [h3] at HT
    have hne : a.size ≠ 0 := fun h0 => by
      have h4 := Nt.nv_lt a
      rw [h0, Nat.pow_zero] at h4
      have h5 : Nt.nv a = 0 := by omega
      rw [h5, Nt.dig_zero] at hD
      omega
    obtain ⟨p, hp⟩ : ∃ p, a.size - 1 = p := ⟨_, rfl⟩
    have hps : p < a.size := by omega
    have hlast := Rs.last a p (by omega) hps
    obtain ⟨c, hc⟩ : ∃ c, a[p] = c := ⟨_, rfl⟩
    obtain ⟨ch, hch⟩ : ∃ ch, c.toNat = ch := ⟨_, rfl⟩
    have hchb : ch < 256 := by rw [← hch]; exact c.toNat_lt
    rw [hc, hch] at hlast
    have hand : bits .and .u8 (ch : Int) 1 = ((ch % 2 : Nat) : Int) := Rs.and8 ⟨ch, hchb⟩
    obtain ⟨q, hq⟩ : ∃ q, ch % 2 = q := ⟨_, rfl⟩
    rw [hq] at hand hlast
    have hpz : (a.size : Int) - 1 = (p : Int) := by omega
    have hpz0 : 0 ≤ (p : Int) := by omega
    have hpl : (p : Int) < (a.size : Int) := by omega
    have hpb : (p : Int) ≤ 150000000000000 := by omega
    have hq2 : q = 0 ∨ q = 1 := by omega
    have hr : decide (Rs.odd a least most) = decide (q = 1) := by
      by_cases hq1 : q = 1
      · rw [decide_eq_true hq1]
        exact decide_eq_true ⟨by omega, by omega, h3, by omega⟩
      · rw [decide_eq_false hq1]
        exact decide_eq_false fun h => hq1 (by have := h.2.2.2; omega)
    rw [hr]
    clear hr hD hlast h3 hp hq hne
    rcases hq2 with rfl | rfl
    · go_enter Tryz.func67, Tryz.ntmps67
      go_wp2_with (first | (go_at_call 29; refine Calls.mono (HB.out _) ?_; rintro e w' ⟨rfl, rfl⟩) | (go_at_call 58; refine Calls.mono (HT.out _) ?_; rintro e w' ⟨rfl, rfl⟩))
      go_ret
      exact ⟨rfl, rfl⟩
    · go_enter Tryz.func67, Tryz.ntmps67
      go_wp2_with (first | (go_at_call 29; refine Calls.mono (HB.out _) ?_; rintro e w' ⟨rfl, rfl⟩) | (go_at_call 58; refine Calls.mono (HT.out _) ?_; rintro e w' ⟨rfl, rfl⟩))
      go_ret
      exact ⟨rfl, rfl⟩
  · have hr : decide (Rs.odd a least most) = false := decide_eq_false (fun h => h3 h.2.2.1)
    rw [hr]
    obtain ⟨t, ht⟩ : ∃ t, Nt.ts a = t := ⟨_, rfl⟩
    rw [ht] at HT h3
    have hb := Nt.toList_beq2 h3
    have hn := Nt.toList_ne2 h3
    clear hr hD ht h3
    go_enter Tryz.func67, Tryz.ntmps67
    go_wp2_with (first | (go_at_call 29; refine Calls.mono (HB.out _) ?_; rintro e w' ⟨rfl, rfl⟩) | (go_at_call 58; refine Calls.mono (HT.out _) ?_; rintro e w' ⟨rfl, rfl⟩))
    go_ret
    exact ⟨rfl, rfl⟩
theorem Rs.oddN (n : ByteArray) (hn : n.size ≤ 150000000000000) (W : World) : Calls Tryz.prog 67 #[.string n, .int .i64 512, .int .i64 2048] W fun e w' => e = .returned (.bool (decide (Rs.odd n 512 2048))) ∧ w' = W := Rs.oddForm_any W n 512 2048 hn (by decide) (by decide)
theorem Rs.oddE (n : ByteArray) (hn : n.size ≤ 150000000000000) (W : World) : Calls Tryz.prog 67 #[.string n, .int .i64 2, .int .i64 32] W fun e w' => e = .returned (.bool (decide (Rs.odd n 2 32))) ∧ w' = W := Rs.oddForm_any W n 2 32 hn (by decide) (by decide)
/-- Is a key refused? -/
def Rs.bad (n e : ByteArray) : Prop := ¬ (Rs.odd n 512 2048 ∧ Rs.odd e 2 32)
instance Rs.bad_dec (n e : ByteArray) : Decidable (Rs.bad n e) := by unfold Rs.bad; infer_instance
/-- A key as a value. -/
def Rs.key (n e : ByteArray) : Value := .agg #[.string n, .string e]
set_option maxHeartbeats 2000000 in
set_option maxRecDepth 100000 in
theorem Rs.checked_any (w : World) (ok : Rs.Ok w) (n e : ByteArray) (hn : n.size ≤ 150000000000000) (he : e.size ≤ 150000000000000) :
    Calls Tryz.prog 35 #[Rs.key n e] w fun r w' => ∃ v, r = .returned v ∧ Rs.Err w' v (if Rs.bad n e then 40 else 0) ∧ Below w.heap.size w w' := by
  obtain ⟨a, hv⟩ := ok.2 40 (by decide) (by decide)
  have hx : w.cell? ⟨0, 0, none⟩ = some (.iface 217 (.pointer (some a))) := hv.var
  have hlt := World.block_lt_of_cell? w _ hx
  have HN := Lib.hid (Rs.oddN n hn)
  have HE := Lib.hid (Rs.oddE e he)
  obtain ⟨w1, hw1⟩ : ∃ w1, w1 = w.alloc (Obj.cells #[.string n, .string e] 23) := ⟨_, rfl⟩
  have b1 : Below w.heap.size w w1 := by rw [hw1]; exact (Below.refl _ _).alloc (Nat.le_refl _) _
  have x1 := (b1.cell (p := ⟨0, 0, none⟩) hlt).trans hx
  have c0 : w1.cell? ⟨w.heap.size, 0, none⟩ = some (.string n) := by rw [hw1]; simp
  have c1 : w1.cell? ⟨w.heap.size, 1, none⟩ = some (.string e) := by rw [hw1]; simp
  have HV := Lib.hid (And.intro (hv.below b1) b1)
  have HW := Lib.hid hw1
  clear hv ok hx hlt b1 hw1
  unfold Rs.key
  by_cases h1 : Rs.odd n 512 2048
  · rw [decide_eq_true h1] at HN
    by_cases h2 : Rs.odd e 2 32
    · rw [decide_eq_true h2] at HE
      have hb : ¬ Rs.bad n e := fun h => h ⟨h1, h2⟩
      rw [if_neg hb]
      clear h1 h2 hb
      go_enter Tryz.func35, Tryz.ntmps35
      go_wp2_with fail
      rw [← HW.out]
      go_wp2_with (go_at_call 67; first | (with_reducible refine Calls.mono (HN.out _) ?_; rintro r w' ⟨rfl, rfl⟩) | (with_reducible refine Calls.mono (HE.out _) ?_; rintro r w' ⟨rfl, rfl⟩))
      go_ret
      exact ⟨_, rfl, .inl ⟨rfl, rfl⟩, HV.out.2⟩
    · rw [decide_eq_false h2] at HE
      have hb : Rs.bad n e := fun h => h2 h.2
      rw [if_pos hb]
      clear h1 h2 hb
      go_enter Tryz.func35, Tryz.ntmps35
      go_wp2_with fail
      rw [← HW.out]
      go_wp2_with (go_at_call 67; first | (with_reducible refine Calls.mono (HN.out _) ?_; rintro r w' ⟨rfl, rfl⟩) | (with_reducible refine Calls.mono (HE.out _) ?_; rintro r w' ⟨rfl, rfl⟩))
      go_ret
      exact ⟨_, rfl, .inr ⟨by decide, by decide, a, 1, .about _ .leaf, HV.out.1⟩, HV.out.2⟩
  · rw [decide_eq_false h1] at HN
    have hb : Rs.bad n e := fun h => h1 h.1
    rw [if_pos hb]
    clear h1 hb
    go_enter Tryz.func35, Tryz.ntmps35
    go_wp2_with fail
    rw [← HW.out]
    go_wp2_with (go_at_call 67; (with_reducible refine Calls.mono (HN.out _) ?_; rintro r w' ⟨rfl, rfl⟩))
    go_ret
    exact ⟨_, rfl, .inr ⟨by decide, by decide, a, 1, .about _ .leaf, HV.out.1⟩, HV.out.2⟩
set_option maxHeartbeats 1000000 in
theorem Rs.Check_any (w : World) (ok : Rs.Ok w) (n e : ByteArray) (hn : n.size ≤ 150000000000000) (he : e.size ≤ 150000000000000) :
    Calls Tryz.prog 12 #[Rs.key n e] w fun r w' => r = .returned (.int .i64 ((if Rs.bad n e then 40 else 0 : Nat) : Int)) ∧ Below w.heap.size w w' := by
  have b0 : Below w.heap.size w (w.alloc (Obj.cells #[.string n, .string e] 23)) := (Below.refl _ _).alloc (Nat.le_refl _) _
  have HC := Lib.hid (Rs.checked_any (w.alloc (Obj.cells #[.string n, .string e] 23)) (ok.below b0) n e hn he)
  have HO := Lib.hid (And.intro (ok.below b0) b0)
  have hnum : Rs.num (if Rs.bad n e then 40 else 0) = (if Rs.bad n e then 40 else 0) := by split <;> rfl
  obtain ⟨k, hk⟩ : ∃ k : Nat, (if Rs.bad n e then 40 else 0) = k := ⟨_, rfl⟩
  rw [hk] at HC hnum ⊢
  have HK := Lib.hid hnum
  clear ok hk hnum b0
  unfold Rs.key at *
  go_enter Tryz.func12, Tryz.ntmps12
  go_wp2_with fail
  go_at_call 35
  refine Calls.mono HC.out ?_
  rintro r w1 ⟨v, rfl, hE, hb⟩
  have H1 := Lib.hid (And.intro hE hb)
  clear hE hb
  go_wp2_with fail
  go_at_call 34
  refine Calls.mono (Rs.told_any w1 (HO.out.1.below H1.out.2) v k H1.out.1) ?_
  rintro r w2 ⟨rfl, hb⟩
  rw [HK.out]
  have H2 := Lib.hid hb
  clear hb
  go_wp2_with fail
  go_ret
  exact ⟨rfl, (HO.out.2.trans (H1.out.2.mono HO.out.2.size)).trans (H2.out.mono (Nat.le_trans HO.out.2.size H1.out.2.size))⟩
end Go.Proofs.YtfbliccblippiaaGreatDoor
