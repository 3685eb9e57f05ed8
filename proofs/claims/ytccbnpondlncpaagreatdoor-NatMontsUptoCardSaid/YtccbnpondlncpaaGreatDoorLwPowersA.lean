/- NatPowers, the walk. -/
import Derived.Test.YtccbnpondlncpaaGreatDoorNyL
import Derived.Test.YtccbnpondlncpaaGreatDoorNyM
import Derived.Test.YtccbnpondlncpaaGreatDoorRnN
namespace Go.Proofs.YtccbnpondlncpaaGreatDoor
open Go.RowKit
theorem Rn.few {w : World} {av : Option Addr} {k c : Nat} {a : ByteArray} (h : Rn.Num w av k c (Nt.nv a)) (ha : a.size ≤ 512) : k ≤ 256 := h.bytes 256 a.size (Nt.nv_lt a) (by omega)
namespace lwPowers
set_option maxHeartbeats 2000000 in
set_option maxRecDepth 100000 in
theorem far (a e m : ByteArray) (w : World) (ok : Nt.Ok w) (za : a.size ≤ 8000000) (ze : e.size ≤ 8000000) (zm : m.size ≤ 8000000) (h : 512 < a.size ∨ 512 < e.size ∨ 512 < m.size) :
    Calls Tryz.prog 5 #[.string a, .string e, .string m] w fun e w' => e = .returned (.bool true) ∧ Below w.heap.size w w' := by
  have HL := Lib.hid (And.intro (show a.size ≤ 9223372036854775807 by omega) (And.intro (show e.size ≤ 9223372036854775807 by omega) (And.intro (show m.size ≤ 9223372036854775807 by omega) (And.intro zm h))))
  clear h
  have H0 := Lib.hid (And.intro ok (And.intro (Below.refl w.heap.size w) True.intro))
  clear ok
  go_enter Tryz.func5, Tryz.ntmps5
  go_wp2_with fail
  go_at_call 23
  refine Calls.mono (Nt.Pow_long w H0.out.1 a e m HL.out.1 HL.out.2.1 HL.out.2.2.1 HL.out.2.2.2.2) ?_
  rintro e1 w1 ⟨rfl, hb⟩
  have H1 := Lib.hid (And.intro (H0.out.1.below hb) (And.intro (H0.out.2.1.trans (hb.mono H0.out.2.1.size)) True.intro))
  clear hb
  go_wp2_with fail
  go_at_call 14
  refine Calls.mono (Nt.fixed_any w1 H1.out.1) ?_
  rintro e2 w2 ⟨rfl, hb⟩
  have H2 := Lib.hid (And.intro (H1.out.1.below hb) (And.intro (H1.out.2.1.trans (hb.mono H1.out.2.1.size)) True.intro))
  clear hb
  go_wp2_with fail
  go_at_call 15
  refine Calls.mono (Rn.Of_any w2 m HL.out.2.2.2.1) ?_
  rintro e3 w3 ⟨av3, k3, c3, rfl, hN, hb⟩
  have H3 := Lib.hid (And.intro (H2.out.1.below hb) (And.intro (H2.out.2.1.trans (hb.mono H2.out.2.1.size)) (And.intro hN True.intro)))
  clear hN hb
  go_wp2_with fail
  have hnew := heap_alloc_new w3 (Obj.cells #[.string a, .string e, .string m] 9)
  have hb : Below w3.heap.size w3 (w3.alloc (Obj.cells #[.string a, .string e, .string m] 9)) := (Below.refl _ _).alloc (Nat.le_refl _) _
  revert hnew hb
  generalize w3.alloc (Obj.cells #[.string a, .string e, .string m] 9) = w4
  intro hnew hb
  have H4 := Lib.hid (And.intro (H3.out.1.below hb) (And.intro (H3.out.2.1.trans (hb.mono H3.out.2.1.size)) (And.intro (H3.out.2.2.1.below hb) True.intro)))
  have HN := Lib.hid hnew
  clear hnew hb
  go_at_call 13
  refine Calls.mono (Rn.Long_three w4 _ _ a e m true HN.out HL.out.1 HL.out.2.1 HL.out.2.2.1 (.inr ⟨rfl, HL.out.2.2.2.2⟩)) ?_
  rintro e5 w4 ⟨rfl, rfl⟩
  go_wp2_with fail
  go_ret
  exact ⟨rfl, H4.out.2.1⟩
set_option maxHeartbeats 2000000 in
set_option maxRecDepth 100000 in
theorem zero (a e m : ByteArray) (w : World) (ok : Nt.Ok w) (za : a.size ≤ 512) (ze : e.size ≤ 512) (zm : m.size ≤ 512) (hz : Nt.nv m = 0) :
    Calls Tryz.prog 5 #[.string a, .string e, .string m] w fun e w' => e = .returned (.bool true) ∧ Below w.heap.size w w' := by
  have hP : Calls Tryz.prog 23 #[.string a, .string e, .string m] w fun e w' => e = .returned (.tuple #[.string ⟨#[]⟩, .int .i64 31]) ∧ Below w.heap.size w w' := by
    refine (Nt.Pow_ok w ok a e m za ze zm).mono ?_
    rintro e1 w1 ⟨R, K, rfl, hP, hb⟩
    rcases hP with ⟨_, rfl, rfl⟩ | ⟨h, _⟩
    · rw [Nt.fm_zero]; exact ⟨rfl, hb⟩
    · omega
  have HP := Lib.hid hP
  have HL := Lib.hid (And.intro (show a.size ≤ 9223372036854775807 by omega) (And.intro (show e.size ≤ 9223372036854775807 by omega) (And.intro (show m.size ≤ 9223372036854775807 by omega) (And.intro (show m.size ≤ 8000000 by omega) (And.intro (And.intro za (And.intro ze zm)) hz)))))
  clear hP hz
  have H0 := Lib.hid (And.intro ok (And.intro (Below.refl w.heap.size w) True.intro))
  clear ok
  go_enter Tryz.func5, Tryz.ntmps5
  go_wp2_with fail
  go_at_call 23
  refine Calls.mono (HP.out) ?_
  rintro e1 w1 ⟨rfl, hb⟩
  have H1 := Lib.hid (And.intro (H0.out.1.below hb) (And.intro (H0.out.2.1.trans (hb.mono H0.out.2.1.size)) True.intro))
  clear hb
  go_wp2_with fail
  go_at_call 14
  refine Calls.mono (Nt.fixed_any w1 H1.out.1) ?_
  rintro e2 w2 ⟨rfl, hb⟩
  have H2 := Lib.hid (And.intro (H1.out.1.below hb) (And.intro (H1.out.2.1.trans (hb.mono H1.out.2.1.size)) True.intro))
  clear hb
  go_wp2_with fail
  go_at_call 15
  refine Calls.mono (Rn.Of_any w2 m HL.out.2.2.2.1) ?_
  rintro e3 w3 ⟨av3, k3, c3, rfl, hN, hb⟩
  have H3 := Lib.hid (And.intro (H2.out.1.below hb) (And.intro (H2.out.2.1.trans (hb.mono H2.out.2.1.size)) (And.intro hN True.intro)))
  clear hN hb
  have hk0 := H3.out.2.2.1.zero.2 HL.out.2.2.2.2.2
  subst hk0
  go_wp2_with fail
  have hnew := heap_alloc_new w3 (Obj.cells #[.string a, .string e, .string m] 9)
  have hb : Below w3.heap.size w3 (w3.alloc (Obj.cells #[.string a, .string e, .string m] 9)) := (Below.refl _ _).alloc (Nat.le_refl _) _
  revert hnew hb
  generalize w3.alloc (Obj.cells #[.string a, .string e, .string m] 9) = w4
  intro hnew hb
  have H4 := Lib.hid (And.intro (H3.out.1.below hb) (And.intro (H3.out.2.1.trans (hb.mono H3.out.2.1.size)) (And.intro (H3.out.2.2.1.below hb) True.intro)))
  have HN := Lib.hid hnew
  clear hnew hb
  go_at_call 13
  refine Calls.mono (Rn.Long_three w4 _ _ a e m false HN.out HL.out.1 HL.out.2.1 HL.out.2.2.1 (.inl ⟨rfl, HL.out.2.2.2.2.1⟩)) ?_
  rintro e5 w4 ⟨rfl, rfl⟩
  go_wp2_with fail
  go_ret
  exact ⟨rfl, H4.out.2.1⟩
set_option maxHeartbeats 4000000 in
set_option maxRecDepth 100000 in
theorem core (a e m X : ByteArray) (P1 P2 M2 M4 : Nat) (w : World) (ok : Nt.Ok w) (za : a.size ≤ 512) (ze : e.size ≤ 512) (zm : m.size ≤ 512) (hz : 0 < Nt.nv m) (hX : X = ⟨(Nt.fm (Nt.nv a ^ Nt.nv e % Nt.nv m)).toArray⟩)
    (hP1 : e.size * m.size = P1) (hP2 : P1 * m.size = P2) (hM2 : 4 * m.size = M2) (hM4 : M2 + 64 = M4) :
    Calls Tryz.prog 5 #[.string a, .string e, .string m] w fun e w' => e = .returned (.bool true) ∧ Below w.heap.size w w' := by
  have hP : Calls Tryz.prog 23 #[.string a, .string e, .string m] w fun e w' => e = .returned (.tuple #[.string X, .int .i64 0]) ∧ Below w.heap.size w w' := by
    refine (Nt.Pow_ok w ok a e m za ze zm).mono ?_
    rintro e1 w1 ⟨R, K, rfl, hP, hb⟩
    rcases hP with ⟨h, _⟩ | ⟨_, rfl, rfl⟩
    · omega
    · rw [hX]; exact ⟨rfl, hb⟩
  have hnX : Nt.nv X = Nt.nv a ^ Nt.nv e % Nt.nv m := by
    rw [hX]; unfold Nt.nv; exact Nt.rd_fm _
  have hXl : Nt.nv X < Nt.nv m := by rw [hnX]; exact Nat.mod_lt _ hz
  have hXs : X.size ≤ 512 := by
    have h1 : X.size = Nt.by (Nt.nv a ^ Nt.nv e % Nt.nv m) := by
      rw [hX]; exact Nt.fm_len _
    have h2 := Nt.by_le _ m.size (Nat.lt_trans (Nat.mod_lt (Nt.nv a ^ Nt.nv e) hz) (Nt.nv_lt m))
    omega
  have hC : ∀ W, Calls Tryz.prog 20 #[.string X, .string m] W fun e w' => e = .returned (.int .i64 (-1)) ∧ w' = W := fun W => by
    have h := Nt.Cmp_any W X m (by omega) (by omega)
    unfold Nt.cmp at h
    rw [if_pos hXl] at h
    exact h
  have hT : ∀ W, Calls Tryz.prog 16 #[.string X] W fun e w' => e = .returned (.string X) ∧ w' = W := fun W => by
    have h := Nt.Trim_any W X
    unfold Nt.ts at h
    rw [hnX, ← hX] at h
    exact h
  have HP := Lib.hid hP
  have HC := Lib.hid hC
  have HT := Lib.hid hT
  have HX := Lib.hid hX
  have hb1 : P1 ≤ 512 * 512 := by rw [← hP1]; exact Nat.mul_le_mul ze zm
  have hb2 : P2 ≤ 512 * 512 * 512 := by rw [← hP2]; exact Nat.mul_le_mul hb1 zm
  have r1 : (e.size : Int) * (m.size : Int) = (P1 : Int) := by rw [← hP1]; simp
  have r2 : (P1 : Int) * (m.size : Int) = (P2 : Int) := by rw [← hP2]; simp
  have r3 : 4 * (m.size : Int) = (M2 : Int) := by omega
  have r4 : (M2 : Int) + 64 = (M4 : Int) := by omega
  have z1 : (P1 : Int) ≤ 512 * 512 := by omega
  have z2 : (P2 : Int) ≤ 512 * 512 * 512 := by omega
  have z3 : (M2 : Int) ≤ 2048 := by omega
  have z4 : (M4 : Int) ≤ 2112 := by omega
  have HL := Lib.hid (And.intro (show a.size ≤ 9223372036854775807 by omega) (And.intro (show e.size ≤ 9223372036854775807 by omega) (And.intro (show m.size ≤ 9223372036854775807 by omega) (And.intro (show m.size ≤ 8000000 by omega) (And.intro (And.intro za (And.intro ze zm)) (And.intro hz (And.intro (show a.size ≤ 8000000 by omega) (show e.size ≤ 8000000 by omega))))))))
  clear hP hX hnX hXl hXs hC hT hP1 hP2 hM2 hM4 hb1 hb2 hz
  have H0 := Lib.hid (And.intro ok (And.intro (Below.refl w.heap.size w) True.intro))
  clear ok
  go_enter Tryz.func5, Tryz.ntmps5
  go_wp2_with fail
  go_at_call 23
  refine Calls.mono (HP.out) ?_
  rintro e1 w1 ⟨rfl, hb⟩
  have H1 := Lib.hid (And.intro (H0.out.1.below hb) (And.intro (H0.out.2.1.trans (hb.mono H0.out.2.1.size)) True.intro))
  clear hb
  go_wp2_with fail
  go_at_call 14
  refine Calls.mono (Nt.fixed_any w1 H1.out.1) ?_
  rintro e2 w2 ⟨rfl, hb⟩
  have H2 := Lib.hid (And.intro (H1.out.1.below hb) (And.intro (H1.out.2.1.trans (hb.mono H1.out.2.1.size)) True.intro))
  clear hb
  go_wp2_with fail
  go_at_call 15
  refine Calls.mono (Rn.Of_any w2 m HL.out.2.2.2.1) ?_
  rintro e3 w3 ⟨av3, k3, c3, rfl, hN, hb⟩
  have H3 := Lib.hid (And.intro (H2.out.1.below hb) (And.intro (H2.out.2.1.trans (hb.mono H2.out.2.1.size)) (And.intro hN True.intro)))
  clear hN hb
  have hk0 : 0 < k3 := Nat.pos_of_ne_zero fun h => by have h1 := H3.out.2.2.1.zero.1 h; have h2 := HL.out.2.2.2.2.2.1; omega
  have hkz : ((k3 : Int) == 0) = false := by rw [beq_eq_false_iff_ne]; omega
  have hkb := Rn.few H3.out.2.2.1 HL.out.2.2.2.2.1.2.2
  go_wp2_with fail
  have hnew := heap_alloc_new w3 (Obj.cells #[.string a, .string e, .string m] 9)
  have hb : Below w3.heap.size w3 (w3.alloc (Obj.cells #[.string a, .string e, .string m] 9)) := (Below.refl _ _).alloc (Nat.le_refl _) _
  revert hnew hb
  generalize w3.alloc (Obj.cells #[.string a, .string e, .string m] 9) = w4
  intro hnew hb
  have H4 := Lib.hid (And.intro (H3.out.1.below hb) (And.intro (H3.out.2.1.trans (hb.mono H3.out.2.1.size)) (And.intro (H3.out.2.2.1.below hb) True.intro)))
  have HN := Lib.hid hnew
  clear hnew hb
  go_at_call 13
  refine Calls.mono (Rn.Long_three w4 _ _ a e m false HN.out HL.out.1 HL.out.2.1 HL.out.2.2.1 (.inl ⟨rfl, HL.out.2.2.2.2.1⟩)) ?_
  rintro e5 w4 ⟨rfl, rfl⟩
  go_wp2_with fail
  go_at_call 20
  refine Calls.mono ((HC.out w4)) ?_
  rintro e6 w4 ⟨rfl, rfl⟩
  go_wp2_with fail
  go_at_call 16
  refine Calls.mono ((HT.out w4)) ?_
  rintro e7 w4 ⟨rfl, rfl⟩
  clear hkz
  by_cases hb1 : 300000 < P2
  · have hb1z : (300000 : Int) < (P2 : Int) := by omega
    clear hb1
    go_wp2_with fail
    go_ret
    exact ⟨rfl, H4.out.2.1⟩
  have hb1z : ¬ (300000 : Int) < (P2 : Int) := by omega
  by_cases hb2 : M4 < a.size
  · have hb2z : (M4 : Int) < (a.size : Int) := by omega
    clear hb1 hb2
    go_wp2_with fail
    go_ret
    exact ⟨rfl, H4.out.2.1⟩
  have hb2z : ¬ (M4 : Int) < (a.size : Int) := by omega
  clear hb1 hb2
  go_wp2_with fail
  go_at_call 15
  refine Calls.mono (Rn.Of_any w4 a HL.out.2.2.2.2.2.2.1) ?_
  rintro e8 w8 ⟨av8, k8, c8, rfl, hN, hb⟩
  have H5 := Lib.hid (And.intro (H4.out.1.below hb) (And.intro (H4.out.2.1.trans (hb.mono H4.out.2.1.size)) (And.intro (H4.out.2.2.1.below hb) (And.intro hN True.intro))))
  clear hN hb
  go_wp2_with fail
  go_at_call 15
  refine Calls.mono (Rn.Of_any w8 e HL.out.2.2.2.2.2.2.2) ?_
  rintro e9 w9 ⟨av9, k9, c9, rfl, hN, hb⟩
  have H6 := Lib.hid (And.intro (H5.out.1.below hb) (And.intro (H5.out.2.1.trans (hb.mono H5.out.2.1.size)) (And.intro (H5.out.2.2.1.below hb) (And.intro (H5.out.2.2.2.1.below hb) (And.intro hN True.intro)))))
  clear hN hb
  have hxb := Rn.few H6.out.2.2.2.1 HL.out.2.2.2.2.1.1
  have hyb := Rn.few H6.out.2.2.2.2.1 HL.out.2.2.2.2.1.2.1
  go_wp2_with fail
  go_at_call 24
  refine Calls.mono (Rn.Pow_any w9 av8 av9 av3 k8 c8 _ k9 c9 _ k3 c3 _ H6.out.2.2.2.1 H6.out.2.2.2.2.1 H6.out.2.2.1 (by omega) (by omega) (by omega) HL.out.2.2.2.2.2.1) ?_
  rintro e10 w10 ⟨av10, k10, c10, rfl, hN, hb⟩
  have H7 := Lib.hid (And.intro (H6.out.1.below hb) (And.intro (H6.out.2.1.trans (hb.mono H6.out.2.1.size)) (And.intro (H6.out.2.2.1.below hb) (And.intro (H6.out.2.2.2.1.below hb) (And.intro (H6.out.2.2.2.2.1.below hb) (And.intro hN True.intro))))))
  clear hN hb
  have hpb := H7.out.2.2.2.2.2.1.mod H7.out.2.2.1 HL.out.2.2.2.2.2.1
  go_wp2_with fail
  go_at_call 17
  refine Calls.mono (Rn.Form_any w10 av10 k10 c10 _ H7.out.2.2.2.2.2.1 (by omega)) ?_
  rintro e11 w11 ⟨rfl, hb⟩
  have H8 := Lib.hid (And.intro (H7.out.1.below hb) (And.intro (H7.out.2.1.trans (hb.mono H7.out.2.1.size)) (And.intro (H7.out.2.2.1.below hb) (And.intro (H7.out.2.2.2.1.below hb) (And.intro (H7.out.2.2.2.2.1.below hb) (And.intro (H7.out.2.2.2.2.2.1.below hb) True.intro))))))
  clear hb
  rw [← HX.out]
  go_wp2_with fail
  go_ret
  exact ⟨rfl, H8.out.2.1⟩
theorem walk (a e m : ByteArray) (w : World) (ok : Nt.Ok w) (za : a.size ≤ 8000000) (ze : e.size ≤ 8000000) (zm : m.size ≤ 8000000) :
    Calls Tryz.prog 5 #[.string a, .string e, .string m] w fun e w' => e = .returned (.bool true) ∧ Below w.heap.size w w' := by
  by_cases h : 512 < a.size ∨ 512 < e.size ∨ 512 < m.size
  · exact far a e m w ok za ze zm h
  rcases Nat.eq_zero_or_pos (Nt.nv m) with h0 | h0
  · exact zero a e m w ok (by omega) (by omega) (by omega) h0
  · exact core a e m _ _ _ _ _ w ok (by omega) (by omega) (by omega) h0 rfl rfl rfl rfl rfl
end lwPowers
end Go.Proofs.YtccbnpondlncpaaGreatDoor
