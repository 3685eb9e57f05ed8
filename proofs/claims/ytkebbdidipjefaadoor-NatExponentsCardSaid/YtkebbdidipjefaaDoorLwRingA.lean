/- NatRing, the walk: sums and products, the difference that takes a sum back, the quotient and what is left. -/
import Derived.Test.YtkebbdidipjefaaDoorLwOrdersA
namespace Go.Proofs.YtkebbdidipjefaaDoor
open Go.RowKit
namespace lwRing

set_option maxHeartbeats 2000000 in
set_option maxRecDepth 100000 in
theorem coreD (a b c S TA TB P X Y M N O Q R V : ByteArray) (w : World) (ok : Nt.Ok w) (s1 s2 : Nat) (h1 : (a.size : Int) + (b.size : Int) = (s1 : Int)) (h2 : (s1 : Int) + (c.size : Int) = (s2 : Int)) (h3 : s2 ≤ 510) (hne : TB ≠ ⟨#[]⟩)
    (SS : ∀ W, Nt.Ok W → Calls Tryd.prog 9 #[.string a, .string b] W fun e w' => e = .returned (.tuple #[.string S, .int .i64 0]) ∧ Below W.heap.size W w')
    (SS2 : ∀ W, Nt.Ok W → Calls Tryd.prog 9 #[.string b, .string a] W fun e w' => e = .returned (.tuple #[.string S, .int .i64 0]) ∧ Below W.heap.size W w')
    (DD : ∀ W, Nt.Ok W → Calls Tryd.prog 10 #[.string S, .string b] W fun e w' => e = .returned (.tuple #[.string TA, .int .i64 0]) ∧ Below W.heap.size W w')
    (PP : ∀ W, Nt.Ok W → Calls Tryd.prog 11 #[.string S, .string c] W fun e w' => e = .returned (.tuple #[.string P, .int .i64 0]) ∧ Below W.heap.size W w')
    (XX : ∀ W, Nt.Ok W → Calls Tryd.prog 11 #[.string a, .string c] W fun e w' => e = .returned (.tuple #[.string X, .int .i64 0]) ∧ Below W.heap.size W w')
    (YY : ∀ W, Nt.Ok W → Calls Tryd.prog 11 #[.string c, .string b] W fun e w' => e = .returned (.tuple #[.string Y, .int .i64 0]) ∧ Below W.heap.size W w')
    (ZZ : ∀ W, Nt.Ok W → Calls Tryd.prog 9 #[.string X, .string Y] W fun e w' => e = .returned (.tuple #[.string P, .int .i64 0]) ∧ Below W.heap.size W w')
    (MM : ∀ W, Nt.Ok W → Calls Tryd.prog 11 #[.string a, .string b] W fun e w' => e = .returned (.tuple #[.string M, .int .i64 0]) ∧ Below W.heap.size W w')
    (NN : ∀ W, Nt.Ok W → Calls Tryd.prog 11 #[.string M, .string c] W fun e w' => e = .returned (.tuple #[.string N, .int .i64 0]) ∧ Below W.heap.size W w')
    (OO : ∀ W, Nt.Ok W → Calls Tryd.prog 11 #[.string b, .string c] W fun e w' => e = .returned (.tuple #[.string O, .int .i64 0]) ∧ Below W.heap.size W w')
    (UU : ∀ W, Nt.Ok W → Calls Tryd.prog 11 #[.string a, .string O] W fun e w' => e = .returned (.tuple #[.string N, .int .i64 0]) ∧ Below W.heap.size W w')
    (TTa : ∀ W, Calls Tryd.prog 12 #[.string a] W fun e w' => e = .returned (.string TA) ∧ w' = W)
    (TTb : ∀ W, Calls Tryd.prog 12 #[.string b] W fun e w' => e = .returned (.string TB) ∧ w' = W)
    (QQ : ∀ W, Nt.Ok W → Calls Tryd.prog 13 #[.string a, .string b] W fun e w' => e = .returned (.tuple #[.string Q, .string R, .int .i64 0]) ∧ Below W.heap.size W w')
    (VV : ∀ W, Nt.Ok W → Calls Tryd.prog 11 #[.string Q, .string b] W fun e w' => e = .returned (.tuple #[.string V, .int .i64 0]) ∧ Below W.heap.size W w')
    (WW : ∀ W, Nt.Ok W → Calls Tryd.prog 9 #[.string V, .string R] W fun e w' => e = .returned (.tuple #[.string TA, .int .i64 0]) ∧ Below W.heap.size W w')
    (CC : ∀ W, Calls Tryd.prog 14 #[.string R, .string b] W fun e w' => e = .returned (.int .i64 (-1)) ∧ w' = W) :
    Calls Tryd.prog 3 #[.string a, .string b, .string c] w fun e w' => e = .returned (.bool true) ∧ Below w.heap.size w w' := by
  have h3z : ¬ (510 : Int) < (s2 : Int) := by omega
  have hs1b : (s1 : Int) ≤ 510 := by omega
  have hs2b : (s2 : Int) ≤ 510 := by omega
  have H0 := Lib.hid (And.intro ok (Below.refl w.heap.size w))
  have SS := Lib.hid SS
  have SS2 := Lib.hid SS2
  have DD := Lib.hid DD
  have PP := Lib.hid PP
  have XX := Lib.hid XX
  have YY := Lib.hid YY
  have ZZ := Lib.hid ZZ
  have MM := Lib.hid MM
  have NN := Lib.hid NN
  have OO := Lib.hid OO
  have UU := Lib.hid UU
  have TTa := Lib.hid TTa
  have TTb := Lib.hid TTb
  have QQ := Lib.hid QQ
  have VV := Lib.hid VV
  have WW := Lib.hid WW
  have CC := Lib.hid CC
  have hn1 := Nt.toList_ne hne
  have hn2 : TB.toList.isEmpty = false := Nt.toList_emp hne
  have hn3 : ¬ TB.toList = [] := Nt.toList_nil hne
  clear ok h3 hne
  go_enter Tryd.func3, Tryd.ntmps3
  go_wp2_with fail
  go_at_call 8
  refine (Nt.fixed_any _ H0.out.1).mono ?_
  rintro e1 w1 ⟨rfl, hb⟩
  have H1 := Lib.hid (And.intro (H0.out.1.below hb) (H0.out.2.trans (hb.mono H0.out.2.size)))
  clear hb H0
  go_wp2_with fail
  go_at_call 9
  refine (SS.out _ H1.out.1).mono ?_
  rintro e2 w2 ⟨rfl, hb⟩
  have H2 := Lib.hid (And.intro (H1.out.1.below hb) (H1.out.2.trans (hb.mono H1.out.2.size)))
  clear hb H1
  go_wp2_with fail
  go_at_call 9
  refine (SS2.out _ H2.out.1).mono ?_
  rintro e3 w3 ⟨rfl, hb⟩
  have H3 := Lib.hid (And.intro (H2.out.1.below hb) (H2.out.2.trans (hb.mono H2.out.2.size)))
  clear hb H2
  go_wp2_with fail
  go_at_call 10
  refine (DD.out _ H3.out.1).mono ?_
  rintro e4 w4 ⟨rfl, hb⟩
  have H4 := Lib.hid (And.intro (H3.out.1.below hb) (H3.out.2.trans (hb.mono H3.out.2.size)))
  clear hb H3
  go_wp2_with fail
  go_at_call 11
  refine (PP.out _ H4.out.1).mono ?_
  rintro e5 w5 ⟨rfl, hb⟩
  have H5 := Lib.hid (And.intro (H4.out.1.below hb) (H4.out.2.trans (hb.mono H4.out.2.size)))
  clear hb H4
  go_wp2_with fail
  go_at_call 11
  refine (XX.out _ H5.out.1).mono ?_
  rintro e6 w6 ⟨rfl, hb⟩
  have H6 := Lib.hid (And.intro (H5.out.1.below hb) (H5.out.2.trans (hb.mono H5.out.2.size)))
  clear hb H5
  go_wp2_with fail
  go_at_call 11
  refine (YY.out _ H6.out.1).mono ?_
  rintro e7 w7 ⟨rfl, hb⟩
  have H7 := Lib.hid (And.intro (H6.out.1.below hb) (H6.out.2.trans (hb.mono H6.out.2.size)))
  clear hb H6
  go_wp2_with fail
  go_at_call 9
  refine (ZZ.out _ H7.out.1).mono ?_
  rintro e8 w8 ⟨rfl, hb⟩
  have H8 := Lib.hid (And.intro (H7.out.1.below hb) (H7.out.2.trans (hb.mono H7.out.2.size)))
  clear hb H7
  go_wp2_with fail
  go_at_call 12
  refine (TTa.out _).mono ?_
  rintro e' w' ⟨rfl, rfl⟩
  go_wp2_with fail
  go_at_call 11
  refine (MM.out _ H8.out.1).mono ?_
  rintro e9 w9 ⟨rfl, hb⟩
  have H9 := Lib.hid (And.intro (H8.out.1.below hb) (H8.out.2.trans (hb.mono H8.out.2.size)))
  clear hb H8
  go_wp2_with fail
  go_at_call 11
  refine (NN.out _ H9.out.1).mono ?_
  rintro e10 w10 ⟨rfl, hb⟩
  have H10 := Lib.hid (And.intro (H9.out.1.below hb) (H9.out.2.trans (hb.mono H9.out.2.size)))
  clear hb H9
  go_wp2_with fail
  go_at_call 11
  refine (OO.out _ H10.out.1).mono ?_
  rintro e11 w11 ⟨rfl, hb⟩
  have H11 := Lib.hid (And.intro (H10.out.1.below hb) (H10.out.2.trans (hb.mono H10.out.2.size)))
  clear hb H10
  go_wp2_with fail
  go_at_call 11
  refine (UU.out _ H11.out.1).mono ?_
  rintro e12 w12 ⟨rfl, hb⟩
  have H12 := Lib.hid (And.intro (H11.out.1.below hb) (H11.out.2.trans (hb.mono H11.out.2.size)))
  clear hb H11
  go_wp2_with fail
  go_at_call 13
  refine (QQ.out _ H12.out.1).mono ?_
  rintro e13 w13 ⟨rfl, hb⟩
  have H13 := Lib.hid (And.intro (H12.out.1.below hb) (H12.out.2.trans (hb.mono H12.out.2.size)))
  clear hb H12
  go_wp2_with fail
  go_at_call 12
  refine (TTb.out _).mono ?_
  rintro e' w' ⟨rfl, rfl⟩
  go_wp2_with fail
  go_at_call 11
  refine (VV.out _ H13.out.1).mono ?_
  rintro e14 w14 ⟨rfl, hb⟩
  have H14 := Lib.hid (And.intro (H13.out.1.below hb) (H13.out.2.trans (hb.mono H13.out.2.size)))
  clear hb H13
  go_wp2_with fail
  go_at_call 9
  refine (WW.out _ H14.out.1).mono ?_
  rintro e15 w15 ⟨rfl, hb⟩
  have H15 := Lib.hid (And.intro (H14.out.1.below hb) (H14.out.2.trans (hb.mono H14.out.2.size)))
  clear hb H14
  go_wp2_with fail
  go_at_call 12
  refine (TTa.out _).mono ?_
  rintro e' w' ⟨rfl, rfl⟩
  go_wp2_with fail
  go_at_call 14
  refine (CC.out _).mono ?_
  rintro e' w' ⟨rfl, rfl⟩
  go_wp2_with fail
  go_ret
  exact ⟨rfl, H15.out.2⟩
set_option maxHeartbeats 2000000 in
set_option maxRecDepth 100000 in
theorem coreZ (a b c S TA P X Y M N O : ByteArray) (w : World) (ok : Nt.Ok w) (s1 s2 : Nat) (h1 : (a.size : Int) + (b.size : Int) = (s1 : Int)) (h2 : (s1 : Int) + (c.size : Int) = (s2 : Int)) (h3 : s2 ≤ 510)
    (SS : ∀ W, Nt.Ok W → Calls Tryd.prog 9 #[.string a, .string b] W fun e w' => e = .returned (.tuple #[.string S, .int .i64 0]) ∧ Below W.heap.size W w')
    (SS2 : ∀ W, Nt.Ok W → Calls Tryd.prog 9 #[.string b, .string a] W fun e w' => e = .returned (.tuple #[.string S, .int .i64 0]) ∧ Below W.heap.size W w')
    (DD : ∀ W, Nt.Ok W → Calls Tryd.prog 10 #[.string S, .string b] W fun e w' => e = .returned (.tuple #[.string TA, .int .i64 0]) ∧ Below W.heap.size W w')
    (PP : ∀ W, Nt.Ok W → Calls Tryd.prog 11 #[.string S, .string c] W fun e w' => e = .returned (.tuple #[.string P, .int .i64 0]) ∧ Below W.heap.size W w')
    (XX : ∀ W, Nt.Ok W → Calls Tryd.prog 11 #[.string a, .string c] W fun e w' => e = .returned (.tuple #[.string X, .int .i64 0]) ∧ Below W.heap.size W w')
    (YY : ∀ W, Nt.Ok W → Calls Tryd.prog 11 #[.string c, .string b] W fun e w' => e = .returned (.tuple #[.string Y, .int .i64 0]) ∧ Below W.heap.size W w')
    (ZZ : ∀ W, Nt.Ok W → Calls Tryd.prog 9 #[.string X, .string Y] W fun e w' => e = .returned (.tuple #[.string P, .int .i64 0]) ∧ Below W.heap.size W w')
    (MM : ∀ W, Nt.Ok W → Calls Tryd.prog 11 #[.string a, .string b] W fun e w' => e = .returned (.tuple #[.string M, .int .i64 0]) ∧ Below W.heap.size W w')
    (NN : ∀ W, Nt.Ok W → Calls Tryd.prog 11 #[.string M, .string c] W fun e w' => e = .returned (.tuple #[.string N, .int .i64 0]) ∧ Below W.heap.size W w')
    (OO : ∀ W, Nt.Ok W → Calls Tryd.prog 11 #[.string b, .string c] W fun e w' => e = .returned (.tuple #[.string O, .int .i64 0]) ∧ Below W.heap.size W w')
    (UU : ∀ W, Nt.Ok W → Calls Tryd.prog 11 #[.string a, .string O] W fun e w' => e = .returned (.tuple #[.string N, .int .i64 0]) ∧ Below W.heap.size W w')
    (TTa : ∀ W, Calls Tryd.prog 12 #[.string a] W fun e w' => e = .returned (.string TA) ∧ w' = W)
    (TTb : ∀ W, Calls Tryd.prog 12 #[.string b] W fun e w' => e = .returned (.string ⟨#[]⟩) ∧ w' = W)
    (QQ : ∀ W, Nt.Ok W → Calls Tryd.prog 13 #[.string a, .string b] W fun e w' => e = .returned (.tuple #[.string ⟨#[]⟩, .string ⟨#[]⟩, .int .i64 31]) ∧ Below W.heap.size W w') :
    Calls Tryd.prog 3 #[.string a, .string b, .string c] w fun e w' => e = .returned (.bool true) ∧ Below w.heap.size w w' := by
  have h3z : ¬ (510 : Int) < (s2 : Int) := by omega
  have hs1b : (s1 : Int) ≤ 510 := by omega
  have hs2b : (s2 : Int) ≤ 510 := by omega
  have H0 := Lib.hid (And.intro ok (Below.refl w.heap.size w))
  have SS := Lib.hid SS
  have SS2 := Lib.hid SS2
  have DD := Lib.hid DD
  have PP := Lib.hid PP
  have XX := Lib.hid XX
  have YY := Lib.hid YY
  have ZZ := Lib.hid ZZ
  have MM := Lib.hid MM
  have NN := Lib.hid NN
  have OO := Lib.hid OO
  have UU := Lib.hid UU
  have TTa := Lib.hid TTa
  have TTb := Lib.hid TTb
  have QQ := Lib.hid QQ
  clear ok h3
  go_enter Tryd.func3, Tryd.ntmps3
  go_wp2_with fail
  go_at_call 8
  refine (Nt.fixed_any _ H0.out.1).mono ?_
  rintro e1 w1 ⟨rfl, hb⟩
  have H1 := Lib.hid (And.intro (H0.out.1.below hb) (H0.out.2.trans (hb.mono H0.out.2.size)))
  clear hb H0
  go_wp2_with fail
  go_at_call 9
  refine (SS.out _ H1.out.1).mono ?_
  rintro e2 w2 ⟨rfl, hb⟩
  have H2 := Lib.hid (And.intro (H1.out.1.below hb) (H1.out.2.trans (hb.mono H1.out.2.size)))
  clear hb H1
  go_wp2_with fail
  go_at_call 9
  refine (SS2.out _ H2.out.1).mono ?_
  rintro e3 w3 ⟨rfl, hb⟩
  have H3 := Lib.hid (And.intro (H2.out.1.below hb) (H2.out.2.trans (hb.mono H2.out.2.size)))
  clear hb H2
  go_wp2_with fail
  go_at_call 10
  refine (DD.out _ H3.out.1).mono ?_
  rintro e4 w4 ⟨rfl, hb⟩
  have H4 := Lib.hid (And.intro (H3.out.1.below hb) (H3.out.2.trans (hb.mono H3.out.2.size)))
  clear hb H3
  go_wp2_with fail
  go_at_call 11
  refine (PP.out _ H4.out.1).mono ?_
  rintro e5 w5 ⟨rfl, hb⟩
  have H5 := Lib.hid (And.intro (H4.out.1.below hb) (H4.out.2.trans (hb.mono H4.out.2.size)))
  clear hb H4
  go_wp2_with fail
  go_at_call 11
  refine (XX.out _ H5.out.1).mono ?_
  rintro e6 w6 ⟨rfl, hb⟩
  have H6 := Lib.hid (And.intro (H5.out.1.below hb) (H5.out.2.trans (hb.mono H5.out.2.size)))
  clear hb H5
  go_wp2_with fail
  go_at_call 11
  refine (YY.out _ H6.out.1).mono ?_
  rintro e7 w7 ⟨rfl, hb⟩
  have H7 := Lib.hid (And.intro (H6.out.1.below hb) (H6.out.2.trans (hb.mono H6.out.2.size)))
  clear hb H6
  go_wp2_with fail
  go_at_call 9
  refine (ZZ.out _ H7.out.1).mono ?_
  rintro e8 w8 ⟨rfl, hb⟩
  have H8 := Lib.hid (And.intro (H7.out.1.below hb) (H7.out.2.trans (hb.mono H7.out.2.size)))
  clear hb H7
  go_wp2_with fail
  go_at_call 12
  refine (TTa.out _).mono ?_
  rintro e' w' ⟨rfl, rfl⟩
  go_wp2_with fail
  go_at_call 11
  refine (MM.out _ H8.out.1).mono ?_
  rintro e9 w9 ⟨rfl, hb⟩
  have H9 := Lib.hid (And.intro (H8.out.1.below hb) (H8.out.2.trans (hb.mono H8.out.2.size)))
  clear hb H8
  go_wp2_with fail
  go_at_call 11
  refine (NN.out _ H9.out.1).mono ?_
  rintro e10 w10 ⟨rfl, hb⟩
  have H10 := Lib.hid (And.intro (H9.out.1.below hb) (H9.out.2.trans (hb.mono H9.out.2.size)))
  clear hb H9
  go_wp2_with fail
  go_at_call 11
  refine (OO.out _ H10.out.1).mono ?_
  rintro e11 w11 ⟨rfl, hb⟩
  have H11 := Lib.hid (And.intro (H10.out.1.below hb) (H10.out.2.trans (hb.mono H10.out.2.size)))
  clear hb H10
  go_wp2_with fail
  go_at_call 11
  refine (UU.out _ H11.out.1).mono ?_
  rintro e12 w12 ⟨rfl, hb⟩
  have H12 := Lib.hid (And.intro (H11.out.1.below hb) (H11.out.2.trans (hb.mono H11.out.2.size)))
  clear hb H11
  go_wp2_with fail
  go_at_call 13
  refine (QQ.out _ H12.out.1).mono ?_
  rintro e13 w13 ⟨rfl, hb⟩
  have H13 := Lib.hid (And.intro (H12.out.1.below hb) (H12.out.2.trans (hb.mono H12.out.2.size)))
  clear hb H12
  go_wp2_with fail
  go_at_call 12
  refine (TTb.out _).mono ?_
  rintro e' w' ⟨rfl, rfl⟩
  go_wp2_with fail
  go_ret
  exact ⟨rfl, H13.out.2⟩
/-- A number's form as a text. -/
def F (v : Nat) : ByteArray := ⟨(Nt.fm v).toArray⟩
theorem nvF (v : Nat) : Nt.nv (F v) = v := Nt.rd_fm v
theorem F_le (v k : Nat) (h : v < 256 ^ k) : (F v).size ≤ k := by
  show (Nt.fm v).length ≤ k
  rw [Nt.fm_len]
  exact Nt.by_le v k h
theorem ts_F (s : ByteArray) : Nt.ts s = F (Nt.nv s) := rfl
theorem F_sum (a b : ByteArray) : (F (Nt.nv a + Nt.nv b)).size ≤ a.size + b.size + 1 := F_le _ _ (by
  have h1 := Nt.nv_lt a
  have h2 := Nt.nv_lt b
  have h3 : 256 ^ a.size ≤ 256 ^ (a.size + b.size) := Nat.pow_le_pow_right (by decide) (by omega)
  have h4 : 256 ^ b.size ≤ 256 ^ (a.size + b.size) := Nat.pow_le_pow_right (by decide) (by omega)
  rw [Nat.pow_succ]
  omega)
theorem F_prod (a b : ByteArray) : (F (Nt.nv a * Nt.nv b)).size ≤ a.size + b.size := F_le _ _ (by
  rw [Nat.pow_add]
  exact Nat.mul_lt_mul_of_lt_of_le (Nt.nv_lt a) (Nat.le_of_lt (Nt.nv_lt b)) (Nat.pow_pos (by decide)))
theorem Add_F (x y : Nat) (hx : (F x).size ≤ 512) (hy : (F y).size ≤ 512) (W : World) (ok : Nt.Ok W) : Calls Tryd.prog 9 #[.string (F x), .string (F y)] W fun e w' => e = .returned (.tuple #[.string (F (x + y)), .int .i64 0]) ∧ Below W.heap.size W w' := by
  have h := Nt.Add_ok W ok (F x) (F y) hx hy
  rw [nvF, nvF] at h
  exact h
set_option maxRecDepth 100000 in
theorem walk (a b c : ByteArray) (w : World) (ok : Nt.Ok w) (za : a.size ≤ 140737488355328) (zb : b.size ≤ 140737488355328) (zc : c.size ≤ 140737488355328) :
    Calls Tryd.prog 3 #[.string a, .string b, .string c] w fun e w' => e = .returned (.bool true) ∧ Below w.heap.size w w' := by
  obtain ⟨s1, hs1⟩ : ∃ s1, a.size + b.size = s1 := ⟨_, rfl⟩
  obtain ⟨s2, hs2⟩ : ∃ s2, s1 + c.size = s2 := ⟨_, rfl⟩
  by_cases h3 : s2 ≤ 510
  · have ha : a.size ≤ 512 := by omega
    have hb : b.size ≤ 512 := by omega
    have hc : c.size ≤ 512 := by omega
    have zS : (F (Nt.nv a + Nt.nv b)).size ≤ 512 := by have := F_sum a b; omega
    have zX : (F (Nt.nv a * Nt.nv c)).size ≤ 512 := by have := F_prod a c; omega
    have zY : (F (Nt.nv c * Nt.nv b)).size ≤ 512 := by have := F_prod c b; omega
    have zM : (F (Nt.nv a * Nt.nv b)).size ≤ 512 := by have := F_prod a b; omega
    have zO : (F (Nt.nv b * Nt.nv c)).size ≤ 512 := by have := F_prod b c; omega
    have c1 : ∀ W, Nt.Ok W → Calls Tryd.prog 9 #[.string b, .string a] W fun e w' => e = .returned (.tuple #[.string (F (Nt.nv a + Nt.nv b)), .int .i64 0]) ∧ Below W.heap.size W w' := fun W hW => by
      have h := Nt.Add_ok W hW b a hb ha
      rw [Nat.add_comm] at h
      exact h
    have c2 : ∀ W, Nt.Ok W → Calls Tryd.prog 10 #[.string (F (Nt.nv a + Nt.nv b)), .string b] W fun e w' => e = .returned (.tuple #[.string (Nt.ts a), .int .i64 0]) ∧ Below W.heap.size W w' := fun W hW => by
      have h := Nt.Sub_ok W hW (F (Nt.nv a + Nt.nv b)) b zS hb
      rw [nvF, Nat.add_sub_cancel, if_neg (by omega)] at h
      exact h
    have c3 : ∀ W, Nt.Ok W → Calls Tryd.prog 11 #[.string (F (Nt.nv a + Nt.nv b)), .string c] W fun e w' => e = .returned (.tuple #[.string (F (Nt.nv a * Nt.nv c + Nt.nv c * Nt.nv b)), .int .i64 0]) ∧ Below W.heap.size W w' := fun W hW => by
      have h := Nt.Mul_ok W hW (F (Nt.nv a + Nt.nv b)) c zS hc
      rw [nvF, Nat.add_mul, Nat.mul_comm (Nt.nv b)] at h
      exact h
    have c4 : ∀ W, Nt.Ok W → Calls Tryd.prog 11 #[.string (F (Nt.nv a * Nt.nv b)), .string c] W fun e w' => e = .returned (.tuple #[.string (F (Nt.nv a * Nt.nv b * Nt.nv c)), .int .i64 0]) ∧ Below W.heap.size W w' := fun W hW => by
      have h := Nt.Mul_ok W hW (F (Nt.nv a * Nt.nv b)) c zM hc
      rw [nvF] at h
      exact h
    have c5 : ∀ W, Nt.Ok W → Calls Tryd.prog 11 #[.string a, .string (F (Nt.nv b * Nt.nv c))] W fun e w' => e = .returned (.tuple #[.string (F (Nt.nv a * Nt.nv b * Nt.nv c)), .int .i64 0]) ∧ Below W.heap.size W w' := fun W hW => by
      have h := Nt.Mul_ok W hW a (F (Nt.nv b * Nt.nv c)) ha zO
      rw [nvF, ← Nat.mul_assoc] at h
      exact h
    by_cases hb0 : Nt.nv b = 0
    · refine coreZ a b c (F (Nt.nv a + Nt.nv b)) (Nt.ts a) (F (Nt.nv a * Nt.nv c + Nt.nv c * Nt.nv b)) (F (Nt.nv a * Nt.nv c)) (F (Nt.nv c * Nt.nv b)) (F (Nt.nv a * Nt.nv b)) (F (Nt.nv a * Nt.nv b * Nt.nv c)) (F (Nt.nv b * Nt.nv c)) w ok s1 s2 (by omega) (by omega) h3
        (fun W hW => Nt.Add_ok W hW a b ha hb) c1 c2 c3 (fun W hW => Nt.Mul_ok W hW a c ha hc) (fun W hW => Nt.Mul_ok W hW c b hc hb) (Add_F _ _ zX zY) (fun W hW => Nt.Mul_ok W hW a b ha hb) c4 (fun W hW => Nt.Mul_ok W hW b c hb hc) c5 (fun W => Nt.Trim_any W a) (fun W => ?_) (fun W hW => ?_)
      · have h := Nt.Trim_any W b
        rw [ts_F, hb0] at h
        exact h
      · have h := Nt.Div_ok W hW a b ha hb
        rw [hb0, Nat.div_zero, if_pos rfl, if_pos rfl] at h
        exact h
    · have zQ : (F (Nt.nv a / Nt.nv b)).size ≤ 512 := Nat.le_trans (F_le _ a.size (Nat.lt_of_le_of_lt (Nat.div_le_self _ _) (Nt.nv_lt a))) ha
      have zR : (F (Nt.nv a % Nt.nv b)).size ≤ 512 := Nat.le_trans (F_le _ a.size (Nat.lt_of_le_of_lt (Nat.mod_le _ _) (Nt.nv_lt a))) ha
      have zV : (F (Nt.nv a / Nt.nv b * Nt.nv b)).size ≤ 512 := Nat.le_trans (F_le _ a.size (Nat.lt_of_le_of_lt (Nat.div_mul_le_self _ _) (Nt.nv_lt a))) ha
      refine coreD a b c (F (Nt.nv a + Nt.nv b)) (Nt.ts a) (Nt.ts b) (F (Nt.nv a * Nt.nv c + Nt.nv c * Nt.nv b)) (F (Nt.nv a * Nt.nv c)) (F (Nt.nv c * Nt.nv b)) (F (Nt.nv a * Nt.nv b)) (F (Nt.nv a * Nt.nv b * Nt.nv c)) (F (Nt.nv b * Nt.nv c)) (F (Nt.nv a / Nt.nv b)) (F (Nt.nv a % Nt.nv b)) (F (Nt.nv a / Nt.nv b * Nt.nv b)) w ok s1 s2 (by omega) (by omega) h3 ?_
        (fun W hW => Nt.Add_ok W hW a b ha hb) c1 c2 c3 (fun W hW => Nt.Mul_ok W hW a c ha hc) (fun W hW => Nt.Mul_ok W hW c b hc hb) (Add_F _ _ zX zY) (fun W hW => Nt.Mul_ok W hW a b ha hb) c4 (fun W hW => Nt.Mul_ok W hW b c hb hc) c5 (fun W => Nt.Trim_any W a) (fun W => Nt.Trim_any W b) (fun W hW => ?_) (fun W hW => ?_) (fun W hW => ?_) (fun W => ?_)
      · intro e
        have h2 := congrArg (fun z : ByteArray => Nt.nv z) e
        rw [ts_F] at h2
        simp only [nvF] at h2
        exact hb0 h2
      · have h := Nt.Div_ok W hW a b ha hb
        rw [if_neg hb0, if_neg hb0] at h
        exact h
      · have h := Nt.Mul_ok W hW (F (Nt.nv a / Nt.nv b)) b zQ hb
        rw [nvF] at h
        exact h
      · have h := Add_F (Nt.nv a / Nt.nv b * Nt.nv b) (Nt.nv a % Nt.nv b) zV zR W hW
        rw [Nat.div_add_mod'] at h
        exact h
      · have h := Nt.Cmp_any W (F (Nt.nv a % Nt.nv b)) b (by omega) (by omega)
        rw [nvF] at h
        have e : Nt.cmp (Nt.nv a % Nt.nv b) (Nt.nv b) = -1 := by
          unfold Nt.cmp
          rw [if_pos (Nat.mod_lt _ (by omega))]
        rw [e] at h
        exact h
  · have hs1z : (a.size : Int) + (b.size : Int) = (s1 : Int) := by omega
    have hs2z : (s1 : Int) + (c.size : Int) = (s2 : Int) := by omega
    have h3z : (510 : Int) < (s2 : Int) := by omega
    have hs1b : (s1 : Int) ≤ 281474976710656 := by omega
    have hs2b : (s2 : Int) ≤ 422212465065984 := by omega
    have H0 := Lib.hid (And.intro ok (Below.refl w.heap.size w))
    clear ok hs1 hs2 h3 za zb zc
    go_enter Tryd.func3, Tryd.ntmps3
    go_wp2_with fail
    go_at_call 8
    refine (Nt.fixed_any _ H0.out.1).mono ?_
    rintro e1 w1 ⟨rfl, hb⟩
    have H1 := Lib.hid (And.intro (H0.out.1.below hb) (H0.out.2.trans (hb.mono H0.out.2.size)))
    clear hb H0
    go_wp2_with fail
    go_ret
    exact ⟨rfl, H1.out.2⟩
end lwRing
end Go.Proofs.YtkebbdidipjefaaDoor
