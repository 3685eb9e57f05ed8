/- NatOrders answers true for every three texts: one order of all numbers, a difference is refused just where it is below 0, and what is added to both changes nothing. -/
import Derived.Test.YtkebbdidipjefaaDoorNyJ
namespace Go.Proofs.YtkebbdidipjefaaDoor
open Go.RowKit

theorem Nt.len (s : ByteArray) : s.data.toList.length = s.size := by simp
theorem Nt.toList_ne {s t : ByteArray} (h : s ≠ t) : ¬ s.toList = t.toList := fun e => h (by
  rw [Lib.toList_data, Lib.toList_data] at e
  cases s; cases t
  simp_all)
theorem Nt.toList_beq {s t : ByteArray} (h : s ≠ t) : (s.toList == t.toList) = false := by rw [beq_eq_false_iff_ne]; exact Nt.toList_ne h
theorem Nt.toList_nil {s : ByteArray} (h : s ≠ ⟨#[]⟩) : ¬ s.toList = [] := fun e => Nt.toList_ne h (by rw [e, Lib.toList_data])
theorem Nt.toList_emp {s : ByteArray} (h : s ≠ ⟨#[]⟩) : s.toList.isEmpty = false := by
  have := Nt.toList_nil h
  cases hs : s.toList with
  | nil => exact absurd hs this
  | cons _ _ => rfl
theorem Nt.sum_size (a c : ByteArray) (ha : a.size ≤ 512) (hc : c.size ≤ 512) : (⟨(Nt.fm (Nt.nv a + Nt.nv c)).toArray⟩ : ByteArray).size ≤ 9223372036854775807 := by
  show (Nt.fm (Nt.nv a + Nt.nv c)).length ≤ _
  rw [Nt.fm_len]
  have h1 := Nt.nv_lt a
  have h2 := Nt.nv_lt c
  have h3 : 256 ^ a.size ≤ 256 ^ (a.size + c.size) := Nat.pow_le_pow_right (by decide) (by omega)
  have h4 : 256 ^ c.size ≤ 256 ^ (a.size + c.size) := Nat.pow_le_pow_right (by decide) (by omega)
  have h5 := Nt.by_le (Nt.nv a + Nt.nv c) (a.size + c.size + 1) (by rw [Nat.pow_succ]; omega)
  omega
namespace lwOrders

set_option maxHeartbeats 2000000 in
set_option maxRecDepth 100000 in
theorem core (a b c s t d X Y : ByteArray) (n1 r1 r2 : Int) (K : Nat) (w : World) (ok : Nt.Ok w) (s1 s2 : Nat) (h1 : (a.size : Int) + (b.size : Int) = (s1 : Int)) (h2 : (s1 : Int) + (c.size : Int) = (s2 : Int)) (h3 : s2 ≤ 500)
    (hn : (n1 = -1 ∧ s ≠ t ∧ K = 32) ∨ (n1 = 0 ∧ s = t ∧ K = 0 ∧ d = ⟨#[]⟩) ∨ (n1 = 1 ∧ s ≠ t ∧ K = 0 ∧ d ≠ ⟨#[]⟩)) (hr : n1 ≤ 0 → r1 ≤ 0 → r2 ≤ 0)
    (C1 : ∀ W, Calls Tryd.prog 14 #[.string a, .string b] W fun e w' => e = .returned (.int .i64 n1) ∧ w' = W)
    (C2 : ∀ W, Calls Tryd.prog 14 #[.string b, .string a] W fun e w' => e = .returned (.int .i64 (-n1)) ∧ w' = W)
    (C3 : ∀ W, Calls Tryd.prog 14 #[.string b, .string c] W fun e w' => e = .returned (.int .i64 r1) ∧ w' = W)
    (C4 : ∀ W, Calls Tryd.prog 14 #[.string a, .string c] W fun e w' => e = .returned (.int .i64 r2) ∧ w' = W)
    (C5 : ∀ W, Calls Tryd.prog 14 #[.string X, .string Y] W fun e w' => e = .returned (.int .i64 n1) ∧ w' = W)
    (T1 : ∀ W, Calls Tryd.prog 12 #[.string a] W fun e w' => e = .returned (.string s) ∧ w' = W)
    (T2 : ∀ W, Calls Tryd.prog 12 #[.string b] W fun e w' => e = .returned (.string t) ∧ w' = W)
    (S : ∀ W, Nt.Ok W → Calls Tryd.prog 10 #[.string a, .string b] W fun e w' => e = .returned (.tuple #[.string d, .int .i64 (K : Int)]) ∧ Below W.heap.size W w')
    (A1 : ∀ W, Nt.Ok W → Calls Tryd.prog 9 #[.string a, .string c] W fun e w' => e = .returned (.tuple #[.string X, .int .i64 0]) ∧ Below W.heap.size W w')
    (A2 : ∀ W, Nt.Ok W → Calls Tryd.prog 9 #[.string b, .string c] W fun e w' => e = .returned (.tuple #[.string Y, .int .i64 0]) ∧ Below W.heap.size W w') :
    Calls Tryd.prog 6 #[.string a, .string b, .string c] w fun e w' => e = .returned (.bool true) ∧ Below w.heap.size w w' := by
  have h3z : ¬ (500 : Int) < (s2 : Int) := by omega
  have HC := Lib.hid (And.intro C1 (And.intro C2 (And.intro C3 (And.intro C4 C5))))
  have HT := Lib.hid (And.intro T1 T2)
  have HS := Lib.hid (And.intro S (And.intro A1 A2))
  have hs1b : (s1 : Int) ≤ 500 := by omega
  have hs2b : (s2 : Int) ≤ 500 := by omega
  have H0 := Lib.hid (And.intro ok (Below.refl w.heap.size w))
  clear C1 C2 C3 C4 C5 T1 T2 S A1 A2 ok h3
  rcases hn with ⟨rfl, hne, rfl⟩ | ⟨rfl, rfl, rfl, rfl⟩ | ⟨rfl, hne, rfl, hde⟩
  · have hn1 := Nt.toList_ne hne
    have hn2 := Nt.toList_beq hne
    clear hne
    by_cases hr1 : r1 ≤ 0
    · have hr2 : ¬ 0 < r2 := by have := hr (by decide) hr1; omega
      clear hr
      go_enter Tryd.func6, Tryd.ntmps6
      go_wp2_with fail
      go_at_call 8
      refine (Nt.fixed_any w H0.out.1).mono ?_
      rintro e1 w1 ⟨rfl, hb⟩
      have H1 := Lib.hid (And.intro (H0.out.1.below hb) hb)
      clear hb
      go_wp2_with fail
      go_at_call 14
      refine (HC.out.1 _).mono ?_
      rintro e2 w2 ⟨rfl, rfl⟩
      go_wp2_with fail
      go_at_call 10
      refine (HS.out.1 _ H1.out.1).mono ?_
      rintro e3 w3 ⟨rfl, hb⟩
      have H3 := Lib.hid (And.intro (H1.out.1.below hb) (H1.out.2.trans (hb.mono H1.out.2.size)))
      clear hb
      go_wp2_with (first | (go_at_call 14; (first | (with_reducible refine (HC.out.2.1 _).mono ?_) | (with_reducible refine (HC.out.2.2.1 _).mono ?_) | (with_reducible refine (HC.out.2.2.2.1 _).mono ?_)); rintro e w' ⟨rfl, rfl⟩) | (go_at_call 12; (first | (with_reducible refine (HT.out.1 _).mono ?_) | (with_reducible refine (HT.out.2 _).mono ?_)); rintro e w' ⟨rfl, rfl⟩))
      go_at_call 9
      refine (HS.out.2.1 _ H3.out.1).mono ?_
      rintro e4 w4 ⟨rfl, hb⟩
      have H4 := Lib.hid (And.intro (H3.out.1.below hb) (H3.out.2.trans (hb.mono H3.out.2.size)))
      clear hb
      go_wp2_with fail
      go_at_call 9
      refine (HS.out.2.2 _ H4.out.1).mono ?_
      rintro e5 w5 ⟨rfl, hb⟩
      have H5 := Lib.hid (H4.out.2.trans (hb.mono H4.out.2.size))
      clear hb
      go_wp2_with (go_at_call 14; (with_reducible refine (HC.out.2.2.2.2 _).mono ?_); rintro e w' ⟨rfl, rfl⟩)
      go_ret
      exact ⟨rfl, H5.out⟩
    · clear hr
      go_enter Tryd.func6, Tryd.ntmps6
      go_wp2_with fail
      go_at_call 8
      refine (Nt.fixed_any w H0.out.1).mono ?_
      rintro e1 w1 ⟨rfl, hb⟩
      have H1 := Lib.hid (And.intro (H0.out.1.below hb) hb)
      clear hb
      go_wp2_with fail
      go_at_call 14
      refine (HC.out.1 _).mono ?_
      rintro e2 w2 ⟨rfl, rfl⟩
      go_wp2_with fail
      go_at_call 10
      refine (HS.out.1 _ H1.out.1).mono ?_
      rintro e3 w3 ⟨rfl, hb⟩
      have H3 := Lib.hid (And.intro (H1.out.1.below hb) (H1.out.2.trans (hb.mono H1.out.2.size)))
      clear hb
      go_wp2_with (first | (go_at_call 14; (first | (with_reducible refine (HC.out.2.1 _).mono ?_) | (with_reducible refine (HC.out.2.2.1 _).mono ?_) | (with_reducible refine (HC.out.2.2.2.1 _).mono ?_)); rintro e w' ⟨rfl, rfl⟩) | (go_at_call 12; (first | (with_reducible refine (HT.out.1 _).mono ?_) | (with_reducible refine (HT.out.2 _).mono ?_)); rintro e w' ⟨rfl, rfl⟩))
      go_at_call 9
      refine (HS.out.2.1 _ H3.out.1).mono ?_
      rintro e4 w4 ⟨rfl, hb⟩
      have H4 := Lib.hid (And.intro (H3.out.1.below hb) (H3.out.2.trans (hb.mono H3.out.2.size)))
      clear hb
      go_wp2_with fail
      go_at_call 9
      refine (HS.out.2.2 _ H4.out.1).mono ?_
      rintro e5 w5 ⟨rfl, hb⟩
      have H5 := Lib.hid (H4.out.2.trans (hb.mono H4.out.2.size))
      clear hb
      go_wp2_with (go_at_call 14; (with_reducible refine (HC.out.2.2.2.2 _).mono ?_); rintro e w' ⟨rfl, rfl⟩)
      go_ret
      exact ⟨rfl, H5.out⟩
  · skip
    by_cases hr1 : r1 ≤ 0
    · have hr2 : ¬ 0 < r2 := by have := hr (by decide) hr1; omega
      clear hr
      go_enter Tryd.func6, Tryd.ntmps6
      go_wp2_with fail
      go_at_call 8
      refine (Nt.fixed_any w H0.out.1).mono ?_
      rintro e1 w1 ⟨rfl, hb⟩
      have H1 := Lib.hid (And.intro (H0.out.1.below hb) hb)
      clear hb
      go_wp2_with fail
      go_at_call 14
      refine (HC.out.1 _).mono ?_
      rintro e2 w2 ⟨rfl, rfl⟩
      go_wp2_with fail
      go_at_call 10
      refine (HS.out.1 _ H1.out.1).mono ?_
      rintro e3 w3 ⟨rfl, hb⟩
      have H3 := Lib.hid (And.intro (H1.out.1.below hb) (H1.out.2.trans (hb.mono H1.out.2.size)))
      clear hb
      go_wp2_with (first | (go_at_call 14; (first | (with_reducible refine (HC.out.2.1 _).mono ?_) | (with_reducible refine (HC.out.2.2.1 _).mono ?_) | (with_reducible refine (HC.out.2.2.2.1 _).mono ?_)); rintro e w' ⟨rfl, rfl⟩) | (go_at_call 12; (first | (with_reducible refine (HT.out.1 _).mono ?_) | (with_reducible refine (HT.out.2 _).mono ?_)); rintro e w' ⟨rfl, rfl⟩))
      go_at_call 9
      refine (HS.out.2.1 _ H3.out.1).mono ?_
      rintro e4 w4 ⟨rfl, hb⟩
      have H4 := Lib.hid (And.intro (H3.out.1.below hb) (H3.out.2.trans (hb.mono H3.out.2.size)))
      clear hb
      go_wp2_with fail
      go_at_call 9
      refine (HS.out.2.2 _ H4.out.1).mono ?_
      rintro e5 w5 ⟨rfl, hb⟩
      have H5 := Lib.hid (H4.out.2.trans (hb.mono H4.out.2.size))
      clear hb
      go_wp2_with (go_at_call 14; (with_reducible refine (HC.out.2.2.2.2 _).mono ?_); rintro e w' ⟨rfl, rfl⟩)
      go_ret
      exact ⟨rfl, H5.out⟩
    · clear hr
      go_enter Tryd.func6, Tryd.ntmps6
      go_wp2_with fail
      go_at_call 8
      refine (Nt.fixed_any w H0.out.1).mono ?_
      rintro e1 w1 ⟨rfl, hb⟩
      have H1 := Lib.hid (And.intro (H0.out.1.below hb) hb)
      clear hb
      go_wp2_with fail
      go_at_call 14
      refine (HC.out.1 _).mono ?_
      rintro e2 w2 ⟨rfl, rfl⟩
      go_wp2_with fail
      go_at_call 10
      refine (HS.out.1 _ H1.out.1).mono ?_
      rintro e3 w3 ⟨rfl, hb⟩
      have H3 := Lib.hid (And.intro (H1.out.1.below hb) (H1.out.2.trans (hb.mono H1.out.2.size)))
      clear hb
      go_wp2_with (first | (go_at_call 14; (first | (with_reducible refine (HC.out.2.1 _).mono ?_) | (with_reducible refine (HC.out.2.2.1 _).mono ?_) | (with_reducible refine (HC.out.2.2.2.1 _).mono ?_)); rintro e w' ⟨rfl, rfl⟩) | (go_at_call 12; (first | (with_reducible refine (HT.out.1 _).mono ?_) | (with_reducible refine (HT.out.2 _).mono ?_)); rintro e w' ⟨rfl, rfl⟩))
      go_at_call 9
      refine (HS.out.2.1 _ H3.out.1).mono ?_
      rintro e4 w4 ⟨rfl, hb⟩
      have H4 := Lib.hid (And.intro (H3.out.1.below hb) (H3.out.2.trans (hb.mono H3.out.2.size)))
      clear hb
      go_wp2_with fail
      go_at_call 9
      refine (HS.out.2.2 _ H4.out.1).mono ?_
      rintro e5 w5 ⟨rfl, hb⟩
      have H5 := Lib.hid (H4.out.2.trans (hb.mono H4.out.2.size))
      clear hb
      go_wp2_with (go_at_call 14; (with_reducible refine (HC.out.2.2.2.2 _).mono ?_); rintro e w' ⟨rfl, rfl⟩)
      go_ret
      exact ⟨rfl, H5.out⟩
  · have hn1 := Nt.toList_ne hne
    have hn2 := Nt.toList_beq hne
    clear hne
    have hd1 := Nt.toList_ne hde
    have hd2 : d.toList.isEmpty = false := Nt.toList_emp hde
    have hd3 : ¬ d.toList = [] := Nt.toList_nil hde
    clear hde
    by_cases hr1 : r1 ≤ 0
    · clear hr
      go_enter Tryd.func6, Tryd.ntmps6
      go_wp2_with fail
      go_at_call 8
      refine (Nt.fixed_any w H0.out.1).mono ?_
      rintro e1 w1 ⟨rfl, hb⟩
      have H1 := Lib.hid (And.intro (H0.out.1.below hb) hb)
      clear hb
      go_wp2_with fail
      go_at_call 14
      refine (HC.out.1 _).mono ?_
      rintro e2 w2 ⟨rfl, rfl⟩
      go_wp2_with fail
      go_at_call 10
      refine (HS.out.1 _ H1.out.1).mono ?_
      rintro e3 w3 ⟨rfl, hb⟩
      have H3 := Lib.hid (And.intro (H1.out.1.below hb) (H1.out.2.trans (hb.mono H1.out.2.size)))
      clear hb
      go_wp2_with (first | (go_at_call 14; (first | (with_reducible refine (HC.out.2.1 _).mono ?_) | (with_reducible refine (HC.out.2.2.1 _).mono ?_) | (with_reducible refine (HC.out.2.2.2.1 _).mono ?_)); rintro e w' ⟨rfl, rfl⟩) | (go_at_call 12; (first | (with_reducible refine (HT.out.1 _).mono ?_) | (with_reducible refine (HT.out.2 _).mono ?_)); rintro e w' ⟨rfl, rfl⟩))
      go_at_call 9
      refine (HS.out.2.1 _ H3.out.1).mono ?_
      rintro e4 w4 ⟨rfl, hb⟩
      have H4 := Lib.hid (And.intro (H3.out.1.below hb) (H3.out.2.trans (hb.mono H3.out.2.size)))
      clear hb
      go_wp2_with fail
      go_at_call 9
      refine (HS.out.2.2 _ H4.out.1).mono ?_
      rintro e5 w5 ⟨rfl, hb⟩
      have H5 := Lib.hid (H4.out.2.trans (hb.mono H4.out.2.size))
      clear hb
      go_wp2_with (go_at_call 14; (with_reducible refine (HC.out.2.2.2.2 _).mono ?_); rintro e w' ⟨rfl, rfl⟩)
      go_ret
      exact ⟨rfl, H5.out⟩
    · clear hr
      go_enter Tryd.func6, Tryd.ntmps6
      go_wp2_with fail
      go_at_call 8
      refine (Nt.fixed_any w H0.out.1).mono ?_
      rintro e1 w1 ⟨rfl, hb⟩
      have H1 := Lib.hid (And.intro (H0.out.1.below hb) hb)
      clear hb
      go_wp2_with fail
      go_at_call 14
      refine (HC.out.1 _).mono ?_
      rintro e2 w2 ⟨rfl, rfl⟩
      go_wp2_with fail
      go_at_call 10
      refine (HS.out.1 _ H1.out.1).mono ?_
      rintro e3 w3 ⟨rfl, hb⟩
      have H3 := Lib.hid (And.intro (H1.out.1.below hb) (H1.out.2.trans (hb.mono H1.out.2.size)))
      clear hb
      go_wp2_with (first | (go_at_call 14; (first | (with_reducible refine (HC.out.2.1 _).mono ?_) | (with_reducible refine (HC.out.2.2.1 _).mono ?_) | (with_reducible refine (HC.out.2.2.2.1 _).mono ?_)); rintro e w' ⟨rfl, rfl⟩) | (go_at_call 12; (first | (with_reducible refine (HT.out.1 _).mono ?_) | (with_reducible refine (HT.out.2 _).mono ?_)); rintro e w' ⟨rfl, rfl⟩))
      go_at_call 9
      refine (HS.out.2.1 _ H3.out.1).mono ?_
      rintro e4 w4 ⟨rfl, hb⟩
      have H4 := Lib.hid (And.intro (H3.out.1.below hb) (H3.out.2.trans (hb.mono H3.out.2.size)))
      clear hb
      go_wp2_with fail
      go_at_call 9
      refine (HS.out.2.2 _ H4.out.1).mono ?_
      rintro e5 w5 ⟨rfl, hb⟩
      have H5 := Lib.hid (H4.out.2.trans (hb.mono H4.out.2.size))
      clear hb
      go_wp2_with (go_at_call 14; (with_reducible refine (HC.out.2.2.2.2 _).mono ?_); rintro e w' ⟨rfl, rfl⟩)
      go_ret
      exact ⟨rfl, H5.out⟩
theorem walk (a b c : ByteArray) (w : World) (ok : Nt.Ok w) (za : a.size ≤ 140737488355328) (zb : b.size ≤ 140737488355328) (zc : c.size ≤ 140737488355328) :
    Calls Tryd.prog 6 #[.string a, .string b, .string c] w fun e w' => e = .returned (.bool true) ∧ Below w.heap.size w w' := by
  obtain ⟨s1, hs1⟩ : ∃ s1, a.size + b.size = s1 := ⟨_, rfl⟩
  obtain ⟨s2, hs2⟩ : ∃ s2, s1 + c.size = s2 := ⟨_, rfl⟩
  by_cases h3 : s2 ≤ 500
  · have ha : a.size ≤ 512 := by omega
    have hb : b.size ≤ 512 := by omega
    have hc : c.size ≤ 512 := by omega
    have hab : ∀ x y : Nat, Nt.cmp x y = -Nt.cmp y x := fun x y => by
      unfold Nt.cmp
      rcases Nat.lt_trichotomy x y with h | h | h
      · rw [if_pos h, if_neg (by omega), if_pos h]
      · rw [if_neg (by omega), if_neg (by omega), if_neg (by omega), if_neg (by omega)]; rfl
      · rw [if_neg (by omega), if_pos h, if_pos h]; rfl
    have hX : ∀ v, Nt.nv ⟨(Nt.fm v).toArray⟩ = v := fun v => Nt.rd_fm v
    refine core a b c (Nt.ts a) (Nt.ts b) ⟨(Nt.fm (Nt.nv a - Nt.nv b)).toArray⟩ ⟨(Nt.fm (Nt.nv a + Nt.nv c)).toArray⟩ ⟨(Nt.fm (Nt.nv b + Nt.nv c)).toArray⟩ (Nt.cmp (Nt.nv a) (Nt.nv b)) (Nt.cmp (Nt.nv b) (Nt.nv c)) (Nt.cmp (Nt.nv a) (Nt.nv c)) (if Nt.nv a < Nt.nv b then 32 else 0) w ok s1 s2 (by omega) (by omega) h3 ?_ ?_
      (fun W => Nt.Cmp_any W a b (by omega) (by omega)) (fun W => by rw [← hab]; exact Nt.Cmp_any W b a (by omega) (by omega)) (fun W => Nt.Cmp_any W b c (by omega) (by omega)) (fun W => Nt.Cmp_any W a c (by omega) (by omega)) (fun W => ?_) (fun W => Nt.Trim_any W a) (fun W => Nt.Trim_any W b)
      (fun W hW => Nt.Sub_ok W hW a b ha hb) (fun W hW => Nt.Add_ok W hW a c ha hc) (fun W hW => Nt.Add_ok W hW b c hb hc)
    · have hts : Nt.ts a = Nt.ts b → Nt.nv a = Nt.nv b := fun h => by
        have h2 := congrArg (fun z : ByteArray => Nt.nv z) h
        unfold Nt.ts at h2
        simp only [hX] at h2
        exact h2
      rcases Nat.lt_trichotomy (Nt.nv a) (Nt.nv b) with h | h | h
      · left
        unfold Nt.cmp
        rw [if_pos h, if_pos h]
        exact ⟨rfl, fun e => by have := hts e; omega, rfl⟩
      · right; left
        unfold Nt.cmp Nt.ts
        rw [h, if_neg (by omega), if_neg (by omega), if_neg (by omega), Nat.sub_self]
        exact ⟨rfl, rfl, rfl, rfl⟩
      · right; right
        unfold Nt.cmp
        rw [if_neg (by omega), if_pos h, if_neg (by omega)]
        refine ⟨rfl, fun e => by have := hts e; omega, rfl, fun e => ?_⟩
        have h2 := congrArg (fun z : ByteArray => Nt.nv z) e
        simp only [hX] at h2
        have h4 : Nt.nv ⟨#[]⟩ = 0 := rfl
        omega
    · unfold Nt.cmp
      intro h1 h2
      rcases Nat.lt_trichotomy (Nt.nv a) (Nt.nv b) with h | h | h
      · rcases Nat.lt_trichotomy (Nt.nv b) (Nt.nv c) with g | g | g
        · rw [if_pos (by omega)]; decide
        · rw [if_pos (by omega)]; decide
        · rw [if_neg (by omega), if_pos g] at h2; exact absurd h2 (by decide)
      · rw [h]; exact h2
      · rw [if_neg (by omega), if_pos h] at h1; exact absurd h1 (by decide)
    · have h := Nt.Cmp_any W ⟨(Nt.fm (Nt.nv a + Nt.nv c)).toArray⟩ ⟨(Nt.fm (Nt.nv b + Nt.nv c)).toArray⟩ ?_ ?_
      · rw [hX, hX] at h
        have e : Nt.cmp (Nt.nv a + Nt.nv c) (Nt.nv b + Nt.nv c) = Nt.cmp (Nt.nv a) (Nt.nv b) := by
          unfold Nt.cmp
          simp only [Nat.add_lt_add_iff_right]
        rw [e] at h
        exact h
      · exact Nt.sum_size a c ha hc
      · exact Nt.sum_size b c hb hc
  · have hs1z : (a.size : Int) + (b.size : Int) = (s1 : Int) := by omega
    have hs2z : (s1 : Int) + (c.size : Int) = (s2 : Int) := by omega
    have h3z : (500 : Int) < (s2 : Int) := by omega
    have hs1b : (s1 : Int) ≤ 281474976710656 := by omega
    have hs2b : (s2 : Int) ≤ 422212465065984 := by omega
    have H0 := Lib.hid ok
    clear ok hs1 hs2 h3 za zb zc
    go_enter Tryd.func6, Tryd.ntmps6
    go_wp2_with fail
    go_at_call 8
    refine (Nt.fixed_any w H0.out).mono ?_
    rintro e1 w1 ⟨rfl, hb⟩
    have H1 := Lib.hid hb
    clear hb
    go_wp2_with fail
    go_ret
    exact ⟨rfl, H1.out⟩
end lwOrders
end Go.Proofs.YtkebbdidipjefaaDoor
