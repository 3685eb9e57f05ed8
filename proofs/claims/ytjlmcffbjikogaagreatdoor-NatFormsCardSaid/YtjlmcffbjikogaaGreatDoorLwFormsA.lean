/- NatForms answers true for every two texts and every size. -/
import Derived.Test.YtjlmcffbjikogaaGreatDoorNyL
import Derived.Test.YtjlmcffbjikogaaGreatDoorRnE
namespace Go.Proofs.YtjlmcffbjikogaaGreatDoor
open Go.RowKit
theorem Rn.drewn_below (w : World) : ∀ k, Below w.heap.size w (w.drewN k)
  | 0 => Below.refl _ _
  | k + 1 => (Rn.drewn_below w k).drew
namespace lwForms

set_option maxHeartbeats 2000000 in
set_option maxRecDepth 100000 in
theorem core (a b T s : ByteArray) (n d r : Int) (X Y K : Nat) (w : World) (ok : Nt.Ok w) (za : a.size ≤ 4000) (zb : b.size ≤ 4000)
    (O1 : ∀ W, Calls Tryz.prog 15 #[.string a] W fun e w' => ∃ av k c, e = .returned (.slice av k c) ∧ Rn.Num w' av k c X ∧ Below W.heap.size W w')
    (O2 : ∀ W, Calls Tryz.prog 15 #[.string b] W fun e w' => ∃ av k c, e = .returned (.slice av k c) ∧ Rn.Num w' av k c Y ∧ Below W.heap.size W w')
    (T1 : ∀ W, Calls Tryz.prog 16 #[.string a] W fun e w' => e = .returned (.string T) ∧ w' = W)
    (T2 : ∀ W av k c, Rn.Num W av k c X → Calls Tryz.prog 17 #[.slice av k c] W fun e w' => e = .returned (.string T) ∧ Below W.heap.size W w')
    (B1 : ∀ W, Calls Tryz.prog 18 #[.string a] W fun e w' => e = .returned (.int .i64 d) ∧ w' = W)
    (B2 : ∀ W av k c, Rn.Num W av k c X → Calls Tryz.prog 19 #[.slice av k c] W fun e w' => e = .returned (.int .i64 d) ∧ w' = W)
    (C1 : ∀ W, Calls Tryz.prog 20 #[.string a, .string b] W fun e w' => e = .returned (.int .i64 r) ∧ w' = W)
    (C2 : ∀ W av k c bv m l, Rn.Num W av k c X → Rn.Num W bv m l Y → Calls Tryz.prog 21 #[.slice av k c, .slice bv m l] W fun e w' => e = .returned (.int .i64 r) ∧ ∃ k, w' = W.drewN k)
    (C3 : ∀ W, Calls Tryz.prog 20 #[.string (⟨#[0]⟩ ++ a), .string a] W fun e w' => e = .returned (.int .i64 0) ∧ w' = W)
    (B3 : ∀ W, Calls Tryz.prog 18 #[.string (⟨#[0, 0]⟩ ++ a)] W fun e w' => e = .returned (.int .i64 d) ∧ w' = W)
    (P1 : ∀ W, Nt.Ok W → Calls Tryz.prog 22 #[.string a, .int .i64 n] W fun e w' => e = .returned (.tuple #[.string s, .int .i64 (K : Int)]) ∧ Below W.heap.size W w')
    (hn : ((n < 0 ∨ (0 ≤ n ∧ 512 < n) ∨ (0 ≤ n ∧ n ≤ 512 ∧ n < (T.size : Int))) ∧ s = ⟨#[]⟩ ∧ K = 35) ∨ (0 ≤ n ∧ n ≤ 512 ∧ (T.size : Int) ≤ n ∧ K = 0 ∧ (s.size : Int) = n))
    (C4 : K = 0 → ∀ W, Calls Tryz.prog 20 #[.string s, .string a] W fun e w' => e = .returned (.int .i64 0) ∧ w' = W) :
    Calls Tryz.prog 4 #[.string a, .string b, .int .i64 n] w fun e w' => e = .returned (.bool true) ∧ Below w.heap.size w w' := by
  have zaz : ¬ (4000 : Int) < (a.size : Int) := by omega
  have zbz : ¬ (4000 : Int) < (b.size : Int) := by omega
  have HO := Lib.hid (And.intro O1 O2)
  have HT := Lib.hid (And.intro T1 T2)
  have HB := Lib.hid (And.intro B1 (And.intro B2 B3))
  have HC := Lib.hid (And.intro C1 (And.intro C2 (And.intro C3 C4)))
  have HP := Lib.hid (And.intro P1 hn)
  have H0 := Lib.hid (And.intro ok (Below.refl w.heap.size w))
  clear O1 O2 T1 T2 B1 B2 B3 C1 C2 C3 C4 P1 hn ok
  go_enter Tryz.func4, Tryz.ntmps4
  go_wp2_with fail
  go_at_call 15
  refine (HO.out.1 _).mono ?_
  rintro e1 w1 ⟨av, k, c, rfl, hx, hb⟩
  have H1 := Lib.hid (And.intro (H0.out.1.below hb) (And.intro hb hx))
  clear hb hx
  go_wp2_with fail
  go_at_call 15
  refine (HO.out.2 _).mono ?_
  rintro e2 w2 ⟨bv, m, l, rfl, hy, hb⟩
  have H2 := Lib.hid (And.intro (H1.out.1.below hb) (And.intro (H1.out.2.1.trans (hb.mono H1.out.2.1.size)) (And.intro (H1.out.2.2.below hb) hy)))
  clear hb hy
  go_wp2_with fail
  go_at_call 14
  refine (Nt.fixed_any w2 H2.out.1).mono ?_
  rintro e3 w3 ⟨rfl, hb⟩
  have H3 := Lib.hid (And.intro (H2.out.1.below hb) (And.intro (H2.out.2.1.trans (hb.mono H2.out.2.1.size)) (And.intro (H2.out.2.2.1.below hb) (H2.out.2.2.2.below hb))))
  clear hb
  go_wp2_with fail
  go_at_call 16
  refine (HT.out.1 _).mono ?_
  rintro e w3 ⟨rfl, rfl⟩
  go_wp2_with fail
  go_at_call 17
  refine (HT.out.2 _ _ _ _ H3.out.2.2.1).mono ?_
  rintro e4 w4 ⟨rfl, hb⟩
  have H4 := Lib.hid (And.intro (H3.out.1.below hb) (And.intro (H3.out.2.1.trans (hb.mono H3.out.2.1.size)) (And.intro (H3.out.2.2.1.below hb) (H3.out.2.2.2.below hb))))
  clear hb
  go_wp2_with fail
  go_at_call 18
  refine (HB.out.1 _).mono ?_
  rintro e w4 ⟨rfl, rfl⟩
  go_wp2_with fail
  go_at_call 19
  refine (HB.out.2.1 _ _ _ _ H4.out.2.2.1).mono ?_
  rintro e w4 ⟨rfl, rfl⟩
  go_wp2_with fail
  go_at_call 20
  refine (HC.out.1 _).mono ?_
  rintro e w4 ⟨rfl, rfl⟩
  go_wp2_with fail
  go_at_call 21
  refine (HC.out.2.1 _ _ _ _ _ _ _ H4.out.2.2.1 H4.out.2.2.2).mono ?_
  rintro e5 w5 ⟨rfl, j5, hw5⟩
  have hb : Below w4.heap.size w4 w5 := by rw [hw5]; exact (Rn.drewn_below w4 j5)
  have H5 := Lib.hid (And.intro (H4.out.1.below hb) (And.intro (H4.out.2.1.trans (hb.mono H4.out.2.1.size)) (H4.out.2.2.1.below hb)))
  clear hb hw5
  go_wp2_with fail
  go_at_call 20
  refine (HC.out.2.2.1 _).mono ?_
  rintro e w5 ⟨rfl, rfl⟩
  go_wp2_with fail
  go_at_call 18
  refine (HB.out.2.2 _).mono ?_
  rintro e w5 ⟨rfl, rfl⟩
  go_wp2_with fail
  go_at_call 18
  refine (HB.out.1 _).mono ?_
  rintro e w5 ⟨rfl, rfl⟩
  go_wp2_with fail
  go_at_call 22
  refine (HP.out.1 _ H5.out.1).mono ?_
  rintro e6 w6 ⟨rfl, hb⟩
  have H6 := Lib.hid (And.intro (H5.out.2.1.trans (hb.mono H5.out.2.1.size)) (H5.out.2.2.below hb))
  clear hb
  rcases HP.out.2 with ⟨h1 | ⟨h1, h2⟩ | ⟨h1, h2, h3⟩, rfl, rfl⟩ | ⟨h1, h2, h3, rfl, h4⟩
  · go_wp2_with fail
    go_ret
    exact ⟨rfl, H6.out.1⟩
  · have h1 : ¬ n < 0 := by omega
    go_wp2_with fail
    go_ret
    exact ⟨rfl, H6.out.1⟩
  · have h1 : ¬ n < 0 := by omega
    have h2 : ¬ 512 < n := by omega
    go_wp2_with fail
    go_at_call 17
    refine (HT.out.2 _ _ _ _ H6.out.2).mono ?_
    rintro e7 w7 ⟨rfl, hb⟩
    have H7 := Lib.hid (H6.out.1.trans (hb.mono H6.out.1.size))
    clear hb
    go_wp2_with fail
    go_ret
    exact ⟨rfl, H7.out⟩
  · have h1 : ¬ n < 0 := by omega
    have h2 : ¬ 512 < n := by omega
    have h3 : ¬ n < (T.size : Int) := by omega
    go_wp2_with fail
    go_at_call 17
    refine (HT.out.2 _ _ _ _ H6.out.2).mono ?_
    rintro e7 w7 ⟨rfl, hb⟩
    have H7 := Lib.hid (H6.out.1.trans (hb.mono H6.out.1.size))
    clear hb
    go_wp2_with fail
    go_at_call 20
    refine (HC.out.2.2.2 trivial _).mono ?_
    rintro e w7 ⟨rfl, rfl⟩
    go_wp2_with fail
    go_ret
    exact ⟨rfl, H7.out⟩
theorem nv_zero (a : ByteArray) : Nt.nv (⟨#[0]⟩ ++ a) = Nt.nv a := by
  unfold Nt.nv
  rw [ByteArray.data_append, Array.toList_append]
  exact Nt.rd_zero_cons _
theorem nv_zeros (a : ByteArray) : Nt.nv (⟨#[0, 0]⟩ ++ a) = Nt.nv a := by
  unfold Nt.nv
  rw [ByteArray.data_append, Array.toList_append]
  exact (Nt.rd_zero_cons _).trans (Nt.rd_zero_cons _)
theorem cmp_self (x : Nat) : Nt.cmp x x = 0 := by unfold Nt.cmp; simp
theorem few {w : World} {av : Option Addr} {k c : Nat} {a : ByteArray} (h : Rn.Num w av k c (Nt.nv a)) (ha : a.size ≤ 4000) : k ≤ 1000000 := by
  have := h.bytes 2000 a.size (Nt.nv_lt a) (by omega)
  omega
set_option maxHeartbeats 1000000 in
set_option maxRecDepth 100000 in
theorem far (a b : ByteArray) (n : Int) (w : World) (ok : Nt.Ok w) (za : a.size ≤ 140737488355328) (zb : b.size ≤ 140737488355328) (h : 4000 < a.size ∨ (a.size ≤ 4000 ∧ 4000 < b.size)) :
    Calls Tryz.prog 4 #[.string a, .string b, .int .i64 n] w fun e w' => e = .returned (.bool true) ∧ Below w.heap.size w w' := by
  have H0 := Lib.hid ok
  clear ok
  rcases h with h | ⟨h, h2⟩
  · have h1 : (4000 : Int) < (a.size : Int) := by omega
    go_enter Tryz.func4, Tryz.ntmps4
    go_wp2_with fail
    go_at_call 14
    refine (Nt.fixed_any w H0.out).mono ?_
    rintro e1 w1 ⟨rfl, hb⟩
    have H1 := Lib.hid hb
    clear hb
    go_wp2_with fail
    go_ret
    exact ⟨rfl, H1.out⟩
  · have h1 : ¬ (4000 : Int) < (a.size : Int) := by omega
    have h3 : (4000 : Int) < (b.size : Int) := by omega
    go_enter Tryz.func4, Tryz.ntmps4
    go_wp2_with fail
    go_at_call 14
    refine (Nt.fixed_any w H0.out).mono ?_
    rintro e1 w1 ⟨rfl, hb⟩
    have H1 := Lib.hid hb
    clear hb
    go_wp2_with fail
    go_ret
    exact ⟨rfl, H1.out⟩
theorem walk (a b : ByteArray) (n : Int) (w : World) (ok : Nt.Ok w) (za : a.size ≤ 140737488355328) (zb : b.size ≤ 140737488355328) :
    Calls Tryz.prog 4 #[.string a, .string b, .int .i64 n] w fun e w' => e = .returned (.bool true) ∧ Below w.heap.size w w' := by
  by_cases h1 : 4000 < a.size
  · exact far a b n w ok za zb (.inl h1)
  by_cases h2 : 4000 < b.size
  · exact far a b n w ok za zb (.inr ⟨by omega, h2⟩)
  have ha : a.size ≤ 4000 := by omega
  have hb : b.size ≤ 4000 := by omega
  have hT : (Nt.ts a).size = Nt.by (Nt.nv a) := Nt.ts_size a
  have hC3 : ∀ W, Calls Tryz.prog 20 #[.string (⟨#[0]⟩ ++ a), .string a] W fun e w' => e = .returned (.int .i64 0) ∧ w' = W := fun W => by
    have h := Nt.Cmp_any W (⟨#[0]⟩ ++ a) a (by rw [ByteArray.size_append]; show 1 + a.size ≤ _; omega) (by omega)
    rw [nv_zero, cmp_self] at h
    exact h
  have hB3 : ∀ W, Calls Tryz.prog 18 #[.string (⟨#[0, 0]⟩ ++ a)] W fun e w' => e = .returned (.int .i64 ((Nt.dig (Nt.nv a) : Nat) : Int)) ∧ w' = W := fun W => by
    have h := Nt.Bits_any W (⟨#[0, 0]⟩ ++ a) (by rw [ByteArray.size_append]; show 2 + a.size ≤ _; omega)
    rw [nv_zeros] at h
    exact h
  by_cases hno : n < 0 ∨ 512 < n ∨ (0 ≤ n ∧ n ≤ 512 ∧ n < (Nt.by (Nt.nv a) : Int))
  · refine core a b (Nt.ts a) ⟨#[]⟩ n ((Nt.dig (Nt.nv a) : Nat) : Int) (Nt.cmp (Nt.nv a) (Nt.nv b)) (Nt.nv a) (Nt.nv b) 35 w ok ha hb (fun W => Rn.Of_any W a (by omega)) (fun W => Rn.Of_any W b (by omega)) (fun W => Nt.Trim_any W a) (fun W av k c h => Rn.Form_any W av k c _ h (few h ha)) (fun W => Nt.Bits_any W a (by omega)) (fun W av k c h => Rn.Bits_any W av k c _ h (few h ha)) (fun W => Nt.Cmp_any W a b (by omega) (by omega)) (fun W av k c bv m l h g => Rn.Cmp_any W av bv k c _ m l _ h g (few h ha) (few g hb)) hC3 hB3 (fun W hW => Nt.Pad_no W hW a (by omega) n hno) (.inl ⟨?_, rfl, rfl⟩) (fun h => absurd h (by decide))
    rw [hT]
    omega
  · obtain ⟨N, rfl⟩ : ∃ N : Nat, n = (N : Int) := ⟨n.toNat, by omega⟩
    refine core a b (Nt.ts a) (Nt.pd (Nt.nv a) N) N ((Nt.dig (Nt.nv a) : Nat) : Int) (Nt.cmp (Nt.nv a) (Nt.nv b)) (Nt.nv a) (Nt.nv b) 0 w ok ha hb (fun W => Rn.Of_any W a (by omega)) (fun W => Rn.Of_any W b (by omega)) (fun W => Nt.Trim_any W a) (fun W av k c h => Rn.Form_any W av k c _ h (few h ha)) (fun W => Nt.Bits_any W a (by omega)) (fun W av k c h => Rn.Bits_any W av k c _ h (few h ha)) (fun W => Nt.Cmp_any W a b (by omega) (by omega)) (fun W av k c bv m l h g => Rn.Cmp_any W av bv k c _ m l _ h g (few h ha) (few g hb)) hC3 hB3 (fun W _ => Nt.Pad_ok W a N (by omega) (by omega)) (.inr ⟨by omega, by omega, by rw [hT]; omega, rfl, by rw [Nt.pd_size _ _ (by omega)]⟩) (fun _ W => ?_)
    have h := Nt.Cmp_any W (Nt.pd (Nt.nv a) N) a (by rw [Nt.pd_size _ _ (by omega)]; omega) (by omega)
    rw [Nt.pd_nv, cmp_self] at h
    exact h
end lwForms
end Go.Proofs.YtjlmcffbjikogaaGreatDoor
