/- NatInverses, the walk. -/
import Derived.Test.YtccbnpondlncpaaGreatDoorLwPowersA
import Derived.Test.YtccbnpondlncpaaGreatDoorRnP
namespace Go.Proofs.YtccbnpondlncpaaGreatDoor
open Go.RowKit
namespace lwInverses
set_option maxHeartbeats 2000000 in
set_option maxRecDepth 100000 in
theorem far (a m : ByteArray) (w : World) (ok : Nt.Ok w) (za : a.size ≤ 140737488355328) (zm : m.size ≤ 140737488355328) (h : 512 < a.size ∨ 512 < m.size) :
    Calls Tryz.prog 6 #[.string a, .string m] w fun e w' => e = .returned (.bool true) ∧ Below w.heap.size w w' := by
  have HL := Lib.hid (And.intro (show a.size ≤ 9223372036854775807 by omega) (And.intro (show m.size ≤ 9223372036854775807 by omega) h))
  clear h
  have H0 := Lib.hid (And.intro ok (And.intro (Below.refl w.heap.size w) True.intro))
  clear ok
  go_enter Tryz.func6, Tryz.ntmps6
  go_wp2_with fail
  go_at_call 25
  refine Calls.mono (Nt.Inv_long w H0.out.1 a m HL.out.1 HL.out.2.1 HL.out.2.2) ?_
  rintro e1 w1 ⟨rfl, hb⟩
  have H1 := Lib.hid (And.intro (H0.out.1.below hb) (And.intro (H0.out.2.1.trans (hb.mono H0.out.2.1.size)) True.intro))
  clear hb
  go_wp2_with fail
  go_at_call 14
  refine Calls.mono (Nt.fixed_any w1 H1.out.1) ?_
  rintro e2 w2 ⟨rfl, hb⟩
  have H2 := Lib.hid (And.intro (H1.out.1.below hb) (And.intro (H1.out.2.1.trans (hb.mono H1.out.2.1.size)) True.intro))
  clear hb
  go_wp2_with fail
  have hnew := heap_alloc_new w2 (Obj.cells #[.string a, .string m] 9)
  have hb : Below w2.heap.size w2 (w2.alloc (Obj.cells #[.string a, .string m] 9)) := (Below.refl _ _).alloc (Nat.le_refl _) _
  revert hnew hb
  generalize w2.alloc (Obj.cells #[.string a, .string m] 9) = w3
  intro hnew hb
  have H3 := Lib.hid (And.intro (H2.out.1.below hb) (And.intro (H2.out.2.1.trans (hb.mono H2.out.2.1.size)) True.intro))
  have HN := Lib.hid hnew
  clear hnew hb
  go_at_call 13
  refine Calls.mono (Rn.Long_two w3 _ _ a m true HN.out HL.out.1 HL.out.2.1 (.inr ⟨rfl, HL.out.2.2⟩)) ?_
  rintro e4 w3 ⟨rfl, rfl⟩
  go_wp2_with fail
  go_ret
  exact ⟨rfl, H3.out.2.1⟩
set_option maxHeartbeats 4000000 in
set_option maxRecDepth 100000 in
theorem zero (a m : ByteArray) (w : World) (ok : Nt.Ok w) (za : a.size ≤ 512) (zm : m.size ≤ 512) (hz : Nt.nv m = 0) :
    Calls Tryz.prog 6 #[.string a, .string m] w fun e w' => e = .returned (.bool true) ∧ Below w.heap.size w w' := by
  have hP : Calls Tryz.prog 25 #[.string a, .string m] w fun e w' => e = .returned (.tuple #[.string ⟨#[]⟩, .int .i64 31]) ∧ Below w.heap.size w w' := by
    refine (Nt.Inv_ok w ok a m za zm).mono ?_
    rintro e1 w1 ⟨R, K, rfl, hP, hb⟩
    rcases hP with ⟨_, rfl, rfl⟩ | ⟨h, _⟩ | ⟨h, _⟩
    · rw [Nt.fm_zero]; exact ⟨rfl, hb⟩
    · omega
    · omega
  have HP := Lib.hid hP
  have HL := Lib.hid (And.intro (show a.size ≤ 9223372036854775807 by omega) (And.intro (show m.size ≤ 9223372036854775807 by omega) (And.intro (show a.size ≤ 8000000 by omega) (And.intro (show m.size ≤ 8000000 by omega) (And.intro za (And.intro zm hz))))))
  clear hP hz
  have H0 := Lib.hid (And.intro ok (And.intro (Below.refl w.heap.size w) True.intro))
  clear ok
  go_enter Tryz.func6, Tryz.ntmps6
  go_wp2_with fail
  go_at_call 25
  refine Calls.mono (HP.out) ?_
  rintro e1 w1 ⟨rfl, hb⟩
  have H1 := Lib.hid (And.intro (H0.out.1.below hb) (And.intro (H0.out.2.1.trans (hb.mono H0.out.2.1.size)) True.intro))
  clear hb
  go_wp2_with fail
  go_at_call 14
  refine Calls.mono (Nt.fixed_any w1 H1.out.1) ?_
  rintro e2 w2 ⟨rfl, hb⟩
  have H2 := Lib.hid (And.intro (H1.out.1.below hb) (And.intro (H1.out.2.1.trans (hb.mono H1.out.2.1.size)) True.intro))
  clear hb
  go_wp2_with fail
  have hnew := heap_alloc_new w2 (Obj.cells #[.string a, .string m] 9)
  have hb : Below w2.heap.size w2 (w2.alloc (Obj.cells #[.string a, .string m] 9)) := (Below.refl _ _).alloc (Nat.le_refl _) _
  revert hnew hb
  generalize w2.alloc (Obj.cells #[.string a, .string m] 9) = w3
  intro hnew hb
  have H3 := Lib.hid (And.intro (H2.out.1.below hb) (And.intro (H2.out.2.1.trans (hb.mono H2.out.2.1.size)) True.intro))
  have HN := Lib.hid hnew
  clear hnew hb
  go_at_call 13
  refine Calls.mono (Rn.Long_two w3 _ _ a m false HN.out HL.out.1 HL.out.2.1 (.inl ⟨rfl, HL.out.2.2.2.2.1, HL.out.2.2.2.2.2.1⟩)) ?_
  rintro e4 w3 ⟨rfl, rfl⟩
  go_wp2_with fail
  go_at_call 15
  refine Calls.mono (Rn.Of_any w3 m HL.out.2.2.2.1) ?_
  rintro e5 w5 ⟨av5, k5, c5, rfl, hN, hb⟩
  have H4 := Lib.hid (And.intro (H3.out.1.below hb) (And.intro (H3.out.2.1.trans (hb.mono H3.out.2.1.size)) (And.intro hN True.intro)))
  clear hN hb
  have hk0 := H4.out.2.2.1.zero.2 HL.out.2.2.2.2.2.2
  subst hk0
  go_wp2_with fail
  go_ret
  exact ⟨rfl, H4.out.2.1⟩
set_option maxHeartbeats 4000000 in
set_option maxRecDepth 100000 in
theorem noinv (a m : ByteArray) (w : World) (ok : Nt.Ok w) (za : a.size ≤ 512) (zm : m.size ≤ 512) (hz : 0 < Nt.nv m) (hg : Nat.gcd (Nt.nv a) (Nt.nv m) ≠ 1) :
    Calls Tryz.prog 6 #[.string a, .string m] w fun e w' => e = .returned (.bool true) ∧ Below w.heap.size w w' := by
  have hP : Calls Tryz.prog 25 #[.string a, .string m] w fun e w' => e = .returned (.tuple #[.string ⟨#[]⟩, .int .i64 33]) ∧ Below w.heap.size w w' := by
    refine (Nt.Inv_ok w ok a m za zm).mono ?_
    rintro e1 w1 ⟨R, K, rfl, hP, hb⟩
    rcases hP with ⟨h, _⟩ | ⟨_, _, rfl, rfl⟩ | ⟨_, h, _⟩
    · omega
    · rw [Nt.fm_zero]; exact ⟨rfl, hb⟩
    · exact absurd h hg
  have hcmp : Nt.cmp (Nat.gcd (Nt.nv a) (Nt.nv m)) 1 = 1 := by
    have h1 := Nat.gcd_pos_of_pos_right (Nt.nv a) hz
    unfold Nt.cmp
    rw [if_neg (by omega), if_pos (by omega)]
  have HG := Lib.hid hcmp
  clear hcmp hg
  have HP := Lib.hid hP
  have HL := Lib.hid (And.intro (show a.size ≤ 9223372036854775807 by omega) (And.intro (show m.size ≤ 9223372036854775807 by omega) (And.intro (show a.size ≤ 8000000 by omega) (And.intro (show m.size ≤ 8000000 by omega) (And.intro za (And.intro zm hz))))))
  clear hP hz
  have H0 := Lib.hid (And.intro ok (And.intro (Below.refl w.heap.size w) True.intro))
  clear ok
  go_enter Tryz.func6, Tryz.ntmps6
  go_wp2_with fail
  go_at_call 25
  refine Calls.mono (HP.out) ?_
  rintro e1 w1 ⟨rfl, hb⟩
  have H1 := Lib.hid (And.intro (H0.out.1.below hb) (And.intro (H0.out.2.1.trans (hb.mono H0.out.2.1.size)) True.intro))
  clear hb
  go_wp2_with fail
  go_at_call 14
  refine Calls.mono (Nt.fixed_any w1 H1.out.1) ?_
  rintro e2 w2 ⟨rfl, hb⟩
  have H2 := Lib.hid (And.intro (H1.out.1.below hb) (And.intro (H1.out.2.1.trans (hb.mono H1.out.2.1.size)) True.intro))
  clear hb
  go_wp2_with fail
  have hnew := heap_alloc_new w2 (Obj.cells #[.string a, .string m] 9)
  have hb : Below w2.heap.size w2 (w2.alloc (Obj.cells #[.string a, .string m] 9)) := (Below.refl _ _).alloc (Nat.le_refl _) _
  revert hnew hb
  generalize w2.alloc (Obj.cells #[.string a, .string m] 9) = w3
  intro hnew hb
  have H3 := Lib.hid (And.intro (H2.out.1.below hb) (And.intro (H2.out.2.1.trans (hb.mono H2.out.2.1.size)) True.intro))
  have HN := Lib.hid hnew
  clear hnew hb
  go_at_call 13
  refine Calls.mono (Rn.Long_two w3 _ _ a m false HN.out HL.out.1 HL.out.2.1 (.inl ⟨rfl, HL.out.2.2.2.2.1, HL.out.2.2.2.2.2.1⟩)) ?_
  rintro e4 w3 ⟨rfl, rfl⟩
  go_wp2_with fail
  go_at_call 15
  refine Calls.mono (Rn.Of_any w3 m HL.out.2.2.2.1) ?_
  rintro e5 w5 ⟨av5, k5, c5, rfl, hN, hb⟩
  have H4 := Lib.hid (And.intro (H3.out.1.below hb) (And.intro (H3.out.2.1.trans (hb.mono H3.out.2.1.size)) (And.intro hN True.intro)))
  clear hN hb
  have hk0 : 0 < k5 := Nat.pos_of_ne_zero fun h => by have h1 := H4.out.2.2.1.zero.1 h; have h2 := HL.out.2.2.2.2.2.2; omega
  have hkz : ((k5 : Int) == 0) = false := by rw [beq_eq_false_iff_ne]; omega
  have hkb := Rn.few H4.out.2.2.1 HL.out.2.2.2.2.2.1
  go_wp2_with fail
  have hone := Rn.one_lim w5
  have hb : Below w5.heap.size w5 (w5.alloc (Obj.cells #[Value.int IntKind.u64 1] 47)) := (Below.refl _ _).alloc (Nat.le_refl _) _
  revert hone hb
  generalize w5.alloc (Obj.cells #[Value.int IntKind.u64 1] 47) = w6
  intro hone hb
  have H5 := Lib.hid (And.intro (H4.out.1.below hb) (And.intro (H4.out.2.1.trans (hb.mono H4.out.2.1.size)) (And.intro (H4.out.2.2.1.below hb) (And.intro hone True.intro))))
  clear hone hb hkz
  go_at_call 15
  refine Calls.mono (Rn.Of_any w6 a HL.out.2.2.1) ?_
  rintro e7 w7 ⟨av7, k7, c7, rfl, hN, hb⟩
  have H6 := Lib.hid (And.intro (H5.out.1.below hb) (And.intro (H5.out.2.1.trans (hb.mono H5.out.2.1.size)) (And.intro (H5.out.2.2.1.below hb) (And.intro (H5.out.2.2.2.1.below hb) (And.intro hN True.intro)))))
  clear hN hb
  have hxb := Rn.few H6.out.2.2.2.2.1 HL.out.2.2.2.2.1
  go_wp2_with fail
  go_at_call 26
  refine Calls.mono (Rn.Gcd_any w7 av7 av5 k7 c7 _ k5 c5 _ H6.out.2.2.2.2.1 H6.out.2.2.1 (by omega) (by omega)) ?_
  rintro e8 w8 ⟨av8, k8, c8, rfl, hN, hb⟩
  have H7 := Lib.hid (And.intro (H6.out.1.below hb) (And.intro (H6.out.2.1.trans (hb.mono H6.out.2.1.size)) (And.intro (H6.out.2.2.1.below hb) (And.intro (H6.out.2.2.2.1.below hb) (And.intro (H6.out.2.2.2.2.1.below hb) (And.intro hN True.intro))))))
  clear hN hb
  have hgb := H7.out.2.2.2.2.2.1.len (k7 + k5) (Rn.gcd_lt H7.out.2.2.2.2.1.lt H7.out.2.2.1.lt)
  have HC := Lib.hid (Rn.Cmp_any w8 av8 (some ⟨w5.heap.size, 0, none⟩) k8 c8 _ 1 1 1 H7.out.2.2.2.2.2.1 H7.out.2.2.2.1 (by omega) (by omega))
  rw [HG.out] at HC
  go_wp2_with fail
  go_at_call 21
  refine Calls.mono (HC.out) ?_
  rintro e9 w9 ⟨rfl, j9, hw⟩
  have hb : Below w8.heap.size w8 w9 := by rw [hw]; exact Rn.beyond (Below.refl _ _) j9
  have H8 := Lib.hid (And.intro (H7.out.1.below hb) (And.intro (H7.out.2.1.trans (hb.mono H7.out.2.1.size)) (And.intro (H7.out.2.2.1.below hb) (And.intro (H7.out.2.2.2.1.below hb) (And.intro (H7.out.2.2.2.2.1.below hb) (And.intro (H7.out.2.2.2.2.2.1.below hb) True.intro))))))
  clear hb hw
  go_wp2_with fail
  go_ret
  exact ⟨rfl, H8.out.2.1⟩
theorem inv_ex (a m : ByteArray) (w : World) (ok : Nt.Ok w) (za : a.size ≤ 512) (zm : m.size ≤ 512) (hz : 0 < Nt.nv m) (hg : Nat.gcd (Nt.nv a) (Nt.nv m) = 1) :
    Calls Tryz.prog 25 #[.string a, .string m] w fun e w' => ∃ X : ByteArray, e = .returned (.tuple #[.string X, .int .i64 0]) ∧ (X = ⟨(Nt.fm (Nt.nv X)).toArray⟩ ∧ Nt.nv X < Nt.nv m ∧ Nt.nv X * Nt.nv a % Nt.nv m = 1 % Nt.nv m) ∧ Below w.heap.size w w' := by
    refine (Nt.Inv_ok w ok a m za zm).mono ?_
    rintro e1 w1 ⟨R, K, rfl, hP, hb⟩
    rcases hP with ⟨h, _⟩ | ⟨_, h, _⟩ | ⟨_, _, h1, h2, rfl⟩
    · omega
    · exact absurd hg h
    · have hn : Nt.nv ⟨(Nt.fm R).toArray⟩ = R := Nt.rd_fm R
      exact ⟨_, rfl, by rw [hn]; exact ⟨rfl, h1, h2⟩, hb⟩
theorem facts (a m X : ByteArray) (zm : m.size ≤ 512) (h : X = ⟨(Nt.fm (Nt.nv X)).toArray⟩ ∧ Nt.nv X < Nt.nv m ∧ Nt.nv X * Nt.nv a % Nt.nv m = 1 % Nt.nv m) :
    X.size ≤ 8000000 ∧ X.size ≤ 512 ∧ X = ⟨(Nt.fm (Nt.nv X)).toArray⟩ ∧ Nt.cmp (Nt.nv X) (Nt.nv m) = -1 ∧ Nt.cmp (Nt.nv X * Nt.nv a % Nt.nv m) (1 % Nt.nv m) = 0 := by
  obtain ⟨hX, hXl, hXi⟩ := h
  have hXs : X.size ≤ 512 := by
    have h1 : X.size = Nt.by (Nt.nv X) := by
      have h0 := congrArg ByteArray.size hX
      rw [h0]; exact Nt.fm_len _
    have h2 := Nt.by_le _ m.size (Nat.lt_trans hXl (Nt.nv_lt m))
    omega
  exact ⟨by omega, hXs, hX, by unfold Nt.cmp; rw [if_pos hXl], by rw [hXi]; unfold Nt.cmp; simp⟩
set_option maxHeartbeats 4000000 in
set_option maxRecDepth 100000 in
theorem core (a m : ByteArray) (w : World) (ok : Nt.Ok w) (za : a.size ≤ 512) (zm : m.size ≤ 512) (hz : 0 < Nt.nv m) (hg : Nat.gcd (Nt.nv a) (Nt.nv m) = 1) :
    Calls Tryz.prog 6 #[.string a, .string m] w fun e w' => e = .returned (.bool true) ∧ Below w.heap.size w w' := by
  have hP := inv_ex a m w ok za zm hz hg
  have hcmp : Nt.cmp (Nat.gcd (Nt.nv a) (Nt.nv m)) 1 = 0 := by rw [hg]; decide
  have HG := Lib.hid hcmp
  clear hcmp hg
  have HP := Lib.hid hP
  have HL := Lib.hid (And.intro (show a.size ≤ 9223372036854775807 by omega) (And.intro (show m.size ≤ 9223372036854775807 by omega) (And.intro (show a.size ≤ 8000000 by omega) (And.intro (show m.size ≤ 8000000 by omega) (And.intro za (And.intro zm hz))))))
  clear hP hz
  have H0 := Lib.hid (And.intro ok (And.intro (Below.refl w.heap.size w) True.intro))
  clear ok
  go_enter Tryz.func6, Tryz.ntmps6
  go_wp2_with fail
  go_at_call 25
  refine Calls.mono (HP.out) ?_
  rintro e1 w1 ⟨X, rfl, hX, hb⟩
  have H1 := Lib.hid (And.intro (H0.out.1.below hb) (And.intro (H0.out.2.1.trans (hb.mono H0.out.2.1.size)) True.intro))
  clear hb
  have HX := Lib.hid (facts a m X HL.out.2.2.2.2.2.1 hX)
  clear hX
  go_wp2_with fail
  go_at_call 14
  refine Calls.mono (Nt.fixed_any w1 H1.out.1) ?_
  rintro e2 w2 ⟨rfl, hb⟩
  have H2 := Lib.hid (And.intro (H1.out.1.below hb) (And.intro (H1.out.2.1.trans (hb.mono H1.out.2.1.size)) True.intro))
  clear hb
  go_wp2_with fail
  have hnew := heap_alloc_new w2 (Obj.cells #[.string a, .string m] 9)
  have hb : Below w2.heap.size w2 (w2.alloc (Obj.cells #[.string a, .string m] 9)) := (Below.refl _ _).alloc (Nat.le_refl _) _
  revert hnew hb
  generalize w2.alloc (Obj.cells #[.string a, .string m] 9) = w3
  intro hnew hb
  have H3 := Lib.hid (And.intro (H2.out.1.below hb) (And.intro (H2.out.2.1.trans (hb.mono H2.out.2.1.size)) True.intro))
  have HN := Lib.hid hnew
  clear hnew hb
  go_at_call 13
  refine Calls.mono (Rn.Long_two w3 _ _ a m false HN.out HL.out.1 HL.out.2.1 (.inl ⟨rfl, HL.out.2.2.2.2.1, HL.out.2.2.2.2.2.1⟩)) ?_
  rintro e4 w3 ⟨rfl, rfl⟩
  go_wp2_with fail
  go_at_call 15
  refine Calls.mono (Rn.Of_any w3 m HL.out.2.2.2.1) ?_
  rintro e5 w5 ⟨av5, k5, c5, rfl, hN, hb⟩
  have H4 := Lib.hid (And.intro (H3.out.1.below hb) (And.intro (H3.out.2.1.trans (hb.mono H3.out.2.1.size)) (And.intro hN True.intro)))
  clear hN hb
  have hk0 : 0 < k5 := Nat.pos_of_ne_zero fun h => by have h1 := H4.out.2.2.1.zero.1 h; have h2 := HL.out.2.2.2.2.2.2; omega
  have hkz : ((k5 : Int) == 0) = false := by rw [beq_eq_false_iff_ne]; omega
  have hkb := Rn.few H4.out.2.2.1 HL.out.2.2.2.2.2.1
  go_wp2_with fail
  have hone := Rn.one_lim w5
  have hb : Below w5.heap.size w5 (w5.alloc (Obj.cells #[Value.int IntKind.u64 1] 47)) := (Below.refl _ _).alloc (Nat.le_refl _) _
  revert hone hb
  generalize w5.alloc (Obj.cells #[Value.int IntKind.u64 1] 47) = w6
  intro hone hb
  have H5 := Lib.hid (And.intro (H4.out.1.below hb) (And.intro (H4.out.2.1.trans (hb.mono H4.out.2.1.size)) (And.intro (H4.out.2.2.1.below hb) (And.intro hone True.intro))))
  clear hone hb hkz
  go_at_call 15
  refine Calls.mono (Rn.Of_any w6 a HL.out.2.2.1) ?_
  rintro e7 w7 ⟨av7, k7, c7, rfl, hN, hb⟩
  have H6 := Lib.hid (And.intro (H5.out.1.below hb) (And.intro (H5.out.2.1.trans (hb.mono H5.out.2.1.size)) (And.intro (H5.out.2.2.1.below hb) (And.intro (H5.out.2.2.2.1.below hb) (And.intro hN True.intro)))))
  clear hN hb
  have hxb := Rn.few H6.out.2.2.2.2.1 HL.out.2.2.2.2.1
  go_wp2_with fail
  go_at_call 26
  refine Calls.mono (Rn.Gcd_any w7 av7 av5 k7 c7 _ k5 c5 _ H6.out.2.2.2.2.1 H6.out.2.2.1 (by omega) (by omega)) ?_
  rintro e8 w8 ⟨av8, k8, c8, rfl, hN, hb⟩
  have H7 := Lib.hid (And.intro (H6.out.1.below hb) (And.intro (H6.out.2.1.trans (hb.mono H6.out.2.1.size)) (And.intro (H6.out.2.2.1.below hb) (And.intro (H6.out.2.2.2.1.below hb) (And.intro (H6.out.2.2.2.2.1.below hb) (And.intro hN True.intro))))))
  clear hN hb
  have hgb := H7.out.2.2.2.2.2.1.len (k7 + k5) (Rn.gcd_lt H7.out.2.2.2.2.1.lt H7.out.2.2.1.lt)
  have HC := Lib.hid (Rn.Cmp_any w8 av8 (some ⟨w5.heap.size, 0, none⟩) k8 c8 _ 1 1 1 H7.out.2.2.2.2.2.1 H7.out.2.2.2.1 (by omega) (by omega))
  rw [HG.out] at HC
  go_wp2_with fail
  go_at_call 21
  refine Calls.mono (HC.out) ?_
  rintro e9 w9 ⟨rfl, j9, hw⟩
  have hb : Below w8.heap.size w8 w9 := by rw [hw]; exact Rn.beyond (Below.refl _ _) j9
  have H8 := Lib.hid (And.intro (H7.out.1.below hb) (And.intro (H7.out.2.1.trans (hb.mono H7.out.2.1.size)) (And.intro (H7.out.2.2.1.below hb) (And.intro (H7.out.2.2.2.1.below hb) (And.intro (H7.out.2.2.2.2.1.below hb) (And.intro (H7.out.2.2.2.2.2.1.below hb) True.intro))))))
  clear hb hw
  go_wp2_with fail
  go_at_call 15
  refine Calls.mono (Rn.Of_any w9 X HX.out.1) ?_
  rintro e10 w10 ⟨av10, k10, c10, rfl, hN, hb⟩
  have H9 := Lib.hid (And.intro (H8.out.1.below hb) (And.intro (H8.out.2.1.trans (hb.mono H8.out.2.1.size)) (And.intro (H8.out.2.2.1.below hb) (And.intro (H8.out.2.2.2.1.below hb) (And.intro (H8.out.2.2.2.2.1.below hb) (And.intro (H8.out.2.2.2.2.2.1.below hb) (And.intro hN True.intro)))))))
  clear hN hb
  have hyb := Rn.few H9.out.2.2.2.2.2.2.1 HX.out.2.1
  go_wp2_with fail
  go_at_call 17
  refine Calls.mono (Rn.Form_any w10 av10 k10 c10 _ H9.out.2.2.2.2.2.2.1 (by omega)) ?_
  rintro e11 w11 ⟨rfl, hb⟩
  have H10 := Lib.hid (And.intro (H9.out.1.below hb) (And.intro (H9.out.2.1.trans (hb.mono H9.out.2.1.size)) (And.intro (H9.out.2.2.1.below hb) (And.intro (H9.out.2.2.2.1.below hb) (And.intro (H9.out.2.2.2.2.1.below hb) (And.intro (H9.out.2.2.2.2.2.1.below hb) (And.intro (H9.out.2.2.2.2.2.2.1.below hb) True.intro)))))))
  clear hb
  rw [← HX.out.2.2.1]
  have HD := Lib.hid (Rn.Cmp_any w11 av10 av5 k10 c10 _ k5 c5 _ H10.out.2.2.2.2.2.2.1 H10.out.2.2.1 (by omega) (by omega))
  rw [HX.out.2.2.2.1] at HD
  go_wp2_with fail
  go_at_call 21
  refine Calls.mono (HD.out) ?_
  rintro e12 w12 ⟨rfl, j12, hw⟩
  have hb : Below w11.heap.size w11 w12 := by rw [hw]; exact Rn.beyond (Below.refl _ _) j12
  have H11 := Lib.hid (And.intro (H10.out.1.below hb) (And.intro (H10.out.2.1.trans (hb.mono H10.out.2.1.size)) (And.intro (H10.out.2.2.1.below hb) (And.intro (H10.out.2.2.2.1.below hb) (And.intro (H10.out.2.2.2.2.1.below hb) (And.intro (H10.out.2.2.2.2.2.1.below hb) (And.intro (H10.out.2.2.2.2.2.2.1.below hb) True.intro)))))))
  clear hb hw
  go_wp2_with fail
  go_at_call 15
  refine Calls.mono (Rn.Of_any w12 a HL.out.2.2.1) ?_
  rintro e13 w13 ⟨av13, k13, c13, rfl, hN, hb⟩
  have H12 := Lib.hid (And.intro (H11.out.1.below hb) (And.intro (H11.out.2.1.trans (hb.mono H11.out.2.1.size)) (And.intro (H11.out.2.2.1.below hb) (And.intro (H11.out.2.2.2.1.below hb) (And.intro (H11.out.2.2.2.2.1.below hb) (And.intro (H11.out.2.2.2.2.2.1.below hb) (And.intro (H11.out.2.2.2.2.2.2.1.below hb) (And.intro hN True.intro))))))))
  clear hN hb
  have hzb := Rn.few H12.out.2.2.2.2.2.2.2.1 HL.out.2.2.2.2.1
  go_wp2_with fail
  go_at_call 28
  refine Calls.mono (Rn.Times_any w13 av10 av13 k10 c10 _ k13 c13 _ H12.out.2.2.2.2.2.2.1 H12.out.2.2.2.2.2.2.2.1 (by omega) (by omega)) ?_
  rintro e14 w14 ⟨av14, k14, c14, rfl, hN, hb⟩
  have H13 := Lib.hid (And.intro (H12.out.1.below hb) (And.intro (H12.out.2.1.trans (hb.mono H12.out.2.1.size)) (And.intro (H12.out.2.2.1.below hb) (And.intro (H12.out.2.2.2.1.below hb) (And.intro (H12.out.2.2.2.2.1.below hb) (And.intro (H12.out.2.2.2.2.2.1.below hb) (And.intro (H12.out.2.2.2.2.2.2.1.below hb) (And.intro (H12.out.2.2.2.2.2.2.2.1.below hb) (And.intro hN True.intro)))))))))
  clear hN hb
  have htb := H13.out.2.2.2.2.2.2.2.2.1.mul H13.out.2.2.2.2.2.2.1.lt H13.out.2.2.2.2.2.2.2.1.lt
  go_wp2_with fail
  go_at_call 27
  refine Calls.mono (Rn.Left_any w14 av14 av5 k14 c14 _ k5 c5 _ H13.out.2.2.2.2.2.2.2.2.1 H13.out.2.2.1 (by omega) (by omega) HL.out.2.2.2.2.2.2) ?_
  rintro e15 w15 ⟨av15, k15, c15, rfl, hN, hb⟩
  have H14 := Lib.hid (And.intro (H13.out.1.below hb) (And.intro (H13.out.2.1.trans (hb.mono H13.out.2.1.size)) (And.intro (H13.out.2.2.1.below hb) (And.intro (H13.out.2.2.2.1.below hb) (And.intro (H13.out.2.2.2.2.1.below hb) (And.intro (H13.out.2.2.2.2.2.1.below hb) (And.intro (H13.out.2.2.2.2.2.2.1.below hb) (And.intro (H13.out.2.2.2.2.2.2.2.1.below hb) (And.intro (H13.out.2.2.2.2.2.2.2.2.1.below hb) (And.intro hN True.intro))))))))))
  clear hN hb
  have hpb := H14.out.2.2.2.2.2.2.2.2.2.1.mod H14.out.2.2.1 HL.out.2.2.2.2.2.2
  go_wp2_with fail
  go_at_call 27
  refine Calls.mono (Rn.Left_any w15 (some ⟨w5.heap.size, 0, none⟩) av5 1 1 _ k5 c5 _ H14.out.2.2.2.1 H14.out.2.2.1 (by omega) (by omega) HL.out.2.2.2.2.2.2) ?_
  rintro e16 w16 ⟨av16, k16, c16, rfl, hN, hb⟩
  have H15 := Lib.hid (And.intro (H14.out.1.below hb) (And.intro (H14.out.2.1.trans (hb.mono H14.out.2.1.size)) (And.intro (H14.out.2.2.1.below hb) (And.intro (H14.out.2.2.2.1.below hb) (And.intro (H14.out.2.2.2.2.1.below hb) (And.intro (H14.out.2.2.2.2.2.1.below hb) (And.intro (H14.out.2.2.2.2.2.2.1.below hb) (And.intro (H14.out.2.2.2.2.2.2.2.1.below hb) (And.intro (H14.out.2.2.2.2.2.2.2.2.1.below hb) (And.intro (H14.out.2.2.2.2.2.2.2.2.2.1.below hb) (And.intro hN True.intro)))))))))))
  clear hN hb
  have hqb := H15.out.2.2.2.2.2.2.2.2.2.2.1.mod H15.out.2.2.1 HL.out.2.2.2.2.2.2
  have HE := Lib.hid (Rn.Cmp_any w16 av15 av16 k15 c15 _ k16 c16 _ H15.out.2.2.2.2.2.2.2.2.2.1 H15.out.2.2.2.2.2.2.2.2.2.2.1 (by omega) (by omega))
  rw [HX.out.2.2.2.2] at HE
  go_wp2_with fail
  go_at_call 21
  refine Calls.mono (HE.out) ?_
  rintro e17 w17 ⟨rfl, j17, hw⟩
  have hb : Below w16.heap.size w16 w17 := by rw [hw]; exact Rn.beyond (Below.refl _ _) j17
  have H16 := Lib.hid (And.intro (H15.out.1.below hb) (And.intro (H15.out.2.1.trans (hb.mono H15.out.2.1.size)) (And.intro (H15.out.2.2.1.below hb) (And.intro (H15.out.2.2.2.1.below hb) (And.intro (H15.out.2.2.2.2.1.below hb) (And.intro (H15.out.2.2.2.2.2.1.below hb) (And.intro (H15.out.2.2.2.2.2.2.1.below hb) (And.intro (H15.out.2.2.2.2.2.2.2.1.below hb) (And.intro (H15.out.2.2.2.2.2.2.2.2.1.below hb) (And.intro (H15.out.2.2.2.2.2.2.2.2.2.1.below hb) (And.intro (H15.out.2.2.2.2.2.2.2.2.2.2.1.below hb) True.intro)))))))))))
  clear hb hw
  go_wp2_with fail
  go_ret
  exact ⟨rfl, H16.out.2.1⟩
theorem walk (a m : ByteArray) (w : World) (ok : Nt.Ok w) (za : a.size ≤ 140737488355328) (zm : m.size ≤ 140737488355328) :
    Calls Tryz.prog 6 #[.string a, .string m] w fun e w' => e = .returned (.bool true) ∧ Below w.heap.size w w' := by
  by_cases h : 512 < a.size ∨ 512 < m.size
  · exact far a m w ok za zm h
  rcases Nat.eq_zero_or_pos (Nt.nv m) with h0 | h0
  · exact zero a m w ok (by omega) (by omega) h0
  by_cases hg : Nat.gcd (Nt.nv a) (Nt.nv m) = 1
  · exact core a m w ok (by omega) (by omega) h0 hg
  · exact noinv a m w ok (by omega) (by omega) h0 hg
end lwInverses
end Go.Proofs.YtccbnpondlncpaaGreatDoor
