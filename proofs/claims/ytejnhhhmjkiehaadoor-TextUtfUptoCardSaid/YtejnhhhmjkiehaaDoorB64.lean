/- Base64url: writeGroup, Base64. -/
import Derived.Test.YtejnhhhmjkiehaaDoorKit
import Derived.Test.YtejnhhhmjkiehaaDoorB64M
import Derived.Laws.BitsAllLaws
namespace Go.Proofs.YtejnhhhmjkiehaaDoor
open Go.RowKit

theorem Tx.or_low (x y k : Nat) (h : x < 2 ^ k) : x ||| y * 2 ^ k = x + y * 2 ^ k := by
  have := Nat.two_pow_add_eq_or_of_lt h y
  rw [Nat.or_comm, Nat.mul_comm y, ← this, Nat.add_comm]
theorem Tx.or32 (x y m : Nat) (k : Nat) (hm : m = 2 ^ k) (h : x < m) (h2 : x + y * m < 4294967296) : bits .or .u32 (x : Int) ((y : Int) * (m : Int)) = (x : Int) + (y : Int) * (m : Int) := by
  subst hm
  have := u32_or_nat x (y * 2 ^ k) (by omega) (by omega)
  rw [Tx.or_low x y k h] at this
  simpa using this
theorem Tx.and63 (n : Nat) (h : n < 4294967296) : bits .and .u32 (n : Int) 63 = ((n % 64 : Nat) : Int) := by
  have := u32_and_nat n 63 h (by omega)
  rw [show (63 : Nat) = 2 ^ 6 - 1 by rfl, Nat.and_two_pow_sub_one_eq_mod] at this
  exact this
theorem Tx.b6_get (i : Nat) (h : i < ({ data := #[65, 66, 67, 68, 69, 70, 71, 72, 73, 74, 75, 76, 77, 78, 79, 80, 81, 82, 83, 84, 85, 86, 87, 88, 89, 90, 97, 98, 99, 100, 101, 102, 103, 104, 105, 106, 107, 108, 109, 110, 111, 112, 113, 114, 115, 116, 117, 118, 119, 120, 121, 122, 48, 49, 50, 51, 52, 53, 54, 55, 56, 57, 45, 95] } : ByteArray).size) : ({ data := #[65, 66, 67, 68, 69, 70, 71, 72, 73, 74, 75, 76, 77, 78, 79, 80, 81, 82, 83, 84, 85, 86, 87, 88, 89, 90, 97, 98, 99, 100, 101, 102, 103, 104, 105, 106, 107, 108, 109, 110, 111, 112, 113, 114, 115, 116, 117, 118, 119, 120, 121, 122, 48, 49, 50, 51, 52, 53, 54, 55, 56, 57, 45, 95] } : ByteArray)[i]'h = Tx.b6 i := by
  have h' : i < Tx.letters.length := h
  show Tx.letters[i] = Tx.letters.getD i 0
  rw [List.getD_eq_getElem?_getD, List.getElem?_eq_getElem h']; rfl

set_option maxHeartbeats 4000000 in
set_option maxRecDepth 100000 in
theorem Tx.writeGroup1 (a : UInt8) (B : Nat) (v : Value) (l : List UInt8) (w : World) (hB : B ≤ w.heap.size) (hown : Tx.Own w B v l) (hl : l.length + 4 ≤ 140737488355328) :
    Calls Tryd.prog 42 #[v, .string ⟨#[a]⟩] w fun e w' => ∃ v', e = .returned v' ∧ Tx.Own w' B v' (l ++ Tx.g1 a) ∧ Below B w w' := by
  have ha := a.toNat_lt
  obtain ⟨N, hN⟩ : ∃ N : Int, N = (a.toNat : Int) * 65536 := ⟨_, rfl⟩
  have o1 : bits .or .u32 0 ((a.toNat : Int) * 65536) = N := by
    have := Tx.or32 0 a.toNat 65536 16 rfl (by omega) (by omega); rw [hN]; simpa using this
  have n0 : 0 ≤ N := by omega
  have n1 : N < 16777216 := by omega
  have d0 : bits .and .u32 (N / 262144) 63 = ((a.toNat / 4 : Nat) : Int) := by
    have := Tx.and63 ((a.toNat * 65536) / 262144) (by omega)
    rw [show N / 262144 = (((a.toNat * 65536) / 262144 : Nat) : Int) by omega, this]; omega
  have y0 : a.toNat / 4 < 64 := by omega
  have d1 : bits .and .u32 (N / 4096) 63 = ((a.toNat % 4 * 16 : Nat) : Int) := by
    have := Tx.and63 ((a.toNat * 65536) / 4096) (by omega)
    rw [show N / 4096 = (((a.toNat * 65536) / 4096 : Nat) : Int) by omega, this]; omega
  have y1 : a.toNat % 4 * 16 < 64 := by omega
  obtain ⟨x0, e0⟩ : ∃ x, x = a.toNat / 4 := ⟨_, rfl⟩
  obtain ⟨x1, e1⟩ : ∃ x, x = a.toNat % 4 * 16 := ⟨_, rfl⟩
  have hg : Tx.g1 a = [Tx.b6 x0, Tx.b6 x1] := by rw [e0, e1]; rfl
  rw [hg]
  rw [← e0] at d0 y0
  rw [← e1] at d1 y1
  clear hg e0 e1
  have HN := Lib.hid hN
  clear hN
  have i0 : ({ data := #[a] } : ByteArray)[0]'(by simp [ByteArray.size]) = a := rfl
  have hL : l.length + 2 ≤ 140737488355328 := by omega
  clear hl
  go_enter Tryd.func42, Tryd.ntmps42
  go_wp2
  refine wp_loop_rounds 3 ?_
  repeat any_goals (rw [rounds_succ]; go_wp2_with (at_builtin; refine Tx.append rfl _ _ rfl B _ _ rfl (Tx.Own.alloc (by assumption) _) ⟨_, 0, none⟩ 1 [_] rfl (World.news_of_block (heap_alloc_new _ _)) (by simp; omega) (by simp; omega) ?_; intro v1 w1 hown1 hb1 hz1))
  go_ret
  refine ⟨_, rfl, ?_, (((((Below.refl B w).alloc hB _).trans (by assumption)).alloc (by assumption) _).trans (by assumption))⟩
  rw [Tx.b6_get, Tx.b6_get] at hown1
  simpa using hown1

set_option maxHeartbeats 4000000 in
set_option maxRecDepth 100000 in
theorem Tx.writeGroup2 (a b : UInt8) (B : Nat) (v : Value) (l : List UInt8) (w : World) (hB : B ≤ w.heap.size) (hown : Tx.Own w B v l) (hl : l.length + 4 ≤ 140737488355328) :
    Calls Tryd.prog 42 #[v, .string ⟨#[a, b]⟩] w fun e w' => ∃ v', e = .returned v' ∧ Tx.Own w' B v' (l ++ Tx.g2 a b) ∧ Below B w w' := by
  have ha := a.toNat_lt
  have hb := b.toNat_lt
  obtain ⟨N, hN⟩ : ∃ N : Int, N = (b.toNat : Int) * 256 + (a.toNat : Int) * 65536 := ⟨_, rfl⟩
  have o1 : bits .or .u32 0 ((b.toNat : Int) * 256) = (b.toNat : Int) * 256 := by
    have := Tx.or32 0 b.toNat 256 8 rfl (by omega) (by omega); simpa using this
  obtain ⟨M, hM⟩ : ∃ M : Int, M = (b.toNat : Int) * 256 := ⟨_, rfl⟩
  replace o1 : bits .or .u32 0 ((b.toNat : Int) * 256) = M := o1.trans hM.symm
  have o2 : bits .or .u32 M ((a.toNat : Int) * 65536) = N := by
    have := Tx.or32 (b.toNat * 256) a.toNat 65536 16 rfl (by omega) (by omega); rw [hN, hM]; simpa using this
  have HM := Lib.hid hM
  clear hM
  have n0 : 0 ≤ N := by omega
  have n1 : N < 16777216 := by omega
  have d0 : bits .and .u32 (N / 262144) 63 = ((a.toNat / 4 : Nat) : Int) := by
    have := Tx.and63 ((b.toNat * 256 + a.toNat * 65536) / 262144) (by omega)
    rw [show N / 262144 = (((b.toNat * 256 + a.toNat * 65536) / 262144 : Nat) : Int) by omega, this]; omega
  have y0 : a.toNat / 4 < 64 := by omega
  have d1 : bits .and .u32 (N / 4096) 63 = ((a.toNat % 4 * 16 + b.toNat / 16 : Nat) : Int) := by
    have := Tx.and63 ((b.toNat * 256 + a.toNat * 65536) / 4096) (by omega)
    rw [show N / 4096 = (((b.toNat * 256 + a.toNat * 65536) / 4096 : Nat) : Int) by omega, this]; omega
  have y1 : a.toNat % 4 * 16 + b.toNat / 16 < 64 := by omega
  have d2 : bits .and .u32 (N / 64) 63 = ((b.toNat % 16 * 4 : Nat) : Int) := by
    have := Tx.and63 ((b.toNat * 256 + a.toNat * 65536) / 64) (by omega)
    rw [show N / 64 = (((b.toNat * 256 + a.toNat * 65536) / 64 : Nat) : Int) by omega, this]; omega
  have y2 : b.toNat % 16 * 4 < 64 := by omega
  obtain ⟨x0, e0⟩ : ∃ x, x = a.toNat / 4 := ⟨_, rfl⟩
  obtain ⟨x1, e1⟩ : ∃ x, x = a.toNat % 4 * 16 + b.toNat / 16 := ⟨_, rfl⟩
  obtain ⟨x2, e2⟩ : ∃ x, x = b.toNat % 16 * 4 := ⟨_, rfl⟩
  have hg : Tx.g2 a b = [Tx.b6 x0, Tx.b6 x1, Tx.b6 x2] := by rw [e0, e1, e2]; rfl
  rw [hg]
  rw [← e0] at d0 y0
  rw [← e1] at d1 y1
  rw [← e2] at d2 y2
  clear hg e0 e1 e2
  have HN := Lib.hid hN
  clear hN
  have i0 : ({ data := #[a, b] } : ByteArray)[0]'(by simp [ByteArray.size]) = a := rfl
  have i1 : ({ data := #[a, b] } : ByteArray)[1]'(by simp [ByteArray.size]) = b := rfl
  have hL : l.length + 3 ≤ 140737488355328 := by omega
  clear hl
  go_enter Tryd.func42, Tryd.ntmps42
  go_wp2
  refine wp_loop_rounds 4 ?_
  repeat any_goals (rw [rounds_succ]; go_wp2_with (at_builtin; refine Tx.append rfl _ _ rfl B _ _ rfl (Tx.Own.alloc (by assumption) _) ⟨_, 0, none⟩ 1 [_] rfl (World.news_of_block (heap_alloc_new _ _)) (by simp; omega) (by simp; omega) ?_; intro v1 w1 hown1 hb1 hz1))
  go_ret
  refine ⟨_, rfl, ?_, (((((((Below.refl B w).alloc hB _).trans (by assumption)).alloc (by assumption) _).trans (by assumption)).alloc (by assumption) _).trans (by assumption))⟩
  rw [Tx.b6_get, Tx.b6_get, Tx.b6_get] at hown1
  simpa using hown1

set_option maxHeartbeats 4000000 in
set_option maxRecDepth 100000 in
theorem Tx.writeGroup3 (a b c : UInt8) (B : Nat) (v : Value) (l : List UInt8) (w : World) (hB : B ≤ w.heap.size) (hown : Tx.Own w B v l) (hl : l.length + 4 ≤ 140737488355328) :
    Calls Tryd.prog 42 #[v, .string ⟨#[a, b, c]⟩] w fun e w' => ∃ v', e = .returned v' ∧ Tx.Own w' B v' (l ++ Tx.g3 a b c) ∧ Below B w w' := by
  have ha := a.toNat_lt
  have hb := b.toNat_lt
  have hc := c.toNat_lt
  obtain ⟨N, hN⟩ : ∃ N : Int, N = (c.toNat : Int) + (b.toNat : Int) * 256 + (a.toNat : Int) * 65536 := ⟨_, rfl⟩
  have o0 : bits .or .u32 0 (c.toNat : Int) = (c.toNat : Int) := by
    have := u32_or_nat 0 c.toNat (by omega) (by omega); simpa using this
  obtain ⟨M, hM⟩ : ∃ M : Nat, M = c.toNat + b.toNat * 256 := ⟨_, rfl⟩
  have o1 : bits .or .u32 (c.toNat : Int) ((b.toNat : Int) * 256) = (M : Int) := by
    have := Tx.or32 c.toNat b.toNat 256 8 rfl (by omega) (by omega); rw [hM]; simpa using this
  have o2 : bits .or .u32 (M : Int) ((a.toNat : Int) * 65536) = N := by
    have := Tx.or32 M a.toNat 65536 16 rfl (by omega) (by omega); rw [hN]; simp only [hM] at this ⊢; simpa using this
  have HM := Lib.hid hM
  clear hM
  have n0 : 0 ≤ N := by omega
  have n1 : N < 16777216 := by omega
  have d0 : bits .and .u32 (N / 262144) 63 = ((a.toNat / 4 : Nat) : Int) := by
    have := Tx.and63 ((c.toNat + b.toNat * 256 + a.toNat * 65536) / 262144) (by omega)
    rw [show N / 262144 = (((c.toNat + b.toNat * 256 + a.toNat * 65536) / 262144 : Nat) : Int) by omega, this]; omega
  have y0 : a.toNat / 4 < 64 := by omega
  have d1 : bits .and .u32 (N / 4096) 63 = ((a.toNat % 4 * 16 + b.toNat / 16 : Nat) : Int) := by
    have := Tx.and63 ((c.toNat + b.toNat * 256 + a.toNat * 65536) / 4096) (by omega)
    rw [show N / 4096 = (((c.toNat + b.toNat * 256 + a.toNat * 65536) / 4096 : Nat) : Int) by omega, this]; omega
  have y1 : a.toNat % 4 * 16 + b.toNat / 16 < 64 := by omega
  have d2 : bits .and .u32 (N / 64) 63 = ((b.toNat % 16 * 4 + c.toNat / 64 : Nat) : Int) := by
    have := Tx.and63 ((c.toNat + b.toNat * 256 + a.toNat * 65536) / 64) (by omega)
    rw [show N / 64 = (((c.toNat + b.toNat * 256 + a.toNat * 65536) / 64 : Nat) : Int) by omega, this]; omega
  have y2 : b.toNat % 16 * 4 + c.toNat / 64 < 64 := by omega
  have d3 : bits .and .u32 (N) 63 = ((c.toNat % 64 : Nat) : Int) := by
    have := Tx.and63 (c.toNat + b.toNat * 256 + a.toNat * 65536) (by omega)
    rw [show N = ((c.toNat + b.toNat * 256 + a.toNat * 65536 : Nat) : Int) by omega, this]; omega
  have y3 : c.toNat % 64 < 64 := by omega
  obtain ⟨x0, e0⟩ : ∃ x, x = a.toNat / 4 := ⟨_, rfl⟩
  obtain ⟨x1, e1⟩ : ∃ x, x = a.toNat % 4 * 16 + b.toNat / 16 := ⟨_, rfl⟩
  obtain ⟨x2, e2⟩ : ∃ x, x = b.toNat % 16 * 4 + c.toNat / 64 := ⟨_, rfl⟩
  obtain ⟨x3, e3⟩ : ∃ x, x = c.toNat % 64 := ⟨_, rfl⟩
  have hg : Tx.g3 a b c = [Tx.b6 x0, Tx.b6 x1, Tx.b6 x2, Tx.b6 x3] := by rw [e0, e1, e2, e3]; rfl
  rw [hg]
  rw [← e0] at d0 y0
  rw [← e1] at d1 y1
  rw [← e2] at d2 y2
  rw [← e3] at d3 y3
  clear hg e0 e1 e2 e3
  have HN := Lib.hid hN
  clear hN
  have i0 : ({ data := #[a, b, c] } : ByteArray)[0]'(by simp [ByteArray.size]) = a := rfl
  have i1 : ({ data := #[a, b, c] } : ByteArray)[1]'(by simp [ByteArray.size]) = b := rfl
  have i2 : ({ data := #[a, b, c] } : ByteArray)[2]'(by simp [ByteArray.size]) = c := rfl
  have hL : l.length + 4 ≤ 140737488355328 := by omega
  clear hl
  go_enter Tryd.func42, Tryd.ntmps42
  go_wp2
  refine wp_loop_rounds 5 ?_
  repeat any_goals (rw [rounds_succ]; go_wp2_with (at_builtin; refine Tx.append rfl _ _ rfl B _ _ rfl (Tx.Own.alloc (by assumption) _) ⟨_, 0, none⟩ 1 [_] rfl (World.news_of_block (heap_alloc_new _ _)) (by simp; omega) (by simp; omega) ?_; intro v1 w1 hown1 hb1 hz1))
  go_ret
  refine ⟨_, rfl, ?_, (((((((((Below.refl B w).alloc hB _).trans (by assumption)).alloc (by assumption) _).trans (by assumption)).alloc (by assumption) _).trans (by assumption)).alloc (by assumption) _).trans (by assumption))⟩
  rw [Tx.b6_get, Tx.b6_get, Tx.b6_get, Tx.b6_get] at hown1
  simpa using hown1

end Go.Proofs.YtejnhhhmjkiehaaDoor
