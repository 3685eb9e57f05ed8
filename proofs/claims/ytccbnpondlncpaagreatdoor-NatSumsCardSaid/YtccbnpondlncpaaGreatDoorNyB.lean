/- ofTwo at each of its functions; Add, Sub, Mul. -/
import Derived.Test.YtccbnpondlncpaaGreatDoorNyA
namespace Go.Proofs.YtccbnpondlncpaaGreatDoor
open Go.RowKit

theorem Nt.sum_lt {x y n m : Nat} (hx : x < 4294967296 ^ n) (hy : y < 4294967296 ^ m) : x + y < 4294967296 ^ (n + m + 1) := by
  have h1 : 4294967296 ^ n ≤ 4294967296 ^ (n + m) := Nat.pow_le_pow_right (by decide) (by omega)
  have h2 : 4294967296 ^ m ≤ 4294967296 ^ (n + m) := Nat.pow_le_pow_right (by decide) (by omega)
  rw [Nat.pow_succ]
  omega
theorem Nt.product_lt {x y n m : Nat} (hx : x < 4294967296 ^ n) (hy : y < 4294967296 ^ m) : x * y < 4294967296 ^ (n + m + 1) := by
  have h : x * y < 4294967296 ^ n * 4294967296 ^ m := Nat.mul_lt_mul_of_lt_of_le hx (Nat.le_of_lt hy) (Nat.pow_pos (by decide))
  rw [← Nat.pow_add] at h
  exact Nat.lt_of_lt_of_le h (Nat.pow_le_pow_right (by decide) (by omega))
theorem Nt.always_sum (w : World) (p : Nat) (ax ay : Option Addr) (n cx x m cy y : Nat) (hc : w.cell? ⟨p, 0, none⟩ = some (.func (Fn.func 35) #[] #[])) (hx : Nt.Num w ax n cx x) (hy : Nt.Num w ay m cy y) (hn : n ≤ 400000) (hm : m ≤ 400000) :
    Calls Tryz.prog 54 #[.slice ax n cx, .slice ay m cy, .pointer (some ⟨p, 0, none⟩)] w fun e w' => ∃ av k c, e = .returned (.tuple #[.slice av k c, .nilIface]) ∧ Nt.Num w' av k c (x + y) ∧ Below w.heap.size w w' := by
  have HS := Lib.hid (Nt.sum_any w ax ay n cx x m cy y hx hy (by omega) (by omega))
  clear hx hy
  go_enter Tryz.func54, Tryz.ntmps54
  go_wp2_with fail
  go_at_call 35
  refine Calls.mono HS.out ?_
  rintro e1 w1 ⟨av, k, c, rfl, h1, hb⟩
  have HN := Lib.hid (And.intro h1 hb)
  clear h1 hb
  go_wp2_with fail
  go_ret2
  exact ⟨_, _, _, rfl, HN.out.1, HN.out.2⟩
theorem Nt.always_product (w : World) (p : Nat) (ax ay : Option Addr) (n cx x m cy y : Nat) (hc : w.cell? ⟨p, 0, none⟩ = some (.func (Fn.func 37) #[] #[])) (hx : Nt.Num w ax n cx x) (hy : Nt.Num w ay m cy y) (hn : n ≤ 400000) (hm : m ≤ 400000) :
    Calls Tryz.prog 54 #[.slice ax n cx, .slice ay m cy, .pointer (some ⟨p, 0, none⟩)] w fun e w' => ∃ av k c, e = .returned (.tuple #[.slice av k c, .nilIface]) ∧ Nt.Num w' av k c (x * y) ∧ Below w.heap.size w w' := by
  have HS := Lib.hid (Nt.product_any w ax ay n cx x m cy y hx hy (by omega) (by omega))
  clear hx hy
  go_enter Tryz.func54, Tryz.ntmps54
  go_wp2_with fail
  go_at_call 37
  refine Calls.mono HS.out ?_
  rintro e1 w1 ⟨av, k, c, rfl, h1, hb⟩
  have HN := Lib.hid (And.intro h1 hb)
  clear h1 hb
  go_wp2_with fail
  go_ret2
  exact ⟨_, _, _, rfl, HN.out.1, HN.out.2⟩
set_option maxHeartbeats 1000000 in
set_option maxRecDepth 100000 in
theorem Nt.ofTwo_sub (w : World) (ok : Nt.Ok w) (s t : ByteArray) (hs : s.size ≤ 512) (ht : t.size ≤ 512) :
    Calls Tryz.prog 33 #[Value.func (Fn.func 36) #[] #[], .string s, .string t] w fun e w' => e = .returned (.tuple #[.string ⟨(Nt.fm (Nt.nv s - Nt.nv t)).toArray⟩, .int .i64 ((if Nt.nv s < Nt.nv t then 32 else 0 : Nat) : Int)]) ∧ Below w.heap.size w w' := by
  have HS := Lib.hid (And.intro ok (And.intro hs ht))
  obtain ⟨R, hR⟩ : ∃ R, Nt.nv s - Nt.nv t = R := ⟨_, rfl⟩
  obtain ⟨K, hK⟩ : ∃ K : Nat, (if Nt.nv s < Nt.nv t then 32 else 0) = K := ⟨_, rfl⟩
  rw [hR, hK]
  have HR := Lib.hid (And.intro hR hK)
  clear ok hs ht hR hK
  go_enter Tryz.func33, Tryz.ntmps33
  go_wp2_with fail
  go_at_call 53
  refine Calls.mono (Nt.readTwo_ok w s t HS.out.2.1 HS.out.2.2) ?_
  rintro e1 w1 ⟨ax, n, cx, ay, m, cy, rfl, h1, h2, hn, hm, hb⟩
  have H1 := Lib.hid (And.intro h1 (And.intro h2 (And.intro hn (And.intro hm hb))))
  clear h1 h2 hn hm hb
  go_wp2_with fail
  refine Calls.mono (Nt.difference_any w1 (HS.out.1.below H1.out.2.2.2.2) ax ay n cx (Nt.nv s) m cy (Nt.nv t) H1.out.1 H1.out.2.1 (by have := H1.out.2.2.1; omega) (by have := H1.out.2.2.2.1; omega)) ?_
  rintro e2 w2 ⟨av, k, c, v, rfl, hN, hE, hb2⟩
  have hk : k ≤ 1000000 := by
    have h1 := H1.out.2.2.1
    have h2 := H1.out.2.2.2.1
    have h3 := hN.len (n + m + 1) (Nat.lt_of_le_of_lt (Nat.sub_le _ _) (Nat.lt_of_lt_of_le H1.out.1.lt (Nat.pow_le_pow_right (by decide) (by omega))))
    omega
  rw [HR.out.1] at hN
  have H2 := Lib.hid (And.intro hN (And.intro hE (And.intro hb2 hk)))
  clear hN hE hb2 hk
  go_wp2_with fail
  go_at_call 39
  refine Calls.mono (Nt.form_any w2 av k c R H2.out.1 H2.out.2.2.2) ?_
  rintro e3 w3 ⟨rfl, hb3⟩
  have H3 := Lib.hid hb3
  clear hb3
  go_wp2_with fail
  go_at_call 40
  refine Calls.mono (Nt.told_any w3 (((HS.out.1.below H1.out.2.2.2.2).below H2.out.2.2.1).below H3.out) _ K (by have h := H2.out.2.1.below H3.out; first | exact h | (rw [HR.out.2] at h; exact h))) ?_
  rintro e4 w4 ⟨rfl, rfl⟩
  go_wp2_with fail
  go_ret2
  exact ⟨rfl, (H1.out.2.2.2.2.trans (H2.out.2.2.1.mono H1.out.2.2.2.2.size)).trans (H3.out.mono (Nat.le_trans H1.out.2.2.2.2.size H2.out.2.2.1.size))⟩
set_option maxHeartbeats 1000000 in
set_option maxRecDepth 100000 in
theorem Nt.ofTwo_sum (w : World) (ok : Nt.Ok w) (s t : ByteArray) (hs : s.size ≤ 512) (ht : t.size ≤ 512) (p : Nat) (hc : w.cell? ⟨p, 0, none⟩ = some (.func (Fn.func 35) #[] #[])) :
    Calls Tryz.prog 33 #[Value.func (Fn.func 54) #[] #[.pointer (some ⟨p, 0, none⟩)], .string s, .string t] w fun e w' => e = .returned (.tuple #[.string ⟨(Nt.fm (Nt.nv s + Nt.nv t)).toArray⟩, .int .i64 0]) ∧ Below w.heap.size w w' := by
  have HS := Lib.hid (And.intro ok (And.intro hs ht))
  obtain ⟨R, hR⟩ : ∃ R, Nt.nv s + Nt.nv t = R := ⟨_, rfl⟩
  rw [hR]
  have HR := Lib.hid (And.intro hR True.intro)
  have HC := Lib.hid (And.intro hc (World.block_lt_of_cell? w _ hc))
  clear hc
  clear ok hs ht hR
  go_enter Tryz.func33, Tryz.ntmps33
  go_wp2_with fail
  go_at_call 53
  refine Calls.mono (Nt.readTwo_ok w s t HS.out.2.1 HS.out.2.2) ?_
  rintro e1 w1 ⟨ax, n, cx, ay, m, cy, rfl, h1, h2, hn, hm, hb⟩
  have H1 := Lib.hid (And.intro h1 (And.intro h2 (And.intro hn (And.intro hm hb))))
  clear h1 h2 hn hm hb
  go_wp2_with fail
  refine Calls.mono (Nt.always_sum w1 p ax ay n cx (Nt.nv s) m cy (Nt.nv t) ((H1.out.2.2.2.2.cell (p := ⟨p, 0, none⟩) HC.out.2).trans HC.out.1) H1.out.1 H1.out.2.1 (by have := H1.out.2.2.1; omega) (by have := H1.out.2.2.2.1; omega)) ?_
  rintro e2 w2 ⟨av, k, c, rfl, hN, hb2⟩
  have hE : Nt.Err w2 .nilIface 0 := .inl ⟨rfl, rfl⟩
  have hk : k ≤ 1000000 := by
    have h1 := H1.out.2.2.1
    have h2 := H1.out.2.2.2.1
    have h3 := hN.len (n + m + 1) (Nt.sum_lt H1.out.1.lt H1.out.2.1.lt)
    omega
  rw [HR.out.1] at hN
  have H2 := Lib.hid (And.intro hN (And.intro hE (And.intro hb2 hk)))
  clear hN hE hb2 hk
  go_wp2_with fail
  go_at_call 39
  refine Calls.mono (Nt.form_any w2 av k c R H2.out.1 H2.out.2.2.2) ?_
  rintro e3 w3 ⟨rfl, hb3⟩
  have H3 := Lib.hid hb3
  clear hb3
  go_wp2_with fail
  go_at_call 40
  refine Calls.mono (Nt.told_any w3 (((HS.out.1.below H1.out.2.2.2.2).below H2.out.2.2.1).below H3.out) _ 0 (by have h := H2.out.2.1.below H3.out; first | exact h | (rw [HR.out.2] at h; exact h))) ?_
  rintro e4 w4 ⟨rfl, rfl⟩
  go_wp2_with fail
  go_ret2
  exact ⟨rfl, (H1.out.2.2.2.2.trans (H2.out.2.2.1.mono H1.out.2.2.2.2.size)).trans (H3.out.mono (Nat.le_trans H1.out.2.2.2.2.size H2.out.2.2.1.size))⟩
set_option maxHeartbeats 1000000 in
set_option maxRecDepth 100000 in
theorem Nt.ofTwo_product (w : World) (ok : Nt.Ok w) (s t : ByteArray) (hs : s.size ≤ 512) (ht : t.size ≤ 512) (p : Nat) (hc : w.cell? ⟨p, 0, none⟩ = some (.func (Fn.func 37) #[] #[])) :
    Calls Tryz.prog 33 #[Value.func (Fn.func 54) #[] #[.pointer (some ⟨p, 0, none⟩)], .string s, .string t] w fun e w' => e = .returned (.tuple #[.string ⟨(Nt.fm (Nt.nv s * Nt.nv t)).toArray⟩, .int .i64 0]) ∧ Below w.heap.size w w' := by
  have HS := Lib.hid (And.intro ok (And.intro hs ht))
  obtain ⟨R, hR⟩ : ∃ R, Nt.nv s * Nt.nv t = R := ⟨_, rfl⟩
  rw [hR]
  have HR := Lib.hid (And.intro hR True.intro)
  have HC := Lib.hid (And.intro hc (World.block_lt_of_cell? w _ hc))
  clear hc
  clear ok hs ht hR
  go_enter Tryz.func33, Tryz.ntmps33
  go_wp2_with fail
  go_at_call 53
  refine Calls.mono (Nt.readTwo_ok w s t HS.out.2.1 HS.out.2.2) ?_
  rintro e1 w1 ⟨ax, n, cx, ay, m, cy, rfl, h1, h2, hn, hm, hb⟩
  have H1 := Lib.hid (And.intro h1 (And.intro h2 (And.intro hn (And.intro hm hb))))
  clear h1 h2 hn hm hb
  go_wp2_with fail
  refine Calls.mono (Nt.always_product w1 p ax ay n cx (Nt.nv s) m cy (Nt.nv t) ((H1.out.2.2.2.2.cell (p := ⟨p, 0, none⟩) HC.out.2).trans HC.out.1) H1.out.1 H1.out.2.1 (by have := H1.out.2.2.1; omega) (by have := H1.out.2.2.2.1; omega)) ?_
  rintro e2 w2 ⟨av, k, c, rfl, hN, hb2⟩
  have hE : Nt.Err w2 .nilIface 0 := .inl ⟨rfl, rfl⟩
  have hk : k ≤ 1000000 := by
    have h1 := H1.out.2.2.1
    have h2 := H1.out.2.2.2.1
    have h3 := hN.len (n + m + 1) (Nt.product_lt H1.out.1.lt H1.out.2.1.lt)
    omega
  rw [HR.out.1] at hN
  have H2 := Lib.hid (And.intro hN (And.intro hE (And.intro hb2 hk)))
  clear hN hE hb2 hk
  go_wp2_with fail
  go_at_call 39
  refine Calls.mono (Nt.form_any w2 av k c R H2.out.1 H2.out.2.2.2) ?_
  rintro e3 w3 ⟨rfl, hb3⟩
  have H3 := Lib.hid hb3
  clear hb3
  go_wp2_with fail
  go_at_call 40
  refine Calls.mono (Nt.told_any w3 (((HS.out.1.below H1.out.2.2.2.2).below H2.out.2.2.1).below H3.out) _ 0 (by have h := H2.out.2.1.below H3.out; first | exact h | (rw [HR.out.2] at h; exact h))) ?_
  rintro e4 w4 ⟨rfl, rfl⟩
  go_wp2_with fail
  go_ret2
  exact ⟨rfl, (H1.out.2.2.2.2.trans (H2.out.2.2.1.mono H1.out.2.2.2.2.size)).trans (H3.out.mono (Nat.le_trans H1.out.2.2.2.2.size H2.out.2.2.1.size))⟩
set_option maxHeartbeats 1000000 in
set_option maxRecDepth 100000 in
theorem Nt.ofTwo_long (w : World) (ok : Nt.Ok w) (fv : Value) (s t : ByteArray) (hs : s.size ≤ 9223372036854775807) (ht : t.size ≤ 9223372036854775807) (hl : 512 < s.size ∨ 512 < t.size) :
    Calls Tryz.prog 33 #[fv, .string s, .string t] w fun e w' => e = .returned (.tuple #[.string ⟨#[]⟩, .int .i64 30]) ∧ Below w.heap.size w w' := by
  have HS := Lib.hid (And.intro ok (And.intro hs (And.intro ht hl)))
  clear ok hs ht hl
  go_enter Tryz.func33, Tryz.ntmps33
  go_wp2_with fail
  go_at_call 53
  refine Calls.mono (Nt.readTwo_long w HS.out.1 s t HS.out.2.1 HS.out.2.2.1 HS.out.2.2.2) ?_
  rintro e1 w1 ⟨v, rfl, ⟨T, p, rfl⟩, hE, hb⟩
  have H1 := Lib.hid (And.intro hE hb)
  clear hE hb
  go_wp2_with fail
  go_at_call 40
  refine Calls.mono (Nt.told_any w1 (HS.out.1.below H1.out.2) _ 30 H1.out.1) ?_
  rintro e4 w4 ⟨rfl, rfl⟩
  go_wp2_with fail
  go_ret2
  exact ⟨rfl, H1.out.2⟩
set_option maxRecDepth 100000 in
theorem Nt.Sub_ok (w : World) (ok : Nt.Ok w) (s t : ByteArray) (hs : s.size ≤ 512) (ht : t.size ≤ 512) :
    Calls Tryz.prog 10 #[.string s, .string t] w fun e w' => e = .returned (.tuple #[.string ⟨(Nt.fm (Nt.nv s - Nt.nv t)).toArray⟩, .int .i64 ((if Nt.nv s < Nt.nv t then 32 else 0 : Nat) : Int)]) ∧ Below w.heap.size w w' := by
  have HS := Lib.hid (And.intro ok (And.intro hs ht))
  obtain ⟨R, hR⟩ : ∃ R, Nt.nv s - Nt.nv t = R := ⟨_, rfl⟩
  obtain ⟨K, hK⟩ : ∃ K : Nat, (if Nt.nv s < Nt.nv t then 32 else 0) = K := ⟨_, rfl⟩
  rw [hR, hK]
  have HR := Lib.hid (And.intro hR hK)
  clear ok hs ht hR hK
  go_enter Tryz.func10, Tryz.ntmps10
  go_wp2_with fail
  go_at_call 33
  have C := Nt.ofTwo_sub w HS.out.1 s t HS.out.2.1 HS.out.2.2
  rw [HR.out.1, HR.out.2] at C
  have HC := Lib.hid C
  clear C
  refine Calls.mono HC.out ?_
  rintro e1 w1 ⟨rfl, hb⟩
  have H1 := Lib.hid hb
  clear hb
  go_wp2_with fail
  go_ret2
  exact ⟨rfl, H1.out⟩
set_option maxRecDepth 100000 in
theorem Nt.Add_ok (w : World) (ok : Nt.Ok w) (s t : ByteArray) (hs : s.size ≤ 512) (ht : t.size ≤ 512) :
    Calls Tryz.prog 9 #[.string s, .string t] w fun e w' => e = .returned (.tuple #[.string ⟨(Nt.fm (Nt.nv s + Nt.nv t)).toArray⟩, .int .i64 0]) ∧ Below w.heap.size w w' := by
  have HS := Lib.hid (And.intro ok (And.intro hs ht))
  obtain ⟨R, hR⟩ : ∃ R, Nt.nv s + Nt.nv t = R := ⟨_, rfl⟩
  rw [hR]
  have HR := Lib.hid (And.intro hR True.intro)
  clear ok hs ht hR
  go_enter Tryz.func9, Tryz.ntmps9
  go_wp2_with fail
  go_in
  go_wp2_with fail
  go_at_call 33
  have C := Nt.ofTwo_sum (w.alloc (Obj.cells #[Value.func (Fn.func 35) #[] #[]] 55)) (HS.out.1.below ((Below.refl _ _).alloc (Nat.le_refl _) _)) s t HS.out.2.1 HS.out.2.2 w.heap.size (by simp)
  rw [HR.out.1] at C
  have HC := Lib.hid C
  clear C
  refine Calls.mono HC.out ?_
  rintro e1 w1 ⟨rfl, hb⟩
  have H1 := Lib.hid (((Below.refl w.heap.size w).alloc (Nat.le_refl _) (Obj.cells #[Value.func (Fn.func 35) #[] #[]] 55)).trans (hb.mono (by simp)))
  clear hb
  go_wp2_with fail
  go_ret2
  exact ⟨rfl, H1.out⟩
set_option maxRecDepth 100000 in
theorem Nt.Mul_ok (w : World) (ok : Nt.Ok w) (s t : ByteArray) (hs : s.size ≤ 512) (ht : t.size ≤ 512) :
    Calls Tryz.prog 11 #[.string s, .string t] w fun e w' => e = .returned (.tuple #[.string ⟨(Nt.fm (Nt.nv s * Nt.nv t)).toArray⟩, .int .i64 0]) ∧ Below w.heap.size w w' := by
  have HS := Lib.hid (And.intro ok (And.intro hs ht))
  obtain ⟨R, hR⟩ : ∃ R, Nt.nv s * Nt.nv t = R := ⟨_, rfl⟩
  rw [hR]
  have HR := Lib.hid (And.intro hR True.intro)
  clear ok hs ht hR
  go_enter Tryz.func11, Tryz.ntmps11
  go_wp2_with fail
  go_in
  go_wp2_with fail
  go_at_call 33
  have C := Nt.ofTwo_product (w.alloc (Obj.cells #[Value.func (Fn.func 37) #[] #[]] 55)) (HS.out.1.below ((Below.refl _ _).alloc (Nat.le_refl _) _)) s t HS.out.2.1 HS.out.2.2 w.heap.size (by simp)
  rw [HR.out.1] at C
  have HC := Lib.hid C
  clear C
  refine Calls.mono HC.out ?_
  rintro e1 w1 ⟨rfl, hb⟩
  have H1 := Lib.hid (((Below.refl w.heap.size w).alloc (Nat.le_refl _) (Obj.cells #[Value.func (Fn.func 37) #[] #[]] 55)).trans (hb.mono (by simp)))
  clear hb
  go_wp2_with fail
  go_ret2
  exact ⟨rfl, H1.out⟩
set_option maxRecDepth 100000 in
theorem Nt.Sub_long (w : World) (ok : Nt.Ok w) (s t : ByteArray) (hs : s.size ≤ 9223372036854775807) (ht : t.size ≤ 9223372036854775807) (hl : 512 < s.size ∨ 512 < t.size) :
    Calls Tryz.prog 10 #[.string s, .string t] w fun e w' => e = .returned (.tuple #[.string ⟨#[]⟩, .int .i64 30]) ∧ Below w.heap.size w w' := by
  have HS := Lib.hid (And.intro ok (And.intro hs (And.intro ht hl)))
  clear ok hs ht hl
  go_enter Tryz.func10, Tryz.ntmps10
  go_wp2_with fail
  go_at_call 33
  refine Calls.mono (Nt.ofTwo_long _ HS.out.1 _ s t HS.out.2.1 HS.out.2.2.1 HS.out.2.2.2) ?_
  rintro e1 w1 ⟨rfl, hb⟩
  have H1 := Lib.hid hb
  clear hb
  go_wp2_with fail
  go_ret2
  exact ⟨rfl, H1.out⟩
set_option maxRecDepth 100000 in
theorem Nt.Add_long (w : World) (ok : Nt.Ok w) (s t : ByteArray) (hs : s.size ≤ 9223372036854775807) (ht : t.size ≤ 9223372036854775807) (hl : 512 < s.size ∨ 512 < t.size) :
    Calls Tryz.prog 9 #[.string s, .string t] w fun e w' => e = .returned (.tuple #[.string ⟨#[]⟩, .int .i64 30]) ∧ Below w.heap.size w w' := by
  have HS := Lib.hid (And.intro ok (And.intro hs (And.intro ht hl)))
  clear ok hs ht hl
  go_enter Tryz.func9, Tryz.ntmps9
  go_wp2_with fail
  go_in
  go_wp2_with fail
  go_at_call 33
  refine Calls.mono (Nt.ofTwo_long _ (HS.out.1.below ((Below.refl _ _).alloc (Nat.le_refl _) _)) _ s t HS.out.2.1 HS.out.2.2.1 HS.out.2.2.2) ?_
  rintro e1 w1 ⟨rfl, hb⟩
  have H1 := Lib.hid (((Below.refl w.heap.size w).alloc (Nat.le_refl _) (Obj.cells #[Value.func (Fn.func 35) #[] #[]] 55)).trans (hb.mono (by simp)))
  clear hb
  go_wp2_with fail
  go_ret2
  exact ⟨rfl, H1.out⟩
set_option maxRecDepth 100000 in
theorem Nt.Mul_long (w : World) (ok : Nt.Ok w) (s t : ByteArray) (hs : s.size ≤ 9223372036854775807) (ht : t.size ≤ 9223372036854775807) (hl : 512 < s.size ∨ 512 < t.size) :
    Calls Tryz.prog 11 #[.string s, .string t] w fun e w' => e = .returned (.tuple #[.string ⟨#[]⟩, .int .i64 30]) ∧ Below w.heap.size w w' := by
  have HS := Lib.hid (And.intro ok (And.intro hs (And.intro ht hl)))
  clear ok hs ht hl
  go_enter Tryz.func11, Tryz.ntmps11
  go_wp2_with fail
  go_in
  go_wp2_with fail
  go_at_call 33
  refine Calls.mono (Nt.ofTwo_long _ (HS.out.1.below ((Below.refl _ _).alloc (Nat.le_refl _) _)) _ s t HS.out.2.1 HS.out.2.2.1 HS.out.2.2.2) ?_
  rintro e1 w1 ⟨rfl, hb⟩
  have H1 := Lib.hid (((Below.refl w.heap.size w).alloc (Nat.le_refl _) (Obj.cells #[Value.func (Fn.func 37) #[] #[]] 55)).trans (hb.mono (by simp)))
  clear hb
  go_wp2_with fail
  go_ret2
  exact ⟨rfl, H1.out⟩
end Go.Proofs.YtccbnpondlncpaaGreatDoor
