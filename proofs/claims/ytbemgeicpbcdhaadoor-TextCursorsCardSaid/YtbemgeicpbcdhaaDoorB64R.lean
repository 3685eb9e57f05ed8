/- Base64url: readGroup, each way through it. -/
import Derived.Test.YtbemgeicpbcdhaaDoorB64
import Derived.Test.YtbemgeicpbcdhaaDoorAs
import Derived.Test.YtbemgeicpbcdhaaDoorShelf
namespace Go.Proofs.YtbemgeicpbcdhaaDoor
open Go.RowKit

set_option maxRecDepth 100000 in
theorem Tx.idx6' : ∀ c : Fin 256, Lib.indexByte Tx.letters (UInt8.ofNat c.val) = (match Tx.un6 (UInt8.ofNat c.val) with | some k => (k : Int) | none => -1) := by decide +kernel
theorem Tx.call_idx (c : UInt8) (w : World) : Calls Tryd.prog 30 #[.string ⟨#[65, 66, 67, 68, 69, 70, 71, 72, 73, 74, 75, 76, 77, 78, 79, 80, 81, 82, 83, 84, 85, 86, 87, 88, 89, 90, 97, 98, 99, 100, 101, 102, 103, 104, 105, 106, 107, 108, 109, 110, 111, 112, 113, 114, 115, 116, 117, 118, 119, 120, 121, 122, 48, 49, 50, 51, 52, 53, 54, 55, 56, 57, 45, 95]⟩, .int .u8 (c.toNat : Int)] w fun e w' => e = .returned (.int .i64 (match Tx.un6 c with | some k => (k : Int) | none => -1)) ∧ w = w' := by
  have h := Tryd.strings_IndexByte ⟨#[65, 66, 67, 68, 69, 70, 71, 72, 73, 74, 75, 76, 77, 78, 79, 80, 81, 82, 83, 84, 85, 86, 87, 88, 89, 90, 97, 98, 99, 100, 101, 102, 103, 104, 105, 106, 107, 108, 109, 110, 111, 112, 113, 114, 115, 116, 117, 118, 119, 120, 121, 122, 48, 49, 50, 51, 52, 53, 54, 55, 56, 57, 45, 95]⟩ (c.toNat : Int) w
  have e := Tx.idx6' ⟨c.toNat, c.toNat_lt⟩
  simp only [UInt8.ofNat_toNat] at e
  have e2 : ((c.toNat : Int).toNat).toUInt8 = c := by simp
  rw [e2] at h
  refine h.mono fun _ _ ⟨h1, h2⟩ => ⟨?_, h2.symm⟩
  rw [h1]; exact congrArg (fun x => Ending.returned (.int .i64 x)) e
theorem Tx.call_some {c : UInt8} {k : Nat} (h : Tx.un6 c = some k) (w : World) : Calls Tryd.prog 30 #[.string ⟨#[65, 66, 67, 68, 69, 70, 71, 72, 73, 74, 75, 76, 77, 78, 79, 80, 81, 82, 83, 84, 85, 86, 87, 88, 89, 90, 97, 98, 99, 100, 101, 102, 103, 104, 105, 106, 107, 108, 109, 110, 111, 112, 113, 114, 115, 116, 117, 118, 119, 120, 121, 122, 48, 49, 50, 51, 52, 53, 54, 55, 56, 57, 45, 95]⟩, .int .u8 (c.toNat : Int)] w fun e w' => e = .returned (.int .i64 (k : Int)) ∧ w = w' := by
  have := Tx.call_idx c w; rw [h] at this; exact this
theorem Tx.call_none {c : UInt8} (h : Tx.un6 c = none) (w : World) : Calls Tryd.prog 30 #[.string ⟨#[65, 66, 67, 68, 69, 70, 71, 72, 73, 74, 75, 76, 77, 78, 79, 80, 81, 82, 83, 84, 85, 86, 87, 88, 89, 90, 97, 98, 99, 100, 101, 102, 103, 104, 105, 106, 107, 108, 109, 110, 111, 112, 113, 114, 115, 116, 117, 118, 119, 120, 121, 122, 48, 49, 50, 51, 52, 53, 54, 55, 56, 57, 45, 95]⟩, .int .u8 (c.toNat : Int)] w fun e w' => e = .returned (.int .i64 (-1)) ∧ w = w' := by
  have := Tx.call_idx c w; rw [h] at this; exact this
theorem Tx.or32r (x y m : Nat) (k : Nat) (hm : m = 2 ^ k) (h : x < m) (h2 : y * m + x < 4294967296) : bits .or .u32 ((y * m : Nat) : Int) (x : Int) = ((y * m + x : Nat) : Int) := by
  subst hm
  have := u32_or_nat (y * 2 ^ k) x (by omega) (by omega)
  rw [Nat.or_comm, Tx.or_low x y k h, Nat.add_comm] at this
  exact this
theorem Tx.andmask (n k m : Nat) (hm : m + 1 = 2 ^ k) (h : n < 4294967296) (h2 : m < 4294967296) : bits .and .u32 (n : Int) (m : Int) = ((n % (m + 1) : Nat) : Int) := by
  have := u32_and_nat n m h h2
  rw [show m = 2 ^ k - 1 by omega, Nat.and_two_pow_sub_one_eq_mod] at this
  rw [hm]
  rw [show m = 2 ^ k - 1 by omega]; exact this

set_option maxHeartbeats 8000000 in
set_option maxRecDepth 100000 in
theorem Tx.rg1_bad0 (a0 : UInt8)  (hn : Tx.un6 a0 = none) (v : Value) (w : World) :
    Calls Tryd.prog 31 #[v, .string ⟨#[a0]⟩] w fun e w' => ∃ n x, e = .returned (.tuple #[.slice none 0 0, x]) ∧ As.Chain 11 n x ∧ w = w' := by
  have cn := fun wx => Tx.call_none hn wx
  clear hn
  have i0 : ({ data := #[a0] } : ByteArray)[0]'(by simp [ByteArray.size]) = a0 := rfl
  go_enter Tryd.func31, Tryd.ntmps31
  go_wp2
  refine wp_loop_rounds 2 ?_
  rw [rounds_succ]
  go_wp2_with fail
  refine (cn _).mono ?_
  rintro e w' ⟨rfl, rfl⟩
  go_wp2_with fail
  go_ret2
  exact ⟨_, _, rfl, .placed _ .fault, rfl⟩

set_option maxHeartbeats 8000000 in
set_option maxRecDepth 100000 in
theorem Tx.rg1_tail (a0 : UInt8) {x0 : Nat} (hx0 : Tx.un6 a0 = some x0) (v : Value) (w : World) :
    Calls Tryd.prog 31 #[v, .string ⟨#[a0]⟩] w fun e w' => ∃ n x, e = .returned (.tuple #[.slice none 0 0, x]) ∧ As.Chain 11 n x ∧ w = w' := by
  have lx0 := (Tx.b6_un6 hx0).1
  obtain ⟨M1, hM1⟩ : ∃ M : Nat, M = x0 * 262144 := ⟨_, rfl⟩
  have o0 : bits .or .u32 0 ((x0 : Int) * 262144) = (M1 : Int) := by
    have := u32_or_nat 0 (x0 * 262144) (by omega) (by omega); rw [hM1]; simpa using this
  have m1 : M1 < 16777216 := by omega
  have c0 := fun wx => Tx.call_some hx0 wx
  clear hx0 hM1
  have i0 : ({ data := #[a0] } : ByteArray)[0]'(by simp [ByteArray.size]) = a0 := rfl
  go_enter Tryd.func31, Tryd.ntmps31
  go_wp2
  refine wp_loop_rounds 2 ?_
  rw [rounds_succ]
  go_wp2_with fail
  refine (c0 _).mono ?_
  rintro e w' ⟨rfl, rfl⟩
  go_wp2_with fail
  rw [rounds_succ]
  go_wp2_with fail
  go_ret2
  exact ⟨_, _, rfl, .fault, rfl⟩

set_option maxHeartbeats 8000000 in
set_option maxRecDepth 100000 in
theorem Tx.rg2_bad0 (a0 a1 : UInt8)  (hn : Tx.un6 a0 = none) (v : Value) (w : World) :
    Calls Tryd.prog 31 #[v, .string ⟨#[a0, a1]⟩] w fun e w' => ∃ n x, e = .returned (.tuple #[.slice none 0 0, x]) ∧ As.Chain 11 n x ∧ w = w' := by
  have cn := fun wx => Tx.call_none hn wx
  clear hn
  have i0 : ({ data := #[a0, a1] } : ByteArray)[0]'(by simp [ByteArray.size]) = a0 := rfl
  have i1 : ({ data := #[a0, a1] } : ByteArray)[1]'(by simp [ByteArray.size]) = a1 := rfl
  go_enter Tryd.func31, Tryd.ntmps31
  go_wp2
  refine wp_loop_rounds 3 ?_
  rw [rounds_succ]
  go_wp2_with fail
  refine (cn _).mono ?_
  rintro e w' ⟨rfl, rfl⟩
  go_wp2_with fail
  go_ret2
  exact ⟨_, _, rfl, .placed _ .fault, rfl⟩

set_option maxHeartbeats 8000000 in
set_option maxRecDepth 100000 in
theorem Tx.rg2_bad1 (a0 a1 : UInt8) {x0 : Nat} (hx0 : Tx.un6 a0 = some x0) (hn : Tx.un6 a1 = none) (v : Value) (w : World) :
    Calls Tryd.prog 31 #[v, .string ⟨#[a0, a1]⟩] w fun e w' => ∃ n x, e = .returned (.tuple #[.slice none 0 0, x]) ∧ As.Chain 11 n x ∧ w = w' := by
  have lx0 := (Tx.b6_un6 hx0).1
  obtain ⟨M1, hM1⟩ : ∃ M : Nat, M = x0 * 262144 := ⟨_, rfl⟩
  have o0 : bits .or .u32 0 ((x0 : Int) * 262144) = (M1 : Int) := by
    have := u32_or_nat 0 (x0 * 262144) (by omega) (by omega); rw [hM1]; simpa using this
  have m1 : M1 < 16777216 := by omega
  have c0 := fun wx => Tx.call_some hx0 wx
  have cn := fun wx => Tx.call_none hn wx
  clear hx0 hn hM1
  have i0 : ({ data := #[a0, a1] } : ByteArray)[0]'(by simp [ByteArray.size]) = a0 := rfl
  have i1 : ({ data := #[a0, a1] } : ByteArray)[1]'(by simp [ByteArray.size]) = a1 := rfl
  go_enter Tryd.func31, Tryd.ntmps31
  go_wp2
  refine wp_loop_rounds 3 ?_
  rw [rounds_succ]
  go_wp2_with fail
  refine (c0 _).mono ?_
  rintro e w' ⟨rfl, rfl⟩
  go_wp2_with fail
  rw [rounds_succ]
  go_wp2_with fail
  refine (cn _).mono ?_
  rintro e w' ⟨rfl, rfl⟩
  go_wp2_with fail
  go_ret2
  exact ⟨_, _, rfl, .placed _ .fault, rfl⟩

set_option maxHeartbeats 8000000 in
set_option maxRecDepth 100000 in
theorem Tx.rg2_tail (a0 a1 : UInt8) {x0 : Nat} (hx0 : Tx.un6 a0 = some x0) {x1 : Nat} (hx1 : Tx.un6 a1 = some x1) (hc : ¬ x1 % 16 = 0) (v : Value) (w : World) :
    Calls Tryd.prog 31 #[v, .string ⟨#[a0, a1]⟩] w fun e w' => ∃ n x, e = .returned (.tuple #[.slice none 0 0, x]) ∧ As.Chain 11 n x ∧ w = w' := by
  have lx0 := (Tx.b6_un6 hx0).1
  have lx1 := (Tx.b6_un6 hx1).1
  obtain ⟨M1, hM1⟩ : ∃ M : Nat, M = x0 * 262144 := ⟨_, rfl⟩
  have o0 : bits .or .u32 0 ((x0 : Int) * 262144) = (M1 : Int) := by
    have := u32_or_nat 0 (x0 * 262144) (by omega) (by omega); rw [hM1]; simpa using this
  obtain ⟨M2, hM2⟩ : ∃ M : Nat, M = x0 * 262144 + x1 * 4096 := ⟨_, rfl⟩
  have o1 : bits .or .u32 (M1 : Int) ((x1 : Int) * 4096) = (M2 : Int) := by
    have := Tx.or32r (x1 * 4096) (x0 * 1) 262144 18 rfl (by omega) (by omega)
    rw [show (x0 * 1) * 262144 = M1 by omega, show M1 + x1 * 4096 = M2 by omega] at this; simpa using this
  have m1 : M1 < 16777216 := by omega
  have m2 : M2 < 16777216 := by omega
  obtain ⟨R, hR⟩ : ∃ R : Nat, R = M2 % 65536 := ⟨_, rfl⟩
  have ba : bits .and .u32 (M2 : Int) 65535 = (R : Int) := by
    have := Tx.andmask M2 16 65535 (by rfl) (by omega) (by omega); rw [hR]; simpa using this
  have r1 : ((R : Int) == 0) = false := by simp; omega
  have r2 : ((R : Int) != 0) = true := by simp; omega
  have r3 : (!((R : Int) == 0)) = true := by simp; omega
  have c0 := fun wx => Tx.call_some hx0 wx
  have c1 := fun wx => Tx.call_some hx1 wx
  clear hx0 hx1 hM1 hM2 hc hR
  have i0 : ({ data := #[a0, a1] } : ByteArray)[0]'(by simp [ByteArray.size]) = a0 := rfl
  have i1 : ({ data := #[a0, a1] } : ByteArray)[1]'(by simp [ByteArray.size]) = a1 := rfl
  go_enter Tryd.func31, Tryd.ntmps31
  go_wp2
  refine wp_loop_rounds 3 ?_
  rw [rounds_succ]
  go_wp2_with fail
  refine (c0 _).mono ?_
  rintro e w' ⟨rfl, rfl⟩
  go_wp2_with fail
  rw [rounds_succ]
  go_wp2_with fail
  refine (c1 _).mono ?_
  rintro e w' ⟨rfl, rfl⟩
  go_wp2_with fail
  rw [rounds_succ]
  go_wp2_with fail
  go_ret2
  exact ⟨_, _, rfl, .fault, rfl⟩

set_option maxHeartbeats 8000000 in
set_option maxRecDepth 100000 in
theorem Tx.rg2_ok (a0 a1 : UInt8) {x0 : Nat} (hx0 : Tx.un6 a0 = some x0) {x1 : Nat} (hx1 : Tx.un6 a1 = some x1) (hc : x1 % 16 = 0) (B : Nat) (v : Value) (l : List UInt8) (w : World) (hB : B ≤ w.heap.size) (hown : Tx.Own w B v l) (hl : l.length + 4 ≤ 140737488355328) :
    Calls Tryd.prog 31 #[v, .string ⟨#[a0, a1]⟩] w fun e w' => ∃ v', e = .returned (.tuple #[v', .nilIface]) ∧ Tx.Own w' B v' (l ++ [UInt8.ofNat (x0 * 4 + x1 / 16)]) ∧ Below B w w' := by
  have lx0 := (Tx.b6_un6 hx0).1
  have lx1 := (Tx.b6_un6 hx1).1
  obtain ⟨M1, hM1⟩ : ∃ M : Nat, M = x0 * 262144 := ⟨_, rfl⟩
  have o0 : bits .or .u32 0 ((x0 : Int) * 262144) = (M1 : Int) := by
    have := u32_or_nat 0 (x0 * 262144) (by omega) (by omega); rw [hM1]; simpa using this
  obtain ⟨M2, hM2⟩ : ∃ M : Nat, M = x0 * 262144 + x1 * 4096 := ⟨_, rfl⟩
  have o1 : bits .or .u32 (M1 : Int) ((x1 : Int) * 4096) = (M2 : Int) := by
    have := Tx.or32r (x1 * 4096) (x0 * 1) 262144 18 rfl (by omega) (by omega)
    rw [show (x0 * 1) * 262144 = M1 by omega, show M1 + x1 * 4096 = M2 by omega] at this; simpa using this
  have m1 : M1 < 16777216 := by omega
  have m2 : M2 < 16777216 := by omega
  obtain ⟨R, hR⟩ : ∃ R : Nat, R = M2 % 65536 := ⟨_, rfl⟩
  have ba : bits .and .u32 (M2 : Int) 65535 = (R : Int) := by
    have := Tx.andmask M2 16 65535 (by rfl) (by omega) (by omega); rw [hR]; simpa using this
  obtain rfl : R = 0 := by omega
  obtain ⟨g0, hg0⟩ : ∃ g : UInt8, g = UInt8.ofNat (x0 * 4 + x1 / 16) := ⟨_, rfl⟩
  have w0 : IntKind.u8.wrap ((M2 : Int) / 65536) = (g0.toNat : Int) := by
    rw [hg0, Tx.of8 _ (by omega), IntKind.wrap_u8, hM2]; omega
  rw [← hg0]
  have c0 := fun wx => Tx.call_some hx0 wx
  have c1 := fun wx => Tx.call_some hx1 wx
  clear hx0 hx1 hM1 hM2 hc hR hg0
  have i0 : ({ data := #[a0, a1] } : ByteArray)[0]'(by simp [ByteArray.size]) = a0 := rfl
  have i1 : ({ data := #[a0, a1] } : ByteArray)[1]'(by simp [ByteArray.size]) = a1 := rfl
  have hL : l.length + 3 ≤ 140737488355328 := by omega
  clear hl
  go_enter Tryd.func31, Tryd.ntmps31
  go_wp2
  refine wp_loop_rounds 3 ?_
  rw [rounds_succ]
  go_wp2_with fail
  refine (c0 _).mono ?_
  rintro e w' ⟨rfl, rfl⟩
  go_wp2_with fail
  rw [rounds_succ]
  go_wp2_with fail
  refine (c1 _).mono ?_
  rintro e w' ⟨rfl, rfl⟩
  go_wp2_with fail
  rw [rounds_succ]
  go_wp2_with fail
  refine wp_loop_rounds 2 ?_
  repeat any_goals (rw [rounds_succ]; go_wp2_with (at_builtin; refine Tx.append rfl _ _ rfl B _ _ rfl (Tx.Own.alloc (by assumption) _) ⟨_, 0, none⟩ 1 [_] rfl (World.news_of_block (heap_alloc_new _ _)) (by simp; omega) (by simp; omega) ?_; intro v1 w1 hown1 hb1 hz1))
  go_ret2
  exact ⟨_, rfl, by simpa using hown1, (((Below.refl B w).alloc hB _).trans (by assumption))⟩

set_option maxHeartbeats 8000000 in
set_option maxRecDepth 100000 in
theorem Tx.rg3_bad0 (a0 a1 a2 : UInt8)  (hn : Tx.un6 a0 = none) (v : Value) (w : World) :
    Calls Tryd.prog 31 #[v, .string ⟨#[a0, a1, a2]⟩] w fun e w' => ∃ n x, e = .returned (.tuple #[.slice none 0 0, x]) ∧ As.Chain 11 n x ∧ w = w' := by
  have cn := fun wx => Tx.call_none hn wx
  clear hn
  have i0 : ({ data := #[a0, a1, a2] } : ByteArray)[0]'(by simp [ByteArray.size]) = a0 := rfl
  have i1 : ({ data := #[a0, a1, a2] } : ByteArray)[1]'(by simp [ByteArray.size]) = a1 := rfl
  have i2 : ({ data := #[a0, a1, a2] } : ByteArray)[2]'(by simp [ByteArray.size]) = a2 := rfl
  go_enter Tryd.func31, Tryd.ntmps31
  go_wp2
  refine wp_loop_rounds 4 ?_
  rw [rounds_succ]
  go_wp2_with fail
  refine (cn _).mono ?_
  rintro e w' ⟨rfl, rfl⟩
  go_wp2_with fail
  go_ret2
  exact ⟨_, _, rfl, .placed _ .fault, rfl⟩

set_option maxHeartbeats 8000000 in
set_option maxRecDepth 100000 in
theorem Tx.rg3_bad1 (a0 a1 a2 : UInt8) {x0 : Nat} (hx0 : Tx.un6 a0 = some x0) (hn : Tx.un6 a1 = none) (v : Value) (w : World) :
    Calls Tryd.prog 31 #[v, .string ⟨#[a0, a1, a2]⟩] w fun e w' => ∃ n x, e = .returned (.tuple #[.slice none 0 0, x]) ∧ As.Chain 11 n x ∧ w = w' := by
  have lx0 := (Tx.b6_un6 hx0).1
  obtain ⟨M1, hM1⟩ : ∃ M : Nat, M = x0 * 262144 := ⟨_, rfl⟩
  have o0 : bits .or .u32 0 ((x0 : Int) * 262144) = (M1 : Int) := by
    have := u32_or_nat 0 (x0 * 262144) (by omega) (by omega); rw [hM1]; simpa using this
  have m1 : M1 < 16777216 := by omega
  have c0 := fun wx => Tx.call_some hx0 wx
  have cn := fun wx => Tx.call_none hn wx
  clear hx0 hn hM1
  have i0 : ({ data := #[a0, a1, a2] } : ByteArray)[0]'(by simp [ByteArray.size]) = a0 := rfl
  have i1 : ({ data := #[a0, a1, a2] } : ByteArray)[1]'(by simp [ByteArray.size]) = a1 := rfl
  have i2 : ({ data := #[a0, a1, a2] } : ByteArray)[2]'(by simp [ByteArray.size]) = a2 := rfl
  go_enter Tryd.func31, Tryd.ntmps31
  go_wp2
  refine wp_loop_rounds 4 ?_
  rw [rounds_succ]
  go_wp2_with fail
  refine (c0 _).mono ?_
  rintro e w' ⟨rfl, rfl⟩
  go_wp2_with fail
  rw [rounds_succ]
  go_wp2_with fail
  refine (cn _).mono ?_
  rintro e w' ⟨rfl, rfl⟩
  go_wp2_with fail
  go_ret2
  exact ⟨_, _, rfl, .placed _ .fault, rfl⟩

set_option maxHeartbeats 8000000 in
set_option maxRecDepth 100000 in
theorem Tx.rg3_bad2 (a0 a1 a2 : UInt8) {x0 : Nat} (hx0 : Tx.un6 a0 = some x0) {x1 : Nat} (hx1 : Tx.un6 a1 = some x1) (hn : Tx.un6 a2 = none) (v : Value) (w : World) :
    Calls Tryd.prog 31 #[v, .string ⟨#[a0, a1, a2]⟩] w fun e w' => ∃ n x, e = .returned (.tuple #[.slice none 0 0, x]) ∧ As.Chain 11 n x ∧ w = w' := by
  have lx0 := (Tx.b6_un6 hx0).1
  have lx1 := (Tx.b6_un6 hx1).1
  obtain ⟨M1, hM1⟩ : ∃ M : Nat, M = x0 * 262144 := ⟨_, rfl⟩
  have o0 : bits .or .u32 0 ((x0 : Int) * 262144) = (M1 : Int) := by
    have := u32_or_nat 0 (x0 * 262144) (by omega) (by omega); rw [hM1]; simpa using this
  obtain ⟨M2, hM2⟩ : ∃ M : Nat, M = x0 * 262144 + x1 * 4096 := ⟨_, rfl⟩
  have o1 : bits .or .u32 (M1 : Int) ((x1 : Int) * 4096) = (M2 : Int) := by
    have := Tx.or32r (x1 * 4096) (x0 * 1) 262144 18 rfl (by omega) (by omega)
    rw [show (x0 * 1) * 262144 = M1 by omega, show M1 + x1 * 4096 = M2 by omega] at this; simpa using this
  have m1 : M1 < 16777216 := by omega
  have m2 : M2 < 16777216 := by omega
  have c0 := fun wx => Tx.call_some hx0 wx
  have c1 := fun wx => Tx.call_some hx1 wx
  have cn := fun wx => Tx.call_none hn wx
  clear hx0 hx1 hn hM1 hM2
  have i0 : ({ data := #[a0, a1, a2] } : ByteArray)[0]'(by simp [ByteArray.size]) = a0 := rfl
  have i1 : ({ data := #[a0, a1, a2] } : ByteArray)[1]'(by simp [ByteArray.size]) = a1 := rfl
  have i2 : ({ data := #[a0, a1, a2] } : ByteArray)[2]'(by simp [ByteArray.size]) = a2 := rfl
  go_enter Tryd.func31, Tryd.ntmps31
  go_wp2
  refine wp_loop_rounds 4 ?_
  rw [rounds_succ]
  go_wp2_with fail
  refine (c0 _).mono ?_
  rintro e w' ⟨rfl, rfl⟩
  go_wp2_with fail
  rw [rounds_succ]
  go_wp2_with fail
  refine (c1 _).mono ?_
  rintro e w' ⟨rfl, rfl⟩
  go_wp2_with fail
  rw [rounds_succ]
  go_wp2_with fail
  refine (cn _).mono ?_
  rintro e w' ⟨rfl, rfl⟩
  go_wp2_with fail
  go_ret2
  exact ⟨_, _, rfl, .placed _ .fault, rfl⟩

set_option maxHeartbeats 8000000 in
set_option maxRecDepth 100000 in
theorem Tx.rg3_tail (a0 a1 a2 : UInt8) {x0 : Nat} (hx0 : Tx.un6 a0 = some x0) {x1 : Nat} (hx1 : Tx.un6 a1 = some x1) {x2 : Nat} (hx2 : Tx.un6 a2 = some x2) (hc : ¬ x2 % 4 = 0) (v : Value) (w : World) :
    Calls Tryd.prog 31 #[v, .string ⟨#[a0, a1, a2]⟩] w fun e w' => ∃ n x, e = .returned (.tuple #[.slice none 0 0, x]) ∧ As.Chain 11 n x ∧ w = w' := by
  have lx0 := (Tx.b6_un6 hx0).1
  have lx1 := (Tx.b6_un6 hx1).1
  have lx2 := (Tx.b6_un6 hx2).1
  obtain ⟨M1, hM1⟩ : ∃ M : Nat, M = x0 * 262144 := ⟨_, rfl⟩
  have o0 : bits .or .u32 0 ((x0 : Int) * 262144) = (M1 : Int) := by
    have := u32_or_nat 0 (x0 * 262144) (by omega) (by omega); rw [hM1]; simpa using this
  obtain ⟨M2, hM2⟩ : ∃ M : Nat, M = x0 * 262144 + x1 * 4096 := ⟨_, rfl⟩
  have o1 : bits .or .u32 (M1 : Int) ((x1 : Int) * 4096) = (M2 : Int) := by
    have := Tx.or32r (x1 * 4096) (x0 * 1) 262144 18 rfl (by omega) (by omega)
    rw [show (x0 * 1) * 262144 = M1 by omega, show M1 + x1 * 4096 = M2 by omega] at this; simpa using this
  obtain ⟨M3, hM3⟩ : ∃ M : Nat, M = x0 * 262144 + x1 * 4096 + x2 * 64 := ⟨_, rfl⟩
  have o2 : bits .or .u32 (M2 : Int) ((x2 : Int) * 64) = (M3 : Int) := by
    have := Tx.or32r (x2 * 64) (x0 * 64 + x1 * 1) 4096 12 rfl (by omega) (by omega)
    rw [show (x0 * 64 + x1 * 1) * 4096 = M2 by omega, show M2 + x2 * 64 = M3 by omega] at this; simpa using this
  have m1 : M1 < 16777216 := by omega
  have m2 : M2 < 16777216 := by omega
  have m3 : M3 < 16777216 := by omega
  obtain ⟨R, hR⟩ : ∃ R : Nat, R = M3 % 256 := ⟨_, rfl⟩
  have ba : bits .and .u32 (M3 : Int) 255 = (R : Int) := by
    have := Tx.andmask M3 8 255 (by rfl) (by omega) (by omega); rw [hR]; simpa using this
  have r1 : ((R : Int) == 0) = false := by simp; omega
  have r2 : ((R : Int) != 0) = true := by simp; omega
  have r3 : (!((R : Int) == 0)) = true := by simp; omega
  have c0 := fun wx => Tx.call_some hx0 wx
  have c1 := fun wx => Tx.call_some hx1 wx
  have c2 := fun wx => Tx.call_some hx2 wx
  clear hx0 hx1 hx2 hM1 hM2 hM3 hc hR
  have i0 : ({ data := #[a0, a1, a2] } : ByteArray)[0]'(by simp [ByteArray.size]) = a0 := rfl
  have i1 : ({ data := #[a0, a1, a2] } : ByteArray)[1]'(by simp [ByteArray.size]) = a1 := rfl
  have i2 : ({ data := #[a0, a1, a2] } : ByteArray)[2]'(by simp [ByteArray.size]) = a2 := rfl
  go_enter Tryd.func31, Tryd.ntmps31
  go_wp2
  refine wp_loop_rounds 4 ?_
  rw [rounds_succ]
  go_wp2_with fail
  refine (c0 _).mono ?_
  rintro e w' ⟨rfl, rfl⟩
  go_wp2_with fail
  rw [rounds_succ]
  go_wp2_with fail
  refine (c1 _).mono ?_
  rintro e w' ⟨rfl, rfl⟩
  go_wp2_with fail
  rw [rounds_succ]
  go_wp2_with fail
  refine (c2 _).mono ?_
  rintro e w' ⟨rfl, rfl⟩
  go_wp2_with fail
  rw [rounds_succ]
  go_wp2_with fail
  go_ret2
  exact ⟨_, _, rfl, .fault, rfl⟩

set_option maxHeartbeats 8000000 in
set_option maxRecDepth 100000 in
theorem Tx.rg3_ok (a0 a1 a2 : UInt8) {x0 : Nat} (hx0 : Tx.un6 a0 = some x0) {x1 : Nat} (hx1 : Tx.un6 a1 = some x1) {x2 : Nat} (hx2 : Tx.un6 a2 = some x2) (hc : x2 % 4 = 0) (B : Nat) (v : Value) (l : List UInt8) (w : World) (hB : B ≤ w.heap.size) (hown : Tx.Own w B v l) (hl : l.length + 4 ≤ 140737488355328) :
    Calls Tryd.prog 31 #[v, .string ⟨#[a0, a1, a2]⟩] w fun e w' => ∃ v', e = .returned (.tuple #[v', .nilIface]) ∧ Tx.Own w' B v' (l ++ [UInt8.ofNat (x0 * 4 + x1 / 16), UInt8.ofNat (x1 % 16 * 16 + x2 / 4)]) ∧ Below B w w' := by
  have lx0 := (Tx.b6_un6 hx0).1
  have lx1 := (Tx.b6_un6 hx1).1
  have lx2 := (Tx.b6_un6 hx2).1
  obtain ⟨M1, hM1⟩ : ∃ M : Nat, M = x0 * 262144 := ⟨_, rfl⟩
  have o0 : bits .or .u32 0 ((x0 : Int) * 262144) = (M1 : Int) := by
    have := u32_or_nat 0 (x0 * 262144) (by omega) (by omega); rw [hM1]; simpa using this
  obtain ⟨M2, hM2⟩ : ∃ M : Nat, M = x0 * 262144 + x1 * 4096 := ⟨_, rfl⟩
  have o1 : bits .or .u32 (M1 : Int) ((x1 : Int) * 4096) = (M2 : Int) := by
    have := Tx.or32r (x1 * 4096) (x0 * 1) 262144 18 rfl (by omega) (by omega)
    rw [show (x0 * 1) * 262144 = M1 by omega, show M1 + x1 * 4096 = M2 by omega] at this; simpa using this
  obtain ⟨M3, hM3⟩ : ∃ M : Nat, M = x0 * 262144 + x1 * 4096 + x2 * 64 := ⟨_, rfl⟩
  have o2 : bits .or .u32 (M2 : Int) ((x2 : Int) * 64) = (M3 : Int) := by
    have := Tx.or32r (x2 * 64) (x0 * 64 + x1 * 1) 4096 12 rfl (by omega) (by omega)
    rw [show (x0 * 64 + x1 * 1) * 4096 = M2 by omega, show M2 + x2 * 64 = M3 by omega] at this; simpa using this
  have m1 : M1 < 16777216 := by omega
  have m2 : M2 < 16777216 := by omega
  have m3 : M3 < 16777216 := by omega
  obtain ⟨R, hR⟩ : ∃ R : Nat, R = M3 % 256 := ⟨_, rfl⟩
  have ba : bits .and .u32 (M3 : Int) 255 = (R : Int) := by
    have := Tx.andmask M3 8 255 (by rfl) (by omega) (by omega); rw [hR]; simpa using this
  obtain rfl : R = 0 := by omega
  obtain ⟨g0, hg0⟩ : ∃ g : UInt8, g = UInt8.ofNat (x0 * 4 + x1 / 16) := ⟨_, rfl⟩
  have w0 : IntKind.u8.wrap ((M3 : Int) / 65536) = (g0.toNat : Int) := by
    rw [hg0, Tx.of8 _ (by omega), IntKind.wrap_u8, hM3]; omega
  obtain ⟨g1, hg1⟩ : ∃ g : UInt8, g = UInt8.ofNat (x1 % 16 * 16 + x2 / 4) := ⟨_, rfl⟩
  have w1 : IntKind.u8.wrap ((M3 : Int) / 256) = (g1.toNat : Int) := by
    rw [hg1, Tx.of8 _ (by omega), IntKind.wrap_u8, hM3]; omega
  rw [← hg0, ← hg1]
  have c0 := fun wx => Tx.call_some hx0 wx
  have c1 := fun wx => Tx.call_some hx1 wx
  have c2 := fun wx => Tx.call_some hx2 wx
  clear hx0 hx1 hx2 hM1 hM2 hM3 hc hR hg0 hg1
  have i0 : ({ data := #[a0, a1, a2] } : ByteArray)[0]'(by simp [ByteArray.size]) = a0 := rfl
  have i1 : ({ data := #[a0, a1, a2] } : ByteArray)[1]'(by simp [ByteArray.size]) = a1 := rfl
  have i2 : ({ data := #[a0, a1, a2] } : ByteArray)[2]'(by simp [ByteArray.size]) = a2 := rfl
  have hL : l.length + 3 ≤ 140737488355328 := by omega
  clear hl
  go_enter Tryd.func31, Tryd.ntmps31
  go_wp2
  refine wp_loop_rounds 4 ?_
  rw [rounds_succ]
  go_wp2_with fail
  refine (c0 _).mono ?_
  rintro e w' ⟨rfl, rfl⟩
  go_wp2_with fail
  rw [rounds_succ]
  go_wp2_with fail
  refine (c1 _).mono ?_
  rintro e w' ⟨rfl, rfl⟩
  go_wp2_with fail
  rw [rounds_succ]
  go_wp2_with fail
  refine (c2 _).mono ?_
  rintro e w' ⟨rfl, rfl⟩
  go_wp2_with fail
  rw [rounds_succ]
  go_wp2_with fail
  refine wp_loop_rounds 3 ?_
  repeat any_goals (rw [rounds_succ]; go_wp2_with (at_builtin; refine Tx.append rfl _ _ rfl B _ _ rfl (Tx.Own.alloc (by assumption) _) ⟨_, 0, none⟩ 1 [_] rfl (World.news_of_block (heap_alloc_new _ _)) (by simp; omega) (by simp; omega) ?_; intro v1 w1 hown1 hb1 hz1))
  go_ret2
  exact ⟨_, rfl, by simpa using hown1, (((((Below.refl B w).alloc hB _).trans (by assumption)).alloc (by assumption) _).trans (by assumption))⟩

set_option maxHeartbeats 8000000 in
set_option maxRecDepth 100000 in
theorem Tx.rg4_bad0 (a0 a1 a2 a3 : UInt8)  (hn : Tx.un6 a0 = none) (v : Value) (w : World) :
    Calls Tryd.prog 31 #[v, .string ⟨#[a0, a1, a2, a3]⟩] w fun e w' => ∃ n x, e = .returned (.tuple #[.slice none 0 0, x]) ∧ As.Chain 11 n x ∧ w = w' := by
  have cn := fun wx => Tx.call_none hn wx
  clear hn
  have i0 : ({ data := #[a0, a1, a2, a3] } : ByteArray)[0]'(by simp [ByteArray.size]) = a0 := rfl
  have i1 : ({ data := #[a0, a1, a2, a3] } : ByteArray)[1]'(by simp [ByteArray.size]) = a1 := rfl
  have i2 : ({ data := #[a0, a1, a2, a3] } : ByteArray)[2]'(by simp [ByteArray.size]) = a2 := rfl
  have i3 : ({ data := #[a0, a1, a2, a3] } : ByteArray)[3]'(by simp [ByteArray.size]) = a3 := rfl
  go_enter Tryd.func31, Tryd.ntmps31
  go_wp2
  refine wp_loop_rounds 5 ?_
  rw [rounds_succ]
  go_wp2_with fail
  refine (cn _).mono ?_
  rintro e w' ⟨rfl, rfl⟩
  go_wp2_with fail
  go_ret2
  exact ⟨_, _, rfl, .placed _ .fault, rfl⟩

set_option maxHeartbeats 8000000 in
set_option maxRecDepth 100000 in
theorem Tx.rg4_bad1 (a0 a1 a2 a3 : UInt8) {x0 : Nat} (hx0 : Tx.un6 a0 = some x0) (hn : Tx.un6 a1 = none) (v : Value) (w : World) :
    Calls Tryd.prog 31 #[v, .string ⟨#[a0, a1, a2, a3]⟩] w fun e w' => ∃ n x, e = .returned (.tuple #[.slice none 0 0, x]) ∧ As.Chain 11 n x ∧ w = w' := by
  have lx0 := (Tx.b6_un6 hx0).1
  obtain ⟨M1, hM1⟩ : ∃ M : Nat, M = x0 * 262144 := ⟨_, rfl⟩
  have o0 : bits .or .u32 0 ((x0 : Int) * 262144) = (M1 : Int) := by
    have := u32_or_nat 0 (x0 * 262144) (by omega) (by omega); rw [hM1]; simpa using this
  have m1 : M1 < 16777216 := by omega
  have c0 := fun wx => Tx.call_some hx0 wx
  have cn := fun wx => Tx.call_none hn wx
  clear hx0 hn hM1
  have i0 : ({ data := #[a0, a1, a2, a3] } : ByteArray)[0]'(by simp [ByteArray.size]) = a0 := rfl
  have i1 : ({ data := #[a0, a1, a2, a3] } : ByteArray)[1]'(by simp [ByteArray.size]) = a1 := rfl
  have i2 : ({ data := #[a0, a1, a2, a3] } : ByteArray)[2]'(by simp [ByteArray.size]) = a2 := rfl
  have i3 : ({ data := #[a0, a1, a2, a3] } : ByteArray)[3]'(by simp [ByteArray.size]) = a3 := rfl
  go_enter Tryd.func31, Tryd.ntmps31
  go_wp2
  refine wp_loop_rounds 5 ?_
  rw [rounds_succ]
  go_wp2_with fail
  refine (c0 _).mono ?_
  rintro e w' ⟨rfl, rfl⟩
  go_wp2_with fail
  rw [rounds_succ]
  go_wp2_with fail
  refine (cn _).mono ?_
  rintro e w' ⟨rfl, rfl⟩
  go_wp2_with fail
  go_ret2
  exact ⟨_, _, rfl, .placed _ .fault, rfl⟩

set_option maxHeartbeats 8000000 in
set_option maxRecDepth 100000 in
theorem Tx.rg4_bad2 (a0 a1 a2 a3 : UInt8) {x0 : Nat} (hx0 : Tx.un6 a0 = some x0) {x1 : Nat} (hx1 : Tx.un6 a1 = some x1) (hn : Tx.un6 a2 = none) (v : Value) (w : World) :
    Calls Tryd.prog 31 #[v, .string ⟨#[a0, a1, a2, a3]⟩] w fun e w' => ∃ n x, e = .returned (.tuple #[.slice none 0 0, x]) ∧ As.Chain 11 n x ∧ w = w' := by
  have lx0 := (Tx.b6_un6 hx0).1
  have lx1 := (Tx.b6_un6 hx1).1
  obtain ⟨M1, hM1⟩ : ∃ M : Nat, M = x0 * 262144 := ⟨_, rfl⟩
  have o0 : bits .or .u32 0 ((x0 : Int) * 262144) = (M1 : Int) := by
    have := u32_or_nat 0 (x0 * 262144) (by omega) (by omega); rw [hM1]; simpa using this
  obtain ⟨M2, hM2⟩ : ∃ M : Nat, M = x0 * 262144 + x1 * 4096 := ⟨_, rfl⟩
  have o1 : bits .or .u32 (M1 : Int) ((x1 : Int) * 4096) = (M2 : Int) := by
    have := Tx.or32r (x1 * 4096) (x0 * 1) 262144 18 rfl (by omega) (by omega)
    rw [show (x0 * 1) * 262144 = M1 by omega, show M1 + x1 * 4096 = M2 by omega] at this; simpa using this
  have m1 : M1 < 16777216 := by omega
  have m2 : M2 < 16777216 := by omega
  have c0 := fun wx => Tx.call_some hx0 wx
  have c1 := fun wx => Tx.call_some hx1 wx
  have cn := fun wx => Tx.call_none hn wx
  clear hx0 hx1 hn hM1 hM2
  have i0 : ({ data := #[a0, a1, a2, a3] } : ByteArray)[0]'(by simp [ByteArray.size]) = a0 := rfl
  have i1 : ({ data := #[a0, a1, a2, a3] } : ByteArray)[1]'(by simp [ByteArray.size]) = a1 := rfl
  have i2 : ({ data := #[a0, a1, a2, a3] } : ByteArray)[2]'(by simp [ByteArray.size]) = a2 := rfl
  have i3 : ({ data := #[a0, a1, a2, a3] } : ByteArray)[3]'(by simp [ByteArray.size]) = a3 := rfl
  go_enter Tryd.func31, Tryd.ntmps31
  go_wp2
  refine wp_loop_rounds 5 ?_
  rw [rounds_succ]
  go_wp2_with fail
  refine (c0 _).mono ?_
  rintro e w' ⟨rfl, rfl⟩
  go_wp2_with fail
  rw [rounds_succ]
  go_wp2_with fail
  refine (c1 _).mono ?_
  rintro e w' ⟨rfl, rfl⟩
  go_wp2_with fail
  rw [rounds_succ]
  go_wp2_with fail
  refine (cn _).mono ?_
  rintro e w' ⟨rfl, rfl⟩
  go_wp2_with fail
  go_ret2
  exact ⟨_, _, rfl, .placed _ .fault, rfl⟩

set_option maxHeartbeats 8000000 in
set_option maxRecDepth 100000 in
theorem Tx.rg4_bad3 (a0 a1 a2 a3 : UInt8) {x0 : Nat} (hx0 : Tx.un6 a0 = some x0) {x1 : Nat} (hx1 : Tx.un6 a1 = some x1) {x2 : Nat} (hx2 : Tx.un6 a2 = some x2) (hn : Tx.un6 a3 = none) (v : Value) (w : World) :
    Calls Tryd.prog 31 #[v, .string ⟨#[a0, a1, a2, a3]⟩] w fun e w' => ∃ n x, e = .returned (.tuple #[.slice none 0 0, x]) ∧ As.Chain 11 n x ∧ w = w' := by
  have lx0 := (Tx.b6_un6 hx0).1
  have lx1 := (Tx.b6_un6 hx1).1
  have lx2 := (Tx.b6_un6 hx2).1
  obtain ⟨M1, hM1⟩ : ∃ M : Nat, M = x0 * 262144 := ⟨_, rfl⟩
  have o0 : bits .or .u32 0 ((x0 : Int) * 262144) = (M1 : Int) := by
    have := u32_or_nat 0 (x0 * 262144) (by omega) (by omega); rw [hM1]; simpa using this
  obtain ⟨M2, hM2⟩ : ∃ M : Nat, M = x0 * 262144 + x1 * 4096 := ⟨_, rfl⟩
  have o1 : bits .or .u32 (M1 : Int) ((x1 : Int) * 4096) = (M2 : Int) := by
    have := Tx.or32r (x1 * 4096) (x0 * 1) 262144 18 rfl (by omega) (by omega)
    rw [show (x0 * 1) * 262144 = M1 by omega, show M1 + x1 * 4096 = M2 by omega] at this; simpa using this
  obtain ⟨M3, hM3⟩ : ∃ M : Nat, M = x0 * 262144 + x1 * 4096 + x2 * 64 := ⟨_, rfl⟩
  have o2 : bits .or .u32 (M2 : Int) ((x2 : Int) * 64) = (M3 : Int) := by
    have := Tx.or32r (x2 * 64) (x0 * 64 + x1 * 1) 4096 12 rfl (by omega) (by omega)
    rw [show (x0 * 64 + x1 * 1) * 4096 = M2 by omega, show M2 + x2 * 64 = M3 by omega] at this; simpa using this
  have m1 : M1 < 16777216 := by omega
  have m2 : M2 < 16777216 := by omega
  have m3 : M3 < 16777216 := by omega
  have c0 := fun wx => Tx.call_some hx0 wx
  have c1 := fun wx => Tx.call_some hx1 wx
  have c2 := fun wx => Tx.call_some hx2 wx
  have cn := fun wx => Tx.call_none hn wx
  clear hx0 hx1 hx2 hn hM1 hM2 hM3
  have i0 : ({ data := #[a0, a1, a2, a3] } : ByteArray)[0]'(by simp [ByteArray.size]) = a0 := rfl
  have i1 : ({ data := #[a0, a1, a2, a3] } : ByteArray)[1]'(by simp [ByteArray.size]) = a1 := rfl
  have i2 : ({ data := #[a0, a1, a2, a3] } : ByteArray)[2]'(by simp [ByteArray.size]) = a2 := rfl
  have i3 : ({ data := #[a0, a1, a2, a3] } : ByteArray)[3]'(by simp [ByteArray.size]) = a3 := rfl
  go_enter Tryd.func31, Tryd.ntmps31
  go_wp2
  refine wp_loop_rounds 5 ?_
  rw [rounds_succ]
  go_wp2_with fail
  refine (c0 _).mono ?_
  rintro e w' ⟨rfl, rfl⟩
  go_wp2_with fail
  rw [rounds_succ]
  go_wp2_with fail
  refine (c1 _).mono ?_
  rintro e w' ⟨rfl, rfl⟩
  go_wp2_with fail
  rw [rounds_succ]
  go_wp2_with fail
  refine (c2 _).mono ?_
  rintro e w' ⟨rfl, rfl⟩
  go_wp2_with fail
  rw [rounds_succ]
  go_wp2_with fail
  refine (cn _).mono ?_
  rintro e w' ⟨rfl, rfl⟩
  go_wp2_with fail
  go_ret2
  exact ⟨_, _, rfl, .placed _ .fault, rfl⟩

set_option maxHeartbeats 8000000 in
set_option maxRecDepth 100000 in
theorem Tx.rg4_ok (a0 a1 a2 a3 : UInt8) {x0 : Nat} (hx0 : Tx.un6 a0 = some x0) {x1 : Nat} (hx1 : Tx.un6 a1 = some x1) {x2 : Nat} (hx2 : Tx.un6 a2 = some x2) {x3 : Nat} (hx3 : Tx.un6 a3 = some x3) (B : Nat) (v : Value) (l : List UInt8) (w : World) (hB : B ≤ w.heap.size) (hown : Tx.Own w B v l) (hl : l.length + 4 ≤ 140737488355328) :
    Calls Tryd.prog 31 #[v, .string ⟨#[a0, a1, a2, a3]⟩] w fun e w' => ∃ v', e = .returned (.tuple #[v', .nilIface]) ∧ Tx.Own w' B v' (l ++ [UInt8.ofNat (x0 * 4 + x1 / 16), UInt8.ofNat (x1 % 16 * 16 + x2 / 4), UInt8.ofNat (x2 % 4 * 64 + x3)]) ∧ Below B w w' := by
  have lx0 := (Tx.b6_un6 hx0).1
  have lx1 := (Tx.b6_un6 hx1).1
  have lx2 := (Tx.b6_un6 hx2).1
  have lx3 := (Tx.b6_un6 hx3).1
  obtain ⟨M1, hM1⟩ : ∃ M : Nat, M = x0 * 262144 := ⟨_, rfl⟩
  have o0 : bits .or .u32 0 ((x0 : Int) * 262144) = (M1 : Int) := by
    have := u32_or_nat 0 (x0 * 262144) (by omega) (by omega); rw [hM1]; simpa using this
  obtain ⟨M2, hM2⟩ : ∃ M : Nat, M = x0 * 262144 + x1 * 4096 := ⟨_, rfl⟩
  have o1 : bits .or .u32 (M1 : Int) ((x1 : Int) * 4096) = (M2 : Int) := by
    have := Tx.or32r (x1 * 4096) (x0 * 1) 262144 18 rfl (by omega) (by omega)
    rw [show (x0 * 1) * 262144 = M1 by omega, show M1 + x1 * 4096 = M2 by omega] at this; simpa using this
  obtain ⟨M3, hM3⟩ : ∃ M : Nat, M = x0 * 262144 + x1 * 4096 + x2 * 64 := ⟨_, rfl⟩
  have o2 : bits .or .u32 (M2 : Int) ((x2 : Int) * 64) = (M3 : Int) := by
    have := Tx.or32r (x2 * 64) (x0 * 64 + x1 * 1) 4096 12 rfl (by omega) (by omega)
    rw [show (x0 * 64 + x1 * 1) * 4096 = M2 by omega, show M2 + x2 * 64 = M3 by omega] at this; simpa using this
  obtain ⟨M4, hM4⟩ : ∃ M : Nat, M = x0 * 262144 + x1 * 4096 + x2 * 64 + x3 * 1 := ⟨_, rfl⟩
  have o3 : bits .or .u32 (M3 : Int) ((x3 : Int)) = (M4 : Int) := by
    have := Tx.or32r (x3 * 1) (x0 * 4096 + x1 * 64 + x2 * 1) 64 6 rfl (by omega) (by omega)
    rw [show (x0 * 4096 + x1 * 64 + x2 * 1) * 64 = M3 by omega, show M3 + x3 * 1 = M4 by omega] at this; simpa using this
  have m1 : M1 < 16777216 := by omega
  have m2 : M2 < 16777216 := by omega
  have m3 : M3 < 16777216 := by omega
  have m4 : M4 < 16777216 := by omega
  have ba : bits .and .u32 (M4 : Int) 0 = 0 := by
    have := u32_and_nat M4 0 (by omega) (by omega); simpa using this
  obtain ⟨g0, hg0⟩ : ∃ g : UInt8, g = UInt8.ofNat (x0 * 4 + x1 / 16) := ⟨_, rfl⟩
  have w0 : IntKind.u8.wrap ((M4 : Int) / 65536) = (g0.toNat : Int) := by
    rw [hg0, Tx.of8 _ (by omega), IntKind.wrap_u8, hM4]; omega
  obtain ⟨g1, hg1⟩ : ∃ g : UInt8, g = UInt8.ofNat (x1 % 16 * 16 + x2 / 4) := ⟨_, rfl⟩
  have w1 : IntKind.u8.wrap ((M4 : Int) / 256) = (g1.toNat : Int) := by
    rw [hg1, Tx.of8 _ (by omega), IntKind.wrap_u8, hM4]; omega
  obtain ⟨g2, hg2⟩ : ∃ g : UInt8, g = UInt8.ofNat (x2 % 4 * 64 + x3) := ⟨_, rfl⟩
  have w2 : IntKind.u8.wrap ((M4 : Int)) = (g2.toNat : Int) := by
    rw [hg2, Tx.of8 _ (by omega), IntKind.wrap_u8, hM4]; omega
  rw [← hg0, ← hg1, ← hg2]
  have c0 := fun wx => Tx.call_some hx0 wx
  have c1 := fun wx => Tx.call_some hx1 wx
  have c2 := fun wx => Tx.call_some hx2 wx
  have c3 := fun wx => Tx.call_some hx3 wx
  clear hx0 hx1 hx2 hx3 hM1 hM2 hM3 hM4 hg0 hg1 hg2
  have i0 : ({ data := #[a0, a1, a2, a3] } : ByteArray)[0]'(by simp [ByteArray.size]) = a0 := rfl
  have i1 : ({ data := #[a0, a1, a2, a3] } : ByteArray)[1]'(by simp [ByteArray.size]) = a1 := rfl
  have i2 : ({ data := #[a0, a1, a2, a3] } : ByteArray)[2]'(by simp [ByteArray.size]) = a2 := rfl
  have i3 : ({ data := #[a0, a1, a2, a3] } : ByteArray)[3]'(by simp [ByteArray.size]) = a3 := rfl
  have hL : l.length + 3 ≤ 140737488355328 := by omega
  clear hl
  go_enter Tryd.func31, Tryd.ntmps31
  go_wp2
  refine wp_loop_rounds 5 ?_
  rw [rounds_succ]
  go_wp2_with fail
  refine (c0 _).mono ?_
  rintro e w' ⟨rfl, rfl⟩
  go_wp2_with fail
  rw [rounds_succ]
  go_wp2_with fail
  refine (c1 _).mono ?_
  rintro e w' ⟨rfl, rfl⟩
  go_wp2_with fail
  rw [rounds_succ]
  go_wp2_with fail
  refine (c2 _).mono ?_
  rintro e w' ⟨rfl, rfl⟩
  go_wp2_with fail
  rw [rounds_succ]
  go_wp2_with fail
  refine (c3 _).mono ?_
  rintro e w' ⟨rfl, rfl⟩
  go_wp2_with fail
  rw [rounds_succ]
  go_wp2_with fail
  refine wp_loop_rounds 4 ?_
  repeat any_goals (rw [rounds_succ]; go_wp2_with (at_builtin; refine Tx.append rfl _ _ rfl B _ _ rfl (Tx.Own.alloc (by assumption) _) ⟨_, 0, none⟩ 1 [_] rfl (World.news_of_block (heap_alloc_new _ _)) (by simp; omega) (by simp; omega) ?_; intro v1 w1 hown1 hb1 hz1))
  go_ret2
  exact ⟨_, rfl, by simpa using hown1, (((((((Below.refl B w).alloc hB _).trans (by assumption)).alloc (by assumption) _).trans (by assumption)).alloc (by assumption) _).trans (by assumption))⟩

end Go.Proofs.YtbemgeicpbcdhaaDoor
