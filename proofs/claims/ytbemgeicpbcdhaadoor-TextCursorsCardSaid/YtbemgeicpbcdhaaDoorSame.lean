/- Same: are two texts the same bytes. -/
import Derived.Test.YtbemgeicpbcdhaaDoorKit
import Derived.Laws.BitsAllLaws
namespace Go.Proofs.YtbemgeicpbcdhaaDoor
open Go.RowKit

theorem Tx.ofInt64 (a : Nat) (ha : a < 9223372036854775808) : (BitVec.ofInt 64 (a : Int)).toNat = a := ofInt_u64 a (by omega)
theorem Tx.i64_or (a b : Nat) (ha : a < 9223372036854775808) (hb : b < 9223372036854775808) : bits .or .i64 (a : Int) (b : Int) = ((a ||| b : Nat) : Int) ∧ a ||| b < 9223372036854775808 := by
  have hx : a ||| b < 2 ^ 63 := Nat.or_lt_two_pow (by omega) (by omega)
  refine ⟨?_, by omega⟩
  show IntKind.i64.wrap ((BitVec.ofInt 64 (a : Int) ||| BitVec.ofInt 64 (b : Int)).toNat : Int) = _
  rw [BitVec.toNat_or, Tx.ofInt64 a ha, Tx.ofInt64 b hb, IntKind.wrap_i64]
  omega
theorem Tx.i64_xor (a b : Nat) (ha : a < 9223372036854775808) (hb : b < 9223372036854775808) : bits .xor .i64 (a : Int) (b : Int) = ((a ^^^ b : Nat) : Int) ∧ a ^^^ b < 9223372036854775808 := by
  have hx : a ^^^ b < 2 ^ 63 := Nat.xor_lt_two_pow (by omega) (by omega)
  refine ⟨?_, by omega⟩
  show IntKind.i64.wrap ((BitVec.ofInt 64 (a : Int) ^^^ BitVec.ofInt 64 (b : Int)).toNat : Int) = _
  rw [BitVec.toNat_xor, Tx.ofInt64 a ha, Tx.ofInt64 b hb, IntKind.wrap_i64]
  omega
theorem Tx.u8_xor (a b : Nat) (ha : a < 256) (hb : b < 256) : bits .xor .u8 (a : Int) (b : Int) = ((a ^^^ b : Nat) : Int) ∧ a ^^^ b < 256 := by
  have hx : a ^^^ b < 2 ^ 8 := Nat.xor_lt_two_pow (by omega) (by omega)
  exact ⟨u8_xor_nat a b ha hb, by omega⟩

theorem Tx.xor_zero {a b : Nat} : a ^^^ b = 0 ↔ a = b := by
  constructor
  · intro h
    have := congrArg (· ^^^ b) h
    simpa [Nat.xor_assoc] using this
  · rintro rfl; exact Nat.xor_self a
/-- The byte at a place, 0 behind the end. -/
def Tx.at0 (s : ByteArray) (i : Nat) : Nat := (s.data.toList.getD i 0).toNat
theorem Tx.at0_lt (s : ByteArray) (i : Nat) : Tx.at0 s i < 256 := UInt8.toNat_lt _
theorem Tx.at0_in (s : ByteArray) (i : Nat) (h : i < s.size) : Tx.at0 s i = s[i].toNat := by
  unfold Tx.at0
  rw [List.getD_eq_getElem?_getD, List.getElem?_eq_getElem (by rw [Tx.len]; exact h)]; rfl
theorem Tx.at0_out (s : ByteArray) (i : Nat) (h : s.size ≤ i) : Tx.at0 s i = 0 := by
  unfold Tx.at0
  rw [List.getD_eq_getElem?_getD, List.getElem?_eq_none (by rw [Tx.len]; exact h)]; rfl
theorem Tx.same_iff (a b : ByteArray) : (a.size = b.size ∧ ∀ j, j < max a.size b.size → Tx.at0 a j = Tx.at0 b j) ↔ a = b := by
  constructor
  · rintro ⟨h1, h2⟩
    cases a with | mk x => cases b with | mk y =>
    simp only [ByteArray.mk.injEq]
    apply Array.ext h1
    intro i hi hj
    have hi' : i < (ByteArray.mk x).size := hi
    have := h2 i (by omega)
    rw [Tx.at0_in _ _ hi, Tx.at0_in _ _ hj] at this
    exact UInt8.toNat_inj.1 this
  · rintro rfl; exact ⟨rfl, fun _ _ => rfl⟩

theorem Tx.same_iff' (a b : ByteArray) (m : Nat) (hm : m = max a.size b.size) : (a.size = b.size ∧ ∀ j, j < m → Tx.at0 a j = Tx.at0 b j) ↔ a = b := by subst hm; exact Tx.same_iff a b

set_option maxHeartbeats 4000000 in
set_option maxRecDepth 100000 in
theorem Tx.byteOrNought_any (s : ByteArray) (i : Nat) (w : World) (_hs : s.size ≤ 9223372036854775807) :
    Calls Tryd.prog 28 #[.string s, .int .i64 (i : Int)] w fun e w' => e = .returned (.int .u8 (Tx.at0 s i : Int)) ∧ w = w' := by
  by_cases h : i < s.size
  · rw [Tx.at0_in s i h]
    have hz : (i : Int) < (s.size : Int) := by omega
    go_enter Tryd.func28, Tryd.ntmps28
    go_wp2
    go_ret
    exact ⟨rfl, rfl⟩
  · rw [Tx.at0_out s i (by omega)]
    have hz : ¬ (i : Int) < (s.size : Int) := by omega
    go_enter Tryd.func28, Tryd.ntmps28
    go_wp2
    go_ret
    exact ⟨rfl, rfl⟩

set_option maxHeartbeats 4000000 in
set_option maxRecDepth 100000 in
theorem Tx.Same_any (a b : ByteArray) (w : World) (ha : a.size ≤ 9223372036854775807) (hb : b.size ≤ 9223372036854775807) :
    Calls Tryd.prog 20 #[.string a, .string b] w fun e w' => e = .returned (.bool (decide (a = b))) ∧ w = w' := by
  obtain ⟨x1, x2⟩ := Tx.i64_xor a.size b.size (by omega) (by omega)
  obtain ⟨d0, hd0⟩ : ∃ d0, d0 = a.size ^^^ b.size := ⟨_, rfl⟩
  rw [← hd0] at x1 x2
  have z0 : d0 = 0 ↔ a.size = b.size := by rw [hd0]; exact Tx.xor_zero
  have Z0 := Lib.hid z0
  clear z0 hd0
  by_cases hab : a.size < b.size
  · have HM := Lib.hid (show b.size = max a.size b.size by omega)
    have hz : (a.size : Int) < (b.size : Int) := by omega
    go_enter Tryd.func20, Tryd.ntmps20
    go_wp2
    go_loop [5, 17] (fun dv iv => ∃ i d : Nat, i ≤ b.size ∧ d < 9223372036854775808 ∧ dv = .int .i64 d ∧ iv = .int .i64 i ∧ (d = 0 ↔ a.size = b.size ∧ ∀ j, j < i → Tx.at0 a j = Tx.at0 b j)) (fun _ iv => b.size - (intOf iv).toNat)
    case atStart => exact ⟨0, d0, by omega, x2, by simp, rfl, by simp [Z0.out]⟩
    case round =>
      obtain ⟨i, d, hi, hd, rfl, rfl, hiff⟩ := hrel
      have HI := Lib.hid hiff
      clear hiff
      by_cases hlt : i < b.size
      · have hlz : (i : Int) < (b.size : Int) := by omega
        have la := Tx.at0_lt a i
        have lb := Tx.at0_lt b i
        have ca := Tx.byteOrNought_any a i w ha
        have cb := Tx.byteOrNought_any b i w hb
        obtain ⟨p, hp⟩ : ∃ p, p = Tx.at0 a i := ⟨_, rfl⟩
        obtain ⟨q, hq⟩ : ∃ q, q = Tx.at0 b i := ⟨_, rfl⟩
        rw [← hp] at la ca
        rw [← hq] at lb cb
        obtain ⟨y1, y2⟩ := Tx.u8_xor p q la lb
        obtain ⟨x, hx⟩ : ∃ x, x = p ^^^ q := ⟨_, rfl⟩
        rw [← hx] at y1 y2
        obtain ⟨u1, u2⟩ := Tx.i64_or d x hd (by omega)
        obtain ⟨d', hd'⟩ : ∃ d', d' = d ||| x := ⟨_, rfl⟩
        rw [← hd'] at u1 u2
        have hnew : d' = 0 ↔ a.size = b.size ∧ ∀ j, j < i + 1 → Tx.at0 a j = Tx.at0 b j := by
          rw [hd', Nat.or_eq_zero_iff, HI.out, hx, Tx.xor_zero, hp, hq]
          constructor
          · rintro ⟨⟨h1, h2⟩, h3⟩
            exact ⟨h1, fun j hj => by rcases Nat.lt_succ_iff_lt_or_eq.1 hj with h | h; exact h2 j h; subst h; exact h3⟩
          · rintro ⟨h1, h2⟩
            exact ⟨⟨h1, fun j hj => h2 j (by omega)⟩, h2 i (by omega)⟩
        have HN := Lib.hid hnew
        clear hnew hd' hx hp hq la lb
        go_wp2_with fail
        refine ca.mono ?_
        rintro e w' ⟨rfl, rfl⟩
        go_wp2_with fail
        refine cb.mono ?_
        rintro e w' ⟨rfl, rfl⟩
        go_wp2_with fail
        exact ⟨⟨i + 1, d', by omega, u2, by first | rfl | go_num, by go_num, HN.out⟩, by simp [intOf]; omega⟩
      · obtain rfl : i = b.size := by omega
        have hfin : ((d : Int) == 0) = decide (a = b) := by
          have := HI.out
          rw [Tx.same_iff' a b _ HM.out] at this
          by_cases h : a = b
          · rw [decide_eq_true h, this.2 h]; rfl
          · exact (beq_eq_false_iff_ne.2 (by have hne : d ≠ 0 := fun e => h (this.1 e); omega)).trans (decide_eq_false h).symm
        go_wp2
        go_ret
        exact ⟨rfl, rfl⟩
  · have HM := Lib.hid (show a.size = max a.size b.size by omega)
    have hz : ¬ (a.size : Int) < (b.size : Int) := by omega
    go_enter Tryd.func20, Tryd.ntmps20
    go_wp2
    go_loop [5, 17] (fun dv iv => ∃ i d : Nat, i ≤ a.size ∧ d < 9223372036854775808 ∧ dv = .int .i64 d ∧ iv = .int .i64 i ∧ (d = 0 ↔ a.size = b.size ∧ ∀ j, j < i → Tx.at0 a j = Tx.at0 b j)) (fun _ iv => a.size - (intOf iv).toNat)
    case atStart => exact ⟨0, d0, by omega, x2, by simp, rfl, by simp [Z0.out]⟩
    case round =>
      obtain ⟨i, d, hi, hd, rfl, rfl, hiff⟩ := hrel
      have HI := Lib.hid hiff
      clear hiff
      by_cases hlt : i < a.size
      · have hlz : (i : Int) < (a.size : Int) := by omega
        have la := Tx.at0_lt a i
        have lb := Tx.at0_lt b i
        have ca := Tx.byteOrNought_any a i w ha
        have cb := Tx.byteOrNought_any b i w hb
        obtain ⟨p, hp⟩ : ∃ p, p = Tx.at0 a i := ⟨_, rfl⟩
        obtain ⟨q, hq⟩ : ∃ q, q = Tx.at0 b i := ⟨_, rfl⟩
        rw [← hp] at la ca
        rw [← hq] at lb cb
        obtain ⟨y1, y2⟩ := Tx.u8_xor p q la lb
        obtain ⟨x, hx⟩ : ∃ x, x = p ^^^ q := ⟨_, rfl⟩
        rw [← hx] at y1 y2
        obtain ⟨u1, u2⟩ := Tx.i64_or d x hd (by omega)
        obtain ⟨d', hd'⟩ : ∃ d', d' = d ||| x := ⟨_, rfl⟩
        rw [← hd'] at u1 u2
        have hnew : d' = 0 ↔ a.size = b.size ∧ ∀ j, j < i + 1 → Tx.at0 a j = Tx.at0 b j := by
          rw [hd', Nat.or_eq_zero_iff, HI.out, hx, Tx.xor_zero, hp, hq]
          constructor
          · rintro ⟨⟨h1, h2⟩, h3⟩
            exact ⟨h1, fun j hj => by rcases Nat.lt_succ_iff_lt_or_eq.1 hj with h | h; exact h2 j h; subst h; exact h3⟩
          · rintro ⟨h1, h2⟩
            exact ⟨⟨h1, fun j hj => h2 j (by omega)⟩, h2 i (by omega)⟩
        have HN := Lib.hid hnew
        clear hnew hd' hx hp hq la lb
        go_wp2_with fail
        refine ca.mono ?_
        rintro e w' ⟨rfl, rfl⟩
        go_wp2_with fail
        refine cb.mono ?_
        rintro e w' ⟨rfl, rfl⟩
        go_wp2_with fail
        exact ⟨⟨i + 1, d', by omega, u2, by first | rfl | go_num, by go_num, HN.out⟩, by simp [intOf]; omega⟩
      · obtain rfl : i = a.size := by omega
        have hfin : ((d : Int) == 0) = decide (a = b) := by
          have := HI.out
          rw [Tx.same_iff' a b _ HM.out] at this
          by_cases h : a = b
          · rw [decide_eq_true h, this.2 h]; rfl
          · exact (beq_eq_false_iff_ne.2 (by have hne : d ≠ 0 := fun e => h (this.1 e); omega)).trans (decide_eq_false h).symm
        go_wp2
        go_ret
        exact ⟨rfl, rfl⟩
end Go.Proofs.YtbemgeicpbcdhaaDoor
