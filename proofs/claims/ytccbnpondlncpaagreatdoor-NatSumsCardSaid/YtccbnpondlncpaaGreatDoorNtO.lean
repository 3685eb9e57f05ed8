/- Numbers as bytes, the highest first: what a text says, the form of a number, how many binary digits. -/
import Derived.Test.YtccbnpondlncpaaGreatDoorVal
namespace Go.Proofs.YtccbnpondlncpaaGreatDoor

/-- What bytes say as a number. -/
def Nt.rd : List UInt8 → Nat
  | [] => 0
  | c :: l => c.toNat * 256 ^ l.length + Nt.rd l
theorem Nt.rd_append (a b : List UInt8) : Nt.rd (a ++ b) = Nt.rd a * 256 ^ b.length + Nt.rd b := by
  induction a with
  | nil => simp [Nt.rd]
  | cons c l ih => rw [List.cons_append, Nt.rd, Nt.rd, ih, List.length_append, Nat.pow_add, Nat.add_mul, Nat.mul_assoc, Nat.add_assoc]
theorem Nt.rd_zeros (n : Nat) : Nt.rd (List.replicate n 0) = 0 := by
  induction n with
  | zero => rfl
  | succ n ih => rw [List.replicate_succ, Nt.rd, ih]; simp
theorem Nt.rd_lt (l : List UInt8) : Nt.rd l < 256 ^ l.length := by
  induction l with
  | nil => simp [Nt.rd]
  | cons c l ih =>
    have h1 : c.toNat + 1 ≤ 256 := c.toNat_lt
    have h2 : (c.toNat + 1) * 256 ^ l.length ≤ 256 * 256 ^ l.length := Nat.mul_le_mul_right _ h1
    rw [Nat.add_mul, Nat.one_mul] at h2
    rw [Nt.rd, List.length_cons, Nat.pow_succ, Nat.mul_comm (256 ^ l.length)]
    omega
/-- Byte j from the end. -/
def Nt.lo (l : List UInt8) (j : Nat) : Nat := (l.getD (l.length - 1 - j) 0).toNat
theorem Nt.rd_val (l : List UInt8) : Vl.val 256 (Nt.lo l) l.length = Nt.rd l := by
  induction l with
  | nil => rfl
  | cons c l ih =>
    rw [List.length_cons, Vl.val, Nt.rd, ← ih]
    have e1 : Vl.val 256 (Nt.lo (c :: l)) l.length = Vl.val 256 (Nt.lo l) l.length := Vl.val_congr _ _ _ _ (fun j hj => by
      unfold Nt.lo
      rw [List.length_cons, show l.length + 1 - 1 - j = (l.length - 1 - j) + 1 by omega, List.getD_cons_succ])
    have e2 : Nt.lo (c :: l) l.length = c.toNat := by
      unfold Nt.lo
      rw [List.length_cons, show l.length + 1 - 1 - l.length = 0 by omega]
      rfl
    rw [e1, e2]
    omega
/-- The lowest n bytes of x. -/
def Nt.fmN : Nat → Nat → List UInt8
  | 0, _ => []
  | n + 1, x => UInt8.ofNat (x / 256 ^ n % 256) :: Nt.fmN n x
theorem Nt.fmN_len (n x : Nat) : (Nt.fmN n x).length = n := by
  induction n with
  | zero => rfl
  | succ n ih => rw [Nt.fmN, List.length_cons, ih]
theorem Nt.rd_fmN (n x : Nat) : Nt.rd (Nt.fmN n x) = x % 256 ^ n := by
  induction n with
  | zero => simp [Nt.fmN, Nt.rd, Nat.mod_one]
  | succ n ih =>
    rw [Nt.fmN, Nt.rd, Nt.fmN_len, ih]
    have e : (UInt8.ofNat (x / 256 ^ n % 256)).toNat = x / 256 ^ n % 256 := by
      simp [UInt8.toNat_ofNat']
    rw [e, Nat.pow_succ, Nat.mod_mul, Nat.mul_comm]
    omega
theorem Nt.fmN_rd (l : List UInt8) : Nt.fmN l.length (Nt.rd l) = l := by
  have key : ∀ (l : List UInt8) (m : Nat), Nt.fmN l.length (m * 256 ^ l.length + Nt.rd l) = l := by
    intro l
    induction l with
    | nil => intro m; rfl
    | cons c l ih =>
      intro m
      rw [List.length_cons, Nt.fmN, Nt.rd]
      have hp : 0 < 256 ^ l.length := Nat.pow_pos (by decide)
      have e : m * 256 ^ (l.length + 1) + (c.toNat * 256 ^ l.length + Nt.rd l) = (m * 256 + c.toNat) * 256 ^ l.length + Nt.rd l := by
        rw [Nat.pow_succ, Nat.add_mul, Nat.mul_assoc m 256, Nat.mul_comm 256 (256 ^ l.length)]
        omega
      rw [e, ih (m * 256 + c.toNat)]
      have hd : ((m * 256 + c.toNat) * 256 ^ l.length + Nt.rd l) / 256 ^ l.length = m * 256 + c.toNat := by
        rw [Nat.mul_comm, Nat.mul_add_div hp, Nat.div_eq_of_lt (Nt.rd_lt l), Nat.add_zero]
      have hc := c.toNat_lt
      have hm : (m * 256 + c.toNat) % 256 = c.toNat := by omega
      rw [hd, hm, UInt8.ofNat_toNat]
  have := key l 0
  rwa [Nat.zero_mul, Nat.zero_add] at this
theorem Nt.fmN_get (n x i : Nat) (hi : i < n) : (Nt.fmN n x)[n - 1 - i]? = some (UInt8.ofNat (x / 256 ^ i % 256)) := by
  induction n with
  | zero => omega
  | succ n ih =>
    rw [Nt.fmN]
    by_cases h : i = n
    · subst h
      rw [show i + 1 - 1 - i = 0 by omega]
      rfl
    · rw [show n + 1 - 1 - i = (n - 1 - i) + 1 by omega, List.getElem?_cons_succ]
      exact ih (by omega)
/-- How many binary digits. -/
def Nt.dig (x : Nat) : Nat := if x = 0 then 0 else Nat.log2 x + 1
theorem Nt.dig_zero : Nt.dig 0 = 0 := rfl
theorem Nt.dig_spec (x k : Nat) (h1 : 2 ^ k ≤ x) (h2 : x < 2 ^ (k + 1)) : Nt.dig x = k + 1 := by
  have hx : x ≠ 0 := by have := Nat.pow_pos (n := k) (show 0 < 2 by decide); omega
  have e : Nat.log2 x = k := by
    have a1 := (Nat.le_log2 hx).2 h1
    have a2 := (Nat.log2_lt hx).2 h2
    omega
  unfold Nt.dig
  rw [if_neg hx, e]
theorem Nt.dig_lt (x : Nat) : x < 2 ^ Nt.dig x := by
  unfold Nt.dig
  split
  · omega
  · exact Nat.lt_log2_self
theorem Nt.dig_le (x : Nat) (hx : x ≠ 0) : 2 ^ (Nt.dig x - 1) ≤ x := by
  unfold Nt.dig
  rw [if_neg hx, Nat.add_sub_cancel]
  exact (Nat.le_log2 hx).1 (Nat.le_refl _)
theorem Nt.dig_of_lt (x m : Nat) (h : x < 2 ^ m) : Nt.dig x ≤ m := by
  unfold Nt.dig
  split
  · omega
  · rename_i hx
    have := (Nat.log2_lt hx).2 h
    omega
theorem Nt.dig_pos (x : Nat) (hx : x ≠ 0) : 0 < Nt.dig x := by unfold Nt.dig; rw [if_neg hx]; omega
/-- How many bytes. -/
def Nt.by (x : Nat) : Nat := (Nt.dig x + 7) / 8
theorem Nt.by_lt (x : Nat) : x < 256 ^ Nt.by x := by
  refine Nat.lt_of_lt_of_le (Nt.dig_lt x) ?_
  rw [show (256 : Nat) = 2 ^ 8 by rfl, ← Nat.pow_mul]
  exact Nat.pow_le_pow_right (by decide) (by unfold Nt.by; omega)
theorem Nt.by_le (x m : Nat) (h : x < 256 ^ m) : Nt.by x ≤ m := by
  have : x < 2 ^ (8 * m) := by
    rw [show (256 : Nat) = 2 ^ 8 by rfl, ← Nat.pow_mul] at h
    exact h
  have := Nt.dig_of_lt x (8 * m) this
  unfold Nt.by
  omega
/-- A number's form. -/
def Nt.fm (x : Nat) : List UInt8 := Nt.fmN (Nt.by x) x
theorem Nt.rd_fm (x : Nat) : Nt.rd (Nt.fm x) = x := by
  unfold Nt.fm
  rw [Nt.rd_fmN]
  exact Nat.mod_eq_of_lt (Nt.by_lt x)
theorem Nt.fm_inj {x y : Nat} (h : Nt.fm x = Nt.fm y) : x = y := by rw [← Nt.rd_fm x, h, Nt.rd_fm]
theorem Nt.fm_len (x : Nat) : (Nt.fm x).length = Nt.by x := Nt.fmN_len _ _
/-- Bytes with no nought ahead are the form of what they say. -/
theorem Nt.fm_rd (l : List UInt8) (h : ∀ c, l.head? = some c → c ≠ 0) : Nt.fm (Nt.rd l) = l := by
  have e : Nt.by (Nt.rd l) = l.length := by
    refine Nat.le_antisymm (Nt.by_le _ _ (Nt.rd_lt l)) ?_
    cases l with
    | nil => exact Nat.zero_le _
    | cons c t =>
      have hc : c ≠ 0 := h c rfl
      have hc1 : 1 ≤ c.toNat := by
        rcases Nat.eq_zero_or_pos c.toNat with h0 | h0
        · exact absurd (UInt8.toNat_inj.1 (h0.trans (by rfl : (0 : Nat) = (0 : UInt8).toNat))) hc
        · exact h0
      have h1 : 256 ^ t.length ≤ Nt.rd (c :: t) := by
        rw [Nt.rd]
        have : 1 * 256 ^ t.length ≤ c.toNat * 256 ^ t.length := Nat.mul_le_mul_right _ hc1
        omega
      rcases Nat.lt_or_ge (Nt.by (Nt.rd (c :: t))) (c :: t).length with h2 | h2
      · exfalso
        have h3 := Nt.by_lt (Nt.rd (c :: t))
        have h4 : 256 ^ Nt.by (Nt.rd (c :: t)) ≤ 256 ^ t.length := Nat.pow_le_pow_right (by decide) (by simp at h2; omega)
        omega
      · exact h2
  unfold Nt.fm
  rw [e]
  exact Nt.fmN_rd l
theorem Nt.fm_zero : Nt.fm 0 = [] := rfl
/-- Noughts ahead change nothing. -/
theorem Nt.rd_zero_cons (l : List UInt8) : Nt.rd (0 :: l) = Nt.rd l := by rw [Nt.rd]; simp
end Go.Proofs.YtccbnpondlncpaaGreatDoor
