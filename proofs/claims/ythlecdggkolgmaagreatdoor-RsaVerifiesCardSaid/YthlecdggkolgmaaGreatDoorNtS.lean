/- The step of the long division; values of moves; how many digits. -/
import Derived.Test.YthlecdggkolgmaaGreatDoorVal
import Derived.Test.YthlecdggkolgmaaGreatDoorNtQ
import Derived.Lib.BitFns
import Derived.Lib.ItoaNum
namespace Go.Proofs.YthlecdggkolgmaaGreatDoor
section

/-- What bytes say as a number. -/
def Nt.rd : List UInt8 → Nat
  | [] => 0
  | c :: l => c.toNat * 256 ^ l.length + Nt.rd l
theorem Nt.rd_append (a b : List UInt8) : Nt.rd (a ++ b) = Nt.rd a * 256 ^ b.length + Nt.rd b := by
  induction a with
  | nil => simp [Nt.rd]
  | cons c l ih => rw [List.cons_append,Nt.rd,Nt.rd,ih,List.length_append,Nat.pow_add,Nat.add_mul,Nat.mul_assoc,Nat.add_assoc]
theorem Nt.rd_zeros (n : Nat) : Nt.rd (List.replicate n 0) = 0 := by
  induction n with
  | zero => rfl
  | succ n ih => rw [List.replicate_succ,Nt.rd,ih]; simp
theorem Nt.rd_lt (l : List UInt8) : Nt.rd l < 256 ^ l.length := by
  induction l with
  | nil => simp [Nt.rd]
  | cons c l ih =>
    have h1 : c.toNat + 1 ≤ 256 := c.toNat_lt
    have h2 : (c.toNat + 1) * 256 ^ l.length ≤ 256 * 256 ^ l.length := Nat.mul_le_mul_right _ h1
    rw [Nat.add_mul,Nat.one_mul] at h2
    rw [Nt.rd,List.length_cons,Nat.pow_succ,Nat.mul_comm (256 ^ l.length)]
    omega
/-- Byte j from the end. -/
def Nt.lo (l : List UInt8) (j : Nat) : Nat := (l.getD (l.length - 1 - j) 0).toNat
theorem Nt.rd_val (l : List UInt8) : Vl.val 256 (Nt.lo l) l.length = Nt.rd l := by
  induction l with
  | nil => rfl
  | cons c l ih =>
    rw [List.length_cons,Vl.val,Nt.rd,← ih]
    have e1 : Vl.val 256 (Nt.lo (c :: l)) l.length = Vl.val 256 (Nt.lo l) l.length := Vl.val_congr _ _ _ _ (fun j hj => by
      unfold Nt.lo
      rw [List.length_cons,show l.length + 1 - 1 - j = (l.length - 1 - j) + 1 by omega,List.getD_cons_succ])
    have e2 : Nt.lo (c :: l) l.length = c.toNat := by
      unfold Nt.lo
      rw [List.length_cons,show l.length + 1 - 1 - l.length = 0 by omega]
      rfl
    rw [e1,e2]
    omega
/-- The lowest n bytes of x. -/
def Nt.fmN : Nat → Nat → List UInt8
  | 0,_ => []
  | n + 1,x => UInt8.ofNat (x / 256 ^ n % 256) :: Nt.fmN n x
theorem Nt.fmN_len (n x : Nat) : (Nt.fmN n x).length = n := by
  induction n with
  | zero => rfl
  | succ n ih => rw [Nt.fmN,List.length_cons,ih]
theorem Nt.rd_fmN (n x : Nat) : Nt.rd (Nt.fmN n x) = x % 256 ^ n := by
  induction n with
  | zero => simp [Nt.fmN,Nt.rd,Nat.mod_one]
  | succ n ih =>
    rw [Nt.fmN,Nt.rd,Nt.fmN_len,ih]
    have e : (UInt8.ofNat (x / 256 ^ n % 256)).toNat = x / 256 ^ n % 256 := by
      simp [UInt8.toNat_ofNat']
    rw [e,Nat.pow_succ,Nat.mod_mul,Nat.mul_comm]
    omega
theorem Nt.fmN_rd (l : List UInt8) : Nt.fmN l.length (Nt.rd l) = l := by
  have key : ∀ (l : List UInt8) (m : Nat),Nt.fmN l.length (m * 256 ^ l.length + Nt.rd l) = l := by
    intro l
    induction l with
    | nil => intro m; rfl
    | cons c l ih =>
      intro m
      rw [List.length_cons,Nt.fmN,Nt.rd]
      have hp : 0 < 256 ^ l.length := Nat.pow_pos (by decide)
      have e : m * 256 ^ (l.length + 1) + (c.toNat * 256 ^ l.length + Nt.rd l) = (m * 256 + c.toNat) * 256 ^ l.length + Nt.rd l := by
        rw [Nat.pow_succ,Nat.add_mul,Nat.mul_assoc m 256,Nat.mul_comm 256 (256 ^ l.length)]
        omega
      rw [e,ih (m * 256 + c.toNat)]
      have hd : ((m * 256 + c.toNat) * 256 ^ l.length + Nt.rd l) / 256 ^ l.length = m * 256 + c.toNat := by
        rw [Nat.mul_comm,Nat.mul_add_div hp,Nat.div_eq_of_lt (Nt.rd_lt l),Nat.add_zero]
      have hc := c.toNat_lt
      have hm : (m * 256 + c.toNat) % 256 = c.toNat := by omega
      rw [hd,hm,UInt8.ofNat_toNat]
  have := key l 0
  rwa [Nat.zero_mul,Nat.zero_add] at this
theorem Nt.fmN_get (n x i : Nat) (hi : i < n) : (Nt.fmN n x)[n - 1 - i]? = some (UInt8.ofNat (x / 256 ^ i % 256)) := by
  induction n with
  | zero => omega
  | succ n ih =>
    rw [Nt.fmN]
    by_cases h : i = n
    · subst h
      rw [show i + 1 - 1 - i = 0 by omega]
      rfl
    · rw [show n + 1 - 1 - i = (n - 1 - i) + 1 by omega,List.getElem?_cons_succ]
      exact ih (by omega)
/-- How many binary digits. -/
def Nt.dig (x : Nat) : Nat := if x = 0 then 0 else Nat.log2 x + 1
theorem Nt.dig_zero : Nt.dig 0 = 0 := rfl
theorem Nt.dig_spec (x k : Nat) (h1 : 2 ^ k ≤ x) (h2 : x < 2 ^ (k + 1)) : Nt.dig x = k + 1 := by
  have hx : x ≠ 0 := by have := Nat.pow_pos (n := k) (show 0 < 2 by decide); omega
  have e : Nat.log2 x = k := by
    have a1 := (Nat.le_log2 hx).2 h1
    have a2 := (Nat.log2_lt hx).2 h2
    omega
  unfold Nt.dig
  rw [if_neg hx,e]
theorem Nt.dig_lt (x : Nat) : x < 2 ^ Nt.dig x := by
  unfold Nt.dig
  split
  · omega
  · exact Nat.lt_log2_self
theorem Nt.dig_le (x : Nat) (hx : x ≠ 0) : 2 ^ (Nt.dig x - 1) ≤ x := by
  unfold Nt.dig
  rw [if_neg hx,Nat.add_sub_cancel]
  exact (Nat.le_log2 hx).1 (Nat.le_refl _)
theorem Nt.dig_of_lt (x m : Nat) (h : x < 2 ^ m) : Nt.dig x ≤ m := by
  unfold Nt.dig
  split
  · omega
  · rename_i hx
    have := (Nat.log2_lt hx).2 h
    omega
theorem Nt.dig_pos (x : Nat) (hx : x ≠ 0) : 0 < Nt.dig x := by unfold Nt.dig; rw [if_neg hx]; omega
/-- How many bytes. -/
def Nt.by (x : Nat) : Nat := (Nt.dig x + 7) / 8
theorem Nt.by_lt (x : Nat) : x < 256 ^ Nt.by x := by
  refine Nat.lt_of_lt_of_le (Nt.dig_lt x) ?_
  rw [show (256 : Nat) = 2 ^ 8 by rfl,← Nat.pow_mul]
  exact Nat.pow_le_pow_right (by decide) (by unfold Nt.by; omega)
theorem Nt.by_le (x m : Nat) (h : x < 256 ^ m) : Nt.by x ≤ m := by
  have : x < 2 ^ (8 * m) := by
    rw [show (256 : Nat) = 2 ^ 8 by rfl,← Nat.pow_mul] at h
    exact h
  have := Nt.dig_of_lt x (8 * m) this
  unfold Nt.by
  omega
/-- A number's form. -/
def Nt.fm (x : Nat) : List UInt8 := Nt.fmN (Nt.by x) x
theorem Nt.rd_fm (x : Nat) : Nt.rd (Nt.fm x) = x := by
  unfold Nt.fm
  rw [Nt.rd_fmN]
  exact Nat.mod_eq_of_lt (Nt.by_lt x)
theorem Nt.fm_len (x : Nat) : (Nt.fm x).length = Nt.by x := Nt.fmN_len _ _
/-- Bytes with no nought ahead are the form of what they say. -/
theorem Nt.fm_rd (l : List UInt8) (h : ∀ c,l.head? = some c → c ≠ 0) : Nt.fm (Nt.rd l) = l := by
  have e : Nt.by (Nt.rd l) = l.length := by
    refine Nat.le_antisymm (Nt.by_le _ _ (Nt.rd_lt l)) ?_
    cases l with
    | nil => exact Nat.zero_le _
    | cons c t =>
      have hc : c ≠ 0 := h c rfl
      have hc1 : 1 ≤ c.toNat := by
        rcases Nat.eq_zero_or_pos c.toNat with h0 | h0
        · exact absurd (UInt8.toNat_inj.1 (h0.trans (by rfl : (0 : Nat) = (0 : UInt8).toNat))) hc
        · exact h0
      have h1 : 256 ^ t.length ≤ Nt.rd (c :: t) := by
        rw [Nt.rd]
        have : 1 * 256 ^ t.length ≤ c.toNat * 256 ^ t.length := Nat.mul_le_mul_right _ hc1
        omega
      rcases Nat.lt_or_ge (Nt.by (Nt.rd (c :: t))) (c :: t).length with h2 | h2
      · exfalso
        have h3 := Nt.by_lt (Nt.rd (c :: t))
        have h4 : 256 ^ Nt.by (Nt.rd (c :: t)) ≤ 256 ^ t.length := Nat.pow_le_pow_right (by decide) (by simp at h2; omega)
        omega
      · exact h2
  unfold Nt.fm
  rw [e]
  exact Nt.fmN_rd l
/-- Noughts ahead change nothing. -/
theorem Nt.rd_zero_cons (l : List UInt8) : Nt.rd (0 :: l) = Nt.rd l := by rw [Nt.rd]; simp
end
section
open Go.RowKit

theorem Nt.split_part (fr : Nat → Nat) (a m n V : Nat) (hV : V < 4294967296 ^ m) (h2 : Vl.val 4294967296 fr (n + 1) < V * 4294967296 ^ (a + 1)) (hn : a + m ≤ n) :
    Vl.val 4294967296 (fun j => fr (a + (m + 1) + j)) (n - a - m) = 0 ∧ Vl.val 4294967296 fr (n + 1) = Vl.val 4294967296 fr a + Vl.val 4294967296 (fun j => fr (a + j)) (m + 1) * 4294967296 ^ a := by
  have e1 := Nt.val_split 4294967296 fr (a + (m + 1)) (n - a - m)
  have e2 := Nt.val_split 4294967296 fr a (m + 1)
  rw [show a + (m + 1) + (n - a - m) = n + 1 by omega] at e1
  obtain ⟨H,hH⟩ : ∃ H,Vl.val 4294967296 (fun j => fr (a + (m + 1) + j)) (n - a - m) = H := ⟨_,rfl⟩
  rw [hH] at e1 ⊢
  have h3 : V * 4294967296 ^ (a + 1) ≤ 4294967296 ^ (a + (m + 1)) := by
    rw [show a + (m + 1) = m + (a + 1) by omega,Nat.pow_add 4294967296 m]
    exact Nat.mul_le_mul_right _ (Nat.le_of_lt hV)
  have h0 : H = 0 := by
    rcases Nat.eq_zero_or_pos H with h | h
    · exact h
    · have : 4294967296 ^ (a + (m + 1)) ≤ H * 4294967296 ^ (a + (m + 1)) := Nat.le_mul_of_pos_left _ h
      omega
  refine ⟨h0,?_⟩
  rw [e1,h0,e2]
  omega
theorem Nt.split_lt (fr : Nat → Nat) (a m n V : Nat) (hV : V < 4294967296 ^ m) (h2 : Vl.val 4294967296 fr (n + 1) < V * 4294967296 ^ (a + 1)) (hn : a + m ≤ n) :
    Vl.val 4294967296 (fun j => fr (a + j)) (m + 1) < 4294967296 * V := by
  have h := (Nt.split_part fr a m n V hV h2 hn).2
  rw [h,Nat.pow_succ,Nat.mul_comm (4294967296 ^ a),← Nat.mul_assoc,Nat.mul_comm V] at h2
  exact Nat.lt_of_mul_lt_mul_right (Nat.lt_of_le_of_lt (Nat.le_add_left _ _) h2)
theorem Nt.split_step (fr fo : Nat → Nat) (hfr : ∀ j,fr j < 4294967296) (a m n X V q : Nat) (hV0 : 0 < V) (hV : V < 4294967296 ^ m) (h1 : X = Vl.val 4294967296 fr (n + 1) + V * q) (h2 : Vl.val 4294967296 fr (n + 1) < V * 4294967296 ^ (a + 1)) (hn : a + m ≤ n)
    (hfo : Vl.val 4294967296 fo m = Vl.val 4294967296 (fun j => fr (a + j)) (m + 1) % V) (hf0 : fo m = 0) :
    X = Vl.val 4294967296 (Nt.mid fr a (m + 1) fo) (n + 1) + V * (q + Vl.val 4294967296 (fun j => fr (a + j)) (m + 1) / V * 4294967296 ^ a) ∧ Vl.val 4294967296 (Nt.mid fr a (m + 1) fo) (n + 1) < V * 4294967296 ^ a := by
  have hp := Nt.split_part fr a m n V hV h2 hn
  obtain ⟨u,hu⟩ : ∃ u,Vl.val 4294967296 (fun j => fr (a + j)) (m + 1) = u := ⟨_,rfl⟩
  rw [hu] at hp hfo ⊢
  have e3 := Nt.val_split 4294967296 (Nt.mid fr a (m + 1) fo) (a + (m + 1)) (n - a - m)
  rw [show a + (m + 1) + (n - a - m) = n + 1 by omega,Nt.mid_val] at e3
  have e4 : Vl.val 4294967296 (fun j => Nt.mid fr a (m + 1) fo (a + (m + 1) + j)) (n - a - m) = 0 := by
    rw [← hp.1]
    exact Vl.val_congr _ _ _ _ (fun j _ => by unfold Nt.mid; rw [if_neg (by omega)])
  have e5 : Vl.val 4294967296 fo (m + 1) = u % V := by rw [Vl.val,hf0,Nat.zero_mul,Nat.add_zero,hfo]
  rw [e4,e5,Nat.zero_mul,Nat.add_zero] at e3
  have hl : Vl.val 4294967296 fr a < 4294967296 ^ a := Vl.val_lt _ (by decide) fr a (fun j _ => hfr j)
  rw [e3]
  obtain ⟨P,hP⟩ : ∃ P,4294967296 ^ a = P := ⟨_,rfl⟩
  obtain ⟨L,hL⟩ : ∃ L,Vl.val 4294967296 fr a = L := ⟨_,rfl⟩
  rw [hP,hL] at hl hp ⊢
  rw [hp.2] at h1
  have hd : V * (u / V) + u % V = u := Nat.div_add_mod u V
  have hm : u % V + 1 ≤ V := Nat.mod_lt u hV0
  constructor
  · rw [h1,Nat.mul_add]
    have e6 : u * P = V * (u / V * P) + u % V * P := by
      rw [← Nat.mul_assoc,← Nat.add_mul,hd]
    omega
  · have e7 : (u % V + 1) * P ≤ V * P := Nat.mul_le_mul_right _ hm
    rw [Nat.add_mul,Nat.one_mul] at e7
    omega
theorem Nt.up_value (f : Nat → Nat) (k n : Nat) (hk : k < 32) (hn : 0 < n) (hf : f (n - 1) < 2 ^ (32 - k)) : Vl.val 4294967296 (Nt.part f (Nt.up f k) n) n = Vl.val 4294967296 f n * 2 ^ k := by
  obtain ⟨m,rfl⟩ : ∃ m,n = m + 1 := ⟨n - 1,by omega⟩
  rw [Nat.add_sub_cancel] at hf
  have h := Nt.up_val f (Nt.up f k) k (by omega) (by unfold Nt.up Nt.over; rfl) (fun j => by unfold Nt.up Nt.over; rfl) m
  rw [Nat.div_eq_of_lt hf,Nat.zero_mul,Nat.add_zero] at h
  rw [← h]
  exact Vl.val_congr _ _ _ _ (fun j hj => by unfold Nt.part; rw [if_pos hj])
theorem Nt.shl_low (x k : Nat) (hk : k ≤ 32) : x * 2 ^ (32 - k) % 4294967296 = x % 2 ^ k * 2 ^ (32 - k) := by
  have e : (4294967296 : Nat) = 2 ^ k * 2 ^ (32 - k) := by rw [← Nat.pow_add,show k + (32 - k) = 32 by omega]
  rw [e,Nat.mul_mod_mul_right]
theorem Nt.down_value (f : Nat → Nat) (k n : Nat) (hk : k < 32) : Vl.val 4294967296 (Nt.from f (Nt.dn f n k) 0 n) n = Vl.val 4294967296 f n / 2 ^ k := by
  have h := Nt.down_div (Nt.wide f n) (fun j => Nt.wide f n j / 2 ^ k + Nt.wide f n (j + 1) % 2 ^ k * 2 ^ (32 - k)) k n (by omega) (fun _ => rfl) (by unfold Nt.wide; rw [if_neg (by omega)])
  rw [Nt.wide_val f n n (Nat.le_refl _)] at h
  rw [← h]
  refine Vl.val_congr _ _ _ _ (fun j hj => ?_)
  unfold Nt.from
  rw [if_pos ⟨by omega,hj⟩]
  unfold Nt.dn Nt.under Nt.wide
  rw [if_pos hj]
  by_cases h1 : j + 1 < n
  · rw [if_pos h1,if_pos h1,Nt.shl_low _ _ (by omega)]
  · rw [if_neg h1,if_neg h1,Nat.zero_mod,Nat.zero_mul]
theorem Nt.bitLen_dig (x : Nat) (hx : x < 2 ^ 64) : Lib.bitLen x = Nt.dig x := by
  by_cases h0 : x = 0
  · subst h0; rfl
  · have h := Lib.bitLenAux_bounds 64 x hx h0
    obtain ⟨k,hk⟩ : ∃ k,Lib.bitLenAux 64 x = k + 1 := ⟨Lib.bitLenAux 64 x - 1,by omega⟩
    rw [hk] at h
    unfold Lib.bitLen
    rw [hk]
    exact (Nt.dig_spec x k h.2.1 h.2.2).symm
/-- The digits of a number out of those of its highest limb. -/
theorem Nt.dig_top (f : Nat → Nat) (n : Nat) (hf : ∀ j,f j < 4294967296) (ht : f n ≠ 0) : Nt.dig (Vl.val 4294967296 f (n + 1)) = 32 * n + Nt.dig (f n) := by
  have h1 := Nt.dig_le (f n) ht
  have h2 := Nt.dig_lt (f n)
  have h3 := Nt.dig_pos (f n) ht
  obtain ⟨k,hk⟩ : ∃ k,Nt.dig (f n) = k + 1 := ⟨Nt.dig (f n) - 1,by omega⟩
  rw [hk,Nat.add_sub_cancel] at h1
  rw [hk] at h2 ⊢
  have hl : Vl.val 4294967296 f n < 4294967296 ^ n := Vl.val_lt _ (by decide) f n (fun j _ => hf j)
  have eP : (4294967296 : Nat) ^ n = 2 ^ (32 * n) := by rw [Nat.pow_mul]
  rw [eP] at hl
  rw [Vl.val,eP,show 32 * n + (k + 1) = (32 * n + k) + 1 by omega]
  refine Nt.dig_spec _ _ ?_ ?_
  · rw [Nat.pow_add,Nat.mul_comm]
    have := Nat.mul_le_mul_right (2 ^ (32 * n)) h1
    omega
  · rw [show 32 * n + k + 1 = (k + 1) + 32 * n by omega,Nat.pow_add 2 (k + 1)]
    have : (f n + 1) * 2 ^ (32 * n) ≤ 2 ^ (k + 1) * 2 ^ (32 * n) := Nat.mul_le_mul_right _ h2
    rw [Nat.add_mul,Nat.one_mul] at this
    omega
end
end Go.Proofs.YthlecdggkolgmaaGreatDoor
