/- Limbs in memory; addTimes. -/
import Derived.Test.YthlecdggkolgmaaGreatDoorVal
import Derived.WalkKit
import Derived.ProofKit
import Derived.Below
import Derived.Handy
import Derived.Lib.Hide
import Derived.WalkLawsBesides
import Derived.WalkSpells
import Derived.WalkSmall
import Derived.Deep.QuietTactic
import Derived.BigQuiet
import Derived.IntWalk
namespace Go.Proofs.YthlecdggkolgmaaGreatDoor
section
section

theorem Nt.val_split (B : Nat) (f : Nat → Nat) (m : Nat) : ∀ n,Vl.val B f (m + n) = Vl.val B f m + Vl.val B (fun j => f (m + j)) n * B ^ m
  | 0 => by simp [Vl.val]
  | n + 1 => by
    rw [← Nat.add_assoc,Vl.val,Vl.val,Nt.val_split B f m n,Nat.add_mul,Nat.add_assoc,Nat.mul_assoc,← Nat.pow_add,Nat.add_comm n m]
/-- addTimes: one limb. -/
theorem Nt.add_step (B : Nat) (f : Nat → Nat) (n i c y t vy V : Nat) (hi : i < n) (h : Vl.val B f n + c * B ^ i = V + t * vy) :
    Vl.val B (Vl.upd f i ((y * t + f i + c) % B)) n + (y * t + f i + c) / B * B ^ (i + 1) = V + t * (vy + y * B ^ i) := by
  have h2 := Vl.mul_step B f n 0 i c t y vy V (by omega) (by simpa using h)
  simp only [Nat.zero_add,Nat.pow_zero,Nat.mul_one] at h2
  have e : c + (f i + t * y) = y * t + f i + c := by rw [Nat.mul_comm t y]; omega
  rw [e] at h2
  exact h2
theorem Nt.add_carry (B y t x c : Nat) (hy : y < B) (ht : t < B) (hx : x < B) (hc : c < B) : y * t + x + c < B * B ∧ (y * t + x + c) / B < B := by
  have h1 : y * t ≤ (B - 1) * (B - 1) := Nat.mul_le_mul (by omega) (by omega)
  have h2 : (B - 1) * (B - 1) + 2 * (B - 1) + 1 = B * B := by
    obtain ⟨b,rfl⟩ : ∃ b,B = b + 1 := ⟨B - 1,by omega⟩
    simp only [Nat.add_sub_cancel,Nat.add_mul,Nat.mul_add]
    omega
  have h3 : y * t + x + c < B * B := by omega
  exact ⟨h3,Nat.div_lt_of_lt_mul h3⟩
/-- takeTimes: one limb. -/
def Nt.low (B x lo : Nat) : Nat := if x < lo then x + B - lo else x - lo
def Nt.bor (B x t : Nat) : Nat := t / B + if x < t % B then 1 else 0
theorem Nt.low_lt (B x lo : Nat) (hx : x < B) (hlo : lo < B) : Nt.low B x lo < B := by
  unfold Nt.low
  split <;> omega
theorem Nt.take_step (B : Nat) (hB : 0 < B) (f : Nat → Nat) (n i b y t vy V : Nat) (hi : i < n) (h : Vl.val B f n + t * vy = V + b * B ^ i) :
    Vl.val B (Vl.upd f i (Nt.low B (f i) ((y * t + b) % B))) n + t * (vy + y * B ^ i) = V + Nt.bor B (f i) (y * t + b) * B ^ (i + 1) := by
  have hu := Vl.val_upd B f i (Nt.low B (f i) ((y * t + b) % B)) n hi
  obtain ⟨s,hs⟩ : ∃ s,y * t + b = s := ⟨_,rfl⟩
  rw [hs] at hu ⊢
  obtain ⟨P,hP⟩ : ∃ P,B ^ i = P := ⟨_,rfl⟩
  have hlo := Nat.mod_lt s hB
  have hdm := Nat.div_add_mod s B
  have e1 : t * (vy + y * P) = t * vy + y * t * P := by rw [Nat.mul_add,← Nat.mul_assoc,Nat.mul_comm t y]
  have e2 : s * P = y * t * P + b * P := by rw [← hs,Nat.add_mul]
  have e3 : Nt.low B (f i) (s % B) + s = f i + Nt.bor B (f i) s * B := by
    unfold Nt.low Nt.bor
    rw [Nat.add_mul,Nat.mul_comm (s / B) B]
    split <;> omega
  have e4 : Nt.low B (f i) (s % B) * P + s * P = f i * P + Nt.bor B (f i) s * B * P := by rw [← Nat.add_mul,e3,Nat.add_mul]
  rw [Nat.pow_succ,hP,e1,Nat.mul_comm P B,← Nat.mul_assoc]
  rw [hP] at hu h
  omega
theorem Nt.bor_lt (B x y t b : Nat) (hy : y < B) (ht : t < B) (hb : b < B) : y * t + b < B * B ∧ Nt.bor B x (y * t + b) < B := by
  have h1 : y * t ≤ (B - 1) * (B - 1) := Nat.mul_le_mul (by omega) (by omega)
  have h2 : (B - 1) * (B - 1) + (B - 1) = (B - 1) * B := by
    obtain ⟨c,rfl⟩ : ∃ c,B = c + 1 := ⟨B - 1,by omega⟩
    simp only [Nat.add_sub_cancel,Nat.mul_add,Nat.mul_one]
  have h3 : y * t + b ≤ (B - 1) * B := by omega
  have h4 : (B - 1) * B < B * B := Nat.mul_lt_mul_of_pos_right (by omega) (by omega)
  refine ⟨by omega,?_⟩
  unfold Nt.bor
  have h5 : (y * t + b) / B ≤ B - 1 := Nat.div_le_of_le_mul (by rw [Nat.mul_comm B]; exact h3)
  by_cases h6 : (y * t + b) / B = B - 1
  · have h7 := Nat.div_add_mod (y * t + b) B
    rw [h6,Nat.mul_comm] at h7
    have h8 : (y * t + b) % B = 0 := by omega
    rw [h8,if_neg (by omega)]
    omega
  · split <;> omega
/-- One limb is moved up: what goes over, what stays. -/
theorem Nt.up_limb (x k : Nat) (hk : k ≤ 32) : x * 2 ^ k = x / 2 ^ (32 - k) * 4294967296 + x * 2 ^ k % 4294967296 := by
  have h1 := Nat.div_add_mod (x * 2 ^ k) 4294967296
  have h2 : x * 2 ^ k / 4294967296 = x / 2 ^ (32 - k) := by
    rw [show (4294967296 : Nat) = 2 ^ (32 - k) * 2 ^ k by rw [← Nat.pow_add,show 32 - k + k = 32 by omega]]
    exact Nat.mul_div_mul_right _ _ (Nat.two_pow_pos k)
  rw [h2] at h1
  omega
/-- moveUp: the limbs below n. -/
theorem Nt.up_val (f g : Nat → Nat) (k : Nat) (hk : k ≤ 32) (h0 : g 0 = f 0 * 2 ^ k % 4294967296) (hs : ∀ j,g (j + 1) = f (j + 1) * 2 ^ k % 4294967296 + f j / 2 ^ (32 - k)) :
    ∀ n,Vl.val 4294967296 g (n + 1) + f n / 2 ^ (32 - k) * 4294967296 ^ (n + 1) = Vl.val 4294967296 f (n + 1) * 2 ^ k
  | 0 => by
    have := Nt.up_limb (f 0) k hk
    simp only [Vl.val,Nat.pow_zero,Nat.mul_one,Nat.zero_add,Nat.pow_one,h0]
    omega
  | n + 1 => by
    have ih := Nt.up_val f g k hk h0 hs n
    have hl := Nt.up_limb (f (n + 1)) k hk
    have ef : Vl.val 4294967296 f (n + 1 + 1) = Vl.val 4294967296 f (n + 1) + f (n + 1) * 4294967296 ^ (n + 1) := rfl
    have eg : Vl.val 4294967296 g (n + 1 + 1) = Vl.val 4294967296 g (n + 1) + g (n + 1) * 4294967296 ^ (n + 1) := rfl
    rw [ef,eg]
    obtain ⟨P,hP⟩ : ∃ P,4294967296 ^ (n + 1) = P := ⟨_,rfl⟩
    rw [Nat.pow_succ 4294967296 (n + 1),hP,hs n]
    rw [hP] at ih
    obtain ⟨a,ha⟩ : ∃ a,f (n + 1) * 2 ^ k % 4294967296 = a := ⟨_,rfl⟩
    obtain ⟨b,hb⟩ : ∃ b,f n / 2 ^ (32 - k) = b := ⟨_,rfl⟩
    obtain ⟨c,hc⟩ : ∃ c,f (n + 1) / 2 ^ (32 - k) = c := ⟨_,rfl⟩
    rw [ha,hc] at hl
    rw [ha,hb,hc]
    rw [hb] at ih
    have e1 : (Vl.val 4294967296 f (n + 1) + f (n + 1) * P) * 2 ^ k = Vl.val 4294967296 f (n + 1) * 2 ^ k + f (n + 1) * 2 ^ k * P := by rw [Nat.add_mul,Nat.mul_right_comm]
    rw [e1,hl,← ih,Nat.add_mul,Nat.add_mul,Nat.mul_comm P 4294967296,← Nat.mul_assoc]
    omega
theorem Nt.down_limb (x k : Nat) (hk : k ≤ 32) : x % 2 ^ k * 2 ^ (32 - k) * 2 ^ k = x % 2 ^ k * 4294967296 := by
  rw [Nat.mul_assoc,← Nat.pow_add,show 32 - k + k = 32 by omega]
/-- moveDown: what the limbs make, and what is lost below. -/
theorem Nt.down_val (f g : Nat → Nat) (k : Nat) (hk : k ≤ 32) (hg : ∀ j,g j = f j / 2 ^ k + f (j + 1) % 2 ^ k * 2 ^ (32 - k)) :
    ∀ n,Vl.val 4294967296 g n * 2 ^ k + f 0 % 2 ^ k = Vl.val 4294967296 f n + f n % 2 ^ k * 4294967296 ^ n
  | 0 => by simp [Vl.val]
  | n + 1 => by
    have ih := Nt.down_val f g k hk hg n
    have hd := Nat.div_add_mod (f n) (2 ^ k)
    have hl := Nt.down_limb (f (n + 1)) k hk
    have ef : Vl.val 4294967296 f (n + 1) = Vl.val 4294967296 f n + f n * 4294967296 ^ n := rfl
    have eg : Vl.val 4294967296 g (n + 1) = Vl.val 4294967296 g n + g n * 4294967296 ^ n := rfl
    rw [ef,eg,hg n,Nat.pow_succ]
    obtain ⟨P,hP⟩ : ∃ P,4294967296 ^ n = P := ⟨_,rfl⟩
    rw [hP] at ih ⊢
    obtain ⟨D,hD⟩ : ∃ D,2 ^ k = D := ⟨_,rfl⟩
    obtain ⟨R,hR⟩ : ∃ R,2 ^ (32 - k) = R := ⟨_,rfl⟩
    rw [hD] at hd hl ih ⊢
    rw [hR] at hl ⊢
    obtain ⟨a,ha⟩ : ∃ a,f n / D = a := ⟨_,rfl⟩
    obtain ⟨b,hb⟩ : ∃ b,f n % D = b := ⟨_,rfl⟩
    obtain ⟨c,hc⟩ : ∃ c,f (n + 1) % D = c := ⟨_,rfl⟩
    rw [ha,hb] at hd
    rw [hb] at ih
    rw [hc] at hl
    rw [ha,hc,← hd]
    have e1 : (Vl.val 4294967296 g n + (a + c * R) * P) * D = Vl.val 4294967296 g n * D + a * P * D + c * R * D * P := by
      rw [Nat.add_mul,Nat.add_mul,Nat.add_mul,Nat.add_assoc,Nat.mul_right_comm (c * R) P D]
    have e2 : (D * a + b) * P = a * P * D + b * P := by rw [Nat.add_mul,Nat.mul_comm D a,Nat.mul_right_comm]
    rw [e1,hl,e2,Nat.mul_comm P 4294967296,← Nat.mul_assoc]
    omega
theorem Nt.down_div (f g : Nat → Nat) (k n : Nat) (hk : k ≤ 32) (hg : ∀ j,g j = f j / 2 ^ k + f (j + 1) % 2 ^ k * 2 ^ (32 - k)) (hz : f n = 0) : Vl.val 4294967296 g n = Vl.val 4294967296 f n / 2 ^ k := by
  have h := Nt.down_val f g k hk hg n
  rw [hz,Nat.zero_mod,Nat.zero_mul,Nat.add_zero,Nat.mul_comm] at h
  rw [← h,Nat.mul_add_div (Nat.two_pow_pos k),Nat.div_eq_of_lt (Nat.mod_lt _ (Nat.two_pow_pos k))]
  rfl
/-- The first limb from above that differs says which number is below. -/
theorem Nt.lt_of_limb (B : Nat) (hB : 0 < B) (f g : Nat → Nat) (hf : ∀ j,f j < B) (i n : Nat) (hi : i < n) (h : f i < g i) (he : ∀ j,i < j → j < n → f j = g j) : Vl.val B f n < Vl.val B g n := by
  induction n with
  | zero => omega
  | succ n ih =>
    rw [Vl.val,Vl.val]
    by_cases hn : i = n
    · subst hn
      have h1 := Vl.val_lt B hB f i (fun j _ => hf j)
      have h2 : (f i + 1) * B ^ i ≤ g i * B ^ i := Nat.mul_le_mul_right _ h
      rw [Nat.add_mul,Nat.one_mul] at h2
      omega
    · have h1 := ih (by omega) (fun j hj1 hj2 => he j hj1 (by omega))
      rw [he n (by omega) (by omega)]
      omega
theorem Nt.lt_of_len (B : Nat) (hB : 0 < B) (f g : Nat → Nat) (hf : ∀ j,f j < B) (n m : Nat) (hnm : n < m) (hg : g (m - 1) ≠ 0) : Vl.val B f n < Vl.val B g m := by
  have h1 := Vl.val_lt B hB f n (fun j _ => hf j)
  obtain ⟨k,rfl⟩ : ∃ k,m = k + 1 := ⟨m - 1,by omega⟩
  have h2 : 1 * B ^ k ≤ g k * B ^ k := Nat.mul_le_mul_right _ (by have : g (k + 1 - 1) = g k := rfl; omega)
  have h3 : B ^ n ≤ B ^ k := Nat.pow_le_pow_right hB (by omega)
  rw [Vl.val]
  omega
end
section

/-- How the guess goes down. -/
structure Nt.Guess (B high first times left : Nat) : Prop where
  eq : times * first + left = high
theorem Nt.Guess.start (B high first : Nat) : Nt.Guess B high first (high / first) (high % first) := ⟨by rw [Nat.mul_comm]; exact Nat.div_add_mod high first⟩
theorem Nt.Guess.next {B high first times left : Nat} (h : Nt.Guess B high first (times + 1) left) : Nt.Guess B high first times (left + first) := ⟨by have := h.eq; rw [Nat.add_mul,Nat.one_mul] at this; omega⟩
/-- The numbers that the guess stands for: u below B v, of v the highest limbs are first and second, of u high and third; the rest lies below E. -/
structure Nt.Lead (B u v high third first second E : Nat) : Prop where
  u1 : (high * B + third) * E ≤ u
  u2 : u < (high * B + third + 1) * E
  v1 : (first * B + second) * E ≤ v
  v2 : v < (first * B + second + 1) * E
  sec : second < B
  thi : third < B
  lt : u < B * v
theorem Nt.Lead.first_pos {B u v high third first second E : Nat} (h : Nt.Lead B u v high third first second E) : 0 < v := by
  rcases Nat.eq_zero_or_pos v with hv | hv
  · have := h.lt; rw [hv,Nat.mul_zero] at this; omega
  · exact hv
/-- The quotient has one digit. -/
theorem Nt.Lead.digit {B u v high third first second E : Nat} (h : Nt.Lead B u v high third first second E) : u / v < B := Nat.div_lt_of_lt_mul (by rw [Nat.mul_comm]; exact h.lt)
/-- At the start the guess is not too small. -/
theorem Nt.Lead.start {B u v high third first second E : Nat} (h : Nt.Lead B u v high third first second E) (hf : 0 < first) : u / v ≤ high / first := by
  rw [Nat.le_div_iff_mul_le hf]
  refine Nat.le_of_lt_succ ?_
  have h0 := Nat.div_mul_le_self u v
  have h1 : u / v * first * B * E ≤ u / v * v := by
    have : u / v * (first * B * E) ≤ u / v * v := Nat.mul_le_mul_left _ (Nat.le_trans (Nat.mul_le_mul_right E (Nat.le_add_right (first * B) second)) h.v1)
    rwa [← Nat.mul_assoc,← Nat.mul_assoc] at this
  have h2 : u < (high + 1) * B * E := by
    refine Nat.lt_of_lt_of_le h.u2 (Nat.mul_le_mul_right _ ?_)
    rw [Nat.add_mul,Nat.one_mul]
    have := h.thi
    omega
  have h3 : u / v * first * B * E < (high + 1) * B * E := by omega
  have h4 := Nat.lt_of_mul_lt_mul_right h3
  exact Nat.lt_of_mul_lt_mul_right h4
/-- Where the guess is too great, it may go down. -/
theorem Nt.Lead.down {B u v high third first second E times left : Nat} (h : Nt.Lead B u v high third first second E) (hg : Nt.Guess B high first (times + 1) left) (hgt : left * B + third < (times + 1) * second) : u / v ≤ times := by
  refine Nat.le_of_lt_succ ?_
  rw [Nat.div_lt_iff_lt_mul h.first_pos]
  show u < (times + 1) * v
  have h1 : (high * B + third + 1) ≤ (times + 1) * (first * B + second) := by
    have e1 : (times + 1) * (first * B + second) = (times + 1) * first * B + (times + 1) * second := by rw [Nat.mul_add,Nat.mul_assoc]
    have e2 : high * B = (times + 1) * first * B + left * B := by rw [← hg.eq,Nat.add_mul]
    omega
  have h2 : (high * B + third + 1) * E ≤ (times + 1) * (first * B + second) * E := Nat.mul_le_mul_right _ h1
  have h3 : (times + 1) * (first * B + second) * E ≤ (times + 1) * v := by rw [Nat.mul_assoc]; exact Nat.mul_le_mul_left _ h.v1
  have := h.u2
  omega
/-- Where it stops, it is right or too great by one. -/
theorem Nt.Lead.stop {B u v high third first second E times left : Nat} (h : Nt.Lead B u v high third first second E) (hf : 0 < first) (hg : Nt.Guess B high first times left) (ht : times < B) (hs : B ≤ left ∨ times * second ≤ left * B + third) : times ≤ u / v + 1 := by
  have hv := h.first_pos
  have hBE : B * E ≤ v := by
    refine Nat.le_trans ?_ h.v1
    refine Nat.mul_le_mul_right _ ?_
    have : 1 * B ≤ first * B := Nat.mul_le_mul_right _ hf
    omega
  have key : times * v < u + v + 1 := by
    rcases hs with hs | hs
    · have h1 : times * (first + 1) * B ≤ high * B := by
        refine Nat.mul_le_mul_right _ ?_
        have := hg.eq
        rw [Nat.mul_add,Nat.mul_one]
        omega
      have h2 : v ≤ (first + 1) * B * E := by
        refine Nat.le_trans (Nat.le_of_lt h.v2) (Nat.mul_le_mul_right _ ?_)
        rw [Nat.add_mul,Nat.one_mul]
        have := h.sec
        omega
      have h3 : times * v ≤ times * ((first + 1) * B * E) := Nat.mul_le_mul_left _ h2
      have h4 : times * ((first + 1) * B * E) = times * (first + 1) * B * E := by rw [← Nat.mul_assoc,← Nat.mul_assoc]
      have h5 : times * (first + 1) * B * E ≤ high * B * E := Nat.mul_le_mul_right _ h1
      have h6 : high * B * E ≤ (high * B + third) * E := Nat.mul_le_mul_right _ (Nat.le_add_right _ _)
      have := h.u1
      omega
    · have h1 : times * (first * B + second) ≤ high * B + third := by
        have e1 : times * (first * B + second) = times * first * B + times * second := by rw [Nat.mul_add,Nat.mul_assoc]
        have e2 : high * B = times * first * B + left * B := by rw [← hg.eq,Nat.add_mul]
        omega
      have h2 : times * v ≤ times * ((first * B + second + 1) * E) := Nat.mul_le_mul_left _ (Nat.le_of_lt h.v2)
      have h3 : times * ((first * B + second + 1) * E) = times * (first * B + second) * E + times * E := by
        rw [← Nat.mul_assoc,Nat.mul_add times (first * B + second) 1,Nat.mul_one,Nat.add_mul]
      have h4 : times * (first * B + second) * E ≤ (high * B + third) * E := Nat.mul_le_mul_right _ h1
      have h5 : times * E ≤ B * E := Nat.mul_le_mul_right _ (Nat.le_of_lt ht)
      have := h.u1
      omega
  by_cases h0 : times = 0
  · rw [h0]; exact Nat.zero_le _
  · obtain ⟨t,rfl⟩ : ∃ t,times = t + 1 := ⟨times - 1,by omega⟩
    rw [Nat.add_mul,Nat.one_mul] at key
    have : t * v < u + 1 := by omega
    have : t ≤ u / v := by rw [Nat.le_div_iff_mul_le hv]; omega
    exact Nat.succ_le_succ this
/-- Behind takeTimes, and addTimes where a limb is missing: the digit, and what is left. -/
theorem Nt.digit_fits (P U v top times r m : Nat) (hv : v < P + 1) (hv0 : 0 < v) (hq1 : (U + top * P) / v ≤ times) (hm : r + times * v = U + m * P) (hmt : m ≤ top) : times = (U + top * P) / v ∧ r = (U + top * P) % v ∧ top = m := by
  obtain ⟨u,hu⟩ : ∃ u,U + top * P = u := ⟨_,rfl⟩
  rw [hu] at hq1 ⊢
  have hdm := Nat.div_add_mod u v
  have hml := Nat.mod_lt u hv0
  obtain ⟨d,hd⟩ : ∃ d,top = m + d := ⟨top - m,by omega⟩
  have e1 : u = r + times * v + d * P := by rw [← hu,hd,Nat.add_mul]; omega
  have ht : times = u / v := by
    refine Nat.le_antisymm ?_ hq1
    rw [Nat.le_div_iff_mul_le hv0]
    omega
  rw [ht,Nat.mul_comm] at e1
  have hd0 : d = 0 := by
    rcases Nat.eq_zero_or_pos d with h | h
    · exact h
    · have : 1 * P ≤ d * P := Nat.mul_le_mul_right _ h
      omega
  subst hd0
  refine ⟨ht,by omega,by omega⟩
theorem Nt.digit_over (P U v top times r r2 c m : Nat) (hv : v < P + 1) (hv0 : 0 < v) (hr2 : r2 < P) (hq1 : (U + top * P) / v ≤ times) (hq2 : times ≤ (U + top * P) / v + 1) (hm : r + times * v = U + m * P) (hr : r < P) (hmt : top < m) (ha : r2 + c * P = r + v) : times = (U + top * P) / v + 1 ∧ r2 = (U + top * P) % v ∧ top + c = m := by
  obtain ⟨u,hu⟩ : ∃ u,U + top * P = u := ⟨_,rfl⟩
  rw [hu] at hq1 hq2 ⊢
  have hdm := Nat.div_add_mod u v
  have hml := Nat.mod_lt u hv0
  obtain ⟨d,hd⟩ : ∃ d,m = top + 1 + d := ⟨m - top - 1,by omega⟩
  have e0 : m * P = top * P + P + d * P := by rw [hd,Nat.add_mul,Nat.add_mul,Nat.one_mul]
  have e1 : r + times * v = u + P + d * P := by omega
  have ht : times = u / v + 1 := by
    refine Nat.le_antisymm hq2 ?_
    refine Nat.lt_of_le_of_ne hq1 fun he => ?_
    rw [← he,Nat.mul_comm] at e1
    omega
  rw [ht,Nat.add_mul,Nat.one_mul,Nat.mul_comm (u / v) v] at e1
  have e2 : r2 + c * P = u % v + P + d * P := by omega
  have h1 : u % v < P := by omega
  have hc : c = d + 1 := by
    have e3 : r2 + c * P = u % v + (d + 1) * P := by rw [Nat.add_mul,Nat.one_mul]; omega
    have := congrArg (· / P) e3
    simp only [Nat.add_mul_div_right _ _ (Nat.lt_of_le_of_lt (Nat.zero_le _) h1),Nat.div_eq_of_lt hr2,Nat.div_eq_of_lt h1] at this
    omega
  subst hc
  rw [Nat.add_mul,Nat.one_mul] at e2
  refine ⟨ht,by omega,by omega⟩
end
end
section
open Go.RowKit

/-- n limbs in block b from off on, told by a function; they may be written. -/
structure Nt.Lim (w : World) (b off n : Nat) (f : Nat → Nat) : Prop where
  cell : ∀ j,j < n → w.cell? ⟨b,off + j,none⟩ = some (.int .u32 (f j : Int))
  fro : ∀ j,j < n → w.frozen? ⟨b,off + j,none⟩ = false
  dig : ∀ j,f j < 4294967296
  lt : b < w.heap.size
/-- Nothing but cells off .. off + n - 1 of block b, and what is new, has changed. -/
structure Nt.Only (b off n : Nat) (w w' : World) : Prop where
  os : w'.os = w.os
  tape : w'.tape = w.tape
  output : w'.output = w.output
  size : w.heap.size ≤ w'.heap.size
  block : ∀ k,k < w.heap.size → k ≠ b → w'.heap[k]? = w.heap[k]?
  cell : ∀ o,o < off ∨ off + n ≤ o → w'.cell? ⟨b,o,none⟩ = w.cell? ⟨b,o,none⟩
  fro : ∀ o,w'.frozen? ⟨b,o,none⟩ = w.frozen? ⟨b,o,none⟩
theorem Nt.Only.refl (b off n : Nat) (w : World) : Nt.Only b off n w w := ⟨rfl,rfl,rfl,Nat.le_refl _,fun _ _ _ => rfl,fun _ _ => rfl,fun _ => rfl⟩
theorem Nt.Only.trans {b off n : Nat} {w w' w'' : World} (h : Nt.Only b off n w w') (g : Nt.Only b off n w' w'') : Nt.Only b off n w w'' :=
  ⟨g.os.trans h.os,g.tape.trans h.tape,g.output.trans h.output,Nat.le_trans h.size g.size,fun k hk hb => (g.block k (Nat.lt_of_lt_of_le hk h.size) hb).trans (h.block k hk hb),fun o ho => (g.cell o ho).trans (h.cell o ho),fun o => (g.fro o).trans (h.fro o)⟩
theorem Nt.Only.drewN (b off n : Nat) (w : World) (k : Nat) : Nt.Only b off n w (w.drewN k) := by
  have h := below_drewN (Below.refl w.heap.size w) k
  have hc : (w.drewN k).heap = w.heap := by
    induction k with
    | zero => rfl
    | succ k ih => exact ih (below_drewN (Below.refl w.heap.size w) k)
  exact ⟨h.os,h.tape,h.output,h.size,fun _ _ _ => by rw [hc],fun o _ => by simp only [World.cell?,hc],fun o => by simp only [World.frozen?,hc]⟩
theorem Nt.Only.set {b off n : Nat} (w : World) (i : Nat) (x : Value) (hi : i < n) : Nt.Only b off n w (w.setCell ⟨b,off + i,none⟩ x) := by
  refine ⟨rfl,rfl,rfl,by simp [World.setCell],fun k _ hk => ?_,fun o ho => ?_,fun o => World.frozen?_setCell ..⟩
  · simp only [World.setCell,Array.getElem?_modify]
    rw [if_neg (fun e => hk e.symm)]
  · refine World.cell?_setCell_other _ _ _ _ fun e => ?_
    have := congrArg Addr.off e
    have : off + i = o := this
    omega
theorem Nt.Lim.drewN {w : World} {b off n : Nat} {f : Nat → Nat} (h : Nt.Lim w b off n f) (k : Nat) : Nt.Lim (w.drewN k) b off n f := by
  have hc : (w.drewN k).heap = w.heap := by
    clear h
    induction k with
    | zero => rfl
    | succ k ih => exact ih
  exact ⟨fun j hj => by have := h.cell j hj; simp only [World.cell?,hc] at this ⊢; exact this,fun j hj => by have := h.fro j hj; simp only [World.frozen?,hc] at this ⊢; exact this,h.dig,by rw [hc]; exact h.lt⟩
theorem Nt.Lim.set {w : World} {b off n : Nat} {f : Nat → Nat} (h : Nt.Lim w b off n f) (i x : Nat) (hi : i < n) (hx : x < 4294967296) : Nt.Lim (w.setCell ⟨b,off + i,none⟩ (.int .u32 (x : Int))) b off n (Vl.upd f i x) := by
  refine ⟨fun j hj => ?_,fun j hj => ?_,fun j => ?_,by simpa [World.setCell] using h.lt⟩
  · unfold Vl.upd
    by_cases e : j = i
    · subst e
      rw [if_pos rfl]
      exact World.cell?_setCell_same _ _ _ (h.cell j hj)
    · rw [if_neg e,World.cell?_setCell_other _ _ _ _ (fun c => e (by have : off + i = off + j := congrArg Addr.off c; omega))]
      exact h.cell j hj
  · rw [World.frozen?_setCell]
    exact h.fro j hj
  · unfold Vl.upd
    split
    · exact hx
    · exact h.dig j
/-- Limbs of another block. -/
theorem Nt.Lim.only {w w' : World} {b off n c o m : Nat} {f : Nat → Nat} (h : Nt.Lim w b off n f) (ho : Nt.Only c o m w w') (hne : b ≠ c) : Nt.Lim w' b off n f := by
  have e := ho.block b h.lt hne
  exact ⟨fun j hj => by have := h.cell j hj; simp only [World.cell?,e] at this ⊢; exact this,fun j hj => by have := h.fro j hj; simp only [World.frozen?,e] at this ⊢; exact this,h.dig,Nat.lt_of_lt_of_le h.lt ho.size⟩
set_option maxHeartbeats 1000000 in
set_option maxRecDepth 100000 in
theorem Nt.addTimes_any (w : World) (bx ox nx cx : Nat) (fx : Nat → Nat) (b' oy n cy : Nat) (fy : Nat → Nat) (t : Nat) (hx : Nt.Lim w bx ox nx fx) (hy : Nt.Lim w b' oy n fy) (hn : n ≤ nx) (hnm : nx ≤ 1000000) (ht : t < 4294967296) (hne : b' ≠ bx) :
    Calls Tryz.prog 139 #[.slice (some ⟨bx,ox,none⟩) nx cx,.slice (some ⟨b',oy,none⟩) n cy,.int .u32 (t : Int)] w fun e w' => ∃ c fo,e = .returned (.int .u32 ((c : Nat) : Int)) ∧ c < 4294967296 ∧ Nt.Lim w' bx ox nx fo ∧ Vl.val 4294967296 fo n + c * 4294967296 ^ n = Vl.val 4294967296 fx n + t * Vl.val 4294967296 fy n ∧ (∀ j,n ≤ j → fo j = fx j) ∧ Nt.Only bx ox n w w' := by
  go_enter Tryz.func139,Tryz.ntmps139
  go_wp2_with fail
  go_loopw [7,12] (fun cv iv wr => ∃ (i c : Nat) (fo : Nat → Nat),i ≤ n ∧ iv = .int .i64 (i : Int) ∧ cv = .int .u64 (c : Int) ∧ c < 4294967296 ∧ Nt.Lim wr bx ox nx fo ∧ Vl.val 4294967296 fo n + c * 4294967296 ^ i = Vl.val 4294967296 fx n + t * Vl.val 4294967296 fy i ∧ (∀ j,n ≤ j → fo j = fx j) ∧ Nt.Only bx ox n w wr) (fun _ iv _ => n - (intOf iv).toNat)
  case atStart => exact ⟨0,0,fx,by omega,rfl,rfl,by decide,hx,by simp [Vl.val],fun _ _ => rfl,Nt.Only.refl _ _ _ _⟩
  case round =>
  obtain ⟨i,c,fo,hi,rfl,rfl,hc,hL,hv,hhi,hO⟩ := hrel
  obtain ⟨w2,rfl⟩ : ∃ w2,w2 = wr := ⟨_,rfl⟩
  by_cases hin : i < n
  · have hiz : (i : Int) < (n : Int) := by omega
    have hiz0 : 0 ≤ (i : Int) := by omega
    have hix : (i : Int) < (nx : Int) := by omega
    have cy2 := (hy.only hO hne).cell i hin
    have cx2 := hL.cell i (by omega)
    have dy := hy.dig i
    have dx := hL.dig i
    have hst := Nt.add_step 4294967296 fo n i c (fy i) t (Vl.val 4294967296 fy i) (Vl.val 4294967296 fx n) hin hv
    have hcr := Nt.add_carry 4294967296 (fy i) t (fo i) c dy ht dx hc
    have evy : Vl.val 4294967296 fy i + fy i * 4294967296 ^ i = Vl.val 4294967296 fy (i + 1) := rfl
    rw [evy] at hst
    obtain ⟨y,ey⟩ : ∃ y,fy i = y := ⟨_,rfl⟩
    obtain ⟨x,ex⟩ : ∃ x,fo i = x := ⟨_,rfl⟩
    rw [ey,ex] at hst hcr
    rw [ey] at cy2 dy
    rw [ex] at cx2 dx
    have em : (y : Int) * (t : Int) = ((y * t : Nat) : Int) := by simp
    obtain ⟨m,hm⟩ : ∃ m,y * t = m := ⟨_,rfl⟩
    rw [hm] at em hst hcr
    obtain ⟨s1,hs1⟩ : ∃ s1,m + x = s1 := ⟨_,rfl⟩
    rw [hs1] at hst hcr
    obtain ⟨s,hs⟩ : ∃ s,s1 + c = s := ⟨_,rfl⟩
    rw [hs] at hst hcr
    have hsb : s < 18446744073709551616 := hcr.1
    obtain ⟨d,hd⟩ : ∃ d,s % 4294967296 = d := ⟨_,rfl⟩
    obtain ⟨c',hc'⟩ : ∃ c',s / 4294967296 = c' := ⟨_,rfl⟩
    rw [hd,hc'] at hst
    rw [hc'] at hcr
    have hdl : d < 4294967296 := by omega
    have hL3 := fun k => ((hL.drewN k).set i d (by omega) hdl)
    have hO3 := fun k => (hO.trans (Nt.Only.drewN bx ox n w2 k)).trans (Nt.Only.set (w2.drewN k) i (.int .u32 (d : Int)) hin)
    have hhi3 : ∀ j,n ≤ j → Vl.upd fo i d j = fx j := fun j hj => by
      unfold Vl.upd
      rw [if_neg (by omega)]
      exact hhi j hj
    have HH := Lib.hid (And.intro hst (And.intro hhi3 (And.intro hL3 (And.intro hO3 hcr.2))))
    have fx2 := hL.fro i (by omega)
    have k1 : IntKind.u64.wrap (y : Int) = (y : Int) := IntWalk.u64_in _ (by omega)
    have k2 : IntKind.u64.wrap (t : Int) = (t : Int) := IntWalk.u64_in _ (by omega)
    have k3 : IntKind.u64.wrap (x : Int) = (x : Int) := IntWalk.u64_in _ (by omega)
    have k4 : IntKind.u64.wrap ((y : Int) * (t : Int)) = (m : Int) := by rw [em]; exact IntWalk.u64_in _ (by omega)
    have k5 : IntKind.u64.wrap ((m : Int) + (x : Int)) = (s1 : Int) := by rw [IntWalk.u64_in _ (by omega)]; omega
    have k6 : IntKind.u64.wrap ((s1 : Int) + (c : Int)) = (s : Int) := by rw [IntWalk.u64_in _ (by omega)]; omega
    have k7 : IntKind.u32.wrap (s : Int) = (d : Int) := by
      have : (s : Int) % 4294967296 = (d : Int) := by omega
      unfold IntKind.wrap
      simpa [IntKind.bits,IntKind.signed] using this
    have k8 : (s : Int) % 4294967296 = (d : Int) := by omega
    have k9 : (s : Int) / 4294967296 = (c' : Int) := by omega
    clear hv hhi hst hcr hhi3 hL3 hO3 evy ey ex em hm hs1 hs hsb hd hc' hc dx dy
    go_wp2_with fail
    go_quiet (fail)
    have cx3 : (w2.drewN nq).cell? ⟨bx,ox + i,none⟩ = some (.int .u32 (x : Int)) := (hL.drewN nq).cell i (by omega) |>.trans (by have := hL.cell i (by omega); rw [cx2] at this; rw [← this])
    have fx3 := (hL.drewN nq).fro i (by omega)
    obtain ⟨hst,hhi3,hL3,hO3,hcl⟩ := HH.out
    have HL := Lib.hid (And.intro (hL3 nq) (And.intro (hO3 nq) (And.intro hst (And.intro hhi3 hcl))))
    clear hst hhi3 hL3 hO3 hcl HH hL hO cx2 cy2 fx2
    generalize w2.drewN nq = w3 at cx3 fx3 HL ⊢
    go_wp2_with fail
    exact ⟨⟨i + 1,c',_,by omega,by go_num,rfl,HL.out.2.2.2.2,HL.out.1,HL.out.2.2.1,HL.out.2.2.2.1,HL.out.2.1⟩,by simp [intOf]; omega⟩
  · have hie : i = n := by omega
    have hiz : ¬ (i : Int) < (n : Int) := by omega
    have k7 : IntKind.u32.wrap (c : Int) = (c : Int) := by
      have : (c : Int) % 4294967296 = (c : Int) := by omega
      unfold IntKind.wrap
      simpa [IntKind.bits,IntKind.signed] using this
    have k8 : (c : Int) % 4294967296 = (c : Int) := by omega
    rw [hie] at hv
    have HH := Lib.hid (And.intro hc (And.intro hL (And.intro hv (And.intro hhi hO))))
    clear hc hL hv hhi hO hie
    go_wp2_with fail
    go_ret
    exact ⟨c,rfl,HH.out.1,fo,HH.out.2⟩
end
end Go.Proofs.YthlecdggkolgmaaGreatDoor
