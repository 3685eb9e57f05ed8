/- Division by hand: a digit that is guessed by the highest limbs is right, or too great by one; what is left behind it. -/
import Derived.Test.YtjlmcffbjikogaaGreatDoorNtA
namespace Go.Proofs.YtjlmcffbjikogaaGreatDoor

/-- How the guess goes down. -/
structure Nt.Guess (B high first times left : Nat) : Prop where
  eq : times * first + left = high
theorem Nt.Guess.start (B high first : Nat) : Nt.Guess B high first (high / first) (high % first) := ⟨by rw [Nat.mul_comm]; exact Nat.div_add_mod high first⟩
theorem Nt.Guess.next {B high first times left : Nat} (h : Nt.Guess B high first (times + 1) left) : Nt.Guess B high first times (left + first) := ⟨by have := h.eq; rw [Nat.add_mul, Nat.one_mul] at this; omega⟩
/-- The numbers that the guess stands for: u below B v, of v the highest limbs are first and second, of u high and third; the rest lies below E. -/
structure Nt.Lead (B u v high third first second E : Nat) : Prop where
  u1 : (high * B + third) * E ≤ u
  u2 : u < (high * B + third + 1) * E
  v1 : (first * B + second) * E ≤ v
  v2 : v < (first * B + second + 1) * E
  sec : second < B
  thi : third < B
  lt : u < B * v
theorem Nt.Lead.first_pos {B u v high third first second E : Nat} (h : Nt.Lead B u v high third first second E) : 0 < v := by
  rcases Nat.eq_zero_or_pos v with hv | hv
  · have := h.lt; rw [hv, Nat.mul_zero] at this; omega
  · exact hv
/-- The quotient has one digit. -/
theorem Nt.Lead.digit {B u v high third first second E : Nat} (h : Nt.Lead B u v high third first second E) : u / v < B := Nat.div_lt_of_lt_mul (by rw [Nat.mul_comm]; exact h.lt)
/-- At the start the guess is not too small. -/
theorem Nt.Lead.start {B u v high third first second E : Nat} (h : Nt.Lead B u v high third first second E) (hf : 0 < first) : u / v ≤ high / first := by
  rw [Nat.le_div_iff_mul_le hf]
  refine Nat.le_of_lt_succ ?_
  have h0 := Nat.div_mul_le_self u v
  have h1 : u / v * first * B * E ≤ u / v * v := by
    have : u / v * (first * B * E) ≤ u / v * v := Nat.mul_le_mul_left _ (Nat.le_trans (Nat.mul_le_mul_right E (Nat.le_add_right (first * B) second)) h.v1)
    rwa [← Nat.mul_assoc, ← Nat.mul_assoc] at this
  have h2 : u < (high + 1) * B * E := by
    refine Nat.lt_of_lt_of_le h.u2 (Nat.mul_le_mul_right _ ?_)
    rw [Nat.add_mul, Nat.one_mul]
    have := h.thi
    omega
  have h3 : u / v * first * B * E < (high + 1) * B * E := by omega
  have h4 := Nat.lt_of_mul_lt_mul_right h3
  exact Nat.lt_of_mul_lt_mul_right h4
/-- Where the guess is too great, it may go down. -/
theorem Nt.Lead.down {B u v high third first second E times left : Nat} (h : Nt.Lead B u v high third first second E) (hg : Nt.Guess B high first (times + 1) left) (hgt : left * B + third < (times + 1) * second) : u / v ≤ times := by
  refine Nat.le_of_lt_succ ?_
  rw [Nat.div_lt_iff_lt_mul h.first_pos]
  show u < (times + 1) * v
  have h1 : (high * B + third + 1) ≤ (times + 1) * (first * B + second) := by
    have e1 : (times + 1) * (first * B + second) = (times + 1) * first * B + (times + 1) * second := by rw [Nat.mul_add, Nat.mul_assoc]
    have e2 : high * B = (times + 1) * first * B + left * B := by rw [← hg.eq, Nat.add_mul]
    omega
  have h2 : (high * B + third + 1) * E ≤ (times + 1) * (first * B + second) * E := Nat.mul_le_mul_right _ h1
  have h3 : (times + 1) * (first * B + second) * E ≤ (times + 1) * v := by rw [Nat.mul_assoc]; exact Nat.mul_le_mul_left _ h.v1
  have := h.u2
  omega
/-- Where it stops, it is right or too great by one. -/
theorem Nt.Lead.stop {B u v high third first second E times left : Nat} (h : Nt.Lead B u v high third first second E) (hf : 0 < first) (hg : Nt.Guess B high first times left) (ht : times < B) (hs : B ≤ left ∨ times * second ≤ left * B + third) : times ≤ u / v + 1 := by
  have hv := h.first_pos
  have hBE : B * E ≤ v := by
    refine Nat.le_trans ?_ h.v1
    refine Nat.mul_le_mul_right _ ?_
    have : 1 * B ≤ first * B := Nat.mul_le_mul_right _ hf
    omega
  have key : times * v < u + v + 1 := by
    rcases hs with hs | hs
    · have h1 : times * (first + 1) * B ≤ high * B := by
        refine Nat.mul_le_mul_right _ ?_
        have := hg.eq
        rw [Nat.mul_add, Nat.mul_one]
        omega
      have h2 : v ≤ (first + 1) * B * E := by
        refine Nat.le_trans (Nat.le_of_lt h.v2) (Nat.mul_le_mul_right _ ?_)
        rw [Nat.add_mul, Nat.one_mul]
        have := h.sec
        omega
      have h3 : times * v ≤ times * ((first + 1) * B * E) := Nat.mul_le_mul_left _ h2
      have h4 : times * ((first + 1) * B * E) = times * (first + 1) * B * E := by rw [← Nat.mul_assoc, ← Nat.mul_assoc]
      have h5 : times * (first + 1) * B * E ≤ high * B * E := Nat.mul_le_mul_right _ h1
      have h6 : high * B * E ≤ (high * B + third) * E := Nat.mul_le_mul_right _ (Nat.le_add_right _ _)
      have := h.u1
      omega
    · have h1 : times * (first * B + second) ≤ high * B + third := by
        have e1 : times * (first * B + second) = times * first * B + times * second := by rw [Nat.mul_add, Nat.mul_assoc]
        have e2 : high * B = times * first * B + left * B := by rw [← hg.eq, Nat.add_mul]
        omega
      have h2 : times * v ≤ times * ((first * B + second + 1) * E) := Nat.mul_le_mul_left _ (Nat.le_of_lt h.v2)
      have h3 : times * ((first * B + second + 1) * E) = times * (first * B + second) * E + times * E := by
        rw [← Nat.mul_assoc, Nat.mul_add times (first * B + second) 1, Nat.mul_one, Nat.add_mul]
      have h4 : times * (first * B + second) * E ≤ (high * B + third) * E := Nat.mul_le_mul_right _ h1
      have h5 : times * E ≤ B * E := Nat.mul_le_mul_right _ (Nat.le_of_lt ht)
      have := h.u1
      omega
  by_cases h0 : times = 0
  · rw [h0]; exact Nat.zero_le _
  · obtain ⟨t, rfl⟩ : ∃ t, times = t + 1 := ⟨times - 1, by omega⟩
    rw [Nat.add_mul, Nat.one_mul] at key
    have : t * v < u + 1 := by omega
    have : t ≤ u / v := by rw [Nat.le_div_iff_mul_le hv]; omega
    exact Nat.succ_le_succ this
/-- Behind takeTimes, and addTimes where a limb is missing: the digit, and what is left. -/
theorem Nt.digit_fits (P U v top times r m : Nat) (hv : v < P + 1) (hv0 : 0 < v) (hq1 : (U + top * P) / v ≤ times) (hm : r + times * v = U + m * P) (hmt : m ≤ top) : times = (U + top * P) / v ∧ r = (U + top * P) % v ∧ top = m := by
  obtain ⟨u, hu⟩ : ∃ u, U + top * P = u := ⟨_, rfl⟩
  rw [hu] at hq1 ⊢
  have hdm := Nat.div_add_mod u v
  have hml := Nat.mod_lt u hv0
  obtain ⟨d, hd⟩ : ∃ d, top = m + d := ⟨top - m, by omega⟩
  have e1 : u = r + times * v + d * P := by rw [← hu, hd, Nat.add_mul]; omega
  have ht : times = u / v := by
    refine Nat.le_antisymm ?_ hq1
    rw [Nat.le_div_iff_mul_le hv0]
    omega
  rw [ht, Nat.mul_comm] at e1
  have hd0 : d = 0 := by
    rcases Nat.eq_zero_or_pos d with h | h
    · exact h
    · have : 1 * P ≤ d * P := Nat.mul_le_mul_right _ h
      omega
  subst hd0
  refine ⟨ht, by omega, by omega⟩
theorem Nt.digit_over (P U v top times r r2 c m : Nat) (hv : v < P + 1) (hv0 : 0 < v) (hr2 : r2 < P) (hq1 : (U + top * P) / v ≤ times) (hq2 : times ≤ (U + top * P) / v + 1) (hm : r + times * v = U + m * P) (hr : r < P) (hmt : top < m) (ha : r2 + c * P = r + v) : times = (U + top * P) / v + 1 ∧ r2 = (U + top * P) % v ∧ top + c = m := by
  obtain ⟨u, hu⟩ : ∃ u, U + top * P = u := ⟨_, rfl⟩
  rw [hu] at hq1 hq2 ⊢
  have hdm := Nat.div_add_mod u v
  have hml := Nat.mod_lt u hv0
  obtain ⟨d, hd⟩ : ∃ d, m = top + 1 + d := ⟨m - top - 1, by omega⟩
  have e0 : m * P = top * P + P + d * P := by rw [hd, Nat.add_mul, Nat.add_mul, Nat.one_mul]
  have e1 : r + times * v = u + P + d * P := by omega
  have ht : times = u / v + 1 := by
    refine Nat.le_antisymm hq2 ?_
    refine Nat.lt_of_le_of_ne hq1 fun he => ?_
    rw [← he, Nat.mul_comm] at e1
    omega
  rw [ht, Nat.add_mul, Nat.one_mul, Nat.mul_comm (u / v) v] at e1
  have e2 : r2 + c * P = u % v + P + d * P := by omega
  have h1 : u % v < P := by omega
  have hc : c = d + 1 := by
    have e3 : r2 + c * P = u % v + (d + 1) * P := by rw [Nat.add_mul, Nat.one_mul]; omega
    have := congrArg (· / P) e3
    simp only [Nat.add_mul_div_right _ _ (Nat.lt_of_le_of_lt (Nat.zero_le _) h1), Nat.div_eq_of_lt hr2, Nat.div_eq_of_lt h1] at this
    omega
  subst hc
  rw [Nat.add_mul, Nat.one_mul] at e2
  refine ⟨ht, by omega, by omega⟩
end Go.Proofs.YtjlmcffbjikogaaGreatDoor
