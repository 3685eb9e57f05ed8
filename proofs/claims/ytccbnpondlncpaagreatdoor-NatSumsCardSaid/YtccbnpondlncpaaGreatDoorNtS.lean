/- The step of the long division; values of moves; how many digits. -/
import Derived.Test.YtccbnpondlncpaaGreatDoorNtQ
import Derived.Test.YtccbnpondlncpaaGreatDoorNtO
import Derived.Lib.BitFns
import Derived.Lib.ItoaNum
namespace Go.Proofs.YtccbnpondlncpaaGreatDoor
open Go.RowKit

theorem Nt.split_part (fr : Nat → Nat) (a m n V : Nat) (hV : V < 4294967296 ^ m) (h2 : Vl.val 4294967296 fr (n + 1) < V * 4294967296 ^ (a + 1)) (hn : a + m ≤ n) :
    Vl.val 4294967296 (fun j => fr (a + (m + 1) + j)) (n - a - m) = 0 ∧ Vl.val 4294967296 fr (n + 1) = Vl.val 4294967296 fr a + Vl.val 4294967296 (fun j => fr (a + j)) (m + 1) * 4294967296 ^ a := by
  have e1 := Nt.val_split 4294967296 fr (a + (m + 1)) (n - a - m)
  have e2 := Nt.val_split 4294967296 fr a (m + 1)
  rw [show a + (m + 1) + (n - a - m) = n + 1 by omega] at e1
  obtain ⟨H, hH⟩ : ∃ H, Vl.val 4294967296 (fun j => fr (a + (m + 1) + j)) (n - a - m) = H := ⟨_, rfl⟩
  rw [hH] at e1 ⊢
  have h3 : V * 4294967296 ^ (a + 1) ≤ 4294967296 ^ (a + (m + 1)) := by
    rw [show a + (m + 1) = m + (a + 1) by omega, Nat.pow_add 4294967296 m]
    exact Nat.mul_le_mul_right _ (Nat.le_of_lt hV)
  have h0 : H = 0 := by
    rcases Nat.eq_zero_or_pos H with h | h
    · exact h
    · have : 4294967296 ^ (a + (m + 1)) ≤ H * 4294967296 ^ (a + (m + 1)) := Nat.le_mul_of_pos_left _ h
      omega
  refine ⟨h0, ?_⟩
  rw [e1, h0, e2]
  omega
theorem Nt.split_lt (fr : Nat → Nat) (a m n V : Nat) (hV : V < 4294967296 ^ m) (h2 : Vl.val 4294967296 fr (n + 1) < V * 4294967296 ^ (a + 1)) (hn : a + m ≤ n) :
    Vl.val 4294967296 (fun j => fr (a + j)) (m + 1) < 4294967296 * V := by
  have h := (Nt.split_part fr a m n V hV h2 hn).2
  rw [h, Nat.pow_succ, Nat.mul_comm (4294967296 ^ a), ← Nat.mul_assoc, Nat.mul_comm V] at h2
  exact Nat.lt_of_mul_lt_mul_right (Nat.lt_of_le_of_lt (Nat.le_add_left _ _) h2)
theorem Nt.split_step (fr fo : Nat → Nat) (hfr : ∀ j, fr j < 4294967296) (a m n X V q : Nat) (hV0 : 0 < V) (hV : V < 4294967296 ^ m) (h1 : X = Vl.val 4294967296 fr (n + 1) + V * q) (h2 : Vl.val 4294967296 fr (n + 1) < V * 4294967296 ^ (a + 1)) (hn : a + m ≤ n)
    (hfo : Vl.val 4294967296 fo m = Vl.val 4294967296 (fun j => fr (a + j)) (m + 1) % V) (hf0 : fo m = 0) :
    X = Vl.val 4294967296 (Nt.mid fr a (m + 1) fo) (n + 1) + V * (q + Vl.val 4294967296 (fun j => fr (a + j)) (m + 1) / V * 4294967296 ^ a) ∧ Vl.val 4294967296 (Nt.mid fr a (m + 1) fo) (n + 1) < V * 4294967296 ^ a := by
  have hp := Nt.split_part fr a m n V hV h2 hn
  obtain ⟨u, hu⟩ : ∃ u, Vl.val 4294967296 (fun j => fr (a + j)) (m + 1) = u := ⟨_, rfl⟩
  rw [hu] at hp hfo ⊢
  have e3 := Nt.val_split 4294967296 (Nt.mid fr a (m + 1) fo) (a + (m + 1)) (n - a - m)
  rw [show a + (m + 1) + (n - a - m) = n + 1 by omega, Nt.mid_val] at e3
  have e4 : Vl.val 4294967296 (fun j => Nt.mid fr a (m + 1) fo (a + (m + 1) + j)) (n - a - m) = 0 := by
    rw [← hp.1]
    exact Vl.val_congr _ _ _ _ (fun j _ => by unfold Nt.mid; rw [if_neg (by omega)])
  have e5 : Vl.val 4294967296 fo (m + 1) = u % V := by rw [Vl.val, hf0, Nat.zero_mul, Nat.add_zero, hfo]
  rw [e4, e5, Nat.zero_mul, Nat.add_zero] at e3
  have hl : Vl.val 4294967296 fr a < 4294967296 ^ a := Vl.val_lt _ (by decide) fr a (fun j _ => hfr j)
  rw [e3]
  obtain ⟨P, hP⟩ : ∃ P, 4294967296 ^ a = P := ⟨_, rfl⟩
  obtain ⟨L, hL⟩ : ∃ L, Vl.val 4294967296 fr a = L := ⟨_, rfl⟩
  rw [hP, hL] at hl hp ⊢
  rw [hp.2] at h1
  have hd : V * (u / V) + u % V = u := Nat.div_add_mod u V
  have hm : u % V + 1 ≤ V := Nat.mod_lt u hV0
  constructor
  · rw [h1, Nat.mul_add]
    have e6 : u * P = V * (u / V * P) + u % V * P := by
      rw [← Nat.mul_assoc, ← Nat.add_mul, hd]
    omega
  · have e7 : (u % V + 1) * P ≤ V * P := Nat.mul_le_mul_right _ hm
    rw [Nat.add_mul, Nat.one_mul] at e7
    omega
theorem Nt.up_value (f : Nat → Nat) (k n : Nat) (hk : k < 32) (hn : 0 < n) (hf : f (n - 1) < 2 ^ (32 - k)) : Vl.val 4294967296 (Nt.part f (Nt.up f k) n) n = Vl.val 4294967296 f n * 2 ^ k := by
  obtain ⟨m, rfl⟩ : ∃ m, n = m + 1 := ⟨n - 1, by omega⟩
  rw [Nat.add_sub_cancel] at hf
  have h := Nt.up_val f (Nt.up f k) k (by omega) (by unfold Nt.up Nt.over; rfl) (fun j => by unfold Nt.up Nt.over; rfl) m
  rw [Nat.div_eq_of_lt hf, Nat.zero_mul, Nat.add_zero] at h
  rw [← h]
  exact Vl.val_congr _ _ _ _ (fun j hj => by unfold Nt.part; rw [if_pos hj])
theorem Nt.shl_low (x k : Nat) (hk : k ≤ 32) : x * 2 ^ (32 - k) % 4294967296 = x % 2 ^ k * 2 ^ (32 - k) := by
  have e : (4294967296 : Nat) = 2 ^ k * 2 ^ (32 - k) := by rw [← Nat.pow_add, show k + (32 - k) = 32 by omega]
  rw [e, Nat.mul_mod_mul_right]
theorem Nt.down_value (f : Nat → Nat) (k n : Nat) (hk : k < 32) : Vl.val 4294967296 (Nt.from f (Nt.dn f n k) 0 n) n = Vl.val 4294967296 f n / 2 ^ k := by
  have h := Nt.down_div (Nt.wide f n) (fun j => Nt.wide f n j / 2 ^ k + Nt.wide f n (j + 1) % 2 ^ k * 2 ^ (32 - k)) k n (by omega) (fun _ => rfl) (by unfold Nt.wide; rw [if_neg (by omega)])
  rw [Nt.wide_val f n n (Nat.le_refl _)] at h
  rw [← h]
  refine Vl.val_congr _ _ _ _ (fun j hj => ?_)
  unfold Nt.from
  rw [if_pos ⟨by omega, hj⟩]
  unfold Nt.dn Nt.under Nt.wide
  rw [if_pos hj]
  by_cases h1 : j + 1 < n
  · rw [if_pos h1, if_pos h1, Nt.shl_low _ _ (by omega)]
  · rw [if_neg h1, if_neg h1, Nat.zero_mod, Nat.zero_mul]
theorem Nt.bitLen_dig (x : Nat) (hx : x < 2 ^ 64) : Lib.bitLen x = Nt.dig x := by
  by_cases h0 : x = 0
  · subst h0; rfl
  · have h := Lib.bitLenAux_bounds 64 x hx h0
    obtain ⟨k, hk⟩ : ∃ k, Lib.bitLenAux 64 x = k + 1 := ⟨Lib.bitLenAux 64 x - 1, by omega⟩
    rw [hk] at h
    unfold Lib.bitLen
    rw [hk]
    exact (Nt.dig_spec x k h.2.1 h.2.2).symm
/-- The digits of a number out of those of its highest limb. -/
theorem Nt.dig_top (f : Nat → Nat) (n : Nat) (hf : ∀ j, f j < 4294967296) (ht : f n ≠ 0) : Nt.dig (Vl.val 4294967296 f (n + 1)) = 32 * n + Nt.dig (f n) := by
  have h1 := Nt.dig_le (f n) ht
  have h2 := Nt.dig_lt (f n)
  have h3 := Nt.dig_pos (f n) ht
  obtain ⟨k, hk⟩ : ∃ k, Nt.dig (f n) = k + 1 := ⟨Nt.dig (f n) - 1, by omega⟩
  rw [hk, Nat.add_sub_cancel] at h1
  rw [hk] at h2 ⊢
  have hl : Vl.val 4294967296 f n < 4294967296 ^ n := Vl.val_lt _ (by decide) f n (fun j _ => hf j)
  have eP : (4294967296 : Nat) ^ n = 2 ^ (32 * n) := by rw [Nat.pow_mul]
  rw [eP] at hl
  rw [Vl.val, eP, show 32 * n + (k + 1) = (32 * n + k) + 1 by omega]
  refine Nt.dig_spec _ _ ?_ ?_
  · rw [Nat.pow_add, Nat.mul_comm]
    have := Nat.mul_le_mul_right (2 ^ (32 * n)) h1
    omega
  · rw [show 32 * n + k + 1 = (k + 1) + 32 * n by omega, Nat.pow_add 2 (k + 1)]
    have : (f n + 1) * 2 ^ (32 * n) ≤ 2 ^ (k + 1) * 2 ^ (32 * n) := Nat.mul_le_mul_right _ h2
    rw [Nat.add_mul, Nat.one_mul] at this
    omega
end Go.Proofs.YtccbnpondlncpaaGreatDoor
