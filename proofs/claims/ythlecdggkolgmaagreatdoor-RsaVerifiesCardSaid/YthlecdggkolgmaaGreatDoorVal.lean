/- Numbers in digits, told by a function: their value; a digit that is changed. -/
import Derived.Test.YthlecdggkolgmaaGreatDoorProg
namespace Go.Proofs.YthlecdggkolgmaaGreatDoor

/-- The value of the lowest n digits by base B. -/
def Vl.val (B : Nat) (f : Nat → Nat) : Nat → Nat
  | 0 => 0
  | n + 1 => Vl.val B f n + f n * B ^ n
theorem Vl.val_congr (B : Nat) (f g : Nat → Nat) : ∀ n,(∀ j,j < n → f j = g j) → Vl.val B f n = Vl.val B g n
  | 0,_ => rfl
  | n + 1,h => by rw [Vl.val,Vl.val,Vl.val_congr B f g n (fun j hj => h j (by omega)),h n (by omega)]
theorem Vl.val_lt (B : Nat) (hB : 0 < B) (f : Nat → Nat) : ∀ n,(∀ j,j < n → f j < B) → Vl.val B f n < B ^ n
  | 0,_ => by simp [Vl.val]
  | n + 1,h => by
    have ih := Vl.val_lt B hB f n (fun j hj => h j (by omega))
    have h1 : f n + 1 ≤ B := h n (by omega)
    have h2 : (f n + 1) * B ^ n ≤ B * B ^ n := Nat.mul_le_mul_right _ h1
    rw [Nat.add_mul,Nat.one_mul] at h2
    rw [Vl.val,Nat.pow_succ,Nat.mul_comm (B ^ n) B]
    omega
/-- One digit changed. -/
def Vl.upd (f : Nat → Nat) (i x : Nat) (j : Nat) : Nat := if j = i then x else f j
theorem Vl.val_upd (B : Nat) (f : Nat → Nat) (i x : Nat) : ∀ n,i < n → Vl.val B (Vl.upd f i x) n + f i * B ^ i = Vl.val B f n + x * B ^ i
  | 0,h => by omega
  | n + 1,h => by
    rw [Vl.val,Vl.val]
    by_cases hi : i = n
    · subst hi
      have : Vl.val B (Vl.upd f i x) i = Vl.val B f i := Vl.val_congr B _ _ i (fun j hj => by unfold Vl.upd; rw [if_neg (by omega)])
      rw [this]
      have e : Vl.upd f i x i = x := by unfold Vl.upd; rw [if_pos rfl]
      rw [e]
      omega
    · have ih := Vl.val_upd B f i x n (by omega)
      have e : Vl.upd f i x n = f n := by unfold Vl.upd; rw [if_neg (by omega)]
      rw [e]
      omega
theorem Vl.val_high (B : Nat) (f : Nat → Nat) (m : Nat) : ∀ n,m ≤ n → (∀ j,m ≤ j → j < n → f j = 0) → Vl.val B f n = Vl.val B f m
  | 0,h,_ => by rw [show m = 0 by omega]
  | n + 1,h,hz => by
    by_cases hm : m = n + 1
    · rw [hm]
    · rw [Vl.val,hz n (by omega) (by omega),Nat.zero_mul,Nat.add_zero]
      exact Vl.val_high B f m n (by omega) (fun j h1 h2 => hz j h1 (by omega))
theorem Vl.val_zero (B : Nat) (f : Nat → Nat) (n : Nat) (h : ∀ j,j < n → f j = 0) : Vl.val B f n = 0 := by
  rw [Vl.val_high B f 0 n (Nat.zero_le _) (fun j _ hj => h j hj)]
  rfl
/-- A step of a product by hand: one digit of the one, digit k of the other, at place i + k. -/
theorem Vl.mul_step (B : Nat) (f : Nat → Nat) (n i k c ai bk vbk V : Nat) (hik : i + k < n) (h : Vl.val B f n + c * B ^ (i + k) = V + ai * vbk * B ^ i) :
    Vl.val B (Vl.upd f (i + k) ((c + (f (i + k) + ai * bk)) % B)) n + (c + (f (i + k) + ai * bk)) / B * B ^ (i + k + 1) = V + ai * (vbk + bk * B ^ k) * B ^ i := by
  have hu := Vl.val_upd B f (i + k) ((c + (f (i + k) + ai * bk)) % B) n hik
  obtain ⟨t,ht⟩ : ∃ t,c + (f (i + k) + ai * bk) = t := ⟨_,rfl⟩
  rw [ht] at hu ⊢
  obtain ⟨P,hP⟩ : ∃ P,B ^ (i + k) = P := ⟨_,rfl⟩
  have e1 : t / B * B ^ (i + k + 1) = B * (t / B) * P := by rw [Nat.pow_succ,hP,Nat.mul_comm P B,← Nat.mul_assoc,Nat.mul_comm (t / B) B]
  have e2 : B * (t / B) * P + t % B * P = t * P := by rw [← Nat.add_mul,Nat.div_add_mod]
  have e3 : ai * (vbk + bk * B ^ k) * B ^ i = ai * vbk * B ^ i + ai * bk * P := by
    rw [Nat.mul_add,Nat.add_mul,← hP,Nat.pow_add,← Nat.mul_assoc ai bk,Nat.mul_assoc (ai * bk) (B ^ k),Nat.mul_comm (B ^ k)]
  have e4 : t * P = c * P + (f (i + k) * P + ai * bk * P) := by rw [← ht,Nat.add_mul,Nat.add_mul]
  rw [hP] at hu h
  rw [e1,e3]
  omega
end Go.Proofs.YthlecdggkolgmaaGreatDoor
