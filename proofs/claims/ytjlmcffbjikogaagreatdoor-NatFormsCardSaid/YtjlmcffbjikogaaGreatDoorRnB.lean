/- Of: a text as digits of sixteen bits; the mathematics of digits. -/
import Derived.Test.YtjlmcffbjikogaaGreatDoorRnA
namespace Go.Proofs.YtjlmcffbjikogaaGreatDoor
open Go.RowKit

theorem Rn.of_step (f : Nat → Nat) (N V i a r c : Nat) (hi : i = 2 * a + r) (hr : r < 2) (ha : a < N) (hv : Vl.val 65536 f N = V) (hV : V < 256 ^ i) (hc : c < 256) :
    f a + c * 256 ^ r < 65536 ∧ Vl.val 65536 (Vl.upd f a (f a + c * 256 ^ r)) N = V + c * 256 ^ i := by
  have eP : (256 : Nat) ^ i = 256 ^ r * 65536 ^ a := by
    rw [hi, Nat.add_comm, Nat.pow_add, Nat.pow_mul]
  have hle : f a * 65536 ^ a ≤ V := by
    have e1 := Nt.val_split 65536 f a (N - a)
    rw [show a + (N - a) = N by omega, hv] at e1
    obtain ⟨m, hm⟩ : ∃ m, N - a = 1 + m := ⟨N - a - 1, by omega⟩
    have e2 := Nt.val_split 65536 (fun j => f (a + j)) 1 m
    rw [hm, e2] at e1
    have e3 : Vl.val 65536 (fun j => f (a + j)) 1 = f a := by simp [Vl.val]
    rw [e3, Nat.add_mul] at e1
    omega
  have h1 : f a < 256 ^ r := by
    rw [eP] at hV
    exact Nat.lt_of_mul_lt_mul_right (Nat.lt_of_le_of_lt hle hV)
  have hr2 : r = 0 ∨ r = 1 := by omega
  refine ⟨?_, ?_⟩
  · rcases hr2 with rfl | rfl
    · rw [Nat.pow_zero] at h1 ⊢; omega
    · rw [Nat.pow_one] at h1 ⊢; omega
  · have h5 := Vl.val_upd 65536 f a (f a + c * 256 ^ r) N ha
    rw [Nat.add_mul, hv, Nat.mul_assoc c, ← eP] at h5
    omega
theorem Rn.bit_val (f : Nat → Nat) (hf : ∀ j, f j < 65536) (n a r : Nat) (ha : a < n) (hr : r < 16) : Vl.val 65536 f n / 2 ^ (16 * a + r) % 2 = f a / 2 ^ r % 2 := by
  have e1 := Nt.val_split 65536 f a (n - a)
  rw [show a + (n - a) = n by omega] at e1
  obtain ⟨m, hm⟩ : ∃ m, n - a = 1 + m := ⟨n - a - 1, by omega⟩
  have e2 := Nt.val_split 65536 (fun j => f (a + j)) 1 m
  rw [hm, e2] at e1
  have e3 : Vl.val 65536 (fun j => f (a + j)) 1 = f a := by simp [Vl.val]
  rw [e3] at e1
  obtain ⟨H, hH⟩ : ∃ H, Vl.val 65536 (fun j => f (a + (1 + j))) m = H := ⟨_, rfl⟩
  rw [hH] at e1
  have hl : Vl.val 65536 f a < 65536 ^ a := Vl.val_lt _ (by decide) f a (fun j _ => hf j)
  have eP : (2 : Nat) ^ (16 * a) = 65536 ^ a := by rw [Nat.pow_mul]
  rw [Nat.pow_add, ← Nat.div_div_eq_div_mul, eP, e1]
  have hp : 0 < 65536 ^ a := Nat.pow_pos (by decide)
  rw [Nat.add_mul_div_right _ _ hp, Nat.div_eq_of_lt hl, Nat.zero_add, Nat.pow_one]
  have e4 : (65536 : Nat) = 2 ^ r * (2 * 2 ^ (15 - r)) := by rw [← Nat.pow_succ', ← Nat.pow_add, show r + (15 - r + 1) = 16 by omega]
  have hr0 : 0 < 2 ^ r := Nat.two_pow_pos r
  rw [e4, Nat.mul_left_comm, Nat.add_mul_div_left _ _ hr0, Nat.mul_left_comm, Nat.add_mul_mod_self_left]
/-- Two bytes more behind a number's form. -/
theorem Rn.fm_more (X d : Nat) (hX : 0 < X) (hd : d < 65536) : Nt.fm (X * 65536 + d) = Nt.fm X ++ [UInt8.ofNat (d / 256), UInt8.ofNat (d % 256)] := by
  have h : Nt.rd (Nt.fm X ++ [UInt8.ofNat (d / 256), UInt8.ofNat (d % 256)]) = X * 65536 + d := by
    rw [Nt.rd_append, Nt.rd_fm]
    show X * 256 ^ 2 + ((UInt8.ofNat (d / 256)).toNat * 256 ^ 1 + ((UInt8.ofNat (d % 256)).toNat * 256 ^ 0 + 0)) = _
    rw [UInt8.toNat_ofNat', UInt8.toNat_ofNat']
    omega
  rw [← h]
  refine (Nt.fm_rd _ (fun c hc => ?_))
  rcases hL : Nt.fm X with _ | ⟨e, t⟩
  · have := Nt.rd_fm X
    rw [hL] at this
    have : X = 0 := this.symm
    omega
  · rw [hL] at hc
    simp at hc
    subst hc
    exact Nt.fm_head X _ _ hL
theorem Rn.fm_two (d : Nat) (hd : d < 65536) (h : 255 < d) : Nt.fm d = [UInt8.ofNat (d / 256), UInt8.ofNat (d % 256)] := by
  have e : Nt.rd [UInt8.ofNat (d / 256), UInt8.ofNat (d % 256)] = d := by
    show (UInt8.ofNat (d / 256)).toNat * 256 ^ 1 + ((UInt8.ofNat (d % 256)).toNat * 256 ^ 0 + 0) = _
    rw [UInt8.toNat_ofNat', UInt8.toNat_ofNat']
    omega
  rw [← e]
  rw [e]
  have := Nt.fm_rd [UInt8.ofNat (d / 256), UInt8.ofNat (d % 256)] (fun c hc => by
    simp at hc
    subst hc
    intro h0
    have := congrArg UInt8.toNat h0
    rw [UInt8.toNat_ofNat'] at this
    have h1 : d / 256 % 256 = 0 := this
    omega)
  rw [e] at this
  exact this
theorem Rn.fm_one (d : Nat) (hd : d < 256) (h : 0 < d) : Nt.fm d = [UInt8.ofNat d] := by
  have e : Nt.rd [UInt8.ofNat d] = d := by
    show (UInt8.ofNat d).toNat * 256 ^ 0 + 0 = d
    rw [UInt8.toNat_ofNat']
    omega
  have := Nt.fm_rd [UInt8.ofNat d] (fun c hc => by
    simp at hc
    subst hc
    intro h0
    have := congrArg UInt8.toNat h0
    rw [UInt8.toNat_ofNat'] at this
    have h1 : d % 256 = 0 := this
    omega)
  rw [e] at this
  exact this
end Go.Proofs.YtjlmcffbjikogaaGreatDoor
