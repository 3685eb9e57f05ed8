/- The guess, in values: what guess answers is the quotient's digit, or one more. -/
import Derived.Test.YtjlmcffbjikogaaGreatDoorNtH
namespace Go.Proofs.YtjlmcffbjikogaaGreatDoor
open Go.RowKit

theorem Nt.lead_two (B : Nat) (hB : 0 < B) (f g : Nat → Nat) (m : Nat) (hf : ∀ j, f j < B) (hg : ∀ j, g j < B) (hlt : Vl.val B f (m + 3) < B * Vl.val B g (m + 2)) :
    Nt.Lead B (Vl.val B f (m + 3)) (Vl.val B g (m + 2)) (f (m + 2) * B + f (m + 1)) (f m) (g (m + 1)) (g m) (B ^ m) := by
  have a1 := Vl.val_lt B hB f m (fun j _ => hf j)
  have a2 := Vl.val_lt B hB g m (fun j _ => hg j)
  have e1 : Vl.val B f (m + 3) = Vl.val B f m + f m * B ^ m + f (m + 1) * B ^ (m + 1) + f (m + 2) * B ^ (m + 2) := rfl
  have e2 : Vl.val B g (m + 2) = Vl.val B g m + g m * B ^ m + g (m + 1) * B ^ (m + 1) := rfl
  have k1 : ((f (m + 2) * B + f (m + 1)) * B + f m) * B ^ m = f m * B ^ m + f (m + 1) * B ^ (m + 1) + f (m + 2) * B ^ (m + 2) := by
    have p2 : B ^ (m + 2) = B ^ m * B * B := rfl
    have p1 : B ^ (m + 1) = B ^ m * B := rfl
    rw [p1, p2]
    generalize B ^ m = P
    rw [Nat.add_mul _ _ P, Nat.add_mul _ _ B, Nat.add_mul _ _ P]
    have h1 : f (m + 1) * B * P = f (m + 1) * (P * B) := by ac_rfl
    have h2 : f (m + 2) * B * B * P = f (m + 2) * (P * B * B) := by ac_rfl
    rw [h1, h2]
    omega
  have k2 : (g (m + 1) * B + g m) * B ^ m = g m * B ^ m + g (m + 1) * B ^ (m + 1) := by
    have p1 : B ^ (m + 1) = B ^ m * B := rfl
    rw [p1]
    generalize B ^ m = P
    rw [Nat.add_mul _ _ P]
    have h1 : g (m + 1) * B * P = g (m + 1) * (P * B) := by ac_rfl
    rw [h1]
    omega
  refine ⟨?_, ?_, ?_, ?_, hg m, hf m, hlt⟩
  · rw [k1, e1]; omega
  · rw [Nat.add_mul _ 1, k1, e1]; omega
  · rw [k2, e2]; omega
  · rw [Nat.add_mul _ 1, k2, e2]; omega
theorem Nt.lead_one (B : Nat) (hB : 0 < B) (f g : Nat → Nat) (hlt : Vl.val B f 2 < B * Vl.val B g 1) :
    Nt.Lead B (Vl.val B f 2 * B) (Vl.val B g 1 * B) (f 1 * B + f 0) 0 (g 0) 0 1 := by
  have e1 : Vl.val B f 2 = f 1 * B + f 0 := by simp [Vl.val, Nat.add_comm]
  have e2 : Vl.val B g 1 = g 0 := by simp [Vl.val]
  rw [e1, e2] at hlt ⊢
  refine ⟨by simp, by simp, by simp, by simp, hB, hB, ?_⟩
  rw [← Nat.mul_assoc]
  exact Nat.mul_lt_mul_of_pos_right hlt hB
theorem Nt.guess_val (w : World) (bx ox nx cx : Nat) (fx : Nat → Nat) (b' oy n cy : Nat) (fy : Nat → Nat) (hx : Nt.Lim w bx ox nx fx) (hy : Nt.Lim w b' oy n fy) (hnx : nx = n + 1) (hn0 : 0 < n) (hn : n ≤ 1000000)
    (hf : 0 < fy (n - 1)) (hlt : Vl.val 4294967296 fx (n + 1) < 4294967296 * Vl.val 4294967296 fy n) :
    Calls Tryz.prog 100 #[.slice (some ⟨bx, ox, none⟩) nx cx, .slice (some ⟨b', oy, none⟩) n cy] w fun e w' => ∃ t, e = .returned (.int .u32 ((t : Nat) : Int)) ∧ t < 4294967296 ∧ Vl.val 4294967296 fx (n + 1) / Vl.val 4294967296 fy n ≤ t ∧ t ≤ Vl.val 4294967296 fx (n + 1) / Vl.val 4294967296 fy n + 1 ∧ ∃ k, w' = w.drewN k := by
  by_cases h1 : n = 1
  · subst h1
    have hq := Nat.mul_div_mul_right (Vl.val 4294967296 fx 2) (Vl.val 4294967296 fy 1) (show 0 < 4294967296 by decide)
    have h := Nt.guess_any w bx ox nx cx fx b' oy 1 cy fy _ _ _ 0 0 hx hy hnx hn0 hn (fun _ => ⟨rfl, rfl⟩) (fun h => absurd h (by decide)) hf (Nt.lead_one 4294967296 (by decide) fx fy hlt)
    rw [hq] at h
    exact h
  · obtain ⟨m, rfl⟩ : ∃ m, n = m + 2 := ⟨n - 2, by omega⟩
    exact Nt.guess_any w bx ox nx cx fx b' oy (m + 2) cy fy _ _ _ (fy m) (fx m) hx hy hnx hn0 hn (fun h => absurd h h1) (fun _ => ⟨rfl, rfl⟩) hf (Nt.lead_two 4294967296 (by decide) fx fy m hx.dig hy.dig hlt)
end Go.Proofs.YtjlmcffbjikogaaGreatDoor
