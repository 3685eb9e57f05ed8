/- The reference's numbers in digits of sixteen bits: above. -/
import Derived.Test.YtelfhdihkeafnaaRfA
namespace Go.Proofs.Ytelfhdihkeafnaa
open Go.RowKit

theorem Vl.val_top (B : Nat) (f g : Nat → Nat) (m : Nat) : ∀ n, m ≤ n → (∀ j, m ≤ j → j < n → f j = g j) → Vl.val B f n + Vl.val B g m = Vl.val B g n + Vl.val B f m
  | 0, h, _ => by rw [show m = 0 by omega, Nat.add_comm]
  | n + 1, h, he => by
    by_cases hm : m = n + 1
    · rw [hm, Nat.add_comm]
    · have ih := Vl.val_top B f g m n (by omega) (fun j h1 h2 => he j h1 (by omega))
      rw [Vl.val, Vl.val, he n (by omega) (by omega)]
      omega
theorem Vl.val_gt (B : Nat) (hB : 0 < B) (f g : Nat → Nat) (n i : Nat) (hi : i < n) (hg : ∀ j, g j < B) (he : ∀ j, i + 1 ≤ j → j < n → f j = g j) (h : g i < f i) : Vl.val B g n < Vl.val B f n := by
  have h1 := Vl.val_top B f g (i + 1) n (by omega) he
  have h2 := Vl.val_lt B hB g i (fun j _ => hg j)
  have h3 : (g i + 1) * B ^ i ≤ f i * B ^ i := Nat.mul_le_mul_right _ h
  rw [Nat.add_mul, Nat.one_mul] at h3
  have e1 : Vl.val B f (i + 1) = Vl.val B f i + f i * B ^ i := rfl
  have e2 : Vl.val B g (i + 1) = Vl.val B g i + g i * B ^ i := rfl
  omega
def Rf.one (p o j : Nat) : Nat := if j = o then p else 0
theorem Rf.val_one (B p o n : Nat) (h : o < n) : Vl.val B (Rf.one p o) n = p * B ^ o := by
  have h1 := Vl.val_upd B (fun _ => 0) o p n h
  rw [Vl.val_zero B _ n (fun _ _ => rfl)] at h1
  have e : Vl.val B (Rf.one p o) n = Vl.val B (Vl.upd (fun _ => 0) o p) n := Vl.val_congr _ _ _ _ (fun j _ => rfl)
  rw [e]
  simpa using h1
set_option maxHeartbeats 8000000 in
set_option maxRecDepth 100000 in
theorem Rf.above_any (w : World) (ba la ca : Nat) (fa : Nat → Nat) (ha : Rf.Dig w ba la fa) (hfa : ∀ j, fa j < 65536) (hla : la ≤ 1000) (p o : Nat) (hp : p < 65536) (ho : o < la) :
    Calls Try.prog 38 #[.slice (some ⟨ba, 0, none⟩) la ca, .int .u64 (p : Int), .int .i64 (o : Int)] w fun e w' => e = .returned (.bool (decide (p * 65536 ^ o < Vl.val 65536 fa la))) ∧ w' = w := by
  have hval := Rf.val_one 65536 p o la ho
  have hG : ∀ j, Rf.one p o j < 65536 := by intro j; unfold Rf.one; split <;> omega
  have HV := Lib.hid (And.intro hval hG)
  obtain ⟨D, hD⟩ : ∃ D, decide (p * 65536 ^ o < Vl.val 65536 fa la) = D := ⟨_, rfl⟩
  rw [hD]
  have HD := Lib.hid hD
  clear hval hG hD
  go_enter Try.func38, Try.ntmps38
  go_wp2_with fail
  go_loopw [7] (fun iv wr => ∃ (m : Nat) (z : Int), m ≤ la ∧ iv = .int .i64 z ∧ z = (m : Int) - 1 ∧ (∀ j, m ≤ j → j < la → fa j = Rf.one p o j) ∧ wr = w) (fun iv _ => (intOf iv + 1).toNat)
  case atStart => exact ⟨la, (la : Int) - 1, Nat.le_refl _, by first | rfl | (congr 1), rfl, fun j h1 h2 => by omega, rfl⟩
  case round =>
  obtain ⟨m, z, hm, rfl, hz, heq, rfl⟩ := hrel
  by_cases hm0 : m = 0
  · have hz0 : z = -1 := by omega
    subst hz0
    have hres : decide (p * 65536 ^ o < Vl.val 65536 fa la) = false := by
      rw [decide_eq_false_iff_not, ← HV.out.1, Vl.val_congr 65536 fa (Rf.one p o) la (fun j hj => heq j (by omega) hj)]
      omega
    obtain rfl : D = false := HD.out.symm.trans hres
    clear heq hres hz
    go_wp2_with fail
    go_ret
    exact ⟨rfl, rfl⟩
  · obtain ⟨i, rfl⟩ : ∃ i, m = i + 1 := ⟨m - 1, by omega⟩
    have hzi : z = (i : Int) := by omega
    subst hzi
    have hil : i < la := by omega
    have hi0 : 0 ≤ (i : Int) := by omega
    have hiz : (i : Int) < (la : Int) := by omega
    have ca0 := ha.cell i hil
    have hx := hfa i
    have hfin : fa i = Rf.one p o i ∨ (Rf.one p o i < fa i ∧ decide (p * 65536 ^ o < Vl.val 65536 fa la) = true) ∨ (fa i < Rf.one p o i ∧ decide (p * 65536 ^ o < Vl.val 65536 fa la) = false) := by
      rcases Nat.lt_trichotomy (fa i) (Rf.one p o i) with h | h | h
      · right; right
        refine ⟨h, ?_⟩
        have := Vl.val_gt 65536 (by decide) (Rf.one p o) fa la i hil hfa (fun j h1 h2 => (heq j h1 h2).symm) h
        rw [decide_eq_false_iff_not, ← HV.out.1]
        omega
      · left; exact h
      · right; left
        refine ⟨h, ?_⟩
        have := Vl.val_gt 65536 (by decide) fa (Rf.one p o) la i hil HV.out.2 heq h
        rw [decide_eq_true_iff, ← HV.out.1]
        exact this
    have hone : (i = o ∧ Rf.one p o i = p) ∨ (i ≠ o ∧ Rf.one p o i = 0) := by
      unfold Rf.one
      by_cases h : i = o
      · left; exact ⟨h, if_pos h⟩
      · right; exact ⟨h, if_neg h⟩
    have HE := Lib.hid heq
    obtain ⟨x, hxx⟩ : ∃ x, fa i = x := ⟨_, rfl⟩
    obtain ⟨y, hyy⟩ : ∃ y, Rf.one p o i = y := ⟨_, rfl⟩
    rw [hyy] at hone
    rw [hxx, hyy] at hfin
    rw [hxx] at ca0 hx
    have HX := Lib.hid (And.intro hxx hyy)
    rw [HD.out] at hfin
    clear heq hxx hyy HV hz hm0
    rcases hone with ⟨hio, hy⟩ | ⟨hio, hy⟩
    · subst hio
      subst hy
      have tI : ((i : Int) == (i : Int)) = true := by rw [beq_iff_eq]
      rcases hfin with hf | ⟨hf, hd⟩ | ⟨hf, hd⟩
      · have tN : ((x : Int) != (y : Int)) = false := by rw [bne_eq_false_iff_eq]; omega
        go_wp2_with fail
        exact ⟨⟨i, _, by omega, rfl, by omega, fun j h1 h2 => by
          by_cases hj : j = i
          · rw [hj, HX.out.1, HX.out.2]; exact hf
          · exact HE.out j (by omega) h2, trivial⟩, by simp [intOf]⟩
      · have tN : ((x : Int) != (y : Int)) = true := by rw [bne_iff_ne]; omega
        have tG : (y : Int) < (x : Int) := by omega
        subst hd
        go_wp2_with fail
        go_ret
        exact ⟨rfl, rfl⟩
      · have tN : ((x : Int) != (y : Int)) = true := by rw [bne_iff_ne]; omega
        have tG : ¬ (y : Int) < (x : Int) := by omega
        subst hd
        go_wp2_with fail
        go_ret
        exact ⟨rfl, rfl⟩
    · subst hy
      have tI : ((i : Int) == (o : Int)) = false := by rw [beq_eq_false_iff_ne]; omega
      clear hio
      rcases hfin with hf | ⟨hf, hd⟩ | ⟨hf, hd⟩
      · have tN : ((x : Int) != 0) = false := by rw [bne_eq_false_iff_eq]; omega
        go_wp2_with fail
        exact ⟨⟨i, _, by omega, rfl, by omega, fun j h1 h2 => by
          by_cases hj : j = i
          · rw [hj, HX.out.1, HX.out.2]; exact hf
          · exact HE.out j (by omega) h2, trivial⟩, by simp [intOf]⟩
      · have tN : ((x : Int) != 0) = true := by rw [bne_iff_ne]; omega
        have tG : 0 < (x : Int) := by omega
        subst hd
        go_wp2_with fail
        go_ret
        exact ⟨rfl, rfl⟩
      · omega
end Go.Proofs.Ytelfhdihkeafnaa
