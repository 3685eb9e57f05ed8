/- sum, without. -/
import Derived.Test.YtccbnpondlncpaaGreatDoorNtP
namespace Go.Proofs.YtccbnpondlncpaaGreatDoor
open Go.RowKit

/-- The limbs of a slice whose cells may be none. -/
def Nt.wide (f : Nat → Nat) (n j : Nat) : Nat := if j < n then f j else 0
theorem Nt.wide_val (f : Nat → Nat) (n m : Nat) (h : n ≤ m) : Vl.val 4294967296 (Nt.wide f n) m = Vl.val 4294967296 f n := by
  rw [Vl.val_high _ (Nt.wide f n) n m h (fun j h1 _ => by unfold Nt.wide; rw [if_neg (by omega)])]
  exact Vl.val_congr _ _ _ _ (fun j hj => by unfold Nt.wide; rw [if_pos hj])
/-- widened of a number. -/
theorem Nt.widened_num (w : World) (ax : Option Addr) (n cx x m : Nat) (hx : Nt.Num w ax n cx x) (hnm : n ≤ m) (hm : m ≤ 1000000) :
    Calls Tryz.prog 55 #[.slice ax n cx, .int .i64 (m : Int)] w fun e w' => ∃ g f, e = .returned (.slice (some ⟨g, 0, none⟩) m m) ∧ w.heap.size ≤ g ∧ Nt.Lim w' g 0 m f ∧ Vl.val 4294967296 f m = x ∧ (∀ j, n ≤ j → f j = 0) ∧ Below w.heap.size w w' := by
  obtain ⟨_, b, off, f, h1, h2, h3, _⟩ := hx
  refine (Nt.widened_any w ax b off n cx f m h1 h2 hnm hm).mono ?_
  rintro e w' ⟨g, rfl, hg, hL, hb⟩
  exact ⟨g, Nt.wide f n, rfl, hg, hL, by rw [Nt.wide_val f n m hnm]; exact h3, fun j hj => by unfold Nt.wide; rw [if_neg (by omega)], hb⟩
set_option maxHeartbeats 1000000 in
theorem Nt.sum_core (w : World) (ax ay : Option Addr) (n cx x m cy y M : Nat) (hx : Nt.Num w ax n cx x) (hy : Nt.Num w ay m cy y) (hn : n ≤ 900000) (hm : m ≤ 900000) (hM : (n < m ∧ m + 1 = M) ∨ (¬ n < m ∧ n + 1 = M)) :
    Calls Tryz.prog 35 #[.slice ax n cx, .slice ay m cy] w fun e w' => ∃ av k c, e = .returned (.slice av k c) ∧ Nt.Num w' av k c (x + y) ∧ Below w.heap.size w w' := by
  have hM1 : n + 1 ≤ M := by omega
  have hM2 : m + 1 ≤ M := by omega
  have hMb : M ≤ 1000000 := by omega
  have hlt : x + y < 4294967296 ^ M := by
    have h1 := hx.lt
    have h2 := hy.lt
    obtain ⟨K, hK⟩ : ∃ K, M = K + 1 := ⟨M - 1, by omega⟩
    have h3 : 4294967296 ^ n ≤ 4294967296 ^ K := Nat.pow_le_pow_right (by decide) (by omega)
    have h4 : 4294967296 ^ m ≤ 4294967296 ^ K := Nat.pow_le_pow_right (by decide) (by omega)
    rw [hK, Nat.pow_succ]
    omega
  have hMd := hM
  have H0 := Lib.hid (And.intro hx (And.intro hy (And.intro hM1 (And.intro hM2 (And.intro hMb hlt)))))
  clear hx hy hM1 hM2 hlt hM
  rcases hMd with ⟨hnm, hMe⟩ | ⟨hnm, hMe⟩
  all_goals
    have hMz : ((M : Nat) : Int) = (M : Int) := rfl
    first | have hMz : (m : Int) + 1 = (M : Int) := by omega | have hMz : (n : Int) + 1 = (M : Int) := by omega
    clear hMe
    go_enter Tryz.func35, Tryz.ntmps35
    go_wp2_with fail
    refine Calls.mono (Nt.widened_num w ax n cx x M H0.out.1 (by have := H0.out.2.2.1; omega) hMb) ?_
    rintro e1 w1 ⟨g, f, rfl, hg, hL, hv, hz, hb⟩
    have HA := Lib.hid (And.intro hg (And.intro hL (And.intro hv (And.intro hz hb))))
    clear hg hL hv hz hb
    go_wp2_with fail
    go_at_call 55
    refine Calls.mono (Nt.widened_num w1 ay m cy y M (H0.out.2.1.below HA.out.2.2.2.2) (by have := H0.out.2.2.2.1; omega) hMb) ?_
    rintro e2 w2 ⟨g2, f2, rfl, hg2, hL2, hv2, hz2, hb2⟩
    have HB := Lib.hid (And.intro hg2 (And.intro hL2 (And.intro hv2 (And.intro hz2 hb2))))
    clear hg2 hL2 hv2 hz2 hb2
    go_wp2_with fail
    go_at_call 56
    refine Calls.mono (Nt.addTimes_any w2 g 0 M M f g2 0 M M f2 1 (HA.out.2.1.below HB.out.2.2.2.2 HA.out.2.1.lt) HB.out.2.1 (Nat.le_refl _) hMb (by decide) (by have h1 := HA.out.2.1.lt; have h2 := HB.out.1; omega)) ?_
    rintro e3 w3 ⟨c, fo, rfl, hcb, hLo, hvo, _, hO⟩
    have HC := Lib.hid (And.intro hcb (And.intro hLo (And.intro hvo hO)))
    have HT := Lib.hid (Nt.trimmed_any w3 g 0 M M fo hLo (Nat.le_refl _) hMb)
    clear hcb hLo hvo hO
    go_wp2_with fail
    go_at_call 57
    refine Calls.mono HT.out ?_
    rintro e4 w4 ⟨rfl, k, rfl, hk, hzk, htk⟩
    have HZ := Lib.hid (And.intro hk (And.intro hzk htk))
    clear hk hzk htk
    go_wp2_with fail
    go_ret
    have hsum := HC.out.2.2.1
    rw [HA.out.2.2.1, HB.out.2.2.1, Nat.one_mul] at hsum
    have hc0 : c = 0 := by
      rcases Nat.eq_zero_or_pos c with h | h
      · exact h
      · have h5 : 4294967296 ^ M ≤ c * 4294967296 ^ M := Nat.le_mul_of_pos_left _ h
        have := H0.out.2.2.2.2.2
        omega
    rw [hc0, Nat.zero_mul, Nat.add_zero] at hsum
    refine ⟨_, _, _, rfl, ?_, ?_⟩
    · rw [← hsum]
      exact Nt.Num.of HC.out.2.1 HZ.out.1 HZ.out.1 HZ.out.2.1 HZ.out.2.2
    · exact (HA.out.2.2.2.2.trans (HB.out.2.2.2.2.mono HA.out.2.2.2.2.size)).trans (HC.out.2.2.2.below (Nat.le_trans HA.out.1 (Nat.le_refl _)) (Nat.le_trans HA.out.2.2.2.2.size HB.out.2.2.2.2.size))
theorem Nt.sum_any (w : World) (ax ay : Option Addr) (n cx x m cy y : Nat) (hx : Nt.Num w ax n cx x) (hy : Nt.Num w ay m cy y) (hn : n ≤ 900000) (hm : m ≤ 900000) :
    Calls Tryz.prog 35 #[.slice ax n cx, .slice ay m cy] w fun e w' => ∃ av k c, e = .returned (.slice av k c) ∧ Nt.Num w' av k c (x + y) ∧ Below w.heap.size w w' := by
  by_cases h : n < m
  · exact Nt.sum_core w ax ay n cx x m cy y (m + 1) hx hy hn hm (.inl ⟨h, rfl⟩)
  · exact Nt.sum_core w ax ay n cx x m cy y (n + 1) hx hy hn hm (.inr ⟨h, rfl⟩)
end Go.Proofs.YtccbnpondlncpaaGreatDoor
