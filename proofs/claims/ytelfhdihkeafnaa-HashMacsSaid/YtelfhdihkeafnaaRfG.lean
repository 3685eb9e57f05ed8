/- The reference's primes: Primes. -/
import Derived.Test.YtelfhdihkeafnaaRfF
namespace Go.Proofs.Ytelfhdihkeafnaa
open Go.RowKit

theorem Rf.getD_in (l : List Nat) (j : Nat) (h : j < l.length) : l.getD j 0 = l[j] := by simp [List.getD, h]
set_option maxHeartbeats 400000 in
set_option maxRecDepth 100000 in
theorem Rf.primes_any (w : World) :
    Calls Try.prog 24 #[.int .i64 80] w fun e w' => ∃ g cap, e = .returned (.slice (some ⟨g, 0, none⟩) 80 cap) ∧ w.heap.size ≤ g ∧ Rf.Dig w' g 80 (fun j => Rf.ps.getD j 0) ∧ Below w.heap.size w w' := by
  go_enter Try.func24, Try.ntmps24
  go_wp2_with fail
  have hO := Rf.OwnQ.empty w w.heap.size (Nat.le_refl _)
  have hB : Below w.heap.size w (w.alloc (.cells #[] 48)) := (Below.refl _ _).alloc (Nat.le_refl _) _
  obtain ⟨q, hq⟩ : ∃ q, w.heap.size = q := ⟨_, rfl⟩
  rw [hq] at hO hB ⊢
  generalize w.alloc (.cells #[] 48) = w1 at hO hB ⊢
  go_loopw [3, 4] (fun sv xv wr => ∃ (m g cap L : Nat) (l : List Nat), m ≤ 408 ∧ xv = .int .u64 ((m + 2 : Nat) : Int) ∧ sv = .slice (some ⟨g, 0, none⟩) L cap ∧ l = Rf.sv m ∧ l.length = L ∧ q ≤ g ∧ Rf.OwnQ wr q sv l ∧ Below q w wr) (fun _ xv _ => 500 - (intOf xv).toNat)
  case atStart => exact ⟨0, q, 0, 0, [], by omega, rfl, rfl, rfl, rfl, Nat.le_refl _, hO, hB⟩
  case round =>
  clear hO hB
  obtain ⟨m, g, cap, L, l, hm, rfl, rfl, hl, hL, hqg, hO, hB⟩ := hrel
  obtain ⟨w2, rfl⟩ : ∃ w2, w2 = wr := ⟨_, rfl⟩
  have hL80 : L ≤ 80 := by rw [← hL, hl]; exact Rf.sv_len m hm
  by_cases h80 : L = 80
  · subst h80
    have hfull : l = Rf.ps := by rw [hl]; exact Rf.sv_full m hm (by rw [← hl, hL]; exact Nat.le_refl _)
    have hD : Rf.Dig w2 g 80 (fun j => Rf.ps.getD j 0) := by
      rcases hO.cell with h | h
      · rwa [hL, hfull] at h
      · rw [h] at hL; simp at hL
    clear hfull hl hL
    go_wp2_with fail
    go_ret
    exact ⟨g, cap, rfl, by rw [hq]; exact hqg, hD, by rw [hq]; exact hB⟩
  · have hLz : (L : Int) < 80 := by omega
    have hm2 : m < 408 := by
      rcases Nat.lt_or_ge m 408 with h | h
      · exact h
      · obtain rfl : m = 408 := by omega
        rw [Rf.sv_ps] at hl
        rw [hl] at hL
        exact absurd hL.symm h80
    have hD : Rf.Dig w2 g L (fun j => l.getD j 0) := by
      rcases hO.cell with h | h
      · rwa [hL] at h
      · obtain rfl : L = 0 := by rw [← hL, h]; rfl
        exact ⟨fun j hj => absurd hj (by omega), by
          rcases hO.2 with ⟨hv, _⟩ | ⟨g', _, _, hv, _, hgg, _⟩
          · simp at hv
          · simp only [Value.slice.injEq, Option.some.injEq, Addr.mk.injEq] at hv
            rw [hv.1.1]; exact (Array.getElem?_eq_some_iff.1 hgg).1⟩
    have htwo : ∀ j, j < L → 2 ≤ l.getD j 0 ∧ l.getD j 0 < 2000 := by
      intro j hj
      have hj2 : j < l.length := by omega
      have := Rf.sv_two m (l.getD j 0) (by rw [Rf.getD_in _ _ hj2, ← hl]; exact List.getElem_mem hj2)
      omega
    obtain ⟨x, hx⟩ : ∃ x, m + 2 = x := ⟨_, rfl⟩
    rw [hx]
    have hx2 : x ≤ 409 := by omega
    have HL := Lib.hid (And.intro hl hL)
    have HX := Lib.hid hx
    clear hl hL hx h80
    go_wp2_with fail
    go_loopw [5, 6] (fun bv iv wr => ∃ (i : Nat) (b : Bool), i ≤ L ∧ bv = .bool b ∧ iv = .int .i64 (i : Int) ∧ b = (l.take i).all (fun p => x % p != 0) ∧ wr = w2) (fun _ iv _ => L - (intOf iv).toNat)
    case atStart => exact ⟨0, true, by omega, rfl, rfl, rfl, rfl⟩
    case round =>
    obtain ⟨i, b, hi, rfl, rfl, hb, hw⟩ := hrel
    by_cases hiL : i < L
    · have hiz : (i : Int) < (L : Int) := by omega
      have hi0 : 0 ≤ (i : Int) := by omega
      have ci := hD.cell i hiL
      have hp := htwo i hiL
      have hnext : ((l.take (i + 1)).all (fun p => x % p != 0)) = (b && (x % l.getD i 0 != 0)) := by
        have hi2 : i < l.length := by have := HL.out.2; omega
        rw [List.take_add_one, List.all_append, ← hb, List.getElem?_eq_getElem hi2, Rf.getD_in _ _ hi2]
        simp
      obtain ⟨p, hpp⟩ : ∃ p, l.getD i 0 = p := ⟨_, rfl⟩
      rw [hpp] at hnext hp
      have ci : wr.cell? ⟨g, i, none⟩ = some (.int .u64 (p : Int)) := by rw [hw, ci, hpp]
      have HN := Lib.hid hnext
      have HW := Lib.hid hw
      have hp0 : ¬ (p : Int) = 0 := by omega
      have hp00 : ((p : Int) == 0) = false := by rw [beq_eq_false_iff_ne]; omega
      have hmod : (x : Int).tmod (p : Int) = ((x % p : Nat) : Int) := by rw [Int.tmod_eq_emod_of_nonneg (by omega)]; simp
      have hmod2 : (x : Int) % (p : Int) = ((x % p : Nat) : Int) := by simp
      obtain ⟨r, hr⟩ : ∃ r, x % p = r := ⟨_, rfl⟩
      rw [hr] at hmod hmod2
      have HR := Lib.hid hr
      clear hb hnext hpp hr hw
      cases b
      · go_wp2_with fail
        exact ⟨⟨i + 1, false, by omega, rfl, by go_num, by rw [HN.out]; rfl, HW.out⟩, by simp [intOf]; omega⟩
      · by_cases hr0 : r = 0
        · subst hr0
          go_wp2_with fail
          exact ⟨⟨i + 1, false, by omega, by simp, by go_num, by rw [HN.out, HR.out]; rfl, HW.out⟩, by simp [intOf]; omega⟩
        · have hrz : ((r : Int) != 0) = true := by rw [bne_iff_ne]; omega
          go_wp2_with fail
          exact ⟨⟨i + 1, true, by omega, rfl, by go_num, by rw [HN.out, HR.out]; simp [hr0], HW.out⟩, by simp [intOf]; omega⟩
    · obtain rfl : i = L := by omega
      have hiz : ¬ (i : Int) < (i : Int) := by omega
      rw [List.take_of_length_le (by rw [HL.out.2]; exact Nat.le_refl _)] at hb
      subst hw
      have hsv : Rf.sv (m + 1) = if b then l ++ [x] else l := by
        rw [Rf.sv, HX.out, ← HL.out.1, ← hb]
      have HS := Lib.hid hsv
      have hll : l.length ≤ 1000 := by rw [HL.out.2]; omega
      have hqs : q ≤ wr.heap.size := by rw [← hq]; exact hB.size
      clear hb hsv
      cases b
      · go_wp2_with fail
        exact ⟨⟨m + 1, g, cap, i, l, by omega, by have := HX.out; congr 1; omega, rfl, by rw [HS.out]; rfl, HL.out.2, hqg, hO, hB⟩, by simp [intOf]; omega⟩
      · go_wp2_with (at_builtin; refine Rf.appendQ rfl _ _ rfl q _ _ rfl (Rf.OwnQ.alloc hO _) ⟨_, 0, none⟩ 1 [x] rfl (World.news_of_block (heap_alloc_new _ _)) (by simp; omega) (by simp; omega) ?_; intro v1 w1 hown1 hb1 hz1)
        obtain ⟨g1, cap1, rfl, hg1⟩ := hown1.at (by simp)
        exact ⟨⟨m + 1, g1, cap1, _, l ++ [x], by omega, by have := HX.out; congr 1; omega, rfl, by rw [HS.out]; rfl, rfl, hg1, hown1, (hB.alloc hqs _).trans hb1⟩, by simp [intOf]; omega⟩
end Go.Proofs.Ytelfhdihkeafnaa
