/- The reference: Long. -/
import Derived.Test.YtccbnpondlncpaaGreatDoorRnM
namespace Go.Proofs.YtccbnpondlncpaaGreatDoor
open Go.RowKit
set_option maxHeartbeats 1000000 in
set_option maxRecDepth 100000 in
theorem Rn.Long_any (w : World) (p n c : Nat) (s : Nat → ByteArray) (B : Bool) (hc : ∀ j, j < n → w.cell? ⟨p, j, none⟩ = some (.string (s j))) (hs : ∀ j, j < n → (s j).size ≤ 9223372036854775807) (hn : n ≤ 1000)
    (hB : (B = false ∧ ∀ j, j < n → (s j).size ≤ 512) ∨ (B = true ∧ ∃ j, j < n ∧ 512 < (s j).size)) :
    Calls Tryz.prog 13 #[.slice (some ⟨p, 0, none⟩) n c] w fun e w' => e = .returned (.bool B) ∧ w' = w := by
  have H0 := Lib.hid (And.intro hc (And.intro hs hB))
  clear hc hs hB
  go_enter Tryz.func13, Tryz.ntmps13
  go_wp2_with fail
  go_loop [3] (fun v => ∃ (i : Nat), i ≤ n ∧ v = .int .i64 (i : Int) ∧ ∀ j, j < i → (s j).size ≤ 512) (fun v => n - (intOf v).toNat)
  case atStart => exact ⟨0, Nat.zero_le _, rfl, fun j h => by omega⟩
  case round =>
  obtain ⟨i, hi, rfl, hz⟩ := hrel
  by_cases hin : i < n
  · have hiz : (i : Int) < (n : Int) := by omega
    have hi0 : 0 ≤ (i : Int) := by omega
    have hib : (i : Int) ≤ 1000 := by omega
    have ci := H0.out.1 i hin
    have zi := H0.out.2.1 i hin
    have hall := H0.out.2.2
    obtain ⟨t, ht⟩ : ∃ t, s i = t := ⟨_, rfl⟩
    rw [ht] at ci zi
    by_cases hl : 512 < t.size
    · have hlz : (512 : Int) < (t.size : Int) := by omega
      have hb : B = true := by
        rcases hall with ⟨_, h⟩ | ⟨h, _⟩
        · have := h i hin
          rw [ht] at this
          omega
        · exact h
      subst hb
      clear hall hz hl
      go_wp2_with fail
      go_ret
      exact ⟨rfl, rfl⟩
    · have hlz : ¬ (512 : Int) < (t.size : Int) := by omega
      have HZ := Lib.hid (And.intro hz (And.intro ht hl))
      clear hall hz hl ht
      go_wp2_with fail
      refine ⟨⟨i + 1, by omega, by go_num, fun j hj => ?_⟩, by simp [intOf]; omega⟩
      by_cases hji : j = i
      · rw [hji, HZ.out.2.1]; exact Nat.le_of_not_lt HZ.out.2.2
      · exact HZ.out.1 j (by omega)
  · have hiz : ¬ (i : Int) < (n : Int) := by omega
    have hb : B = false := by
      rcases H0.out.2.2 with ⟨h, _⟩ | ⟨_, j, hj, h⟩
      · exact h
      · have := hz j (by omega)
        omega
    subst hb
    clear hz
    go_wp2_with fail
    go_ret
    exact ⟨rfl, rfl⟩
theorem Rn.parity (f : Nat → Nat) (hf : ∀ j, f j < 65536) : ∀ n, 0 < n → Vl.val 65536 f n % 2 = f 0 % 2
  | 0, h => absurd h (by decide)
  | 1, _ => by show (0 + f 0 * 65536 ^ 0) % 2 = _; rw [Nat.pow_zero, Nat.mul_one, Nat.zero_add]
  | n + 2, _ => by
    rw [Vl.val, Nat.pow_succ, ← Nat.mul_assoc]
    have := Rn.parity f hf (n + 1) (by omega)
    omega
/-- The lowest digit of a number above 0. -/
theorem Rn.Num.low {w : World} {ax : Option Addr} {n cx x : Nat} (h : Rn.Num w ax n cx x) (h0 : 0 < x) : 0 < n ∧ ∃ (b off u : Nat), ax = some ⟨b, off, none⟩ ∧ w.cell? ⟨b, off, none⟩ = some (.int .u64 (u : Int)) ∧ x % 2 = u % 2 ∧ u < 65536 := by
  have hn : 0 < n := Nat.pos_of_ne_zero fun e => by have := h.zero.1 e; omega
  obtain ⟨_, b, off, f, hL, hd, hv, _⟩ := h
  obtain ⟨rfl, hL2⟩ := hL hn
  exact ⟨hn, b, off, f 0, rfl, hL2.cell 0 hn, by rw [← hv]; exact Rn.parity f hd n hn, hd 0⟩
theorem Rn.strs_cell {W : World} {p : Nat} {T : TypeId} {l : List Value} (h : W.heap[p]? = some (.cells l.toArray T (0, 0))) (j : Nat) (v : Value) (hl : l[j]? = some v) : W.cell? ⟨p, j, none⟩ = some v := by
  simp only [World.cell?, h]
  simpa using hl
theorem Rn.Long_three (W : World) (p : Nat) (T : TypeId) (a e m : ByteArray) (B : Bool) (h : W.heap[p]? = some (.cells #[.string a, .string e, .string m] T (0, 0)))
    (ha : a.size ≤ 9223372036854775807) (he : e.size ≤ 9223372036854775807) (hm : m.size ≤ 9223372036854775807) (hB : (B = false ∧ a.size ≤ 512 ∧ e.size ≤ 512 ∧ m.size ≤ 512) ∨ (B = true ∧ (512 < a.size ∨ 512 < e.size ∨ 512 < m.size))) :
    Calls Tryz.prog 13 #[.slice (some ⟨p, 0, none⟩) 3 3] W fun e w' => e = .returned (.bool B) ∧ w' = W := by
  refine Rn.Long_any W p 3 3 (fun j => if j = 0 then a else if j = 1 then e else m) B (fun j hj => ?_) (fun j hj => ?_) (by decide) ?_
  · refine Rn.strs_cell (l := [.string a, .string e, .string m]) h j _ ?_
    rcases j with _ | _ | _ | j
    · rfl
    · rfl
    · rfl
    · omega
  · rcases j with _ | _ | _ | j
    · exact ha
    · exact he
    · exact hm
    · omega
  · rcases hB with ⟨h0, h1, h2, h3⟩ | ⟨h0, h1⟩
    · refine .inl ⟨h0, fun j hj => ?_⟩
      rcases j with _ | _ | _ | j
      · exact h1
      · exact h2
      · exact h3
      · omega
    · refine .inr ⟨h0, ?_⟩
      rcases h1 with h1 | h1 | h1
      · exact ⟨0, by decide, h1⟩
      · exact ⟨1, by decide, h1⟩
      · exact ⟨2, by decide, h1⟩
theorem Rn.Long_two (W : World) (p : Nat) (T : TypeId) (a m : ByteArray) (B : Bool) (h : W.heap[p]? = some (.cells #[.string a, .string m] T (0, 0)))
    (ha : a.size ≤ 9223372036854775807) (hm : m.size ≤ 9223372036854775807) (hB : (B = false ∧ a.size ≤ 512 ∧ m.size ≤ 512) ∨ (B = true ∧ (512 < a.size ∨ 512 < m.size))) :
    Calls Tryz.prog 13 #[.slice (some ⟨p, 0, none⟩) 2 2] W fun e w' => e = .returned (.bool B) ∧ w' = W := by
  refine Rn.Long_any W p 2 2 (fun j => if j = 0 then a else m) B (fun j hj => ?_) (fun j hj => ?_) (by decide) ?_
  · refine Rn.strs_cell (l := [.string a, .string m]) h j _ ?_
    rcases j with _ | _ | j
    · rfl
    · rfl
    · omega
  · rcases j with _ | _ | j
    · exact ha
    · exact hm
    · omega
  · rcases hB with ⟨h0, h1, h2⟩ | ⟨h0, h1⟩
    · refine .inl ⟨h0, fun j hj => ?_⟩
      rcases j with _ | _ | j
      · exact h1
      · exact h2
      · omega
    · refine .inr ⟨h0, ?_⟩
      rcases h1 with h1 | h1
      · exact ⟨0, by decide, h1⟩
      · exact ⟨1, by decide, h1⟩
end Go.Proofs.YtccbnpondlncpaaGreatDoor
