/- Numbers as slices of limbs without noughts at the end; parts of a block of limbs. -/
import Derived.Test.YtccbnpondlncpaaGreatDoorNtM
namespace Go.Proofs.YtccbnpondlncpaaGreatDoor
open Go.RowKit

/-- f, but from limb i on m limbs of g. -/
def Nt.mid (f : Nat → Nat) (i m : Nat) (g : Nat → Nat) (j : Nat) : Nat := if i ≤ j ∧ j < i + m then g (j - i) else f j
theorem Nt.mid_val (f : Nat → Nat) (i m : Nat) (g : Nat → Nat) : Vl.val 4294967296 (Nt.mid f i m g) (i + m) = Vl.val 4294967296 f i + Vl.val 4294967296 g m * 4294967296 ^ i := by
  rw [Nt.val_split]
  rw [Vl.val_congr 4294967296 (Nt.mid f i m g) f i (fun j hj => by unfold Nt.mid; rw [if_neg (by omega)])]
  rw [Vl.val_congr 4294967296 (fun j => Nt.mid f i m g (i + j)) g m (fun j hj => by unfold Nt.mid; rw [if_pos ⟨by omega, by omega⟩, show i + j - i = j by omega])]
theorem Nt.Lim.shift {w : World} {b off N : Nat} {f : Nat → Nat} (h : Nt.Lim w b off N f) (i m : Nat) (hi : i + m ≤ N) : Nt.Lim w b (off + i) m (fun j => f (i + j)) :=
  ⟨fun j hj => by rw [Nat.add_assoc]; exact h.cell (i + j) (by omega), fun j hj => by rw [Nat.add_assoc]; exact h.fro (i + j) (by omega), fun j => h.dig _, h.lt⟩
theorem Nt.Lim.put {w w' : World} {b off N : Nat} {f : Nat → Nat} (h : Nt.Lim w b off N f) (i m : Nat) {g : Nat → Nat} (hg : Nt.Lim w' b (off + i) m g) (ho : Nt.Only b (off + i) m w w') : Nt.Lim w' b off N (Nt.mid f i m g) := by
  refine ⟨fun j hj => ?_, fun j hj => ?_, fun j => ?_, hg.lt⟩
  · unfold Nt.mid
    by_cases c : i ≤ j ∧ j < i + m
    · rw [if_pos c]
      have := hg.cell (j - i) (by omega)
      rwa [show off + i + (j - i) = off + j by omega] at this
    · rw [if_neg c, ho.cell _ (by omega)]
      exact h.cell j hj
  · rw [ho.fro]
    exact h.fro j hj
  · unfold Nt.mid
    split
    · exact hg.dig _
    · exact h.dig _
theorem Nt.Only.part {b off N i m : Nat} {w w' : World} (h : Nt.Only b (off + i) m w w') (hi : i + m ≤ N) : Nt.Only b off N w w' := ⟨h.os, h.tape, h.output, h.size, h.block, fun o ho => h.cell o (by omega), h.fro⟩
theorem Nt.Only.below {b off n B : Nat} {w w' : World} (h : Nt.Only b off n w w') (hb : B ≤ b) (hB : B ≤ w.heap.size) : Below B w w' := ⟨h.os, h.tape, h.output, h.size, fun k hk => h.block k (by omega) (by omega)⟩
theorem Nt.drewN_heap (w : World) (k : Nat) : (w.drewN k).heap = w.heap := by
  induction k with
  | zero => rfl
  | succ k ih => exact ih
theorem Nt.Lim.top {w : World} {b off n : Nat} {f : Nat → Nat} (h : Nt.Lim w b off n f) (m : Nat) (hm : m ≤ n) : Nt.Lim w b off m f := ⟨fun j hj => h.cell j (by omega), fun j hj => h.fro j (by omega), h.dig, h.lt⟩

/-- The slice of n limbs at ax is the number x: least first, the last one not 0. -/
structure Nt.Num (w : World) (ax : Option Addr) (n cx x : Nat) : Prop where
  cap : n ≤ cx
  ex : ∃ b off f, (0 < n → ax = some ⟨b, off, none⟩ ∧ Nt.Lim w b off n f) ∧ (∀ j, f j < 4294967296) ∧ Vl.val 4294967296 f n = x ∧ (n = 0 ∨ f (n - 1) ≠ 0)
theorem Nt.Num.nil (w : World) : Nt.Num w none 0 0 0 := ⟨Nat.le_refl _, 0, 0, fun _ => 0, fun h => absurd h (Nat.lt_irrefl 0), fun _ => (show (0 : Nat) < 4294967296 by decide), rfl, .inl rfl⟩
theorem Nt.Num.below {w w' : World} {ax : Option Addr} {n cx x : Nat} (h : Nt.Num w ax n cx x) (hb : Below w.heap.size w w') : Nt.Num w' ax n cx x := by
  obtain ⟨hc, b, off, f, h1, h2, h3, h4⟩ := h
  exact ⟨hc, b, off, f, fun h0 => ⟨(h1 h0).1, (h1 h0).2.below hb (h1 h0).2.lt⟩, h2, h3, h4⟩
theorem Nt.Num.drewN {w : World} {ax : Option Addr} {n cx x : Nat} (h : Nt.Num w ax n cx x) (k : Nat) : Nt.Num (w.drewN k) ax n cx x := h.below (below_drewN (Below.refl _ _) k)
theorem Nt.Num.zero {w : World} {ax : Option Addr} {n cx x : Nat} (h : Nt.Num w ax n cx x) : n = 0 ↔ x = 0 := by
  obtain ⟨_, b, off, f, _, h2, h3, h4⟩ := h
  constructor
  · rintro rfl
    rw [← h3]
    rfl
  · intro hx
    rcases h4 with h | h
    · exact h
    · rcases Nat.eq_zero_or_pos n with h0 | h0
      · exact h0
      · exfalso
        obtain ⟨m, rfl⟩ : ∃ m, n = m + 1 := ⟨n - 1, by omega⟩
        rw [hx] at h3
        unfold Vl.val at h3
        have : f m * 4294967296 ^ m = 0 := by omega
        rcases Nat.mul_eq_zero.1 this with h5 | h5
        · exact h h5
        · have := Nat.pow_pos (n := m) (show 0 < 4294967296 by decide)
          omega
/-- A number below B^m has m limbs at most. -/
theorem Nt.Num.len {w : World} {ax : Option Addr} {n cx x : Nat} (h : Nt.Num w ax n cx x) (m : Nat) (hx : x < 4294967296 ^ m) : n ≤ m := by
  obtain ⟨_, b, off, f, _, h2, h3, h4⟩ := h
  rcases h4 with rfl | h4
  · omega
  · rcases Nat.lt_or_ge m n with h0 | h0
    · exfalso
      obtain ⟨k, rfl⟩ : ∃ k, n = k + 1 := ⟨n - 1, by omega⟩
      unfold Vl.val at h3
      have h5 : 1 ≤ f k := Nat.pos_of_ne_zero h4
      have h6 : 4294967296 ^ k ≤ f k * 4294967296 ^ k := Nat.le_mul_of_pos_left _ h5
      have h7 : 4294967296 ^ m ≤ 4294967296 ^ k := Nat.pow_le_pow_right (by decide) (by omega)
      omega
    · exact h0
theorem Nt.Num.lt {w : World} {ax : Option Addr} {n cx x : Nat} (h : Nt.Num w ax n cx x) : x < 4294967296 ^ n := by
  obtain ⟨_, b, off, f, _, h2, h3, h4⟩ := h
  rw [← h3]
  exact Vl.val_lt _ (by decide) f n (fun j _ => h2 j)
theorem Nt.Num.mono {w : World} {ax ay : Option Addr} {n cx x m cy y : Nat} (h : Nt.Num w ax n cx x) (g : Nt.Num w ay m cy y) (hxy : x ≤ y) : n ≤ m := h.len m (Nat.lt_of_le_of_lt hxy g.lt)
/-- What trimmed leaves of a block. -/
theorem Nt.Num.of {w : World} {b off N m c : Nat} {f : Nat → Nat} (h : Nt.Lim w b off N f) (hm : m ≤ N) (hc : m ≤ c) (hz : ∀ j, m ≤ j → j < N → f j = 0) (ht : m = 0 ∨ f (m - 1) ≠ 0) : Nt.Num w (some ⟨b, off, none⟩) m c (Vl.val 4294967296 f N) :=
  ⟨hc, b, off, f, fun _ => ⟨rfl, h.top m hm⟩, h.dig, (Vl.val_high _ f m N hm hz).symm, ht⟩
end Go.Proofs.YtccbnpondlncpaaGreatDoor
