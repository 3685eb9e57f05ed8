/- Plain lists: UTF-8, runes, units of 16 bits, there and back. -/
import Derived.Lib.TrimUEq
import Derived.Lib.ValidLaws
namespace Go.Proofs.YtbemgeicpbcdhaaDoor
open Go.Lib

/-- A rune: no surrogate, not above 10FFFF. -/
def Tx.Rune (r : Nat) : Prop := r < 55296 ∨ (57344 ≤ r ∧ r ≤ 1114111)
instance (r : Nat) : Decidable (Tx.Rune r) := by unfold Tx.Rune; infer_instance
/-- The UTF-8 of a rune. -/
def Tx.enc (r : Nat) : List UInt8 :=
  if r < 128 then [UInt8.ofNat r]
  else if r < 2048 then [UInt8.ofNat (192 + r / 64), UInt8.ofNat (128 + r % 64)]
  else if r < 65536 then [UInt8.ofNat (224 + r / 4096), UInt8.ofNat (128 + r / 64 % 64), UInt8.ofNat (128 + r % 64)]
  else [UInt8.ofNat (240 + r / 262144), UInt8.ofNat (128 + r / 4096 % 64), UInt8.ofNat (128 + r / 64 % 64), UInt8.ofNat (128 + r % 64)]
theorem Tx.enc_pos (r : Nat) : 1 ≤ (Tx.enc r).length ∧ (Tx.enc r).length ≤ 4 := by
  unfold Tx.enc; split
  · simp
  · split
    · simp
    · split <;> simp

set_option maxHeartbeats 4000000 in
theorem Tx.decodeN_good (n b0 b1 b2 b3 r k : Nat) (h0 : b0 < 256) (h1 : b1 < 256) (h2 : b2 < 256) (_h3 : b3 < 256) (h : decodeN n b0 b1 b2 b3 = (r, k)) (hg : ¬ (r = 65533 ∧ k = 1)) :
    Tx.Rune r ∧ ((k = 1 ∧ r < 128 ∧ b0 = r) ∨ (k = 2 ∧ 2 ≤ n ∧ 128 ≤ r ∧ r < 2048 ∧ b0 = 192 + r / 64 ∧ b1 = 128 + r % 64) ∨
      (k = 3 ∧ 3 ≤ n ∧ 2048 ≤ r ∧ r < 65536 ∧ b0 = 224 + r / 4096 ∧ b1 = 128 + r / 64 % 64 ∧ b2 = 128 + r % 64) ∨
      (k = 4 ∧ 4 ≤ n ∧ 65536 ≤ r ∧ r ≤ 1114111 ∧ b0 = 240 + r / 262144 ∧ b1 = 128 + r / 4096 % 64 ∧ b2 = 128 + r / 64 % 64 ∧ b3 = 128 + r % 64)) := by
  unfold decodeN at h
  unfold Tx.Rune
  repeat' split at h
  all_goals
    obtain ⟨e1, e2⟩ := Prod.mk.inj h
    first | (exfalso; exact hg ⟨e1.symm, e2.symm⟩) | (subst e1 e2; refine ⟨by omega, ?_⟩; omega)

set_option maxHeartbeats 4000000 in
theorem Tx.decodeN_enc (n b0 b1 b2 b3 r : Nat) (hr : Tx.Rune r)
    (h : (r < 128 ∧ b0 = r) ∨ (2 ≤ n ∧ 128 ≤ r ∧ r < 2048 ∧ b0 = 192 + r / 64 ∧ b1 = 128 + r % 64) ∨
      (3 ≤ n ∧ 2048 ≤ r ∧ r < 65536 ∧ b0 = 224 + r / 4096 ∧ b1 = 128 + r / 64 % 64 ∧ b2 = 128 + r % 64) ∨
      (4 ≤ n ∧ 65536 ≤ r ∧ b0 = 240 + r / 262144 ∧ b1 = 128 + r / 4096 % 64 ∧ b2 = 128 + r / 64 % 64 ∧ b3 = 128 + r % 64)) :
    decodeN n b0 b1 b2 b3 = (r, if r < 128 then 1 else if r < 2048 then 2 else if r < 65536 then 3 else 4) := by
  unfold Tx.Rune at hr
  unfold decodeN
  repeat' split
  all_goals first | (exfalso; omega) | (apply Prod.ext <;> simp only <;> omega)

theorem Tx.o8 (n : Nat) (h : n < 256) : (UInt8.ofNat n).toNat = n := by simp; omega
theorem Tx.t8 (c : UInt8) (n : Nat) (h : c.toNat = n) : c = UInt8.ofNat n := by rw [← h]; simp

/-- What is decoded is the rune whose UTF-8 the bytes begin with. -/
theorem Tx.decodeL_good (l : List UInt8) (hl : l ≠ []) (hg : ¬ ((decodeL l).1 = 65533 ∧ (decodeL l).2 = 1)) :
    Tx.Rune (decodeL l).1 ∧ l.take (decodeL l).2 = Tx.enc (decodeL l).1 ∧ (decodeL l).2 = (Tx.enc (decodeL l).1).length := by
  have hd := decodeL_N l
  generalize he : decodeL l = p at *
  obtain ⟨r, k⟩ := p
  simp only at hg ⊢
  obtain ⟨hr, hc⟩ := Tx.decodeN_good _ _ _ _ _ r k (UInt8.toNat_lt _) (UInt8.toNat_lt _) (UInt8.toNat_lt _) (UInt8.toNat_lt _) hd.symm hg
  refine ⟨hr, ?_⟩
  rcases hc with ⟨rfl, h1, e0⟩ | ⟨rfl, hn2, h1, h2, e0, e1⟩ | ⟨rfl, hn3, h1, h2, e0, e1, e2⟩ | ⟨rfl, hn4, h1, h2, e0, e1, e2, e3⟩
  · match l, hl with
    | a :: t, _ =>
      simp only [List.getD_cons_zero] at e0
      simp [Tx.enc, h1, Tx.t8 a r e0]
  · match l, hn2 with
    | a :: b :: t, _ =>
      simp only [List.getD_cons_zero, List.getD_cons_succ] at e0 e1
      simp [Tx.enc, show ¬ r < 128 by omega, h2, Tx.t8 a _ e0, Tx.t8 b _ e1]
  · match l, hn3 with
    | a :: b :: c :: t, _ =>
      simp only [List.getD_cons_zero, List.getD_cons_succ] at e0 e1 e2
      simp [Tx.enc, show ¬ r < 128 by omega, show ¬ r < 2048 by omega, h2, Tx.t8 a _ e0, Tx.t8 b _ e1, Tx.t8 c _ e2]
  · match l, hn4 with
    | a :: b :: c :: d :: t, _ =>
      simp only [List.getD_cons_zero, List.getD_cons_succ] at e0 e1 e2 e3
      simp [Tx.enc, show ¬ r < 128 by omega, show ¬ r < 2048 by omega, show ¬ r < 65536 by omega, Tx.t8 a _ e0, Tx.t8 b _ e1, Tx.t8 c _ e2, Tx.t8 d _ e3]

/-- The UTF-8 of a rune is decoded as it, whatever stands behind. -/
theorem Tx.decodeL_enc (r : Nat) (hr : Tx.Rune r) (t : List UInt8) : decodeL (Tx.enc r ++ t) = (r, (Tx.enc r).length) := by
  have hb : r ≤ 1114111 := by unfold Tx.Rune at hr; omega
  rw [decodeL_N]
  by_cases h1 : r < 128
  · simp only [Tx.enc, if_pos h1, List.cons_append, List.nil_append, List.getD_cons_zero]
    rw [Tx.decodeN_enc _ _ _ _ _ r hr (Or.inl ⟨h1, Tx.o8 _ (by omega)⟩), if_pos h1]; rfl
  · by_cases h2 : r < 2048
    · simp only [Tx.enc, if_neg h1, if_pos h2, List.cons_append, List.nil_append, List.getD_cons_zero, List.getD_cons_succ]
      rw [Tx.decodeN_enc _ _ _ _ _ r hr (Or.inr (Or.inl ⟨by simp, by omega, h2, Tx.o8 _ (by omega), Tx.o8 _ (by omega)⟩)), if_neg h1, if_pos h2]; rfl
    · by_cases h3 : r < 65536
      · simp only [Tx.enc, if_neg h1, if_neg h2, if_pos h3, List.cons_append, List.nil_append, List.getD_cons_zero, List.getD_cons_succ]
        rw [Tx.decodeN_enc _ _ _ _ _ r hr (Or.inr (Or.inr (Or.inl ⟨by simp, by omega, h3, Tx.o8 _ (by omega), Tx.o8 _ (by omega), Tx.o8 _ (by omega)⟩))), if_neg h1, if_neg h2, if_pos h3]; rfl
      · simp only [Tx.enc, if_neg h1, if_neg h2, if_neg h3, List.cons_append, List.nil_append, List.getD_cons_zero, List.getD_cons_succ]
        rw [Tx.decodeN_enc _ _ _ _ _ r hr (Or.inr (Or.inr (Or.inr ⟨by simp, by omega, Tx.o8 _ (by omega), Tx.o8 _ (by omega), Tx.o8 _ (by omega), Tx.o8 _ (by omega)⟩))), if_neg h1, if_neg h2, if_neg h3]; rfl

/-- The runes of bytes, none where they are no UTF-8. -/
def Tx.runesN : Nat → List UInt8 → Option (List Nat)
  | 0, _ => some []
  | n + 1, l => if l = [] then some [] else if (decodeL l).1 = 65533 ∧ (decodeL l).2 = 1 then none else (Tx.runesN n (l.drop (decodeL l).2)).map ((decodeL l).1 :: ·)
def Tx.runes (l : List UInt8) : Option (List Nat) := Tx.runesN l.length l
theorem Tx.runesN_nil : ∀ n, Tx.runesN n [] = some [] := by intro n; cases n <;> simp [Tx.runesN]
theorem Tx.runesN_fuel : ∀ (n m : Nat) (l : List UInt8), l.length ≤ n → l.length ≤ m → Tx.runesN n l = Tx.runesN m l
  | 0, m, l, h, _ => by
    have : l = [] := List.length_eq_zero_iff.1 (by omega)
    subst this; rw [Tx.runesN_nil, Tx.runesN_nil]
  | n + 1, 0, l, _, h => by
    have : l = [] := List.length_eq_zero_iff.1 (by omega)
    subst this; rw [Tx.runesN_nil, Tx.runesN_nil]
  | n + 1, m + 1, l, h, h' => by
    have hw := decodeL_width l
    simp only [Tx.runesN]
    rw [Tx.runesN_fuel n m (l.drop (decodeL l).2) (by simp; omega) (by simp; omega)]
theorem Tx.runes_nil : Tx.runes [] = some [] := rfl
theorem Tx.runes_step (l : List UInt8) (hl : l ≠ []) : Tx.runes l = if (decodeL l).1 = 65533 ∧ (decodeL l).2 = 1 then none else (Tx.runes (l.drop (decodeL l).2)).map ((decodeL l).1 :: ·) := by
  have hw := decodeL_width l
  have hn : 1 ≤ l.length := by cases l; exact absurd rfl hl; simp
  unfold Tx.runes
  obtain ⟨n, e⟩ : ∃ n, l.length = n + 1 := ⟨l.length - 1, by omega⟩
  rw [e]
  simp only [Tx.runesN, if_neg hl]
  rw [Tx.runesN_fuel n _ _ (by simp; omega) (Nat.le_refl _)]
/-- validD tells whether there are runes. -/
theorem Tx.valid_runes : ∀ (n : Nat) (l : List UInt8), l.length ≤ n → validD l = (Tx.runes l).isSome
  | 0, l, h => by
    have : l = [] := List.length_eq_zero_iff.1 (by omega)
    subst this; rfl
  | n + 1, l, h => by
    by_cases hl : l = []
    · subst hl; rfl
    · have hw := decodeL_width l
      have hn : 1 ≤ l.length := by cases l; exact absurd rfl hl; simp
      rw [validD_step l hl, Tx.runes_step l hl]
      split
      · rfl
      · rw [Tx.valid_runes n _ (by simp; omega)]; simp
def Tx.flat (rs : List Nat) : List UInt8 := rs.flatMap Tx.enc
theorem Tx.enc_ne (r : Nat) (t : List UInt8) : Tx.enc r ++ t ≠ [] := by
  have := (Tx.enc_pos r).1; intro h; have h2 := congrArg List.length h; rw [List.length_append, List.length_nil] at h2; omega
theorem Tx.not_bad (r : Nat) (_hr : Tx.Rune r) : ¬ (r = 65533 ∧ (Tx.enc r).length = 1) := by
  rintro ⟨rfl, h⟩
  have : (Tx.enc 65533).length = 3 := by decide
  omega
theorem Tx.runes_enc (r : Nat) (hr : Tx.Rune r) (t : List UInt8) : Tx.runes (Tx.enc r ++ t) = (Tx.runes t).map (r :: ·) := by
  rw [Tx.runes_step _ (Tx.enc_ne r t), Tx.decodeL_enc r hr t, if_neg (Tx.not_bad r hr)]
  simp
theorem Tx.runes_flat (rs : List Nat) (h : ∀ r ∈ rs, Tx.Rune r) (t : List UInt8) : Tx.runes (Tx.flat rs ++ t) = (Tx.runes t).map (rs ++ ·) := by
  induction rs with
  | nil => simp [Tx.flat]
  | cons r rs ih =>
    have h1 : Tx.flat (r :: rs) ++ t = Tx.enc r ++ (Tx.flat rs ++ t) := by simp [Tx.flat]
    rw [h1, Tx.runes_enc r (h r (by simp)), ih (fun x hx => h x (by simp [hx]))]
    simp [Option.map_map, Function.comp_def]
theorem Tx.runes_flat' (rs : List Nat) (h : ∀ r ∈ rs, Tx.Rune r) : Tx.runes (Tx.flat rs) = some rs := by
  have := Tx.runes_flat rs h []
  simpa [Tx.runes_nil] using this
theorem Tx.runes_some : ∀ (n : Nat) (l : List UInt8) (rs : List Nat), l.length ≤ n → Tx.runes l = some rs → l = Tx.flat rs ∧ ∀ r ∈ rs, Tx.Rune r
  | 0, l, rs, h, e => by
    have : l = [] := List.length_eq_zero_iff.1 (by omega)
    subst this; rw [Tx.runes_nil] at e; simp only [Option.some.injEq] at e; subst e; simp [Tx.flat]
  | n + 1, l, rs, h, e => by
    by_cases hl : l = []
    · subst hl; rw [Tx.runes_nil] at e; simp only [Option.some.injEq] at e; subst e; simp [Tx.flat]
    · have hw := decodeL_width l
      have hn : 1 ≤ l.length := by cases l; exact absurd rfl hl; simp
      rw [Tx.runes_step l hl] at e
      split at e
      · simp at e
      · rename_i hg
        obtain ⟨hr, h1, _⟩ := Tx.decodeL_good l hl hg
        obtain ⟨rs', e1, e2⟩ := Option.map_eq_some_iff.1 e
        obtain ⟨h3, h4⟩ := Tx.runes_some n _ rs' (by simp; omega) e1
        subst e2
        refine ⟨?_, ?_⟩
        · exact (List.take_append_drop (decodeL l).2 l).symm.trans (by rw [h1, h3]; simp [Tx.flat])
        · intro r hr'
          rcases List.mem_cons.1 hr' with rfl | h5
          · exact hr
          · exact h4 r h5
theorem Tx.runes_iff (l : List UInt8) (rs : List Nat) : Tx.runes l = some rs ↔ l = Tx.flat rs ∧ ∀ r ∈ rs, Tx.Rune r :=
  ⟨Tx.runes_some _ l rs (Nat.le_refl _), fun ⟨h1, h2⟩ => by rw [h1]; exact Tx.runes_flat' rs h2⟩

/-- The units of a rune, and of runes. -/
def Tx.unitsR (r : Nat) : List Nat := if r < 65536 then [r] else [55296 + (r - 65536) / 1024, 56320 + (r - 65536) % 1024]
def Tx.unitsOf (rs : List Nat) : List Nat := rs.flatMap Tx.unitsR
end Go.Proofs.YtbemgeicpbcdhaaDoor
