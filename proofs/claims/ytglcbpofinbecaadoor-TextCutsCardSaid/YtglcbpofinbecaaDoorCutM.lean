/- Plain lists: UTF-8 that is cut. -/
import Derived.Test.YtglcbpofinbecaaDoorUtfM
namespace Go.Proofs.YtglcbpofinbecaaDoor

/-- Does a byte begin a rune? -/
def Tx.Begins (c : UInt8) : Prop := c.toNat < 128 ∨ 192 ≤ c.toNat
instance (c : UInt8) : Decidable (Tx.Begins c) := by unfold Tx.Begins; infer_instance
/-- The first byte of a rune begins it, the others do not. -/
theorem Tx.enc_begins (r : Nat) (hr : Tx.Rune r) (i : Nat) (h : i < (Tx.enc r).length) : Tx.Begins (Tx.enc r)[i] ↔ i = 0 := by
  have hb : r ≤ 1114111 := by unfold Tx.Rune at hr; omega
  unfold Tx.Begins
  by_cases h1 : r < 128
  · have e : Tx.enc r = [UInt8.ofNat r] := by simp [Tx.enc, h1]
    simp only [e] at h ⊢
    match i, h with
    | 0, _ => simp only [List.getElem_cons_zero, Tx.o8 _ (show r < 256 by omega)]; constructor; (intro _; trivial); (intro _; omega)
    | i + 1, h => simp at h
  · by_cases h2 : r < 2048
    · have e : Tx.enc r = [UInt8.ofNat (192 + r / 64), UInt8.ofNat (128 + r % 64)] := by simp [Tx.enc, h1, h2]
      simp only [e] at h ⊢
      match i, h with
      | 0, _ => simp only [List.getElem_cons_zero, Tx.o8 _ (show 192 + r / 64 < 256 by omega)]; constructor; (intro _; trivial); (intro _; omega)
      | 1, _ => simp only [List.getElem_cons_succ, List.getElem_cons_zero, Tx.o8 _ (show 128 + r % 64 < 256 by omega)]; omega
      | i + 2, h => simp at h; omega
    · by_cases h3 : r < 65536
      · have e : Tx.enc r = [UInt8.ofNat (224 + r / 4096), UInt8.ofNat (128 + r / 64 % 64), UInt8.ofNat (128 + r % 64)] := by simp [Tx.enc, h1, h2, h3]
        simp only [e] at h ⊢
        match i, h with
        | 0, _ => simp only [List.getElem_cons_zero, Tx.o8 _ (show 224 + r / 4096 < 256 by omega)]; constructor; (intro _; trivial); (intro _; omega)
        | 1, _ => simp only [List.getElem_cons_succ, List.getElem_cons_zero, Tx.o8 _ (show 128 + r / 64 % 64 < 256 by omega)]; omega
        | 2, _ => simp only [List.getElem_cons_succ, List.getElem_cons_zero, Tx.o8 _ (show 128 + r % 64 < 256 by omega)]; omega
        | i + 3, h => simp at h; omega
      · have e : Tx.enc r = [UInt8.ofNat (240 + r / 262144), UInt8.ofNat (128 + r / 4096 % 64), UInt8.ofNat (128 + r / 64 % 64), UInt8.ofNat (128 + r % 64)] := by simp [Tx.enc, h1, h2, h3]
        simp only [e] at h ⊢
        match i, h with
        | 0, _ => simp only [List.getElem_cons_zero, Tx.o8 _ (show 240 + r / 262144 < 256 by omega)]; constructor; (intro _; trivial); (intro _; omega)
        | 1, _ => simp only [List.getElem_cons_succ, List.getElem_cons_zero, Tx.o8 _ (show 128 + r / 4096 % 64 < 256 by omega)]; omega
        | 2, _ => simp only [List.getElem_cons_succ, List.getElem_cons_zero, Tx.o8 _ (show 128 + r / 64 % 64 < 256 by omega)]; omega
        | 3, _ => simp only [List.getElem_cons_succ, List.getElem_cons_zero, Tx.o8 _ (show 128 + r % 64 < 256 by omega)]; omega
        | i + 4, h => simp at h; omega

/-- Of UTF-8 each byte ahead of which a rune ends is the first one of a rune: cut there both sides are UTF-8; cut elsewhere neither is. -/
theorem Tx.flat_begin (rs : List Nat) (h : ∀ r ∈ rs, Tx.Rune r) (h0 : 0 < (Tx.flat rs).length) : Tx.Begins (Tx.flat rs)[0] := by
  cases rs with
  | nil => simp [Tx.flat] at h0
  | cons r rs =>
    have hp := (Tx.enc_pos r).1
    have e : Tx.flat (r :: rs) = Tx.enc r ++ Tx.flat rs := by simp [Tx.flat]
    simp only [e]
    rw [List.getElem_append_left (by omega)]
    exact (Tx.enc_begins r (h r (by simp)) 0 (by omega)).2 rfl
theorem Tx.runes_prefix (l : List UInt8) (n : Nat) (rs ps : List Nat) (h : Tx.runes l = some rs) (hp : Tx.runes (l.take n) = some ps) : (Tx.runes (l.drop n)).isSome = true := by
  obtain ⟨e1, h1⟩ := (Tx.runes_iff _ _).1 hp
  have : Tx.runes l = (Tx.runes (l.drop n)).map (ps ++ ·) := by
    have e2 : l = Tx.flat ps ++ l.drop n := by rw [← e1, List.take_append_drop]
    rw [e2, Tx.runes_flat ps h1, ← e2]
  rw [h] at this
  cases hd : Tx.runes (l.drop n) with
  | none => rw [hd] at this; simp at this
  | some x => rfl
theorem Tx.cut_begin : ∀ (rs : List Nat) (n : Nat), (∀ r ∈ rs, Tx.Rune r) → (hn : n < (Tx.flat rs).length) → Tx.Begins (Tx.flat rs)[n] → (Tx.runes ((Tx.flat rs).take n)).isSome = true
  | [], n, _, hn, _ => by simp [Tx.flat] at hn
  | r :: rs, n, h, hn, hb => by
    have e : Tx.flat (r :: rs) = Tx.enc r ++ Tx.flat rs := by simp [Tx.flat]
    by_cases hlt : n < (Tx.enc r).length
    · simp only [e] at hb
      rw [List.getElem_append_left hlt] at hb
      have := (Tx.enc_begins r (h r (by simp)) n hlt).1 hb
      subst this
      simp [Tx.runes_nil]
    · have hn2 : n - (Tx.enc r).length < (Tx.flat rs).length := by rw [e, List.length_append] at hn; omega
      simp only [e] at hb
      rw [List.getElem_append_right (by omega)] at hb
      have ih := Tx.cut_begin rs (n - (Tx.enc r).length) (fun x hx => h x (by simp [hx])) hn2 hb
      rw [e, List.take_append, List.take_of_length_le (by omega), Tx.runes_enc r (h r (by simp))]
      simpa using ih
/-- The document's promise of cuts, over lists. -/
theorem Tx.cut_iff (l : List UInt8) (n : Nat) (hl : (Tx.runes l).isSome = true) (hn : n ≤ l.length) (B : Prop) (hB : B ↔ n = l.length ∨ ∃ h : n < l.length, Tx.Begins l[n]) :
    ((Tx.runes (l.take n)).isSome = true ↔ B) ∧ ((Tx.runes (l.drop n)).isSome = true ↔ B) := by
  obtain ⟨rs, hrs⟩ := Option.isSome_iff_exists.1 hl
  obtain ⟨e, hr⟩ := (Tx.runes_iff _ _).1 hrs
  have take_of : B → (Tx.runes (l.take n)).isSome = true := by
    intro hb
    rcases hB.1 hb with h1 | ⟨h1, h2⟩
    · rw [h1, List.take_length]; exact hl
    · subst e; exact Tx.cut_begin rs n hr h1 h2
  have drop_of_take : (Tx.runes (l.take n)).isSome = true → (Tx.runes (l.drop n)).isSome = true := by
    intro h
    obtain ⟨ps, hps⟩ := Option.isSome_iff_exists.1 h
    exact Tx.runes_prefix l n rs ps hrs hps
  have of_drop : (Tx.runes (l.drop n)).isSome = true → B := by
    intro h
    obtain ⟨ps, hps⟩ := Option.isSome_iff_exists.1 h
    obtain ⟨e2, h2⟩ := (Tx.runes_iff _ _).1 hps
    rw [hB]
    by_cases hlt : n < l.length
    · right
      refine ⟨hlt, ?_⟩
      have hd : l.drop n = l[n] :: l.drop (n + 1) := List.drop_eq_getElem_cons hlt
      have h0 : 0 < (Tx.flat ps).length := by rw [← e2, List.length_drop]; omega
      have := Tx.flat_begin ps h2 h0
      simp only [← e2, hd, List.getElem_cons_zero] at this
      exact this
    · left; omega
  exact ⟨⟨fun h => of_drop (drop_of_take h), take_of⟩, ⟨of_drop, fun h => drop_of_take (take_of h)⟩⟩
end Go.Proofs.YtglcbpofinbecaaDoor
