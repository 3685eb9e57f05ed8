/- Plain lists: units read as runes. -/
import Derived.Test.YtbemgeicpbcdhaaDoorUtfM
namespace Go.Proofs.YtbemgeicpbcdhaaDoor

/-- The runes whose units these are, or which error comes first. -/
def Tx.readU : List Int → Except Int (List Nat)
  | [] => .ok []
  | [u] => if u < 0 ∨ 65536 ≤ u then .error 13 else if u < 55296 ∨ 57343 < u then .ok [u.toNat] else .error 14
  | u :: v :: t => if u < 0 ∨ 65536 ≤ u then .error 13 else if u < 55296 ∨ 57343 < u then (Tx.readU (v :: t)).map (u.toNat :: ·)
      else if 56320 ≤ u ∨ v < 56320 ∨ 57343 < v then .error 14 else (Tx.readU t).map ((65536 + (u.toNat - 55296) * 1024 + (v.toNat - 56320)) :: ·)
theorem Tx.readU_bad (u : Int) (t : List Int) (h : u < 0 ∨ 65536 ≤ u) : Tx.readU (u :: t) = .error 13 := by
  cases t <;> simp [Tx.readU, h]
theorem Tx.readU_one (u : Int) (t : List Int) (h0 : 0 ≤ u) (h1 : u < 65536) (h : u < 55296 ∨ 57343 < u) : Tx.readU (u :: t) = (Tx.readU t).map (u.toNat :: ·) := by
  have hb : ¬ (u < 0 ∨ 65536 ≤ u) := by omega
  cases t with
  | nil => simp [Tx.readU, hb, h, Except.map]
  | cons v t => simp [Tx.readU, hb, h]
theorem Tx.readU_low (u : Int) (t : List Int) (h0 : 56320 ≤ u) (h1 : u ≤ 57343) : Tx.readU (u :: t) = .error 14 := by
  have hb : ¬ (u < 0 ∨ 65536 ≤ u) := by omega
  have hc : ¬ (u < 55296 ∨ 57343 < u) := by omega
  cases t with
  | nil => simp [Tx.readU, hb, hc]
  | cons v t => simp [Tx.readU, hb, hc, h0]
theorem Tx.readU_alone (u : Int) (h0 : 55296 ≤ u) (h1 : u ≤ 57343) : Tx.readU [u] = .error 14 := by
  have hb : ¬ (u < 0 ∨ 65536 ≤ u) := by omega
  have hc : ¬ (u < 55296 ∨ 57343 < u) := by omega
  simp [Tx.readU, hb, hc]
theorem Tx.readU_nopair (u v : Int) (t : List Int) (h0 : 55296 ≤ u) (h1 : u ≤ 57343) (h2 : v < 56320 ∨ 57343 < v) : Tx.readU (u :: v :: t) = .error 14 := by
  have hb : ¬ (u < 0 ∨ 65536 ≤ u) := by omega
  have hc : ¬ (u < 55296 ∨ 57343 < u) := by omega
  simp [Tx.readU, hb, hc, h2]
theorem Tx.readU_pair (u v : Int) (t : List Int) (h0 : 55296 ≤ u) (h1 : u < 56320) (h2 : 56320 ≤ v) (h3 : v ≤ 57343) : Tx.readU (u :: v :: t) = (Tx.readU t).map ((65536 + (u.toNat - 55296) * 1024 + (v.toNat - 56320)) :: ·) := by
  have hb : ¬ (u < 0 ∨ 65536 ≤ u) := by omega
  have hc : ¬ (u < 55296 ∨ 57343 < u) := by omega
  have hd : ¬ (56320 ≤ u ∨ v < 56320 ∨ 57343 < v) := by omega
  simp [Tx.readU, hb, hc, hd]
theorem Tx.except_map_map {α β γ : Type} (f : α → β) (g : β → γ) (x : Except Int α) : (x.map f).map g = x.map (g ∘ f) := by cases x <;> rfl
theorem Tx.readU_error : ∀ (l : List Int) (c : Int), Tx.readU l = .error c → c = 13 ∨ c = 14
  | [], c, h => by simp [Tx.readU] at h
  | [u], c, h => by
    unfold Tx.readU at h
    repeat' split at h
    all_goals first | (simp at h; done) | (simp only [Except.error.injEq] at h; omega)
  | u :: v :: t, c, h => by
    unfold Tx.readU at h
    repeat' split at h
    · simp only [Except.error.injEq] at h; omega
    · cases e : Tx.readU (v :: t) with
      | error d => rw [e] at h; simp only [Except.map, Except.error.injEq] at h; subst h; exact Tx.readU_error _ _ e
      | ok x => rw [e] at h; simp [Except.map] at h
    · simp only [Except.error.injEq] at h; omega
    · cases e : Tx.readU t with
      | error d => rw [e] at h; simp only [Except.map, Except.error.injEq] at h; subst h; exact Tx.readU_error _ _ e
      | ok x => rw [e] at h; simp [Except.map] at h
def Tx.cu (rs : List Nat) : List Int := (Tx.unitsOf rs).map (Int.ofNat ·)
theorem Tx.cu_cons (r : Nat) (rs : List Nat) : Tx.cu (r :: rs) = (Tx.unitsR r).map (Int.ofNat ·) ++ Tx.cu rs := by simp [Tx.cu, Tx.unitsOf]
theorem Tx.readU_unit (r : Nat) (hr : Tx.Rune r) (t : List Int) : Tx.readU ((Tx.unitsR r).map (Int.ofNat ·) ++ t) = (Tx.readU t).map (r :: ·) := by
  unfold Tx.Rune at hr
  unfold Tx.unitsR
  by_cases h : r < 65536
  · rw [if_pos h]
    simp only [List.map_cons, List.map_nil, List.cons_append, List.nil_append, Int.ofNat_eq_natCast]
    rw [Tx.readU_one _ _ (by omega) (by omega) (by omega)]; simp
  · rw [if_neg h]
    simp only [List.map_cons, List.map_nil, List.cons_append, List.nil_append, Int.ofNat_eq_natCast]
    rw [Tx.readU_pair _ _ _ (by omega) (by omega) (by omega) (by omega)]
    have e : 65536 + (((55296 + (r - 65536) / 1024 : Nat) : Int).toNat - 55296) * 1024 + (((56320 + (r - 65536) % 1024 : Nat) : Int).toNat - 56320) = r := by
      rw [Int.toNat_natCast, Int.toNat_natCast]; omega
    rw [e]
theorem Tx.readU_units (rs : List Nat) (h : ∀ r ∈ rs, Tx.Rune r) (t : List Int) : Tx.readU (Tx.cu rs ++ t) = (Tx.readU t).map (rs ++ ·) := by
  induction rs with
  | nil => simp [Tx.cu, Tx.unitsOf]; cases Tx.readU t <;> rfl
  | cons r rs ih =>
    rw [Tx.cu_cons, List.append_assoc, Tx.readU_unit r (h r (by simp)), ih (fun x hx => h x (by simp [hx])), Tx.except_map_map]
    rfl
theorem Tx.readU_units' (rs : List Nat) (h : ∀ r ∈ rs, Tx.Rune r) : Tx.readU (Tx.cu rs) = .ok rs := by
  have := Tx.readU_units rs h []
  simpa [Tx.readU, Except.map] using this
theorem Tx.readU_ok : ∀ (l : List Int) (rs : List Nat), Tx.readU l = .ok rs → l = Tx.cu rs ∧ ∀ r ∈ rs, Tx.Rune r
  | [], rs, h => by simp [Tx.readU] at h; subst h; simp [Tx.cu, Tx.unitsOf]
  | [u], rs, h => by
    unfold Tx.readU at h
    split at h
    · simp at h
    · split at h
      · simp only [Except.ok.injEq] at h; subst h
        refine ⟨?_, ?_⟩
        · simp [Tx.cu, Tx.unitsOf, Tx.unitsR, show u.toNat < 65536 by omega]; omega
        · intro r hr; simp at hr; subst hr; unfold Tx.Rune; omega
      · simp at h
  | u :: v :: t, rs, h => by
    unfold Tx.readU at h
    split at h
    · simp at h
    · split at h
      · cases e : Tx.readU (v :: t) with
        | error d => rw [e] at h; simp [Except.map] at h
        | ok x =>
          rw [e] at h
          simp only [Except.map, Except.ok.injEq] at h; subst h
          obtain ⟨h1, h2⟩ := Tx.readU_ok _ _ e
          refine ⟨?_, ?_⟩
          · rw [Tx.cu_cons, ← h1]
            simp [Tx.unitsR, show u.toNat < 65536 by omega]; omega
          · intro r hr
            rcases List.mem_cons.1 hr with rfl | h5
            · unfold Tx.Rune; omega
            · exact h2 r h5
      · split at h
        · simp at h
        · cases e : Tx.readU t with
          | error d => rw [e] at h; simp [Except.map] at h
          | ok x =>
            rw [e] at h
            simp only [Except.map, Except.ok.injEq] at h; subst h
            obtain ⟨h1, h2⟩ := Tx.readU_ok _ _ e
            refine ⟨?_, ?_⟩
            · rw [Tx.cu_cons, ← h1]
              obtain ⟨r0, hr0⟩ : ∃ r0, r0 = 65536 + (u.toNat - 55296) * 1024 + (v.toNat - 56320) := ⟨_, rfl⟩
              rw [← hr0]
              have e0 : ¬ r0 < 65536 := by omega
              have e1 : ((55296 + (r0 - 65536) / 1024 : Nat) : Int) = u := by omega
              have e2 : ((56320 + (r0 - 65536) % 1024 : Nat) : Int) = v := by omega
              simp only [Tx.unitsR, if_neg e0, List.map_cons, List.map_nil, Int.ofNat_eq_natCast, e1, e2, List.cons_append, List.nil_append]
            · intro r hr
              rcases List.mem_cons.1 hr with h5 | h5
              · rw [h5]; unfold Tx.Rune; omega
              · exact h2 r h5
end Go.Proofs.YtbemgeicpbcdhaaDoor
