/- Plain lists: base sixteen there and back. -/
namespace Go.Proofs.YtbemgeicpbcdhaaDoor

def Tx.hexDigits : List UInt8 := [48, 49, 50, 51, 52, 53, 54, 55, 56, 57, 97, 98, 99, 100, 101, 102]
def Tx.hd (k : Nat) : UInt8 := Tx.hexDigits.getD k 0
def Tx.hexL : List UInt8 → List UInt8
  | [] => []
  | c :: r => Tx.hd (c.toNat / 16) :: Tx.hd (c.toNat % 16) :: Tx.hexL r
/-- The value of a digit. -/
def Tx.unhd (c : UInt8) : Option Nat := if 48 ≤ c.toNat ∧ c.toNat ≤ 57 then some (c.toNat - 48) else if 97 ≤ c.toNat ∧ c.toNat ≤ 102 then some (c.toNat - 87) else none
def Tx.unpair (a b : UInt8) : Option UInt8 := match Tx.unhd a, Tx.unhd b with
  | some h, some l => some (UInt8.ofNat (16 * h + l))
  | _, _ => none
def Tx.unhexL : List UInt8 → Option (List UInt8)
  | [] => some []
  | [_] => none
  | a :: b :: r => match Tx.unpair a b, Tx.unhexL r with
    | some c, some t => some (c :: t)
    | _, _ => none

theorem Tx.hexL_append (a b : List UInt8) : Tx.hexL (a ++ b) = Tx.hexL a ++ Tx.hexL b := by
  induction a with
  | nil => rfl
  | cons c r ih => simp [Tx.hexL, ih]
theorem Tx.hexL_length (a : List UInt8) : (Tx.hexL a).length = 2 * a.length := by
  induction a with
  | nil => rfl
  | cons c r ih => simp [Tx.hexL, ih]; omega
theorem Tx.hexL_snoc (l : List UInt8) (k : Nat) (h : k < l.length) : Tx.hexL (l.take (k + 1)) = Tx.hexL (l.take k) ++ [Tx.hd (l[k].toNat / 16), Tx.hd (l[k].toNat % 16)] := by
  rw [List.take_succ_eq_append_getElem h, Tx.hexL_append]; rfl
set_option maxRecDepth 100000 in
theorem Tx.unhd_hd : ∀ k : Fin 16, Tx.unhd (Tx.hd k.val) = some k.val := by decide +kernel
set_option maxRecDepth 100000 in
theorem Tx.hd_unhd' : ∀ c : Fin 256, ∀ k : Fin 16, Tx.unhd (UInt8.ofNat c.val) = some k.val → Tx.hd k.val = UInt8.ofNat c.val := by decide +kernel
theorem Tx.unhd_lt {c : UInt8} {k : Nat} (h : Tx.unhd c = some k) : k < 16 := by
  unfold Tx.unhd at h
  split at h
  · simp at h; omega
  · split at h
    · simp at h; omega
    · simp at h
theorem Tx.hd_unhd {c : UInt8} {k : Nat} (h : Tx.unhd c = some k) : Tx.hd k = c := by
  have hk := Tx.unhd_lt h
  have := Tx.hd_unhd' ⟨c.toNat, c.toNat_lt⟩ ⟨k, hk⟩
  simp only [UInt8.ofNat_toNat] at this
  exact this h
theorem Tx.unpair_hd (c : UInt8) : Tx.unpair (Tx.hd (c.toNat / 16)) (Tx.hd (c.toNat % 16)) = some c := by
  have hc := c.toNat_lt
  have h1 := Tx.unhd_hd ⟨c.toNat / 16, by omega⟩
  have h2 := Tx.unhd_hd ⟨c.toNat % 16, by omega⟩
  simp only at h1 h2
  simp only [Tx.unpair, h1, h2]
  rw [show 16 * (c.toNat / 16) + c.toNat % 16 = c.toNat by omega, UInt8.ofNat_toNat]
theorem Tx.unhex_hex (l : List UInt8) : Tx.unhexL (Tx.hexL l) = some l := by
  induction l with
  | nil => rfl
  | cons c r ih => simp only [Tx.hexL, Tx.unhexL, Tx.unpair_hd, ih]
theorem Tx.hex_unpair {a b c : UInt8} (h : Tx.unpair a b = some c) : a = Tx.hd (c.toNat / 16) ∧ b = Tx.hd (c.toNat % 16) := by
  unfold Tx.unpair at h
  split at h
  · rename_i x y hx hy
    have h1 := Tx.unhd_lt hx
    have h2 := Tx.unhd_lt hy
    simp only [Option.some.injEq] at h
    subst h
    rw [show (UInt8.ofNat (16 * x + y)).toNat = 16 * x + y by simp; omega]
    rw [show (16 * x + y) / 16 = x by omega, show (16 * x + y) % 16 = y by omega]
    exact ⟨(Tx.hd_unhd hx).symm, (Tx.hd_unhd hy).symm⟩
  · simp at h
theorem Tx.hex_unhex : ∀ {l b : List UInt8}, Tx.unhexL l = some b → Tx.hexL b = l
  | [], b, h => by simp [Tx.unhexL] at h; subst h; rfl
  | [_], _, h => by simp [Tx.unhexL] at h
  | x :: y :: r, b, h => by
    unfold Tx.unhexL at h
    split at h
    · rename_i c t hc ht
      simp only [Option.some.injEq] at h
      subst h
      obtain ⟨e1, e2⟩ := Tx.hex_unpair hc
      simp only [Tx.hexL, Tx.hex_unhex ht, ← e1, ← e2]
    · simp at h
/-- What the reader has read behind k pairs. -/
theorem Tx.unhex_even {l b : List UInt8} (h : Tx.unhexL l = some b) : l.length = 2 * b.length := by rw [← Tx.hex_unhex h, Tx.hexL_length]
theorem Tx.unhex_none_odd : ∀ {l : List UInt8}, l.length % 2 ≠ 0 → Tx.unhexL l = none
  | [], h => by simp at h
  | [_], _ => rfl
  | _ :: _ :: r, h => by
    have : r.length % 2 ≠ 0 := by simp at h; omega
    simp only [Tx.unhexL, Tx.unhex_none_odd this]
    split <;> simp_all
theorem Tx.unhex_cons (a b : UInt8) (r : List UInt8) : Tx.unhexL (a :: b :: r) = (Tx.unpair a b).bind fun c => (Tx.unhexL r).map (c :: ·) := by
  simp only [Tx.unhexL]
  cases Tx.unpair a b <;> cases Tx.unhexL r <;> rfl
/-- The reader at place i of an even text. -/
theorem Tx.unhex_step (l : List UInt8) (i : Nat) (h : i + 1 < l.length) : Tx.unhexL (l.drop i) = (Tx.unpair l[i] l[i + 1]).bind fun c => (Tx.unhexL (l.drop (i + 2))).map (c :: ·) := by
  rw [List.drop_eq_getElem_cons (by omega : i < l.length), List.drop_eq_getElem_cons h, Tx.unhex_cons]
end Go.Proofs.YtbemgeicpbcdhaaDoor
