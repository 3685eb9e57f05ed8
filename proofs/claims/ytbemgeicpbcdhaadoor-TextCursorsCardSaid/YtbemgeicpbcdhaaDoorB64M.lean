/- Plain lists: base64url there and back. -/
namespace Go.Proofs.YtbemgeicpbcdhaaDoor

def Tx.letters : List UInt8 := [65, 66, 67, 68, 69, 70, 71, 72, 73, 74, 75, 76, 77, 78, 79, 80, 81, 82, 83, 84, 85, 86, 87, 88, 89, 90, 97, 98, 99, 100, 101, 102, 103, 104, 105, 106, 107, 108, 109, 110, 111, 112, 113, 114, 115, 116, 117, 118, 119, 120, 121, 122, 48, 49, 50, 51, 52, 53, 54, 55, 56, 57, 45, 95]
def Tx.b6 (k : Nat) : UInt8 := Tx.letters.getD k 0
/-- One to three bytes as one character more. -/
def Tx.g1 (a : UInt8) : List UInt8 := [Tx.b6 (a.toNat / 4), Tx.b6 (a.toNat % 4 * 16)]
def Tx.g2 (a b : UInt8) : List UInt8 := [Tx.b6 (a.toNat / 4), Tx.b6 (a.toNat % 4 * 16 + b.toNat / 16), Tx.b6 (b.toNat % 16 * 4)]
def Tx.g3 (a b c : UInt8) : List UInt8 := [Tx.b6 (a.toNat / 4), Tx.b6 (a.toNat % 4 * 16 + b.toNat / 16), Tx.b6 (b.toNat % 16 * 4 + c.toNat / 64), Tx.b6 (c.toNat % 64)]
def Tx.b64L : List UInt8 → List UInt8
  | [] => []
  | [a] => Tx.g1 a
  | [a, b] => Tx.g2 a b
  | a :: b :: c :: r => Tx.g3 a b c ++ Tx.b64L r
/-- The number of a letter. -/
def Tx.un6 (c : UInt8) : Option Nat :=
  let n := c.toNat
  if 65 ≤ n ∧ n ≤ 90 then some (n - 65) else if 97 ≤ n ∧ n ≤ 122 then some (n - 71) else if 48 ≤ n ∧ n ≤ 57 then some (n + 4) else if n = 45 then some 62 else if n = 95 then some 63 else none
/-- A whole group of one to four letters as one byte fewer. -/
def Tx.ungroup : List UInt8 → Option (List UInt8)
  | [a, b] => match Tx.un6 a, Tx.un6 b with
    | some x, some y => if y % 16 = 0 then some [UInt8.ofNat (x * 4 + y / 16)] else none
    | _, _ => none
  | [a, b, c] => match Tx.un6 a, Tx.un6 b, Tx.un6 c with
    | some x, some y, some z => if z % 4 = 0 then some [UInt8.ofNat (x * 4 + y / 16), UInt8.ofNat (y % 16 * 16 + z / 4)] else none
    | _, _, _ => none
  | [a, b, c, d] => match Tx.un6 a, Tx.un6 b, Tx.un6 c, Tx.un6 d with
    | some x, some y, some z, some t => some [UInt8.ofNat (x * 4 + y / 16), UInt8.ofNat (y % 16 * 16 + z / 4), UInt8.ofNat (z % 4 * 64 + t)]
    | _, _, _, _ => none
  | _ => none
def Tx.unb64L : List UInt8 → Option (List UInt8)
  | [] => some []
  | a :: b :: c :: d :: r => match Tx.ungroup [a, b, c, d], Tx.unb64L r with
    | some g, some t => some (g ++ t)
    | _, _ => none
  | l => Tx.ungroup l

set_option maxRecDepth 100000 in
theorem Tx.un6_b6 : ∀ k : Fin 64, Tx.un6 (Tx.b6 k.val) = some k.val := by decide +kernel
set_option maxRecDepth 100000 in
theorem Tx.b6_un6' : ∀ c : Fin 256, (match Tx.un6 (UInt8.ofNat c.val) with | some k => decide (k < 64) && (Tx.b6 k == UInt8.ofNat c.val) | none => true) = true := by decide +kernel
theorem Tx.b6_un6 {c : UInt8} {k : Nat} (h : Tx.un6 c = some k) : k < 64 ∧ Tx.b6 k = c := by
  have := Tx.b6_un6' ⟨c.toNat, c.toNat_lt⟩
  simp only [UInt8.ofNat_toNat, h] at this
  simpa using this
theorem Tx.un6_b6' {k : Nat} (h : k < 64) : Tx.un6 (Tx.b6 k) = some k := Tx.un6_b6 ⟨k, h⟩

theorem Tx.of8 (n : Nat) (h : n < 256) : (UInt8.ofNat n).toNat = n := by simp; omega
theorem Tx.to8 (c : UInt8) (n : Nat) (h : n = c.toNat) : UInt8.ofNat n = c := by subst h; exact UInt8.ofNat_toNat

theorem Tx.ungroup_g1 (a : UInt8) : Tx.ungroup (Tx.g1 a) = some [a] := by
  have ha := a.toNat_lt
  simp only [Tx.g1, Tx.ungroup]
  rw [Tx.un6_b6' (by omega), Tx.un6_b6' (by omega)]
  simp only []
  rw [if_pos (by omega), Tx.to8 a _ (by omega)]
theorem Tx.ungroup_g2 (a b : UInt8) : Tx.ungroup (Tx.g2 a b) = some [a, b] := by
  have ha := a.toNat_lt; have hb := b.toNat_lt
  simp only [Tx.g2, Tx.ungroup]
  rw [Tx.un6_b6' (by omega), Tx.un6_b6' (by omega), Tx.un6_b6' (by omega)]
  simp only []
  rw [if_pos (by omega), Tx.to8 a _ (by omega), Tx.to8 b _ (by omega)]
theorem Tx.ungroup_g3 (a b c : UInt8) : Tx.ungroup (Tx.g3 a b c) = some [a, b, c] := by
  have ha := a.toNat_lt; have hb := b.toNat_lt; have hc := c.toNat_lt
  simp only [Tx.g3, Tx.ungroup]
  rw [Tx.un6_b6' (by omega), Tx.un6_b6' (by omega), Tx.un6_b6' (by omega), Tx.un6_b6' (by omega)]
  simp only []
  rw [Tx.to8 a _ (by omega), Tx.to8 b _ (by omega), Tx.to8 c _ (by omega)]
theorem Tx.unb64_b64 : ∀ l : List UInt8, Tx.unb64L (Tx.b64L l) = some l
  | [] => rfl
  | [a] => Tx.ungroup_g1 a
  | [a, b] => Tx.ungroup_g2 a b
  | a :: b :: c :: r => by
    have h := Tx.ungroup_g3 a b c
    simp only [Tx.g3] at h
    simp only [Tx.b64L, Tx.g3, List.cons_append, List.nil_append, Tx.unb64L, h, Tx.unb64_b64 r]
theorem Tx.ungroup_len {l g : List UInt8} (h : Tx.ungroup l = some g) : l.length = g.length + 1 ∧ 2 ≤ l.length ∧ l.length ≤ 4 := by
  unfold Tx.ungroup at h
  split at h <;> (try split at h) <;> (try split at h) <;> simp_all <;> (subst h; simp)
theorem Tx.b64_ungroup {l g : List UInt8} (h : Tx.ungroup l = some g) : Tx.b64L g = l := by
  unfold Tx.ungroup at h
  split at h
  · rename_i a b
    split at h
    · rename_i x y hx hy
      obtain ⟨lx, ex⟩ := Tx.b6_un6 hx; obtain ⟨ly, ey⟩ := Tx.b6_un6 hy
      split at h
      · simp only [Option.some.injEq] at h; subst h
        simp only [Tx.b64L, Tx.g1]
        rw [Tx.of8 _ (by omega), show (x * 4 + y / 16) / 4 = x by omega, show (x * 4 + y / 16) % 4 * 16 = y by omega, ex, ey]
      · simp at h
    · simp at h
  · rename_i a b c
    split at h
    · rename_i x y z hx hy hz
      obtain ⟨lx, ex⟩ := Tx.b6_un6 hx; obtain ⟨ly, ey⟩ := Tx.b6_un6 hy; obtain ⟨lz, ez⟩ := Tx.b6_un6 hz
      split at h
      · simp only [Option.some.injEq] at h; subst h
        simp only [Tx.b64L, Tx.g2]
        rw [Tx.of8 _ (by omega), Tx.of8 _ (by omega), show (x * 4 + y / 16) / 4 = x by omega, show (x * 4 + y / 16) % 4 * 16 + (y % 16 * 16 + z / 4) / 16 = y by omega, show (y % 16 * 16 + z / 4) % 16 * 4 = z by omega, ex, ey, ez]
      · simp at h
    · simp at h
  · rename_i a b c d
    split at h
    · rename_i x y z t hx hy hz ht
      obtain ⟨lx, ex⟩ := Tx.b6_un6 hx; obtain ⟨ly, ey⟩ := Tx.b6_un6 hy; obtain ⟨lz, ez⟩ := Tx.b6_un6 hz; obtain ⟨lt, et⟩ := Tx.b6_un6 ht
      simp only [Option.some.injEq] at h; subst h
      simp only [Tx.b64L, Tx.g3, List.append_nil]
      rw [Tx.of8 _ (by omega), Tx.of8 _ (by omega), Tx.of8 _ (by omega), show (x * 4 + y / 16) / 4 = x by omega, show (x * 4 + y / 16) % 4 * 16 + (y % 16 * 16 + z / 4) / 16 = y by omega,
        show (y % 16 * 16 + z / 4) % 16 * 4 + (z % 4 * 64 + t) / 64 = z by omega, show (z % 4 * 64 + t) % 64 = t by omega, ex, ey, ez, et]
    · simp at h
  · simp at h
theorem Tx.b64_append3 : ∀ (a b : List UInt8), a.length % 3 = 0 → Tx.b64L (a ++ b) = Tx.b64L a ++ Tx.b64L b
  | [], b, _ => rfl
  | [_], _, h => by simp at h
  | [_, _], _, h => by simp at h
  | x :: y :: z :: r, b, h => by
    simp only [List.cons_append, Tx.b64L, Tx.b64_append3 r b (by simp at h; omega), List.append_assoc]
theorem Tx.b64_unb64 : ∀ {l b : List UInt8}, Tx.unb64L l = some b → Tx.b64L b = l
  | [], b, h => by simp [Tx.unb64L] at h; subst h; rfl
  | [_], b, h => by simp only [Tx.unb64L] at h; exact Tx.b64_ungroup h
  | [_, _], b, h => by simp only [Tx.unb64L] at h; exact Tx.b64_ungroup h
  | [_, _, _], b, h => by simp only [Tx.unb64L] at h; exact Tx.b64_ungroup h
  | a :: b :: c :: d :: r, x, h => by
    simp only [Tx.unb64L] at h
    split at h
    · rename_i g t hg ht
      simp only [Option.some.injEq] at h; subst h
      have hl := Tx.ungroup_len hg
      rw [Tx.b64_append3 g t (by simp at hl; omega), Tx.b64_ungroup hg, Tx.b64_unb64 ht]; rfl
    · simp at h
theorem Tx.b64_length : ∀ l : List UInt8, (Tx.b64L l).length = (4 * l.length + 2) / 3
  | [] => rfl
  | [_] => by simp [Tx.b64L, Tx.g1]
  | [_, _] => by simp [Tx.b64L, Tx.g2]
  | a :: b :: c :: r => by
    simp only [Tx.b64L, Tx.g3, List.length_append, Tx.b64_length r, List.length_cons, List.length_nil]; omega
end Go.Proofs.YtbemgeicpbcdhaaDoor
