/- Units: what the laws ask of them, a case each; append of a slice of ints to an owned one. -/
import Derived.Test.YtbemgeicpbcdhaaDoorSameI
import Derived.Laws.AppendOwnNone
namespace Go.Proofs.YtbemgeicpbcdhaaDoor
open Go.RowKit

section
variable {w : World} {ops : Array Oper} {rest : List Oper} {o : Oper} {a : Act} {Q : Exit → Act → World → Prop}
theorem Tx.appendI_src (hg : o.guard = none) (s x : Operand) (hop : o.op = .call { callee := .builtin .append, args := #[s, x], argTypes := #[48, 48] }) (B : Nat) (v : Value) (l : List Int) (hs : a.eval s = v) (hown : Tx.OwnI w B v l)
    (vs : Value) (xs : List Int) (hx : a.eval x = vs) (hi : Tx.Ints w w.heap.size vs xs) (hlen : l.length + xs.length ≤ 17592186044416) (hB : B ≤ w.heap.size)
    (hK : ∀ v' w', Tx.OwnI w' B v' (l ++ xs) → Below B w w' → B ≤ w'.heap.size → wpList Tryd.prog ops Q rest (a.put o.dst v') w') : wpList Tryd.prog ops Q (o :: rest) a w := by
  rcases hi with ⟨rfl, rfl⟩ | ⟨b, off, cap, rfl, h2, h2', h3, h4⟩
  · obtain ⟨i0, hi0, _, _, _⟩ := info_parts Tx.infoI
    refine wpList_append_own_none hg s x 48 hop B 3 i0 1 Tryd.underlying48 hi0 v l.length (l.map Tx.iv) hs hown hx ?_
    exact hK v w (by rw [List.append_nil]; exact hown) (Below.refl _ _) hB
  · refine Tx.appendI hg s x hop B v l hs hown ⟨b, off, none⟩ cap xs hx (fun j u hu => ?_) hlen hB hK
    obtain ⟨hj, hu2⟩ := List.getElem?_eq_some_iff.1 hu
    rw [List.length_map] at hj
    have ea : ((⟨b, off, none⟩ : Addr).add j) = ⟨b, off + j, none⟩ := by unfold Addr.add; split <;> simp_all
    rw [ea, h4 j hj, ← hu2]
    simp [Tx.iv, List.getD_eq_getElem?_getD, List.getElem?_eq_getElem hj]
end
theorem Tx.OwnI.empty (w : World) (B : Nat) (hB : B ≤ w.heap.size) : Tx.OwnI (w.alloc (.cells #[] 3)) B (.slice (some ⟨w.heap.size, 0, none⟩) 0 0) [] :=
  World.ownsRow_made w #[] 0 hB (by unfold maxLen; omega) rfl

theorem Tx.units_cases (s : ByteArray) : (Tx.unitsL s.data.toList = none ∧ (Tx.runes s.data.toList).isSome = false) ∨
    ∃ rs, (∀ r ∈ rs, Tx.Rune r) ∧ s.data.toList = Tx.flat rs ∧ Tx.unitsL s.data.toList = some (Tx.cu rs) ∧ (Tx.runes s.data.toList).isSome = true := by
  rcases h : Tx.runes s.data.toList with _ | rs
  · exact .inl ⟨by unfold Tx.unitsL; rw [h]; rfl, rfl⟩
  · obtain ⟨h1, h2⟩ := (Tx.runes_iff _ _).1 h
    exact .inr ⟨rs, h2, h1, by unfold Tx.unitsL; rw [h]; rfl, rfl⟩
theorem Tx.cu_len (rs : List Nat) : (Tx.cu rs).length ≤ (Tx.flat rs).length := by
  induction rs with
  | nil => simp [Tx.cu, Tx.unitsOf, Tx.flat]
  | cons r rs ih =>
    have := Tx.unitsR_len r
    rw [Tx.cu_cons, show Tx.flat (r :: rs) = Tx.enc r ++ Tx.flat rs by simp [Tx.flat], List.length_append, List.length_append, List.length_map]
    omega
theorem Tx.cu_append (a b : List Nat) : Tx.cu (a ++ b) = Tx.cu a ++ Tx.cu b := by simp [Tx.cu, Tx.unitsOf]
theorem Tx.units_append (s t : ByteArray) (rs : List Nat) (hr : ∀ r ∈ rs, Tx.Rune r) (hs : s.data.toList = Tx.flat rs) :
    Tx.unitsL (s ++ t).data.toList = (Tx.unitsL t.data.toList).map (Tx.cu rs ++ ·) := by
  unfold Tx.unitsL
  rw [Tx.data_append, hs, Tx.runes_flat rs hr, Option.map_map, Option.map_map]
  congr 1
  funext x
  exact Tx.cu_append rs x

/-- The call of Units where there are none. -/
theorem Tx.Units_none (s : ByteArray) (h : Tx.unitsL s.data.toList = none) (hs : s.size ≤ 8796093022208) (w : World) (hw : Tx.Ok w) :
    Calls Tryd.prog 16 #[.string s] w fun e w' => e = .returned (.tuple #[.slice none 0 0, .int .i64 12]) ∧ Below w.heap.size w w' := by
  have := Tx.Units_any s w hs hw.2 hw.1
  rw [h] at this
  exact this.mono fun e w' hp => ⟨hp.2, hp.1⟩
theorem Tx.Units_some (s : ByteArray) (l : List Int) (h : Tx.unitsL s.data.toList = some l) (hs : s.size ≤ 8796093022208) (w : World) (hw : Tx.Ok w) :
    Calls Tryd.prog 16 #[.string s] w fun e w' => ∃ v, e = .returned (.tuple #[v, .int .i64 0]) ∧ Tx.OwnI w' w.heap.size v l ∧ Below w.heap.size w w' := by
  have := Tx.Units_any s w hs hw.2 hw.1
  rw [h] at this
  exact this.mono fun e w' hp => let ⟨v, h1, h2⟩ := hp.2; ⟨v, h1, h2, hp.1⟩
theorem Tx.FromUnits_ok (v : Value) (zs : List Int) (rs : List Nat) (hr : Tx.readU zs = .ok rs) (hl : zs.length ≤ 17592186044416) (w : World) (hw : Tx.Ok w) (hv : Tx.Ints w w.heap.size v zs) :
    Calls Tryd.prog 17 #[v] w fun e w' => e = .returned (.tuple #[.string (Tx.ba (Tx.flat rs)), .int .i64 0]) ∧ Below w.heap.size w w' := by
  have := Tx.FromUnits_any v zs w hl hv hw.1
  rw [hr] at this; exact this
theorem Tx.FromUnits_err (v : Value) (zs : List Int) (c : Int) (hr : Tx.readU zs = .error c) (hl : zs.length ≤ 17592186044416) (w : World) (hw : Tx.Ok w) (hv : Tx.Ints w w.heap.size v zs) :
    Calls Tryd.prog 17 #[v] w fun e w' => e = .returned (.tuple #[.string ⟨#[]⟩, .int .i64 c]) ∧ Below w.heap.size w w' := by
  have := Tx.FromUnits_any v zs w hl hv hw.1
  rw [hr] at this; exact this
theorem Tx.Utf8_b (s : ByteArray) (β : Bool) (h : (Tx.runes s.data.toList).isSome = β) (hs : s.size ≤ 9223372036854775807) (w : World) (hw : Tx.Ok w) :
    Calls Tryd.prog 19 #[.string s] w fun e w' => e = .returned (.bool β) ∧ Below w.heap.size w w' := by
  have := Tx.Utf8_any s w hs hw.2
  rw [h] at this; exact this
/-- A slice of ints as it lies now. -/
structure Tx.Held (w : World) (v : Value) (zs : List Int) : Prop where
  mk ::
  out : Tx.Ints w w.heap.size v zs
theorem Tx.Held.since {w w' : World} {v : Value} {zs : List Int} (h : Tx.Held w v zs) (hb : Below w.heap.size w w') : Tx.Held w' v zs := ⟨(h.out.below hb (Nat.le_refl _)).mono hb.size⟩
theorem Tx.Held.own {w : World} {B : Nat} {v : Value} {l : List Int} (h : Tx.OwnI w B v l) : Tx.Held w v l := ⟨h.ints⟩
theorem Tx.Held.alloc {w : World} {v : Value} {zs : List Int} (h : Tx.Held w v zs) (o : Obj) : Tx.Ints (w.alloc o) (w.alloc o).heap.size v zs := (h.since ((Below.refl _ _).alloc (Nat.le_refl _) o)).out
theorem Tx.flat_size {s : ByteArray} {rs : List Nat} (h : s.data.toList = Tx.flat rs) : (Tx.flat rs).length = s.size := by rw [← h, Tx.len]
theorem Tx.flat_le (rs : List Nat) : (Tx.flat rs).length ≤ 4 * (Tx.cu rs).length := by
  induction rs with
  | nil => simp [Tx.cu, Tx.unitsOf, Tx.flat]
  | cons r rs ih =>
    have := (Tx.enc_pos r).2
    have h1 : 1 ≤ (Tx.unitsR r).length := by unfold Tx.unitsR; split <;> simp
    rw [Tx.cu_cons, show Tx.flat (r :: rs) = Tx.enc r ++ Tx.flat rs by simp [Tx.flat], List.length_append, List.length_append, List.length_map]
    omega
theorem Tx.runes_ba (rs : List Nat) (h : ∀ r ∈ rs, Tx.Rune r) : (Tx.runes (Tx.ba (Tx.flat rs)).data.toList).isSome = true := by
  rw [show (Tx.ba (Tx.flat rs)).data.toList = Tx.flat rs from rfl, Tx.runes_flat' rs h]; rfl
theorem Tx.units_ba (rs : List Nat) (h : ∀ r ∈ rs, Tx.Rune r) : Tx.unitsL (Tx.ba (Tx.flat rs)).data.toList = some (Tx.cu rs) := by
  unfold Tx.unitsL; rw [show (Tx.ba (Tx.flat rs)).data.toList = Tx.flat rs from rfl, Tx.runes_flat' rs h]; rfl
/-- The same at an operation that stands behind a guard that holds. -/
theorem wpList_held {P : Program} {w : World} {ops : Array Oper} {rest : List Oper} {o : Oper} {a : Act} {Q : Exit → Act → World → Prop} (hw : Region.wanted o (yielded ops a.tmps) = true)
    (h : ∀ K : Act → World → Prop, (∀ a w, wpList P ops Q rest a w → K a w) → o.wp P a w K Q) : wpList P ops Q (o :: rest) a w :=
  wpList_step fun K hK => by rw [if_pos hw]; exact h K hK
theorem Tx.appendI_held {w : World} {ops : Array Oper} {rest : List Oper} {o : Oper} {a : Act} {Q : Exit → Act → World → Prop} (hw : Region.wanted o (yielded ops a.tmps) = true) (s x : Operand) (hop : o.op = .call { callee := .builtin .append, args := #[s, x], argTypes := #[48, 48] }) (B : Nat) (v : Value) (l : List Int) (hs : a.eval s = v) (hown : Tx.OwnI w B v l)
    (vs : Value) (xs : List Int) (hx : a.eval x = vs) (hi : Tx.Ints w w.heap.size vs xs) (hlen : l.length + xs.length ≤ 17592186044416) (hB : B ≤ w.heap.size)
    (hK : ∀ v' w', Tx.OwnI w' B v' (l ++ xs) → Below B w w' → B ≤ w'.heap.size → wpList Tryd.prog ops Q rest (a.put o.dst v') w') : wpList Tryd.prog ops Q (o :: rest) a w := by
  refine wpList_held hw fun K hKK => ?_
  obtain ⟨i0, hi0, hz0, hz1, hz2⟩ := info_parts Tx.infoI
  rcases hi with ⟨rfl, rfl⟩ | ⟨b, off, cap, rfl, h2, h2', h3, h4⟩
  · have hrun := run_append_owned_none (P := Tryd.prog) (w := w) B 48 o.type 3 i0 1 Tryd.underlying48 hi0 v l.length (l.map Tx.iv) hown
    unfold Oper.wp
    simp [execOp, hop, resolve, invoke, builtin, hs, hx, hrun, Result.andThen]
    exact hKK _ _ (hK v w (by rw [List.append_nil]; exact hown) (Below.refl _ _) hB)
  · refine wp_append_own w s x 48 hop B 3 i0 (.int .i64 0) 1 8 Tryd.underlying48 hi0 hz0 hz1 hz2 rfl (by decide) v l.length (l.map Tx.iv) hs hown ⟨b, off, none⟩ xs.length cap (xs.map Tx.iv) hx (by simp) ?_ (by intro u hu; obtain ⟨b, _, rfl⟩ := List.mem_map.1 hu; rfl) (by unfold maxLen; omega) (by omega) hB ?_
    · intro j u hu
      obtain ⟨hj, hu2⟩ := List.getElem?_eq_some_iff.1 hu
      rw [List.length_map] at hj
      have ea : ((⟨b, off, none⟩ : Addr).add j) = ⟨b, off + j, none⟩ := by unfold Addr.add; split <;> simp_all
      rw [ea, h4 j hj, ← hu2]
      simp [Tx.iv, List.getD_eq_getElem?_getD, List.getElem?_eq_getElem hj]
    · intro v' w' h1 h2 _
      refine hKK _ _ (hK v' w' ?_ ((Below.refl _ _).grown h2 hB fun k hk => (World.ownsRow.lt hown k hk).1) (Nat.le_trans hB h2.size))
      simpa [Tx.OwnI] using h1
/-- What was built on the way lies above. -/
theorem Tx.build_below {w w' w'' : World} (o : Obj) (h1 : Below w.heap.size (w.alloc o) w') (h2 : Below w.heap.size w' w'') : Below w.heap.size w w'' := (((Below.refl _ _).alloc (Nat.le_refl _) o).trans h1).trans h2
end Go.Proofs.YtbemgeicpbcdhaaDoor
