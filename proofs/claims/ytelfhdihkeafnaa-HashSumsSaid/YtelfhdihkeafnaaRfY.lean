/- A text's bytes, opened for writing: a row whose cells are free, and append to it. -/
import Derived.Test.YtelfhdihkeafnaaRfW
import Derived.ArgAppend
import Derived.Lib.ConvBytes
namespace Go.Proofs.Ytelfhdihkeafnaa
section
open Go.RowKit

/-- Slice value v holds the bytes l at the head of a row of the call's own, from block B on; none of its cells is frozen. -/
def Rf.OwnB (w : World) (B : Nat) (v : Value) (l : List UInt8) : Prop :=
  ∃ g cap, v = .slice (some ⟨g, 0, none⟩) l.length cap ∧ B ≤ g ∧ g < w.heap.size ∧ l.length ≤ cap ∧ (∀ j u, (l.map Tx.bv)[j]? = some u → w.cell? ⟨g, j, none⟩ = some u) ∧ (∀ j, j < cap → (w.cell? ⟨g, j, none⟩).isSome = true ∧ w.frozen? ⟨g, j, none⟩ = false)
theorem Rf.OwnB.ofOwn {w : World} {B : Nat} {v : Value} {l : List UInt8} (h : w.ownsRow B 5 1 v l.length (l.map Tx.bv)) (hl : 0 < l.length) : Rf.OwnB w B v l := by
  rcases h.2 with ⟨_, hn⟩ | ⟨g, cap, cur, rfl, hg, hgg, hle, _, hsz, hcur⟩
  · omega
  · refine ⟨g, cap, rfl, hg, (Array.getElem?_eq_some_iff.1 hgg).1, hle, fun j u hu => ?_, fun j hj => ⟨?_, Rf.frozen_of hgg⟩⟩
    · rw [cell_of_row w g j _ _ _ hgg]
      rw [← hcur, List.getElem?_take] at hu
      split at hu
      · simpa using hu
      · cases hu
    · rw [cell_of_row w g j _ _ _ hgg, Array.getElem?_eq_getElem (by omega)]
      rfl
theorem Rf.OwnB.to {w w' : World} {B g n c : Nat} {l : List UInt8} (h : Rf.OwnB w B (.slice (some ⟨g, 0, none⟩) n c) l) (e : w'.heap[g]? = w.heap[g]?) : Rf.OwnB w' B (.slice (some ⟨g, 0, none⟩) n c) l := by
  obtain ⟨g', cap, hv, hB, hlt, hle, hc, hf⟩ := h
  simp only [Value.slice.injEq, Option.some.injEq, Addr.mk.injEq] at hv
  obtain ⟨⟨rfl, _⟩, rfl, rfl⟩ := hv
  exact ⟨g, c, rfl, hB, Rf.lt_eq e hlt, hle, fun j u hu => (Rf.cell_eq e).trans (hc j u hu), fun j hj => by rw [Rf.cell_eq e, Rf.fro_eq e]; exact hf j hj⟩
theorem Rf.OwnB.below {w w' : World} {B : Nat} {v : Value} {l : List UInt8} (h : Rf.OwnB w B v l) (hb : Below w.heap.size w w') : Rf.OwnB w' B v l := by
  obtain ⟨g, cap, rfl, hB, hlt, r⟩ := h
  exact Rf.OwnB.to ⟨g, cap, rfl, hB, hlt, r⟩ (hb.block g hlt)
theorem Rf.OwnB.cell {w : World} {B g n c : Nat} {l : List UInt8} (h : Rf.OwnB w B (.slice (some ⟨g, 0, none⟩) n c) l) : ∀ j, j < l.length → w.cell? ⟨g, j, none⟩ = some (.int .u8 ((l.getD j 0).toNat : Int)) := by
  obtain ⟨g', cap, hv, hB, hlt, hle, hc, hf⟩ := h
  simp only [Value.slice.injEq, Option.some.injEq, Addr.mk.injEq] at hv
  obtain ⟨⟨rfl, _⟩, rfl, rfl⟩ := hv
  intro j hj
  exact hc j _ (by simp [hj, Tx.bv])
/-- The text's bytes. -/
theorem Rf.OwnB.ofText (w : World) (s : ByteArray) : Rf.OwnB (Lib.bytesWorld w 5 s) w.heap.size (.slice (some ⟨w.heap.size, 0, none⟩) s.size (grownCap w s.size 0 5)) s.data.toList ∧ Below w.heap.size w (Lib.bytesWorld w 5 s) := by
  have hge := grownCap_ge w s.size 0 5
  have hat := Lib.bytesWorld_at_new w 5 s
  have hsz : (Lib.bytesCells w 5 s).size = grownCap w s.size 0 5 := by
    simp only [Lib.bytesCells, Array.size_append, Array.size_map, Array.size_replicate, ByteArray.size_data]
    omega
  refine ⟨⟨w.heap.size, grownCap w s.size 0 5, by simp, Nat.le_refl _, by rw [Lib.bytesWorld_size]; omega, by simpa using hge, fun j u hu => ?_, fun j hj => ⟨?_, ?_⟩⟩, ⟨rfl, rfl, rfl, by rw [Lib.bytesWorld_size]; omega, fun k hk => Lib.bytesWorld_at_old w _ s k hk⟩⟩
  · have hj : j < s.size := by have := (List.getElem?_eq_some_iff.1 hu).1; simpa using this
    rw [Lib.bytesWorld_cell w _ s j hj, ← hu]
    simp [hj, Tx.bv]
  · rw [cell_of_row _ _ j _ _ _ hat, Array.getElem?_eq_getElem (by omega)]
    rfl
  · simp only [World.frozen?, hat]
    simp
    omega
section
variable {w : World} {ops : Array Oper} {rest : List Oper} {o : Oper} {a : Act} {Q : Exit → Act → World → Prop}
theorem Rf.appendB (hg : o.guard = none) (s x : Operand) (hop : o.op = .call { callee := .builtin .append, args := #[s, x], argTypes := #[50, 50] }) (B : Nat) (v : Value) (l : List UInt8) (hs : a.eval s = v) (hown : Rf.OwnB w B v l)
    (ad : Addr) (c : Nat) (bs : List UInt8) (hx : a.eval x = .slice (some ad) bs.length c) (hnew : ∀ j u, (bs.map Tx.bv)[j]? = some u → w.cell? (ad.add j) = some u) (hp : 0 < bs.length) (hlen : l.length + bs.length ≤ 140737488355328) (hB : B ≤ w.heap.size)
    (hK : ∀ v' w', Rf.OwnB w' B v' (l ++ bs) → Below B w w' → wpList Try.prog ops Q rest (a.put o.dst v') w') : wpList Try.prog ops Q (o :: rest) a w := by
  obtain ⟨i0, hi, hz0, hz1, hz2⟩ := info_parts Tx.info8
  obtain ⟨g, cap, rfl, hBg, hlt, hle, hc, hf⟩ := hown
  refine wpList_append_arg w hg s x 50 hop 5 i0 (.int .u8 0) 1 1 Try.underlying50 hi hz0 hz1 hz2 rfl (by decide) g 0 l.length cap (l.map Tx.bv) hs (by simp) (fun j u hu => by rw [Nat.zero_add]; exact hc j u hu) ad bs.length c (bs.map Tx.bv) hx (by simp) hnew (by intro u hu; obtain ⟨b, _, rfl⟩ := List.mem_map.1 hu; rfl) ?_ (by unfold maxLen; omega) (by omega) ?_ ?_
  · intro hr j hj
    rw [List.length_map] at hj
    have := hf (0 + l.length * 1 + j) (by omega)
    exact this
  · intro hr
    have e0 : 0 + l.length * 1 = l.length := by omega
    rw [e0]
    have hin : ∀ j, j < (bs.map Tx.bv).length → (w.cell? ⟨g, l.length + j, none⟩).isSome = true := fun j hj => by
      rw [List.length_map] at hj
      exact (hf _ (by omega)).1
    have e1 : (l ++ bs).length = l.length + bs.length := List.length_append
    rw [← e1]
    refine hK _ _ ⟨g, cap, rfl, hBg, ?_, by omega, fun j u hu => ?_, fun j hj => ?_⟩ ((Hs.But.setCells _ _ w).toBelow hBg hB)
    · exact Nat.lt_of_lt_of_le hlt (Hs.But.setCells (b := g) (bs.map Tx.bv) l.length w).size
    · rw [List.map_append] at hu
      by_cases h : j < l.length
      · rw [List.getElem?_append_left (by simpa using h)] at hu
        rw [World.cell?_setCells_out g _ _ w ⟨g, j, none⟩ (fun _ _ => .inl h)]
        exact hc j u hu
      · rw [List.getElem?_append_right (by simpa using Nat.le_of_not_lt h), List.length_map] at hu
        have hj := (List.getElem?_eq_some_iff.1 hu).1
        have := World.cell?_setCells_in g (bs.map Tx.bv) l.length w hin (j - l.length) hj
        rw [show l.length + (j - l.length) = j by omega] at this
        rw [this, ← (List.getElem?_eq_some_iff.1 hu).2]
    · rw [World.frozen?_setCells]
      refine ⟨?_, (hf j hj).2⟩
      by_cases h : l.length ≤ j ∧ j < l.length + bs.length
      · have := World.cell?_setCells_in g (bs.map Tx.bv) l.length w hin (j - l.length) (by rw [List.length_map]; omega)
        rw [show l.length + (j - l.length) = j by omega] at this
        rw [this]; rfl
      · rw [World.cell?_setCells_out g _ _ w ⟨g, j, none⟩ (fun _ _ => by rw [List.length_map]; show j < _ ∨ _ ≤ j; omega)]
        exact (hf j hj).1
  · intro hr v' w' h1 h2
    refine hK v' w' ?_ (((Below.refl _ _).grown h2 (Nat.le_refl _) (by simp)).mono hB)
    have h3 := Rf.OwnB.ofOwn (B := w.heap.size) (l := l ++ bs) (by simpa using h1) (by simp; omega)
    obtain ⟨g', cap', hv, hB', r⟩ := h3
    exact ⟨g', cap', hv, Nat.le_trans hB hB', r⟩
end
theorem Rf.Own.news {w : World} {B g n c : Nat} {l : List UInt8} (h : Tx.Own w B (.slice (some ⟨g, 0, none⟩) n c) l) : ∀ j u, (l.map Tx.bv)[j]? = some u → w.cell? ((⟨g, 0, none⟩ : Addr).add j) = some u := by
  intro j u hu
  have e : ((⟨g, 0, none⟩ : Addr).add j) = ⟨g, j, none⟩ := by unfold Addr.add; split <;> simp_all
  rw [e]
  have hl : 0 < l.length := by have := (List.getElem?_eq_some_iff.1 hu).1; rw [List.length_map] at this; omega
  obtain ⟨g', cap, hv, _, _, _, hc, _⟩ := Rf.OwnB.ofOwn h hl
  simp only [Value.slice.injEq, Option.some.injEq, Addr.mk.injEq] at hv
  obtain ⟨⟨rfl, _⟩, rfl, rfl⟩ := hv
  exact hc j u hu
theorem Rf.Own.form {w : World} {B : Nat} {v : Value} {l : List UInt8} (h : Tx.Own w B v l) (hl : 0 < l.length) : ∃ g c, v = .slice (some ⟨g, 0, none⟩) l.length c := by
  obtain ⟨g, c, hv, _⟩ := Rf.OwnB.ofOwn h hl
  exact ⟨g, c, hv⟩
end
section
open Go.RowKit

theorem Rf.ofNat_mod (x : Nat) : UInt8.ofNat (x % 256) = UInt8.ofNat x := by
  apply UInt8.toNat_inj.1
  rw [UInt8.toNat_ofNat', UInt8.toNat_ofNat']
  omega
theorem Rf.at8_eq (v b : Nat) (hv : v < 18446744073709551616) : Rf.at8 v b = UInt8.ofNat (v / 2 ^ (8 * b)) := by
  unfold Rf.at8
  split
  · have : v / 2 ^ (8 * b) = 0 := by
      apply Nat.div_eq_of_lt
      exact Nat.lt_of_lt_of_le hv (show (2 : Nat) ^ 64 ≤ 2 ^ (8 * b) from Nat.pow_le_pow_right (by decide) (by omega))
    rw [this]; rfl
  · exact Rf.ofNat_mod _
theorem Rf.be_eq (v : Nat) (hv : v < 18446744073709551616) : ∀ N, Rf.be v N = (List.range N).map fun i => UInt8.ofNat (v / 2 ^ (8 * (N - 1 - i)))
  | 0 => rfl
  | N + 1 => by
    rw [Rf.be, Rf.be_eq v hv N, List.range_succ_eq_map, List.map_cons, List.map_map, Rf.at8_eq v N hv]
    congr 1
    apply List.map_congr_left
    intro i hi
    have hi2 := List.mem_range.1 hi
    show _ = UInt8.ofNat (v / 2 ^ (8 * (N + 1 - 1 - (i + 1))))
    rw [show N + 1 - 1 - (i + 1) = N - 1 - i by omega]
theorem Rf.be_get (v N j : Nat) (hv : v < 18446744073709551616) (hj : j < N) : (Rf.be v N)[j]? = some (UInt8.ofNat (v / 2 ^ (8 * (N - 1 - j)))) := by
  rw [Rf.be_eq v hv N]
  simp [hj]
/-- What is told, number by number. -/
def Rf.outs (f : Nat → Nat) (wb : Nat) : Nat → List UInt8
  | 0 => []
  | k + 1 => Rf.outs f wb k ++ Rf.be (f k) wb
theorem Rf.outs_len (f : Nat → Nat) (wb : Nat) : ∀ k, (Rf.outs f wb k).length = k * wb
  | 0 => by simp [Rf.outs]
  | k + 1 => by rw [Rf.outs, List.length_append, Rf.outs_len f wb k, Rf.be_len, Nat.add_mul, Nat.one_mul]
theorem Rf.outs_get (f : Nat → Nat) (wb : Nat) (hw : 0 < wb) (hf : ∀ j, f j < 18446744073709551616) : ∀ k i, i < k * wb → (Rf.outs f wb k)[i]? = some (UInt8.ofNat (f (i / wb) / 2 ^ (8 * (wb - 1 - i % wb))))
  | 0, i, h => by omega
  | k + 1, i, h => by
    rw [Rf.outs]
    by_cases hi : i < k * wb
    · rw [List.getElem?_append_left (by rw [Rf.outs_len]; exact hi)]
      exact Rf.outs_get f wb hw hf k i hi
    · rw [List.getElem?_append_right (by rw [Rf.outs_len]; omega), Rf.outs_len]
      rw [Nat.add_mul, Nat.one_mul] at h
      have e1 : i / wb = k := by
        rw [show i = wb * k + (i - k * wb) by rw [Nat.mul_comm]; omega, Nat.mul_add_div hw, Nat.div_eq_of_lt (by omega)]
        rfl
      have e2 : i % wb = i - k * wb := by
        have := Nat.div_add_mod i wb
        rw [e1, Nat.mul_comm] at this
        omega
      rw [Rf.be_get _ _ _ (hf k) (by omega), e1, e2]
theorem Rf.tell_eq (κ : Nat) (hκ : κ < 2) (v : Hs.V8) (hv : v.lt (Hs.K κ).n) : (Rf.outs v.get (Hs.K κ).wb 8).take ((Hs.K κ).nn * (Hs.K κ).wb) = Hs.tell κ v := by
  obtain ⟨_, h2, h3⟩ := Rf.blk_eq κ hκ
  have hnn : (Hs.K κ).nn ≤ 8 := by rcases Rf.kκ κ hκ with rfl | rfl <;> decide
  have hle : (Hs.K κ).nn * (Hs.K κ).wb ≤ 8 * (Hs.K κ).wb := Nat.mul_le_mul_right _ hnn
  have hg : ∀ j, v.get j < 18446744073709551616 := by
    intro j
    have hn : (Hs.K κ).n ≤ 64 := by omega
    refine Nat.lt_of_lt_of_le (?_ : v.get j < 2 ^ (Hs.K κ).n) (Nat.pow_le_pow_right (n := 2) (by decide) hn)
    exact Hs.V8.all (p := fun x => x < 2 ^ (Hs.K κ).n) ⟨hv 0 (by omega), hv 1 (by omega), hv 2 (by omega), hv 3 (by omega), hv 4 (by omega), hv 5 (by omega), hv 6 (by omega), hv 7 (by omega)⟩ j
  unfold Hs.tell
  refine List.ext_getElem? fun i => ?_
  by_cases hi : i < (Hs.K κ).nn * (Hs.K κ).wb
  · rw [List.getElem?_take, if_pos hi, Rf.outs_get _ _ (by omega) hg 8 i (by omega)]
    simp [hi]
  · rw [List.getElem?_eq_none (by rw [List.length_take, Rf.outs_len]; omega), List.getElem?_eq_none (by simp; omega)]
theorem Rf.OwnQ.cel {w : World} {B g n c : Nat} {l : List Nat} (h : Rf.OwnQ w B (.slice (some ⟨g, 0, none⟩) n c) l) (hl : 0 < l.length) : Rf.Cel w g l.length (fun j => l.getD j 0) := by
  rcases h.cell with hd | hd
  · refine ⟨hd.cell, fun j => ?_, hd.lt⟩
    rcases h.2 with ⟨hv, _⟩ | ⟨g', cap, cur, hv, hg, hgg, _⟩
    · simp at hv
    · simp only [Value.slice.injEq, Option.some.injEq, Addr.mk.injEq] at hv
      obtain ⟨⟨rfl, _⟩, _, _⟩ := hv
      exact Rf.frozen_of hgg
  · rw [hd] at hl; simp at hl
theorem Rf.l8_cel {w : World} {B g n c : Nat} {f : Nat → Nat} (h : Rf.OwnQ w B (.slice (some ⟨g, 0, none⟩) n c) (Rf.l8 f)) : Rf.Cel w g 8 f := by
  have h1 := h.cel (by simp [Rf.l8])
  have e : (Rf.l8 f).length = 8 := by simp [Rf.l8]
  rw [e] at h1
  exact h1.congr (fun j hj => Rf.l8_get f j hj)
end
end Go.Proofs.Ytelfhdihkeafnaa
