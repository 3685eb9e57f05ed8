/- TextCursors: what a pair of calls keeps. -/
import Derived.Test.YtbemgeicpbcdhaaDoorCursM
namespace Go.Proofs.YtbemgeicpbcdhaaDoor
open Go.RowKit
section
variable {w w5 : World} {cs : List Tx.Cs} {N gx capx gy capy q8 n j bx bz k : Nat} {on kd nn : Int} {t : ByteArray}
/-- Both refuse alike. -/
theorem Tx.noPair (dr : World → World) (hdr : ∀ W, Below W.heap.size W (dr W)) (SIT : Tx.Sit w cs N gx capx gy capy q8 on kd nn w5) (U : Tx.Cus w.heap.size w5 cs) (hcj : cs[j]? = some ⟨bx, bz, t, k⟩) (h1 : 1 ≤ cs.length) (h2 : cs.length ≤ n + 1)
    (f1 f2 : FuncId) (a1 a2 : Array Value) (v1 v2 : Value) (c : Int) (D1 : ∀ W, Tx.Cur W bx t k → As.ErrVar W → Calls Tryd.prog f1 a1 W (Tx.RefusedV v1 c W)) (C2 : ∀ W, Tx.RCur W bz t k → Calls Tryd.prog f2 a2 W (Tx.RefusedV v2 c W)) :
    ∃ R1 R2 : World → Prop, (Calls Tryd.prog f1 a1 (dr w5) fun e w' => e = .returned (.tuple #[v1, .int .i64 c]) ∧ R1 w') ∧
      (∀ W, R1 W → W.cell? ⟨gy, j, none⟩ = some (.pointer (some ⟨bz, 0, none⟩)) ∧ W.cell? ⟨q8, 2, none⟩ = some (.int .i64 nn) ∧ Calls Tryd.prog f2 a2 (dr W) fun e w' => e = .returned (.tuple #[v2, .int .i64 c]) ∧ R2 w') ∧
      ∀ W, R2 W → Tx.Left2 w n (.slice (some ⟨gx, 0, none⟩) N capx) (.slice (some ⟨gy, 0, none⟩) N capy) W := by
  obtain ⟨hx5, hy5, htz, hB1, hB2⟩ := U.cur _ (List.mem_of_getElem? hcj)
  simp only at hx5 hy5
  have b0 := hdr w5
  refine ⟨fun W => Below w5.heap.size w5 W, fun W => Below w5.heap.size w5 W, ?_, ?_, ?_⟩
  · refine (D1 (dr w5) (hx5.below b0 hx5.lt) (SIT.below b0).S.ok.1).mono ?_
    rintro e w' ⟨he, hb⟩
    exact ⟨he, b0.trans (hb.mono b0.size)⟩
  · intro W hb
    have S7 := SIT.below hb
    have b1 := hdr W
    have hy7 := hy5.below hb hy5.lt
    refine ⟨S7.py hcj, S7.o2, (C2 (dr W) (hy7.below b1 hy7.lt)).mono ?_⟩
    rintro e w' ⟨he, hb2⟩
    exact ⟨he, hb.trans ((b1.trans (hb2.mono b1.size)).mono hb.size)⟩
  · intro W hb
    exact (SIT.below hb).left (U.below hb) h1 h2
/-- Both go on alike. -/
theorem Tx.okPair (dr : World → World) (hdr : ∀ W, Below W.heap.size W (dr W)) (h0 : Tx.Ok w) (SIT : Tx.Sit w cs N gx capx gy capy q8 on kd nn w5) (U : Tx.Cus w.heap.size w5 cs) (hcj : cs[j]? = some ⟨bx, bz, t, k⟩)
    (f1 f2 : FuncId) (a1 a2 : Array Value) (v1 v2 : Value) (k' : Nat) (D1 : ∀ W, Tx.Cur W bx t k → Calls Tryd.prog f1 a1 W fun e w' => e = .returned (.tuple #[v1, .int .i64 0]) ∧ Tx.Cur w' bx t k' ∧ W.grownBy w' (some bx))
    (C2 : ∀ W, Tx.RCur W bz t k → Calls Tryd.prog f2 a2 W fun e w' => e = .returned (.tuple #[v2, .int .i64 0]) ∧ Tx.RCur w' bz t k' ∧ W.grownBy w' (some bz)) :
    ∃ R1 R2 : World → Prop, (Calls Tryd.prog f1 a1 (dr w5) fun e w' => e = .returned (.tuple #[v1, .int .i64 0]) ∧ R1 w') ∧
      (∀ W, R1 W → W.cell? ⟨gy, j, none⟩ = some (.pointer (some ⟨bz, 0, none⟩)) ∧ W.cell? ⟨q8, 2, none⟩ = some (.int .i64 nn) ∧ Calls Tryd.prog f2 a2 (dr W) fun e w' => e = .returned (.tuple #[v2, .int .i64 0]) ∧ R2 w') ∧
      ∀ W, R2 W → Tx.Sit w cs N gx capx gy capy q8 on kd nn W ∧ Tx.Cus w.heap.size W (Tx.upd ⟨bx, bz, t, k⟩ k' cs) := by
  have hm := List.mem_of_getElem? hcj
  obtain ⟨hx5, hy5, htz, hB1, hB2⟩ := U.cur _ hm
  simp only at hx5 hy5 hB1 hB2
  have b0 := hdr w5
  refine ⟨fun W => Tx.Cur W bx t k' ∧ w5.grownBy W (some bx), fun W => Tx.Sit w cs N gx capx gy capy q8 on kd nn W ∧ Tx.Cus w.heap.size W (Tx.upd ⟨bx, bz, t, k⟩ k' cs), ?_, ?_, fun W h => h⟩
  · refine (D1 (dr w5) (hx5.below b0 hx5.lt)).mono ?_
    rintro e w' ⟨he, hc, hg⟩
    exact ⟨he, hc, Tx.grown_trans (Tx.below_grown b0 (some bx)) hg⟩
  · rintro W ⟨hx7, g7⟩
    have S7 := SIT.curX hx5 hB1 h0 g7
    have hy7 := hy5.other g7 hx5.1 (by decide)
    have b1 := hdr W
    have hy8 := hy7.below b1 hy7.lt
    refine ⟨S7.py hcj, S7.o2, (C2 (dr W) hy8).mono ?_⟩
    rintro e w' ⟨he, hy9, g9⟩
    exact ⟨he, (S7.below b1).curY hy8 hB2 h0 g9, U.step hm (Tx.grown_trans g7 (Tx.below_grown b1 (some bx))) (hx7.below b1 hx7.lt) g9 hy9⟩
theorem Tx.dr1 (W : World) : Below W.heap.size W W.drew := (Below.refl _ _).drew
theorem Tx.dr0 (W : World) : Below W.heap.size W (id W) := Below.refl _ _
theorem Tx.stepTake (h0 : Tx.Ok w) (SIT : Tx.Sit w cs N gx capx gy capy q8 on kd nn w5) (U : Tx.Cus w.heap.size w5 cs) (hcj : cs[j]? = some ⟨bx, bz, t, k⟩) (h1 : 1 ≤ cs.length) (h2 : cs.length ≤ n + 1) :
    ∃ (S : ByteArray) (C : Int) (R1 R2 : World → Prop), (Calls Tryd.prog 8 #[.pointer (some ⟨bx, 0, none⟩), .int .i64 nn] w5.drew fun e w' => e = .returned (.tuple #[.string S, .int .i64 C]) ∧ R1 w') ∧
      (∀ W, R1 W → W.cell? ⟨gy, j, none⟩ = some (.pointer (some ⟨bz, 0, none⟩)) ∧ W.cell? ⟨q8, 2, none⟩ = some (.int .i64 nn) ∧ Calls Tryd.prog 7 #[.pointer (some ⟨bz, 0, none⟩), .int .i64 nn] W.drew fun e w' => e = .returned (.tuple #[.string S, .int .i64 C]) ∧ R2 w') ∧
      ∀ W, R2 W → Tx.Left2 w n (.slice (some ⟨gx, 0, none⟩) N capx) (.slice (some ⟨gy, 0, none⟩) N capy) W := by
  obtain ⟨hx5, hy5, htz, hB1, hB2⟩ := U.cur _ (List.mem_of_getElem? hcj)
  simp only at hx5 htz
  have hL : k + (t.size - k) = t.size := by have := hx5.2; omega
  by_cases hn0 : nn < 0
  · obtain ⟨R1, R2, a, b, c⟩ := Tx.noPair World.drew Tx.dr1 SIT U hcj h1 h2 _ _ _ _ _ _ _ (fun W h ho => Tx.Take_no (Tx.take_neg h nn hn0) ho) (fun W h => Tx.RTake_neg h nn hn0)
    exact ⟨_, _, R1, R2, a, b, c⟩
  by_cases hn1 : ((t.size - k : Nat) : Int) < nn
  · obtain ⟨R1, R2, a, b, c⟩ := Tx.noPair World.drew Tx.dr1 SIT U hcj h1 h2 _ _ _ _ _ _ _ (fun W h ho => Tx.Take_no (Tx.take_end (L := t.size - k) h (by omega) hL nn (by omega) hn1) ho) (fun W h => Tx.RTake_end (L := t.size - k) h (by omega) hL nn (by omega) hn1)
    exact ⟨_, _, R1, R2, a, b, c⟩
  · obtain ⟨m, rfl⟩ := Int.eq_ofNat_of_zero_le (by omega : 0 ≤ nn)
    obtain ⟨R1, R2, a, b, c⟩ := Tx.okPair World.drew Tx.dr1 h0 SIT U hcj _ _ _ _ _ _ _ (fun W h => Tx.Take_ok (L := t.size - k) h (by omega) hL m (by omega)) (fun W h => Tx.RTake_ok (L := t.size - k) h (by omega) hL m (by omega))
    exact ⟨_, _, R1, R2, a, b, fun W h => (c W h).1.left_upd (c W h).2 h1 h2⟩
theorem Tx.stepUntil (h0 : Tx.Ok w) (SIT : Tx.Sit w cs N gx capx gy capy q8 on kd nn w5) (U : Tx.Cus w.heap.size w5 cs) (hcj : cs[j]? = some ⟨bx, bz, t, k⟩) (h1 : 1 ≤ cs.length) (h2 : cs.length ≤ n + 1) (z : UInt8) :
    ∃ (S : ByteArray) (C : Int) (R1 R2 : World → Prop), (Calls Tryd.prog 9 #[.pointer (some ⟨bx, 0, none⟩), .int .u8 (z.toNat : Int)] w5.drew fun e w' => e = .returned (.tuple #[.string S, .int .i64 C]) ∧ R1 w') ∧
      (∀ W, R1 W → W.cell? ⟨gy, j, none⟩ = some (.pointer (some ⟨bz, 0, none⟩)) ∧ W.cell? ⟨q8, 2, none⟩ = some (.int .i64 nn) ∧ Calls Tryd.prog 10 #[.pointer (some ⟨bz, 0, none⟩), .int .u8 (z.toNat : Int)] W.drew fun e w' => e = .returned (.tuple #[.string S, .int .i64 C]) ∧ R2 w') ∧
      ∀ W, R2 W → Tx.Left2 w n (.slice (some ⟨gx, 0, none⟩) N capx) (.slice (some ⟨gy, 0, none⟩) N capy) W := by
  obtain ⟨hx5, hy5, htz, hB1, hB2⟩ := U.cur _ (List.mem_of_getElem? hcj)
  simp only at hx5 htz
  by_cases hi : Lib.indexByte (t.data.toList.drop k) z = -1
  · obtain ⟨R1, R2, a, b, c⟩ := Tx.noPair World.drew Tx.dr1 SIT U hcj h1 h2 _ _ _ _ _ _ _ (fun W h ho => Tx.Until_no (Tx.until_none h (by omega) z hi) ho) (fun W h => Tx.RUntil_none h (by omega) z hi)
    exact ⟨_, _, R1, R2, a, b, c⟩
  · have hge := Lib.indexByte_ge (t.data.toList.drop k) z
    obtain ⟨o, ho⟩ := Int.eq_ofNat_of_zero_le (by omega : 0 ≤ Lib.indexByte (t.data.toList.drop k) z)
    have hob : k + o < t.size := by
      have h1 := (Lib.indexByte_some ho).1
      rw [List.getElem?_drop] at h1
      have := (List.getElem?_eq_some_iff.1 h1).1
      rwa [Tx.len] at this
    obtain ⟨R1, R2, a, b, c⟩ := Tx.okPair World.drew Tx.dr1 h0 SIT U hcj _ _ _ _ _ _ _ (fun W h => Tx.Until_ok h (by omega) z o hob ho) (fun W h => Tx.RUntil_some h (by omega) z o hob ho)
    exact ⟨_, _, R1, R2, a, b, fun W h => (c W h).1.left_upd (c W h).2 h1 h2⟩
/-- A new cursor within one. -/
theorem Tx.stepWithin (h0 : Tx.Ok w) (m : Nat) (SIT : Tx.Sit w cs N gx capx gy capy q8 on kd (m : Int) w5) (U : Tx.Cus w.heap.size w5 cs) (hcj : cs[j]? = some ⟨bx, bz, t, k⟩) (hgx : w.heap.size ≤ gx) (hgy : w.heap.size ≤ gy) (hm1 : m ≤ t.size - k) :
    ∃ (t2 : ByteArray) (R1 : Nat → World → Prop), t2.size ≤ 140737488355328 ∧ (Calls Tryd.prog 11 #[.pointer (some ⟨bx, 0, none⟩), .int .i64 (m : Int)] w5.drew fun e w' => ∃ d, e = .returned (.tuple #[.pointer (some ⟨d, 0, none⟩), .int .i64 0]) ∧ R1 d w') ∧
      ∀ d W, R1 d W → W.cell? ⟨gy, j, none⟩ = some (.pointer (some ⟨bz, 0, none⟩)) ∧ W.cell? ⟨q8, 2, none⟩ = some (.int .i64 (m : Int)) ∧ Calls Tryd.prog 7 #[.pointer (some ⟨bz, 0, none⟩), .int .i64 (m : Int)] W.drew fun e w' => e = .returned (.tuple #[.string t2, .int .i64 0]) ∧ Tx.Pair w (Tx.upd ⟨bx, bz, t, k⟩ (k + m) cs) N gx capx gy capy d t2 0 w' := by
  have hm := List.mem_of_getElem? hcj
  obtain ⟨hx5, hy5, htz, hB1, hB2⟩ := U.cur _ hm
  simp only at hx5 hy5 htz hB1 hB2
  have hL : k + (t.size - k) = t.size := by have := hx5.2; omega
  have b0 := Tx.dr1 w5
  refine ⟨t.extract k (k + m), fun d W => w5.heap.size ≤ d ∧ Tx.Cur W d (t.extract k (k + m)) 0 ∧ Tx.Cur W bx t (k + m) ∧ w5.grownBy W (some bx), by rw [Tx.ext_size t k m (by omega)]; omega, ?_, ?_⟩
  · refine (Tx.Within_ok (L := t.size - k) (hx5.below b0 hx5.lt) (by omega) hL m hm1).mono ?_
    rintro e w' ⟨d, he, hd, hc, hx, hg⟩
    exact ⟨d, he, hd, hc, hx, Tx.grown_trans (Tx.below_grown b0 (some bx)) hg⟩
  · rintro d W ⟨hd, hd7, hx7, g7⟩
    have S7 := SIT.curX hx5 hB1 h0 g7
    have hy7 := hy5.other g7 hx5.1 (by decide)
    have b1 := Tx.dr1 W
    have hy8 := hy7.below b1 hy7.lt
    have hd8 := hd7.below b1 hd7.lt
    refine ⟨S7.py hcj, S7.o2, (Tx.RTake_ok (L := t.size - k) hy8 (by omega) hL m hm1).mono ?_⟩
    rintro e w' ⟨he, hy9, g9⟩
    have S9 := (S7.below b1).curY hy8 hB2 h0 g9
    have U9 := U.step hm (Tx.grown_trans g7 (Tx.below_grown b1 (some bx))) (hx7.below b1 hx7.lt) g9 hy9
    refine ⟨he, Tx.Pair.mk (S9.X.upd _ _) (S9.Y.upd _ _) U9 S9.S (hd8.other g9 hy8.1 (by decide)) ⟨hgx, hgy, Nat.le_trans SIT.S.size hd, S9.S.size⟩ ?_⟩
    intro c hc
    obtain ⟨e, he, h1, _⟩ := Tx.upd_mem hc
    rw [h1]
    exact Nat.ne_of_lt (Nat.lt_of_lt_of_le (U.cur e he).1.lt hd)
/-- A clone. -/
theorem Tx.stepClone (SIT : Tx.Sit w cs N gx capx gy capy q8 on kd nn w5) (U : Tx.Cus w.heap.size w5 cs) (hcj : cs[j]? = some ⟨bx, bz, t, k⟩) (hgx : w.heap.size ≤ gx) (hgy : w.heap.size ≤ gy) :
    ∃ R1 : Nat → World → Prop, (Calls Tryd.prog 12 #[.pointer (some ⟨bx, 0, none⟩)] w5 fun e w' => ∃ d, e = .returned (.pointer (some ⟨d, 0, none⟩)) ∧ R1 d w') ∧
      ∀ d W, R1 d W → W.cell? ⟨gy, j, none⟩ = some (.pointer (some ⟨bz, 0, none⟩)) ∧ Tx.RCur W bz t k ∧ Tx.Pair w cs N gx capx gy capy d t k W := by
  obtain ⟨hx5, hy5, htz, hB1, hB2⟩ := U.cur _ (List.mem_of_getElem? hcj)
  simp only at hx5 hy5
  refine ⟨fun d W => w5.heap.size ≤ d ∧ Tx.Cur W d t k ∧ Below w5.heap.size w5 W, ?_, ?_⟩
  · refine (Tx.Clone_any hx5).mono ?_
    rintro e w' ⟨d, he, hd, hc, hb⟩
    exact ⟨d, he, hd, hc, hb⟩
  · rintro d W ⟨hd, hc, hb⟩
    have S7 := SIT.below hb
    refine ⟨S7.py hcj, hy5.below hb hy5.lt, Tx.Pair.mk S7.X S7.Y (U.below hb) S7.S hc ⟨hgx, hgy, Nat.le_trans SIT.S.size hd, S7.S.size⟩ ?_⟩
    intro c hc
    exact Nat.ne_of_lt (Nat.lt_of_lt_of_le (U.cur c hc).1.lt hd)
end
end Go.Proofs.YtbemgeicpbcdhaaDoor
