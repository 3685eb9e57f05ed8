/- The reference: Sums. -/
import Derived.Test.YtccbnpondlncpaaGreatDoorRnN
import Derived.Great.BuildSlice
import Derived.Laws.Tables
import Derived.Laws.Rows
namespace Go.Proofs.YtccbnpondlncpaaGreatDoor
open Go.RowKit
/-- A block of memory, and what it holds. -/
structure Rn.Blk (w : World) (p : Nat) (o : Obj) : Prop where
  lt : p < w.heap.size
  eq : w.heap[p]? = some o
theorem Rn.Blk.below {w w' : World} {p : Nat} {o : Obj} (h : Rn.Blk w p o) (hb : Below w.heap.size w w') : Rn.Blk w' p o := ⟨Nat.lt_of_lt_of_le h.lt hb.size, (hb.block p h.lt).trans h.eq⟩
theorem Rn.Blk.new (w : World) (o : Obj) : Rn.Blk (w.alloc o) w.heap.size o := ⟨by show w.heap.size < (w.heap.push o).size; simp, heap_alloc_new w o⟩
theorem Rn.info5 : (Tryz.prog.info? 22).map (·.size) = some 5 := by kernel_rfl
/-- Five texts. -/
def Rn.s5 (a b c d e : ByteArray) : Array Value := #[.string a, .string b, .string c, .string d, .string e]
theorem Rn.s5_one (a b c d e : ByteArray) : (Rn.s5 a b c d e).all (·.oneCell') = true := by simp [Rn.s5, Value.oneCell']
theorem Rn.setRow_blk {w : World} {p : Nat} {old : Array Value} (h : Rn.Blk w p (.cells old 22 (0, 0))) (new : Array Value) : Rn.Blk (w.setRow p new) p (.cells new 22 (0, 0)) :=
  ⟨by have := h.lt; simpa [World.setRow] using this, setRow_heap w p old new 22 _ h.eq⟩
theorem Rn.setRow_below {B : Nat} {w w' : World} (h : Below B w w') (p : Nat) (new : Array Value) (hp : B ≤ p) : Below B w (w'.setRow p new) :=
  ⟨h.os, h.tape, h.output, by have := h.size; simpa [World.setRow] using this, fun k hk => (setRow_other w' p k new (by omega)).trans (h.block k hk)⟩
theorem Rn.setCell_blk {w : World} {p q j : Nat} {cs : Array Value} {v : Value} (h : Rn.Blk w p (.cells cs 22 (0, 0))) (hq : q = p) : Rn.Blk (w.setCell ⟨q, j, none⟩ v) p (.cells (cs.setIfInBounds j v) 22 (0, 0)) := by
  subst hq
  exact ⟨by have := h.lt; simpa using this, heap_setCell_same w q j cs _ v h.eq⟩
theorem Rn.setCell_far {w : World} {p q j : Nat} {o : Obj} {v : Value} (h : Rn.Blk w p o) (hq : p ≠ q) : Rn.Blk (w.setCell ⟨q, j, none⟩ v) p o :=
  ⟨by have := h.lt; simpa using this, (heap_setCell_other w ⟨q, j, none⟩ p v hq).trans h.eq⟩
theorem Rn.blk_cell {w : World} {p : Nat} {a b c d e : ByteArray} (h : Rn.Blk w p (.cells (Rn.s5 a b c d e) 22 (0, 0))) :
    w.cell? ⟨p, 0, none⟩ = some (.string a) ∧ w.cell? ⟨p, 1, none⟩ = some (.string b) ∧ w.cell? ⟨p, 2, none⟩ = some (.string c) ∧ w.cell? ⟨p, 3, none⟩ = some (.string d) ∧ w.cell? ⟨p, 4, none⟩ = some (.string e) :=
  ⟨cell_of_row w p 0 _ _ _ h.eq, cell_of_row w p 1 _ _ _ h.eq, cell_of_row w p 2 _ _ _ h.eq, cell_of_row w p 3 _ _ _ h.eq, cell_of_row w p 4 _ _ _ h.eq⟩
theorem Rn.sums_results (w : World) (p : Nat) (a b c d e : ByteArray) (E F : Int) (tmps : Array Value) (h4 : tmps[4]?.getD undef = .pointer (some ⟨p, 0, none⟩)) (h5 : tmps[5]?.getD undef = .int .i64 E) (h6 : tmps[6]?.getD undef = .int .i64 F) (hb : Rn.Blk w p (.cells (Rn.s5 a b c d e) 22 (0, 0))) :
    (results Tryz.f8 tmps).run Tryz.prog w = .ok (.tuple #[.agg (Rn.s5 a b c d e), .int .i64 E, .int .i64 F]) w := by
  obtain ⟨c0, c1, c2, c3, c4⟩ := Rn.blk_cell hb
  simp [results, Tryz.results8, go_sem, h4, h5, h6, c0, c1, c2, c3, c4, Rn.s5]
set_option maxHeartbeats 1000000 in
set_option maxRecDepth 100000 in
theorem Rn.Sums_long (w : World) (a b : ByteArray) (za : a.size ≤ 9223372036854775807) (zb : b.size ≤ 9223372036854775807) (h : 512 < a.size ∨ 512 < b.size) :
    Calls Tryz.prog 8 #[.string a, .string b] w fun e w' => e = .returned (.tuple #[.agg (Rn.s5 ⟨#[]⟩ ⟨#[]⟩ ⟨#[]⟩ ⟨#[]⟩ ⟨#[]⟩), .int .i64 30, .int .i64 30]) ∧ Below w.heap.size w w' := by
  have HL := Lib.hid (And.intro za (And.intro zb h))
  clear h
  go_enter Tryz.func8, Tryz.ntmps8
  go_wp2_with fail
  have hk := Rn.Blk.new w (Obj.cells #[.string ⟨#[]⟩, .string ⟨#[]⟩, .string ⟨#[]⟩, .string ⟨#[]⟩, .string ⟨#[]⟩] 22)
  have hb := (Below.refl w.heap.size w).alloc (Nat.le_refl _) (Obj.cells #[.string ⟨#[]⟩, .string ⟨#[]⟩, .string ⟨#[]⟩, .string ⟨#[]⟩, .string ⟨#[]⟩] 22)
  have hs : (w.alloc (Obj.cells #[.string ⟨#[]⟩, .string ⟨#[]⟩, .string ⟨#[]⟩, .string ⟨#[]⟩, .string ⟨#[]⟩] 22)).heap.size = w.heap.size + 1 := by show (w.heap.push _).size = _; simp
  revert hk hb hs
  generalize w.alloc (Obj.cells #[.string ⟨#[]⟩, .string ⟨#[]⟩, .string ⟨#[]⟩, .string ⟨#[]⟩, .string ⟨#[]⟩] 22) = w1
  intro hk hb hs
  have hn := Rn.Blk.new w1 (Obj.cells #[.string a, .string b] 9)
  have hb2 := (Below.refl w1.heap.size w1).alloc (Nat.le_refl _) (Obj.cells #[.string a, .string b] 9)
  rw [hs] at hn
  have hk2 := hk.below hb2
  have hbt := hb.trans (hb2.mono hb.size)
  revert hn hk2 hbt
  clear hb2
  generalize w1.alloc (Obj.cells #[.string a, .string b] 9) = w2
  intro hn hk2 hbt
  have H2 := Lib.hid (And.intro hn (And.intro hk2 hbt))
  clear hk hb hs hn hk2 hbt
  go_at_call 13
  refine Calls.mono (Rn.Long_two w2 _ _ a b true H2.out.1.eq HL.out.1 HL.out.2.1 (.inr ⟨rfl, HL.out.2.2⟩)) ?_
  rintro e3 w2 ⟨rfl, rfl⟩
  go_wp2_with (refine wpList_store_row rfl 22 (.tmp 4) (.tmp 18) rfl w.heap.size (Rn.s5 ⟨#[]⟩ ⟨#[]⟩ ⟨#[]⟩ ⟨#[]⟩ ⟨#[]⟩) rfl rfl 22 _ H2.out.2.1.eq Rn.info5 rfl (Rn.s5_one _ _ _ _ _) ?_)
  have hk4 := Rn.setRow_blk H2.out.2.1 (Rn.s5 ⟨#[]⟩ ⟨#[]⟩ ⟨#[]⟩ ⟨#[]⟩ ⟨#[]⟩)
  exact bodyPost_ret (Rn.sums_results _ w.heap.size _ _ _ _ _ 30 30 _ rfl rfl rfl hk4) rfl ⟨rfl, Rn.setRow_below H2.out.2.2 _ _ (Nat.le_refl _)⟩
theorem Rn.sum_lt (x y n N p q : Nat) (hx : x < 256 ^ p) (hy : y < 256 ^ q) (hp : p ≤ 2 * n) (hq : q ≤ 2 * n) (hN : N = n + 1) : x + y < 65536 ^ N := by
  have h3 : 256 ^ p ≤ 256 ^ (2 * n) := Nat.pow_le_pow_right (by decide) hp
  have h4 : 256 ^ q ≤ 256 ^ (2 * n) := Nat.pow_le_pow_right (by decide) hq
  rw [Nat.pow_mul] at h3 h4
  rw [hN, Nat.pow_succ]
  have h5 : (256 : Nat) ^ 2 = 65536 := rfl
  rw [h5] at h3 h4
  omega
set_option maxHeartbeats 4000000 in
set_option maxRecDepth 100000 in
theorem Rn.Sums_le_pos (w : World) (a b S P D Q R : ByteArray) (za : a.size ≤ 512) (zb : b.size ≤ 512)
    (hS : (⟨(Nt.fm (Nt.nv a + Nt.nv b)).toArray⟩ : ByteArray) = S) (hP : (⟨(Nt.fm (Nt.nv a * Nt.nv b)).toArray⟩ : ByteArray) = P) (hD : (⟨(Nt.fm (Nt.nv a - Nt.nv b)).toArray⟩ : ByteArray) = D)
    (hQ : (⟨(Nt.fm (Nt.nv a / Nt.nv b)).toArray⟩ : ByteArray) = Q) (hR : (⟨(Nt.fm (Nt.nv a % Nt.nv b)).toArray⟩ : ByteArray) = R) (hle : Nt.nv b ≤ Nt.nv a) (hb0 : 0 < Nt.nv b) :
    Calls Tryz.prog 8 #[.string a, .string b] w fun e w' => e = .returned (.tuple #[.agg (Rn.s5 S D P Q R), .int .i64 0, .int .i64 0]) ∧ Below w.heap.size w w' := by
  have HV := Lib.hid (And.intro hS (And.intro hP (And.intro hD (And.intro hQ hR))))
  have HL := Lib.hid (And.intro (show a.size ≤ 9223372036854775807 by omega) (And.intro (show b.size ≤ 9223372036854775807 by omega) (And.intro (And.intro za zb) (And.intro (show a.size ≤ 8000000 by omega) (And.intro (show b.size ≤ 8000000 by omega) (And.intro hle hb0))))))
  clear hS hP hD hQ hR hle hb0
  go_enter Tryz.func8, Tryz.ntmps8
  go_wp2_with fail
  have hk := Rn.Blk.new w (Obj.cells #[.string ⟨#[]⟩, .string ⟨#[]⟩, .string ⟨#[]⟩, .string ⟨#[]⟩, .string ⟨#[]⟩] 22)
  have hb := (Below.refl w.heap.size w).alloc (Nat.le_refl _) (Obj.cells #[.string ⟨#[]⟩, .string ⟨#[]⟩, .string ⟨#[]⟩, .string ⟨#[]⟩, .string ⟨#[]⟩] 22)
  have hs : (w.alloc (Obj.cells #[.string ⟨#[]⟩, .string ⟨#[]⟩, .string ⟨#[]⟩, .string ⟨#[]⟩, .string ⟨#[]⟩] 22)).heap.size = w.heap.size + 1 := by show (w.heap.push _).size = _; simp
  revert hk hb hs
  generalize w.alloc (Obj.cells #[.string ⟨#[]⟩, .string ⟨#[]⟩, .string ⟨#[]⟩, .string ⟨#[]⟩, .string ⟨#[]⟩] 22) = w1
  intro hk hb hs
  have hn := Rn.Blk.new w1 (Obj.cells #[.string a, .string b] 9)
  have hb2 := (Below.refl w1.heap.size w1).alloc (Nat.le_refl _) (Obj.cells #[.string a, .string b] 9)
  rw [hs] at hn
  have hk2 := hk.below hb2
  have hbt := hb.trans (hb2.mono hb.size)
  revert hn hk2 hbt
  clear hb2
  generalize w1.alloc (Obj.cells #[.string a, .string b] 9) = w2
  intro hn hk2 hbt
  have H2 := Lib.hid (And.intro hn (And.intro hk2 hbt))
  clear hk hb hs hn hk2 hbt
  go_at_call 13
  refine Calls.mono (Rn.Long_two w2 _ _ a b false H2.out.1.eq HL.out.1 HL.out.2.1 (.inl ⟨rfl, HL.out.2.2.1.1, HL.out.2.2.1.2⟩)) ?_
  rintro e3 w2 ⟨rfl, rfl⟩
  have H3 := Lib.hid (And.intro H2.out.2.1 (And.intro H2.out.2.2 True.intro))
  go_wp2_with fail
  go_at_call 15
  refine Calls.mono (Rn.Of_any w2 a HL.out.2.2.2.1) ?_
  rintro e4 w4 ⟨av4, k4, c4, rfl, hN, hb⟩
  have H4 := Lib.hid (And.intro (H3.out.1.below hb) (And.intro (H3.out.2.1.trans (hb.mono H3.out.2.1.size)) (And.intro hN True.intro)))
  clear hN hb
  go_wp2_with fail
  go_at_call 15
  refine Calls.mono (Rn.Of_any w4 b HL.out.2.2.2.2.1) ?_
  rintro e5 w5 ⟨av5, k5, c5, rfl, hN, hb⟩
  have H5 := Lib.hid (And.intro (H4.out.1.below hb) (And.intro (H4.out.2.1.trans (hb.mono H4.out.2.1.size)) (And.intro (H4.out.2.2.1.below hb) (And.intro hN True.intro))))
  clear hN hb
  have hx := H5.out.2.2.1.bytes 256 a.size (Nt.nv_lt a) (by have := HL.out.2.2.1; omega)
  have hy := H5.out.2.2.2.1.bytes 256 b.size (Nt.nv_lt b) (by have := HL.out.2.2.1; omega)
  go_wp2_with fail
  go_at_call 30
  refine Calls.mono (Rn.Plus_any w5 av4 av5 k4 c4 _ k5 c5 _ H5.out.2.2.1 H5.out.2.2.2.1 (by omega) (by omega)) ?_
  rintro e6 w6 ⟨av6, k6, c6, rfl, hN, hb⟩
  have H6 := Lib.hid (And.intro (H5.out.1.below hb) (And.intro (H5.out.2.1.trans (hb.mono H5.out.2.1.size)) (And.intro (H5.out.2.2.1.below hb) (And.intro (H5.out.2.2.2.1.below hb) (And.intro hN True.intro)))))
  clear hN hb
  have hs3 := H6.out.2.2.2.2.1.len 257 (Rn.sum_lt _ _ 256 257 _ _ (Nt.nv_lt a) (Nt.nv_lt b) HL.out.2.2.1.1 HL.out.2.2.1.2 rfl)
  have CF := Lib.hid (Rn.Form_any w6 av6 k6 c6 _ H6.out.2.2.2.2.1 (by omega))
  rw [HV.out.1] at CF
  go_wp2_with fail
  go_at_call 17
  refine Calls.mono (CF.out) ?_
  rintro e7 w7 ⟨rfl, hb⟩
  have H7 := Lib.hid (And.intro (H6.out.1.below hb) (And.intro (H6.out.2.1.trans (hb.mono H6.out.2.1.size)) (And.intro (H6.out.2.2.1.below hb) (And.intro (H6.out.2.2.2.1.below hb) (And.intro (H6.out.2.2.2.2.1.below hb) True.intro)))))
  clear hb
  clear CF
  go_wp2_with fail
  go_at_call 28
  refine Calls.mono (Rn.Times_any w7 av4 av5 k4 c4 _ k5 c5 _ H7.out.2.2.1 H7.out.2.2.2.1 (by omega) (by omega)) ?_
  rintro e8 w8 ⟨av8, k8, c8, rfl, hN, hb⟩
  have H8 := Lib.hid (And.intro (H7.out.1.below hb) (And.intro (H7.out.2.1.trans (hb.mono H7.out.2.1.size)) (And.intro (H7.out.2.2.1.below hb) (And.intro (H7.out.2.2.2.1.below hb) (And.intro (H7.out.2.2.2.2.1.below hb) (And.intro hN True.intro))))))
  clear hN hb
  have ht3 := H8.out.2.2.2.2.2.1.mul H8.out.2.2.1.lt H8.out.2.2.2.1.lt
  have CF := Lib.hid (Rn.Form_any w8 av8 k8 c8 _ H8.out.2.2.2.2.2.1 (by omega))
  rw [HV.out.2.1] at CF
  go_wp2_with fail
  go_at_call 17
  refine Calls.mono (CF.out) ?_
  rintro e9 w9 ⟨rfl, hb⟩
  have H9 := Lib.hid (And.intro (H8.out.1.below hb) (And.intro (H8.out.2.1.trans (hb.mono H8.out.2.1.size)) (And.intro (H8.out.2.2.1.below hb) (And.intro (H8.out.2.2.2.1.below hb) (And.intro (H8.out.2.2.2.2.1.below hb) (And.intro (H8.out.2.2.2.2.2.1.below hb) True.intro))))))
  clear hb
  clear CF
  have hr0 : 0 ≤ Nt.cmp (Nt.nv a) (Nt.nv b) := by have := HL.out.2.2.2.2.2.1; unfold Nt.cmp; rw [if_neg (by omega)]; split <;> decide
  obtain ⟨r, hr⟩ : ∃ r, Nt.cmp (Nt.nv a) (Nt.nv b) = r := ⟨_, rfl⟩
  rw [hr] at hr0
  have HR := Lib.hid hr
  clear hr
  have hm0 : (0 : Int) < (k5 : Int) := by have h1 := H9.out.2.2.2.1.zero; have h2 : k5 ≠ 0 := fun h => absurd (h1.1 h) (Nat.ne_of_gt HL.out.2.2.2.2.2.2); omega
  go_wp2_with (refine wpList_store_row rfl 22 (.tmp 9) (.tmp 31) rfl w9.heap.size (Rn.s5 S ⟨#[]⟩ P ⟨#[]⟩ ⟨#[]⟩) rfl rfl 22 _ (heap_alloc_new w9 _) Rn.info5 rfl (Rn.s5_one _ _ _ _ _) ?_; rw [World.setRow_alloc_new])
  have hk9 := Rn.Blk.new w9 (Obj.cells (Rn.s5 S ⟨#[]⟩ P ⟨#[]⟩ ⟨#[]⟩) 22)
  have hb := (Below.refl w9.heap.size w9).alloc (Nat.le_refl _) (Obj.cells (Rn.s5 S ⟨#[]⟩ P ⟨#[]⟩ ⟨#[]⟩) 22)
  revert hk9 hb
  generalize w9.alloc (Obj.cells (Rn.s5 S ⟨#[]⟩ P ⟨#[]⟩ ⟨#[]⟩) 22) = w10
  intro hk9 hb
  have hp4 : w.heap.size < w9.heap.size := H9.out.1.lt
  have H10 := Lib.hid (And.intro (H9.out.1.below hb) (And.intro (H9.out.2.1.trans (hb.mono H9.out.2.1.size)) (And.intro (H9.out.2.2.1.below hb) (And.intro (H9.out.2.2.2.1.below hb) (And.intro hk9 (And.intro hb True.intro))))))
  have HP4 := Lib.hid hp4
  clear hk9 hb hp4
  have CC := Lib.hid (Rn.Cmp_any w10 av4 av5 k4 c4 _ k5 c5 _ (H9.out.2.2.1.below H10.out.2.2.2.2.2.1) (H9.out.2.2.2.1.below H10.out.2.2.2.2.2.1) (by omega) (by omega))
  rw [HR.out] at CC
  go_at_call 21
  refine Calls.mono (CC.out) ?_
  rintro e11 w11 ⟨rfl, j11, hw⟩
  have hb : Below w10.heap.size w10 w11 := by rw [hw]; exact Rn.beyond (Below.refl _ _) j11
  have H11 := Lib.hid (And.intro (H10.out.1.below hb) (And.intro (H10.out.2.1.trans (hb.mono H10.out.2.1.size)) (And.intro (H10.out.2.2.1.below hb) (And.intro (H10.out.2.2.2.1.below hb) (And.intro (H10.out.2.2.2.2.1.below hb) (And.intro (H10.out.2.2.2.2.2.1.trans (hb.mono H10.out.2.2.2.2.2.1.size)) True.intro))))))
  clear hb hw
  clear CC
  go_wp2_with fail
  go_at_call 31
  refine Calls.mono (Rn.Minus_any w11 av4 av5 k4 c4 _ k5 c5 _ (H9.out.2.2.1.below H11.out.2.2.2.2.2.1) (H9.out.2.2.2.1.below H11.out.2.2.2.2.2.1) (by omega) HL.out.2.2.2.2.2.1) ?_
  rintro e12 w12 ⟨av12, k12, c12, rfl, hN, hb⟩
  have H12 := Lib.hid (And.intro (H11.out.1.below hb) (And.intro (H11.out.2.1.trans (hb.mono H11.out.2.1.size)) (And.intro (H11.out.2.2.1.below hb) (And.intro (H11.out.2.2.2.1.below hb) (And.intro (H11.out.2.2.2.2.1.below hb) (And.intro (H11.out.2.2.2.2.2.1.trans (hb.mono H11.out.2.2.2.2.2.1.size)) (And.intro hN True.intro)))))))
  clear hN hb
  have hd3 := H12.out.2.2.2.2.2.2.1.mono2 H9.out.2.2.1 (Nat.sub_le _ _)
  have CF := Lib.hid (Rn.Form_any w12 av12 k12 c12 _ H12.out.2.2.2.2.2.2.1 (by omega))
  rw [HV.out.2.2.1] at CF
  go_wp2_with fail
  go_at_call 17
  refine Calls.mono (CF.out) ?_
  rintro e13 w13 ⟨rfl, hb⟩
  have H13 := Lib.hid (And.intro (H12.out.1.below hb) (And.intro (H12.out.2.1.trans (hb.mono H12.out.2.1.size)) (And.intro (H12.out.2.2.1.below hb) (And.intro (H12.out.2.2.2.1.below hb) (And.intro (H12.out.2.2.2.2.1.below hb) (And.intro (H12.out.2.2.2.2.2.1.trans (hb.mono H12.out.2.2.2.2.2.1.size)) (And.intro (H12.out.2.2.2.2.2.2.1.below hb) True.intro)))))))
  clear hb
  clear CF
  obtain ⟨c0, c1, c2, c3, c4⟩ := Rn.blk_cell H13.out.2.2.2.2.1
  have fz : ∀ j, w13.frozen? ⟨w9.heap.size, j, none⟩ = false := fun j => by have h := H13.out.2.2.2.2.1.eq; simp [World.frozen?, h]
  go_wp2_with fail
  clear c0 c1 c2 c3 c4 fz
  have hk : Rn.Blk (w13.setCell ⟨w9.heap.size, 1, none⟩ (.string D)) w9.heap.size (.cells (Rn.s5 S D P ⟨#[]⟩ ⟨#[]⟩) 22 (0, 0)) := Rn.setCell_blk (j := 1) (v := .string D) H13.out.2.2.2.2.1 rfl
  have hk4 := Rn.setCell_far (j := 1) (v := .string D) H13.out.1 (Nat.ne_of_lt HP4.out)
  have hbl := H13.out.2.1.setCell (p := ⟨w9.heap.size, 1, none⟩) (Nat.le_of_lt HP4.out) (.string D)
  have hb9 := H13.out.2.2.2.2.2.1.setCell (p := ⟨w9.heap.size, 1, none⟩) (Nat.le_refl _) (.string D)
  revert hk hk4 hbl hb9
  generalize w13.setCell ⟨w9.heap.size, 1, none⟩ (.string D) = w14
  intro hk hk4 hbl hb9
  have H14 := Lib.hid (And.intro hk4 (And.intro hbl (And.intro hk (And.intro hb9 True.intro))))
  clear hk hk4 hbl hb9
  go_at_call 32
  refine Calls.mono (Rn.Divide_any w14 av4 av5 k4 c4 _ k5 c5 _ (H9.out.2.2.1.below H14.out.2.2.2.1) (H9.out.2.2.2.1.below H14.out.2.2.2.1) (by omega) (by omega) HL.out.2.2.2.2.2.2) ?_
  rintro e15 w15 ⟨qv, qk, qc, rv, rk, rc, rfl, hq, hrr, hb⟩
  have H15 := Lib.hid (And.intro (H14.out.1.below hb) (And.intro (H14.out.2.1.trans (hb.mono H14.out.2.1.size)) (And.intro (H14.out.2.2.1.below hb) (And.intro (H14.out.2.2.2.1.trans (hb.mono H14.out.2.2.2.1.size)) (And.intro hq (And.intro hrr True.intro))))))
  clear hq hrr hb
  have hq3 := H15.out.2.2.2.2.1.mono2 H9.out.2.2.1 (Nat.div_le_self _ _)
  have hr3 := H15.out.2.2.2.2.2.1.mono2 H9.out.2.2.1 (Nat.mod_le _ _)
  have CF := Lib.hid (Rn.Form_any w15 qv qk qc _ H15.out.2.2.2.2.1 (by omega))
  rw [HV.out.2.2.2.1] at CF
  go_wp2_with fail
  go_at_call 17
  refine Calls.mono (CF.out) ?_
  rintro e16 w16 ⟨rfl, hb⟩
  have H16 := Lib.hid (And.intro (H15.out.1.below hb) (And.intro (H15.out.2.1.trans (hb.mono H15.out.2.1.size)) (And.intro (H15.out.2.2.1.below hb) (And.intro (H15.out.2.2.2.1.trans (hb.mono H15.out.2.2.2.1.size)) (And.intro (H15.out.2.2.2.2.1.below hb) (And.intro (H15.out.2.2.2.2.2.1.below hb) True.intro))))))
  clear hb
  clear CF
  have CF := Lib.hid (Rn.Form_any w16 rv rk rc _ H16.out.2.2.2.2.2.1 (by omega))
  rw [HV.out.2.2.2.2] at CF
  go_wp2_with fail
  go_at_call 17
  refine Calls.mono (CF.out) ?_
  rintro e17 w17 ⟨rfl, hb⟩
  have H17 := Lib.hid (And.intro (H16.out.1.below hb) (And.intro (H16.out.2.1.trans (hb.mono H16.out.2.1.size)) (And.intro (H16.out.2.2.1.below hb) (And.intro (H16.out.2.2.2.1.trans (hb.mono H16.out.2.2.2.1.size)) (And.intro (H16.out.2.2.2.2.1.below hb) (And.intro (H16.out.2.2.2.2.2.1.below hb) True.intro))))))
  clear hb
  clear CF
  have hk_0 := H17.out.2.2.1
  have hk4_0 := H17.out.1
  have hbl_0 := H17.out.2.1
  obtain ⟨c00, c01, c02, c03, c04⟩ := Rn.blk_cell hk_0
  have fz0 : ∀ j, (World.frozen? w17 ⟨w9.heap.size, j, none⟩) = false := fun j => by have h := hk_0.eq; simp [World.frozen?, h]
  have hk_1 : Rn.Blk (w17.setCell ⟨w9.heap.size, 3, none⟩ (.string Q)) w9.heap.size (.cells (Rn.s5 S D P Q ⟨#[]⟩) 22 (0, 0)) := Rn.setCell_blk (j := 3) (v := .string Q) hk_0 rfl
  have hk4_1 := Rn.setCell_far (j := 3) (v := .string Q) hk4_0 (Nat.ne_of_lt HP4.out)
  have hbl_1 := hbl_0.setCell (p := ⟨w9.heap.size, 3, none⟩) (Nat.le_of_lt HP4.out) (.string Q)
  obtain ⟨c10, c11, c12, c13, c14⟩ := Rn.blk_cell hk_1
  have fz1 : ∀ j, (World.frozen? (w17.setCell ⟨w9.heap.size, 3, none⟩ (.string Q)) ⟨w9.heap.size, j, none⟩) = false := fun j => by have h := hk_1.eq; simp [World.frozen?, h]
  have hk_2 : Rn.Blk ((w17.setCell ⟨w9.heap.size, 3, none⟩ (.string Q)).setCell ⟨w9.heap.size, 4, none⟩ (.string R)) w9.heap.size (.cells (Rn.s5 S D P Q R) 22 (0, 0)) := Rn.setCell_blk (j := 4) (v := .string R) hk_1 rfl
  have hk4_2 := Rn.setCell_far (j := 4) (v := .string R) hk4_1 (Nat.ne_of_lt HP4.out)
  have hbl_2 := hbl_1.setCell (p := ⟨w9.heap.size, 4, none⟩) (Nat.le_of_lt HP4.out) (.string R)
  have HK := Lib.hid (And.intro hk_2 (And.intro hk4_2 hbl_2))
  clear hk_0 hk4_0 hbl_0 hk_1 hk4_1 hbl_1 hk_2 hk4_2 hbl_2
  go_wp2_with (first | (refine wpList_load_row rfl 22 (.tmp 9) rfl w9.heap.size rfl 22 (Rn.s5 S D P Q R) (0, 0) _ HK.out.1.eq Tryz.underlying22 rfl Rn.info5 ?_) | (refine wpList_store_row rfl 22 (.tmp 4) (.tmp 56) rfl w.heap.size (Rn.s5 S D P Q R) rfl rfl 22 _ HK.out.2.1.eq Rn.info5 rfl (Rn.s5_one _ _ _ _ _) ?_))
  have hk4 := Rn.setRow_blk HK.out.2.1 (Rn.s5 S D P Q R)
  exact bodyPost_ret (Rn.sums_results _ w.heap.size _ _ _ _ _ 0 0 _ rfl rfl rfl hk4) rfl ⟨rfl, Rn.setRow_below HK.out.2.2 _ _ (Nat.le_refl _)⟩
set_option maxHeartbeats 4000000 in
set_option maxRecDepth 100000 in
theorem Rn.Sums_le_zero (w : World) (a b S P D : ByteArray) (za : a.size ≤ 512) (zb : b.size ≤ 512)
    (hS : (⟨(Nt.fm (Nt.nv a + Nt.nv b)).toArray⟩ : ByteArray) = S) (hP : (⟨(Nt.fm (Nt.nv a * Nt.nv b)).toArray⟩ : ByteArray) = P) (hD : (⟨(Nt.fm (Nt.nv a - Nt.nv b)).toArray⟩ : ByteArray) = D)
     (hle : Nt.nv b ≤ Nt.nv a) (hb0 : Nt.nv b = 0) :
    Calls Tryz.prog 8 #[.string a, .string b] w fun e w' => e = .returned (.tuple #[.agg (Rn.s5 S D P ⟨#[]⟩ ⟨#[]⟩), .int .i64 0, .int .i64 31]) ∧ Below w.heap.size w w' := by
  have HV := Lib.hid (And.intro hS (And.intro hP (And.intro hD True.intro)))
  have HL := Lib.hid (And.intro (show a.size ≤ 9223372036854775807 by omega) (And.intro (show b.size ≤ 9223372036854775807 by omega) (And.intro (And.intro za zb) (And.intro (show a.size ≤ 8000000 by omega) (And.intro (show b.size ≤ 8000000 by omega) (And.intro hle hb0))))))
  clear hS hP hD hle hb0
  go_enter Tryz.func8, Tryz.ntmps8
  go_wp2_with fail
  have hk := Rn.Blk.new w (Obj.cells #[.string ⟨#[]⟩, .string ⟨#[]⟩, .string ⟨#[]⟩, .string ⟨#[]⟩, .string ⟨#[]⟩] 22)
  have hb := (Below.refl w.heap.size w).alloc (Nat.le_refl _) (Obj.cells #[.string ⟨#[]⟩, .string ⟨#[]⟩, .string ⟨#[]⟩, .string ⟨#[]⟩, .string ⟨#[]⟩] 22)
  have hs : (w.alloc (Obj.cells #[.string ⟨#[]⟩, .string ⟨#[]⟩, .string ⟨#[]⟩, .string ⟨#[]⟩, .string ⟨#[]⟩] 22)).heap.size = w.heap.size + 1 := by show (w.heap.push _).size = _; simp
  revert hk hb hs
  generalize w.alloc (Obj.cells #[.string ⟨#[]⟩, .string ⟨#[]⟩, .string ⟨#[]⟩, .string ⟨#[]⟩, .string ⟨#[]⟩] 22) = w1
  intro hk hb hs
  have hn := Rn.Blk.new w1 (Obj.cells #[.string a, .string b] 9)
  have hb2 := (Below.refl w1.heap.size w1).alloc (Nat.le_refl _) (Obj.cells #[.string a, .string b] 9)
  rw [hs] at hn
  have hk2 := hk.below hb2
  have hbt := hb.trans (hb2.mono hb.size)
  revert hn hk2 hbt
  clear hb2
  generalize w1.alloc (Obj.cells #[.string a, .string b] 9) = w2
  intro hn hk2 hbt
  have H2 := Lib.hid (And.intro hn (And.intro hk2 hbt))
  clear hk hb hs hn hk2 hbt
  go_at_call 13
  refine Calls.mono (Rn.Long_two w2 _ _ a b false H2.out.1.eq HL.out.1 HL.out.2.1 (.inl ⟨rfl, HL.out.2.2.1.1, HL.out.2.2.1.2⟩)) ?_
  rintro e3 w2 ⟨rfl, rfl⟩
  have H3 := Lib.hid (And.intro H2.out.2.1 (And.intro H2.out.2.2 True.intro))
  go_wp2_with fail
  go_at_call 15
  refine Calls.mono (Rn.Of_any w2 a HL.out.2.2.2.1) ?_
  rintro e4 w4 ⟨av4, k4, c4, rfl, hN, hb⟩
  have H4 := Lib.hid (And.intro (H3.out.1.below hb) (And.intro (H3.out.2.1.trans (hb.mono H3.out.2.1.size)) (And.intro hN True.intro)))
  clear hN hb
  go_wp2_with fail
  go_at_call 15
  refine Calls.mono (Rn.Of_any w4 b HL.out.2.2.2.2.1) ?_
  rintro e5 w5 ⟨av5, k5, c5, rfl, hN, hb⟩
  have H5 := Lib.hid (And.intro (H4.out.1.below hb) (And.intro (H4.out.2.1.trans (hb.mono H4.out.2.1.size)) (And.intro (H4.out.2.2.1.below hb) (And.intro hN True.intro))))
  clear hN hb
  have hx := H5.out.2.2.1.bytes 256 a.size (Nt.nv_lt a) (by have := HL.out.2.2.1; omega)
  have hy := H5.out.2.2.2.1.bytes 256 b.size (Nt.nv_lt b) (by have := HL.out.2.2.1; omega)
  go_wp2_with fail
  go_at_call 30
  refine Calls.mono (Rn.Plus_any w5 av4 av5 k4 c4 _ k5 c5 _ H5.out.2.2.1 H5.out.2.2.2.1 (by omega) (by omega)) ?_
  rintro e6 w6 ⟨av6, k6, c6, rfl, hN, hb⟩
  have H6 := Lib.hid (And.intro (H5.out.1.below hb) (And.intro (H5.out.2.1.trans (hb.mono H5.out.2.1.size)) (And.intro (H5.out.2.2.1.below hb) (And.intro (H5.out.2.2.2.1.below hb) (And.intro hN True.intro)))))
  clear hN hb
  have hs3 := H6.out.2.2.2.2.1.len 257 (Rn.sum_lt _ _ 256 257 _ _ (Nt.nv_lt a) (Nt.nv_lt b) HL.out.2.2.1.1 HL.out.2.2.1.2 rfl)
  have CF := Lib.hid (Rn.Form_any w6 av6 k6 c6 _ H6.out.2.2.2.2.1 (by omega))
  rw [HV.out.1] at CF
  go_wp2_with fail
  go_at_call 17
  refine Calls.mono (CF.out) ?_
  rintro e7 w7 ⟨rfl, hb⟩
  have H7 := Lib.hid (And.intro (H6.out.1.below hb) (And.intro (H6.out.2.1.trans (hb.mono H6.out.2.1.size)) (And.intro (H6.out.2.2.1.below hb) (And.intro (H6.out.2.2.2.1.below hb) (And.intro (H6.out.2.2.2.2.1.below hb) True.intro)))))
  clear hb
  clear CF
  go_wp2_with fail
  go_at_call 28
  refine Calls.mono (Rn.Times_any w7 av4 av5 k4 c4 _ k5 c5 _ H7.out.2.2.1 H7.out.2.2.2.1 (by omega) (by omega)) ?_
  rintro e8 w8 ⟨av8, k8, c8, rfl, hN, hb⟩
  have H8 := Lib.hid (And.intro (H7.out.1.below hb) (And.intro (H7.out.2.1.trans (hb.mono H7.out.2.1.size)) (And.intro (H7.out.2.2.1.below hb) (And.intro (H7.out.2.2.2.1.below hb) (And.intro (H7.out.2.2.2.2.1.below hb) (And.intro hN True.intro))))))
  clear hN hb
  have ht3 := H8.out.2.2.2.2.2.1.mul H8.out.2.2.1.lt H8.out.2.2.2.1.lt
  have CF := Lib.hid (Rn.Form_any w8 av8 k8 c8 _ H8.out.2.2.2.2.2.1 (by omega))
  rw [HV.out.2.1] at CF
  go_wp2_with fail
  go_at_call 17
  refine Calls.mono (CF.out) ?_
  rintro e9 w9 ⟨rfl, hb⟩
  have H9 := Lib.hid (And.intro (H8.out.1.below hb) (And.intro (H8.out.2.1.trans (hb.mono H8.out.2.1.size)) (And.intro (H8.out.2.2.1.below hb) (And.intro (H8.out.2.2.2.1.below hb) (And.intro (H8.out.2.2.2.2.1.below hb) (And.intro (H8.out.2.2.2.2.2.1.below hb) True.intro))))))
  clear hb
  clear CF
  have hr0 : 0 ≤ Nt.cmp (Nt.nv a) (Nt.nv b) := by have := HL.out.2.2.2.2.2.1; unfold Nt.cmp; rw [if_neg (by omega)]; split <;> decide
  obtain ⟨r, hr⟩ : ∃ r, Nt.cmp (Nt.nv a) (Nt.nv b) = r := ⟨_, rfl⟩
  rw [hr] at hr0
  have HR := Lib.hid hr
  clear hr
  have hm0 : ¬ (0 : Int) < (k5 : Int) := by have h1 := H9.out.2.2.2.1.zero.2 HL.out.2.2.2.2.2.2; omega
  go_wp2_with (refine wpList_store_row rfl 22 (.tmp 9) (.tmp 31) rfl w9.heap.size (Rn.s5 S ⟨#[]⟩ P ⟨#[]⟩ ⟨#[]⟩) rfl rfl 22 _ (heap_alloc_new w9 _) Rn.info5 rfl (Rn.s5_one _ _ _ _ _) ?_; rw [World.setRow_alloc_new])
  have hk9 := Rn.Blk.new w9 (Obj.cells (Rn.s5 S ⟨#[]⟩ P ⟨#[]⟩ ⟨#[]⟩) 22)
  have hb := (Below.refl w9.heap.size w9).alloc (Nat.le_refl _) (Obj.cells (Rn.s5 S ⟨#[]⟩ P ⟨#[]⟩ ⟨#[]⟩) 22)
  revert hk9 hb
  generalize w9.alloc (Obj.cells (Rn.s5 S ⟨#[]⟩ P ⟨#[]⟩ ⟨#[]⟩) 22) = w10
  intro hk9 hb
  have hp4 : w.heap.size < w9.heap.size := H9.out.1.lt
  have H10 := Lib.hid (And.intro (H9.out.1.below hb) (And.intro (H9.out.2.1.trans (hb.mono H9.out.2.1.size)) (And.intro (H9.out.2.2.1.below hb) (And.intro (H9.out.2.2.2.1.below hb) (And.intro hk9 (And.intro hb True.intro))))))
  have HP4 := Lib.hid hp4
  clear hk9 hb hp4
  have CC := Lib.hid (Rn.Cmp_any w10 av4 av5 k4 c4 _ k5 c5 _ (H9.out.2.2.1.below H10.out.2.2.2.2.2.1) (H9.out.2.2.2.1.below H10.out.2.2.2.2.2.1) (by omega) (by omega))
  rw [HR.out] at CC
  go_at_call 21
  refine Calls.mono (CC.out) ?_
  rintro e11 w11 ⟨rfl, j11, hw⟩
  have hb : Below w10.heap.size w10 w11 := by rw [hw]; exact Rn.beyond (Below.refl _ _) j11
  have H11 := Lib.hid (And.intro (H10.out.1.below hb) (And.intro (H10.out.2.1.trans (hb.mono H10.out.2.1.size)) (And.intro (H10.out.2.2.1.below hb) (And.intro (H10.out.2.2.2.1.below hb) (And.intro (H10.out.2.2.2.2.1.below hb) (And.intro (H10.out.2.2.2.2.2.1.trans (hb.mono H10.out.2.2.2.2.2.1.size)) True.intro))))))
  clear hb hw
  clear CC
  go_wp2_with fail
  go_at_call 31
  refine Calls.mono (Rn.Minus_any w11 av4 av5 k4 c4 _ k5 c5 _ (H9.out.2.2.1.below H11.out.2.2.2.2.2.1) (H9.out.2.2.2.1.below H11.out.2.2.2.2.2.1) (by omega) HL.out.2.2.2.2.2.1) ?_
  rintro e12 w12 ⟨av12, k12, c12, rfl, hN, hb⟩
  have H12 := Lib.hid (And.intro (H11.out.1.below hb) (And.intro (H11.out.2.1.trans (hb.mono H11.out.2.1.size)) (And.intro (H11.out.2.2.1.below hb) (And.intro (H11.out.2.2.2.1.below hb) (And.intro (H11.out.2.2.2.2.1.below hb) (And.intro (H11.out.2.2.2.2.2.1.trans (hb.mono H11.out.2.2.2.2.2.1.size)) (And.intro hN True.intro)))))))
  clear hN hb
  have hd3 := H12.out.2.2.2.2.2.2.1.mono2 H9.out.2.2.1 (Nat.sub_le _ _)
  have CF := Lib.hid (Rn.Form_any w12 av12 k12 c12 _ H12.out.2.2.2.2.2.2.1 (by omega))
  rw [HV.out.2.2.1] at CF
  go_wp2_with fail
  go_at_call 17
  refine Calls.mono (CF.out) ?_
  rintro e13 w13 ⟨rfl, hb⟩
  have H13 := Lib.hid (And.intro (H12.out.1.below hb) (And.intro (H12.out.2.1.trans (hb.mono H12.out.2.1.size)) (And.intro (H12.out.2.2.1.below hb) (And.intro (H12.out.2.2.2.1.below hb) (And.intro (H12.out.2.2.2.2.1.below hb) (And.intro (H12.out.2.2.2.2.2.1.trans (hb.mono H12.out.2.2.2.2.2.1.size)) (And.intro (H12.out.2.2.2.2.2.2.1.below hb) True.intro)))))))
  clear hb
  clear CF
  have hk_0 := H13.out.2.2.2.2.1
  have hk4_0 := H13.out.1
  have hbl_0 := H13.out.2.1
  obtain ⟨c00, c01, c02, c03, c04⟩ := Rn.blk_cell hk_0
  have fz0 : ∀ j, (World.frozen? w13 ⟨w9.heap.size, j, none⟩) = false := fun j => by have h := hk_0.eq; simp [World.frozen?, h]
  have hk_1 : Rn.Blk (w13.setCell ⟨w9.heap.size, 1, none⟩ (.string D)) w9.heap.size (.cells (Rn.s5 S D P ⟨#[]⟩ ⟨#[]⟩) 22 (0, 0)) := Rn.setCell_blk (j := 1) (v := .string D) hk_0 rfl
  have hk4_1 := Rn.setCell_far (j := 1) (v := .string D) hk4_0 (Nat.ne_of_lt HP4.out)
  have hbl_1 := hbl_0.setCell (p := ⟨w9.heap.size, 1, none⟩) (Nat.le_of_lt HP4.out) (.string D)
  have HK := Lib.hid (And.intro hk_1 (And.intro hk4_1 hbl_1))
  clear hk_0 hk4_0 hbl_0 hk_1 hk4_1 hbl_1
  go_wp2_with (first | (refine wpList_load_row rfl 22 (.tmp 9) rfl w9.heap.size rfl 22 (Rn.s5 S D P ⟨#[]⟩ ⟨#[]⟩) (0, 0) _ HK.out.1.eq Tryz.underlying22 rfl Rn.info5 ?_) | (refine wpList_store_row rfl 22 (.tmp 4) (.tmp 56) rfl w.heap.size (Rn.s5 S D P ⟨#[]⟩ ⟨#[]⟩) rfl rfl 22 _ HK.out.2.1.eq Rn.info5 rfl (Rn.s5_one _ _ _ _ _) ?_))
  have hk4 := Rn.setRow_blk HK.out.2.1 (Rn.s5 S D P ⟨#[]⟩ ⟨#[]⟩)
  exact bodyPost_ret (Rn.sums_results _ w.heap.size _ _ _ _ _ 0 31 _ rfl rfl rfl hk4) rfl ⟨rfl, Rn.setRow_below HK.out.2.2 _ _ (Nat.le_refl _)⟩
set_option maxHeartbeats 4000000 in
set_option maxRecDepth 100000 in
theorem Rn.Sums_lt_pos (w : World) (a b S P Q R : ByteArray) (za : a.size ≤ 512) (zb : b.size ≤ 512)
    (hS : (⟨(Nt.fm (Nt.nv a + Nt.nv b)).toArray⟩ : ByteArray) = S) (hP : (⟨(Nt.fm (Nt.nv a * Nt.nv b)).toArray⟩ : ByteArray) = P)
    (hQ : (⟨(Nt.fm (Nt.nv a / Nt.nv b)).toArray⟩ : ByteArray) = Q) (hR : (⟨(Nt.fm (Nt.nv a % Nt.nv b)).toArray⟩ : ByteArray) = R) (hle : Nt.nv a < Nt.nv b) (hb0 : 0 < Nt.nv b) :
    Calls Tryz.prog 8 #[.string a, .string b] w fun e w' => e = .returned (.tuple #[.agg (Rn.s5 S ⟨#[]⟩ P Q R), .int .i64 32, .int .i64 0]) ∧ Below w.heap.size w w' := by
  have HV := Lib.hid (And.intro hS (And.intro hP (And.intro True.intro (And.intro hQ hR))))
  have HL := Lib.hid (And.intro (show a.size ≤ 9223372036854775807 by omega) (And.intro (show b.size ≤ 9223372036854775807 by omega) (And.intro (And.intro za zb) (And.intro (show a.size ≤ 8000000 by omega) (And.intro (show b.size ≤ 8000000 by omega) (And.intro hle hb0))))))
  clear hS hP hQ hR hle hb0
  go_enter Tryz.func8, Tryz.ntmps8
  go_wp2_with fail
  have hk := Rn.Blk.new w (Obj.cells #[.string ⟨#[]⟩, .string ⟨#[]⟩, .string ⟨#[]⟩, .string ⟨#[]⟩, .string ⟨#[]⟩] 22)
  have hb := (Below.refl w.heap.size w).alloc (Nat.le_refl _) (Obj.cells #[.string ⟨#[]⟩, .string ⟨#[]⟩, .string ⟨#[]⟩, .string ⟨#[]⟩, .string ⟨#[]⟩] 22)
  have hs : (w.alloc (Obj.cells #[.string ⟨#[]⟩, .string ⟨#[]⟩, .string ⟨#[]⟩, .string ⟨#[]⟩, .string ⟨#[]⟩] 22)).heap.size = w.heap.size + 1 := by show (w.heap.push _).size = _; simp
  revert hk hb hs
  generalize w.alloc (Obj.cells #[.string ⟨#[]⟩, .string ⟨#[]⟩, .string ⟨#[]⟩, .string ⟨#[]⟩, .string ⟨#[]⟩] 22) = w1
  intro hk hb hs
  have hn := Rn.Blk.new w1 (Obj.cells #[.string a, .string b] 9)
  have hb2 := (Below.refl w1.heap.size w1).alloc (Nat.le_refl _) (Obj.cells #[.string a, .string b] 9)
  rw [hs] at hn
  have hk2 := hk.below hb2
  have hbt := hb.trans (hb2.mono hb.size)
  revert hn hk2 hbt
  clear hb2
  generalize w1.alloc (Obj.cells #[.string a, .string b] 9) = w2
  intro hn hk2 hbt
  have H2 := Lib.hid (And.intro hn (And.intro hk2 hbt))
  clear hk hb hs hn hk2 hbt
  go_at_call 13
  refine Calls.mono (Rn.Long_two w2 _ _ a b false H2.out.1.eq HL.out.1 HL.out.2.1 (.inl ⟨rfl, HL.out.2.2.1.1, HL.out.2.2.1.2⟩)) ?_
  rintro e3 w2 ⟨rfl, rfl⟩
  have H3 := Lib.hid (And.intro H2.out.2.1 (And.intro H2.out.2.2 True.intro))
  go_wp2_with fail
  go_at_call 15
  refine Calls.mono (Rn.Of_any w2 a HL.out.2.2.2.1) ?_
  rintro e4 w4 ⟨av4, k4, c4, rfl, hN, hb⟩
  have H4 := Lib.hid (And.intro (H3.out.1.below hb) (And.intro (H3.out.2.1.trans (hb.mono H3.out.2.1.size)) (And.intro hN True.intro)))
  clear hN hb
  go_wp2_with fail
  go_at_call 15
  refine Calls.mono (Rn.Of_any w4 b HL.out.2.2.2.2.1) ?_
  rintro e5 w5 ⟨av5, k5, c5, rfl, hN, hb⟩
  have H5 := Lib.hid (And.intro (H4.out.1.below hb) (And.intro (H4.out.2.1.trans (hb.mono H4.out.2.1.size)) (And.intro (H4.out.2.2.1.below hb) (And.intro hN True.intro))))
  clear hN hb
  have hx := H5.out.2.2.1.bytes 256 a.size (Nt.nv_lt a) (by have := HL.out.2.2.1; omega)
  have hy := H5.out.2.2.2.1.bytes 256 b.size (Nt.nv_lt b) (by have := HL.out.2.2.1; omega)
  go_wp2_with fail
  go_at_call 30
  refine Calls.mono (Rn.Plus_any w5 av4 av5 k4 c4 _ k5 c5 _ H5.out.2.2.1 H5.out.2.2.2.1 (by omega) (by omega)) ?_
  rintro e6 w6 ⟨av6, k6, c6, rfl, hN, hb⟩
  have H6 := Lib.hid (And.intro (H5.out.1.below hb) (And.intro (H5.out.2.1.trans (hb.mono H5.out.2.1.size)) (And.intro (H5.out.2.2.1.below hb) (And.intro (H5.out.2.2.2.1.below hb) (And.intro hN True.intro)))))
  clear hN hb
  have hs3 := H6.out.2.2.2.2.1.len 257 (Rn.sum_lt _ _ 256 257 _ _ (Nt.nv_lt a) (Nt.nv_lt b) HL.out.2.2.1.1 HL.out.2.2.1.2 rfl)
  have CF := Lib.hid (Rn.Form_any w6 av6 k6 c6 _ H6.out.2.2.2.2.1 (by omega))
  rw [HV.out.1] at CF
  go_wp2_with fail
  go_at_call 17
  refine Calls.mono (CF.out) ?_
  rintro e7 w7 ⟨rfl, hb⟩
  have H7 := Lib.hid (And.intro (H6.out.1.below hb) (And.intro (H6.out.2.1.trans (hb.mono H6.out.2.1.size)) (And.intro (H6.out.2.2.1.below hb) (And.intro (H6.out.2.2.2.1.below hb) (And.intro (H6.out.2.2.2.2.1.below hb) True.intro)))))
  clear hb
  clear CF
  go_wp2_with fail
  go_at_call 28
  refine Calls.mono (Rn.Times_any w7 av4 av5 k4 c4 _ k5 c5 _ H7.out.2.2.1 H7.out.2.2.2.1 (by omega) (by omega)) ?_
  rintro e8 w8 ⟨av8, k8, c8, rfl, hN, hb⟩
  have H8 := Lib.hid (And.intro (H7.out.1.below hb) (And.intro (H7.out.2.1.trans (hb.mono H7.out.2.1.size)) (And.intro (H7.out.2.2.1.below hb) (And.intro (H7.out.2.2.2.1.below hb) (And.intro (H7.out.2.2.2.2.1.below hb) (And.intro hN True.intro))))))
  clear hN hb
  have ht3 := H8.out.2.2.2.2.2.1.mul H8.out.2.2.1.lt H8.out.2.2.2.1.lt
  have CF := Lib.hid (Rn.Form_any w8 av8 k8 c8 _ H8.out.2.2.2.2.2.1 (by omega))
  rw [HV.out.2.1] at CF
  go_wp2_with fail
  go_at_call 17
  refine Calls.mono (CF.out) ?_
  rintro e9 w9 ⟨rfl, hb⟩
  have H9 := Lib.hid (And.intro (H8.out.1.below hb) (And.intro (H8.out.2.1.trans (hb.mono H8.out.2.1.size)) (And.intro (H8.out.2.2.1.below hb) (And.intro (H8.out.2.2.2.1.below hb) (And.intro (H8.out.2.2.2.2.1.below hb) (And.intro (H8.out.2.2.2.2.2.1.below hb) True.intro))))))
  clear hb
  clear CF
  have hr0 : Nt.cmp (Nt.nv a) (Nt.nv b) < 0 := by have := HL.out.2.2.2.2.2.1; unfold Nt.cmp; rw [if_pos (by omega)]; decide
  obtain ⟨r, hr⟩ : ∃ r, Nt.cmp (Nt.nv a) (Nt.nv b) = r := ⟨_, rfl⟩
  rw [hr] at hr0
  have HR := Lib.hid hr
  clear hr
  have hr1 : ¬ 0 ≤ r := by omega
  have hm0 : (0 : Int) < (k5 : Int) := by have h1 := H9.out.2.2.2.1.zero; have h2 : k5 ≠ 0 := fun h => absurd (h1.1 h) (Nat.ne_of_gt HL.out.2.2.2.2.2.2); omega
  go_wp2_with (refine wpList_store_row rfl 22 (.tmp 9) (.tmp 31) rfl w9.heap.size (Rn.s5 S ⟨#[]⟩ P ⟨#[]⟩ ⟨#[]⟩) rfl rfl 22 _ (heap_alloc_new w9 _) Rn.info5 rfl (Rn.s5_one _ _ _ _ _) ?_; rw [World.setRow_alloc_new])
  have hk9 := Rn.Blk.new w9 (Obj.cells (Rn.s5 S ⟨#[]⟩ P ⟨#[]⟩ ⟨#[]⟩) 22)
  have hb := (Below.refl w9.heap.size w9).alloc (Nat.le_refl _) (Obj.cells (Rn.s5 S ⟨#[]⟩ P ⟨#[]⟩ ⟨#[]⟩) 22)
  revert hk9 hb
  generalize w9.alloc (Obj.cells (Rn.s5 S ⟨#[]⟩ P ⟨#[]⟩ ⟨#[]⟩) 22) = w10
  intro hk9 hb
  have hp4 : w.heap.size < w9.heap.size := H9.out.1.lt
  have H10 := Lib.hid (And.intro (H9.out.1.below hb) (And.intro (H9.out.2.1.trans (hb.mono H9.out.2.1.size)) (And.intro (H9.out.2.2.1.below hb) (And.intro (H9.out.2.2.2.1.below hb) (And.intro hk9 (And.intro hb True.intro))))))
  have HP4 := Lib.hid hp4
  clear hk9 hb hp4
  have CC := Lib.hid (Rn.Cmp_any w10 av4 av5 k4 c4 _ k5 c5 _ (H9.out.2.2.1.below H10.out.2.2.2.2.2.1) (H9.out.2.2.2.1.below H10.out.2.2.2.2.2.1) (by omega) (by omega))
  rw [HR.out] at CC
  go_at_call 21
  refine Calls.mono (CC.out) ?_
  rintro e11 w11 ⟨rfl, j11, hw⟩
  have hb : Below w10.heap.size w10 w11 := by rw [hw]; exact Rn.beyond (Below.refl _ _) j11
  have H11 := Lib.hid (And.intro (H10.out.1.below hb) (And.intro (H10.out.2.1.trans (hb.mono H10.out.2.1.size)) (And.intro (H10.out.2.2.1.below hb) (And.intro (H10.out.2.2.2.1.below hb) (And.intro (H10.out.2.2.2.2.1.below hb) (And.intro (H10.out.2.2.2.2.2.1.trans (hb.mono H10.out.2.2.2.2.2.1.size)) True.intro))))))
  clear hb hw
  clear CC
  go_wp2_with fail
  go_at_call 32
  refine Calls.mono (Rn.Divide_any w11 av4 av5 k4 c4 _ k5 c5 _ (H9.out.2.2.1.below H11.out.2.2.2.2.2.1) (H9.out.2.2.2.1.below H11.out.2.2.2.2.2.1) (by omega) (by omega) HL.out.2.2.2.2.2.2) ?_
  rintro e12 w12 ⟨qv, qk, qc, rv, rk, rc, rfl, hq, hrr, hb⟩
  have H12 := Lib.hid (And.intro (H11.out.1.below hb) (And.intro (H11.out.2.1.trans (hb.mono H11.out.2.1.size)) (And.intro (H11.out.2.2.1.below hb) (And.intro (H11.out.2.2.2.1.below hb) (And.intro (H11.out.2.2.2.2.1.below hb) (And.intro (H11.out.2.2.2.2.2.1.trans (hb.mono H11.out.2.2.2.2.2.1.size)) (And.intro hq (And.intro hrr True.intro))))))))
  clear hq hrr hb
  have hq3 := H12.out.2.2.2.2.2.2.1.mono2 H9.out.2.2.1 (Nat.div_le_self _ _)
  have hr3 := H12.out.2.2.2.2.2.2.2.1.mono2 H9.out.2.2.1 (Nat.mod_le _ _)
  have CF := Lib.hid (Rn.Form_any w12 qv qk qc _ H12.out.2.2.2.2.2.2.1 (by omega))
  rw [HV.out.2.2.2.1] at CF
  go_wp2_with fail
  go_at_call 17
  refine Calls.mono (CF.out) ?_
  rintro e13 w13 ⟨rfl, hb⟩
  have H13 := Lib.hid (And.intro (H12.out.1.below hb) (And.intro (H12.out.2.1.trans (hb.mono H12.out.2.1.size)) (And.intro (H12.out.2.2.1.below hb) (And.intro (H12.out.2.2.2.1.below hb) (And.intro (H12.out.2.2.2.2.1.below hb) (And.intro (H12.out.2.2.2.2.2.1.trans (hb.mono H12.out.2.2.2.2.2.1.size)) (And.intro (H12.out.2.2.2.2.2.2.1.below hb) (And.intro (H12.out.2.2.2.2.2.2.2.1.below hb) True.intro))))))))
  clear hb
  clear CF
  have CF := Lib.hid (Rn.Form_any w13 rv rk rc _ H13.out.2.2.2.2.2.2.2.1 (by omega))
  rw [HV.out.2.2.2.2] at CF
  go_wp2_with fail
  go_at_call 17
  refine Calls.mono (CF.out) ?_
  rintro e14 w14 ⟨rfl, hb⟩
  have H14 := Lib.hid (And.intro (H13.out.1.below hb) (And.intro (H13.out.2.1.trans (hb.mono H13.out.2.1.size)) (And.intro (H13.out.2.2.1.below hb) (And.intro (H13.out.2.2.2.1.below hb) (And.intro (H13.out.2.2.2.2.1.below hb) (And.intro (H13.out.2.2.2.2.2.1.trans (hb.mono H13.out.2.2.2.2.2.1.size)) (And.intro (H13.out.2.2.2.2.2.2.1.below hb) (And.intro (H13.out.2.2.2.2.2.2.2.1.below hb) True.intro))))))))
  clear hb
  clear CF
  have hk_0 := H14.out.2.2.2.2.1
  have hk4_0 := H14.out.1
  have hbl_0 := H14.out.2.1
  obtain ⟨c00, c01, c02, c03, c04⟩ := Rn.blk_cell hk_0
  have fz0 : ∀ j, (World.frozen? w14 ⟨w9.heap.size, j, none⟩) = false := fun j => by have h := hk_0.eq; simp [World.frozen?, h]
  have hk_1 : Rn.Blk (w14.setCell ⟨w9.heap.size, 3, none⟩ (.string Q)) w9.heap.size (.cells (Rn.s5 S ⟨#[]⟩ P Q ⟨#[]⟩) 22 (0, 0)) := Rn.setCell_blk (j := 3) (v := .string Q) hk_0 rfl
  have hk4_1 := Rn.setCell_far (j := 3) (v := .string Q) hk4_0 (Nat.ne_of_lt HP4.out)
  have hbl_1 := hbl_0.setCell (p := ⟨w9.heap.size, 3, none⟩) (Nat.le_of_lt HP4.out) (.string Q)
  obtain ⟨c10, c11, c12, c13, c14⟩ := Rn.blk_cell hk_1
  have fz1 : ∀ j, (World.frozen? (w14.setCell ⟨w9.heap.size, 3, none⟩ (.string Q)) ⟨w9.heap.size, j, none⟩) = false := fun j => by have h := hk_1.eq; simp [World.frozen?, h]
  have hk_2 : Rn.Blk ((w14.setCell ⟨w9.heap.size, 3, none⟩ (.string Q)).setCell ⟨w9.heap.size, 4, none⟩ (.string R)) w9.heap.size (.cells (Rn.s5 S ⟨#[]⟩ P Q R) 22 (0, 0)) := Rn.setCell_blk (j := 4) (v := .string R) hk_1 rfl
  have hk4_2 := Rn.setCell_far (j := 4) (v := .string R) hk4_1 (Nat.ne_of_lt HP4.out)
  have hbl_2 := hbl_1.setCell (p := ⟨w9.heap.size, 4, none⟩) (Nat.le_of_lt HP4.out) (.string R)
  have HK := Lib.hid (And.intro hk_2 (And.intro hk4_2 hbl_2))
  clear hk_0 hk4_0 hbl_0 hk_1 hk4_1 hbl_1 hk_2 hk4_2 hbl_2
  go_wp2_with (first | (refine wpList_load_row rfl 22 (.tmp 9) rfl w9.heap.size rfl 22 (Rn.s5 S ⟨#[]⟩ P Q R) (0, 0) _ HK.out.1.eq Tryz.underlying22 rfl Rn.info5 ?_) | (refine wpList_store_row rfl 22 (.tmp 4) (.tmp 56) rfl w.heap.size (Rn.s5 S ⟨#[]⟩ P Q R) rfl rfl 22 _ HK.out.2.1.eq Rn.info5 rfl (Rn.s5_one _ _ _ _ _) ?_))
  have hk4 := Rn.setRow_blk HK.out.2.1 (Rn.s5 S ⟨#[]⟩ P Q R)
  exact bodyPost_ret (Rn.sums_results _ w.heap.size _ _ _ _ _ 32 0 _ rfl rfl rfl hk4) rfl ⟨rfl, Rn.setRow_below HK.out.2.2 _ _ (Nat.le_refl _)⟩
end Go.Proofs.YtccbnpondlncpaaGreatDoor
