/- Numbers as slices of limbs without noughts at the end; parts of a block of limbs. -/
import Derived.Test.YthlecdggkolgmaaGreatDoorNtJ
import Derived.Laws.MakeOwn
import Derived.Laws.CopyOwn
import Derived.OwnWalk
import Derived.Deep.Cut
namespace Go.Proofs.YthlecdggkolgmaaGreatDoor
section
section
section
open Go.RowKit

theorem Nt.info32 : (Tryz.prog.info? 145).map (fun i => (i.zero, i.size, i.bytes)) = some (some (.int .u32 0), 1, 4) := by kernel_rfl
theorem Nt.made (c : Nat) : madeCells (Value.int .u32 0).cells (c * 1) = (List.replicate c (Value.int .u32 0)).toArray := by
  apply Array.ext_getElem?
  intro j
  by_cases hj : j < c
  · simp [madeCells, Value.cells, hj, Nat.mod_one]
  · rw [Array.getElem?_eq_none (by rw [size_madeCells]; omega), Array.getElem?_eq_none (by simp; omega)]
theorem Nt.wpList_make {w : World} {ops : Array Oper} {rest : List Oper} {o : Oper} {a : Act} {Q : Exit → Act → World → Prop} (hg : o.guard = none) (l c : Operand) (hop : o.op = Op.makeSlice 153 l c) (C : Nat)
    (hl : a.eval l = .int .i64 (C : Int)) (hc : a.eval c = .int .i64 (C : Int)) (hC : C ≤ 1000000)
    (hK : wpList Tryz.prog ops Q rest (a.put o.dst (.slice (some ⟨w.heap.size, 0, none⟩) C C)) (w.alloc (.cells (List.replicate C (Value.int .u32 0)).toArray 145))) : wpList Tryz.prog ops Q (o :: rest) a w := by
  obtain ⟨i0, hi, hz0, hz1, hz2⟩ := info_parts Nt.info32
  have hr := run_make (P := Tryz.prog) w 153 145 i0 (.int .u32 0) Tryz.underlying153 hi hz0 .i64 .i64 (C : Int) (C : Int) (by omega) (by omega) (by rw [hz2]; omega) (by omega)
  rw [hz1] at hr
  simp only [Int.toNat_natCast] at hr
  rw [Nt.made] at hr
  refine wpList_plain hg fun K hK2 => ?_
  unfold Oper.wp
  simp [execOp, hop, hl, hc, hr, Result.andThen]
  exact hK2 _ _ hK
end
section
open Go.RowKit
theorem Nt.Lim.below {w w' : World} {b off n B : Nat} {f : Nat → Nat} (h : Nt.Lim w b off n f) (hb : Below B w w') (hB : b < B) : Nt.Lim w' b off n f :=
  ⟨fun j hj => (hb.cell (p := ⟨b, off + j, none⟩) hB).trans (h.cell j hj), fun j hj => (hb.frozen (p := ⟨b, off + j, none⟩) hB).trans (h.fro j hj), h.dig, Nat.lt_of_lt_of_le h.lt hb.size⟩
/-- The n limbs as cells. -/
def Nt.cells (f : Nat → Nat) (n : Nat) : List Value := (List.range n).map fun j => .int .u32 (f j : Int)
theorem Nt.cells_len (f : Nat → Nat) (n : Nat) : (Nt.cells f n).length = n := by simp [Nt.cells]
theorem Nt.cells_get (f : Nat → Nat) (n j : Nat) (hj : j < n) : (Nt.cells f n)[j]? = some (.int .u32 (f j : Int)) := by simp [Nt.cells, hj]
theorem Nt.cells_some {f : Nat → Nat} {n j : Nat} {v : Value} (h : (Nt.cells f n)[j]? = some v) : j < n ∧ v = .int .u32 (f j : Int) := by
  have hj : j < n := by
    have := (List.getElem?_eq_some_iff.1 h).1
    rwa [Nt.cells_len] at this
  rw [Nt.cells_get f n j hj] at h
  exact ⟨hj, (Option.some.inj h).symm⟩
theorem Nt.Lim.ofRow {w : World} {b n : Nat} {T : TypeId} {l : List Value} {f : Nat → Nat} (h : w.heap[b]? = some (.cells l.toArray T (0, 0))) (hl : ∀ j, j < n → l[j]? = some (.int .u32 (f j : Int))) (hf : ∀ j, f j < 4294967296) : Nt.Lim w b 0 n f := by
  have hb : b < w.heap.size := (Array.getElem?_eq_some_iff.1 h).1
  have h' : w.heap[b]? = some (.cells l.toArray T (0, 0)) := h
  refine ⟨fun j hj => ?_, fun j _ => ?_, hf, hb⟩
  · simp only [World.cell?, h', Nat.zero_add]
    simpa using hl j hj
  · simp [World.frozen?, h']
theorem Nt.spliced (f : Nat → Nat) (n m j : Nat) (hj : j < m) : (splice (List.replicate m (Value.int .u32 0)) 0 (Nt.cells f n))[j]? = some (.int .u32 (((if j < n then f j else 0 : Nat)) : Int)) := by
  unfold splice
  rw [List.take_zero, List.nil_append, Nt.cells_len, Nat.zero_add]
  by_cases h : j < n
  · rw [List.getElem?_append_left (by rw [Nt.cells_len]; exact h), Nt.cells_get f n j h, if_pos h]
  · rw [List.getElem?_append_right (by rw [Nt.cells_len]; omega), Nt.cells_len, List.getElem?_drop, if_neg h]
    rw [List.getElem?_replicate, if_pos (by omega)]
    rfl
/-- copy(wide, x): wide a new block of noughts. -/
theorem Nt.wpList_copy {w w1 : World} {ops : Array Oper} {rest : List Oper} {o : Oper} {a : Act} {Q : Exit → Act → World → Prop} (hgd : o.guard = none) (d s : Operand)
    (ho : o.op = .call { callee := .builtin .copy, args := #[d, s], argTypes := #[153, 153] }) (ax : Option Addr) (bx ox n cx m : Nat) (fx : Nat → Nat)
    (hd : a.eval d = .slice (some ⟨w.heap.size, 0, none⟩) m m) (hs : a.eval s = .slice ax n cx) (hnm : n ≤ m)
    (hg : w1.heap[w.heap.size]? = some (.cells (List.replicate m (Value.int .u32 0)).toArray 145 (0, 0))) (hb : Below w.heap.size w w1) (hx : 0 < n → ax = some ⟨bx, ox, none⟩ ∧ Nt.Lim w bx ox n fx)
    (h : ∀ w', Hid (w'.heap[w.heap.size]? = some (.cells (splice (List.replicate m (Value.int .u32 0)) 0 (Nt.cells fx n)).toArray 145 (0, 0))) → Below w.heap.size w w' → wpList Tryz.prog ops Q rest (a.put o.dst (goInt n)) w') : wpList Tryz.prog ops Q (o :: rest) a w1 := by
  have hl := Nt.cells_len fx n
  have k := @wpList_copy_splice Tryz.prog w1 ops rest o a Q hgd d s 153 153 ho 145 Tryz.underlying153 (by kernel_rfl) (some ⟨w.heap.size, 0, none⟩) ax m m n cx hd hs w.heap.size 0 (List.replicate m (Value.int .u32 0)) 145 hg (Nt.cells fx n) (by rw [hl]; exact (Nat.min_eq_left hnm).symm)
    (fun h0 => ⟨rfl, ⟨bx, ox, none⟩, (hx (by rw [hl] at h0; exact h0)).1, fun j v hv => by
      obtain ⟨hj, rfl⟩ := Nt.cells_some hv
      have hL := (hx (by omega)).2
      have hc := (hL.below hb hL.lt).cell j hj
      have ha : Addr.add ⟨bx, ox, none⟩ j = ⟨bx, ox + j, none⟩ := by
        unfold Addr.add
        split
        · rename_i h0
          rw [h0]
          rfl
        · rfl
      rw [ha]
      exact hc⟩)
    (by rw [hl, List.length_replicate]; omega) (fun v hv => by
      obtain ⟨x, _, rfl⟩ := List.mem_map.1 hv
      rfl) w.heap.size w hb (Nat.le_refl _)
  rw [hl] at k
  exact k h
end
end
section
open Go.RowKit

set_option maxRecDepth 20000 in
theorem Nt.widened_any (w : World) (ax : Option Addr) (bx ox n cx : Nat) (fx : Nat → Nat) (m : Nat) (hx : 0 < n → ax = some ⟨bx, ox, none⟩ ∧ Nt.Lim w bx ox n fx) (dx : ∀ j, fx j < 4294967296) (hnm : n ≤ m) (hm : m ≤ 1000000) :
    Calls Tryz.prog 134 #[.slice ax n cx, .int .i64 (m : Int)] w fun e w' => ∃ g, e = .returned (.slice (some ⟨g, 0, none⟩) m m) ∧ w.heap.size ≤ g ∧ Nt.Lim w' g 0 m (fun j => if j < n then fx j else 0) ∧ Below w.heap.size w w' := by
  have HX := Lib.hid hx
  have HB := Lib.hid (And.intro dx (And.intro hnm hm))
  clear hx dx hnm hm
  go_enter Tryz.func134, Tryz.ntmps134
  go_upto_region 2 with (at_make; refine Nt.wpList_make rfl _ _ rfl m rfl rfl HB.out.2.2 ?_)
  have hg0 : (w.alloc (Obj.cells (Array.replicate m (Value.int IntKind.u32 0)) 145)).heap[w.heap.size]? = some (.cells (List.replicate m (Value.int .u32 0)).toArray 145 (0, 0)) := by
    rw [heap_alloc_new]
    simp
  have hb0 := (Below.refl w.heap.size w).alloc (Nat.le_refl _) (Obj.cells (Array.replicate m (Value.int IntKind.u32 0)) 145)
  revert hg0 hb0
  generalize w.alloc (Obj.cells (Array.replicate m (Value.int IntKind.u32 0)) 145) = w1
  intro hg0 hb0
  have HG := Lib.hid (And.intro hg0 hb0)
  clear hg0 hb0
  go_wp2_with (refine Nt.wpList_copy rfl (.tmp 8) (.tmp 9) rfl ax bx ox n cx m fx rfl rfl HB.out.2.1 HG.out.1 HG.out.2 HX.out ?_; intro w2 hrow hbel)
  go_ret
  exact ⟨w.heap.size, rfl, Nat.le_refl _, Nt.Lim.ofRow hrow.out (fun j hj => Nt.spliced fx n m j hj) (fun j => by by_cases h : j < n <;> simp [h, HB.out.1]), hbel⟩
end
end
section
open Go.RowKit

/-- f, but from limb i on m limbs of g. -/
def Nt.mid (f : Nat → Nat) (i m : Nat) (g : Nat → Nat) (j : Nat) : Nat := if i ≤ j ∧ j < i + m then g (j - i) else f j
theorem Nt.mid_val (f : Nat → Nat) (i m : Nat) (g : Nat → Nat) : Vl.val 4294967296 (Nt.mid f i m g) (i + m) = Vl.val 4294967296 f i + Vl.val 4294967296 g m * 4294967296 ^ i := by
  rw [Nt.val_split]
  rw [Vl.val_congr 4294967296 (Nt.mid f i m g) f i (fun j hj => by unfold Nt.mid; rw [if_neg (by omega)])]
  rw [Vl.val_congr 4294967296 (fun j => Nt.mid f i m g (i + j)) g m (fun j hj => by unfold Nt.mid; rw [if_pos ⟨by omega, by omega⟩, show i + j - i = j by omega])]
theorem Nt.Lim.shift {w : World} {b off N : Nat} {f : Nat → Nat} (h : Nt.Lim w b off N f) (i m : Nat) (hi : i + m ≤ N) : Nt.Lim w b (off + i) m (fun j => f (i + j)) :=
  ⟨fun j hj => by rw [Nat.add_assoc]; exact h.cell (i + j) (by omega), fun j hj => by rw [Nat.add_assoc]; exact h.fro (i + j) (by omega), fun j => h.dig _, h.lt⟩
theorem Nt.Lim.put {w w' : World} {b off N : Nat} {f : Nat → Nat} (h : Nt.Lim w b off N f) (i m : Nat) {g : Nat → Nat} (hg : Nt.Lim w' b (off + i) m g) (ho : Nt.Only b (off + i) m w w') : Nt.Lim w' b off N (Nt.mid f i m g) := by
  refine ⟨fun j hj => ?_, fun j hj => ?_, fun j => ?_, hg.lt⟩
  · unfold Nt.mid
    by_cases c : i ≤ j ∧ j < i + m
    · rw [if_pos c]
      have := hg.cell (j - i) (by omega)
      rwa [show off + i + (j - i) = off + j by omega] at this
    · rw [if_neg c, ho.cell _ (by omega)]
      exact h.cell j hj
  · rw [ho.fro]
    exact h.fro j hj
  · unfold Nt.mid
    split
    · exact hg.dig _
    · exact h.dig _
theorem Nt.Only.part {b off N i m : Nat} {w w' : World} (h : Nt.Only b (off + i) m w w') (hi : i + m ≤ N) : Nt.Only b off N w w' := ⟨h.os, h.tape, h.output, h.size, h.block, fun o ho => h.cell o (by omega), h.fro⟩
theorem Nt.Only.below {b off n B : Nat} {w w' : World} (h : Nt.Only b off n w w') (hb : B ≤ b) (hB : B ≤ w.heap.size) : Below B w w' := ⟨h.os, h.tape, h.output, h.size, fun k hk => h.block k (by omega) (by omega)⟩
theorem Nt.drewN_heap (w : World) (k : Nat) : (w.drewN k).heap = w.heap := by
  induction k with
  | zero => rfl
  | succ k ih => exact ih
theorem Nt.Lim.top {w : World} {b off n : Nat} {f : Nat → Nat} (h : Nt.Lim w b off n f) (m : Nat) (hm : m ≤ n) : Nt.Lim w b off m f := ⟨fun j hj => h.cell j (by omega), fun j hj => h.fro j (by omega), h.dig, h.lt⟩

/-- The slice of n limbs at ax is the number x: least first, the last one not 0. -/
structure Nt.Num (w : World) (ax : Option Addr) (n cx x : Nat) : Prop where
  cap : n ≤ cx
  ex : ∃ b off f, (0 < n → ax = some ⟨b, off, none⟩ ∧ Nt.Lim w b off n f) ∧ (∀ j, f j < 4294967296) ∧ Vl.val 4294967296 f n = x ∧ (n = 0 ∨ f (n - 1) ≠ 0)
theorem Nt.Num.nil (w : World) : Nt.Num w none 0 0 0 := ⟨Nat.le_refl _, 0, 0, fun _ => 0, fun h => absurd h (Nat.lt_irrefl 0), fun _ => (show (0 : Nat) < 4294967296 by decide), rfl, .inl rfl⟩
theorem Nt.Num.below {w w' : World} {ax : Option Addr} {n cx x : Nat} (h : Nt.Num w ax n cx x) (hb : Below w.heap.size w w') : Nt.Num w' ax n cx x := by
  obtain ⟨hc, b, off, f, h1, h2, h3, h4⟩ := h
  exact ⟨hc, b, off, f, fun h0 => ⟨(h1 h0).1, (h1 h0).2.below hb (h1 h0).2.lt⟩, h2, h3, h4⟩
theorem Nt.Num.drewN {w : World} {ax : Option Addr} {n cx x : Nat} (h : Nt.Num w ax n cx x) (k : Nat) : Nt.Num (w.drewN k) ax n cx x := h.below (below_drewN (Below.refl _ _) k)
theorem Nt.Num.zero {w : World} {ax : Option Addr} {n cx x : Nat} (h : Nt.Num w ax n cx x) : n = 0 ↔ x = 0 := by
  obtain ⟨_, b, off, f, _, h2, h3, h4⟩ := h
  constructor
  · rintro rfl
    rw [← h3]
    rfl
  · intro hx
    rcases h4 with h | h
    · exact h
    · rcases Nat.eq_zero_or_pos n with h0 | h0
      · exact h0
      · exfalso
        obtain ⟨m, rfl⟩ : ∃ m, n = m + 1 := ⟨n - 1, by omega⟩
        rw [hx] at h3
        unfold Vl.val at h3
        have : f m * 4294967296 ^ m = 0 := by omega
        rcases Nat.mul_eq_zero.1 this with h5 | h5
        · exact h h5
        · have := Nat.pow_pos (n := m) (show 0 < 4294967296 by decide)
          omega
/-- A number below B^m has m limbs at most. -/
theorem Nt.Num.len {w : World} {ax : Option Addr} {n cx x : Nat} (h : Nt.Num w ax n cx x) (m : Nat) (hx : x < 4294967296 ^ m) : n ≤ m := by
  obtain ⟨_, b, off, f, _, h2, h3, h4⟩ := h
  rcases h4 with rfl | h4
  · omega
  · rcases Nat.lt_or_ge m n with h0 | h0
    · exfalso
      obtain ⟨k, rfl⟩ : ∃ k, n = k + 1 := ⟨n - 1, by omega⟩
      unfold Vl.val at h3
      have h5 : 1 ≤ f k := Nat.pos_of_ne_zero h4
      have h6 : 4294967296 ^ k ≤ f k * 4294967296 ^ k := Nat.le_mul_of_pos_left _ h5
      have h7 : 4294967296 ^ m ≤ 4294967296 ^ k := Nat.pow_le_pow_right (by decide) (by omega)
      omega
    · exact h0
theorem Nt.Num.lt {w : World} {ax : Option Addr} {n cx x : Nat} (h : Nt.Num w ax n cx x) : x < 4294967296 ^ n := by
  obtain ⟨_, b, off, f, _, h2, h3, h4⟩ := h
  rw [← h3]
  exact Vl.val_lt _ (by decide) f n (fun j _ => h2 j)
theorem Nt.Num.mono {w : World} {ax ay : Option Addr} {n cx x m cy y : Nat} (h : Nt.Num w ax n cx x) (g : Nt.Num w ay m cy y) (hxy : x ≤ y) : n ≤ m := h.len m (Nat.lt_of_le_of_lt hxy g.lt)
/-- What trimmed leaves of a block. -/
theorem Nt.Num.of {w : World} {b off N m c : Nat} {f : Nat → Nat} (h : Nt.Lim w b off N f) (hm : m ≤ N) (hc : m ≤ c) (hz : ∀ j, m ≤ j → j < N → f j = 0) (ht : m = 0 ∨ f (m - 1) ≠ 0) : Nt.Num w (some ⟨b, off, none⟩) m c (Vl.val 4294967296 f N) :=
  ⟨hc, b, off, f, fun _ => ⟨rfl, h.top m hm⟩, h.dig, (Vl.val_high _ f m N hm hz).symm, ht⟩
end
end Go.Proofs.YthlecdggkolgmaaGreatDoor
