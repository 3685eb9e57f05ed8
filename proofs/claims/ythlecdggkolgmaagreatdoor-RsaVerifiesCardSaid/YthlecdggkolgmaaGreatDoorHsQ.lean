/- What a state tells: told, of the other kind. -/
import Derived.Test.YthlecdggkolgmaaGreatDoorHsM
import Derived.Test.YthlecdggkolgmaaGreatDoorKit
import Derived.Laws.MakeOwn
import Derived.Laws.CopyRow
import Derived.Laws.IdiomCopy
import Derived.Deep.CutRange
import Derived.Deep.RegionHeld3
namespace Go.Proofs.YthlecdggkolgmaaGreatDoor
section
section
open Go.RowKit

/-- n cells, told by a function. -/
def Hs.fn (n : Nat) (c : Nat → Value) : Array Value := ((List.range n).map c).toArray
theorem Hs.fn_size (n : Nat) (c : Nat → Value) : (Hs.fn n c).size = n := by simp [Hs.fn]
theorem Hs.fn_get (n : Nat) (c : Nat → Value) (j : Nat) (h : j < n) : (Hs.fn n c)[j]? = some (c j) := by simp [Hs.fn,h]
theorem Hs.fn_none (n : Nat) (c : Nat → Value) (j : Nat) (h : n ≤ j) : (Hs.fn n c)[j]? = none := by rw [Array.getElem?_eq_none]; rw [Hs.fn_size]; exact h
theorem Hs.fn_congr (n : Nat) (c d : Nat → Value) (h : ∀ j,j < n → c j = d j) : Hs.fn n c = Hs.fn n d := by
  unfold Hs.fn
  congr 1
  apply List.map_congr_left
  intro j hj
  exact h j (List.mem_range.1 hj)
theorem Hs.fn_set (n : Nat) (c : Nat → Value) (i : Nat) (x : Value) : (Hs.fn n c).setIfInBounds i x = Hs.fn n (fun j => if j = i then x else c j) := by
  apply Array.ext_getElem?
  intro j
  rw [Array.getElem?_setIfInBounds]
  by_cases hj : j < n
  · rw [Hs.fn_get _ _ _ hj]
    by_cases hi : i = j
    · subst hi
      rw [if_pos rfl,if_pos (by rw [Hs.fn_size]; exact hj),Hs.fn_get _ _ _ hj,if_pos rfl]
    · rw [if_neg hi,Hs.fn_get _ _ _ hj,if_neg (fun e => hi e.symm)]
  · rw [Hs.fn_none n _ j (by omega),Hs.fn_none n _ j (by omega)]
    split
    · rw [if_neg (by rw [Hs.fn_size]; omega)]
    · rfl
theorem Hs.fn_one (n : Nat) (c : Nat → Value) (h : ∀ j,j < n → (c j).oneCell' = true) : (Hs.fn n c).all (·.oneCell') = true := by
  rw [Array.all_eq_true_iff_forall_mem]
  intro v hv
  simp only [Hs.fn,List.mem_toArray,List.mem_map] at hv
  obtain ⟨j,hj,rfl⟩ := hv
  exact h j (List.mem_range.1 hj)
/-- Block b has n cells, told by c. -/
def Hs.Blk (w : World) (b : Nat) (T : TypeId) (n : Nat) (c : Nat → Value) : Prop := w.heap[b]? = some (.cells (Hs.fn n c) T (0,0))
theorem Hs.Blk.cell {w : World} {b n : Nat} {T : TypeId} {c : Nat → Value} (h : Hs.Blk w b T n c) {j : Nat} (hj : j < n) : w.cell? ⟨b,j,none⟩ = some (c j) := by
  have h' : w.heap[b]? = some (.cells (Hs.fn n c) T (0,0)) := h
  simp only [World.cell?,h']
  exact Hs.fn_get n c j hj
theorem Hs.Blk.frozen {w : World} {b n : Nat} {T : TypeId} {c : Nat → Value} (h : Hs.Blk w b T n c) (j : Nat) : w.frozen? ⟨b,j,none⟩ = false := by
  have h' : w.heap[b]? = some (.cells (Hs.fn n c) T (0,0)) := h
  simp [World.frozen?,h']
theorem Hs.Blk.lt {w : World} {b n : Nat} {T : TypeId} {c : Nat → Value} (h : Hs.Blk w b T n c) : b < w.heap.size := (Array.getElem?_eq_some_iff.1 h).1
theorem Hs.Blk.below {w w' : World} {b B n : Nat} {T : TypeId} {c : Nat → Value} (h : Hs.Blk w b T n c) (hb : Below B w w') (hB : b < B) : Hs.Blk w' b T n c := (hb.block b hB).trans h
theorem Hs.Blk.congr {w : World} {b n : Nat} {T : TypeId} {c d : Nat → Value} (h : Hs.Blk w b T n c) (e : ∀ j,j < n → c j = d j) : Hs.Blk w b T n d := by
  unfold Hs.Blk at *
  rw [← Hs.fn_congr n c d e]; exact h
theorem Hs.Blk.set {w : World} {b n : Nat} {T : TypeId} {c : Nat → Value} (h : Hs.Blk w b T n c) (i : Nat) (x : Value) : Hs.Blk (w.setCell ⟨b,i,none⟩ x) b T n (fun j => if j = i then x else c j) := by
  have h' : w.heap[b]? = some (.cells (Hs.fn n c) T (0,0)) := h
  have : (w.setCell ⟨b,i,none⟩ x).heap[b]? = some (.cells ((Hs.fn n c).setIfInBounds i x) T (0,0)) := by
    simp [World.setCell,Array.getElem?_modify,h']
  rw [Hs.fn_set] at this
  exact this
theorem Hs.Blk.setCells {b n : Nat} {T : TypeId} : ∀ (vs : List Value) (o : Nat) (w : World) (c : Nat → Value),Hs.Blk w b T n c → Hs.Blk (w.setCells b o vs) b T n (fun j => if o ≤ j ∧ j < o + vs.length then vs.getD (j - o) default else c j)
  | [],o,w,c,h => h.congr (fun j _ => by rw [if_neg (by simp)])
  | v :: r,o,w,c,h => by
    have ih := Hs.Blk.setCells r (o + 1) _ _ (h.set o v)
    refine ih.congr (fun j _ => ?_)
    by_cases h1 : j = o
    · subst h1
      rw [if_neg (by omega),if_pos rfl,if_pos (by simp),Nat.sub_self]
      rfl
    · by_cases h2 : o + 1 ≤ j ∧ j < o + 1 + r.length
      · rw [if_pos h2,if_pos (by simp; omega),show j - o = (j - (o + 1)) + 1 by omega]
        rfl
      · rw [if_neg h2,if_neg h1,if_neg (by simp; omega)]
theorem Hs.Blk.range {w : World} {b n : Nat} {T : TypeId} {c : Nat → Value} (h : Hs.Blk w b T n c) (o k : Nat) (hk : o + k ≤ n) : w.rangeAt b o ((List.range k).map fun j => c (o + j)) := fun j v hv => by
  have hj : j < k := by have := (List.getElem?_eq_some_iff.1 hv).1; simpa using this
  rw [h.cell (j := o + j) (by omega)]
  simpa [hj] using hv
theorem Hs.Blk.there {w : World} {b n : Nat} {T : TypeId} {c : Nat → Value} (h : Hs.Blk w b T n c) (o k : Nat) (hk : o + k ≤ n) : w.there b o k := fun j hj => by
  rw [h.cell (j := o + j) (by omega)]
  exact ⟨rfl,h.frozen _⟩
/-- Nothing but block b, and what is new, has changed. -/
structure Hs.But (b : Nat) (w w' : World) : Prop where
  os : w'.os = w.os
  tape : w'.tape = w.tape
  output : w'.output = w.output
  size : w.heap.size ≤ w'.heap.size
  block : ∀ k,k < w.heap.size → k ≠ b → w'.heap[k]? = w.heap[k]?
theorem Hs.But.refl (b : Nat) (w : World) : Hs.But b w w := ⟨rfl,rfl,rfl,Nat.le_refl _,fun _ _ _ => rfl⟩
theorem Hs.But.trans {b : Nat} {w w' w'' : World} (h : Hs.But b w w') (g : Hs.But b w' w'') : Hs.But b w w'' :=
  ⟨g.os.trans h.os,g.tape.trans h.tape,g.output.trans h.output,Nat.le_trans h.size g.size,fun k hk hb => (g.block k (Nat.lt_of_lt_of_le hk h.size) hb).trans (h.block k hk hb)⟩
theorem Hs.But.ofBelow {b B : Nat} {w w' : World} (h : Below B w w') (hB : w.heap.size ≤ B) : Hs.But b w w' := ⟨h.os,h.tape,h.output,h.size,fun k hk _ => h.block k (Nat.lt_of_lt_of_le hk hB)⟩
theorem Hs.But.toBelow {b B : Nat} {w w' : World} (h : Hs.But b w w') (hB : B ≤ b) (hs : B ≤ w.heap.size) : Below B w w' := ⟨h.os,h.tape,h.output,h.size,fun k hk => h.block k (by omega) (by omega)⟩
theorem Hs.But.set {b : Nat} (w : World) (i : Nat) (x : Value) : Hs.But b w (w.setCell ⟨b,i,none⟩ x) := ⟨rfl,rfl,rfl,by simp [World.setCell],fun k _ hk => Hs.heap_set w _ _ k hk⟩
theorem Hs.But.setCells {b : Nat} : ∀ (vs : List Value) (o : Nat) (w : World),Hs.But b w (w.setCells b o vs)
  | [],_,w => Hs.But.refl b w
  | v :: r,o,w => (Hs.But.set w o v).trans (Hs.But.setCells r (o + 1) _)
theorem Hs.But.drewN {b : Nat} (w : World) (n : Nat) : Hs.But b w (w.drewN n) := Hs.But.ofBelow (Hs.drewN_below w n) (Nat.le_refl _)

/-- The bytes of a text as cells. -/
def Hs.cellsOf (l : List UInt8) : List Value := l.map fun x => Value.int .u8 (x.toNat : Int)
/-- copy(dst, s), s a text: as many bytes as the shorter one has. -/
theorem Hs.run_copy {P : Program} (w : World) (dT sT ty elem : TypeId) (b o dLen dCap : Nat) (t : ByteArray) (hu : P.underlying dT = some (.slice elem)) (hs : (P.info? elem).map (·.size) = some 1) (l : List UInt8) (hl : t.data.toList.take (Nat.min t.size dLen) = l) (hn : l.length = Nat.min t.size dLen)
    (ht : w.there b o l.length) :
    (Builtin.copy_ #[dT,sT] ty #[.slice (some ⟨b,o,none⟩) dLen dCap,.string t]).run P w = .ok (goInt l.length) (w.setCells b o (Hs.cellsOf l)) := by
  have hcl : (Hs.cellsOf l).length = l.length := by simp [Hs.cellsOf]
  have hst := run_storeCells_cells (P := P) b o (Hs.cellsOf l) 0 w (fun j hj => by simpa using (ht j (by omega)).1) (fun j hj => by simpa using (ht j (by omega)).2) (by
    intro v hv
    obtain ⟨x,_,rfl⟩ := List.mem_map.1 hv
    rfl)
  have htk : List.take (Nat.min t.size dLen) (List.map (fun b : UInt8 => Value.int IntKind.u8 (b.toNat : Int)) t.data.toList) = Hs.cellsOf l := by
    rw [← List.map_take,hl]; rfl
  cases hq : P.info? elem with
  | none => simp [hq] at hs
  | some i =>
    have hi : i.size = 1 := by simpa [hq] using hs
    simp [Builtin.copy_,run_underlying hu,Builtin.lenOf,Builtin.firstCells,sizeOf,typeInfo,hq]
    rw [htk,hst,hn]
    simp [Result.andThen]
theorem Hs.wpList_copy {P : Program} {w : World} {ops : Array Oper} {rest : List Oper} {o : Oper} {a : Act} {Q : Exit → Act → World → Prop} (hgd : o.guard = none) (d s : Operand) (dT sT : TypeId)
    (ho : o.op = .call { callee := .builtin .copy,args := #[d,s],argTypes := #[dT,sT] }) (elem : TypeId) (hu : P.underlying dT = some (.slice elem)) (hsz : (P.info? elem).map (·.size) = some 1)
    (b off dLen dCap : Nat) (t : ByteArray) (hd : a.eval d = .slice (some ⟨b,off,none⟩) dLen dCap) (hs : a.eval s = .string t) (l : List UInt8) (hl : t.data.toList.take (Nat.min t.size dLen) = l) (hn : l.length = Nat.min t.size dLen)
    (ht : w.there b off l.length) (h : wpList P ops Q rest (a.put o.dst (goInt l.length)) (w.setCells b off (Hs.cellsOf l))) : wpList P ops Q (o :: rest) a w := by
  refine wpList_plain hgd fun K hK => ?_
  have hrun := Hs.run_copy (P := P) w dT sT o.type elem b off dLen dCap t hu hsz l hl hn ht
  unfold Oper.wp
  simp [execOp,ho,resolve,invoke,builtin,hd,hs,hrun,Result.andThen]
  exact hK _ _ h
/-- make([]byte, l, c): noughts. -/
theorem Hs.made (c : Nat) : madeCells (Value.int .u8 0).cells (c * 1) = Hs.fn c (fun _ => .int .u8 0) := by
  apply Array.ext_getElem?
  intro j
  by_cases hj : j < c
  · rw [Hs.fn_get _ _ _ hj]
    simp [madeCells,Value.cells,hj,Nat.mod_one]
  · rw [Hs.fn_none _ _ _ (by omega),Array.getElem?_eq_none]
    rw [size_madeCells]; omega
theorem Hs.wpList_make {w : World} {ops : Array Oper} {rest : List Oper} {o : Oper} {a : Act} {Q : Exit → Act → World → Prop} (hg : o.guard = none) (l c : Operand) (hop : o.op = Op.makeSlice 36 l c) (L C : Nat)
    (hl : a.eval l = .int .i64 (L : Int)) (hc : a.eval c = .int .i64 (C : Int)) (hle : L ≤ C) (hC : C ≤ 281474976710656)
    (hK : wpList Tryz.prog ops Q rest (a.put o.dst (.slice (some ⟨w.heap.size,0,none⟩) L C)) (w.alloc (.cells (Hs.fn C (fun _ => .int .u8 0)) 5))) : wpList Tryz.prog ops Q (o :: rest) a w := by
  obtain ⟨i0,hi,hz0,hz1,hz2⟩ := info_parts Tx.info8
  have hr := run_make (P := Tryz.prog) w 36 5 i0 (.int .u8 0) Tryz.underlying36 hi hz0 .i64 .i64 (L : Int) (C : Int) (by omega) (by omega) (by rw [hz2]; omega) (by omega)
  rw [hz1] at hr
  simp only [Int.toNat_natCast] at hr
  rw [Hs.made] at hr
  refine wpList_plain hg fun K hK2 => ?_
  unfold Oper.wp
  simp [execOp,hop,hl,hc,hr,Result.andThen]
  exact hK2 _ _ hK
end
section
open Go.RowKit
/-- The cells of a hash: its kind, its state, what was written behind the last whole block, how much was written. -/
def Hs.cf (κ : Nat) (v : Hs.V8) (R : Nat → Nat) (n : Nat) (j : Nat) : Value :=
  if j = 0 then .int .i64 (κ : Int) else if j < 9 then .int .u64 (v.get (j - 1) : Int) else if j < 137 then .int .u8 (R (j - 9) : Int) else .int .i64 (n : Int)
def Hs.At (w : World) (p κ : Nat) (v : Hs.V8) (R : Nat → Nat) (n : Nat) : Prop := Hs.Blk w p 135 138 (Hs.cf κ v R n)
theorem Hs.At.kind {w : World} {p κ : Nat} {v : Hs.V8} {R : Nat → Nat} {n : Nat} (h : Hs.At w p κ v R n) : w.cell? ⟨p,0,none⟩ = some (.int .i64 (κ : Int)) := Hs.Blk.cell h (j := 0) (by omega)
theorem Hs.At.len {w : World} {p κ : Nat} {v : Hs.V8} {R : Nat → Nat} {n : Nat} (h : Hs.At w p κ v R n) : w.cell? ⟨p,137,none⟩ = some (.int .i64 (n : Int)) := Hs.Blk.cell h (j := 137) (by omega)
theorem Hs.At.rest {w : World} {p κ : Nat} {v : Hs.V8} {R : Nat → Nat} {n : Nat} (h : Hs.At w p κ v R n) (j : Nat) (hj : j < 128) : w.cell? ⟨p,9 + j,none⟩ = some (.int .u8 (R j : Int)) := by
  rw [Hs.Blk.cell h (j := 9 + j) (by omega)]
  unfold Hs.cf
  rw [if_neg (by omega),if_neg (by omega),if_pos (by omega),Nat.add_sub_cancel_left]
theorem Hs.At.state {w : World} {p κ : Nat} {v : Hs.V8} {R : Nat → Nat} {n : Nat} (h : Hs.At w p κ v R n) (j : Nat) (hj : j < 8) : w.cell? ⟨p,1 + j,none⟩ = some (.int .u64 (v.get j : Int)) := by
  rw [Hs.Blk.cell h (j := 1 + j) (by omega)]
  unfold Hs.cf
  rw [if_neg (by omega),if_pos (by omega),Nat.add_sub_cancel_left]
def Hs.stateL (v : Hs.V8) : List Value := (List.range 8).map fun j => Value.int .u64 (v.get j : Int)
theorem Hs.At.range {w : World} {p κ : Nat} {v : Hs.V8} {R : Nat → Nat} {n : Nat} (h : Hs.At w p κ v R n) : w.rangeAt p 1 (Hs.stateL v) := fun j x hx => by
  have hj : j < 8 := by have := (List.getElem?_eq_some_iff.1 hx).1; simpa [Hs.stateL] using this
  rw [h.state j hj]
  simpa [Hs.stateL,hj] using hx
theorem Hs.At.below {w w' : World} {p κ B : Nat} {v : Hs.V8} {R : Nat → Nat} {n : Nat} (h : Hs.At w p κ v R n) (hb : Below B w w') (hB : p < B) : Hs.At w' p κ v R n := Hs.Blk.below h hb hB
theorem Hs.At.lt {w : World} {p κ : Nat} {v : Hs.V8} {R : Nat → Nat} {n : Nat} (h : Hs.At w p κ v R n) : p < w.heap.size := Hs.Blk.lt h
theorem Hs.At.but {w w' : World} {p κ b : Nat} {v : Hs.V8} {R : Nat → Nat} {n : Nat} (h : Hs.At w p κ v R n) (hb : Hs.But b w w') (hp : p ≠ b) : Hs.At w' p κ v R n := (hb.block p h.lt hp).trans h
theorem Hs.At.setState {w : World} {p κ : Nat} {v : Hs.V8} {R : Nat → Nat} {n : Nat} (h : Hs.At w p κ v R n) (u : Hs.V8) : Hs.At (w.setCells p 1 (Hs.stateL u)) p κ u R n := by
  refine Hs.Blk.congr (Hs.Blk.setCells (Hs.stateL u) 1 w _ h) fun j hj => ?_
  have hl : (Hs.stateL u).length = 8 := by simp [Hs.stateL]
  rw [hl]
  unfold Hs.cf
  by_cases h1 : 1 ≤ j ∧ j < 1 + 8
  · rw [if_pos h1,if_neg (by omega),if_pos (by omega)]
    simp [Hs.stateL,List.getD_eq_getElem?_getD,show j - 1 < 8 by omega]
  · rw [if_neg h1]
    by_cases h0 : j = 0
    · rw [if_pos h0,if_pos h0]
    · have h9 : ¬ j < 9 := by omega
      rw [if_neg h0,if_neg h0,if_neg h9,if_neg h9]
theorem Hs.At.setRest {w : World} {p κ : Nat} {v : Hs.V8} {R : Nat → Nat} {n : Nat} (h : Hs.At w p κ v R n) (l : List UInt8) (a : Nat) (ha : a + l.length ≤ 128) :
    Hs.At (w.setCells p (9 + a) (Hs.cellsOf l)) p κ v (fun j => if a ≤ j ∧ j < a + l.length then (l.getD (j - a) 0).toNat else R j) n := by
  refine Hs.Blk.congr (Hs.Blk.setCells (Hs.cellsOf l) (9 + a) w _ h) fun j hj => ?_
  have hl : (Hs.cellsOf l).length = l.length := by simp [Hs.cellsOf]
  rw [hl]
  unfold Hs.cf
  by_cases h1 : 9 + a ≤ j ∧ j < 9 + a + l.length
  · rw [if_pos h1,if_neg (by omega),if_neg (by omega),if_pos (by omega)]
    simp only []
    rw [if_pos (by omega),show j - 9 - a = j - (9 + a) by omega]
    simp [Hs.cellsOf,List.getD_eq_getElem?_getD,show j - (9 + a) < l.length by omega]
  · rw [if_neg h1]
    by_cases h0 : j = 0
    · rw [if_pos h0,if_pos h0]
    · by_cases h9 : j < 9
      · rw [if_neg h0,if_neg h0,if_pos h9,if_pos h9]
      · by_cases h137 : j < 137
        · rw [if_neg h0,if_neg h0,if_neg h9,if_neg h9,if_pos h137,if_pos h137]
          simp only []
          rw [if_neg (by omega)]
        · rw [if_neg h0,if_neg h0,if_neg h9,if_neg h9,if_neg h137,if_neg h137]
theorem Hs.At.setLen {w : World} {p κ : Nat} {v : Hs.V8} {R : Nat → Nat} {n : Nat} (h : Hs.At w p κ v R n) (k : Nat) : Hs.At (w.setCell ⟨p,137,none⟩ (.int .i64 (k : Int))) p κ v R k := by
  refine Hs.Blk.congr (Hs.Blk.set h 137 (.int .i64 (k : Int))) fun j hj => ?_
  unfold Hs.cf
  by_cases h1 : j = 137
  · rw [if_pos h1,if_neg (by omega),if_neg (by omega),if_neg (by omega)]
  · rw [if_neg h1]
    by_cases h0 : j = 0
    · rw [if_pos h0,if_pos h0]
    · by_cases h9 : j < 9
      · rw [if_neg h0,if_neg h0,if_pos h9,if_pos h9]
      · rw [if_neg h0,if_neg h0,if_neg h9,if_neg h9,if_pos (by omega),if_pos (by omega)]
/-- A hash of the bytes m: the state behind the whole blocks, and what is behind them. -/
structure Hs.Is (w : World) (p κ : Nat) (m : List UInt8) : Prop where
  kind : κ < 2
  size : m.length ≤ 1152921504606846975
  obj : ∃ R : Nat → Nat,(∀ j,R j < 256) ∧ (∀ j,j < m.length % Hs.blk κ → R j = (m.getD (m.length / Hs.blk κ * Hs.blk κ + j) 0).toNat) ∧ Hs.At w p κ (Hs.after κ m (m.length / Hs.blk κ)) R m.length
end
end
section
section
open Go.RowKit

theorem Hs.tell_snoc (f : Nat → UInt8) (k : Nat) : (List.range (k + 1)).map f = (List.range k).map f ++ [f k] := by rw [List.range_succ,List.map_append]; rfl
/-- How the memory lies while a state is told. -/
structure Hs.TLay (w : World) (pc : Array Value) (p κ : Nat) (v : Hs.V8) (R : Nat → Nat) (n q : Nat) (wr : World) : Prop where
  h : Hs.At wr p κ v R n
  pl : wr.heap[q]? = some (.cells pc 131 (0,0))
  b : Below w.heap.size w wr
  lo : w.heap.size ≤ q
  hp : p < w.heap.size
  z : q + 1 ≤ wr.heap.size
theorem Hs.TLay.pcell {w wr : World} {pc : Array Value} {p κ n q : Nat} {v : Hs.V8} {R : Nat → Nat} (h : Hs.TLay w pc p κ v R n q wr) (j : Nat) (x : Value) (hv : pc[j]? = some x) : wr.cell? ⟨q,j,none⟩ = some x := by
  simp only [World.cell?,h.pl]; exact hv
theorem Hs.TLay.below {w wr wr' : World} {pc : Array Value} {p κ n q : Nat} {v : Hs.V8} {R : Nat → Nat} (h : Hs.TLay w pc p κ v R n q wr) (hb : Below wr.heap.size wr wr') : Hs.TLay w pc p κ v R n q wr' :=
  ⟨h.h.below hb h.h.lt,(hb.block q (by have := h.z; omega)).trans h.pl,h.b.trans (hb.mono (by have := h.lo; have := h.z; omega)),h.lo,h.hp,Nat.le_trans h.z hb.size⟩
theorem Hs.TLay.above {w wr wr' : World} {pc : Array Value} {p κ n q : Nat} {v : Hs.V8} {R : Nat → Nat} (h : Hs.TLay w pc p κ v R n q wr) (hb : Below (q + 1) wr wr') : Hs.TLay w pc p κ v R n q wr' :=
  ⟨h.h.below hb (by have := h.hp; have := h.lo; omega),(hb.block q (by omega)).trans h.pl,h.b.trans (hb.mono (by have := h.lo; omega)),h.lo,h.hp,Nat.le_trans h.z hb.size⟩
def Hs.tb (wb : Nat) (v : Hs.V8) (i : Nat) : UInt8 := UInt8.ofNat (v.get (i / wb) / 2 ^ (8 * (wb - 1 - i % wb)))
theorem Hs.tb_at (wb : Nat) (v : Hs.V8) (i k : Nat) (hk : k < wb) : (Hs.tb wb v (i * wb + k)).toNat = v.get i / 2 ^ (8 * (wb - 1 - k)) % 256 := by
  unfold Hs.tb
  rw [show (i * wb + k) / wb = i by rw [Nat.mul_comm,Nat.mul_add_div (by omega),Nat.div_eq_of_lt hk]; rfl,show (i * wb + k) % wb = k by rw [Nat.mul_comm,Nat.mul_add_mod,Nat.mod_eq_of_lt hk]]
  simp
set_option maxHeartbeats 4000000 in
set_option maxRecDepth 100000 in
theorem Hs.told0 (w : World) (p : Nat) (v : Hs.V8) (R : Nat → Nat) (n : Nat) (h : Hs.At w p 0 v R n) (hv : v.lt 32) :
    Calls Tryz.prog 86 #[.pointer (some ⟨p,0,none⟩)] w fun e w' => e = .returned (.string (Tx.ba (Hs.tell 0 v))) ∧ Below w.heap.size w w' := by
  have CP := Lib.hid Hs.planOf0
  have kc := h.kind
  have hp := h.lt
  go_enter Tryz.func86,Tryz.ntmps86
  go_wp2_with fail
  refine (CP.out w).mono ?_
  rintro e w1 ⟨rfl,b1⟩
  have h1 := h.below b1 hp
  go_upto_region 2 with (refine wpList_store_row rfl 131 (.tmp 3) (.tmp 12) rfl w1.heap.size Hs.pc0 rfl rfl 131 _ (heap_alloc_new w1 _) Hs.infoP (by kernel_rfl) Hs.pcOk0 ?_; rw [World.setRow_alloc_new])
  have bA : Below w1.heap.size w1 (w1.alloc (.cells Hs.pc0 131)) := (Below.refl _ _).alloc (Nat.le_refl _) _
  have h2 := h1.below bA h1.lt
  have b2 := b1.trans (bA.mono b1.size)
  have hs2 : w.heap.size ≤ w1.heap.size := b1.size
  have hP : (w1.alloc (.cells Hs.pc0 131)).heap[w1.heap.size]? = some (.cells Hs.pc0 131 (0,0)) := heap_alloc_new _ _
  obtain ⟨q,hq⟩ : ∃ q,w1.heap.size = q := ⟨_,rfl⟩
  have hz2 : (w1.alloc (.cells Hs.pc0 131)).heap.size = q + 1 := by simp [hq]
  rw [hq] at hP hs2 ⊢
  have HS := Hs.TLay.mk h2 hP b2 (show w.heap.size ≤ q from hs2) hp (Nat.le_of_eq hz2.symm)
  clear h2 hP bA h1 b1 hq b2 hz2 kc h
  generalize w1.alloc (.cells Hs.pc0 131) = w2 at HS ⊢
  have p0 := HS.pcell 0 (.int .i64 4) rfl
  have p1 := HS.pcell 1 (.int .i64 8) rfl
  go_wp2_with (at_make; refine Tx.make rfl _ _ rfl w2.heap.size 32 _ rfl rfl (by omega) (by omega) (Nat.le_refl _) ?_; intro v0 w0 hown0 hb0 hz0)
  have HS0 := HS.below hb0
  clear p0 p1
  have p0 := HS0.pcell 0 (.int .i64 4) rfl
  have p1 := HS0.pcell 1 (.int .i64 8) rfl
  go_quiet (fail)
  have HS1 := HS0.below (Hs.drewN_below w0 nq)
  have own1 : Tx.Own (w0.drewN nq) (q + 1) v0 [] := (hown0.mono HS.z).drewN nq
  clear p0 p1 HS0 hown0 hb0 hz0
  generalize w0.drewN nq = w3 at HS1 own1 ⊢
  go_wp2_with fail
  go_loopw [4,26] (fun b iv wr => ∃ i : Nat,i ≤ 8 ∧ iv = .int .i64 (i : Int) ∧ Tx.Own wr (q + 1) b ((List.range (i * 4)).map (Hs.tb 4 v)) ∧ Hs.TLay w Hs.pc0 p 0 v R n q wr) (fun _ iv _ => 8 - (intOf iv).toNat)
  case atStart => exact ⟨0,by omega,rfl,own1,HS1⟩
  case round =>
    clear HS1 own1
    obtain ⟨i,hi,rfl,hown,hL⟩ := hrel
    obtain ⟨w4,rfl⟩ : ∃ w4,w4 = wr := ⟨_,rfl⟩
    by_cases hlt : i < 8
    · have hlz : (i : Int) < 8 := by omega
      have cs := hL.h.state i hlt
      have p0 := hL.pcell 0 (.int .i64 4) rfl
      have hx := hv i hlt
      go_wp2_with fail
      go_loopw [4,32] (fun b kv wr => ∃ k : Nat,k ≤ 4 ∧ kv = .int .i64 (k : Int) ∧ Tx.Own wr (q + 1) b ((List.range (i * 4 + k)).map (Hs.tb 4 v)) ∧ Hs.TLay w Hs.pc0 p 0 v R n q wr) (fun _ kv _ => 4 - (intOf kv).toNat)
      case atStart => exact ⟨0,by omega,rfl,hown,hL⟩
      case round =>
        clear hL hown cs p0
        obtain ⟨k,hk,rfl,hown,hL⟩ := hrel
        obtain ⟨w5,rfl⟩ : ∃ w5,w5 = wr := ⟨_,rfl⟩
        by_cases hkl : k < 4
        · have hkz : (k : Int) < 4 := by omega
          have p0 := hL.pcell 0 (.int .i64 4) rfl
          have e1 : IntKind.i64.wrap (3 - (k : Int)) = ((3 - k : Nat) : Int) := by rw [IntWalk.i64_in _ (by omega)]; omega
          have e2 : IntKind.i64.wrap (8 * ((3 - k : Nat) : Int)) = ((8 * (3 - k) : Nat) : Int) := by rw [IntWalk.i64_in _ (by omega)]; omega
          have h1 : 0 ≤ ((8 * (3 - k) : Nat) : Int) := by omega
          obtain ⟨c,hc⟩ : ∃ c,Hs.tb 4 v (i * 4 + k) = c := ⟨_,rfl⟩
          have hcn := Hs.tb_at 4 v i k hkl
          rw [hc] at hcn
          have e3 : (v.get i : Int) / 2 ^ (8 * (3 - k)) % 256 = (c.toNat : Int) := by rw [hcn]; simp
          have HL : ((List.range (i * 4 + k)).map (Hs.tb 4 v)).length + [c].length ≤ 140737488355328 := by simp; omega
          have hsn : (List.range (i * 4 + (k + 1))).map (Hs.tb 4 v) = (List.range (i * 4 + k)).map (Hs.tb 4 v) ++ [c] := by rw [← hc]; exact Hs.tell_snoc _ _
          have HSN := Lib.hid hsn
          have HLH := Lib.hid HL
          clear hc hcn hsn HL
          have hz5 := hL.z
          go_wp2_with (at_builtin; refine Tx.append rfl _ _ rfl (q + 1) _ ((List.range (i * 4 + k)).map (Hs.tb 4 v)) rfl (hown.alloc _) ⟨w5.heap.size,0,none⟩ 1 [c] rfl (World.news_of_block (heap_alloc_new w5 _)) HLH.out (by simp; omega) ?_; intro v1 w6 own6 b6 z6)
          have hL6 := (hL.below ((Below.refl _ _).alloc (Nat.le_refl _) _)).above b6
          rw [← HSN.out] at own6
          go_wp2_with fail
          exact ⟨⟨k + 1,by omega,by go_num,own6,hL6⟩,by simp [intOf]; omega⟩
        · obtain rfl : k = 4 := by omega
          go_wp2_with fail
          exact ⟨⟨i + 1,by omega,by go_num,by rw [Nat.add_mul,Nat.one_mul]; exact hown,hL⟩,by simp [intOf]; omega⟩
    · obtain rfl : i = 8 := by omega
      have hcv := hown.conv
      have hb := hL.b
      go_wp2_with fail
      go_ret
      exact ⟨rfl,hb⟩
end
section
open Go.RowKit

set_option maxHeartbeats 4000000 in
set_option maxRecDepth 100000 in
theorem Hs.told1 (w : World) (p : Nat) (v : Hs.V8) (R : Nat → Nat) (n : Nat) (h : Hs.At w p 1 v R n) (hv : v.lt 64) :
    Calls Tryz.prog 86 #[.pointer (some ⟨p,0,none⟩)] w fun e w' => e = .returned (.string (Tx.ba (Hs.tell 1 v))) ∧ Below w.heap.size w w' := by
  have CP := Lib.hid Hs.planOf1
  have kc := h.kind
  have hp := h.lt
  go_enter Tryz.func86,Tryz.ntmps86
  go_wp2_with fail
  refine (CP.out w).mono ?_
  rintro e w1 ⟨rfl,b1⟩
  have h1 := h.below b1 hp
  go_upto_region 2 with (refine wpList_store_row rfl 131 (.tmp 3) (.tmp 12) rfl w1.heap.size Hs.pc1 rfl rfl 131 _ (heap_alloc_new w1 _) Hs.infoP (by kernel_rfl) Hs.pcOk1 ?_; rw [World.setRow_alloc_new])
  have bA : Below w1.heap.size w1 (w1.alloc (.cells Hs.pc1 131)) := (Below.refl _ _).alloc (Nat.le_refl _) _
  have h2 := h1.below bA h1.lt
  have b2 := b1.trans (bA.mono b1.size)
  have hs2 : w.heap.size ≤ w1.heap.size := b1.size
  have hP : (w1.alloc (.cells Hs.pc1 131)).heap[w1.heap.size]? = some (.cells Hs.pc1 131 (0,0)) := heap_alloc_new _ _
  obtain ⟨q,hq⟩ : ∃ q,w1.heap.size = q := ⟨_,rfl⟩
  have hz2 : (w1.alloc (.cells Hs.pc1 131)).heap.size = q + 1 := by simp [hq]
  rw [hq] at hP hs2 ⊢
  have HS := Hs.TLay.mk h2 hP b2 (show w.heap.size ≤ q from hs2) hp (Nat.le_of_eq hz2.symm)
  clear h2 hP bA h1 b1 hq b2 hz2 kc h
  generalize w1.alloc (.cells Hs.pc1 131) = w2 at HS ⊢
  have p0 := HS.pcell 0 (.int .i64 8) rfl
  have p1 := HS.pcell 1 (.int .i64 6) rfl
  go_wp2_with (at_make; refine Tx.make rfl _ _ rfl w2.heap.size 48 _ rfl rfl (by omega) (by omega) (Nat.le_refl _) ?_; intro v0 w0 hown0 hb0 hz0)
  have HS0 := HS.below hb0
  clear p0 p1
  have p0 := HS0.pcell 0 (.int .i64 8) rfl
  have p1 := HS0.pcell 1 (.int .i64 6) rfl
  go_quiet (fail)
  have HS1 := HS0.below (Hs.drewN_below w0 nq)
  have own1 : Tx.Own (w0.drewN nq) (q + 1) v0 [] := (hown0.mono HS.z).drewN nq
  clear p0 p1 HS0 hown0 hb0 hz0
  generalize w0.drewN nq = w3 at HS1 own1 ⊢
  go_wp2_with fail
  go_loopw [4,26] (fun b iv wr => ∃ i : Nat,i ≤ 6 ∧ iv = .int .i64 (i : Int) ∧ Tx.Own wr (q + 1) b ((List.range (i * 8)).map (Hs.tb 8 v)) ∧ Hs.TLay w Hs.pc1 p 1 v R n q wr) (fun _ iv _ => 6 - (intOf iv).toNat)
  case atStart => exact ⟨0,by omega,rfl,own1,HS1⟩
  case round =>
    clear HS1 own1
    obtain ⟨i,hi,rfl,hown,hL⟩ := hrel
    obtain ⟨w4,rfl⟩ : ∃ w4,w4 = wr := ⟨_,rfl⟩
    by_cases hlt : i < 6
    · have hlz : (i : Int) < 6 := by omega
      have cs := hL.h.state i (by omega)
      have p0 := hL.pcell 0 (.int .i64 8) rfl
      have hx := hv i (by omega)
      go_wp2_with fail
      go_loopw [4,32] (fun b kv wr => ∃ k : Nat,k ≤ 8 ∧ kv = .int .i64 (k : Int) ∧ Tx.Own wr (q + 1) b ((List.range (i * 8 + k)).map (Hs.tb 8 v)) ∧ Hs.TLay w Hs.pc1 p 1 v R n q wr) (fun _ kv _ => 8 - (intOf kv).toNat)
      case atStart => exact ⟨0,by omega,rfl,hown,hL⟩
      case round =>
        clear hL hown cs p0
        obtain ⟨k,hk,rfl,hown,hL⟩ := hrel
        obtain ⟨w5,rfl⟩ : ∃ w5,w5 = wr := ⟨_,rfl⟩
        by_cases hkl : k < 8
        · have hkz : (k : Int) < 8 := by omega
          have p0 := hL.pcell 0 (.int .i64 8) rfl
          have e1 : IntKind.i64.wrap (7 - (k : Int)) = ((7 - k : Nat) : Int) := by rw [IntWalk.i64_in _ (by omega)]; omega
          have e2 : IntKind.i64.wrap (8 * ((7 - k : Nat) : Int)) = ((8 * (7 - k) : Nat) : Int) := by rw [IntWalk.i64_in _ (by omega)]; omega
          have h1 : 0 ≤ ((8 * (7 - k) : Nat) : Int) := by omega
          obtain ⟨c,hc⟩ : ∃ c,Hs.tb 8 v (i * 8 + k) = c := ⟨_,rfl⟩
          have hcn := Hs.tb_at 8 v i k hkl
          rw [hc] at hcn
          have e3 : (v.get i : Int) / 2 ^ (8 * (7 - k)) % 256 = (c.toNat : Int) := by rw [hcn]; simp
          have HL : ((List.range (i * 8 + k)).map (Hs.tb 8 v)).length + [c].length ≤ 140737488355328 := by simp; omega
          have hsn : (List.range (i * 8 + (k + 1))).map (Hs.tb 8 v) = (List.range (i * 8 + k)).map (Hs.tb 8 v) ++ [c] := by rw [← hc]; exact Hs.tell_snoc _ _
          have HSN := Lib.hid hsn
          have HLH := Lib.hid HL
          clear hc hcn hsn HL
          have hz5 := hL.z
          go_wp2_with (at_builtin; refine Tx.append rfl _ _ rfl (q + 1) _ ((List.range (i * 8 + k)).map (Hs.tb 8 v)) rfl (hown.alloc _) ⟨w5.heap.size,0,none⟩ 1 [c] rfl (World.news_of_block (heap_alloc_new w5 _)) HLH.out (by simp; omega) ?_; intro v1 w6 own6 b6 z6)
          have hL6 := (hL.below ((Below.refl _ _).alloc (Nat.le_refl _) _)).above b6
          rw [← HSN.out] at own6
          go_wp2_with fail
          exact ⟨⟨k + 1,by omega,by go_num,own6,hL6⟩,by simp [intOf]; omega⟩
        · obtain rfl : k = 8 := by omega
          go_wp2_with fail
          exact ⟨⟨i + 1,by omega,by go_num,by rw [Nat.add_mul,Nat.one_mul]; exact hown,hL⟩,by simp [intOf]; omega⟩
    · obtain rfl : i = 6 := by omega
      have hcv := hown.conv
      have hb := hL.b
      go_wp2_with fail
      go_ret
      exact ⟨rfl,hb⟩
end
end
end Go.Proofs.YthlecdggkolgmaaGreatDoor
