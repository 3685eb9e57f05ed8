/- TextCursors: cursors on both sides, and the rows that hold them. -/
import Derived.Test.YtbemgeicpbcdhaaDoorCurR
namespace Go.Proofs.YtbemgeicpbcdhaaDoor
open Go.RowKit

/-- A pair of cursors: the program's block, the reference's, over what, and where. -/
structure Tx.Cs where
  bx : Nat
  by' : Nat
  s : ByteArray
  k : Nat
def Tx.ptr (b : Nat) : Value := .pointer (some ⟨b, 0, none⟩)
def Tx.OwnX (w : World) (B : Nat) (v : Value) (cs : List Tx.Cs) : Prop := w.ownsRow B 23 1 v cs.length (cs.map fun c => Tx.ptr c.bx)
def Tx.OwnY (w : World) (B : Nat) (v : Value) (cs : List Tx.Cs) : Prop := w.ownsRow B 26 1 v cs.length (cs.map fun c => Tx.ptr c.by')
structure Tx.Cus (B : Nat) (w : World) (cs : List Tx.Cs) : Prop where
  cur : ∀ c ∈ cs, Tx.Cur w c.bx c.s c.k ∧ Tx.RCur w c.by' c.s c.k ∧ c.s.size ≤ 140737488355328 ∧ B ≤ c.bx ∧ B ≤ c.by'
  lnk : ∀ c ∈ cs, ∀ d ∈ cs, (c.bx = d.bx ↔ c.by' = d.by')
theorem Tx.row_below {w w' : World} {B B' e size n : Nat} {v : Value} {xs : List Value} (h : w.ownsRow B e size v n xs) (hb : Below B' w w') (hB : w.heap.size ≤ B') : w'.ownsRow B e size v n xs := by
  refine ⟨h.1, ?_⟩
  rcases h.2 with hn | ⟨g, cap, cur, rfl, hg, hgg, rest⟩
  · exact .inl hn
  · refine .inr ⟨g, cap, cur, rfl, hg, ?_, rest⟩
    rw [hb.block g (Nat.lt_of_lt_of_le (Array.getElem?_eq_some_iff.1 hgg).1 hB)]
    exact hgg
/-- A row whose cells are of another type than those of the block that turned. -/
theorem Tx.row_grown {w w' : World} {B e size n g : Nat} {v : Value} {xs : List Value} {cells : Array Value} {T : TypeId} {fz : Nat × Nat} (h : w.ownsRow B e size v n xs) (hg : w.grownBy w' (some g)) (ht : w.heap[g]? = some (.cells cells T fz)) (hne : e ≠ T) : w'.ownsRow B e size v n xs := by
  refine ⟨h.1, ?_⟩
  rcases h.2 with hn | ⟨g', cap, cur, rfl, hgB, hgg, rest⟩
  · exact .inl hn
  · refine .inr ⟨g', cap, cur, rfl, hgB, ?_, rest⟩
    rw [hg.block g' (Array.getElem?_eq_some_iff.1 hgg).1 (by
      intro e1
      have e2 : g' = g := Option.some.inj e1
      subst e2
      rw [hgg] at ht
      simp only [Option.some.injEq, Obj.cells.injEq] at ht
      exact hne ht.2.1)]
    exact hgg
theorem Tx.Cur.other {w w' : World} {b g : Nat} {s : ByteArray} {k : Nat} {cells : Array Value} {T : TypeId} {fz : Nat × Nat} (h : Tx.Cur w b s k) (hg : w.grownBy w' (some g)) (ht : w.heap[g]? = some (.cells cells T fz)) (hne : 46 ≠ T) : Tx.Cur w' b s k := by
  refine h.grown hg ?_
  intro e1
  have e2 : b = g := Option.some.inj e1
  subst e2
  have := h.1
  rw [this] at ht
  simp only [Option.some.injEq, Obj.cells.injEq] at ht
  exact hne ht.2.1
theorem Tx.RCur.other {w w' : World} {b g : Nat} {s : ByteArray} {k : Nat} {cells : Array Value} {T : TypeId} {fz : Nat × Nat} (h : Tx.RCur w b s k) (hg : w.grownBy w' (some g)) (ht : w.heap[g]? = some (.cells cells T fz)) (hne : 28 ≠ T) : Tx.RCur w' b s k := by
  refine h.grown hg ?_
  intro e1
  have e2 : b = g := Option.some.inj e1
  subst e2
  have := h.1
  rw [this] at ht
  simp only [Option.some.injEq, Obj.cells.injEq] at ht
  exact hne ht.2.1
theorem Tx.Cus.below {B : Nat} {w w' : World} {cs : List Tx.Cs} (h : Tx.Cus B w cs) (hb : Below w.heap.size w w') : Tx.Cus B w' cs :=
  ⟨fun c hc => ⟨(h.cur c hc).1.below hb (h.cur c hc).1.lt, (h.cur c hc).2.1.below hb (h.cur c hc).2.1.lt, (h.cur c hc).2.2⟩, h.lnk⟩
/-- A row turned: the cursors did not. -/
theorem Tx.Cus.row {B : Nat} {w w' : World} {cs : List Tx.Cs} {g : Nat} {cells : Array Value} {T : TypeId} {fz : Nat × Nat} (h : Tx.Cus B w cs) (hg : w.grownBy w' (some g)) (ht : w.heap[g]? = some (.cells cells T fz)) (h1 : 46 ≠ T) (h2 : 28 ≠ T) : Tx.Cus B w' cs :=
  ⟨fun c hc => ⟨(h.cur c hc).1.other hg ht h1, (h.cur c hc).2.1.other hg ht h2, (h.cur c hc).2.2⟩, h.lnk⟩
theorem Tx.Cur.inj {w : World} {b : Nat} {s t : ByteArray} {k q : Nat} (h : Tx.Cur w b s k) (h' : Tx.Cur w b t q) : s = t ∧ k = q := by
  have e := h.1.symm.trans h'.1
  simp only [Option.some.injEq, Obj.cells.injEq, Array.mk.injEq, List.cons.injEq, Value.string.injEq, Value.int.injEq] at e
  exact ⟨e.1.1, by omega⟩
/-- The pair at c's blocks goes on to k'. -/
def Tx.upd (c : Tx.Cs) (k' : Nat) (cs : List Tx.Cs) : List Tx.Cs := cs.map fun d => if d.bx = c.bx then { d with k := k' } else d
theorem Tx.upd_len (c : Tx.Cs) (k' : Nat) (cs : List Tx.Cs) : (Tx.upd c k' cs).length = cs.length := by simp [Tx.upd]
theorem Tx.upd_bx (c : Tx.Cs) (k' : Nat) (cs : List Tx.Cs) : (Tx.upd c k' cs).map (fun d => Tx.ptr d.bx) = cs.map fun d => Tx.ptr d.bx := by
  simp only [Tx.upd, List.map_map]
  apply List.map_congr_left
  intro d _
  simp only [Function.comp]
  split <;> rfl
theorem Tx.upd_by (c : Tx.Cs) (k' : Nat) (cs : List Tx.Cs) : (Tx.upd c k' cs).map (fun d => Tx.ptr d.by') = cs.map fun d => Tx.ptr d.by' := by
  simp only [Tx.upd, List.map_map]
  apply List.map_congr_left
  intro d _
  simp only [Function.comp]
  split <;> rfl
theorem Tx.OwnX.upd {w : World} {B : Nat} {v : Value} {cs : List Tx.Cs} (h : Tx.OwnX w B v cs) (c : Tx.Cs) (k' : Nat) : Tx.OwnX w B v (Tx.upd c k' cs) := by
  unfold Tx.OwnX; rw [Tx.upd_len, Tx.upd_bx]; exact h
theorem Tx.OwnY.upd {w : World} {B : Nat} {v : Value} {cs : List Tx.Cs} (h : Tx.OwnY w B v cs) (c : Tx.Cs) (k' : Nat) : Tx.OwnY w B v (Tx.upd c k' cs) := by
  unfold Tx.OwnY; rw [Tx.upd_len, Tx.upd_by]; exact h
theorem Tx.Cus.step {B : Nat} {w w1 w2 : World} {cs : List Tx.Cs} {c : Tx.Cs} {k' : Nat} (h : Tx.Cus B w cs) (hc : c ∈ cs) (g1 : w.grownBy w1 (some c.bx)) (c1 : Tx.Cur w1 c.bx c.s k') (g2 : w1.grownBy w2 (some c.by')) (c2 : Tx.RCur w2 c.by' c.s k') : Tx.Cus B w2 (Tx.upd c k' cs) := by
  have hcc := h.cur c hc
  refine ⟨fun d' hd' => ?_, fun d' hd' e' he' => ?_⟩
  · obtain ⟨d, hd, rfl⟩ := List.mem_map.1 hd'
    have hdd := h.cur d hd
    by_cases hb : d.bx = c.bx
    · rw [if_pos hb]
      have hby := (h.lnk d hd c hc).1 hb
      have hs : d.s = c.s := (Tx.Cur.inj (by rw [← hb] ; exact hdd.1 : Tx.Cur w c.bx d.s d.k) hcc.1).1
      refine ⟨?_, ?_, hdd.2.2⟩
      · show Tx.Cur w2 d.bx d.s k'
        rw [hb, hs]
        exact c1.other g2 (hcc.2.1.grown g1 (by
          intro e1
          have e2 : c.by' = c.bx := Option.some.inj e1
          have := hcc.2.1.1
          rw [e2, hcc.1.1] at this
          simp at this)).1 (by decide)
      · show Tx.RCur w2 d.by' d.s k'
        rw [hby, hs]
        exact c2
    · rw [if_neg hb]
      have hby : d.by' ≠ c.by' := fun e => hb ((h.lnk d hd c hc).2 e)
      refine ⟨?_, ?_, hdd.2.2⟩
      · have d1 := hdd.1.grown g1 (by simpa using hb)
        exact d1.other g2 (hcc.2.1.other g1 hcc.1.1 (by decide)).1 (by decide)
      · exact (hdd.2.1.other g1 hcc.1.1 (by decide)).grown g2 (by simpa using hby)
  · obtain ⟨d, hd, rfl⟩ := List.mem_map.1 hd'
    obtain ⟨e, he, rfl⟩ := List.mem_map.1 he'
    have := h.lnk d hd e he
    split <;> split <;> simpa using this
theorem Tx.Cus.push {B : Nat} {w : World} {cs : List Tx.Cs} (h : Tx.Cus B w cs) (b e : Nat) (t : ByteArray) (q : Nat) (c1 : Tx.Cur w b t q) (c2 : Tx.RCur w e t q) (ht : t.size ≤ 140737488355328) (hB1 : B ≤ b) (hB2 : B ≤ e) (hb : ∀ c ∈ cs, c.bx ≠ b) (he : ∀ c ∈ cs, c.by' ≠ e) : Tx.Cus B w (cs ++ [⟨b, e, t, q⟩]) := by
  refine ⟨fun c hc => ?_, fun c hc d hd => ?_⟩
  · rcases List.mem_append.1 hc with h1 | h1
    · exact h.cur c h1
    · rw [List.mem_singleton.1 h1]; exact ⟨c1, c2, ht, hB1, hB2⟩
  · rcases List.mem_append.1 hc with h1 | h1
    · rcases List.mem_append.1 hd with h2 | h2
      · exact h.lnk c h1 d h2
      · rw [List.mem_singleton.1 h2]
        exact ⟨fun e1 => absurd e1 (hb c h1), fun e1 => absurd e1 (he c h1)⟩
    · rw [List.mem_singleton.1 h1]
      rcases List.mem_append.1 hd with h2 | h2
      · exact ⟨fun e1 => absurd e1.symm (hb d h2), fun e1 => absurd e1.symm (he d h2)⟩
      · rw [List.mem_singleton.1 h2]; simp
theorem Tx.OwnX.cell {w : World} {B g cap j n : Nat} {cs : List Tx.Cs} {c : Tx.Cs} (h : Tx.OwnX w B (.slice (some ⟨g, 0, none⟩) n cap) cs) (hj : cs[j]? = some c) : w.cell? ⟨g, j, none⟩ = some (.pointer (some ⟨c.bx, 0, none⟩)) := by
  have := World.ownsRow.cells h (g := g) rfl j (Tx.ptr c.bx) (by simp [hj])
  have ea : ((⟨g, 0, none⟩ : Addr).add j) = ⟨g, j, none⟩ := by unfold Addr.add; split <;> simp_all
  rw [ea] at this
  exact this
theorem Tx.OwnY.cell {w : World} {B g cap j n : Nat} {cs : List Tx.Cs} {c : Tx.Cs} (h : Tx.OwnY w B (.slice (some ⟨g, 0, none⟩) n cap) cs) (hj : cs[j]? = some c) : w.cell? ⟨g, j, none⟩ = some (.pointer (some ⟨c.by', 0, none⟩)) := by
  have := World.ownsRow.cells h (g := g) rfl j (Tx.ptr c.by') (by simp [hj])
  have ea : ((⟨g, 0, none⟩ : Addr).add j) = ⟨g, j, none⟩ := by unfold Addr.add; split <;> simp_all
  rw [ea] at this
  exact this
theorem Tx.OwnX.form {w : World} {B : Nat} {v : Value} {cs : List Tx.Cs} (h : Tx.OwnX w B v cs) (n : Nat) (hn : cs.length = n) (h1 : 1 ≤ n) : ∃ g cap cells, v = .slice (some ⟨g, 0, none⟩) n cap ∧ B ≤ g ∧ w.heap[g]? = some (.cells cells 23 (0, 0)) := by
  subst hn
  rcases h.2 with ⟨_, h0⟩ | ⟨g, cap, cur, hv, hb, hg, _⟩
  · omega
  · exact ⟨g, cap, cur, hv, hb, hg⟩
theorem Tx.OwnY.form {w : World} {B : Nat} {v : Value} {cs : List Tx.Cs} (h : Tx.OwnY w B v cs) (n : Nat) (hn : cs.length = n) (h1 : 1 ≤ n) : ∃ g cap cells, v = .slice (some ⟨g, 0, none⟩) n cap ∧ B ≤ g ∧ w.heap[g]? = some (.cells cells 26 (0, 0)) := by
  subst hn
  rcases h.2 with ⟨_, h0⟩ | ⟨g, cap, cur, hv, hb, hg, _⟩
  · omega
  · exact ⟨g, cap, cur, hv, hb, hg⟩
theorem Tx.infoX : (Tryd.prog.info? 23).map (fun i => (i.zero, i.size, i.bytes)) = some (some (.pointer none), 1, 8) := by kernel_rfl
theorem Tx.infoY : (Tryd.prog.info? 26).map (fun i => (i.zero, i.size, i.bytes)) = some (some (.pointer none), 1, 8) := by kernel_rfl
section
variable {w : World} {ops : Array Oper} {rest : List Oper} {o : Oper} {a : Act} {Q : Exit → Act → World → Prop}
theorem Tx.appendPX (hg : o.guard = none) (s x : Operand) (hop : o.op = .call { callee := .builtin .append, args := #[s, x], argTypes := #[25, 25] }) (B : Nat) (v : Value) (cs : List Tx.Cs) (hs : a.eval s = v) (hown : Tx.OwnX w B v cs)
    (ad : Addr) (c : Nat) (d : Nat) (hx : a.eval x = .slice (some ad) 1 c) (hnew : w.cell? ad = some (.pointer (some ⟨d, 0, none⟩))) (hlen : cs.length + 1 ≤ 17592186044416) (hB : B ≤ w.heap.size)
    (hK : ∀ v' w', (∀ e t q, Tx.OwnX w' B v' (cs ++ [⟨d, e, t, q⟩])) → w.grownBy w' v.ownBlock → wpList Tryd.prog ops Q rest (a.put o.dst v') w') : wpList Tryd.prog ops Q (o :: rest) a w := by
  obtain ⟨i0, hi, hz0, hz1, hz2⟩ := info_parts Tx.infoX
  refine wpList_append_own w hg s x 25 hop B 23 i0 (.pointer none) 1 8 Tryd.underlying25 hi hz0 hz1 hz2 rfl (by decide) v cs.length (cs.map fun (z : Tx.Cs) => Tx.ptr z.bx) hs hown ad 1 c [Tx.ptr d] hx rfl ?_ (by intro u hu; rw [List.mem_singleton.1 hu]; rfl) (by unfold maxLen; omega) (by omega) hB ?_
  · intro j u hu
    match j with
    | 0 =>
      have ea : ad.add 0 = ad := by unfold Addr.add; split <;> simp_all
      rw [ea, hnew]
      simpa [Tx.ptr] using hu
    | j + 1 => simp at hu
  · intro v' w' h1 h2 _
    exact hK v' w' (fun e t q => by simpa [Tx.OwnX] using h1) h2
theorem Tx.appendPY (hg : o.guard = none) (s x : Operand) (hop : o.op = .call { callee := .builtin .append, args := #[s, x], argTypes := #[29, 29] }) (B : Nat) (v : Value) (cs : List Tx.Cs) (hs : a.eval s = v) (hown : Tx.OwnY w B v cs)
    (ad : Addr) (c : Nat) (d : Nat) (hx : a.eval x = .slice (some ad) 1 c) (hnew : w.cell? ad = some (.pointer (some ⟨d, 0, none⟩))) (hlen : cs.length + 1 ≤ 17592186044416) (hB : B ≤ w.heap.size)
    (hK : ∀ v' w', (∀ e t q, Tx.OwnY w' B v' (cs ++ [⟨e, d, t, q⟩])) → w.grownBy w' v.ownBlock → wpList Tryd.prog ops Q rest (a.put o.dst v') w') : wpList Tryd.prog ops Q (o :: rest) a w := by
  obtain ⟨i0, hi, hz0, hz1, hz2⟩ := info_parts Tx.infoY
  refine wpList_append_own w hg s x 29 hop B 26 i0 (.pointer none) 1 8 Tryd.underlying29 hi hz0 hz1 hz2 rfl (by decide) v cs.length (cs.map fun (z : Tx.Cs) => Tx.ptr z.by') hs hown ad 1 c [Tx.ptr d] hx rfl ?_ (by intro u hu; rw [List.mem_singleton.1 hu]; rfl) (by unfold maxLen; omega) (by omega) hB ?_
  · intro j u hu
    match j with
    | 0 =>
      have ea : ad.add 0 = ad := by unfold Addr.add; split <;> simp_all
      rw [ea, hnew]
      simpa [Tx.ptr] using hu
    | j + 1 => simp at hu
  · intro v' w' h1 h2 _
    exact hK v' w' (fun e t q => by simpa [Tx.OwnY] using h1) h2
end
theorem Tx.blk_other {w w' : World} {b g : Nat} {c c' : Array Value} {T T' : TypeId} {f f' : Nat × Nat} (hb : w.heap[b]? = some (.cells c T f)) (hg : w.grownBy w' (some g)) (ht : w.heap[g]? = some (.cells c' T' f')) (hne : T ≠ T') : w'.heap[b]? = some (.cells c T f) := by
  rw [hg.block b (Array.getElem?_eq_some_iff.1 hb).1 (by
    intro e1
    have e2 : b = g := Option.some.inj e1
    subst e2
    rw [hb] at ht
    simp only [Option.some.injEq, Obj.cells.injEq] at ht
    exact hne ht.2.1)]
  exact hb
theorem Tx.blk_below {w w' : World} {b : Nat} {o : Obj} (hb : w.heap[b]? = some o) (h : Below w.heap.size w w') : w'.heap[b]? = some o := (h.block b (Array.getElem?_eq_some_iff.1 hb).1).trans hb
/-- How all lies in a round. -/
structure Tx.Sit (w0 : World) (cs : List Tx.Cs) (N gx capx gy capy q8 : Nat) (on kd nn : Int) (W : World) : Prop where
  X : Tx.OwnX W w0.heap.size (.slice (some ⟨gx, 0, none⟩) N capx) cs
  Y : Tx.OwnY W w0.heap.size (.slice (some ⟨gy, 0, none⟩) N capy) cs
  S : Tx.Since w0 W
  q : W.heap[q8]? = some (.cells #[.int .i64 on, .int .i64 kd, .int .i64 nn] 32 (0, 0))
section
variable {w0 : World} {cs : List Tx.Cs} {N gx capx gy capy q8 : Nat} {on kd nn : Int} {W W' : World}
theorem Tx.Sit.below (h : Tx.Sit w0 cs N gx capx gy capy q8 on kd nn W) (hb : Below W.heap.size W W') : Tx.Sit w0 cs N gx capx gy capy q8 on kd nn W' :=
  ⟨Tx.row_below h.X hb (Nat.le_refl _), Tx.row_below h.Y hb (Nat.le_refl _), h.S.then hb, Tx.blk_below h.q hb⟩
theorem Tx.Sit.curX (h : Tx.Sit w0 cs N gx capx gy capy q8 on kd nn W) {b k : Nat} {s : ByteArray} (hc : Tx.Cur W b s k) (hb : w0.heap.size ≤ b) (h0 : Tx.Ok w0) (hg : W.grownBy W' (some b)) : Tx.Sit w0 cs N gx capx gy capy q8 on kd nn W' :=
  ⟨Tx.row_grown h.X hg hc.1 (by decide), Tx.row_grown h.Y hg hc.1 (by decide), Tx.Since.grown hg hb h0 h.S, Tx.blk_other h.q hg hc.1 (by decide)⟩
theorem Tx.Sit.curY (h : Tx.Sit w0 cs N gx capx gy capy q8 on kd nn W) {b k : Nat} {s : ByteArray} (hc : Tx.RCur W b s k) (hb : w0.heap.size ≤ b) (h0 : Tx.Ok w0) (hg : W.grownBy W' (some b)) : Tx.Sit w0 cs N gx capx gy capy q8 on kd nn W' :=
  ⟨Tx.row_grown h.X hg hc.1 (by decide), Tx.row_grown h.Y hg hc.1 (by decide), Tx.Since.grown hg hb h0 h.S, Tx.blk_other h.q hg hc.1 (by decide)⟩
theorem Tx.Sit.px (h : Tx.Sit w0 cs N gx capx gy capy q8 on kd nn W) {j : Nat} {c : Tx.Cs} (hj : cs[j]? = some c) : W.cell? ⟨gx, j, none⟩ = some (.pointer (some ⟨c.bx, 0, none⟩)) := h.X.cell hj
theorem Tx.Sit.py (h : Tx.Sit w0 cs N gx capx gy capy q8 on kd nn W) {j : Nat} {c : Tx.Cs} (hj : cs[j]? = some c) : W.cell? ⟨gy, j, none⟩ = some (.pointer (some ⟨c.by', 0, none⟩)) := h.Y.cell hj
theorem Tx.Sit.o1 (h : Tx.Sit w0 cs N gx capx gy capy q8 on kd nn W) : W.cell? ⟨q8, 1, none⟩ = some (.int .i64 kd) := by simp [World.cell?, h.q]
theorem Tx.Sit.o2 (h : Tx.Sit w0 cs N gx capx gy capy q8 on kd nn W) : W.cell? ⟨q8, 2, none⟩ = some (.int .i64 nn) := by simp [World.cell?, h.q]
end
/-- What a round leaves. -/
structure Tx.Left2 (w0 : World) (n : Nat) (vx vy : Value) (W : World) : Prop where
  mk ::
  out : ∃ cs : List Tx.Cs, 1 ≤ cs.length ∧ cs.length ≤ n + 2 ∧ Tx.OwnX W w0.heap.size vx cs ∧ Tx.OwnY W w0.heap.size vy cs ∧ Tx.Cus w0.heap.size W cs ∧ Tx.Since w0 W
theorem Tx.Sit.left {w0 : World} {cs : List Tx.Cs} {N gx capx gy capy q8 : Nat} {on kd nn : Int} {W : World} {n : Nat} (h : Tx.Sit w0 cs N gx capx gy capy q8 on kd nn W) (hu : Tx.Cus w0.heap.size W cs) (h1 : 1 ≤ cs.length) (h2 : cs.length ≤ n + 1) :
    Tx.Left2 w0 n (.slice (some ⟨gx, 0, none⟩) N capx) (.slice (some ⟨gy, 0, none⟩) N capy) W := ⟨cs, h1, by omega, h.X, h.Y, hu, h.S⟩
theorem Tx.Sit.left_upd {w0 : World} {cs : List Tx.Cs} {N gx capx gy capy q8 : Nat} {on kd nn : Int} {W : World} {n : Nat} {c : Tx.Cs} {k' : Nat} (h : Tx.Sit w0 cs N gx capx gy capy q8 on kd nn W) (hu : Tx.Cus w0.heap.size W (Tx.upd c k' cs)) (h1 : 1 ≤ cs.length) (h2 : cs.length ≤ n + 1) :
    Tx.Left2 w0 n (.slice (some ⟨gx, 0, none⟩) N capx) (.slice (some ⟨gy, 0, none⟩) N capy) W := ⟨Tx.upd c k' cs, by rw [Tx.upd_len]; exact h1, by rw [Tx.upd_len]; omega, h.X.upd c k', h.Y.upd c k', hu, h.S⟩

/-- The calls of a script, wherever they lie. -/
structure Tx.OpsAt (w : World) (a : Option Addr) (n : Nat) (l : List (Int × Int × Int)) : Prop where
  mk ::
  len : l.length = n
  out : n = 0 ∨ ∃ pb off, a = some ⟨pb, off, none⟩ ∧ ∀ W, Tx.Since w W → ∀ (j : Nat) o, l[j]? = some o → W.cell? ⟨pb, off + j * 3, none⟩ = some (.int .i64 o.1) ∧ W.cell? ⟨pb, off + j * 3 + 1, none⟩ = some (.int .i64 o.2.1) ∧ W.cell? ⟨pb, off + j * 3 + 2, none⟩ = some (.int .i64 o.2.2)
theorem Tx.OwnX.blk {w : World} {B g n cap : Nat} {cs : List Tx.Cs} (h : Tx.OwnX w B (.slice (some ⟨g, 0, none⟩) n cap) cs) : ∃ cells, w.heap[g]? = some (.cells cells 23 (0, 0)) := by
  rcases h.2 with ⟨h0, _⟩ | ⟨g', cap', cur, hv, hb, hg, _⟩
  · simp at h0
  · simp only [Value.slice.injEq, Option.some.injEq, Addr.mk.injEq] at hv
    obtain ⟨⟨rfl, _⟩, _⟩ := hv
    exact ⟨cur, hg⟩
theorem Tx.OwnY.blk {w : World} {B g n cap : Nat} {cs : List Tx.Cs} (h : Tx.OwnY w B (.slice (some ⟨g, 0, none⟩) n cap) cs) : ∃ cells, w.heap[g]? = some (.cells cells 26 (0, 0)) := by
  rcases h.2 with ⟨h0, _⟩ | ⟨g', cap', cur, hv, hb, hg, _⟩
  · simp at h0
  · simp only [Value.slice.injEq, Option.some.injEq, Addr.mk.injEq] at hv
    obtain ⟨⟨rfl, _⟩, _⟩ := hv
    exact ⟨cur, hg⟩
theorem Tx.upd_mem {c d : Tx.Cs} {k' : Nat} {cs : List Tx.Cs} (h : d ∈ Tx.upd c k' cs) : ∃ e ∈ cs, d.bx = e.bx ∧ d.by' = e.by' := by
  obtain ⟨e, he, rfl⟩ := List.mem_map.1 h
  refine ⟨e, he, ?_⟩
  split <;> exact ⟨rfl, rfl⟩
theorem Tx.Left2.push {w0 W : World} {n d e q : Nat} {vx vy : Value} {t : ByteArray} {cs : List Tx.Cs} (X : Tx.OwnX W w0.heap.size vx (cs ++ [⟨d, e, t, q⟩])) (Y : Tx.OwnY W w0.heap.size vy (cs ++ [⟨d, e, t, q⟩])) (U : Tx.Cus w0.heap.size W cs)
    (cd : Tx.Cur W d t q) (ce : Tx.RCur W e t q) (ht : t.size ≤ 140737488355328) (h1 : w0.heap.size ≤ d) (h2 : w0.heap.size ≤ e) (hb : ∀ c ∈ cs, c.bx ≠ d) (he : ∀ c ∈ cs, c.by' ≠ e) (S : Tx.Since w0 W) (hl : cs.length ≤ n + 1) : Tx.Left2 w0 n vx vy W :=
  ⟨_, by simp, by simp; omega, X, Y, U.push d e t q cd ce ht h1 h2 hb he, S⟩
/-- The two appends of a new pair of cursors, the reference's being made ahead of the first one (d, e lie in w1). -/
structure Tx.Pair (w0 : World) (cs : List Tx.Cs) (N gx capx gy capy : Nat) (d : Nat) (t : ByteArray) (q : Nat) (W : World) : Prop where
  X : Tx.OwnX W w0.heap.size (.slice (some ⟨gx, 0, none⟩) N capx) cs
  Y : Tx.OwnY W w0.heap.size (.slice (some ⟨gy, 0, none⟩) N capy) cs
  U : Tx.Cus w0.heap.size W cs
  S : Tx.Since w0 W
  D : Tx.Cur W d t q
  lo : w0.heap.size ≤ gx ∧ w0.heap.size ≤ gy ∧ w0.heap.size ≤ d ∧ w0.heap.size ≤ W.heap.size
  ne : ∀ c ∈ cs, c.bx ≠ d
theorem Tx.Pair.below {w0 : World} {cs : List Tx.Cs} {N gx capx gy capy d q : Nat} {t : ByteArray} {W W' : World} (h : Tx.Pair w0 cs N gx capx gy capy d t q W) (hb : Below W.heap.size W W') : Tx.Pair w0 cs N gx capx gy capy d t q W' :=
  ⟨Tx.row_below h.X hb (Nat.le_refl _), Tx.row_below h.Y hb (Nat.le_refl _), h.U.below hb, h.S.then hb, h.D.below hb h.D.lt, ⟨h.lo.1, h.lo.2.1, h.lo.2.2.1, Nat.le_trans h.lo.2.2.2 hb.size⟩, h.ne⟩
theorem Tx.Pair.alloc {w0 : World} {cs : List Tx.Cs} {N gx capx gy capy d q : Nat} {t : ByteArray} {W : World} (h : Tx.Pair w0 cs N gx capx gy capy d t q W) (o : Obj) : Tx.Pair w0 cs N gx capx gy capy d t q (W.alloc o) := h.below ((Below.refl _ _).alloc (Nat.le_refl _) o)
/-- Behind the append to the first row. -/
theorem Tx.Pair.afterX {w0 : World} {cs : List Tx.Cs} {N gx capx gy capy d q : Nat} {t : ByteArray} {W W' : World} (h : Tx.Pair w0 cs N gx capx gy capy d t q W) (h0 : Tx.Ok w0) (hg : W.grownBy W' (Value.slice (some ⟨gx, 0, none⟩) N capx).ownBlock) :
    Tx.OwnY W' w0.heap.size (.slice (some ⟨gy, 0, none⟩) N capy) cs ∧ Tx.Cus w0.heap.size W' cs ∧ Tx.Since w0 W' ∧ Tx.Cur W' d t q := by
  obtain ⟨cells, hc⟩ := h.X.blk
  have hg' : W.grownBy W' (some gx) := hg
  exact ⟨Tx.row_grown h.Y hg' hc (by decide), h.U.row hg' hc (by decide) (by decide), Tx.Since.grown hg' h.lo.1 h0 h.S, h.D.other hg' hc (by decide)⟩
/-- Behind the append to the second row. -/
theorem Tx.afterY {w0 : World} {cs cs' : List Tx.Cs} {N gy capy d q : Nat} {t : ByteArray} {vx : Value} {W W' : World} (h0 : Tx.Ok w0) (X : Tx.OwnX W w0.heap.size vx cs') (Y : Tx.OwnY W w0.heap.size (.slice (some ⟨gy, 0, none⟩) N capy) cs) (U : Tx.Cus w0.heap.size W cs) (S : Tx.Since w0 W) (D : Tx.Cur W d t q) (hgy : w0.heap.size ≤ gy)
    (hg : W.grownBy W' (Value.slice (some ⟨gy, 0, none⟩) N capy).ownBlock) : Tx.OwnX W' w0.heap.size vx cs' ∧ Tx.Cus w0.heap.size W' cs ∧ Tx.Since w0 W' ∧ Tx.Cur W' d t q ∧ ∀ e t' q', Tx.RCur W e t' q' → Tx.RCur W' e t' q' := by
  obtain ⟨cells, hc⟩ := Y.blk
  have hg' : W.grownBy W' (some gy) := hg
  exact ⟨Tx.row_grown X hg' hc (by decide), U.row hg' hc (by decide) (by decide), Tx.Since.grown hg' hgy h0 S, D.other hg' hc (by decide), fun e t' q' h => h.other hg' hc (by decide)⟩
end Go.Proofs.YtbemgeicpbcdhaaDoor
