/- The reference's kinds: Of. -/
import Derived.Test.YthlecdggkolgmaaGreatDoorRfI
import Derived.Test.YthlecdggkolgmaaGreatDoorHsW
import Derived.Deep.AppendLies
import Derived.Great.BuildSlice
namespace Go.Proofs.YthlecdggkolgmaaGreatDoor
open Go.RowKit

def Rf.n3 (t : Nat × Nat × Nat) : List Value := [.int .i64 (t.1 : Int), .int .i64 (t.2.1 : Int), .int .i64 (t.2.2 : Int)]
/-- A Kind's cells. -/
def Rf.kc (κ : Nat) (vK vF : Value) : Array Value := ([Value.int .i64 ((Hs.K κ).n : Int), Value.int .i64 ((Hs.K κ).rounds : Int), Value.int .i64 (((Hs.K κ).nn * (Hs.K κ).wb : Nat) : Int)] ++ Rf.n3 (Hs.K κ).a ++ Rf.n3 (Hs.K κ).b ++ Rf.n3 (Hs.K κ).c ++ Rf.n3 (Hs.K κ).d ++ [vK, vF]).toArray
theorem Rf.kc_size (κ : Nat) (vK vF : Value) : (Rf.kc κ vK vF).size = 17 := by simp [Rf.kc, Rf.n3]
def Rf.zk : Array Value := ((List.replicate 15 (Value.int .i64 0)) ++ [Value.slice none 0 0, Value.slice none 0 0]).toArray
theorem Rf.infoKz : (Tryz.prog.info? 61).map (fun i => (i.zero, i.size)) = some (some (.agg Rf.zk), 17) := by kernel_rfl
theorem Rf.zeroK (w : World) : (zeroValue 61).run Tryz.prog w = .ok (.agg Rf.zk) w := (zero_of_info Rf.infoKz).1 w
/-- The constants of a kind, rounded to its width. -/
def Rf.kk (κ j : Nat) : Nat := Hs.rk.getD j 0 / 2 ^ (64 - (Hs.K κ).n)
def Rf.c (κ : Nat) : Nat := (Hs.K κ).n / 16
theorem Rf.rootK (w : World) (κ i : Nat) (hκ : κ < 2) (hi : i < (Hs.K κ).rounds) :
    Calls Tryz.prog 51 #[.int .u64 (Rf.ps.getD i 0 : Nat), .int .i64 3, .int .i64 ((Hs.K κ).n : Int)] w fun e w' => e = .returned (.int .u64 (Rf.kk κ i : Int)) ∧ Below w.heap.size w w' := by
  have h : κ = 0 ∨ κ = 1 := by omega
  rcases h with rfl | rfl
  · have hi2 : i < 64 := hi
    exact Rf.root_ps w i 3 2 (Rf.kk 0 i) (by omega) (by omega) (by omega) (by omega) (by omega) (List.all_eq_true.1 Rf.ok_k0 i (List.mem_range.2 hi2))
  · have hi2 : i < 80 := hi
    have e : Rf.kk 1 i = Hs.rk.getD i 0 := Nat.div_one _
    rw [e]
    exact Rf.root_ps w i 3 4 (Hs.rk.getD i 0) (by omega) (by omega) (by omega) (by omega) (by omega) (List.all_eq_true.1 Rf.ok_k1 i (List.mem_range.2 hi2))
theorem Rf.rootF (w : World) (κ i : Nat) (hκ : κ < 2) (hi : i < 8) :
    Calls Tryz.prog 51 #[.int .u64 (Rf.ps.getD (8 * κ + i) 0 : Nat), .int .i64 2, .int .i64 ((Hs.K κ).n : Int)] w fun e w' => e = .returned (.int .u64 ((Hs.first κ).get i : Int)) ∧ Below w.heap.size w w' := by
  have h : κ = 0 ∨ κ = 1 := by omega
  rcases h with rfl | rfl
  · have e : 8 * 0 + i = i := by omega
    rw [e]
    exact Rf.root_ps w i 2 2 ((Hs.first 0).get i) (by omega) (by omega) (by omega) (by omega) (by omega) (List.all_eq_true.1 Rf.ok_h0 i (List.mem_range.2 hi))
  · exact Rf.root_ps w (8 + i) 2 4 ((Hs.first 1).get i) (by omega) (by omega) (by omega) (by omega) (by omega) (List.all_eq_true.1 Rf.ok_h1 i (List.mem_range.2 hi))
/-- How the memory lies while a kind is made: what is told, the kind, the primes. -/
structure Rf.OfS (w0 w5 : World) (q k B κ : Nat) (g : Nat) (vK vF : Value) (W : World) : Prop where
  res : W.heap[q]? = some (.cells Rf.zk 61 (0, 0))
  kb : W.heap[k]? = some (.cells (Rf.kc κ vK vF) 61 (0, 0))
  pr : Rf.Dig W g 80 (fun j => Rf.ps.getD j 0)
  b : Below q w0 W
  qk : q < k
  kg : k < g
  gB : g < B
  hi : B ≤ W.heap.size
  keep : ∀ b, b < B → b ≠ k → W.heap[b]? = w5.heap[b]?
theorem Rf.OfS.below {w0 w5 W W' : World} {q k B κ g C : Nat} {vK vF : Value} (h : Rf.OfS w0 w5 q k B κ g vK vF W) (hb : Below C W W') (hC : B ≤ C) : Rf.OfS w0 w5 q k B κ g vK vF W' := by
  have h1 := h.qk
  have h2 := h.kg
  have h3 := h.gB
  exact ⟨(hb.block q (by omega)).trans h.res, (hb.block k (by omega)).trans h.kb, h.pr.below hb (by omega), h.b.trans (hb.mono (by omega)), h1, h2, h3, Nat.le_trans h.hi hb.size, fun b hb1 hb2 => (hb.block b (by omega)).trans (h.keep b hb1 hb2)⟩
theorem Rf.kc_setK (κ : Nat) (vK vF v : Value) : (Rf.kc κ vK vF).setIfInBounds 15 v = Rf.kc κ v vF := by simp [Rf.kc, Rf.n3]
theorem Rf.kc_setF (κ : Nat) (vK vF v : Value) : (Rf.kc κ vK vF).setIfInBounds 16 v = Rf.kc κ vK v := by simp [Rf.kc, Rf.n3]
theorem Rf.set_block (W : World) (b j : Nat) (C : Array Value) (T : TypeId) (v : Value) (h : W.heap[b]? = some (.cells C T (0, 0))) : (W.setCell ⟨b, j, none⟩ v).heap[b]? = some (.cells (C.setIfInBounds j v) T (0, 0)) := by
  simp [World.setCell, Array.getElem?_modify, h]
theorem Rf.set_dig {W : World} {b j g n : Nat} {f : Nat → Nat} {v : Value} (h : Rf.Dig W g n f) (hb : g ≠ b) : Rf.Dig (W.setCell ⟨b, j, none⟩ v) g n f :=
  ⟨fun i hi => (World.cell?_setCell_other _ _ _ _ (fun e => hb (by simpa using (congrArg Addr.block e).symm))).trans (h.cell i hi), by simpa [World.setCell] using h.lt⟩
theorem Rf.OfS.setAny {w0 w5 W : World} {q k B κ g : Nat} {vK vF : Value} (h : Rf.OfS w0 w5 q k B κ g vK vF W) (j : Nat) (v : Value) (uK uF : Value) (e : (Rf.kc κ vK vF).setIfInBounds j v = Rf.kc κ uK uF) : Rf.OfS w0 w5 q k B κ g uK uF (W.setCell ⟨k, j, none⟩ v) := by
  have h1 := h.qk
  have h2 := h.kg
  refine ⟨(Hs.heap_set W _ _ q (by show q ≠ k; omega)).trans h.res, ?_, Rf.set_dig h.pr (by omega), h.b.trans ?_, h1, h2, h.gB, by simpa [World.setCell] using h.hi, fun b hb1 hb2 => (Hs.heap_set W _ _ b hb2).trans (h.keep b hb1 hb2)⟩
  · rw [← e]; exact Rf.set_block W _ _ _ _ _ h.kb
  · exact ⟨rfl, rfl, rfl, by simp [World.setCell], fun b hb => Hs.heap_set W _ _ b (by show b ≠ k; omega)⟩
theorem Rf.OfS.kcell {w0 w5 W : World} {q k B κ g : Nat} {vK vF : Value} (h : Rf.OfS w0 w5 q k B κ g vK vF W) (j : Nat) (v : Value) (e : (Rf.kc κ vK vF)[j]? = some v) : W.cell? ⟨k, j, none⟩ = some v := (cell_of_row W k j _ _ _ h.kb).trans e
theorem Rf.Dig.to {w w' : World} {b n : Nat} {f : Nat → Nat} (h : Rf.Dig w b n f) (e : w'.heap[b]? = w.heap[b]?) : Rf.Dig w' b n f := by
  refine ⟨fun j hj => ?_, ?_⟩
  · have := h.cell j hj
    simp only [World.cell?, e] at this ⊢
    exact this
  · have h1 := h.lt
    rcases Nat.lt_or_ge b w'.heap.size with h2 | h2
    · exact h2
    · rw [Array.getElem?_eq_none h2, Array.getElem?_eq_getElem h1] at e
      simp at e
/-- Two results, the first a struct in memory. -/
theorem Rf.results_two {P : Program} {fn : Func} {p t : Tmp} {ty : TypeId} (h : fn.results = #[.cell p ty, .tmp t]) (tmps : Array Value) (w : World) (g : Nat) (T : TypeId) (cs : Array Value) (fr : Nat × Nat) (d : TypeDesc) (v : Value)
    (hp : tmps.getD p undef = .pointer (some ⟨g, 0, none⟩)) (ht : tmps.getD t undef = v) (hg : w.heap[g]? = some (.cells cs T fr))
    (hu : P.underlying ty = some d) (hd : (match d with | .struct _ | .array _ _ => true | _ => false) = true) (hi : (P.info? ty).map (·.size) = some cs.size) :
    (results fn tmps).run P w = .ok (.tuple #[.agg cs, v]) w := by
  have hp' : tmps[p]?.getD undef = .pointer (some ⟨g, 0, none⟩) := by simpa using hp
  have ht' : tmps[t]?.getD undef = v := by simpa using ht
  simp [results, h, hp', ht', asAddr, run_loadVar_row w g T ty cs fr d hg hu hd hi]
theorem Rf.OwnQ.below {w w' : World} {B C : Nat} {v : Value} {l : List Nat} (h : Rf.OwnQ w B v l) (hb : Below C w w') (hB : w.heap.size ≤ C) : Rf.OwnQ w' B v l := by
  refine ⟨h.1, ?_⟩
  rcases h.2 with hn | ⟨g, cap, cur, rfl, hg, hgg, rest⟩
  · exact .inl hn
  · refine .inr ⟨g, cap, cur, rfl, hg, ?_, rest⟩
    rw [hb.block g (Nat.lt_of_lt_of_le (Array.getElem?_eq_some_iff.1 hgg).1 hB)]
    exact hgg
theorem Rf.OwnQ.set {w : World} {B b j : Nat} {v x : Value} {l : List Nat} (h : Rf.OwnQ w B v l) (hb : b < B) : Rf.OwnQ (w.setCell ⟨b, j, none⟩ x) B v l := by
  refine ⟨h.1, ?_⟩
  rcases h.2 with hn | ⟨g, cap, cur, rfl, hg, hgg, rest⟩
  · exact .inl hn
  · refine .inr ⟨g, cap, cur, rfl, hg, ?_, rest⟩
    rw [Hs.heap_set w _ _ g (by show g ≠ b; omega)]
    exact hgg
theorem Rf.OwnQ.nil (w : World) (B : Nat) : Rf.OwnQ w B (.slice none 0 0) [] := World.ownsRow_nil w B _ _
/-- append as a step of a region that draws its order. -/
theorem Rf.append_step {w : World} {ops : Array Oper} {o : Oper} {a : Act} {Q : Exit → Act → World → Prop} {K : Act → World → Prop} {E : Prop} (hg : o.guard = none) (s x : Operand) (hop : o.op = .call { callee := .builtin .append, args := #[s, x], argTypes := #[48, 48] }) (B : Nat) (v : Value) (l : List Nat) (hs : a.eval s = v) (hown : Rf.OwnQ w B v l)
    (ad : Addr) (c : Nat) (bs : List Nat) (hx : a.eval x = .slice (some ad) bs.length c) (hnew : ∀ j u, (bs.map Rf.qv)[j]? = some u → w.cell? (ad.add j) = some u) (hp : 0 < bs.length) (hlen : l.length + bs.length ≤ 1000000) (hB : B ≤ w.heap.size)
    (hK : ∀ v' w', Rf.OwnQ w' B v' (l ++ bs) → Below B w w' → B ≤ w'.heap.size → K (a.put o.dst v') w') : if Region.wanted o (yielded ops a.tmps) = true then Oper.wp Tryz.prog o a w K Q else E := by
  obtain ⟨i0, hi, hz0, hz1, hz2⟩ := info_parts Rf.info64
  refine step_append_lies w hg s x 48 hop B 76 i0 (.int .u64 0) 1 8 Tryz.underlying48 hi hz0 hz1 hz2 rfl (by decide) v l.length (l.map Rf.qv) hs hown ad bs.length c (bs.map Rf.qv) hx (by simp) hnew (by intro u hu; obtain ⟨b, _, rfl⟩ := List.mem_map.1 hu; rfl) hp (by unfold maxLen; omega) (by omega) hB w.heap.size rfl ?_
  intro g cap w' h1 h2 _ _
  refine hK _ w' ?_ ((Below.refl _ _).grown h2 hB fun k hk => (World.ownsRow.lt hown k hk).1) (Nat.le_trans hB h2.size)
  simpa [Rf.OwnQ] using h1
/-- A number read out of a row, in a region that draws. -/
theorem Rf.takeQ {ops : Array Oper} {S : World → Prop} {op : Oper} {a : Act} (hw : Region.wanted op (yielded ops a.tmps) = true) (x : Operand) (ho : op.op = .load 76 x)
    (g j : Nat) (hx : a.eval x = .pointer (some ⟨g, j, none⟩)) (v : Nat) (hS : ∀ W, S W → W.cell? ⟨g, j, none⟩ = some (.int .u64 (v : Int))) : YieldsIf Tryz.prog ops S op (.int .u64 (v : Int)) a := by
  refine .inl ⟨hw, fun W hW => ?_⟩
  have := hS W hW
  unfold execOp
  simp only [ho, hx, Instr.loadAt, Instr.sureAddr, Sem.run_bind, Sem.run_pure, Result.andThen_ok]
  simp [this, go_sem]
section
variable {w : World} {o : Oper} {a : Act} {Q : Exit → Act → World → Prop} {K : Act → World → Prop}
/-- A slice of numbers is read out of a cell. -/
theorem Rf.wp_load (x : Operand) (ho : o.op = .load 48 x) {p : Addr} (hx : a.eval x = .pointer (some p)) (v : Value) (hc : w.cell? p = some v) (hk : K (a.put o.dst v) w) : Oper.wp Tryz.prog o a w K Q := by
  unfold Oper.wp execOp
  simp only [ho, hx, Instr.loadAt, Instr.sureAddr, Sem.run_bind, Sem.run_pure, Result.andThen_ok]
  simp [hc, go_sem]
  exact hk
theorem Rf.wp_store (x y : Operand) (ho : o.op = .store 48 x y) {p : Addr} (hx : a.eval x = .pointer (some p)) {u : Value} {sa : Option Addr} {n c : Nat} (hy : a.eval y = .slice sa n c) (hc : w.cell? p = some u) (hf : w.frozen? p = false) (hk : K (a.put o.dst undef) (w.setCell p (.slice sa n c))) : Oper.wp Tryz.prog o a w K Q := by
  unfold Oper.wp execOp
  simp only [ho, hx, hy]
  simp [hc, hf, go_sem]
  exact hk
theorem Rf.frozen_of {b j : Nat} {C : Array Value} {T : TypeId} (h : w.heap[b]? = some (.cells C T (0, 0))) : w.frozen? ⟨b, j, none⟩ = false := by
  simp [World.frozen?, h]
/-- []uint64{n}. -/
theorem Rf.wp_one (x : Operand) (ho : o.op = .buildSlice 48 1 #[(0, x)]) {n : Nat} (hx : a.eval x = .int .u64 (n : Int))
    (hk : ∀ (w' : World) (g : Nat), (∀ j u, ([n].map Rf.qv)[j]? = some u → w'.cell? ((⟨g, 0, none⟩ : Addr).add j) = some u) → Below w.heap.size w w' → K (a.put o.dst (.slice (some ⟨g, 0, none⟩) 1 1)) w') : Oper.wp Tryz.prog o a w K Q := by
  obtain ⟨i0, hi, hz0, hz1, hz2⟩ := info_parts Rf.info64
  refine wp_buildSlice 48 76 1 #[(0, x)] ho #[.int .u64 (n : Int)] i0 (.int .u64 0) Tryz.underlying48 hi hz0 (by rw [hz1]; decide) (by rw [hz1]; decide) ?_ ?_
  · rw [hz1]
    simp only [List.map_toArray, List.map_cons, List.map_nil, hx]
    kernel_rfl
  · exact hk _ _ (World.news_of_block (heap_alloc_new _ _)) ((Below.refl _ _).alloc (Nat.le_refl _) _)
end
end Go.Proofs.YthlecdggkolgmaaGreatDoor
