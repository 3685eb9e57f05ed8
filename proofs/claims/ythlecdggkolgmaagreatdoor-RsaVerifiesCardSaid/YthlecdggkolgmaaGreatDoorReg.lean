/- A region that draws its order: the head reads, or calls what makes memory alone; the tail goes in the order of the text. -/
import Derived.StillTail
import Derived.Lib.QuietBelow
import Derived.BigQuiet
import Derived.Below
import Derived.WalkSmall
import Derived.Laws.Rows
namespace Go.Proofs.YthlecdggkolgmaaGreatDoor
open Go.RowKit

section
variable {P : Program} {ops : Array Oper} {md : Region.Mode} {C : World → Prop}
/-- The head, whichever of it comes up; behind it L. -/
def Rg.any (P : Program) (md : Region.Mode) (ops : Array Oper) (C : World → Prop) (n : Nat) (L : Array Bool → Act → Prop) : Nat → Array Bool → Act → Prop
  | 0,listed,a => L listed a
  | f + 1,listed,a => Region.ready md ops listed ≠ [] ∧ ∀ i ∈ Region.ready md ops listed,i < n ∧ qOp P ops C i (Rg.any P md ops C n L f (listed.setIfInBounds i true)) a
theorem Rg.down {n g : Nat} {L : Array Bool → Act → Prop} {Q' : Exit → Act → World → Prop} (hL : ∀ listed a w,C w → L listed a → wpAny P md ops Q' g listed a w) :
    ∀ (f : Nat) (listed : Array Bool) (a : Act) (w : World),C w → Rg.any P md ops C n L f listed a → wpAny P md ops Q' (f + g) listed a w
  | 0,listed,a,w,hw,h => by rw [Nat.zero_add]; exact hL _ _ _ hw h
  | f + 1,listed,a,w,hw,h => by
    have e : f + 1 + g = (f + g) + 1 := by omega
    rw [e]
    exact ⟨fun h0 => absurd h0 h.1,fun i hi => wpOp_of_qOp hw (fun a' w' hw' h' => Rg.down hL f _ a' w' hw' h') (h.2 i hi).2⟩
theorem Rg.first {n i : Nat} {oi : Oper} {v : Value} {L : Array Bool → Act → Prop} (hi : ops[i]? = some oi) (hsel : ∀ (j : Nat) (o : Oper) cs b,ops[j]? = some o → o.op ≠ .select cs b)
    (hs : Region.sinkB md ops n = true) (hc : Region.chainB md ops n = true) (hn : n < ops.size) (hin : i < n) (hdone : ∀ listed a,L listed a → ∀ j ∈ Region.ready md ops listed,n ≤ j) :
    ∀ (f : Nat) (listed : Array Bool) (a : Act),HeadInv md ops n listed →
      (∀ j oj,ops[j]? = some oj → j ≠ i → listed.getD j true = false → (∀ e ∈ oj.after,Region.binds md e = true → e.on ≠ i) → oi.apart ops oj = true) →
      i ∈ Region.ready md ops listed → YieldsIn P ops C oi v a →
      Rg.any P md ops C n L f (listed.setIfInBounds i true) (a.put oi.dst v) → Rg.any P md ops C n L (f + 1) listed a := by
  intro f
  induction f with
  | zero =>
    intro listed a inv _ hr hy H
    refine ⟨fun h => (by rw [h] at hr; cases hr),fun j hj => ?_⟩
    have hjn : j < n := by
      refine Nat.lt_of_not_le fun hle => ?_
      exact tail_waits hs hc hn inv _ i rfl hin (mem_ready.1 hr).1 j hle hj
    refine ⟨hjn,?_⟩
    by_cases hji : j = i
    · subst hji; exact hy.qOp hi H
    · exact absurd (hdone _ _ H j (ready_mono hj hji)) (by omega)
  | succ f ih =>
    intro listed a inv hfree hr hy H
    refine ⟨fun h => (by rw [h] at hr; cases hr),fun j hj => ?_⟩
    have hjn : j < n := by
      refine Nat.lt_of_not_le fun hle => ?_
      exact tail_waits hs hc hn inv _ i rfl hin (mem_ready.1 hr).1 j hle hj
    refine ⟨hjn,?_⟩
    by_cases hji : j = i
    · subst hji; exact hy.qOp hi H
    · have h1 := (H.2 j (ready_mono hj hji)).2
      obtain ⟨hjun,oj,hoj,hall⟩ := mem_ready.1 hj
      have hun := (mem_ready.1 hr).1
      have hnot : ∀ e ∈ oj.after,Region.binds md e = true → e.on ≠ i := fun e he hb heq => by
        have h2 := hall e he hb
        rw [heq,getD_both hun] at h2
        cases h2
      have h2 := qOp_put hoj (hfree j oj hoj hji hjun hnot) (fun cs b => hsel i oi cs b hi) (fun cs b => hsel j oj cs b hoj) hy h1
      refine qOp_mono (fun a' h3 => ih (listed.setIfInBounds j true) a' (inv.set hj hjn) (fun k ok hk hki hunk hno => ?_) (ready_mono hr (Ne.symm hji)) h3.1 ?_) h2
      · refine hfree k ok hk hki ?_ hno
        by_cases hjk : j = k
        · subst hjk; exact hjun
        · rwa [getD_set_ne true hjk] at hunk
      · rw [Array.setIfInBounds_comm _ _ hji]
        exact h3.2
theorem Rg.lex {n g : Nat} {Lq : Act → Prop} (hsel : Region.noSelect ops = true) (hs : Region.sinkB md ops n = true) (hc : Region.chainB md ops n = true) (hn : n < ops.size) :
    ∀ (l : List Oper) (k : Nat) (listed : Array Bool) (a : Act),(∀ j,j < l.length → l[j]? = ops[k + j]?) → k + l.length = n → HeadInv md ops n listed →
    Region.lexHead md ops g l.length k listed = true → wpQuiet P ops C Lq l a →
    Rg.any P md ops C n (fun listed' a' => Region.seqB md ops g n listed' = true ∧ Lq a') l.length listed a
  | [],k,listed,a,_,hk,_,hB,h => by
    obtain rfl : k = n := by simpa using hk
    exact ⟨by simpa [Region.lexHead] using hB,h⟩
  | o :: l,k,listed,a,hl,hk,inv,hB,h => by
    have h0 : ops[k]? = some o := by simpa using (hl 0 (by simp)).symm
    simp only [List.length_cons,Region.lexHead,Bool.and_eq_true] at hB
    have hkn : k < n := by simp only [List.length_cons] at hk; omega
    have hr : k ∈ Region.ready md ops listed := by simpa using hB.1.1
    have hst : qOp P ops C k (wpQuiet P ops C Lq l) a := by unfold qOp; simp only [h0]; exact h
    obtain ⟨v,hy,hK⟩ := yieldsIn_of_qOp h0 hst
    refine Rg.first h0 (Region.noSelect_spec hsel) hs hc hn hkn (fun listed' a' hL => seqB_ready hL.1) l.length listed a inv (Region.free_spec h0 hB.1.2) hr hy ?_
    refine Rg.lex hsel hs hc hn l (k + 1) _ _ (fun j hj => ?_) (by simp only [List.length_cons] at hk; omega) (inv.set hr hkn) hB.2 hK
    have := hl (j + 1) (by simp; omega)
    simpa [Nat.add_assoc,Nat.add_comm 1 j] using this
/-- The head in a class of worlds, the tail in the order of the text. -/
theorem Rg.region {id : Nat} {Q : Exit → Act → World → Prop} {a : Act} {w : World} {l : List Oper} (n : Nat) (hm : P.follows .mixedOrders = true) (hB : Region.lexTailB .any l.toArray n = true) (hC : C { w with drawn := w.drawn + 1 })
    (h : wpQuiet P l.toArray C (fun a' => ∀ w',C w' → wpList P l.toArray Q (l.drop n) a' w') (l.take n) a) : (Code.region id l.toArray true).wp P Q a w := by
  simp only [Region.lexTailB,Bool.and_eq_true,decide_eq_true_eq] at hB
  obtain ⟨⟨⟨⟨hsel,hn⟩,hs⟩,hc⟩,hlex⟩ := hB
  have hn' : n < l.length := by simpa using hn
  have htl : (l.take n).length = n := by simp; omega
  have hdl : (l.drop n).length = l.toArray.size - n := by simp
  have inv0 : HeadInv .any l.toArray n (Array.replicate l.toArray.size false) :=
    ⟨by simp,fun j oj _ hl => (by rw [getD_replicate_false] at hl; cases hl),fun t _ ht => getD_in (by simpa using ht) (getD_replicate_false _ _)⟩
  have H := Rg.lex (md := .any) (g := l.toArray.size - n) hsel hs hc hn (l.take n) 0 _ a (fun j hj => by
    have hj' : j < n := by rw [htl] at hj; exact hj
    simp [hj']) (by simpa using htl) inv0 (by rw [htl]; exact hlex) h
  refine wp_region_any hm ?_
  have := Rg.down (Q' := Q) (g := l.toArray.size - n) (fun listed a' w' hw' hL => by
    have := wpAny_of_seq (md := .any) (Q' := Q) (l.drop n) n listed a' w' (fun j => by simp [List.getElem?_drop]) (by rw [hdl]; exact hL.1) (hL.2 w' hw')
    rwa [hdl] at this) _ _ _ _ hC H
  rw [htl,show n + (l.toArray.size - n) = l.toArray.size by omega] at this
  exact this
end

/-- w with more behind it. -/
def Rg.w (w : World) (p : Regrown) : World := Sort.grow (redrawn w p.d) p.os
theorem Rg.below (w : World) (p : Regrown) : Below w.heap.size w (Rg.w w p) := below_regrown w p.d p.os
theorem Rg.cell {w : World} {a : Addr} {v : Value} (h : w.cell? a = some v) (p : Regrown) : (Rg.w w p).cell? a = some v := cell_regrown h p.d p.os
theorem Rg.ofBelow {w w' : World} (h : Below w.heap.size w w') : ∃ p : Regrown,w' = Rg.w w p := regrown_of_below h
theorem Rg.heap {w : World} {q : Nat} {o : Obj} (h : w.heap[q]? = some o) (p : Regrown) : (Rg.w w p).heap[q]? = some o :=
  ((Rg.below w p).block q (Array.getElem?_eq_some_iff.1 h).1).trans h
/-- A struct, read whole. -/
theorem Rg.load_row {P : Program} {a : Act} {o : Oper} {w : World} {K : Act → Prop} (x : Operand) (ty : TypeId) (ho : o.op = .load ty x) (q : Nat) (hx : a.eval x = .pointer (some ⟨q,0,none⟩)) (t : TypeId) (cs : Array Value) (fr : Nat × Nat) (d : TypeDesc)
    (hg : w.heap[q]? = some (.cells cs t fr)) (hu : P.underlying ty = some d) (hd : (match d with | .struct _ | .array _ _ => true | _ => false) = true) (hi : (P.info? ty).map (·.size) = some cs.size) (a' : Act) (ha : a.put o.dst (.agg cs) = a') (hk : K a') :
    o.quiet P a (fun w' => ∃ p : Regrown,w' = Rg.w w p) K := by
  subst ha
  refine ⟨_,fun w' hw' => ?_,hk⟩
  obtain ⟨p,rfl⟩ := hw'
  unfold Oper.quietAt execOp
  simp only [ho,hx,Instr.loadAt,Instr.sureAddr,Sem.run_bind,Sem.run_pure,Result.andThen_ok,run_loadVar_row (Rg.w w p) q t ty cs fr d (Rg.heap hg p) hu hd hi]
  exact ⟨rfl,rfl⟩
/-- A call within, by a contract that ends in Below. -/
theorem Rg.call {P : Program} {f : FuncId} {args : Array Value} {w : World} {p : Regrown} {v : Value}
    (h : Calls P f args (Rg.w w p) fun e w' => e = .returned v ∧ Below (Rg.w w p).heap.size (Rg.w w p) w') : Calls P f args (Rg.w w p) fun e w'' => e = .returned v ∧ ∃ p : Regrown,w'' = Rg.w w p :=
  h.mono fun _ _ ⟨he,hb⟩ => ⟨he,Rg.ofBelow ((Rg.below w p).trans ⟨hb.os,hb.tape,hb.output,hb.size,fun k hk => hb.block k (Nat.lt_of_lt_of_le hk (Rg.below w p).size)⟩)⟩
theorem Rg.quiet {P : Program} {id : Nat} {Q : Exit → Act → World → Prop} {a : Act} {w : World} {l : List Oper} (hm : P.follows .mixedOrders = true) (hB : Region.lexB .any l.toArray = true)
    (h : wpQuiet P l.toArray (fun w' => ∃ p : Regrown,w' = Rg.w w p) (fun a' => ∀ w',(∃ p : Regrown,w' = Rg.w w p) → Q .normal a' w') l a) : (Code.region id l.toArray true).wp P Q a w :=
  wp_region_quiet (C := fun w' => ∃ p : Regrown,w' = Rg.w w p) hm hB (Rg.ofBelow (below_drewN (Below.refl _ _) 1)) (by simpa using h)
theorem Rg.tail {P : Program} {id : Nat} {Q : Exit → Act → World → Prop} {a : Act} {w : World} {l : List Oper} (n : Nat) (hm : P.follows .mixedOrders = true) (hB : Region.lexTailB .any l.toArray n = true)
    (h : wpQuiet P l.toArray (fun w' => ∃ p : Regrown,w' = Rg.w w p) (fun a' => ∀ w',(∃ p : Regrown,w' = Rg.w w p) → wpList P l.toArray Q (l.drop n) a' w') (l.take n) a) : (Code.region id l.toArray true).wp P Q a w :=
  Rg.region (C := fun w' => ∃ p : Regrown,w' = Rg.w w p) n hm hB (Rg.ofBelow (below_drewN (Below.refl _ _) 1)) h
end Go.Proofs.YthlecdggkolgmaaGreatDoor
