/- The state behind a block: next, 64 bits. -/
import Derived.Test.YthlecdggkolgmaaGreatDoorHsM
import Derived.Laws.Build
import Derived.Deep.CutRange
import Derived.Deep.RegionHeld3
namespace Go.Proofs.YthlecdggkolgmaaGreatDoor
section
open Go.RowKit

theorem Hs.ch32 (e f g : Nat) (he : e < 4294967296) (hf : f < 4294967296) (hg : g < 4294967296) :
    bits .xor .u32 (bits .and .u32 (e : Int) (f : Int)) (bits .and .u32 (bits .xor .u32 IntKind.u32.max (e : Int)) (g : Int)) = (Hs.ch 32 e f g : Nat) := by
  have h1 : e &&& f < 2 ^ 32 := Nat.and_lt_two_pow _ hf
  have h2 : 4294967295 ^^^ e < 2 ^ 32 := Nat.xor_lt_two_pow (by decide) he
  have h3 : (4294967295 ^^^ e) &&& g < 2 ^ 32 := Nat.and_lt_two_pow _ hg
  have m : IntKind.u32.max = ((4294967295 : Nat) : Int) := rfl
  rw [m,u32_and_nat _ _ he hf,u32_xor_nat _ _ (by decide) he,u32_and_nat _ _ h2 hg,u32_xor_nat _ _ h1 h3]
  rfl
theorem Hs.maj32 (a b c : Nat) (ha : a < 4294967296) (hb : b < 4294967296) (hc : c < 4294967296) :
    bits .xor .u32 (bits .xor .u32 (bits .and .u32 (a : Int) (b : Int)) (bits .and .u32 (a : Int) (c : Int))) (bits .and .u32 (b : Int) (c : Int)) = (Hs.maj a b c : Nat) := by
  have h1 : a &&& b < 2 ^ 32 := Nat.and_lt_two_pow _ hb
  have h2 : a &&& c < 2 ^ 32 := Nat.and_lt_two_pow _ hc
  have h3 : b &&& c < 2 ^ 32 := Nat.and_lt_two_pow _ hc
  rw [u32_and_nat _ _ ha hb,u32_and_nat _ _ ha hc,u32_and_nat _ _ hb hc,u32_xor_nat _ _ h1 h2,u32_xor_nat _ _ (Nat.xor_lt_two_pow h1 h2) h3]
  rfl
theorem Hs.info61 : (Tryz.prog.info? 129).map (fun i => (i.zero,i.size)) = some (some (.agg (Hs.row .u64 8 fun _ => 0)),8) := by kernel_rfl
/-- An index into an array's value. -/
theorem Hs.run_index {P : Program} (w : World) (t e : TypeId) (n : Nat) (cs : Array Value) (i : Nat) (v : Value) (hu : P.underlying t = some (.array n e)) (d : TypeDesc) (he : P.underlying e = some d) (hd : d.isRow = false) (hz : (P.info? e).map (·.size) = some 1) (hi : i < n) (hv : cs[i]? = some v) :
    (Instr.index t (.agg cs) (.int .i64 (i : Int))).run P w = .ok v w := by
  have hin : (0 : Int) ≤ (i : Int) ∧ (i : Int) < (n : Int) := by omega
  cases hq : P.info? e with
  | none => simp [hq] at hz
  | some x =>
    have hx : x.size = 1 := by simpa [hq] using hz
    have hlt : i < cs.size := (Array.getElem?_eq_some_iff.1 hv).1
    have hg : cs[i] = v := (Array.getElem?_eq_some_iff.1 hv).2
    have hagg : (isAgg e).run P w = .ok false w := by
      unfold isAgg
      rw [Sem.run_bind,run_underlying he w]
      cases d <;> simp_all
    simp [Instr.index,asIntOf,run_underlying hu,hi,sizeOf,typeInfo,hq,hx,Go.part,hagg,hlt,hg]
/-- Two blocks while the answer is laid: the old state, in part the new one; the answer. -/
structure Hs.XLay (w : World) (f : Nat → Nat) (wr : World) : Prop where
  o : Hs.Arr wr w.heap.size 129 .u64 8 f
  r : Hs.Arr wr (w.heap.size + 1 + 1) 129 .u64 8 (fun _ => 0)
  up : Hs.Up w wr
theorem Hs.XLay.below {w wr wr' : World} {f : Nat → Nat} (h : Hs.XLay w f wr) (hb : Below wr.heap.size wr wr') : Hs.XLay w f wr' := ⟨h.o.below hb h.o.lt,h.r.below hb h.r.lt,h.up.then hb⟩
theorem Hs.XLay.congr {w wr : World} {f g : Nat → Nat} (h : Hs.XLay w f wr) (e : ∀ j,j < 8 → f j = g j) : Hs.XLay w g wr := ⟨h.o.congr e,h.r,h.up⟩
theorem Hs.XLay.set {w wr : World} {f : Nat → Nat} (h : Hs.XLay w f wr) (i x : Nat) : Hs.XLay w (fun j => if j = i then x else f j) (wr.setCell ⟨w.heap.size,i,none⟩ (.int .u64 (x : Int))) := by
  refine ⟨h.o.set i x,(Hs.heap_set wr _ _ _ (by show w.heap.size + 1 + 1 ≠ w.heap.size; omega)).trans h.r,⟨⟨h.up.below.os,h.up.below.tape,h.up.below.output,?_,fun b hb => (Hs.heap_set wr _ _ _ (by show b ≠ w.heap.size; omega)).trans (h.up.below.block b hb)⟩,?_⟩⟩
  · have := h.up.below.size; simpa [World.setCell] using this
  · have := h.up.size; simpa [World.setCell] using this
theorem Hs.wpList_build {P : Program} {ops : Array Oper} {rest : List Oper} {o : Oper} {a : Act} {w : World} {Q : Exit → Act → World → Prop} (hg : o.guard = none) (t : TypeId) (parts : Array (Nat × Operand)) (ho : o.op = .build t parts)
    (L : List (Nat × Value)) (R : Array Value) (hl : (parts.map fun (i,x) => (i,a.eval x)).toList = L) (hf : P.built t L = some R) (h : wpList P ops Q rest (a.put o.dst (.agg R)) w) : wpList P ops Q (o :: rest) a w := by
  subst hl
  refine Go.wpList_build hg t parts ho (by rw [hf]; rfl) ?_
  rw [hf]
  exact h
theorem Hs.built8 (f : Nat → Nat) : Tryz.prog.built 169 [(0,.int .u32 (f 0 : Int)),(1,.int .u32 (f 1 : Int)),(2,.int .u32 (f 2 : Int)),(3,.int .u32 (f 3 : Int)),(4,.int .u32 (f 4 : Int)),(5,.int .u32 (f 5 : Int)),(6,.int .u32 (f 6 : Int)),(7,.int .u32 (f 7 : Int))] = some (Hs.row .u32 8 f) := by kernel_rfl
theorem Hs.size32 : (Tryz.prog.info? 145).map (·.size) = some 1 := by kernel_rfl
theorem Hs.size61 : (Tryz.prog.info? 129).map (·.size) = some 8 := (zero_of_info Hs.info61).2
/-- How the memory lies while a block is summed: the old state, the plan, the answer, the numbers, the roots. -/
structure Hs.NLay (w : World) (pc : Array Value) (T : TypeId) (k : IntKind) (b7 b8 : Nat) (st f : Nat → Nat) (wr : World) : Prop where
  o : Hs.Arr wr w.heap.size 129 .u64 8 st
  p : wr.heap[w.heap.size + 1]? = some (.cells pc 131 (0,0))
  r : Hs.Arr wr (w.heap.size + 1 + 1) 129 .u64 8 (fun _ => 0)
  n : Hs.Arr wr b7 T k 80 f
  k : wr.heap[b8]? = some (.cells Hs.rootsA 166 (0,0))
  up : Hs.Up w wr
theorem Hs.NLay.below {w wr wr' : World} {pc : Array Value} {T : TypeId} {k : IntKind} {b7 b8 : Nat} {st f : Nat → Nat} (h : Hs.NLay w pc T k b7 b8 st f wr) (hb : Below wr.heap.size wr wr') : Hs.NLay w pc T k b7 b8 st f wr' :=
  ⟨h.o.below hb h.o.lt,(hb.block _ (Array.getElem?_eq_some_iff.1 h.p).1).trans h.p,h.r.below hb h.r.lt,h.n.below hb h.n.lt,(hb.block _ (Array.getElem?_eq_some_iff.1 h.k).1).trans h.k,h.up.then hb⟩
theorem Hs.NLay.pcell {w wr : World} {pc : Array Value} {T : TypeId} {k : IntKind} {b7 b8 : Nat} {st f : Nat → Nat} (h : Hs.NLay w pc T k b7 b8 st f wr) (j : Nat) (v : Value) (hv : pc[j]? = some v) : wr.cell? ⟨w.heap.size + 1,j,none⟩ = some v := by
  simp only [World.cell?,h.p]; exact hv
theorem Hs.NLay.kcell {w wr : World} {pc : Array Value} {T : TypeId} {k : IntKind} {b7 b8 : Nat} {st f : Nat → Nat} (h : Hs.NLay w pc T k b7 b8 st f wr) (j : Nat) (hj : j < 80) : wr.cell? ⟨b8,j,none⟩ = some (.int .u64 (Hs.rk.getD j 0 : Nat)) := by
  have hl : Hs.rk.length = 80 := by decide
  simp only [World.cell?,h.k]
  show Hs.rootsA[j]? = _
  simp [Hs.rootsA,List.getD_eq_getElem?_getD,List.getElem?_eq_getElem (show j < Hs.rk.length by omega)]

theorem Hs.three (w : World) (A R Y : Obj) : (((w.alloc A).alloc R).alloc Y).heap[w.heap.size]? = some A ∧ (((w.alloc A).alloc R).alloc Y).heap[w.heap.size + 1]? = some R ∧ (((w.alloc A).alloc R).alloc Y).heap[w.heap.size + 1 + 1]? = some Y ∧ Below w.heap.size w (((w.alloc A).alloc R).alloc Y) := by
  have z1 : (w.alloc A).heap.size = w.heap.size + 1 := by simp
  have z2 : ((w.alloc A).alloc R).heap.size = w.heap.size + 1 + 1 := by simp
  refine ⟨?_,?_,?_,(((Below.refl _ _).alloc (Nat.le_refl _) _).alloc (by omega) _).alloc (by omega) _⟩
  · rw [heap_alloc_old _ _ (by omega),heap_alloc_old _ _ (by omega),heap_alloc_new]
  · rw [heap_alloc_old _ _ (by omega),← z1,heap_alloc_new]
  · rw [← z2,heap_alloc_new]
set_option maxHeartbeats 8000000 in
set_option maxRecDepth 100000 in
theorem Hs.next32 (w : World) (bb off cap : Nat) (B : Nat → Nat) (hB : ∀ j,B j < 256) (hbb : bb < w.heap.size) (hcap : 64 ≤ cap) (hcm : cap ≤ 9223372036854775807) (hc : ∀ j,j < 64 → w.cell? ⟨bb,off + j,none⟩ = some (.int .u8 (B j : Int)))
    (S : Nat → Nat) (hS0 : ∀ j,j < 16 → S j = Hs.part 32 4 B j 4) (hS1 : ∀ i,16 ≤ i → i < 64 → S i = Hs.sched 32 7 18 3 17 19 10 S i) (st : Nat → Nat) (hst : ∀ j,j < 8 → st j < 4294967296)
    (G : Nat → Nat → Nat) (hG0 : ∀ j,j < 8 → G 0 j = st j) (hGb : ∀ i j,i ≤ 64 → j < 8 → G i j < 4294967296)
    (hG1 : ∀ i,i < 64 → G (i + 1) 0 = (Hs.tt 32 6 11 25 (G i) (Hs.rk.getD i 0 / 4294967296) (S i) + Hs.uu 32 2 13 22 (G i)) % 2 ^ 32 ∧ G (i + 1) 1 = G i 0 ∧ G (i + 1) 2 = G i 1 ∧ G (i + 1) 3 = G i 2 ∧ G (i + 1) 4 = (G i 3 + Hs.tt 32 6 11 25 (G i) (Hs.rk.getD i 0 / 4294967296) (S i)) % 2 ^ 32 ∧ G (i + 1) 5 = G i 4 ∧ G (i + 1) 6 = G i 5 ∧ G (i + 1) 7 = G i 6) :
    Calls Tryz.prog 101 #[.agg (Hs.row .u64 8 st),.slice (some ⟨bb,off,none⟩) 64 cap,.agg Hs.pc0] w fun e w' => e = .returned (.agg (Hs.row .u64 8 fun j => (st j + G 64 j) % 2 ^ 32)) ∧ Below w.heap.size w w' := by
  have z := Hs.zero81
  have z2 := Hs.zero83
  have z3 := fun w => (zero_of_info Hs.info61).1 w
  have CS := Lib.hid (fun (W : World) (hb : Below w.heap.size w W) (hz : w.heap.size ≤ W.heap.size) => Hs.spread32 W bb off cap B hB (Nat.lt_of_lt_of_le hbb hz) hcap hcm (fun j hj => (hb.cell (p := ⟨bb,off + j,none⟩) hbb).trans (hc j hj)) S hS0 hS1)
  have CR := Lib.hid Hs.cubeRoots_any
  have HG1 := Lib.hid hG1
  clear hG1
  clear hS0 hS1 hc
  go_enter Tryz.func101,Tryz.ntmps101
  obtain ⟨t1,t2,t3,bW⟩ := Hs.three w (.cells (Hs.row .u64 8 st) 129) (.cells Hs.pc0 131) (.cells (Hs.row .u64 8 fun _ => 0) 129)
  have hsz : w.heap.size ≤ (((w.alloc (.cells (Hs.row .u64 8 st) 129)).alloc (.cells Hs.pc0 131)).alloc (.cells (Hs.row .u64 8 fun _ => 0) 129)).heap.size := bW.size
  go_wp2_with (refine wpList_load_row rfl 131 (.tmp 5) rfl (w.heap.size + 1) rfl 131 Hs.pc0 (0,0) _ t2 Tryz.underlying131 rfl Hs.infoP ?_)
  generalize ((w.alloc (.cells (Hs.row .u64 8 st) 129)).alloc (.cells Hs.pc0 131)).alloc (.cells (Hs.row .u64 8 fun _ => 0) 129) = W1 at t1 t2 t3 bW hsz ⊢
  obtain ⟨R,hR⟩ : ∃ R,R = Hs.row .u32 80 (fun j => if j < 64 then S j else 0) := ⟨_,rfl⟩
  have hRs : (Tryz.prog.info? 164).map (·.size) = some R.size := by rw [hR,Hs.row_size]; exact Hs.size81
  have hR1 : R.all (·.oneCell') = true := by rw [hR]; exact Hs.row_one _ _ _
  have hR2 : (Hs.row .u32 80 (fun _ => 0)).size = R.size := by rw [hR,Hs.row_size,Hs.row_size]
  have cs := CS.out W1 bW hsz
  rw [← hR] at cs
  have HR := Lib.hid hR
  clear hR
  refine cs.mono ?_
  rintro e w2 ⟨rfl,b2⟩
  go_wp2_with (refine wpList_store_row rfl 164 (.tmp 7) (.tmp 26) rfl w2.heap.size R rfl rfl 164 _ (heap_alloc_new w2 _) hRs hR2 hR1 ?_; rw [World.setRow_alloc_new])
  refine (CR.out _).mono ?_
  rintro e w3 ⟨rfl,b3⟩
  go_upto_region 3 with (refine wpList_store_row rfl 166 (.tmp 8) (.tmp 27) rfl w3.heap.size Hs.rootsA rfl rfl 166 _ (heap_alloc_new w3 _) Hs.roots_info Hs.roots_row Hs.roots_one ?_; rw [World.setRow_alloc_new])
  have bA : Below w2.heap.size w2 (w2.alloc (.cells R 164)) := (Below.refl _ _).alloc (Nat.le_refl _) _
  have bB : Below w3.heap.size w3 (w3.alloc (.cells Hs.rootsA 166)) := (Below.refl _ _).alloc (Nat.le_refl _) _
  have bC := (b2.trans (bA.mono b2.size)).trans (b3.mono (Nat.le_trans b2.size bA.size))
  have bD : Below W1.heap.size W1 (w3.alloc (.cells Hs.rootsA 166)) := bC.trans (bB.mono bC.size)
  have hn3 : w3.heap[w2.heap.size]? = some (.cells R 164 (0,0)) := (b3.block _ (by simp)).trans (heap_alloc_new w2 _)
  have L0 : Hs.NLay w Hs.pc0 164 .u32 w2.heap.size w3.heap.size st (fun j => if j < 64 then S j else 0) (w3.alloc (.cells Hs.rootsA 166)) := by
    refine ⟨(bD.block _ (Array.getElem?_eq_some_iff.1 t1).1).trans t1,(bD.block _ (Array.getElem?_eq_some_iff.1 t2).1).trans t2,(bD.block _ (Array.getElem?_eq_some_iff.1 t3).1).trans t3,?_,heap_alloc_new _ _,((Hs.Up.mk bW hsz).then bD)⟩
    have := (bB.block _ (Array.getElem?_eq_some_iff.1 hn3).1).trans hn3
    rw [HR.out] at this
    exact this
  clear bA bB bC bD hn3 t1 t2 t3 bW b2 b3 hRs hR1 hR2 cs HR
  generalize w3.alloc (.cells Hs.rootsA 166) = w4 at L0 ⊢
  have p0 := L0.pcell 0 (.int .i64 4) rfl
  have p2 := L0.pcell 2 (.int .i64 64) rfl
  have o0 := L0.o.cell (j := 0) (by omega)
  have o1 := L0.o.cell (j := 1) (by omega)
  have o2 := L0.o.cell (j := 2) (by omega)
  have o3 := L0.o.cell (j := 3) (by omega)
  have o4 := L0.o.cell (j := 4) (by omega)
  have o5 := L0.o.cell (j := 5) (by omega)
  have o6 := L0.o.cell (j := 6) (by omega)
  have o7 := L0.o.cell (j := 7) (by omega)
  have k0 : IntKind.u32.wrap (st 0 : Int) = (st 0 : Int) := IntWalk.u32_in _ (by have := hst 0 (by omega); omega)
  have k1 : IntKind.u32.wrap (st 1 : Int) = (st 1 : Int) := IntWalk.u32_in _ (by have := hst 1 (by omega); omega)
  have k2 : IntKind.u32.wrap (st 2 : Int) = (st 2 : Int) := IntWalk.u32_in _ (by have := hst 2 (by omega); omega)
  have k3 : IntKind.u32.wrap (st 3 : Int) = (st 3 : Int) := IntWalk.u32_in _ (by have := hst 3 (by omega); omega)
  have k4 : IntKind.u32.wrap (st 4 : Int) = (st 4 : Int) := IntWalk.u32_in _ (by have := hst 4 (by omega); omega)
  have k5 : IntKind.u32.wrap (st 5 : Int) = (st 5 : Int) := IntWalk.u32_in _ (by have := hst 5 (by omega); omega)
  have k6 : IntKind.u32.wrap (st 6 : Int) = (st 6 : Int) := IntWalk.u32_in _ (by have := hst 6 (by omega); omega)
  have k7 : IntKind.u32.wrap (st 7 : Int) = (st 7 : Int) := IntWalk.u32_in _ (by have := hst 7 (by omega); omega)
  go_wp2_with fail
  go_quiet (fail)
  have L1 := L0.below (Hs.drewN_below w4 nq)
  clear L0 p0 p2 o0 o1 o2 o3 o4 o5 o6 o7
  generalize w4.drewN nq = w5 at L1 ⊢
  have p2 := L1.pcell 2 (.int .i64 64) rfl
  have o4 := L1.o.cell (j := 4) (by omega)
  have o5 := L1.o.cell (j := 5) (by omega)
  have o6 := L1.o.cell (j := 6) (by omega)
  have o7 := L1.o.cell (j := 7) (by omega)
  go_wp2_with fail
  go_quiet (fail)
  have L2 := L1.below (Hs.drewN_below w5 nq)
  clear L1 p2 o4 o5 o6 o7
  generalize w5.drewN nq = w6 at L2 ⊢
  have p2 := L2.pcell 2 (.int .i64 64) rfl
  go_wp2_with fail
  go_loopw [10,11,12,13,14,15,16,17,58] (fun a b c d e f g h iv wr => ∃ i : Nat,i ≤ 64 ∧ iv = .int .i64 (i : Int) ∧ a = .int .u32 (G i 0 : Int) ∧ b = .int .u32 (G i 1 : Int) ∧ c = .int .u32 (G i 2 : Int) ∧ d = .int .u32 (G i 3 : Int) ∧ e = .int .u32 (G i 4 : Int) ∧ f = .int .u32 (G i 5 : Int) ∧ g = .int .u32 (G i 6 : Int) ∧ h = .int .u32 (G i 7 : Int) ∧ Hs.NLay w Hs.pc0 164 .u32 w2.heap.size w3.heap.size st (fun j => if j < 64 then S j else 0) wr) (fun _ _ _ _ _ _ _ _ iv _ => 64 - (intOf iv).toNat)
  case atStart => exact ⟨0,by omega,rfl,by rw [hG0 0 (by omega)],by rw [hG0 1 (by omega)],by rw [hG0 2 (by omega)],by rw [hG0 3 (by omega)],by rw [hG0 4 (by omega)],by rw [hG0 5 (by omega)],by rw [hG0 6 (by omega)],by rw [hG0 7 (by omega)],L2⟩
  case round =>
    clear L2 p2 k0 k1 k2 k3 k4 k5 k6 k7
    obtain ⟨i,hi,rfl,rfl,rfl,rfl,rfl,rfl,rfl,rfl,rfl,hL⟩ := hrel
    obtain ⟨w7,rfl⟩ : ∃ w7,w7 = wr := ⟨_,rfl⟩
    by_cases hlt : i < 64
    · have hlz : (i : Int) < 64 := by omega
      have hl8 : (i : Int) < 80 := by omega
      have kc := hL.kcell i (by omega)
      have nc := hL.n.cell (j := i) (by omega)
      rw [if_pos hlt] at nc
      have x0 := hGb i 0 (by omega) (by omega)
      have x4 := hGb i 4 (by omega) (by omega)
      obtain ⟨r,hr⟩ : ∃ r,Hs.rk.getD i 0 = r := ⟨_,rfl⟩
      rw [hr] at kc
      have hrb : r < 18446744073709551616 := by
        have hall : Hs.rk.all (· < 18446744073709551616) = true := by decide
        rw [← hr,List.getD_eq_getElem?_getD]
        rcases hq : Hs.rk[i]? with _ | q
        · simp
        · have := List.all_eq_true.1 hall q (List.mem_of_getElem? hq)
          simpa using this
      have HCH := Lib.hid (Hs.ch32 (G i 4) (G i 5) (G i 6) x4 (hGb i 5 (by omega) (by omega)) (hGb i 6 (by omega) (by omega)))
      have HMJ := Lib.hid (Hs.maj32 (G i 0) (G i 1) (G i 2) x0 (hGb i 1 (by omega) (by omega)) (hGb i 2 (by omega) (by omega)))
      have HRK := Lib.hid hr
      clear hr
      have kv : IntKind.u32.wrap ((r : Int) / 4294967296) = ((r / 4294967296 : Nat) : Int) := by rw [IntKind.wrap_u32]; omega
      have p9 := hL.pcell 9 (.int .u64 6) rfl
      have p10 := hL.pcell 10 (.int .u64 11) rfl
      have p11 := hL.pcell 11 (.int .u64 25) rfl
      have ct : ∀ W,Calls Tryz.prog 116 #[.int .u32 (G i 4 : Int),.agg #[.int .u64 6,.int .u64 11,.int .u64 25],.int .u64 32] W fun e w' => e = .returned (.int .u32 (Hs.turns 32 (G i 4) 6 11 25 : Nat)) ∧ Below W.heap.size W w' := fun W => Hs.turns32 (G i 4) 6 11 25 x4 (by omega) (by omega) (by omega) W
      have CT := Lib.hid ct
      clear ct
      have sof : ∀ W,Hs.NLay w Hs.pc0 164 .u32 w2.heap.size w3.heap.size st (fun j => if j < 64 then S j else 0) W →
          W.cell? ⟨w.heap.size + 1,9,none⟩ = some (.int .u64 6) ∧ W.cell? ⟨w.heap.size + 1,10,none⟩ = some (.int .u64 11) ∧ W.cell? ⟨w.heap.size + 1,11,none⟩ = some (.int .u64 25) ∧ W.cell? ⟨w2.heap.size,i,none⟩ = some (.int .u32 (S i : Int)) ∧
          Hs.NLay w Hs.pc0 164 .u32 w2.heap.size w3.heap.size st (fun j => if j < 64 then S j else 0) W := fun W h => ⟨h.pcell 9 _ rfl,h.pcell 10 _ rfl,h.pcell 11 _ rfl,by have := h.n.cell (j := i) (by omega); rw [if_pos hlt] at this; exact this,h⟩
      have SOF := Lib.hid sof
      clear sof
      go_wp2_with fail
      go_region_held3 (fun W => W.cell? ⟨w.heap.size + 1,9,none⟩ = some (.int .u64 6) ∧ W.cell? ⟨w.heap.size + 1,10,none⟩ = some (.int .u64 11) ∧ W.cell? ⟨w.heap.size + 1,11,none⟩ = some (.int .u64 25) ∧ W.cell? ⟨w2.heap.size,i,none⟩ = some (.int .u32 (S i : Int)) ∧
          Hs.NLay w Hs.pc0 164 .u32 w2.heap.size w3.heap.size st (fun j => if j < 64 then S j else 0) W)
        ((first | exact SOF.out _ hL | exact SOF.out _ (hL.below (below_drewN (Below.refl _ _) 1)) | exact SOF.out _ ((hL.below (below_drewN (Below.refl _ _) 1)).below (by assumption)) | exact SOF.out _ (Hs.NLay.below (by with_reducible assumption) (by with_reducible assumption))))
        ((first | (with_reducible refine Calls.mono (CT.out _) ?_; rintro e9 w8 ⟨rfl,b8⟩)))
      all_goals
        have hL8 := (hL.below (below_drewN (Below.refl _ _) 1)).below b8
        have p12 := hL8.pcell 12 (.int .u64 2) rfl
        have p13 := hL8.pcell 13 (.int .u64 13) rfl
        have p14 := hL8.pcell 14 (.int .u64 22) rfl
        have cu : ∀ W,Calls Tryz.prog 116 #[.int .u32 (G i 0 : Int),.agg #[.int .u64 2,.int .u64 13,.int .u64 22],.int .u64 32] W fun e w' => e = .returned (.int .u32 (Hs.turns 32 (G i 0) 2 13 22 : Nat)) ∧ Below W.heap.size W w' := fun W => Hs.turns32 (G i 0) 2 13 22 x0 (by omega) (by omega) (by omega) W
        have CU := Lib.hid cu
        clear cu
        go_wp2_with fail
        refine (CU.out w8).mono ?_
        rintro e10 w9 ⟨rfl,b9⟩
        have hL9 := hL8.below b9
        go_wp2_with fail
        obtain ⟨g0,g1,g2,g3,g4,g5,g6,g7⟩ := HG1.out i hlt
        rw [HRK.out] at g0 g4
        rw [HCH.out,HMJ.out]
        refine ⟨⟨i + 1,by omega,by go_num,congrArg (Value.int .u32) ?_,by rw [g1],by rw [g2],by rw [g3],congrArg (Value.int .u32) ?_,by rw [g5],by rw [g6],by rw [g7],hL9⟩,by simp [intOf]; omega⟩
        · rw [g0]; unfold Hs.tt Hs.uu; omega
        · rw [g4]; unfold Hs.tt; omega
    · obtain rfl : i = 64 := by omega
      have HX : Hs.XLay w st w7 := ⟨hL.o,hL.r,hL.up⟩
      obtain ⟨R,hR⟩ : ∃ R,R = Hs.row .u32 8 (G 64) := ⟨_,rfl⟩
      have HG := Hs.built8 (G 64)
      rw [← hR] at HG
      have HG := Lib.hid HG
      have HR := Lib.hid hR
      clear hR
      have HB := Lib.hid (fun j (h : j < 8) => hGb 64 j (Nat.le_refl _) h)
      have HST := Lib.hid hst
      clear hL HG1 hG0 hGb CS CR hst z z2 z3
      generalize w2.heap.size = q2 at *
      generalize w3.heap.size = q3 at *
      go_wp2_with (refine Hs.wpList_build rfl 169 _ rfl _ R (by kernel_rfl) HG.out ?_)
      go_loopw [129] (fun iv wr => ∃ i : Nat,i ≤ 8 ∧ iv = .int .i64 (i : Int) ∧ Hs.XLay w (fun j => if j < i then (st j + G 64 j) % 2 ^ 32 else st j) wr) (fun iv _ => 8 - (intOf iv).toNat)
      case atStart => exact ⟨0,by omega,rfl,HX.congr (fun j _ => by simp)⟩
      case round =>
        clear HX
        obtain ⟨i,hi,rfl,hL⟩ := hrel
        obtain ⟨w8,rfl⟩ : ∃ w8,w8 = wr := ⟨_,rfl⟩
        by_cases hlt : i < 8
        · have hlz : (i : Int) < 8 := by omega
          have co := hL.o.cell (j := i) (by omega)
          have fo := hL.o.frozen i
          rw [if_neg (Nat.lt_irrefl _)] at co
          have sb := HST.out i hlt
          have gb := HB.out i hlt
          have ki := fun W => Hs.run_index (P := Tryz.prog) W 169 145 8 (Hs.row .u32 8 (G 64)) i (.int .u32 (G 64 i : Int)) Tryz.underlying169 _ Tryz.underlying145 rfl Hs.size32 hlt (Hs.row_get _ _ _ _ hlt)
          rw [← HR.out] at ki
          obtain ⟨x,hx⟩ : ∃ x,st i = x := ⟨_,rfl⟩
          obtain ⟨y,hy⟩ : ∃ y,G 64 i = y := ⟨_,rfl⟩
          rw [hx] at co sb
          rw [hy] at ki gb
          have k1 : IntKind.u32.wrap (x : Int) = (x : Int) := IntWalk.u32_in _ (by omega)
          obtain ⟨z,hz⟩ : ∃ z,(x + y) % 2 ^ 32 = z := ⟨_,rfl⟩
          have k2 : IntKind.u32.wrap ((x : Int) + (y : Int)) = (z : Int) := by rw [IntKind.wrap_u32]; omega
          have k3 : IntKind.u64.wrap (z : Int) = (z : Int) := IntWalk.u64_in _ (by omega)
          have hXS := (hL.set i z).congr (g := fun j => if j < i + 1 then (st j + G 64 j) % 2 ^ 32 else st j) (fun j _ => by
            by_cases hj : j = i
            · subst hj
              rw [if_pos rfl,if_pos (by omega),hx,hy,hz]
            · rw [if_neg hj]
              by_cases h1 : j < i
              · rw [if_pos h1,if_pos (by omega)]
              · rw [if_neg h1,if_neg (by omega)])
          have HXS := Lib.hid hXS
          clear hXS hz hx hy hL
          go_wp2_with fail
          exact ⟨⟨i + 1,by omega,by go_num,HXS.out⟩,by simp [intOf]; omega⟩
        · obtain rfl : i = 8 := by omega
          have hL8 := hL.congr (g := fun j => (st j + G 64 j) % 2 ^ 32) (fun j hj => by rw [if_pos hj])
          obtain ⟨R2,hR2⟩ : ∃ R2,R2 = Hs.row .u64 8 (fun j => (st j + G 64 j) % 2 ^ 32) := ⟨_,rfl⟩
          have ha : w8.heap[w.heap.size]? = some (.cells R2 129 (0,0)) := by rw [hR2]; exact hL8.o
          have hr : w8.heap[w.heap.size + 1 + 1]? = some (.cells (Hs.row .u64 8 (fun _ => 0)) 129 (0,0)) := hL8.r
          have hsz2 : (Tryz.prog.info? 129).map (·.size) = some R2.size := by rw [hR2,Hs.row_size]; exact Hs.size61
          have hone : R2.all (·.oneCell') = true := by rw [hR2]; exact Hs.row_one _ _ _
          have hrs : (Hs.row .u64 8 (fun _ => 0)).size = R2.size := by rw [hR2,Hs.row_size,Hs.row_size]
          have hup := hL8.up
          clear hL hL8
          go_wp2_with (first | (refine wpList_load_row rfl 129 (.tmp 3) rfl w.heap.size rfl 129 R2 (0,0) _ ha Tryz.underlying129 rfl hsz2 ?_) | (refine wpList_store_row rfl 129 (.tmp 6) (.tmp 143) rfl (w.heap.size + 1 + 1) R2 rfl rfl 129 _ hr hsz2 hrs hone ?_))
          have hfin : (w8.setRow (w.heap.size + 1 + 1) R2).heap[w.heap.size + 1 + 1]? = some (.cells R2 129 (0,0)) := setRow_heap w8 _ _ _ _ _ hr
          refine bodyPost_ret (v := .agg R2) (results_cell_row rfl _ _ (w.heap.size + 1 + 1) 129 R2 (0,0) _ rfl hfin Tryz.underlying129 rfl hsz2) rfl ⟨by rw [hR2],?_⟩
          exact ⟨hup.below.os,hup.below.tape,hup.below.output,by have := hup.below.size; simpa [World.setRow] using this,fun b hb => (setRow_other w8 _ _ _ (by omega)).trans (hup.below.block b hb)⟩
end
section
open Go.RowKit

theorem Hs.size64 : (Tryz.prog.info? 76).map (·.size) = some 1 := by kernel_rfl
theorem Hs.ch64 (e f g : Nat) (he : e < 18446744073709551616) (hf : f < 18446744073709551616) (hg : g < 18446744073709551616) :
    bits .xor .u64 (bits .and .u64 (e : Int) (f : Int)) (bits .and .u64 (bits .xor .u64 IntKind.u64.max (e : Int)) (g : Int)) = (Hs.ch 64 e f g : Nat) := by
  have h1 : e &&& f < 2 ^ 64 := Nat.and_lt_two_pow _ hf
  have h2 : 18446744073709551615 ^^^ e < 2 ^ 64 := Nat.xor_lt_two_pow (by decide) he
  have h3 : (18446744073709551615 ^^^ e) &&& g < 2 ^ 64 := Nat.and_lt_two_pow _ hg
  have m : IntKind.u64.max = ((18446744073709551615 : Nat) : Int) := rfl
  rw [m,u64_and_nat _ _ he hf,u64_xor_nat _ _ (by decide) he,u64_and_nat _ _ h2 hg,u64_xor_nat _ _ h1 h3]
  rfl
theorem Hs.maj64 (a b c : Nat) (ha : a < 18446744073709551616) (hb : b < 18446744073709551616) (hc : c < 18446744073709551616) :
    bits .xor .u64 (bits .xor .u64 (bits .and .u64 (a : Int) (b : Int)) (bits .and .u64 (a : Int) (c : Int))) (bits .and .u64 (b : Int) (c : Int)) = (Hs.maj a b c : Nat) := by
  have h1 : a &&& b < 2 ^ 64 := Nat.and_lt_two_pow _ hb
  have h2 : a &&& c < 2 ^ 64 := Nat.and_lt_two_pow _ hc
  have h3 : b &&& c < 2 ^ 64 := Nat.and_lt_two_pow _ hc
  rw [u64_and_nat _ _ ha hb,u64_and_nat _ _ ha hc,u64_and_nat _ _ hb hc,u64_xor_nat _ _ h1 h2,u64_xor_nat _ _ (Nat.xor_lt_two_pow h1 h2) h3]
  rfl
theorem Hs.built8w (f : Nat → Nat) : Tryz.prog.built 129 [(0,.int .u64 (f 0 : Int)),(1,.int .u64 (f 1 : Int)),(2,.int .u64 (f 2 : Int)),(3,.int .u64 (f 3 : Int)),(4,.int .u64 (f 4 : Int)),(5,.int .u64 (f 5 : Int)),(6,.int .u64 (f 6 : Int)),(7,.int .u64 (f 7 : Int))] = some (Hs.row .u64 8 f) := by kernel_rfl
set_option maxHeartbeats 8000000 in
set_option maxRecDepth 100000 in
theorem Hs.next64 (w : World) (bb off cap : Nat) (B : Nat → Nat) (hB : ∀ j,B j < 256) (hbb : bb < w.heap.size) (hcap : 128 ≤ cap) (hcm : cap ≤ 9223372036854775807) (hc : ∀ j,j < 128 → w.cell? ⟨bb,off + j,none⟩ = some (.int .u8 (B j : Int)))
    (S : Nat → Nat) (hS0 : ∀ j,j < 16 → S j = Hs.part 64 8 B j 8) (hS1 : ∀ i,16 ≤ i → i < 80 → S i = Hs.sched 64 1 8 7 19 61 6 S i) (st : Nat → Nat) (hst : ∀ j,j < 8 → st j < 18446744073709551616)
    (G : Nat → Nat → Nat) (hG0 : ∀ j,j < 8 → G 0 j = st j) (hGb : ∀ i j,i ≤ 80 → j < 8 → G i j < 18446744073709551616)
    (hG1 : ∀ i,i < 80 → G (i + 1) 0 = (Hs.tt 64 14 18 41 (G i) (Hs.rk.getD i 0) (S i) + Hs.uu 64 28 34 39 (G i)) % 2 ^ 64 ∧ G (i + 1) 1 = G i 0 ∧ G (i + 1) 2 = G i 1 ∧ G (i + 1) 3 = G i 2 ∧ G (i + 1) 4 = (G i 3 + Hs.tt 64 14 18 41 (G i) (Hs.rk.getD i 0) (S i)) % 2 ^ 64 ∧ G (i + 1) 5 = G i 4 ∧ G (i + 1) 6 = G i 5 ∧ G (i + 1) 7 = G i 6) :
    Calls Tryz.prog 102 #[.agg (Hs.row .u64 8 st),.slice (some ⟨bb,off,none⟩) 128 cap,.agg Hs.pc1] w fun e w' => e = .returned (.agg (Hs.row .u64 8 fun j => (st j + G 80 j) % 2 ^ 64)) ∧ Below w.heap.size w w' := by
  have z := Hs.zero83
  have z2 := Hs.zero83
  have z3 := fun w => (zero_of_info Hs.info61).1 w
  have CS := Lib.hid (fun (W : World) (hb : Below w.heap.size w W) (hz : w.heap.size ≤ W.heap.size) => Hs.spread64 W bb off cap B hB (Nat.lt_of_lt_of_le hbb hz) hcap hcm (fun j hj => (hb.cell (p := ⟨bb,off + j,none⟩) hbb).trans (hc j hj)) S hS0 hS1)
  have CR := Lib.hid Hs.cubeRoots_any
  have HG1 := Lib.hid hG1
  clear hG1
  clear hS0 hS1 hc
  go_enter Tryz.func102,Tryz.ntmps102
  obtain ⟨t1,t2,t3,bW⟩ := Hs.three w (.cells (Hs.row .u64 8 st) 129) (.cells Hs.pc1 131) (.cells (Hs.row .u64 8 fun _ => 0) 129)
  have hsz : w.heap.size ≤ (((w.alloc (.cells (Hs.row .u64 8 st) 129)).alloc (.cells Hs.pc1 131)).alloc (.cells (Hs.row .u64 8 fun _ => 0) 129)).heap.size := bW.size
  go_wp2_with (refine wpList_load_row rfl 131 (.tmp 5) rfl (w.heap.size + 1) rfl 131 Hs.pc1 (0,0) _ t2 Tryz.underlying131 rfl Hs.infoP ?_)
  generalize ((w.alloc (.cells (Hs.row .u64 8 st) 129)).alloc (.cells Hs.pc1 131)).alloc (.cells (Hs.row .u64 8 fun _ => 0) 129) = W1 at t1 t2 t3 bW hsz ⊢
  obtain ⟨R,hR⟩ : ∃ R,R = Hs.row .u64 80 (fun j => if j < 80 then S j else 0) := ⟨_,rfl⟩
  have hRs : (Tryz.prog.info? 166).map (·.size) = some R.size := by rw [hR,Hs.row_size]; exact Hs.size83
  have hR1 : R.all (·.oneCell') = true := by rw [hR]; exact Hs.row_one _ _ _
  have hR2 : (Hs.row .u64 80 (fun _ => 0)).size = R.size := by rw [hR,Hs.row_size,Hs.row_size]
  have cs := CS.out W1 bW hsz
  rw [← hR] at cs
  have HR := Lib.hid hR
  clear hR
  refine cs.mono ?_
  rintro e w2 ⟨rfl,b2⟩
  go_wp2_with (refine wpList_store_row rfl 166 (.tmp 7) (.tmp 26) rfl w2.heap.size R rfl rfl 166 _ (heap_alloc_new w2 _) hRs hR2 hR1 ?_; rw [World.setRow_alloc_new])
  refine (CR.out _).mono ?_
  rintro e w3 ⟨rfl,b3⟩
  go_upto_region 3 with (refine wpList_store_row rfl 166 (.tmp 8) (.tmp 27) rfl w3.heap.size Hs.rootsA rfl rfl 166 _ (heap_alloc_new w3 _) Hs.roots_info Hs.roots_row Hs.roots_one ?_; rw [World.setRow_alloc_new])
  have bA : Below w2.heap.size w2 (w2.alloc (.cells R 166)) := (Below.refl _ _).alloc (Nat.le_refl _) _
  have bB : Below w3.heap.size w3 (w3.alloc (.cells Hs.rootsA 166)) := (Below.refl _ _).alloc (Nat.le_refl _) _
  have bC := (b2.trans (bA.mono b2.size)).trans (b3.mono (Nat.le_trans b2.size bA.size))
  have bD : Below W1.heap.size W1 (w3.alloc (.cells Hs.rootsA 166)) := bC.trans (bB.mono bC.size)
  have hn3 : w3.heap[w2.heap.size]? = some (.cells R 166 (0,0)) := (b3.block _ (by simp)).trans (heap_alloc_new w2 _)
  have L0 : Hs.NLay w Hs.pc1 166 .u64 w2.heap.size w3.heap.size st (fun j => if j < 80 then S j else 0) (w3.alloc (.cells Hs.rootsA 166)) := by
    refine ⟨(bD.block _ (Array.getElem?_eq_some_iff.1 t1).1).trans t1,(bD.block _ (Array.getElem?_eq_some_iff.1 t2).1).trans t2,(bD.block _ (Array.getElem?_eq_some_iff.1 t3).1).trans t3,?_,heap_alloc_new _ _,((Hs.Up.mk bW hsz).then bD)⟩
    have := (bB.block _ (Array.getElem?_eq_some_iff.1 hn3).1).trans hn3
    rw [HR.out] at this
    exact this
  clear bA bB bC bD hn3 t1 t2 t3 bW b2 b3 hRs hR1 hR2 cs HR
  generalize w3.alloc (.cells Hs.rootsA 166) = w4 at L0 ⊢
  have p0 := L0.pcell 0 (.int .i64 8) rfl
  have p2 := L0.pcell 2 (.int .i64 80) rfl
  have o0 := L0.o.cell (j := 0) (by omega)
  have o1 := L0.o.cell (j := 1) (by omega)
  have o2 := L0.o.cell (j := 2) (by omega)
  have o3 := L0.o.cell (j := 3) (by omega)
  have o4 := L0.o.cell (j := 4) (by omega)
  have o5 := L0.o.cell (j := 5) (by omega)
  have o6 := L0.o.cell (j := 6) (by omega)
  have o7 := L0.o.cell (j := 7) (by omega)
  have k0 : IntKind.u64.wrap (st 0 : Int) = (st 0 : Int) := IntWalk.u64_in _ (by have := hst 0 (by omega); omega)
  have k1 : IntKind.u64.wrap (st 1 : Int) = (st 1 : Int) := IntWalk.u64_in _ (by have := hst 1 (by omega); omega)
  have k2 : IntKind.u64.wrap (st 2 : Int) = (st 2 : Int) := IntWalk.u64_in _ (by have := hst 2 (by omega); omega)
  have k3 : IntKind.u64.wrap (st 3 : Int) = (st 3 : Int) := IntWalk.u64_in _ (by have := hst 3 (by omega); omega)
  have k4 : IntKind.u64.wrap (st 4 : Int) = (st 4 : Int) := IntWalk.u64_in _ (by have := hst 4 (by omega); omega)
  have k5 : IntKind.u64.wrap (st 5 : Int) = (st 5 : Int) := IntWalk.u64_in _ (by have := hst 5 (by omega); omega)
  have k6 : IntKind.u64.wrap (st 6 : Int) = (st 6 : Int) := IntWalk.u64_in _ (by have := hst 6 (by omega); omega)
  have k7 : IntKind.u64.wrap (st 7 : Int) = (st 7 : Int) := IntWalk.u64_in _ (by have := hst 7 (by omega); omega)
  go_wp2_with fail
  go_quiet (fail)
  have L1 := L0.below (Hs.drewN_below w4 nq)
  clear L0 p0 p2 o0 o1 o2 o3 o4 o5 o6 o7
  generalize w4.drewN nq = w5 at L1 ⊢
  have p2 := L1.pcell 2 (.int .i64 80) rfl
  have o4 := L1.o.cell (j := 4) (by omega)
  have o5 := L1.o.cell (j := 5) (by omega)
  have o6 := L1.o.cell (j := 6) (by omega)
  have o7 := L1.o.cell (j := 7) (by omega)
  go_wp2_with fail
  go_quiet (fail)
  have L2 := L1.below (Hs.drewN_below w5 nq)
  clear L1 p2 o4 o5 o6 o7
  generalize w5.drewN nq = w6 at L2 ⊢
  have p2 := L2.pcell 2 (.int .i64 80) rfl
  go_wp2_with fail
  go_loopw [10,11,12,13,14,15,16,17,50] (fun a b c d e f g h iv wr => ∃ i : Nat,i ≤ 80 ∧ iv = .int .i64 (i : Int) ∧ a = .int .u64 (G i 0 : Int) ∧ b = .int .u64 (G i 1 : Int) ∧ c = .int .u64 (G i 2 : Int) ∧ d = .int .u64 (G i 3 : Int) ∧ e = .int .u64 (G i 4 : Int) ∧ f = .int .u64 (G i 5 : Int) ∧ g = .int .u64 (G i 6 : Int) ∧ h = .int .u64 (G i 7 : Int) ∧ Hs.NLay w Hs.pc1 166 .u64 w2.heap.size w3.heap.size st (fun j => if j < 80 then S j else 0) wr) (fun _ _ _ _ _ _ _ _ iv _ => 80 - (intOf iv).toNat)
  case atStart => exact ⟨0,by omega,rfl,by rw [hG0 0 (by omega)],by rw [hG0 1 (by omega)],by rw [hG0 2 (by omega)],by rw [hG0 3 (by omega)],by rw [hG0 4 (by omega)],by rw [hG0 5 (by omega)],by rw [hG0 6 (by omega)],by rw [hG0 7 (by omega)],L2⟩
  case round =>
    clear L2 p2 k0 k1 k2 k3 k4 k5 k6 k7
    obtain ⟨i,hi,rfl,rfl,rfl,rfl,rfl,rfl,rfl,rfl,rfl,hL⟩ := hrel
    obtain ⟨w7,rfl⟩ : ∃ w7,w7 = wr := ⟨_,rfl⟩
    by_cases hlt : i < 80
    · have hlz : (i : Int) < 80 := by omega
      
      have kc := hL.kcell i (by omega)
      have nc := hL.n.cell (j := i) (by omega)
      rw [if_pos hlt] at nc
      have x0 := hGb i 0 (by omega) (by omega)
      have x4 := hGb i 4 (by omega) (by omega)
      obtain ⟨r,hr⟩ : ∃ r,Hs.rk.getD i 0 = r := ⟨_,rfl⟩
      rw [hr] at kc
      have hrb : r < 18446744073709551616 := by
        have hall : Hs.rk.all (· < 18446744073709551616) = true := by decide
        rw [← hr,List.getD_eq_getElem?_getD]
        rcases hq : Hs.rk[i]? with _ | q
        · simp
        · have := List.all_eq_true.1 hall q (List.mem_of_getElem? hq)
          simpa using this
      have HCH := Lib.hid (Hs.ch64 (G i 4) (G i 5) (G i 6) x4 (hGb i 5 (by omega) (by omega)) (hGb i 6 (by omega) (by omega)))
      have HMJ := Lib.hid (Hs.maj64 (G i 0) (G i 1) (G i 2) x0 (hGb i 1 (by omega) (by omega)) (hGb i 2 (by omega) (by omega)))
      have HRK := Lib.hid hr
      clear hr
      have p9 := hL.pcell 9 (.int .u64 14) rfl
      have p10 := hL.pcell 10 (.int .u64 18) rfl
      have p11 := hL.pcell 11 (.int .u64 41) rfl
      have ct : ∀ W,Calls Tryz.prog 118 #[.int .u64 (G i 4 : Int),.agg #[.int .u64 14,.int .u64 18,.int .u64 41],.int .u64 64] W fun e w' => e = .returned (.int .u64 (Hs.turns 64 (G i 4) 14 18 41 : Nat)) ∧ Below W.heap.size W w' := fun W => Hs.turns64 (G i 4) 14 18 41 x4 (by omega) (by omega) (by omega) W
      have CT := Lib.hid ct
      clear ct
      have sof : ∀ W,Hs.NLay w Hs.pc1 166 .u64 w2.heap.size w3.heap.size st (fun j => if j < 80 then S j else 0) W →
          W.cell? ⟨w.heap.size + 1,9,none⟩ = some (.int .u64 14) ∧ W.cell? ⟨w.heap.size + 1,10,none⟩ = some (.int .u64 18) ∧ W.cell? ⟨w.heap.size + 1,11,none⟩ = some (.int .u64 41) ∧ W.cell? ⟨w2.heap.size,i,none⟩ = some (.int .u64 (S i : Int)) ∧
          Hs.NLay w Hs.pc1 166 .u64 w2.heap.size w3.heap.size st (fun j => if j < 80 then S j else 0) W := fun W h => ⟨h.pcell 9 _ rfl,h.pcell 10 _ rfl,h.pcell 11 _ rfl,by have := h.n.cell (j := i) (by omega); rw [if_pos hlt] at this; exact this,h⟩
      have SOF := Lib.hid sof
      clear sof
      go_wp2_with fail
      go_region_held3 (fun W => W.cell? ⟨w.heap.size + 1,9,none⟩ = some (.int .u64 14) ∧ W.cell? ⟨w.heap.size + 1,10,none⟩ = some (.int .u64 18) ∧ W.cell? ⟨w.heap.size + 1,11,none⟩ = some (.int .u64 41) ∧ W.cell? ⟨w2.heap.size,i,none⟩ = some (.int .u64 (S i : Int)) ∧
          Hs.NLay w Hs.pc1 166 .u64 w2.heap.size w3.heap.size st (fun j => if j < 80 then S j else 0) W)
        ((first | exact SOF.out _ hL | exact SOF.out _ (hL.below (below_drewN (Below.refl _ _) 1)) | exact SOF.out _ ((hL.below (below_drewN (Below.refl _ _) 1)).below (by assumption)) | exact SOF.out _ (Hs.NLay.below (by with_reducible assumption) (by with_reducible assumption))))
        ((first | (with_reducible refine Calls.mono (CT.out _) ?_; rintro e9 w8 ⟨rfl,b8⟩)))
      all_goals
        have hL8 := (hL.below (below_drewN (Below.refl _ _) 1)).below b8
        have p12 := hL8.pcell 12 (.int .u64 28) rfl
        have p13 := hL8.pcell 13 (.int .u64 34) rfl
        have p14 := hL8.pcell 14 (.int .u64 39) rfl
        have cu : ∀ W,Calls Tryz.prog 118 #[.int .u64 (G i 0 : Int),.agg #[.int .u64 28,.int .u64 34,.int .u64 39],.int .u64 64] W fun e w' => e = .returned (.int .u64 (Hs.turns 64 (G i 0) 28 34 39 : Nat)) ∧ Below W.heap.size W w' := fun W => Hs.turns64 (G i 0) 28 34 39 x0 (by omega) (by omega) (by omega) W
        have CU := Lib.hid cu
        clear cu
        go_wp2_with fail
        refine (CU.out w8).mono ?_
        rintro e10 w9 ⟨rfl,b9⟩
        have hL9 := hL8.below b9
        go_wp2_with fail
        obtain ⟨g0,g1,g2,g3,g4,g5,g6,g7⟩ := HG1.out i hlt
        rw [HRK.out] at g0 g4
        rw [HCH.out,HMJ.out]
        refine ⟨⟨i + 1,by omega,by go_num,congrArg (Value.int .u64) ?_,by rw [g1],by rw [g2],by rw [g3],congrArg (Value.int .u64) ?_,by rw [g5],by rw [g6],by rw [g7],hL9⟩,by simp [intOf]; omega⟩
        · rw [g0]; unfold Hs.tt Hs.uu; (try simp only [IntKind.wrap_u64]); omega
        · rw [g4]; unfold Hs.tt; (try simp only [IntKind.wrap_u64]); omega
    · obtain rfl : i = 80 := by omega
      have HX : Hs.XLay w st w7 := ⟨hL.o,hL.r,hL.up⟩
      obtain ⟨R,hR⟩ : ∃ R,R = Hs.row .u64 8 (G 80) := ⟨_,rfl⟩
      have HG := Hs.built8w (G 80)
      rw [← hR] at HG
      have HG := Lib.hid HG
      have HR := Lib.hid hR
      clear hR
      have HB := Lib.hid (fun j (h : j < 8) => hGb 80 j (Nat.le_refl _) h)
      have HST := Lib.hid hst
      clear hL HG1 hG0 hGb CS CR hst z z2 z3
      generalize w2.heap.size = q2 at *
      generalize w3.heap.size = q3 at *
      go_wp2_with (refine Hs.wpList_build rfl 129 _ rfl _ R (by kernel_rfl) HG.out ?_)
      go_loopw [120] (fun iv wr => ∃ i : Nat,i ≤ 8 ∧ iv = .int .i64 (i : Int) ∧ Hs.XLay w (fun j => if j < i then (st j + G 80 j) % 2 ^ 64 else st j) wr) (fun iv _ => 8 - (intOf iv).toNat)
      case atStart => exact ⟨0,by omega,rfl,HX.congr (fun j _ => by simp)⟩
      case round =>
        clear HX
        obtain ⟨i,hi,rfl,hL⟩ := hrel
        obtain ⟨w8,rfl⟩ : ∃ w8,w8 = wr := ⟨_,rfl⟩
        by_cases hlt : i < 8
        · have hlz : (i : Int) < 8 := by omega
          have co := hL.o.cell (j := i) (by omega)
          have fo := hL.o.frozen i
          rw [if_neg (Nat.lt_irrefl _)] at co
          have sb := HST.out i hlt
          have gb := HB.out i hlt
          have ki := fun W => Hs.run_index (P := Tryz.prog) W 129 76 8 (Hs.row .u64 8 (G 80)) i (.int .u64 (G 80 i : Int)) Tryz.underlying129 _ Tryz.underlying76 rfl Hs.size64 hlt (Hs.row_get _ _ _ _ hlt)
          rw [← HR.out] at ki
          obtain ⟨x,hx⟩ : ∃ x,st i = x := ⟨_,rfl⟩
          obtain ⟨y,hy⟩ : ∃ y,G 80 i = y := ⟨_,rfl⟩
          rw [hx] at co sb
          rw [hy] at ki gb
          have k1 : IntKind.u64.wrap (x : Int) = (x : Int) := IntWalk.u64_in _ (by omega)
          obtain ⟨z,hz⟩ : ∃ z,(x + y) % 2 ^ 64 = z := ⟨_,rfl⟩
          have k2 : IntKind.u64.wrap ((x : Int) + (y : Int)) = (z : Int) := by rw [IntKind.wrap_u64]; omega
          have k3 : IntKind.u64.wrap (z : Int) = (z : Int) := IntWalk.u64_in _ (by omega)
          have hXS := (hL.set i z).congr (g := fun j => if j < i + 1 then (st j + G 80 j) % 2 ^ 64 else st j) (fun j _ => by
            by_cases hj : j = i
            · subst hj
              rw [if_pos rfl,if_pos (by omega),hx,hy,hz]
            · rw [if_neg hj]
              by_cases h1 : j < i
              · rw [if_pos h1,if_pos (by omega)]
              · rw [if_neg h1,if_neg (by omega)])
          have HXS := Lib.hid hXS
          clear hXS hz hx hy hL
          go_wp2_with fail
          exact ⟨⟨i + 1,by omega,by go_num,HXS.out⟩,by simp [intOf]; omega⟩
        · obtain rfl : i = 8 := by omega
          have hL8 := hL.congr (g := fun j => (st j + G 80 j) % 2 ^ 64) (fun j hj => by rw [if_pos hj])
          obtain ⟨R2,hR2⟩ : ∃ R2,R2 = Hs.row .u64 8 (fun j => (st j + G 80 j) % 2 ^ 64) := ⟨_,rfl⟩
          have ha : w8.heap[w.heap.size]? = some (.cells R2 129 (0,0)) := by rw [hR2]; exact hL8.o
          have hr : w8.heap[w.heap.size + 1 + 1]? = some (.cells (Hs.row .u64 8 (fun _ => 0)) 129 (0,0)) := hL8.r
          have hsz2 : (Tryz.prog.info? 129).map (·.size) = some R2.size := by rw [hR2,Hs.row_size]; exact Hs.size61
          have hone : R2.all (·.oneCell') = true := by rw [hR2]; exact Hs.row_one _ _ _
          have hrs : (Hs.row .u64 8 (fun _ => 0)).size = R2.size := by rw [hR2,Hs.row_size,Hs.row_size]
          have hup := hL8.up
          clear hL hL8
          go_wp2_with (first | (refine wpList_load_row rfl 129 (.tmp 3) rfl w.heap.size rfl 129 R2 (0,0) _ ha Tryz.underlying129 rfl hsz2 ?_) | (refine wpList_store_row rfl 129 (.tmp 6) (.tmp 132) rfl (w.heap.size + 1 + 1) R2 rfl rfl 129 _ hr hsz2 hrs hone ?_))
          have hfin : (w8.setRow (w.heap.size + 1 + 1) R2).heap[w.heap.size + 1 + 1]? = some (.cells R2 129 (0,0)) := setRow_heap w8 _ _ _ _ _ hr
          refine bodyPost_ret (v := .agg R2) (results_cell_row rfl _ _ (w.heap.size + 1 + 1) 129 R2 (0,0) _ rfl hfin Tryz.underlying129 rfl hsz2) rfl ⟨by rw [hR2],?_⟩
          exact ⟨hup.below.os,hup.below.tape,hup.below.output,by have := hup.below.size; simpa [World.setRow] using this,fun b hb => (setRow_other w8 _ _ _ (by omega)).trans (hup.below.block b hb)⟩
end
end Go.Proofs.YthlecdggkolgmaaGreatDoor
