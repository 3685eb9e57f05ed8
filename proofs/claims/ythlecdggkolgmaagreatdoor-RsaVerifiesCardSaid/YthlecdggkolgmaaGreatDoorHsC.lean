/- The plan of a sum: its cells; planOf, block. -/
import Derived.Test.YthlecdggkolgmaaGreatDoorProg
import Derived.WalkKit
import Derived.ProofKit
import Derived.Below
import Derived.Handy
import Derived.Lib.Hide
import Derived.WalkLawsBesides
import Derived.WalkSpells
import Derived.Deep.QuietTactic
import Derived.BigQuiet
import Derived.Laws.BitsAllLaws
import Derived.Laws.Bits64b
import Derived.Deep.MidRow
import Derived.Deep.WholeRow
import Derived.Deep.CutRange
namespace Go.Proofs.YthlecdggkolgmaaGreatDoor
section
open Go.RowKit

/-- x, of n bits, turned right by k. -/
def Hs.ror (n x k : Nat) : Nat := x / 2 ^ k ||| x * 2 ^ (n - k) % 2 ^ n
theorem Hs.ror_lt (n x k : Nat) (hx : x < 2 ^ n) : Hs.ror n x k < 2 ^ n :=
  Nat.or_lt_two_pow (Nat.lt_of_le_of_lt (Nat.div_le_self _ _) hx) (Nat.mod_lt _ (Nat.two_pow_pos n))
def Hs.turns (n x a b c : Nat) : Nat := Hs.ror n x a ^^^ Hs.ror n x b ^^^ Hs.ror n x c
theorem Hs.ror_eq32 (x k : Nat) (hx : x < 4294967296) : bits .or .u32 ((x : Int) / 2 ^ k) ((x : Int) * 2 ^ (32 - k) % 4294967296) = (Hs.ror 32 x k : Nat) := by
  have e1 : (x : Int) / 2 ^ k = ((x / 2 ^ k : Nat) : Int) := by simp
  have e2 : (x : Int) * 2 ^ (32 - k) % 4294967296 = ((x * 2 ^ (32 - k) % 2 ^ 32 : Nat) : Int) := by simp
  have h1 : x / 2 ^ k < 4294967296 := Nat.lt_of_le_of_lt (Nat.div_le_self _ _) hx
  have h2 : x * 2 ^ (32 - k) % 2 ^ 32 < 4294967296 := Nat.mod_lt _ (by decide)
  rw [e1,e2,u32_or_nat _ _ h1 h2]
  rfl
set_option maxHeartbeats 4000000 in
set_option maxRecDepth 100000 in
theorem Hs.turned32 (x k : Nat) (hx : x < 4294967296) (hk : k ≤ 32) (w : World) :
    Calls Tryz.prog 128 #[.int .u32 (x : Int),.int .u64 (k : Int),.int .u64 32] w fun e w' => e = .returned (.int .u32 (Hs.ror 32 x k : Nat)) ∧ w' = w := by
  have e1 : IntKind.u64.wrap (32 - (k : Int)) = ((32 - k : Nat) : Int) := by rw [IntWalk.u64_in _ (by omega)]; omega
  have h1 : 0 ≤ (k : Int) := by omega
  have h2 : (k : Int) ≤ 32 := by omega
  have h3 : 0 ≤ ((32 - k : Nat) : Int) := by omega
  have h4 : ((32 - k : Nat) : Int) ≤ 32 := by omega
  have hr := Hs.ror_eq32 x k hx
  have HR := Lib.hid hr
  clear hr
  go_enter Tryz.func128,Tryz.ntmps128
  go_wp2
  go_ret
  exact ⟨congrArg (fun z => Ending.returned (.int .u32 z)) HR.out,rfl⟩
theorem Hs.xor3_32 (x a b c : Nat) (hx : x < 4294967296) : bits .xor .u32 (bits .xor .u32 (Hs.ror 32 x a : Nat) (Hs.ror 32 x b : Nat)) (Hs.ror 32 x c : Nat) = (Hs.turns 32 x a b c : Nat) := by
  rw [u32_xor_nat _ _ (Hs.ror_lt 32 x a hx) (Hs.ror_lt 32 x b hx),u32_xor_nat _ _ (Nat.xor_lt_two_pow (n := 32) (Hs.ror_lt 32 x a hx) (Hs.ror_lt 32 x b hx)) (Hs.ror_lt 32 x c hx)]
  rfl
set_option maxHeartbeats 4000000 in
set_option maxRecDepth 100000 in
theorem Hs.turns32 (x a b c : Nat) (hx : x < 4294967296) (ha : a ≤ 32) (hb : b ≤ 32) (hc : c ≤ 32) (w : World) :
    Calls Tryz.prog 116 #[.int .u32 (x : Int),.agg #[.int .u64 (a : Int),.int .u64 (b : Int),.int .u64 (c : Int)],.int .u64 32] w fun e w' => e = .returned (.int .u32 (Hs.turns 32 x a b c : Nat)) ∧ Below w.heap.size w w' := by
  have C1 := Lib.hid (fun w => Hs.turned32 x a hx ha w)
  have C2 := Lib.hid (fun w => Hs.turned32 x b hx hb w)
  have C3 := Lib.hid (fun w => Hs.turned32 x c hx hc w)
  have HX := Lib.hid (Hs.xor3_32 x a b c hx)
  go_enter Tryz.func116,Tryz.ntmps116
  go_wp2_with fail
  go_quiet (first | (go_at_call 128; with_reducible exact Calls.quiet_of_same (C1.out _)) | (go_at_call 128; with_reducible exact Calls.quiet_of_same (C2.out _)) | (go_at_call 128; with_reducible exact Calls.quiet_of_same (C3.out _)))
  go_wp2
  go_ret
  refine ⟨congrArg (fun z => Ending.returned (.int .u32 z)) HX.out,?_⟩
  exact below_drewN ((Below.refl _ _).alloc (Nat.le_refl _) _) nq

theorem Hs.ror_eq64 (x k : Nat) (hx : x < 18446744073709551616) : bits .or .u64 ((x : Int) / 2 ^ k) ((x : Int) * 2 ^ (64 - k) % 18446744073709551616) = (Hs.ror 64 x k : Nat) := by
  have e1 : (x : Int) / 2 ^ k = ((x / 2 ^ k : Nat) : Int) := by simp
  have e2 : (x : Int) * 2 ^ (64 - k) % 18446744073709551616 = ((x * 2 ^ (64 - k) % 2 ^ 64 : Nat) : Int) := by simp
  have h1 : x / 2 ^ k < 18446744073709551616 := Nat.lt_of_le_of_lt (Nat.div_le_self _ _) hx
  have h2 : x * 2 ^ (64 - k) % 2 ^ 64 < 18446744073709551616 := Nat.mod_lt _ (by decide)
  rw [e1,e2,u64_or_nat _ _ h1 h2]
  rfl
set_option maxHeartbeats 4000000 in
set_option maxRecDepth 100000 in
theorem Hs.turned64 (x k : Nat) (hx : x < 18446744073709551616) (hk : k ≤ 64) (w : World) :
    Calls Tryz.prog 129 #[.int .u64 (x : Int),.int .u64 (k : Int),.int .u64 64] w fun e w' => e = .returned (.int .u64 (Hs.ror 64 x k : Nat)) ∧ w' = w := by
  have e1 : IntKind.u64.wrap (64 - (k : Int)) = ((64 - k : Nat) : Int) := by rw [IntWalk.u64_in _ (by omega)]; omega
  have h1 : 0 ≤ (k : Int) := by omega
  have h2 : (k : Int) ≤ 64 := by omega
  have h3 : 0 ≤ ((64 - k : Nat) : Int) := by omega
  have h4 : ((64 - k : Nat) : Int) ≤ 64 := by omega
  have hr := Hs.ror_eq64 x k hx
  have HR := Lib.hid hr
  clear hr
  go_enter Tryz.func129,Tryz.ntmps129
  go_wp2
  go_ret
  exact ⟨congrArg (fun z => Ending.returned (.int .u64 z)) HR.out,rfl⟩
theorem Hs.xor3_64 (x a b c : Nat) (hx : x < 18446744073709551616) : bits .xor .u64 (bits .xor .u64 (Hs.ror 64 x a : Nat) (Hs.ror 64 x b : Nat)) (Hs.ror 64 x c : Nat) = (Hs.turns 64 x a b c : Nat) := by
  rw [u64_xor_nat _ _ (Hs.ror_lt 64 x a hx) (Hs.ror_lt 64 x b hx),u64_xor_nat _ _ (Nat.xor_lt_two_pow (n := 64) (Hs.ror_lt 64 x a hx) (Hs.ror_lt 64 x b hx)) (Hs.ror_lt 64 x c hx)]
  rfl
set_option maxHeartbeats 4000000 in
set_option maxRecDepth 100000 in
theorem Hs.turns64 (x a b c : Nat) (hx : x < 18446744073709551616) (ha : a ≤ 64) (hb : b ≤ 64) (hc : c ≤ 64) (w : World) :
    Calls Tryz.prog 118 #[.int .u64 (x : Int),.agg #[.int .u64 (a : Int),.int .u64 (b : Int),.int .u64 (c : Int)],.int .u64 64] w fun e w' => e = .returned (.int .u64 (Hs.turns 64 x a b c : Nat)) ∧ Below w.heap.size w w' := by
  have C1 := Lib.hid (fun w => Hs.turned64 x a hx ha w)
  have C2 := Lib.hid (fun w => Hs.turned64 x b hx hb w)
  have C3 := Lib.hid (fun w => Hs.turned64 x c hx hc w)
  have HX := Lib.hid (Hs.xor3_64 x a b c hx)
  go_enter Tryz.func118,Tryz.ntmps118
  go_wp2_with fail
  go_quiet (first | (go_at_call 129; with_reducible exact Calls.quiet_of_same (C1.out _)) | (go_at_call 129; with_reducible exact Calls.quiet_of_same (C2.out _)) | (go_at_call 129; with_reducible exact Calls.quiet_of_same (C3.out _)))
  go_wp2
  go_ret
  refine ⟨congrArg (fun z => Ending.returned (.int .u64 z)) HX.out,?_⟩
  exact below_drewN ((Below.refl _ _).alloc (Nat.le_refl _) _) nq
end
section
section
open Go.RowKit
theorem Hs.infoP : (Tryz.prog.info? 131).map (·.size) = some 23 := by kernel_rfl
/-- The plan's cells, of kind 0. -/
def Hs.pc0 : Array Value := #[.int .i64 4,.int .i64 8,.int .i64 64,.int .u64 7,.int .u64 18,.int .u64 3,.int .u64 17,.int .u64 19,.int .u64 10,.int .u64 6,.int .u64 11,.int .u64 25,.int .u64 2,.int .u64 13,.int .u64 22,.int .u64 1779033703,.int .u64 3144134277,.int .u64 1013904242,.int .u64 2773480762,.int .u64 1359893119,.int .u64 2600822924,.int .u64 528734635,.int .u64 1541459225]
theorem Hs.pcOk0 : Hs.pc0.all (·.oneCell') = true := by kernel_rfl
theorem Hs.pcAt0 (w : World) (j : Nat) (v : Value) (h : Hs.pc0[j]? = some v) : (w.alloc (.cells Hs.pc0 131)).cell? ⟨w.heap.size,j,none⟩ = some v := by
  simp only [World.cell?,heap_alloc_new]
  simpa using h
/-- The plan's cells, of kind 1. -/
def Hs.pc1 : Array Value := #[.int .i64 8,.int .i64 6,.int .i64 80,.int .u64 1,.int .u64 8,.int .u64 7,.int .u64 19,.int .u64 61,.int .u64 6,.int .u64 14,.int .u64 18,.int .u64 41,.int .u64 28,.int .u64 34,.int .u64 39,.int .u64 14680500436340154072,.int .u64 7105036623409894663,.int .u64 10473403895298186519,.int .u64 1526699215303891257,.int .u64 7436329637833083697,.int .u64 10282925794625328401,.int .u64 15784041429090275239,.int .u64 5167115440072839076]
theorem Hs.pcOk1 : Hs.pc1.all (·.oneCell') = true := by kernel_rfl
theorem Hs.pcAt1 (w : World) (j : Nat) (v : Value) (h : Hs.pc1[j]? = some v) : (w.alloc (.cells Hs.pc1 131)).cell? ⟨w.heap.size,j,none⟩ = some v := by
  simp only [World.cell?,heap_alloc_new]
  simpa using h
set_option maxHeartbeats 4000000 in
set_option maxRecDepth 100000 in
theorem Hs.planOf0 (w : World) :
    Calls Tryz.prog 82 #[.int .i64 0] w fun e w' => e = .returned (.agg Hs.pc0) ∧ Below w.heap.size w w' := by
  go_enter Tryz.func82,Tryz.ntmps82
  go_wp2_with (refine wpList_store_row rfl 131 (.tmp 2) (.tmp 10) rfl w.heap.size Hs.pc0 rfl rfl 131 _ (heap_alloc_new w _) Hs.infoP (by kernel_rfl) Hs.pcOk0 ?_; rw [World.setRow_alloc_new])
  exact bodyPost_ret (v := .agg Hs.pc0) (results_cell_row rfl _ _ w.heap.size 131 Hs.pc0 (0,0) _ rfl (heap_alloc_new w _) Tryz.underlying131 rfl Hs.infoP) rfl ⟨rfl,(Below.refl _ _).alloc (Nat.le_refl _) _⟩
set_option maxHeartbeats 4000000 in
set_option maxRecDepth 100000 in
theorem Hs.planOf1 (w : World) :
    Calls Tryz.prog 82 #[.int .i64 1] w fun e w' => e = .returned (.agg Hs.pc1) ∧ Below w.heap.size w w' := by
  go_enter Tryz.func82,Tryz.ntmps82
  go_wp2_with (refine wpList_store_row rfl 131 (.tmp 2) (.tmp 16) rfl w.heap.size Hs.pc1 rfl rfl 131 _ (heap_alloc_new w _) Hs.infoP (by kernel_rfl) Hs.pcOk1 ?_; rw [World.setRow_alloc_new])
  exact bodyPost_ret (v := .agg Hs.pc1) (results_cell_row rfl _ _ w.heap.size 131 Hs.pc1 (0,0) _ rfl (heap_alloc_new w _) Tryz.underlying131 rfl Hs.infoP) rfl ⟨rfl,(Below.refl _ _).alloc (Nat.le_refl _) _⟩
set_option maxHeartbeats 4000000 in
set_option maxRecDepth 100000 in
theorem Hs.block0 (w : World) :
    Calls Tryz.prog 83 #[.agg Hs.pc0] w fun e w' => e = .returned (.int .i64 64) ∧ Below w.heap.size w w' := by
  have c0 := Hs.pcAt0 w 0 (.int .i64 4) rfl
  go_enter Tryz.func83,Tryz.ntmps83
  go_wp2
  go_ret
  exact ⟨rfl,(Below.refl _ _).alloc (Nat.le_refl _) _⟩
set_option maxHeartbeats 4000000 in
set_option maxRecDepth 100000 in
theorem Hs.block1 (w : World) :
    Calls Tryz.prog 83 #[.agg Hs.pc1] w fun e w' => e = .returned (.int .i64 128) ∧ Below w.heap.size w w' := by
  have c0 := Hs.pcAt1 w 0 (.int .i64 8) rfl
  go_enter Tryz.func83,Tryz.ntmps83
  go_wp2
  go_ret
  exact ⟨rfl,(Below.refl _ _).alloc (Nat.le_refl _) _⟩
set_option maxHeartbeats 4000000 in
set_option maxRecDepth 100000 in
theorem Hs.known_any (k : Int) (w : World) :
    Calls Tryz.prog 81 #[.int .i64 k] w fun e w' => e = .returned (.bool (decide (k = 0 ∨ k = 1))) ∧ w' = w := by
  by_cases h0 : k = 0
  · subst h0
    go_enter Tryz.func81,Tryz.ntmps81
    go_wp2
    go_ret
    exact ⟨rfl,rfl⟩
  · by_cases h1 : k = 1
    · subst h1
      go_enter Tryz.func81,Tryz.ntmps81
      go_wp2
      go_ret
      exact ⟨rfl,rfl⟩
    · have t0 : (k == 0) = false := by rw [beq_eq_false_iff_ne]; exact h0
      have t1 : (k == 1) = false := by rw [beq_eq_false_iff_ne]; exact h1
      rw [decide_eq_false (by omega : ¬ (k = 0 ∨ k = 1))]
      go_enter Tryz.func81,Tryz.ntmps81
      go_wp2
      go_ret
      exact ⟨rfl,rfl⟩
/-- The cells of a hash: its kind, its state, what is not summed yet, how much was written. -/
def Hs.cells (kind : Int) (st rest : List Value) (n : Int) : Array Value := (.int .i64 kind :: (st ++ (rest ++ [.int .i64 n]))).toArray
end
section
open Go.RowKit

structure Hs.Up (w0 w : World) : Prop where
  below : Below w0.heap.size w0 w
  size : w0.heap.size ≤ w.heap.size
theorem Hs.Up.start (w : World) : Hs.Up w w := ⟨Below.refl _ _,Nat.le_refl _⟩
theorem Hs.Up.then {w0 w w' : World} (hb : Below w.heap.size w w') (h : Hs.Up w0 w) : Hs.Up w0 w' := ⟨h.below.trans (hb.mono h.size),Nat.le_trans h.size hb.size⟩
theorem Hs.Up.alloc {w0 w : World} (h : Hs.Up w0 w) (o : Obj) : Hs.Up w0 (w.alloc o) := Hs.Up.then ((Below.refl _ _).alloc (Nat.le_refl _) o) h
theorem Hs.drewN_below (w : World) : ∀ n,Below w.heap.size w (w.drewN n) := below_drewN (Below.refl _ _)
theorem Hs.Up.drewN {w0 w : World} (h : Hs.Up w0 w) (n : Nat) : Hs.Up w0 (w.drewN n) := Hs.Up.then (Hs.drewN_below w n) h

/-- n cells of a kind, told by a function. -/
def Hs.row (k : IntKind) (n : Nat) (f : Nat → Nat) : Array Value := ((List.range n).map fun j => Value.int k (f j : Int)).toArray
theorem Hs.row_size (k : IntKind) (n : Nat) (f : Nat → Nat) : (Hs.row k n f).size = n := by simp [Hs.row]
theorem Hs.row_get (k : IntKind) (n : Nat) (f : Nat → Nat) (j : Nat) (h : j < n) : (Hs.row k n f)[j]? = some (.int k (f j : Int)) := by
  simp [Hs.row,h]
theorem Hs.row_set (k : IntKind) (n : Nat) (f : Nat → Nat) (i x : Nat) : (Hs.row k n f).setIfInBounds i (.int k (x : Int)) = Hs.row k n (fun j => if j = i then x else f j) := by
  apply Array.ext_getElem?
  intro j
  rw [Array.getElem?_setIfInBounds]
  by_cases hj : j < n
  · rw [Hs.row_get _ _ _ _ hj]
    by_cases hi : i = j
    · subst hi
      rw [if_pos rfl,if_pos (by rw [Hs.row_size]; exact hj),Hs.row_get _ _ _ _ hj,if_pos rfl]
    · rw [if_neg hi,Hs.row_get _ _ _ _ hj,if_neg (fun e => hi e.symm)]
  · have h1 : (Hs.row k n f)[j]? = none := by rw [Array.getElem?_eq_none]; rw [Hs.row_size]; omega
    have h2 : (Hs.row k n (fun j => if j = i then x else f j))[j]? = none := by rw [Array.getElem?_eq_none]; rw [Hs.row_size]; omega
    rw [h1,h2]
    split
    · rw [if_neg (by rw [Hs.row_size]; omega)]
    · rfl
theorem Hs.row_congr (k : IntKind) (n : Nat) (f g : Nat → Nat) (h : ∀ j,j < n → f j = g j) : Hs.row k n f = Hs.row k n g := by
  unfold Hs.row
  congr 1
  apply List.map_congr_left
  intro j hj
  rw [h j (List.mem_range.1 hj)]
theorem Hs.row_one (k : IntKind) (n : Nat) (f : Nat → Nat) : (Hs.row k n f).all (·.oneCell') = true := by
  rw [Array.all_eq_true_iff_forall_mem]
  intro v hv
  simp only [Hs.row,List.mem_toArray,List.mem_map] at hv
  obtain ⟨j,_,rfl⟩ := hv
  rfl
/-- Block b is an array of n numbers of kind k, of type T, told by f. -/
def Hs.Arr (w : World) (b : Nat) (T : TypeId) (k : IntKind) (n : Nat) (f : Nat → Nat) : Prop := w.heap[b]? = some (.cells (Hs.row k n f) T (0,0))
theorem Hs.Arr.cell {w : World} {b n : Nat} {T : TypeId} {k : IntKind} {f : Nat → Nat} (h : Hs.Arr w b T k n f) {j : Nat} (hj : j < n) : w.cell? ⟨b,j,none⟩ = some (.int k (f j : Int)) := by
  have h' : w.heap[b]? = some (.cells (Hs.row k n f) T (0,0)) := h
  simp only [World.cell?,h']
  exact Hs.row_get k n f j hj
theorem Hs.Arr.frozen {w : World} {b n : Nat} {T : TypeId} {k : IntKind} {f : Nat → Nat} (h : Hs.Arr w b T k n f) (j : Nat) : w.frozen? ⟨b,j,none⟩ = false := by
  have h' : w.heap[b]? = some (.cells (Hs.row k n f) T (0,0)) := h
  simp [World.frozen?,h']
theorem Hs.Arr.set {w : World} {b n : Nat} {T : TypeId} {k : IntKind} {f : Nat → Nat} (h : Hs.Arr w b T k n f) (i x : Nat) : Hs.Arr (w.setCell ⟨b,i,none⟩ (.int k (x : Int))) b T k n (fun j => if j = i then x else f j) := by
  have h' : w.heap[b]? = some (.cells (Hs.row k n f) T (0,0)) := h
  have : (w.setCell ⟨b,i,none⟩ (.int k (x : Int))).heap[b]? = some (.cells ((Hs.row k n f).setIfInBounds i (.int k (x : Int))) T (0,0)) := by
    simp [World.setCell,Array.getElem?_modify,h']
  rw [Hs.row_set] at this
  exact this
theorem Hs.Arr.congr {w : World} {b n : Nat} {T : TypeId} {k : IntKind} {f g : Nat → Nat} (h : Hs.Arr w b T k n f) (e : ∀ j,j < n → f j = g j) : Hs.Arr w b T k n g := by
  unfold Hs.Arr at *
  rw [← Hs.row_congr k n f g e]; exact h
theorem Hs.Arr.lt {w : World} {b n : Nat} {T : TypeId} {k : IntKind} {f : Nat → Nat} (h : Hs.Arr w b T k n f) : b < w.heap.size := (Array.getElem?_eq_some_iff.1 h).1
theorem Hs.Arr.below {w w' : World} {b B n : Nat} {T : TypeId} {k : IntKind} {f : Nat → Nat} (h : Hs.Arr w b T k n f) (hb : Below B w w') (hB : b < B) : Hs.Arr w' b T k n f := (hb.block b hB).trans h
/-- A block that another block's store leaves alone. -/
theorem Hs.heap_set (w : World) (p : Addr) (v : Value) (b : Nat) (h : b ≠ p.block) : (w.setCell p v).heap[b]? = w.heap[b]? := by
  simp only [World.setCell,Array.getElem?_modify]
  rw [if_neg (fun e => h e.symm)]
/-- The zero value of an array of 80 numbers. -/
theorem Hs.info81 : (Tryz.prog.info? 164).map (fun i => (i.zero,i.size)) = some (some (.agg (Hs.row .u32 80 fun _ => 0)),80) := by kernel_rfl
theorem Hs.info83 : (Tryz.prog.info? 166).map (fun i => (i.zero,i.size)) = some (some (.agg (Hs.row .u64 80 fun _ => 0)),80) := by kernel_rfl
theorem Hs.zero81 (w : World) : (zeroValue 164).run Tryz.prog w = .ok (.agg (Hs.row .u32 80 fun _ => 0)) w := (zero_of_info Hs.info81).1 w
theorem Hs.zero83 (w : World) : (zeroValue 166).run Tryz.prog w = .ok (.agg (Hs.row .u64 80 fun _ => 0)) w := (zero_of_info Hs.info83).1 w
theorem Hs.size81 : (Tryz.prog.info? 164).map (·.size) = some 80 := (zero_of_info Hs.info81).2
theorem Hs.size83 : (Tryz.prog.info? 166).map (·.size) = some 80 := (zero_of_info Hs.info83).2

/-- The bytes of a word, so many of them; the word. -/
def Hs.part (n wb : Nat) (B : Nat → Nat) (i : Nat) : Nat → Nat
  | 0 => 0
  | k + 1 => Hs.part n wb B i k * 256 % 2 ^ n ||| B (i * wb + k)
theorem Hs.part_lt (n wb : Nat) (B : Nat → Nat) (i : Nat) (hn : 8 ≤ n) (hB : ∀ j,B j < 256) : ∀ k,Hs.part n wb B i k < 2 ^ n
  | 0 => Nat.two_pow_pos n
  | k + 1 => Nat.or_lt_two_pow (Nat.mod_lt _ (Nat.two_pow_pos n)) (Nat.lt_of_lt_of_le (hB _) (Nat.pow_le_pow_right (n := 2) (by decide) hn))
end
end
end Go.Proofs.YthlecdggkolgmaaGreatDoor
