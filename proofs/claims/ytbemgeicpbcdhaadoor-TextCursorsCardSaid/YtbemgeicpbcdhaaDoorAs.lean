/- errors.As at the target *text.fault, over a chain of wrapped errors of package text: what it answers, and that it leaves what lay below as it was. -/
import Derived.Test.YtbemgeicpbcdhaaDoorProg
import Derived.WalkKit
import Derived.LaidEql
import Derived.Stop.Asserts
import Derived.RowKitTokens
import Derived.Handy
import Derived.Deep.LoopGhost
import Derived.Lib.Hide
namespace Go.Proofs.YtbemgeicpbcdhaaDoor
open Go.RowKit Go.Extern.Stop Go.Stop Go.Extern

theorem As.valueOfT (t : Addr) (w : World) : (ReflectliteValue.unpack (.iface 73 (.pointer (some t)))).run Tryd.prog w
    = .ok (.agg #[.pointer (some ⟨4, 73, none⟩), .pointer (some ⟨w.heap.size, 0, none⟩), .int .u64 150]) (w.alloc (.cells #[.pointer (some t)] 73)) := by kernel_rfl
theorem As.typeT (a : Addr) (w : World) : (ReflectliteValue.methodAny (ReflectliteValue.valueError "reflectlite.Value.Type" 0) (fun t _ _ _ => ReflectliteType.toType t) #[.agg #[.pointer (some ⟨4, 73, none⟩), .pointer (some a), .int .u64 150]]).run Tryd.prog w
    = .ok (.iface 103 (.agg #[.pointer (some ⟨4, 73, none⟩)])) w := by kernel_rfl
theorem As.kindT (w : World) : ((ReflectliteType.abiMethod fun t => (fun a : Nat => Value.int IntKind.u8 (a : Int)) <$> Rtype.kind t) #[.pointer (some ⟨4, 73, none⟩)]).run Tryd.prog w = .ok (.int .u8 22) w := by kernel_rfl
theorem As.kindF (w : World) : ((ReflectliteType.abiMethod fun t => (fun a : Nat => Value.int IntKind.u8 (a : Int)) <$> Rtype.kind t) #[.pointer (some ⟨4, 69, none⟩)]).run Tryd.prog w = .ok (.int .u8 25) w := by kernel_rfl
theorem As.rlm (z : Sem Value) (f : TypeId → Addr → Nat → Nat → Sem Value) (v : Value) :
    ReflectliteValue.method z f #[v] = (do match ← ReflectliteValue.parts v with | none => z | some (t, a, fl) => f t a fl (fl % 32)) := rfl
theorem As.partsT (a : Addr) (w : World) : (ReflectliteValue.parts (.agg #[.pointer (some ⟨4, 73, none⟩), .pointer (some a), .int .u64 150])).run Tryd.prog w = .ok (some (73, a, 150)) w := by kernel_rfl
theorem As.isNilT (a p : Addr) (W : World) (ha : W.cell? a = some (.pointer (some p))) :
    (ReflectliteValue.method (ReflectliteValue.valueError "reflectlite.Value.IsNil" 0) ReflectliteValue.isNil #[.agg #[.pointer (some ⟨4, 73, none⟩), .pointer (some a), .int .u64 150]]).run Tryd.prog W = .ok (.bool false) W := by
  rw [As.rlm]
  simp only [Sem.run_bind, As.partsT, Result.andThen]
  simp [ReflectliteValue.isNil, loadVar, isAgg, underlying, Tryd.underlying73, ha, Result.andThen]
theorem As.elemT (w : World) : (ReflectliteType.method ReflectliteType.elem #[.agg #[.pointer (some ⟨4, 73, none⟩)]]).run Tryd.prog w = .ok (.iface 103 (.agg #[.pointer (some ⟨4, 69, none⟩)])) w := by kernel_rfl
theorem As.implementsF (w : World) : (ReflectliteType.relation "Implements" ReflectliteType.implements_ #[.agg #[.pointer (some ⟨4, 69, none⟩)], .iface 103 (.agg #[.pointer (some ⟨4, 56, none⟩)])]).run Tryd.prog w = .ok (.bool true) w := by kernel_rfl
theorem As.typeOfF (v : Value) (w : World) : (ReflectliteType.typeOf #[.iface 69 v]).run Tryd.prog w = .ok (.iface 103 (.agg #[.pointer (some ⟨4, 69, none⟩)])) w := by kernel_rfl
theorem As.typeOfP (v : Value) (w : World) : (ReflectliteType.typeOf #[.iface 71 v]).run Tryd.prog w = .ok (.iface 103 (.agg #[.pointer (some ⟨4, 71, none⟩)])) w := by kernel_rfl
theorem As.assignableF (w : World) : (ReflectliteType.relation "AssignableTo" ReflectliteType.assignableTo #[.agg #[.pointer (some ⟨4, 69, none⟩)], .iface 103 (.agg #[.pointer (some ⟨4, 69, none⟩)])]).run Tryd.prog w = .ok (.bool true) w := by kernel_rfl
theorem As.assignableP (w : World) : (ReflectliteType.relation "AssignableTo" ReflectliteType.assignableTo #[.agg #[.pointer (some ⟨4, 71, none⟩)], .iface 103 (.agg #[.pointer (some ⟨4, 69, none⟩)])]).run Tryd.prog w = .ok (.bool false) w := by kernel_rfl
theorem As.valueOfF (c : Int) (w : World) : (ReflectliteValue.unpack (.iface 69 (.agg #[.int .i64 c]))).run Tryd.prog w
    = .ok (.agg #[.pointer (some ⟨4, 69, none⟩), .pointer (some ⟨w.heap.size, 0, none⟩), .int .u64 153]) (w.alloc (.cells #[.int .i64 c] 69)) := by kernel_rfl
theorem As.elemOfT (w : World) : (Rtype.elem? 73).run Tryd.prog w = .ok (some 69) w := by kernel_rfl
theorem As.mkF (p : Addr) (w : World) : (ReflectliteValue.mk 69 p ReflectliteValue.flagAddr).run Tryd.prog w = .ok (.agg #[.pointer (some ⟨4, 69, none⟩), .pointer (some p), .int .u64 409]) w := by kernel_rfl
theorem As.elemVT (a p : Addr) (W : World) (ha : W.cell? a = some (.pointer (some p))) :
    (ReflectliteValue.method (ReflectliteValue.valueError "reflectlite.Value.Elem" 0) ReflectliteValue.elem #[.agg #[.pointer (some ⟨4, 73, none⟩), .pointer (some a), .int .u64 150]]).run Tryd.prog W
      = .ok (.agg #[.pointer (some ⟨4, 69, none⟩), .pointer (some p), .int .u64 409]) W := by
  rw [As.rlm]
  simp only [Sem.run_bind, As.partsT, Result.andThen]
  simp [ReflectliteValue.elem, loadVar, isAgg, underlying, Tryd.underlying73, ha, Result.andThen, As.elemOfT, As.mkF]
theorem As.rls (v x : Value) : ReflectliteValue.set #[v, x] = (do
    let (some (dst, a, fl), some (src, b, _)) := (← ReflectliteValue.parts v, ← ReflectliteValue.parts x)
      | unsupported (.noEntry "extern/(internal/reflectlite.Value).Set.zeroValue")
    if fl / ReflectliteValue.flagAddr % 2 == 0 then unsupported (.noEntry "extern/(internal/reflectlite.Value).Set.unaddressable")
    let val ← loadVar src b
    if ← Rtype.directlyAssignable dst src then storeVar dst a val
    else if ← Rtype.implements dst src then
      if (← Rtype.kind src) == 20 then
        match val with
        | .nilIface => unsupported (.noEntry "extern/reflectlite: a nil value of one interface type handed on as a value of another")
        | _ => storeVar dst a val
      else storeVar dst a (.iface src val)
    else panicString ("reflectlite.Set: value of type " ++ (← Rtype.spelt src) ++ " is not assignable to type " ++ (← Rtype.spelt dst))
    pure (.tuple #[])) := rfl
theorem As.partsFa (a : Addr) (w : World) : (ReflectliteValue.parts (.agg #[.pointer (some ⟨4, 69, none⟩), .pointer (some a), .int .u64 409])).run Tryd.prog w = .ok (some (69, a, 409)) w := by kernel_rfl
theorem As.partsF (a : Addr) (w : World) : (ReflectliteValue.parts (.agg #[.pointer (some ⟨4, 69, none⟩), .pointer (some a), .int .u64 153])).run Tryd.prog w = .ok (some (69, a, 153)) w := by kernel_rfl
theorem As.directF (w : World) : (Rtype.directlyAssignable 69 69).run Tryd.prog w = .ok true w := by kernel_rfl
theorem As.cellsF : Tryd.prog.cellsOf 69 = 1 := by kernel_rfl
theorem As.sizeF (w : World) : (sizeOf 69).run Tryd.prog w = .ok 1 w := by kernel_rfl
theorem As.setF (ta b : Addr) (c : Int) (old : Value) (W : World) (hb : W.cell? b = some (.int .i64 c)) (ht : W.cell? ta = some old) (hf : W.frozen? ta = false) :
    (ReflectliteValue.set #[.agg #[.pointer (some ⟨4, 69, none⟩), .pointer (some ta), .int .u64 409], .agg #[.pointer (some ⟨4, 69, none⟩), .pointer (some b), .int .u64 153]]).run Tryd.prog W
      = .ok (.tuple #[]) (W.setCell ta (.int .i64 c)) := by
  rw [As.rls]
  simp only [Sem.run_bind, As.partsFa, As.partsF, Result.andThen]
  have hl := run_loadCells_list (P := Tryd.prog) (w := W) b [.int .i64 c] (by intro j v hj; match j, hj with | 0, hj => simp at hj; subst hj; simpa [Addr.add] using hb | j + 1, hj => simp at hj)
  simp [ReflectliteValue.flagAddr, loadVar, isAgg, underlying, Tryd.underlying69, Result.andThen, As.directF, storeVar, Value.cells, storeCells, Addr.add] at hl ⊢
  rw [hl]
  simp [storeCells, Addr.add]
  rw [run_store Tryd.prog W ta _ _ (by rfl)]
  simp [ht, hf]

/-- The errors of package text: a fault, or one that is placed some times. -/
inductive As.Chain (c : Int) : Nat → Value → Prop
  | fault : As.Chain c 0 (.iface 69 (.agg #[.int .i64 c]))
  | placed {k : Nat} {v : Value} (p : Int) : As.Chain c k v → As.Chain c (k + 1) (.iface 71 (.agg #[.int .i64 p, v]))
theorem As.Chain.iface {c : Int} {k : Nat} {v : Value} (h : As.Chain c k v) : ∃ T x, v = .iface T x := by cases h <;> exact ⟨_, _, rfl⟩

theorem As.assertAs (x : Value) (w : World) : (Instr.typeAssert (.iface 71 x) 56 108 true).run Tryd.prog w = .ok (.tuple #[.nilIface, .bool false]) w := run_typeAssert_lacksB Tryd.underlying108 (by kernel_rfl) (by kernel_rfl) x _ w
theorem As.assertUnwrap (x : Value) (w : World) : (Instr.typeAssert (.iface 71 x) 56 111 true).run Tryd.prog w = .ok (.tuple #[.iface 71 x, .bool true]) w := by kernel_rfl
set_option maxHeartbeats 4000000 in
theorem As.unwrap (p : Int) (v : Value) (w : World) : Calls Tryd.prog 68 #[.agg #[.int .i64 p, v]] w fun e w' => e = .returned v ∧ Below w.heap.size w w' := by
  go_enter Tryd.func68, Tryd.ntmps68
  go_wp2
  go_ret
  exact ⟨rfl, (Below.refl _ _).alloc (Nat.le_refl _) _⟩

set_option maxHeartbeats 4000000 in
set_option maxRecDepth 100000 in
theorem As.as_chain (c : Int) (n : Nat) (v : Value) (hv : As.Chain c n v) (t a : Addr) (old : Value) (w : World) (B : Nat) (hB : B ≤ t.block) (hBw : B ≤ w.heap.size)
    (ha : w.cell? a = some (.pointer (some t))) (ht : w.cell? t = some old) (hf : w.frozen? t = false) :
    Calls Tryd.prog 40 #[v, .iface 73 (.pointer (some t)), .agg #[.pointer (some ⟨4, 73, none⟩), .pointer (some a), .int .u64 150], .iface 103 (.agg #[.pointer (some ⟨4, 69, none⟩)])] w
      fun e w' => e = .returned (.bool true) ∧ Below B w w' ∧ w'.cell? t = some (.int .i64 c) := by
  have h66 := @run_callFunc_extern Tryd.prog 37 _ (fun args => ReflectliteValue.unpack (args.getD 0 (.tuple #[]))) Tryd.func37 (by kernel_rfl) (by kernel_rfl) (by kernel_rfl) (by kernel_rfl)
  have h75 := @run_callFunc_extern Tryd.prog 45 _ ReflectliteType.typeOf Tryd.func45 (by kernel_rfl) (by kernel_rfl) (by kernel_rfl) (by kernel_rfl)
  have h103 := @run_callFunc_extern Tryd.prog 73 _ (ReflectliteType.relation "AssignableTo" ReflectliteType.assignableTo) Tryd.func73 (by kernel_rfl) (by kernel_rfl) (by kernel_rfl) (by kernel_rfl)
  have h76 := @run_callFunc_extern Tryd.prog 46 _ (ReflectliteValue.method (ReflectliteValue.valueError "reflectlite.Value.Elem" 0) ReflectliteValue.elem) Tryd.func46 (by kernel_rfl) (by kernel_rfl) (by kernel_rfl) (by kernel_rfl)
  have h77 := @run_callFunc_extern Tryd.prog 47 _ ReflectliteValue.set Tryd.func47 (by kernel_rfl) (by kernel_rfl) (by kernel_rfl) (by kernel_rfl)
  have tO := As.typeOfF
  have tP := As.typeOfP
  have aF := As.assignableF
  have aP := As.assignableP
  have vF := As.valueOfF
  go_enter Tryd.func40, Tryd.ntmps40
  go_wp2
  obtain ⟨w1, hw1⟩ : ∃ w1, w1 = w.alloc (.cells #[.pointer (some ⟨4, 73, none⟩), .pointer (some a), .int .u64 150] 90) := ⟨_, rfl⟩
  have s1 : w1.heap.size = w.heap.size + 1 := by rw [hw1]; simp
  have c0 : w1.cell? ⟨w.heap.size, 0, none⟩ = some (.pointer (some ⟨4, 73, none⟩)) := by rw [hw1]; simp
  have c1 : w1.cell? ⟨w.heap.size, 1, none⟩ = some (.pointer (some a)) := by rw [hw1]; simp
  have c2 : w1.cell? ⟨w.heap.size, 2, none⟩ = some (.int .u64 150) := by rw [hw1]; simp
  have al : a.block < w.heap.size := World.block_lt_of_cell? w a ha
  have tl : t.block < w.heap.size := World.block_lt_of_cell? w t ht
  have b1 : Below w.heap.size w w1 := by rw [hw1]; exact (Below.refl _ _).alloc (Nat.le_refl _) _
  rw [← hw1]
  have H1 := Lib.hid hw1
  have HC := Lib.hid (And.intro c0 (And.intro c1 (And.intro c2 (And.intro ha (And.intro ht (And.intro hf s1))))))
  clear hw1 c0 c1 c2 ha ht hf s1
  go_loopg [0] (n + 1) (fun gk s0 wx => Below w1.heap.size w1 wx ∧ ∃ m, m < gk ∧ As.Chain c m s0)
  case atStart => exact ⟨Below.refl _ _, n, by omega, hv⟩
  case round =>
    obtain ⟨hbw, m, hm, hch⟩ := hrel
    obtain ⟨c0, c1, c2, ha, ht, hf, s1⟩ := HC.out
    have x0 := (hbw.cell (p := ⟨w.heap.size, 0, none⟩) (by simp; omega)).trans c0
    have x1 := (hbw.cell (p := ⟨w.heap.size, 1, none⟩) (by simp; omega)).trans c1
    have x2 := (hbw.cell (p := ⟨w.heap.size, 2, none⟩) (by simp; omega)).trans c2
    have xa := (hbw.cell (p := a) (by omega)).trans ((b1.cell al).trans ha)
    have xt := (hbw.cell (p := t) (by omega)).trans ((b1.cell tl).trans ht)
    have xf := (hbw.frozen (p := t) (by omega)).trans ((b1.frozen tl).trans hf)
    have hsz := hbw.size
    clear c0 c1 c2 ha ht hf
    cases hch with
    | fault =>
      have el := As.elemVT a t wr xa
      have st := As.setF t ⟨wr.heap.size, 0, none⟩ c old (wr.alloc (.cells #[.int .i64 c] 69)) (by simp) ((World.cell?_alloc_lt _ _ t (by omega)).trans xt) ((World.frozen?_alloc_old _ _ t (by omega)).trans xf)
      go_wp2
      go_ret
      refine ⟨rfl, ?_, ?_⟩
      · exact (((b1.mono hBw).trans (hbw.mono (by omega))).alloc (by omega) _).setCell hB _
      · exact World.cell?_setCell_same _ _ _ ((World.cell?_alloc_lt _ _ t (by omega)).trans xt)
    | placed p hc' =>
      obtain ⟨Tv, xv, rfl⟩ := hc'.iface
      have tA := As.assertAs
      have tU := As.assertUnwrap
      go_wp2_with (go_at_call 68; refine (As.unwrap p _ _).mono ?_; rintro e w' ⟨rfl, hb'⟩)
      obtain ⟨g', rfl⟩ : ∃ g', gk = g' + 1 := ⟨gk - 1, by omega⟩
      go_roundg g'
      case rel => exact ⟨hbw.trans (hb'.mono hsz), _, by omega, hc'⟩
      omega

set_option maxHeartbeats 4000000 in
set_option maxRecDepth 100000 in
/-- errors.As, of such an error, at a target of its own kind. -/
theorem As.As_chain (c : Int) (n : Nat) (v : Value) (hv : As.Chain c n v) (t : Addr) (old : Value) (w : World) (B : Nat) (hB : B ≤ t.block) (hBw : B ≤ w.heap.size)
    (hg : w.cell? ⟨2, 0, none⟩ = some (.iface 103 (.agg #[.pointer (some ⟨4, 56, none⟩)]))) (ht : w.cell? t = some old) (hf : w.frozen? t = false) :
    Calls Tryd.prog 29 #[v, .iface 73 (.pointer (some t))] w
      fun e w' => e = .returned (.bool true) ∧ Below B w w' ∧ w'.cell? t = some (.int .i64 c) := by
  have h66 := @run_callFunc_extern Tryd.prog 37 _ (fun args => ReflectliteValue.unpack (args.getD 0 (.tuple #[]))) Tryd.func37 (by kernel_rfl) (by kernel_rfl) (by kernel_rfl) (by kernel_rfl)
  have h67 := @run_callFunc_extern Tryd.prog 38 _ (ReflectliteValue.methodAny (ReflectliteValue.valueError "reflectlite.Value.Type" 0) (fun t _ _ _ => ReflectliteType.toType t)) Tryd.func38 (by kernel_rfl) (by kernel_rfl) (by kernel_rfl) (by kernel_rfl)
  have h68 := @run_callFunc_extern Tryd.prog 39 _ (ReflectliteValue.method (ReflectliteValue.valueError "reflectlite.Value.IsNil" 0) ReflectliteValue.isNil) Tryd.func39 (by kernel_rfl) (by kernel_rfl) (by kernel_rfl) (by kernel_rfl)
  have h93 := @run_callFunc_extern Tryd.prog 63 _ (ReflectliteType.abiMethod fun t => do pure (.int .u8 (← Rtype.kind t))) Tryd.func63 (by kernel_rfl) (by kernel_rfl) (by kernel_rfl) (by kernel_rfl)
  have h105 := @run_callFunc_extern Tryd.prog 75 _ (ReflectliteType.method ReflectliteType.elem) Tryd.func75 (by kernel_rfl) (by kernel_rfl) (by kernel_rfl) (by kernel_rfl)
  have h106 := @run_callFunc_extern Tryd.prog 76 _ (ReflectliteType.relation "Implements" ReflectliteType.implements_) Tryd.func76 (by kernel_rfl) (by kernel_rfl) (by kernel_rfl) (by kernel_rfl)
  have vT := As.valueOfT
  have tT := As.typeT
  have kT := As.kindT
  have kF := As.kindF
  have eT := As.elemT
  have iF := As.implementsF
  have hlt : 3 ≤ w.heap.size := by have := World.block_lt_of_cell? w _ hg; simp at this; omega
  have tl : t.block < w.heap.size := World.block_lt_of_cell? w t ht
  obtain ⟨Tv, xv, rfl⟩ := hv.iface
  obtain ⟨wa, hwa⟩ : ∃ wa, wa = (w.alloc (.cells #[.pointer (some t)] 73)).alloc (.cells #[.pointer (some ⟨4, 73, none⟩), .pointer (some ⟨w.heap.size, 0, none⟩), .int .u64 150] 90) := ⟨_, rfl⟩
  have sa : wa.heap.size = w.heap.size + 2 := by rw [hwa]; simp
  have ba : Below w.heap.size w wa := by rw [hwa]; exact ((Below.refl _ _).alloc (by simp) _).alloc (by simp) _
  have ca : wa.cell? ⟨w.heap.size, 0, none⟩ = some (.pointer (some t)) := by rw [hwa]; simp
  have n8 := As.isNilT ⟨w.heap.size, 0, none⟩ t wa ca
  rw [hwa] at n8
  have hg2 := (ba.cell (p := ⟨2, 0, none⟩) (by simp; omega)).trans hg
  rw [hwa] at hg2
  have HA := Lib.hid (And.intro ca (And.intro ht (And.intro hf (And.intro sa hwa))))
  clear ca ht hf sa hwa hg
  go_enter Tryd.func29, Tryd.ntmps29
  go_wp2_with fail
  obtain ⟨ca, ht, hf, sa, hwa⟩ := HA.out
  rw [← hwa]
  refine (As.as_chain c n _ hv t _ old wa B hB (by omega) ca ((ba.cell tl).trans ht) ((ba.frozen tl).trans hf)).mono ?_
  rintro e w' ⟨rfl, hb, hc⟩
  clear ca ht hf sa hwa
  go_wp2_with fail
  go_ret
  exact ⟨rfl, (ba.mono hBw).trans hb, hc⟩

set_option maxHeartbeats 4000000 in
set_option maxRecDepth 100000 in
theorem As.told_nil (w : World) : Calls Tryd.prog 22 #[.nilIface] w fun e w' => e = .returned (.int .i64 0) ∧ w = w' := by
  go_enter Tryd.func22, Tryd.ntmps22
  go_wp2
  go_ret
  exact ⟨rfl, rfl⟩

/-- The variable errors.errorType holds what its initialiser lays. -/
def As.ErrVar (w : World) : Prop := w.cell? ⟨2, 0, none⟩ = some (.iface 103 (.agg #[.pointer (some ⟨4, 56, none⟩)]))
theorem As.ErrVar.size {w : World} (h : As.ErrVar w) : 3 ≤ w.heap.size := by have := World.block_lt_of_cell? w _ h; simp at this; omega
theorem As.ErrVar.below {w w' : World} {B : Nat} (h : As.ErrVar w) (hb : Below B w w') (hB : 3 ≤ B) : As.ErrVar w' := (hb.cell (p := ⟨2, 0, none⟩) (by simp; omega)).trans h

set_option maxHeartbeats 4000000 in
set_option maxRecDepth 100000 in
theorem As.told_err (c : Int) (n : Nat) (v : Value) (hv : As.Chain c n v) (w : World) (hg : As.ErrVar w) :
    Calls Tryd.prog 22 #[v] w fun e w' => e = .returned (.int .i64 c) ∧ Below w.heap.size w w' := by
  have hsz := hg.size
  obtain ⟨Tv, xv, rfl⟩ := hv.iface
  have hg1 : (w.alloc (.cells #[.int .i64 0] 69)).cell? ⟨2, 0, none⟩ = some (.iface 103 (.agg #[.pointer (some ⟨4, 56, none⟩)])) := (World.cell?_alloc_lt _ _ _ (by simp; omega)).trans hg
  have cA := As.As_chain c n _ hv ⟨w.heap.size, 0, none⟩ (.int .i64 0) (w.alloc (.cells #[.int .i64 0] 69)) w.heap.size (Nat.le_refl _) (by simp) hg1 (by simp) (by simp)
  have CA := Lib.hid cA
  clear cA hg hg1
  go_enter Tryd.func22, Tryd.ntmps22
  go_wp2_with fail
  refine CA.out.mono ?_
  rintro e w' ⟨rfl, hb, hc⟩
  go_wp2_with fail
  go_ret
  exact ⟨rfl, ((Below.refl _ _).alloc (Nat.le_refl _) _).trans hb⟩
end Go.Proofs.YtbemgeicpbcdhaaDoor
