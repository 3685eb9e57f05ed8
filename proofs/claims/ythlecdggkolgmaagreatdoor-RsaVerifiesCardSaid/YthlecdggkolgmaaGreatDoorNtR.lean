/- The errors of package nat: which variable holds which, errors.Is, told. -/
import Derived.Test.YthlecdggkolgmaaGreatDoorProg
import Derived.WalkKit
import Derived.LaidEql
import Derived.Stop.Asserts
import Derived.RowKitTokens
import Derived.Handy
import Derived.Below
import Derived.Lib.Hide
namespace Go.Proofs.YthlecdggkolgmaaGreatDoor
open Go.RowKit Go.Extern.Stop Go.Stop Go.Extern

theorem Nt.tyE (v : Value) (w : World) : (Extern.ReflectliteType.typeOf #[.iface 200 v]).run Tryz.prog w = .ok (.iface 105 (.agg #[.pointer (some ⟨13,200,none⟩)])) w := by kernel_rfl
def Nt.cmpS : Array Value → Sem Value := Extern.ReflectliteType.method fun t => do Rtype.noPackHeld "Comparable" t; pure (.bool (← typeInfo t).comparable)
theorem Nt.cmpE (w : World) : (Nt.cmpS #[.agg #[.pointer (some ⟨13,200,none⟩)]]).run Tryz.prog w = .ok (.bool true) w := by kernel_rfl
theorem Nt.okE : (Tryz.prog.info? 200).map (·.comparable) = some true := by kernel_rfl
theorem Nt.sizeE : (Tryz.prog.info? 222).map (·.size) = some 1 := by kernel_rfl
theorem Nt.noIs (v : Value) (xT : TypeId) (w : World) : (Instr.typeAssert (.iface 200 v) xT 107 true).run Tryz.prog w = .ok (.tuple #[.nilIface,.bool false]) w := run_typeAssert_lacksB Tryz.underlying107 (by kernel_rfl) (by kernel_rfl) v xT w
theorem Nt.noUn (v : Value) (xT : TypeId) (w : World) : (Instr.typeAssert (.iface 200 v) xT 110 true).run Tryz.prog w = .ok (.tuple #[.nilIface,.bool false]) w := run_typeAssert_lacksB Tryz.underlying110 (by kernel_rfl) (by kernel_rfl) v xT w
theorem Nt.noUns (v : Value) (xT : TypeId) (w : World) : (Instr.typeAssert (.iface 200 v) xT 112 true).run Tryz.prog w = .ok (.tuple #[.nilIface,.bool false]) w := run_typeAssert_lacksB Tryz.underlying112 (by kernel_rfl) (by kernel_rfl) v xT w
theorem Nt.is_one (a : Addr) (w : World) :
    Calls Tryz.prog 25 #[.iface 200 (.pointer (some a)),.iface 200 (.pointer (some a))] w fun e w' => e = .returned (.bool true) ∧ w' = w := by
  obtain ⟨i,hi,hcmp⟩ := Option.map_eq_some_iff.1 Nt.okE
  obtain ⟨j,hj,hjs⟩ := Option.map_eq_some_iff.1 Nt.sizeE
  have h8 := @run_callFunc_extern Tryz.prog 46 _ Extern.ReflectliteType.typeOf Tryz.func46 (by kernel_rfl) (by kernel_rfl) (by kernel_rfl) (by kernel_rfl)
  have h32 := @run_callFunc_extern Tryz.prog 172 _ Nt.cmpS Tryz.func172 (by kernel_rfl) (by kernel_rfl) (by kernel_rfl) (by kernel_rfl)
  have tT := Nt.tyE
  have cT := Nt.cmpE
  have heq := run_eql_iface_ptr_same (P := Tryz.prog) w a Tryz.underlying33 Tryz.underlying200 hi hcmp hj
  go_enter Tryz.func25,Tryz.ntmps25
  go_wp2
  refine wp_loop_rounds 1 ?_
  rw [rounds_succ]
  go_wp2
  go_ret
  exact ⟨rfl,rfl⟩
theorem Nt.is_two (a b : Addr) (ca cb : Array Value) (ta tb : TypeId) (w : World) (hne : a ≠ b) (ha : w.heap[a.block]? = some (.cells ca ta (0,0))) (hb : w.heap[b.block]? = some (.cells cb tb (0,0))) :
    Calls Tryz.prog 25 #[.iface 200 (.pointer (some a)),.iface 200 (.pointer (some b))] w fun e w' => e = .returned (.bool false) ∧ w' = w := by
  obtain ⟨i,hi,hcmp⟩ := Option.map_eq_some_iff.1 Nt.okE
  obtain ⟨j,hj,hjs⟩ := Option.map_eq_some_iff.1 Nt.sizeE
  have h8 := @run_callFunc_extern Tryz.prog 46 _ Extern.ReflectliteType.typeOf Tryz.func46 (by kernel_rfl) (by kernel_rfl) (by kernel_rfl) (by kernel_rfl)
  have h32 := @run_callFunc_extern Tryz.prog 172 _ Nt.cmpS Tryz.func172 (by kernel_rfl) (by kernel_rfl) (by kernel_rfl) (by kernel_rfl)
  have tT := Nt.tyE
  have cT := Nt.cmpE
  have nE := Nt.noIs
  have uE := Nt.noUn
  have vE := Nt.noUns
  have heq := run_eql_iface_ptr_other (P := Tryz.prog) w Tryz.underlying33 Tryz.underlying200 hi hcmp hj (by rw [hjs]; decide) hne ha hb
  go_enter Tryz.func25,Tryz.ntmps25
  go_wp2
  refine wp_loop_rounds 1 ?_
  rw [rounds_succ]
  go_wp2
  go_ret
  exact ⟨rfl,rfl⟩

/-- The variable of the error with this number, and its text. -/
def Nt.gOf (k : Nat) : Nat := if k = 30 then 6 else if k = 31 then 4 else if k = 32 then 7 else if k = 33 then 8 else if k = 34 then 9 else 5
def Nt.tOf (k : Nat) : List UInt8 := if k = 30 then [110,97,116,58,32,97,32,110,117,109,98,101,114,32,111,102,32,116,111,111,32,109,97,110,121,32,98,121,116,101,115] else if k = 31 then [110,97,116,58,32,100,105,118,105,115,105,111,110,32,98,121,32,48] else if k = 32 then [110,97,116,58,32,97,32,100,105,102,102,101,114,101,110,99,101,32,98,101,108,111,119,32,48] else if k = 33 then [110,97,116,58,32,110,111,32,105,110,118,101,114,115,101] else if k = 34 then [110,97,116,58,32,97,110,32,101,118,101,110,32,109,111,100,117,108,117,115] else [110,97,116,58,32,105,116,32,100,111,101,115,32,110,111,116,32,102,105,116,32,105,110,116,111,32,115,111,32,109,97,110,121,32,98,121,116,101,115]
structure Nt.Var (w : World) (k : Nat) (a : Addr) : Prop where
  var : w.cell? ⟨Nt.gOf k,0,none⟩ = some (.iface 200 (.pointer (some a)))
  str : ∃ z : ByteArray,w.cell? a = some (.string z) ∧ z.data.toList = Nt.tOf k
  blk : ∃ c t,w.heap[a.block]? = some (.cells c t (0,0))
/-- The package-level variables hold what their initialisers lay. -/
def Nt.Ok (w : World) : Prop := ∀ k,30 ≤ k → k ≤ 35 → ∃ a,Nt.Var w k a
theorem Nt.Var.below {w w' : World} {k : Nat} {a : Addr} (h : Nt.Var w k a) (hb : Below w.heap.size w w') : Nt.Var w' k a := by
  obtain ⟨z,h1,h2⟩ := h.str
  obtain ⟨c,t,h3⟩ := h.blk
  have l1 := World.block_lt_of_cell? w _ h.var
  have l2 := World.block_lt_of_cell? w _ h1
  exact ⟨(hb.cell l1).trans h.var,⟨z,(hb.cell l2).trans h1,h2⟩,⟨c,t,(hb.block _ l2).trans h3⟩⟩
theorem Nt.Ok.below {w w' : World} (h : Nt.Ok w) (hb : Below w.heap.size w w') : Nt.Ok w' := fun k h1 h2 => by
  obtain ⟨a,ha⟩ := h k h1 h2
  exact ⟨a,ha.below hb⟩
theorem Nt.Var.uniq {w : World} {k : Nat} {a b : Addr} (h : Nt.Var w k a) (g : Nt.Var w k b) : a = b := by
  have := h.var.symm.trans g.var
  simpa using this
theorem Nt.Var.ne {w : World} {k j : Nat} {a b : Addr} (h : Nt.Var w k a) (g : Nt.Var w j b) (ht : Nt.tOf k ≠ Nt.tOf j) : a ≠ b := by
  rintro rfl
  obtain ⟨z,h1,h2⟩ := h.str
  obtain ⟨z2,g1,g2⟩ := g.str
  have := h1.symm.trans g1
  simp only [Option.some.injEq,Value.string.injEq] at this
  exact ht (by rw [← h2,← g2,this])
/-- An error that is told as k (0: none). -/
def Nt.Err (w : World) (v : Value) (k : Nat) : Prop := (k = 0 ∧ v = .nilIface) ∨ (30 ≤ k ∧ k ≤ 35 ∧ ∃ a,v = .iface 200 (.pointer (some a)) ∧ Nt.Var w k a)
theorem Nt.Err.below {w w' : World} {v : Value} {k : Nat} (h : Nt.Err w v k) (hb : Below w.heap.size w w') : Nt.Err w' v k := by
  rcases h with h | ⟨h1,h2,a,h3,h4⟩
  · exact .inl h
  · exact .inr ⟨h1,h2,a,h3,h4.below hb⟩
theorem Nt.told_nil (w : World) : Calls Tryz.prog 93 #[.nilIface] w fun e w' => e = .returned (.int .i64 0) ∧ w' = w := by
  go_enter Tryz.func93,Tryz.ntmps93
  go_wp2
  go_ret
  exact ⟨rfl,rfl⟩
set_option maxHeartbeats 1000000 in
theorem Nt.told_var (w : World) (ok : Nt.Ok w) (k : Nat) (a : Addr) (h1 : 30 ≤ k) (h2 : k ≤ 35) (h : Nt.Var w k a) : Calls Tryz.prog 93 #[.iface 200 (.pointer (some a))] w fun e w' => e = .returned (.int .i64 (k : Int)) ∧ w' = w := by
  obtain ⟨a0,v0⟩ := ok 30 (by decide) (by decide)
  obtain ⟨a1,v1⟩ := ok 31 (by decide) (by decide)
  obtain ⟨a2,v2⟩ := ok 32 (by decide) (by decide)
  obtain ⟨a3,v3⟩ := ok 33 (by decide) (by decide)
  obtain ⟨a4,v4⟩ := ok 34 (by decide) (by decide)
  obtain ⟨a5,v5⟩ := ok 35 (by decide) (by decide)
  have n0 : k ≠ 30 → a ≠ a0 := fun hk => h.ne v0 (by have : k = 31 ∨ k = 32 ∨ k = 33 ∨ k = 34 ∨ k = 35 := (by omega); rcases this with rfl | rfl | rfl | rfl | rfl <;> decide)
  have n1 : k ≠ 31 → a ≠ a1 := fun hk => h.ne v1 (by have : k = 30 ∨ k = 32 ∨ k = 33 ∨ k = 34 ∨ k = 35 := (by omega); rcases this with rfl | rfl | rfl | rfl | rfl <;> decide)
  have n2 : k ≠ 32 → a ≠ a2 := fun hk => h.ne v2 (by have : k = 31 ∨ k = 30 ∨ k = 33 ∨ k = 34 ∨ k = 35 := (by omega); rcases this with rfl | rfl | rfl | rfl | rfl <;> decide)
  have n3 : k ≠ 33 → a ≠ a3 := fun hk => h.ne v3 (by have : k = 31 ∨ k = 32 ∨ k = 30 ∨ k = 34 ∨ k = 35 := (by omega); rcases this with rfl | rfl | rfl | rfl | rfl <;> decide)
  have n4 : k ≠ 34 → a ≠ a4 := fun hk => h.ne v4 (by have : k = 31 ∨ k = 32 ∨ k = 33 ∨ k = 30 ∨ k = 35 := (by omega); rcases this with rfl | rfl | rfl | rfl | rfl <;> decide)
  have n5 : k ≠ 35 → a ≠ a5 := fun hk => h.ne v5 (by have : k = 31 ∨ k = 32 ∨ k = 33 ∨ k = 34 ∨ k = 30 := (by omega); rcases this with rfl | rfl | rfl | rfl | rfl <;> decide)
  obtain ⟨cA,tA,hA⟩ := h.blk
  obtain ⟨c0,t0,b0⟩ := v0.blk
  obtain ⟨c1,t1,b1⟩ := v1.blk
  obtain ⟨c2,t2,b2⟩ := v2.blk
  obtain ⟨c3,t3,b3⟩ := v3.blk
  obtain ⟨c4,t4,b4⟩ := v4.blk
  obtain ⟨c5,t5,b5⟩ := v5.blk
  have x0 : w.cell? ⟨6,0,none⟩ = some (.iface 200 (.pointer (some a0))) := v0.var
  have x1 : w.cell? ⟨4,0,none⟩ = some (.iface 200 (.pointer (some a1))) := v1.var
  have x2 : w.cell? ⟨7,0,none⟩ = some (.iface 200 (.pointer (some a2))) := v2.var
  have x3 : w.cell? ⟨8,0,none⟩ = some (.iface 200 (.pointer (some a3))) := v3.var
  have x4 : w.cell? ⟨9,0,none⟩ = some (.iface 200 (.pointer (some a4))) := v4.var
  have x5 : w.cell? ⟨5,0,none⟩ = some (.iface 200 (.pointer (some a5))) := v5.var
  have hk : k = 30 ∨ k = 31 ∨ k = 32 ∨ k = 33 ∨ k = 34 ∨ k = 35 := by omega
  have HU := Lib.hid (And.intro h (And.intro v0 (And.intro v1 (And.intro v2 (And.intro v3 (And.intro v4 v5))))))
  have HN := Lib.hid (And.intro n0 (And.intro n1 (And.intro n2 (And.intro n3 (And.intro n4 n5)))))
  have HB := Lib.hid (And.intro hA (And.intro b0 (And.intro b1 (And.intro b2 (And.intro b3 (And.intro b4 b5))))))
  clear h v0 v1 v2 v3 v4 v5 n0 n1 n2 n3 n4 n5 hA b0 b1 b2 b3 b4 b5 h1 h2
  have e30 : k = 30 → a = a0 := fun e => by subst e; exact HU.out.1.uniq HU.out.2.1
  have e31 : k = 31 → a = a1 := fun e => by subst e; exact HU.out.1.uniq HU.out.2.2.1
  have e32 : k = 32 → a = a2 := fun e => by subst e; exact HU.out.1.uniq HU.out.2.2.2.1
  have e33 : k = 33 → a = a3 := fun e => by subst e; exact HU.out.1.uniq HU.out.2.2.2.2.1
  have e34 : k = 34 → a = a4 := fun e => by subst e; exact HU.out.1.uniq HU.out.2.2.2.2.2.1
  have e35 : k = 35 → a = a5 := fun e => by subst e; exact HU.out.1.uniq HU.out.2.2.2.2.2.2
  rcases hk with rfl | rfl | rfl | rfl | rfl | rfl
  · obtain rfl := e30 rfl
    clear e30 e31 e32 e33 e34 e35
    go_enter Tryz.func93,Tryz.ntmps93
    go_wp2_with (go_at_call 25; (first | (with_reducible refine (Nt.is_one _ _).mono ?_)); rintro e w' ⟨rfl,rfl⟩)
    go_ret
    exact ⟨rfl,rfl⟩
  · obtain rfl := e31 rfl
    clear e30 e31 e32 e33 e34 e35
    go_enter Tryz.func93,Tryz.ntmps93
    go_wp2_with (go_at_call 25; (first | (with_reducible refine (Nt.is_two a a0 _ _ _ _ _ (HN.out.1 (by decide)) HB.out.1 HB.out.2.1).mono ?_) | (with_reducible refine (Nt.is_one _ _).mono ?_)); rintro e w' ⟨rfl,rfl⟩)
    go_ret
    exact ⟨rfl,rfl⟩
  · obtain rfl := e32 rfl
    clear e30 e31 e32 e33 e34 e35
    go_enter Tryz.func93,Tryz.ntmps93
    go_wp2_with (go_at_call 25; (first | (with_reducible refine (Nt.is_two a a0 _ _ _ _ _ (HN.out.1 (by decide)) HB.out.1 HB.out.2.1).mono ?_) | (with_reducible refine (Nt.is_two a a1 _ _ _ _ _ (HN.out.2.1 (by decide)) HB.out.1 HB.out.2.2.1).mono ?_) | (with_reducible refine (Nt.is_one _ _).mono ?_)); rintro e w' ⟨rfl,rfl⟩)
    go_ret
    exact ⟨rfl,rfl⟩
  · obtain rfl := e33 rfl
    clear e30 e31 e32 e33 e34 e35
    go_enter Tryz.func93,Tryz.ntmps93
    go_wp2_with (go_at_call 25; (first | (with_reducible refine (Nt.is_two a a0 _ _ _ _ _ (HN.out.1 (by decide)) HB.out.1 HB.out.2.1).mono ?_) | (with_reducible refine (Nt.is_two a a1 _ _ _ _ _ (HN.out.2.1 (by decide)) HB.out.1 HB.out.2.2.1).mono ?_) | (with_reducible refine (Nt.is_two a a2 _ _ _ _ _ (HN.out.2.2.1 (by decide)) HB.out.1 HB.out.2.2.2.1).mono ?_) | (with_reducible refine (Nt.is_one _ _).mono ?_)); rintro e w' ⟨rfl,rfl⟩)
    go_ret
    exact ⟨rfl,rfl⟩
  · obtain rfl := e34 rfl
    clear e30 e31 e32 e33 e34 e35
    go_enter Tryz.func93,Tryz.ntmps93
    go_wp2_with (go_at_call 25; (first | (with_reducible refine (Nt.is_two a a0 _ _ _ _ _ (HN.out.1 (by decide)) HB.out.1 HB.out.2.1).mono ?_) | (with_reducible refine (Nt.is_two a a1 _ _ _ _ _ (HN.out.2.1 (by decide)) HB.out.1 HB.out.2.2.1).mono ?_) | (with_reducible refine (Nt.is_two a a2 _ _ _ _ _ (HN.out.2.2.1 (by decide)) HB.out.1 HB.out.2.2.2.1).mono ?_) | (with_reducible refine (Nt.is_two a a3 _ _ _ _ _ (HN.out.2.2.2.1 (by decide)) HB.out.1 HB.out.2.2.2.2.1).mono ?_) | (with_reducible refine (Nt.is_one _ _).mono ?_)); rintro e w' ⟨rfl,rfl⟩)
    go_ret
    exact ⟨rfl,rfl⟩
  · obtain rfl := e35 rfl
    clear e30 e31 e32 e33 e34 e35
    go_enter Tryz.func93,Tryz.ntmps93
    go_wp2_with (go_at_call 25; (first | (with_reducible refine (Nt.is_two a a0 _ _ _ _ _ (HN.out.1 (by decide)) HB.out.1 HB.out.2.1).mono ?_) | (with_reducible refine (Nt.is_two a a1 _ _ _ _ _ (HN.out.2.1 (by decide)) HB.out.1 HB.out.2.2.1).mono ?_) | (with_reducible refine (Nt.is_two a a2 _ _ _ _ _ (HN.out.2.2.1 (by decide)) HB.out.1 HB.out.2.2.2.1).mono ?_) | (with_reducible refine (Nt.is_two a a3 _ _ _ _ _ (HN.out.2.2.2.1 (by decide)) HB.out.1 HB.out.2.2.2.2.1).mono ?_) | (with_reducible refine (Nt.is_two a a4 _ _ _ _ _ (HN.out.2.2.2.2.1 (by decide)) HB.out.1 HB.out.2.2.2.2.2.1).mono ?_) | (with_reducible refine (Nt.is_one _ _).mono ?_)); rintro e w' ⟨rfl,rfl⟩)
    go_ret
    exact ⟨rfl,rfl⟩
theorem Nt.told_any (w : World) (ok : Nt.Ok w) (v : Value) (k : Nat) (h : Nt.Err w v k) : Calls Tryz.prog 93 #[v] w fun e w' => e = .returned (.int .i64 (k : Int)) ∧ w' = w := by
  rcases h with ⟨rfl,rfl⟩ | ⟨h1,h2,a,rfl,h⟩
  · exact Nt.told_nil w
  · exact Nt.told_var w ok k a h1 h2 h
end Go.Proofs.YthlecdggkolgmaaGreatDoor
