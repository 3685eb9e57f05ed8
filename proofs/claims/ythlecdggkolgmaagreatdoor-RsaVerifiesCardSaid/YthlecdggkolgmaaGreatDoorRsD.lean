/- Masks: mask, Mask. -/
import Derived.Test.YthlecdggkolgmaaGreatDoorNtR
import Derived.Deep.LoopGhost
import Derived.Test.YthlecdggkolgmaaGreatDoorNyD
import Derived.Test.YthlecdggkolgmaaGreatDoorHsW
import Derived.Test.YthlecdggkolgmaaGreatDoorNyK
import Derived.Test.YthlecdggkolgmaaGreatDoorRwA
namespace Go.Proofs.YthlecdggkolgmaaGreatDoor
section
section
section
open Go.RowKit Go.Extern.Stop Go.Stop Go.Extern
/-- An error that ends at the variable's text at a, wrapped n times. -/
inductive Rs.Chain (a : Addr) : Nat → Value → Prop
  | leaf : Rs.Chain a 0 (.iface 200 (.pointer (some a)))
  | about {n : Nat} {v : Value} (p : ByteArray) : Rs.Chain a n v → Rs.Chain a (n + 1) (.iface 53 (.agg #[.string p,v]))
theorem Rs.Chain.iface {a : Addr} {n : Nat} {v : Value} (h : Rs.Chain a n v) : ∃ T x,v = .iface T x := by cases h <;> exact ⟨_,_,rfl⟩
theorem Rs.noIs (x : Value) (w : World) : (Instr.typeAssert (.iface 53 x) 33 107 true).run Tryz.prog w = .ok (.tuple #[.nilIface,.bool false]) w := run_typeAssert_lacksB Tryz.underlying107 (by kernel_rfl) (by kernel_rfl) x _ w
theorem Rs.hasUn (x : Value) (w : World) : (Instr.typeAssert (.iface 53 x) 33 110 true).run Tryz.prog w = .ok (.tuple #[.iface 53 x,.bool true]) w := run_typeAssert_hasB Tryz.underlying110 (by kernel_rfl) x _ w
theorem Rs.unwrap (p : ByteArray) (v : Value) (w : World) : Calls Tryz.prog 167 #[.agg #[.string p,v]] w fun e w' => e = .returned v ∧ Below w.heap.size w w' := by
  go_enter Tryz.func167,Tryz.ntmps167
  go_wp2
  go_ret
  exact ⟨rfl,(Below.refl _ _).alloc (Nat.le_refl _) _⟩
/-- Two variables' texts: the same, or in blocks of their own. -/
def Rs.Two (w : World) (a b : Addr) (r : Bool) : Prop := (a = b ∧ r = true) ∨ (a ≠ b ∧ r = false ∧ (∃ c t,w.heap[a.block]? = some (.cells c t (0,0))) ∧ ∃ c t,w.heap[b.block]? = some (.cells c t (0,0)))
theorem Rs.Two.below {w w' : World} {a b : Addr} {r : Bool} (h : Rs.Two w a b r) (hb : Below w.heap.size w w') : Rs.Two w' a b r := by
  rcases h with h | ⟨h1,h2,⟨c,t,h3⟩,d,u,h4⟩
  · exact .inl h
  · exact .inr ⟨h1,h2,⟨c,t,(hb.block _ (Array.getElem?_eq_some_iff.1 h3).1).trans h3⟩,d,u,(hb.block _ (Array.getElem?_eq_some_iff.1 h4).1).trans h4⟩
set_option maxHeartbeats 4000000 in
set_option maxRecDepth 100000 in
theorem Rs.is_chain (a b : Addr) (n : Nat) (v : Value) (hv : Rs.Chain a n v) (r : Bool) (w : World) (h2 : Rs.Two w a b r) :
    Calls Tryz.prog 47 #[v,.iface 200 (.pointer (some b)),.bool true] w fun e w' => e = .returned (.bool r) ∧ Below w.heap.size w w' := by
  obtain ⟨i,hi,hcmp⟩ := Option.map_eq_some_iff.1 Nt.okE
  obtain ⟨j,hj,hjs⟩ := Option.map_eq_some_iff.1 Nt.sizeE
  have HI := Lib.hid (And.intro hi (And.intro hcmp (And.intro hj hjs)))
  clear hi hcmp hj hjs
  have H0 := Lib.hid (And.intro hv h2)
  clear hv h2
  go_enter Tryz.func47,Tryz.ntmps47
  go_wp2
  go_loopg [0] (n + 1) (fun gk s0 wx => Below w.heap.size w wx ∧ ∃ m,m < gk ∧ Rs.Chain a m s0)
  case atStart => exact ⟨Below.refl _ _,n,by omega,H0.out.1⟩
  case round =>
    obtain ⟨hbw,m,hm,hch⟩ := hrel
    have hT := H0.out.2.below hbw
    cases hch with
    | leaf =>
      rcases hT with ⟨rfl,rfl⟩ | ⟨hne,rfl,⟨c,t,ha⟩,d,u,hb⟩
      · have heq := run_eql_iface_ptr_same (P := Tryz.prog) wr a Tryz.underlying33 Tryz.underlying200 HI.out.1 HI.out.2.1 HI.out.2.2.1
        go_wp2
        go_ret
        exact ⟨rfl,hbw⟩
      · have heq := run_eql_iface_ptr_other (P := Tryz.prog) wr Tryz.underlying33 Tryz.underlying200 HI.out.1 HI.out.2.1 HI.out.2.2.1 (by rw [HI.out.2.2.2]; decide) hne ha hb
        have nE := Nt.noIs
        have uE := Nt.noUn
        have vE := Nt.noUns
        clear ha hb
        go_wp2
        go_ret
        exact ⟨rfl,hbw⟩
    | about p hc =>
      obtain ⟨Tv,xv,rfl⟩ := hc.iface
      have hty := fun (x y : Value) (W : World) => run_eql_iface_types (P := Tryz.prog) 53 200 x y Tryz.underlying33 (by decide) W
      have nE := Rs.noIs
      have uE := Rs.hasUn
      have HT := Lib.hid (And.intro hbw (And.intro hm hc))
      clear hbw hm hc hT
      go_wp2_with (go_at_call 167; refine (Rs.unwrap p _ _).mono ?_; rintro e w' ⟨rfl,hb'⟩)
      obtain ⟨g',rfl⟩ : ∃ g',gk = g' + 1 := ⟨gk - 1,by have := HT.out.2.1; omega⟩
      go_roundg g'
      case rel => exact ⟨HT.out.1.trans (hb'.mono HT.out.1.size),_,by have := HT.out.2.1; omega,HT.out.2.2⟩
      omega
set_option maxHeartbeats 1000000 in
set_option maxRecDepth 100000 in
theorem Rs.Is_any (a b : Addr) (n : Nat) (v : Value) (hv : Rs.Chain a n v) (r : Bool) (w : World) (h2 : Rs.Two w a b r) :
    Calls Tryz.prog 25 #[v,.iface 200 (.pointer (some b))] w fun e w' => e = .returned (.bool r) ∧ Below w.heap.size w w' := by
  have h8 := @run_callFunc_extern Tryz.prog 46 _ Extern.ReflectliteType.typeOf Tryz.func46 (by kernel_rfl) (by kernel_rfl) (by kernel_rfl) (by kernel_rfl)
  have h32 := @run_callFunc_extern Tryz.prog 172 _ Nt.cmpS Tryz.func172 (by kernel_rfl) (by kernel_rfl) (by kernel_rfl) (by kernel_rfl)
  have tT := Nt.tyE
  have cT := Nt.cmpE
  have HC := Lib.hid (Rs.is_chain a b n v hv r w h2)
  obtain ⟨Tv,xv,rfl⟩ := hv.iface
  clear hv h2
  go_enter Tryz.func25,Tryz.ntmps25
  go_wp2_with (go_at_call 47; refine HC.out.mono ?_; rintro e w' ⟨rfl,hb'⟩)
  go_ret
  exact ⟨rfl,hb'⟩
/-- The variable of the error with this number, and its text. -/
def Rs.gOf (k : Nat) : Nat := if k = 40 then 0 else if k = 41 then 1 else if k = 42 then 2 else 3
def Rs.tOf (k : Nat) : List UInt8 := if k = 40 then [114,115,97,58,32,110,111,32,107,101,121] else if k = 41 then [114,115,97,58,32,97,32,115,105,103,110,97,116,117,114,101,32,111,102,32,97,110,111,116,104,101,114,32,115,105,122,101,44,32,111,114,32,116,111,111,32,103,114,101,97,116] else if k = 42 then [114,115,97,58,32,116,104,101,32,98,108,111,99,107,32,100,111,101,115,32,110,111,116,32,102,105,116] else [114,115,97,58,32,110,111,32,115,117,99,104,32,115,99,104,101,109,101]
structure Rs.Var (w : World) (k : Nat) (a : Addr) : Prop where
  var : w.cell? ⟨Rs.gOf k,0,none⟩ = some (.iface 200 (.pointer (some a)))
  str : ∃ z : ByteArray,w.cell? a = some (.string z) ∧ z.data.toList = Rs.tOf k
  blk : ∃ c t,w.heap[a.block]? = some (.cells c t (0,0))
/-- The package-level variables hold what their initialisers lay. -/
def Rs.Ok (w : World) : Prop := Nt.Ok w ∧ ∀ k,40 ≤ k → k ≤ 42 → ∃ a,Rs.Var w k a
theorem Rs.Var.below {w w' : World} {k : Nat} {a : Addr} (h : Rs.Var w k a) (hb : Below w.heap.size w w') : Rs.Var w' k a := by
  obtain ⟨z,h1,h2⟩ := h.str
  obtain ⟨c,t,h3⟩ := h.blk
  have l1 := World.block_lt_of_cell? w _ h.var
  have l2 := World.block_lt_of_cell? w _ h1
  exact ⟨(hb.cell l1).trans h.var,⟨z,(hb.cell l2).trans h1,h2⟩,⟨c,t,(hb.block _ l2).trans h3⟩⟩
theorem Rs.Ok.below {w w' : World} (h : Rs.Ok w) (hb : Below w.heap.size w w') : Rs.Ok w' := ⟨h.1.below hb,fun k h1 h2 => by
  obtain ⟨a,ha⟩ := h.2 k h1 h2
  exact ⟨a,ha.below hb⟩⟩
theorem Rs.Var.two {w : World} {k j : Nat} {a b : Addr} (h : Rs.Var w k a) (g : Rs.Var w j b) (r : Bool) (hr : (k = j ∧ r = true) ∨ (Rs.tOf k ≠ Rs.tOf j ∧ r = false)) : Rs.Two w a b r := by
  rcases hr with ⟨rfl,rfl⟩ | ⟨ht,rfl⟩
  · refine .inl ⟨?_,rfl⟩
    have := h.var.symm.trans g.var
    simpa using this
  · refine .inr ⟨?_,rfl,h.blk,g.blk⟩
    rintro rfl
    obtain ⟨z,h1,h2⟩ := h.str
    obtain ⟨z2,g1,g2⟩ := g.str
    have := h1.symm.trans g1
    simp only [Option.some.injEq,Value.string.injEq] at this
    exact ht (by rw [← h2,← g2,this])
/-- An error that is told of the variable k (0: none). -/
def Rs.Err (w : World) (v : Value) (k : Nat) : Prop := (k = 0 ∧ v = .nilIface) ∨ (40 ≤ k ∧ k ≤ 43 ∧ ∃ a n,Rs.Chain a n v ∧ Rs.Var w k a)
theorem Rs.Err.below {w w' : World} {v : Value} {k : Nat} (h : Rs.Err w v k) (hb : Below w.heap.size w w') : Rs.Err w' v k := by
  rcases h with h | ⟨h1,h2,a,n,h3,h4⟩
  · exact .inl h
  · exact .inr ⟨h1,h2,a,n,h3,h4.below hb⟩
theorem Rs.Err.about {w : World} {v : Value} {k : Nat} (h : Rs.Err w v k) (h0 : k ≠ 0) (p : ByteArray) : Rs.Err w (.iface 53 (.agg #[.string p,v])) k := by
  rcases h with ⟨h,_⟩ | ⟨h1,h2,a,n,h3,h4⟩
  · exact absurd h h0
  · exact .inr ⟨h1,h2,a,n + 1,.about p h3,h4⟩
theorem Rs.told_nil (w : World) : Calls Tryz.prog 10 #[.nilIface] w fun e w' => e = .returned (.int .i64 0) ∧ Below w.heap.size w w' := by
  go_enter Tryz.func10,Tryz.ntmps10
  go_wp2
  go_ret
  exact ⟨rfl,Below.refl _ _⟩
/-- The number that a face tells. -/
def Rs.num (k : Nat) : Nat := if k = 43 then 1 else k
set_option maxHeartbeats 1000000 in
set_option maxRecDepth 100000 in
theorem Rs.told_40 (w : World) (ok : Rs.Ok w) (a : Addr) (n : Nat) (v : Value) (hc : Rs.Chain a n v) (h : Rs.Var w 40 a) : Calls Tryz.prog 10 #[v] w fun e w' => e = .returned (.int .i64 40) ∧ Below w.heap.size w w' := by
  obtain ⟨a40,v40⟩ := ok.2 40 (by decide) (by decide)
  have t40 := h.two v40 true (.inl ⟨rfl,rfl⟩)
  have x40 : w.cell? ⟨0,0,none⟩ = some (.iface 200 (.pointer (some a40))) := v40.var
  have HT := Lib.hid (And.intro hc (And.intro t40 (And.intro x40 True.intro)))
  obtain ⟨Tv,xv,rfl⟩ := hc.iface
  clear hc h ok v40 t40 
  have B0 := Below.refl w.heap.size w
  go_enter Tryz.func10,Tryz.ntmps10
  go_wp2_with fail
  go_at_call 25
  refine (Rs.Is_any a a40 n _ HT.out.1 true w (HT.out.2.1.below B0)).mono ?_
  rintro e1 w1 ⟨rfl,hb⟩
  have B1 := B0.trans (hb.mono B0.size)
  clear hb x40
  go_wp2_with fail
  go_ret
  exact ⟨rfl,B1⟩
set_option maxHeartbeats 1000000 in
set_option maxRecDepth 100000 in
theorem Rs.told_41 (w : World) (ok : Rs.Ok w) (a : Addr) (n : Nat) (v : Value) (hc : Rs.Chain a n v) (h : Rs.Var w 41 a) : Calls Tryz.prog 10 #[v] w fun e w' => e = .returned (.int .i64 41) ∧ Below w.heap.size w w' := by
  obtain ⟨a40,v40⟩ := ok.2 40 (by decide) (by decide)
  obtain ⟨a41,v41⟩ := ok.2 41 (by decide) (by decide)
  have t40 := h.two v40 false (.inr ⟨by decide,rfl⟩)
  have x40 : w.cell? ⟨0,0,none⟩ = some (.iface 200 (.pointer (some a40))) := v40.var
  have t41 := h.two v41 true (.inl ⟨rfl,rfl⟩)
  have x41 : w.cell? ⟨1,0,none⟩ = some (.iface 200 (.pointer (some a41))) := v41.var
  have HT := Lib.hid (And.intro hc (And.intro t40 (And.intro x40 (And.intro t41 (And.intro x41 True.intro)))))
  obtain ⟨Tv,xv,rfl⟩ := hc.iface
  clear hc h ok v40 t40 v41 t41 x41
  have B0 := Below.refl w.heap.size w
  go_enter Tryz.func10,Tryz.ntmps10
  go_wp2_with fail
  go_at_call 25
  refine (Rs.Is_any a a40 n _ HT.out.1 false w (HT.out.2.1.below B0)).mono ?_
  rintro e1 w1 ⟨rfl,hb⟩
  have B1 := B0.trans (hb.mono B0.size)
  clear hb x40
  have x41 := (B1.cell (p := ⟨1,0,none⟩) (World.block_lt_of_cell? w _ HT.out.2.2.2.2.1)).trans HT.out.2.2.2.2.1
  go_wp2_with fail
  go_at_call 25
  refine (Rs.Is_any a a41 n _ HT.out.1 true w1 (HT.out.2.2.2.1.below B1)).mono ?_
  rintro e2 w2 ⟨rfl,hb⟩
  have B2 := B1.trans (hb.mono B1.size)
  clear hb x41
  go_wp2_with fail
  go_ret
  exact ⟨rfl,B2⟩
set_option maxHeartbeats 1000000 in
set_option maxRecDepth 100000 in
theorem Rs.told_42 (w : World) (ok : Rs.Ok w) (a : Addr) (n : Nat) (v : Value) (hc : Rs.Chain a n v) (h : Rs.Var w 42 a) : Calls Tryz.prog 10 #[v] w fun e w' => e = .returned (.int .i64 42) ∧ Below w.heap.size w w' := by
  obtain ⟨a40,v40⟩ := ok.2 40 (by decide) (by decide)
  obtain ⟨a41,v41⟩ := ok.2 41 (by decide) (by decide)
  obtain ⟨a42,v42⟩ := ok.2 42 (by decide) (by decide)
  have t40 := h.two v40 false (.inr ⟨by decide,rfl⟩)
  have x40 : w.cell? ⟨0,0,none⟩ = some (.iface 200 (.pointer (some a40))) := v40.var
  have t41 := h.two v41 false (.inr ⟨by decide,rfl⟩)
  have x41 : w.cell? ⟨1,0,none⟩ = some (.iface 200 (.pointer (some a41))) := v41.var
  have t42 := h.two v42 true (.inl ⟨rfl,rfl⟩)
  have x42 : w.cell? ⟨2,0,none⟩ = some (.iface 200 (.pointer (some a42))) := v42.var
  have HT := Lib.hid (And.intro hc (And.intro t40 (And.intro x40 (And.intro t41 (And.intro x41 (And.intro t42 (And.intro x42 True.intro)))))))
  obtain ⟨Tv,xv,rfl⟩ := hc.iface
  clear hc h ok v40 t40 v41 t41 v42 t42 x41 x42
  have B0 := Below.refl w.heap.size w
  go_enter Tryz.func10,Tryz.ntmps10
  go_wp2_with fail
  go_at_call 25
  refine (Rs.Is_any a a40 n _ HT.out.1 false w (HT.out.2.1.below B0)).mono ?_
  rintro e1 w1 ⟨rfl,hb⟩
  have B1 := B0.trans (hb.mono B0.size)
  clear hb x40
  have x41 := (B1.cell (p := ⟨1,0,none⟩) (World.block_lt_of_cell? w _ HT.out.2.2.2.2.1)).trans HT.out.2.2.2.2.1
  go_wp2_with fail
  go_at_call 25
  refine (Rs.Is_any a a41 n _ HT.out.1 false w1 (HT.out.2.2.2.1.below B1)).mono ?_
  rintro e2 w2 ⟨rfl,hb⟩
  have B2 := B1.trans (hb.mono B1.size)
  clear hb x41
  have x42 := (B2.cell (p := ⟨2,0,none⟩) (World.block_lt_of_cell? w _ HT.out.2.2.2.2.2.2.1)).trans HT.out.2.2.2.2.2.2.1
  go_wp2_with fail
  go_at_call 25
  refine (Rs.Is_any a a42 n _ HT.out.1 true w2 (HT.out.2.2.2.2.2.1.below B2)).mono ?_
  rintro e3 w3 ⟨rfl,hb⟩
  have B3 := B2.trans (hb.mono B2.size)
  clear hb x42
  go_wp2_with fail
  go_ret
  exact ⟨rfl,B3⟩
set_option maxHeartbeats 1000000 in
set_option maxRecDepth 100000 in
theorem Rs.told_43 (w : World) (ok : Rs.Ok w) (a : Addr) (n : Nat) (v : Value) (hc : Rs.Chain a n v) (h : Rs.Var w 43 a) : Calls Tryz.prog 10 #[v] w fun e w' => e = .returned (.int .i64 1) ∧ Below w.heap.size w w' := by
  obtain ⟨a40,v40⟩ := ok.2 40 (by decide) (by decide)
  obtain ⟨a41,v41⟩ := ok.2 41 (by decide) (by decide)
  obtain ⟨a42,v42⟩ := ok.2 42 (by decide) (by decide)
  have t40 := h.two v40 false (.inr ⟨by decide,rfl⟩)
  have x40 : w.cell? ⟨0,0,none⟩ = some (.iface 200 (.pointer (some a40))) := v40.var
  have t41 := h.two v41 false (.inr ⟨by decide,rfl⟩)
  have x41 : w.cell? ⟨1,0,none⟩ = some (.iface 200 (.pointer (some a41))) := v41.var
  have t42 := h.two v42 false (.inr ⟨by decide,rfl⟩)
  have x42 : w.cell? ⟨2,0,none⟩ = some (.iface 200 (.pointer (some a42))) := v42.var
  have HT := Lib.hid (And.intro hc (And.intro t40 (And.intro x40 (And.intro t41 (And.intro x41 (And.intro t42 (And.intro x42 True.intro)))))))
  obtain ⟨Tv,xv,rfl⟩ := hc.iface
  clear hc h ok v40 t40 v41 t41 v42 t42 x41 x42
  have B0 := Below.refl w.heap.size w
  go_enter Tryz.func10,Tryz.ntmps10
  go_wp2_with fail
  go_at_call 25
  refine (Rs.Is_any a a40 n _ HT.out.1 false w (HT.out.2.1.below B0)).mono ?_
  rintro e1 w1 ⟨rfl,hb⟩
  have B1 := B0.trans (hb.mono B0.size)
  clear hb x40
  have x41 := (B1.cell (p := ⟨1,0,none⟩) (World.block_lt_of_cell? w _ HT.out.2.2.2.2.1)).trans HT.out.2.2.2.2.1
  go_wp2_with fail
  go_at_call 25
  refine (Rs.Is_any a a41 n _ HT.out.1 false w1 (HT.out.2.2.2.1.below B1)).mono ?_
  rintro e2 w2 ⟨rfl,hb⟩
  have B2 := B1.trans (hb.mono B1.size)
  clear hb x41
  have x42 := (B2.cell (p := ⟨2,0,none⟩) (World.block_lt_of_cell? w _ HT.out.2.2.2.2.2.2.1)).trans HT.out.2.2.2.2.2.2.1
  go_wp2_with fail
  go_at_call 25
  refine (Rs.Is_any a a42 n _ HT.out.1 false w2 (HT.out.2.2.2.2.2.1.below B2)).mono ?_
  rintro e3 w3 ⟨rfl,hb⟩
  have B3 := B2.trans (hb.mono B2.size)
  clear hb x42
  go_wp2_with fail
  go_ret
  exact ⟨rfl,B3⟩
theorem Rs.told_any (w : World) (ok : Rs.Ok w) (v : Value) (k : Nat) (h : Rs.Err w v k) : Calls Tryz.prog 10 #[v] w fun e w' => e = .returned (.int .i64 (Rs.num k : Nat)) ∧ Below w.heap.size w w' := by
  rcases h with ⟨rfl,rfl⟩ | ⟨h1,h2,a,n,hc,h⟩
  · exact Rs.told_nil w
  · have hk : k = 40 ∨ k = 41 ∨ k = 42 ∨ k = 43 := by omega
    rcases hk with rfl | rfl | rfl | rfl
    · exact Rs.told_40 w ok a n v hc h
    · exact Rs.told_41 w ok a n v hc h
    · exact Rs.told_42 w ok a n v hc h
    · exact Rs.told_43 w ok a n v hc h
end
section
open Go.RowKit
theorem Nt.toList_ne2 {s t : ByteArray} (h : s ≠ t) : ¬ s.toList = t.toList := fun e => h (by
  rw [Lib.toList_data,Lib.toList_data] at e
  cases s; cases t
  simp_all)
theorem Nt.toList_beq2 {s t : ByteArray} (h : s ≠ t) : (s.toList == t.toList) = false := by
  rw [beq_eq_false_iff_ne]
  exact Nt.toList_ne2 h
/-- An odd number's form, of least to most binary digits. -/
def Rs.odd (a : ByteArray) (least most : Nat) : Prop := least ≤ Nt.dig (Nt.nv a) ∧ Nt.dig (Nt.nv a) ≤ most ∧ Nt.ts a = a ∧ Nt.nv a % 2 = 1
instance Rs.odd_dec (a : ByteArray) (least most : Nat) : Decidable (Rs.odd a least most) := by unfold Rs.odd; infer_instance
set_option maxRecDepth 100000 in
theorem Rs.and8 : ∀ X : Fin 256,bits .and .u8 ((X.val : Nat) : Int) 1 = ((X.val % 2 : Nat) : Int) := by decide
theorem Rs.last (a : ByteArray) (p : Nat) (h : a.size = p + 1) (h2 : p < a.size) : Nt.nv a % 2 = (a[p]).toNat % 2 := by
  have hl : a.data.toList.length = p + 1 := by rw [← h]; simp
  have h3 : a.data.toList = a.data.toList.take p ++ [a[p]] := by
    have h4 : a.data.toList.drop p = [a[p]] := by
      rw [List.drop_eq_getElem_cons (by omega),List.drop_eq_nil_of_le (by omega)]
      rfl
    conv => lhs; rw [← List.take_append_drop p a.data.toList,h4]
  unfold Nt.nv
  rw [h3,Nt.rd_append]
  show (_ * 256 ^ 1 + (a[p].toNat * 256 ^ 0 + 0)) % 2 = _
  omega
set_option maxHeartbeats 2000000 in
set_option maxRecDepth 100000 in
theorem Rs.oddForm_any (w : World) (a : ByteArray) (least most : Nat) (ha : a.size ≤ 150000000000000) (hl : 0 < least) (hlb : least ≤ 100000) :
    Calls Tryz.prog 65 #[.string a,.int .i64 (least : Int),.int .i64 (most : Int)] w fun e w' => e = .returned (.bool (decide (Rs.odd a least most))) ∧ w' = w := by
  have hB := fun W => Nt.Bits_any W a ha
  have hT := fun W => Nt.Trim_any W a
  obtain ⟨D,hD⟩ : ∃ D,Nt.dig (Nt.nv a) = D := ⟨_,rfl⟩
  have hDb : D ≤ 1200000000000000 := by
    rw [← hD]
    refine Nat.le_trans (Nt.dig_of_lt _ (8 * a.size) ?_) (by omega)
    rw [Nat.pow_mul]
    exact Nt.nv_lt a
  rw [hD] at hB
  have HB := Lib.hid hB
  have HT := Lib.hid hT
  clear hB hT
  by_cases h1 : D < least
  · have hr : decide (Rs.odd a least most) = false := decide_eq_false (fun h => by have := h.1; omega)
    have h1z : ¬ (least : Int) ≤ (D : Int) := by omega
    rw [hr]
    clear hr hD
    go_enter Tryz.func65,Tryz.ntmps65
    go_wp2_with (go_at_call 66; refine Calls.mono (HB.out _) ?_; rintro e w' ⟨rfl,rfl⟩)
    go_ret
    exact ⟨rfl,rfl⟩
  have h1z : (least : Int) ≤ (D : Int) := by omega
  by_cases h2 : most < D
  · have hr : decide (Rs.odd a least most) = false := decide_eq_false (fun h => by have := h.2.1; omega)
    have h2z : ¬ (D : Int) ≤ (most : Int) := by omega
    rw [hr]
    clear hr hD
    go_enter Tryz.func65,Tryz.ntmps65
    go_wp2_with (go_at_call 66; refine Calls.mono (HB.out _) ?_; rintro e w' ⟨rfl,rfl⟩)
    go_ret
    exact ⟨rfl,rfl⟩
  have h2z : (D : Int) ≤ (most : Int) := by omega
  by_cases h3 : Nt.ts a = a
  · rw [h3] at HT
    have hne : a.size ≠ 0 := fun h0 => by
      have h4 := Nt.nv_lt a
      rw [h0,Nat.pow_zero] at h4
      have h5 : Nt.nv a = 0 := by omega
      rw [h5,Nt.dig_zero] at hD
      omega
    obtain ⟨p,hp⟩ : ∃ p,a.size - 1 = p := ⟨_,rfl⟩
    have hps : p < a.size := by omega
    have hlast := Rs.last a p (by omega) hps
    obtain ⟨c,hc⟩ : ∃ c,a[p] = c := ⟨_,rfl⟩
    obtain ⟨ch,hch⟩ : ∃ ch,c.toNat = ch := ⟨_,rfl⟩
    have hchb : ch < 256 := by rw [← hch]; exact c.toNat_lt
    rw [hc,hch] at hlast
    have hand : bits .and .u8 (ch : Int) 1 = ((ch % 2 : Nat) : Int) := Rs.and8 ⟨ch,hchb⟩
    obtain ⟨q,hq⟩ : ∃ q,ch % 2 = q := ⟨_,rfl⟩
    rw [hq] at hand hlast
    have hpz : (a.size : Int) - 1 = (p : Int) := by omega
    have hpz0 : 0 ≤ (p : Int) := by omega
    have hpl : (p : Int) < (a.size : Int) := by omega
    have hpb : (p : Int) ≤ 150000000000000 := by omega
    have hq2 : q = 0 ∨ q = 1 := by omega
    have hr : decide (Rs.odd a least most) = decide (q = 1) := by
      by_cases hq1 : q = 1
      · rw [decide_eq_true hq1]
        exact decide_eq_true ⟨by omega,by omega,h3,by omega⟩
      · rw [decide_eq_false hq1]
        exact decide_eq_false fun h => hq1 (by have := h.2.2.2; omega)
    rw [hr]
    clear hr hD hlast h3 hp hq hne
    rcases hq2 with rfl | rfl
    · go_enter Tryz.func65,Tryz.ntmps65
      go_wp2_with (first | (go_at_call 66; refine Calls.mono (HB.out _) ?_; rintro e w' ⟨rfl,rfl⟩) | (go_at_call 88; refine Calls.mono (HT.out _) ?_; rintro e w' ⟨rfl,rfl⟩))
      go_ret
      exact ⟨rfl,rfl⟩
    · go_enter Tryz.func65,Tryz.ntmps65
      go_wp2_with (first | (go_at_call 66; refine Calls.mono (HB.out _) ?_; rintro e w' ⟨rfl,rfl⟩) | (go_at_call 88; refine Calls.mono (HT.out _) ?_; rintro e w' ⟨rfl,rfl⟩))
      go_ret
      exact ⟨rfl,rfl⟩
  · have hr : decide (Rs.odd a least most) = false := decide_eq_false (fun h => h3 h.2.2.1)
    rw [hr]
    obtain ⟨t,ht⟩ : ∃ t,Nt.ts a = t := ⟨_,rfl⟩
    rw [ht] at HT h3
    have hb := Nt.toList_beq2 h3
    have hn := Nt.toList_ne2 h3
    clear hr hD ht h3
    go_enter Tryz.func65,Tryz.ntmps65
    go_wp2_with (first | (go_at_call 66; refine Calls.mono (HB.out _) ?_; rintro e w' ⟨rfl,rfl⟩) | (go_at_call 88; refine Calls.mono (HT.out _) ?_; rintro e w' ⟨rfl,rfl⟩))
    go_ret
    exact ⟨rfl,rfl⟩
theorem Rs.oddN (n : ByteArray) (hn : n.size ≤ 150000000000000) (W : World) : Calls Tryz.prog 65 #[.string n,.int .i64 512,.int .i64 2048] W fun e w' => e = .returned (.bool (decide (Rs.odd n 512 2048))) ∧ w' = W := Rs.oddForm_any W n 512 2048 hn (by decide) (by decide)
theorem Rs.oddE (n : ByteArray) (hn : n.size ≤ 150000000000000) (W : World) : Calls Tryz.prog 65 #[.string n,.int .i64 2,.int .i64 32] W fun e w' => e = .returned (.bool (decide (Rs.odd n 2 32))) ∧ w' = W := Rs.oddForm_any W n 2 32 hn (by decide) (by decide)
/-- Is a key refused? -/
def Rs.bad (n e : ByteArray) : Prop := ¬ (Rs.odd n 512 2048 ∧ Rs.odd e 2 32)
instance Rs.bad_dec (n e : ByteArray) : Decidable (Rs.bad n e) := by unfold Rs.bad; infer_instance
/-- A key as a value. -/
def Rs.key (n e : ByteArray) : Value := .agg #[.string n,.string e]
set_option maxHeartbeats 2000000 in
set_option maxRecDepth 100000 in
theorem Rs.checked_any (w : World) (ok : Rs.Ok w) (n e : ByteArray) (hn : n.size ≤ 150000000000000) (he : e.size ≤ 150000000000000) :
    Calls Tryz.prog 36 #[Rs.key n e] w fun r w' => ∃ v,r = .returned v ∧ Rs.Err w' v (if Rs.bad n e then 40 else 0) ∧ Below w.heap.size w w' := by
  obtain ⟨a,hv⟩ := ok.2 40 (by decide) (by decide)
  have hx : w.cell? ⟨0,0,none⟩ = some (.iface 200 (.pointer (some a))) := hv.var
  have hlt := World.block_lt_of_cell? w _ hx
  have HN := Lib.hid (Rs.oddN n hn)
  have HE := Lib.hid (Rs.oddE e he)
  obtain ⟨w1,hw1⟩ : ∃ w1,w1 = w.alloc (Obj.cells #[.string n,.string e] 25) := ⟨_,rfl⟩
  have b1 : Below w.heap.size w w1 := by rw [hw1]; exact (Below.refl _ _).alloc (Nat.le_refl _) _
  have x1 := (b1.cell (p := ⟨0,0,none⟩) hlt).trans hx
  have c0 : w1.cell? ⟨w.heap.size,0,none⟩ = some (.string n) := by rw [hw1]; simp
  have c1 : w1.cell? ⟨w.heap.size,1,none⟩ = some (.string e) := by rw [hw1]; simp
  have HV := Lib.hid (And.intro (hv.below b1) b1)
  have HW := Lib.hid hw1
  clear hv ok hx hlt b1 hw1
  unfold Rs.key
  by_cases h1 : Rs.odd n 512 2048
  · rw [decide_eq_true h1] at HN
    by_cases h2 : Rs.odd e 2 32
    · rw [decide_eq_true h2] at HE
      have hb : ¬ Rs.bad n e := fun h => h ⟨h1,h2⟩
      rw [if_neg hb]
      clear h1 h2 hb
      go_enter Tryz.func36,Tryz.ntmps36
      go_wp2_with fail
      rw [← HW.out]
      go_wp2_with (go_at_call 65; first | (with_reducible refine Calls.mono (HN.out _) ?_; rintro r w' ⟨rfl,rfl⟩) | (with_reducible refine Calls.mono (HE.out _) ?_; rintro r w' ⟨rfl,rfl⟩))
      go_ret
      exact ⟨_,rfl,.inl ⟨rfl,rfl⟩,HV.out.2⟩
    · rw [decide_eq_false h2] at HE
      have hb : Rs.bad n e := fun h => h2 h.2
      rw [if_pos hb]
      clear h1 h2 hb
      go_enter Tryz.func36,Tryz.ntmps36
      go_wp2_with fail
      rw [← HW.out]
      go_wp2_with (go_at_call 65; first | (with_reducible refine Calls.mono (HN.out _) ?_; rintro r w' ⟨rfl,rfl⟩) | (with_reducible refine Calls.mono (HE.out _) ?_; rintro r w' ⟨rfl,rfl⟩))
      go_ret
      exact ⟨_,rfl,.inr ⟨by decide,by decide,a,1,.about _ .leaf,HV.out.1⟩,HV.out.2⟩
  · rw [decide_eq_false h1] at HN
    have hb : Rs.bad n e := fun h => h1 h.1
    rw [if_pos hb]
    clear h1 hb
    go_enter Tryz.func36,Tryz.ntmps36
    go_wp2_with fail
    rw [← HW.out]
    go_wp2_with (go_at_call 65; (with_reducible refine Calls.mono (HN.out _) ?_; rintro r w' ⟨rfl,rfl⟩))
    go_ret
    exact ⟨_,rfl,.inr ⟨by decide,by decide,a,1,.about _ .leaf,HV.out.1⟩,HV.out.2⟩
set_option maxHeartbeats 1000000 in
theorem Rs.Check_any (w : World) (ok : Rs.Ok w) (n e : ByteArray) (hn : n.size ≤ 150000000000000) (he : e.size ≤ 150000000000000) :
    Calls Tryz.prog 19 #[Rs.key n e] w fun r w' => r = .returned (.int .i64 ((if Rs.bad n e then 40 else 0 : Nat) : Int)) ∧ Below w.heap.size w w' := by
  have b0 : Below w.heap.size w (w.alloc (Obj.cells #[.string n,.string e] 25)) := (Below.refl _ _).alloc (Nat.le_refl _) _
  have HC := Lib.hid (Rs.checked_any (w.alloc (Obj.cells #[.string n,.string e] 25)) (ok.below b0) n e hn he)
  have HO := Lib.hid (And.intro (ok.below b0) b0)
  have hnum : Rs.num (if Rs.bad n e then 40 else 0) = (if Rs.bad n e then 40 else 0) := by split <;> rfl
  obtain ⟨k,hk⟩ : ∃ k : Nat,(if Rs.bad n e then 40 else 0) = k := ⟨_,rfl⟩
  rw [hk] at HC hnum ⊢
  have HK := Lib.hid hnum
  clear ok hk hnum b0
  unfold Rs.key at *
  go_enter Tryz.func19,Tryz.ntmps19
  go_wp2_with fail
  go_at_call 36
  refine Calls.mono HC.out ?_
  rintro r w1 ⟨v,rfl,hE,hb⟩
  have H1 := Lib.hid (And.intro hE hb)
  clear hE hb
  go_wp2_with fail
  go_at_call 10
  refine Calls.mono (Rs.told_any w1 (HO.out.1.below H1.out.2) v k H1.out.1) ?_
  rintro r w2 ⟨rfl,hb⟩
  rw [HK.out]
  have H2 := Lib.hid hb
  clear hb
  go_wp2_with fail
  go_ret
  exact ⟨rfl,(HO.out.2.trans (H1.out.2.mono HO.out.2.size)).trans (H2.out.mono (Nat.le_trans HO.out.2.size H1.out.2.size))⟩
end
end
section
open Go.RowKit
/-- n bytes 255. -/
def Rs.ff (n : Nat) : List UInt8 := List.replicate n 255
def Rs.head : List UInt8 := [0,48,49,48,13,6,9,96,134,72,1,101,3,4,2,1,5,0,4,32]
/-- The block of RS256. -/
def Rs.block (s : ByteArray) (n : Nat) : ByteArray := Tx.ba ([0,1] ++ Rs.ff (n - 54) ++ Rs.head ++ Hs.sum 0 s.data.toList)
theorem Rs.tell_len (v : Hs.V8) : (Hs.tell 0 v).length = 32 := by
  rfl
theorem Rs.sum_len (m : List UInt8) : (Hs.sum 0 m).length = 32 := by
  rw [← Hs.sum_eq]
  exact Rs.tell_len _
theorem Rs.block_size (s : ByteArray) (n : Nat) (h : 62 ≤ n) : (Rs.block s n).size = n := by
  show ([0,1] ++ Rs.ff (n - 54) ++ Rs.head ++ Hs.sum 0 s.data.toList).length = n
  rw [List.length_append,List.length_append,List.length_append,Rs.sum_len]
  unfold Rs.ff Rs.head
  simp
  omega
theorem Rs.rep_ff (k : Nat) : Lib.repeatL [255] k = List.replicate k (255 : UInt8) := by
  have h := Lib.repeatL_replicate (255 : UInt8) 1 k
  rw [Nat.mul_one] at h
  exact h
theorem Rs.ba_app (a b : List UInt8) : Tx.ba a ++ Tx.ba b = Tx.ba (a ++ b) := by
  unfold Tx.ba
  apply ByteArray.ext
  simp
theorem Rs.block_parts (s : ByteArray) (n k : Nat) (h : n = k + 62) : ((⟨#[0,1,255,255,255,255,255,255,255,255]⟩ : ByteArray) ++ ⟨(Lib.repeatL (⟨#[255]⟩ : ByteArray).data.toList k).toArray⟩) ++ ⟨#[0,48,49,48,13,6,9,96,134,72,1,101,3,4,2,1,5,0,4,32]⟩ ++ Tx.ba (Hs.sum 0 s.data.toList) = Rs.block s n := by
  have e1 : (⟨#[0,1,255,255,255,255,255,255,255,255]⟩ : ByteArray) = Tx.ba [0,1,255,255,255,255,255,255,255,255] := rfl
  have e2 : (⟨(Lib.repeatL (⟨#[255]⟩ : ByteArray).data.toList k).toArray⟩ : ByteArray) = Tx.ba (List.replicate k 255) := by rw [← Rs.rep_ff k]; rfl
  have e3 : (⟨#[0,48,49,48,13,6,9,96,134,72,1,101,3,4,2,1,5,0,4,32]⟩ : ByteArray) = Tx.ba Rs.head := rfl
  rw [e1,e2,e3,Rs.ba_app,Rs.ba_app,Rs.ba_app]
  unfold Rs.block Rs.ff
  rw [show n - 54 = 8 + k by omega,← List.replicate_append_replicate]
  rfl
set_option maxHeartbeats 2000000 in
set_option maxRecDepth 100000 in
theorem Rs.block_ok (w : World) (s : ByteArray) (n : Nat) (hs : s.size ≤ 1152921504606846000) (h1 : 62 ≤ n) (h2 : n ≤ 512) :
    Calls Tryz.prog 31 #[.string s,.int .i64 (n : Int)] w fun e w' => e = .returned (.tuple #[.string (Rs.block s n),.nilIface]) ∧ Below w.heap.size w w' := by
  obtain ⟨k,hk⟩ : ∃ k,n - 62 = k := ⟨_,rfl⟩
  have hB := Rs.block_parts s n k (by omega)
  have hR := fun W => Tryz.strings_Repeat ⟨#[255]⟩ k W (by omega) (by show 1 * k ≤ _; omega)
  obtain ⟨z,hz⟩ : ∃ z,(⟨(Lib.repeatL (⟨#[255]⟩ : ByteArray).data.toList k).toArray⟩ : ByteArray) = z := ⟨_,rfl⟩
  have hzs : z.size ≤ 512 := by
    rw [← hz]
    show (Lib.repeatL [255] k).length ≤ _
    rw [Rs.rep_ff,List.length_replicate]
    omega
  have hS := fun W => Hs.Sum256_any s hs W
  obtain ⟨y,hy⟩ : ∃ y,Tx.ba (Hs.sum 0 s.data.toList) = y := ⟨_,rfl⟩
  have hys : y.size ≤ 32 := by
    rw [← hy]
    show (Hs.sum 0 s.data.toList).length ≤ 32
    rw [Rs.sum_len]
    exact Nat.le_refl _
  rw [hz] at hR hB
  rw [hy] at hS hB
  obtain ⟨B,hBB⟩ : ∃ B,Rs.block s n = B := ⟨_,rfl⟩
  rw [hBB] at hB ⊢
  have HS := Lib.hid (And.intro hR hS)
  have HB := Lib.hid hB
  have hn1 : ¬ (n : Int) < 62 := by omega
  have hn2 : ¬ (512 : Int) < (n : Int) := by omega
  have hkz : (n : Int) - 62 = (k : Int) := by omega
  have hkb : (k : Int) ≤ 512 := by omega
  clear hR hS hz hy hk hB hBB hs
  go_enter Tryz.func31,Tryz.ntmps31
  go_wp2_with fail
  go_at_call 49
  refine (HS.out.1 _).mono ?_
  rintro e1 w1 ⟨rfl,hb⟩
  have H1 := Lib.hid hb
  clear hb
  go_wp2_with fail
  go_at_call 16
  refine (HS.out.2 _).mono ?_
  rintro e2 w2 ⟨rfl,hb⟩
  have H2 := Lib.hid hb
  clear hb
  go_wp2_with fail
  go_ret2
  exact ⟨by rw [← HB.out]; rfl,H1.out.trans (H2.out.mono H1.out.size)⟩
set_option maxHeartbeats 2000000 in
set_option maxRecDepth 100000 in
theorem Rs.block_no (w : World) (ok : Rs.Ok w) (s : ByteArray) (n : Int) (h : n < 62 ∨ (62 ≤ n ∧ 512 < n)) :
    Calls Tryz.prog 31 #[.string s,.int .i64 n] w fun e w' => ∃ v,e = .returned (.tuple #[.string ⟨#[]⟩,v]) ∧ Rs.Err w' v 42 ∧ Below w.heap.size w w' := by
  obtain ⟨a,hv⟩ := ok.2 42 (by decide) (by decide)
  have hx : w.cell? ⟨2,0,none⟩ = some (.iface 200 (.pointer (some a))) := hv.var
  have HV := Lib.hid hv
  clear hv ok
  rcases h with h | ⟨h0,h⟩
  · go_enter Tryz.func31,Tryz.ntmps31
    go_wp2_with fail
    go_quiet (fail)
    go_wp2_with fail
    go_ret2
    exact ⟨_,rfl,.inr ⟨by decide,by decide,a,1,.about _ .leaf,HV.out.below (below_drewN (Below.refl _ _) _)⟩,below_drewN (Below.refl _ _) _⟩
  · have h0 : ¬ n < 62 := by omega
    go_enter Tryz.func31,Tryz.ntmps31
    go_wp2_with fail
    go_quiet (fail)
    go_wp2_with fail
    go_ret2
    exact ⟨_,rfl,.inr ⟨by decide,by decide,a,1,.about _ .leaf,HV.out.below (below_drewN (Below.refl _ _) _)⟩,below_drewN (Below.refl _ _) _⟩
set_option maxHeartbeats 1000000 in
theorem Rs.Block_ok (w : World) (s : ByteArray) (n : Nat) (hs : s.size ≤ 1152921504606846000) (h1 : 62 ≤ n) (h2 : n ≤ 512) :
    Calls Tryz.prog 14 #[.string s,.int .i64 (n : Int)] w fun e w' => e = .returned (.tuple #[.string (Rs.block s n),.int .i64 0]) ∧ Below w.heap.size w w' := by
  have HC := Lib.hid (Rs.block_ok w s n hs h1 h2)
  clear hs h1 h2
  go_enter Tryz.func14,Tryz.ntmps14
  go_wp2_with fail
  go_at_call 31
  refine Calls.mono HC.out ?_
  rintro r w1 ⟨rfl,hb⟩
  have H1 := Lib.hid hb
  clear hb
  go_wp2_with fail
  go_at_call 10
  refine Calls.mono (Rs.told_nil w1) ?_
  rintro r w2 ⟨rfl,hb⟩
  have H2 := Lib.hid hb
  clear hb
  go_wp2_with fail
  go_ret2
  exact ⟨rfl,H1.out.trans (H2.out.mono H1.out.size)⟩
set_option maxHeartbeats 1000000 in
theorem Rs.Block_no (w : World) (ok : Rs.Ok w) (s : ByteArray) (n : Int) (h : n < 62 ∨ (62 ≤ n ∧ 512 < n)) :
    Calls Tryz.prog 14 #[.string s,.int .i64 n] w fun e w' => e = .returned (.tuple #[.string ⟨#[]⟩,.int .i64 42]) ∧ Below w.heap.size w w' := by
  have HC := Lib.hid (Rs.block_no w ok s n h)
  have HO := Lib.hid ok
  clear ok h
  go_enter Tryz.func14,Tryz.ntmps14
  go_wp2_with fail
  go_at_call 31
  refine Calls.mono HC.out ?_
  rintro r w1 ⟨v,rfl,hE,hb⟩
  have H1 := Lib.hid (And.intro hE hb)
  clear hE hb
  go_wp2_with fail
  go_at_call 10
  refine Calls.mono (Rs.told_any w1 (HO.out.below H1.out.2) v 42 H1.out.1) ?_
  rintro r w2 ⟨rfl,hb⟩
  have H2 := Lib.hid hb
  clear hb
  go_wp2_with fail
  go_ret2
  exact ⟨rfl,H1.out.2.trans (H2.out.mono H1.out.2.size)⟩
end
end
section
open Go.RowKit
/-- i sums of a seed, one behind the other. -/
def Rs.maskL (s : List UInt8) : Nat → List UInt8
  | 0 => []
  | i + 1 => Rs.maskL s i ++ Hs.sum 0 (s ++ [0,0,0,UInt8.ofNat i])
theorem Rs.maskL_len (s : List UInt8) : ∀ i,(Rs.maskL s i).length = 32 * i
  | 0 => rfl
  | i + 1 => by rw [Rs.maskL,List.length_append,Rs.maskL_len s i,Rs.sum_len]; omega
theorem Rs.maskL_take (s : List UInt8) (i k : Nat) (hk : k ≤ 32 * i) : ∀ j,i ≤ j → (Rs.maskL s j).take k = (Rs.maskL s i).take k
  | 0, h => by obtain rfl : i = 0 := by omega
               rfl
  | j + 1,h => by
    by_cases e : i = j + 1
    · rw [e]
    · rw [Rs.maskL,List.take_append_of_le_length (by rw [Rs.maskL_len]; omega),Rs.maskL_take s i k hk j (by omega)]
/-- The first n bytes of a seed's mask. -/
def Rs.mask (s : ByteArray) (n : Nat) : ByteArray := Tx.ba ((Rs.maskL s.data.toList 17).take n)
theorem Rs.mask_size (s : ByteArray) (n : Nat) (h : n ≤ 512) : (Rs.mask s n).size = n := by
  show ((Rs.maskL s.data.toList 17).take n).length = n
  rw [List.length_take,Rs.maskL_len]
  omega
theorem Rs.made8 (c : Nat) : madeCells (Value.int .u8 0).cells (c * 1) = (List.replicate c (Value.int .u8 0)).toArray := by
  apply Array.ext_getElem?
  intro j
  by_cases hj : j < c
  · simp [madeCells,Value.cells,hj,Nat.mod_one]
  · rw [Array.getElem?_eq_none (by rw [size_madeCells]; omega),Array.getElem?_eq_none (by simp; omega)]
/-- make([]byte, 0, n). -/
theorem Rs.wpList_room {w : World} {ops : Array Oper} {rest : List Oper} {o : Oper} {a : Act} {Q : Exit → Act → World → Prop} (hg : o.guard = none) (l c : Operand) (hop : o.op = Op.makeSlice 36 l c) (C : Nat)
    (hl : a.eval l = .int .i64 0) (hc : a.eval c = .int .i64 (C : Int)) (hC : C ≤ 10000000)
    (hK : ∀ w',Hs.Row w' w.heap.size (.slice (some ⟨w.heap.size,0,none⟩) 0 C) [] → Below w.heap.size w w' → wpList Tryz.prog ops Q rest (a.put o.dst (.slice (some ⟨w.heap.size,0,none⟩) 0 C)) w') : wpList Tryz.prog ops Q (o :: rest) a w := by
  obtain ⟨i0,hi,hz0,hz1,hz2⟩ := info_parts Tx.info8
  have hr := run_make (P := Tryz.prog) w 36 5 i0 (.int .u8 0) Tryz.underlying36 hi hz0 .i64 .i64 0 (C : Int) (by omega) (by omega) (by rw [hz2]; omega) (by omega)
  rw [hz1] at hr
  simp only [Int.toNat_natCast,Int.toNat_zero] at hr
  rw [Rs.made8] at hr
  refine wpList_plain hg fun K hK2 => ?_
  unfold Oper.wp
  simp [execOp,hop,hl,hc,hr,Result.andThen]
  refine hK2 _ _ (hK _ ?_ ((Below.refl _ _).alloc (Nat.le_refl _) _))
  exact ⟨⟨rfl,.inr ⟨w.heap.size,C,_,rfl,Nat.le_refl _,heap_alloc_new _ _,Nat.zero_le _,by unfold maxLen; omega,by simp,by simp⟩⟩,rfl⟩
/-- A row's first bytes. -/
theorem Rs.Row_take {w : World} {g k c n : Nat} {l : List UInt8} (h : Hs.Row w g (.slice (some ⟨g,0,none⟩) k c) l) (hn : n ≤ l.length) : Hs.Row w g (.slice (some ⟨g,0,none⟩) n c) (l.take n) := by
  have hk : k = l.length := by
    obtain ⟨c2,hv⟩ := h.len
    simp only [Value.slice.injEq] at hv
    exact hv.2.1
  subst hk
  rcases h.1.2 with ⟨hv,_⟩ | ⟨g2,cap,cur,hv,hb,hg,hnc,hcm,hcs,ht⟩
  · simp at hv
  · simp only [Value.slice.injEq,Option.some.injEq,Addr.mk.injEq] at hv
    obtain ⟨⟨rfl,_,_⟩,_,rfl⟩ := hv
    have hlen : (l.take n).length = n := by rw [List.length_take]; omega
    refine ⟨⟨?_,.inr ⟨g,c,cur,by rw [hlen],hb,hg,by omega,hcm,hcs,?_⟩⟩,rfl⟩
    · rw [List.length_map,hlen,Nat.mul_one]
    · rw [hlen,Nat.mul_one,List.map_take,← ht,Nat.mul_one,List.take_take,Nat.min_eq_left hn]
/-- string([]byte{a, b, c, d}). -/
theorem Rs.conv4 (W : World) (i : Nat) (hi : i < 256) : (convert 36 9 (.slice (some ⟨W.heap.size,0,none⟩) 4 4)).run Tryz.prog (W.alloc (.cells #[.int .u8 0,.int .u8 0,.int .u8 0,.int .u8 (i : Int)] 5)) = .ok (.string (Tx.ba [0,0,0,UInt8.ofNat i])) (W.alloc (.cells #[.int .u8 0,.int .u8 0,.int .u8 0,.int .u8 (i : Int)] 5)) := by
  refine Tx.Own.conv (B := W.heap.size) (l := [0,0,0,UInt8.ofNat i]) ⟨rfl,.inr ⟨W.heap.size,4,_,rfl,Nat.le_refl _,heap_alloc_new _ _,Nat.le_refl _,by unfold maxLen; omega,rfl,?_⟩⟩
  simp [Tx.bv]
  omega
set_option maxHeartbeats 4000000 in
set_option maxRecDepth 100000 in
theorem Rs.mask_any (w : World) (s : ByteArray) (n : Nat) (hs : s.size ≤ 1152921504606840000) (hn : n ≤ 512) :
    Calls Tryz.prog 32 #[.string s,.int .i64 (n : Int)] w fun e w' => e = .returned (.string (Rs.mask s n)) ∧ Below w.heap.size w w' := by
  have hls : s.data.toList.length = s.size := by simp
  obtain ⟨N,hN⟩ : ∃ N,n + 32 = N := ⟨_,rfl⟩
  have hNz : (n : Int) + 32 = (N : Int) := by omega
  have hNb : N ≤ 10000000 := by omega
  have hNbz : (N : Int) ≤ 1000 := by omega
  have hnb : (n : Int) ≤ 512 := by omega
  obtain ⟨L,hL⟩ : ∃ L,s.data.toList = L := ⟨_,rfl⟩
  rw [hL] at hls
  have hLb : L.length ≤ 1152921504606840000 := by omega
  have HS := Lib.hid (And.intro hL (And.intro hls (And.intro hLb hs)))
  clear hN hL hls hLb hs
  go_enter Tryz.func32,Tryz.ntmps32
  go_wp2_with fail
  go_at_call 55
  refine Calls.mono (Hs.New_any 0 (by decide) w) ?_
  rintro e1 w1 ⟨p,rfl,hp,hI,hb⟩
  have H1 := Lib.hid (And.intro hp (And.intro hI hb))
  clear hp hI hb
  go_wp2_with fail
  go_at_call 56
  refine Calls.mono (Hs.Write_any w1 p 0 [] s H1.out.2.1 (by have := HS.out; simp; omega)) ?_
  rintro e2 w2 ⟨rfl,hI,hbut⟩
  rw [List.nil_append,HS.out.1] at hI
  have H2 := Lib.hid (And.intro hI (H1.out.2.2.trans (hbut.toBelow H1.out.1 H1.out.2.2.size)))
  clear hI hbut
  go_wp2_with (at_make; refine Rs.wpList_room rfl _ _ rfl N rfl rfl hNb ?_; intro w3 hrow hb3)
  have H3 := Lib.hid (And.intro hrow (And.intro (H2.out.1.below hb3 H2.out.1.lt) (And.intro (H2.out.2.trans (hb3.mono H2.out.2.size)) (And.intro (Nat.ne_of_gt H2.out.1.lt) H2.out.2.size))))
  clear hrow hb3
  go_loopw [7,8] (fun v iv wr => ∃ (i g : Nat),i ≤ 17 ∧ iv = .int .i64 (i : Int) ∧ Hs.Row wr g v (Rs.maskL L i) ∧ Hs.Is wr p 0 L ∧ g ≠ p ∧ w.heap.size ≤ g ∧ (0 < i → 32 * (i - 1) < n) ∧ Below w.heap.size w wr) (fun _ iv _ => 17 - (intOf iv).toNat)
  case atStart => exact ⟨0,w2.heap.size,by omega,rfl,H3.out.1,H3.out.2.1,H3.out.2.2.2.1,H3.out.2.2.2.2,fun h => by omega,H3.out.2.2.1⟩
  case round =>
  obtain ⟨i,g,hi,rfl,hrow,hI,hgp,hg,hlow,hB⟩ := hrel
  obtain ⟨w4,rfl⟩ : ∃ w4,w4 = wr := ⟨_,rfl⟩
  obtain ⟨c,rfl⟩ := hrow.len
  have hml := Rs.maskL_len L i
  obtain ⟨M,hM⟩ : ∃ M,(Rs.maskL L i).length = M := ⟨_,rfl⟩
  rw [hM] at hml hrow ⊢
  by_cases hlt : M < n
  · have hltz : (M : Int) < (n : Int) := by omega
    have hi16 : i ≤ 16 := by omega
    have hib : (i : Int) ≤ 16 := by omega
    have hi0 : 0 ≤ (i : Int) := by omega
    have q1 : (i : Int) / 16777216 = 0 := by omega
    have q2 : (i : Int) / 65536 = 0 := by omega
    have q3 : (i : Int) / 256 = 0 := by omega
    have q4 : IntKind.u8.wrap (i : Int) = (i : Int) := by rw [IntKind.wrap_u8]; omega
    have H4 := Lib.hid (And.intro hrow (And.intro hI (And.intro hgp (And.intro hg (And.intro hB (And.intro hM (And.intro hml hlt)))))))
    clear hrow hI hgp hg hB hM hml hlt hlow
    go_wp2_with fail
    go_at_call 57
    refine Calls.mono (Hs.Clone_any w4 p 0 L H4.out.2.1) ?_
    rintro e5 w5 ⟨rfl,hI5,hb5⟩
    have H5 := Lib.hid (And.intro hI5 (And.intro (H4.out.1.below hb5 H4.out.1.lt) (And.intro (H4.out.2.1.below hb5 H4.out.2.1.lt) (And.intro (H4.out.2.2.2.2.1.trans (hb5.mono H4.out.2.2.2.2.1.size)) (And.intro (Nat.ne_of_gt H4.out.1.lt) (Nat.ne_of_gt H4.out.2.1.lt))))))
    clear hI5 hb5
    have hcv := fun W => Rs.conv4 W i (by omega)
    obtain ⟨x,hx⟩ : ∃ x,Tx.ba [0,0,0,UInt8.ofNat i] = x := ⟨_,rfl⟩
    rw [hx] at hcv
    have HX := Lib.hid hx
    clear hx
    go_wp2_with fail
    have hb6 : Below w5.heap.size w5 (w5.alloc (Obj.cells #[.int .u8 0,.int .u8 0,.int .u8 0,.int .u8 (i : Int)] 5)) := (Below.refl _ _).alloc (Nat.le_refl _) _
    clear hcv
    revert hb6
    generalize w5.alloc (Obj.cells #[.int .u8 0,.int .u8 0,.int .u8 0,.int .u8 (i : Int)] 5) = w6
    intro hb6
    have H6 := Lib.hid (And.intro (H5.out.1.below hb6 H5.out.1.lt) (And.intro (H5.out.2.1.below hb6 H5.out.2.1.lt) (And.intro (H5.out.2.2.1.below hb6 H5.out.2.2.1.lt) (H5.out.2.2.2.1.trans (hb6.mono H5.out.2.2.2.1.size)))))
    clear hb6
    have hxl : x.data.toList = [0,0,0,UInt8.ofNat i] := by rw [← HX.out]; rfl
    have hxs : x.size = 4 := by rw [← HX.out]; rfl
    have HX2 := Lib.hid (And.intro hxl hxs)
    clear hxl hxs
    go_at_call 56
    refine Calls.mono (Hs.Write_any w6 w4.heap.size 0 L x H6.out.1 (by have := HS.out; have := HX2.out.2; omega)) ?_
    rintro e7 w7 ⟨rfl,hI7,hbut⟩
    rw [HX2.out.1] at hI7
    have H7 := Lib.hid (And.intro hI7 (And.intro (H6.out.2.1.but hbut (Ne.symm H5.out.2.2.2.2.1)) (And.intro (H6.out.2.2.1.but hbut (Ne.symm H5.out.2.2.2.2.2)) (H6.out.2.2.2.trans (hbut.toBelow H4.out.2.2.2.2.1.size H6.out.2.2.2.size)))))
    clear hI7 hbut
    obtain ⟨y,hy⟩ : ∃ y,Tx.ba (Hs.sum 0 (L ++ [0,0,0,UInt8.ofNat i])) = y := ⟨_,rfl⟩
    have hyl : y.data.toList = Hs.sum 0 (L ++ [0,0,0,UInt8.ofNat i]) := by rw [← hy]; rfl
    have hys : y.size = 32 := by rw [← hy]; exact Rs.sum_len _
    have HY := Lib.hid (Hs.Sum_any w7 w4.heap.size 0 (L ++ [0,0,0,UInt8.ofNat i]) H7.out.1 (by have := HS.out; simp; omega))
    rw [hy] at HY
    have HY2 := Lib.hid (And.intro hyl hys)
    clear hy hyl hys
    go_wp2_with fail
    go_at_call 58
    refine Calls.mono HY.out ?_
    rintro e8 w8 ⟨rfl,hb8⟩
    have H8 := Lib.hid (And.intro (H7.out.2.1.below hb8 H7.out.2.1.lt) (And.intro (H7.out.2.2.1.below hb8 H7.out.2.2.1.lt) (H7.out.2.2.2.trans (hb8.mono H7.out.2.2.2.size))))
    clear hb8 HY
    go_wp2_with (at_builtin; refine Hs.appendS rfl _ _ rfl _ _ (Rs.maskL L i) rfl H8.out.1 y rfl (by have := H4.out.2.2.2.2.2; have := HY2.out.2; omega) ?_; intro v9 w9 g9 hrow9 hg9 hb9)
    rw [HY2.out.1] at hrow9
    have hI9 := H8.out.2.1.but hb9 (Ne.symm H4.out.2.2.1)
    have hB9 := H8.out.2.2.trans (hb9.toBelow H4.out.2.2.2.1 H8.out.2.2.size)
    have hgp9 : g9 ≠ p := by
      rcases hg9 with rfl | rfl
      · exact H4.out.2.2.1
      · exact Nat.ne_of_gt H8.out.2.1.lt
    have hgw9 : w.heap.size ≤ g9 := by
      rcases hg9 with rfl | rfl
      · exact H4.out.2.2.2.1
      · exact H8.out.2.2.size
    exact ⟨⟨i + 1,g9,by omega,by go_num,hrow9,hI9,hgp9,hgw9,fun _ => by have := H4.out.2.2.2.2.2; rw [Nat.add_sub_cancel]; omega,hB9⟩,by simp [intOf]; omega⟩
  · have hltz : ¬ (M : Int) < (n : Int) := by omega
    have hnM : n ≤ (Rs.maskL L i).length := by omega
    have hcap : M ≤ c := by
      rcases hrow.1.2 with ⟨hv,_⟩ | ⟨g2,cap,cur,hv,_,_,hnc,_⟩
      · simp at hv
      · simp only [Value.slice.injEq] at hv
        omega
    have hcapz : (n : Int) ≤ (c : Int) := by omega
    have hcv := (Rs.Row_take hrow hnM).conv
    obtain ⟨R,hR⟩ : ∃ R,Tx.ba ((Rs.maskL L i).take n) = R := ⟨_,rfl⟩
    have hfin : Rs.mask s n = R := by
      unfold Rs.mask
      rw [HS.out.1,Rs.maskL_take L i n (by omega) 17 hi,hR]
    rw [hR] at hcv
    have HF := Lib.hid (And.intro hfin hB)
    clear hfin hB hR hnM hcap hrow hI hgp hg hlow hml hM hlt
    go_wp2_with fail
    go_ret
    exact ⟨by rw [HF.out.1]; rfl,HF.out.2⟩
set_option maxHeartbeats 1000000 in
theorem Rs.Mask_ok (w : World) (s : ByteArray) (n : Nat) (hs : s.size ≤ 1152921504606840000) (hn : n ≤ 512) :
    Calls Tryz.prog 15 #[.string s,.int .i64 (n : Int)] w fun e w' => e = .returned (.tuple #[.string (Rs.mask s n),.int .i64 0]) ∧ Below w.heap.size w w' := by
  have HC := Lib.hid (Rs.mask_any w s n hs hn)
  have h1 : ¬ (n : Int) < 0 := by omega
  have h2 : ¬ (512 : Int) < (n : Int) := by omega
  clear hs
  go_enter Tryz.func15,Tryz.ntmps15
  go_wp2_with fail
  go_at_call 32
  refine Calls.mono HC.out ?_
  rintro r w1 ⟨rfl,hb⟩
  have H1 := Lib.hid hb
  clear hb
  go_wp2_with fail
  go_ret2
  exact ⟨rfl,H1.out⟩
set_option maxHeartbeats 1000000 in
theorem Rs.Mask_no (w : World) (s : ByteArray) (n : Int) (h : n < 0 ∨ (0 ≤ n ∧ 512 < n)) :
    Calls Tryz.prog 15 #[.string s,.int .i64 n] w fun e w' => e = .returned (.tuple #[.string ⟨#[]⟩,.int .i64 42]) ∧ Below w.heap.size w w' := by
  rcases h with h | ⟨h0,h⟩
  · go_enter Tryz.func15,Tryz.ntmps15
    go_wp2_with fail
    go_ret2
    exact ⟨rfl,Below.refl _ _⟩
  · have h0 : ¬ n < 0 := by omega
    go_enter Tryz.func15,Tryz.ntmps15
    go_wp2_with fail
    go_ret2
    exact ⟨rfl,Below.refl _ _⟩
end
end Go.Proofs.YthlecdggkolgmaaGreatDoor
