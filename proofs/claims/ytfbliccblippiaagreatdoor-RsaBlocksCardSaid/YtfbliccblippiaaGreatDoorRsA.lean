/- The errors of package rsa: which variable holds which, what wraps them, errors.Is, told. -/
import Derived.Test.YtfbliccblippiaaGreatDoorNtR
import Derived.Deep.LoopGhost
namespace Go.Proofs.YtfbliccblippiaaGreatDoor
open Go.RowKit Go.Extern.Stop Go.Stop Go.Extern
/-- An error that ends at the variable's text at a, wrapped n times. -/
inductive Rs.Chain (a : Addr) : Nat → Value → Prop
  | leaf : Rs.Chain a 0 (.iface 217 (.pointer (some a)))
  | about {n : Nat} {v : Value} (p : ByteArray) : Rs.Chain a n v → Rs.Chain a (n + 1) (.iface 101 (.agg #[.string p, v]))
theorem Rs.Chain.iface {a : Addr} {n : Nat} {v : Value} (h : Rs.Chain a n v) : ∃ T x, v = .iface T x := by cases h <;> exact ⟨_, _, rfl⟩
theorem Rs.noIs (x : Value) (w : World) : (Instr.typeAssert (.iface 101 x) 61 178 true).run Tryz.prog w = .ok (.tuple #[.nilIface, .bool false]) w := run_typeAssert_lacksB Tryz.underlying178 (by kernel_rfl) (by kernel_rfl) x _ w
theorem Rs.hasUn (x : Value) (w : World) : (Instr.typeAssert (.iface 101 x) 61 181 true).run Tryz.prog w = .ok (.tuple #[.iface 101 x, .bool true]) w := run_typeAssert_hasB Tryz.underlying181 (by kernel_rfl) x _ w
theorem Rs.unwrap (p : ByteArray) (v : Value) (w : World) : Calls Tryz.prog 189 #[.agg #[.string p, v]] w fun e w' => e = .returned v ∧ Below w.heap.size w w' := by
  go_enter Tryz.func189, Tryz.ntmps189
  go_wp2
  go_ret
  exact ⟨rfl, (Below.refl _ _).alloc (Nat.le_refl _) _⟩
/-- Two variables' texts: the same, or in blocks of their own. -/
def Rs.Two (w : World) (a b : Addr) (r : Bool) : Prop := (a = b ∧ r = true) ∨ (a ≠ b ∧ r = false ∧ (∃ c t, w.heap[a.block]? = some (.cells c t (0, 0))) ∧ ∃ c t, w.heap[b.block]? = some (.cells c t (0, 0)))
theorem Rs.Two.below {w w' : World} {a b : Addr} {r : Bool} (h : Rs.Two w a b r) (hb : Below w.heap.size w w') : Rs.Two w' a b r := by
  rcases h with h | ⟨h1, h2, ⟨c, t, h3⟩, d, u, h4⟩
  · exact .inl h
  · exact .inr ⟨h1, h2, ⟨c, t, (hb.block _ (Array.getElem?_eq_some_iff.1 h3).1).trans h3⟩, d, u, (hb.block _ (Array.getElem?_eq_some_iff.1 h4).1).trans h4⟩
set_option maxHeartbeats 4000000 in
set_option maxRecDepth 100000 in
theorem Rs.is_chain (a b : Addr) (n : Nat) (v : Value) (hv : Rs.Chain a n v) (r : Bool) (w : World) (h2 : Rs.Two w a b r) :
    Calls Tryz.prog 105 #[v, .iface 217 (.pointer (some b)), .bool true] w fun e w' => e = .returned (.bool r) ∧ Below w.heap.size w w' := by
  obtain ⟨i, hi, hcmp⟩ := Option.map_eq_some_iff.1 Nt.okE
  obtain ⟨j, hj, hjs⟩ := Option.map_eq_some_iff.1 Nt.sizeE
  have HI := Lib.hid (And.intro hi (And.intro hcmp (And.intro hj hjs)))
  clear hi hcmp hj hjs
  have H0 := Lib.hid (And.intro hv h2)
  clear hv h2
  go_enter Tryz.func105, Tryz.ntmps105
  go_wp2
  go_loopg [0] (n + 1) (fun gk s0 wx => Below w.heap.size w wx ∧ ∃ m, m < gk ∧ Rs.Chain a m s0)
  case atStart => exact ⟨Below.refl _ _, n, by omega, H0.out.1⟩
  case round =>
    obtain ⟨hbw, m, hm, hch⟩ := hrel
    have hT := H0.out.2.below hbw
    cases hch with
    | leaf =>
      rcases hT with ⟨rfl, rfl⟩ | ⟨hne, rfl, ⟨c, t, ha⟩, d, u, hb⟩
      · have heq := run_eql_iface_ptr_same (P := Tryz.prog) wr a Tryz.underlying61 Tryz.underlying217 HI.out.1 HI.out.2.1 HI.out.2.2.1
        go_wp2
        go_ret
        exact ⟨rfl, hbw⟩
      · have heq := run_eql_iface_ptr_other (P := Tryz.prog) wr Tryz.underlying61 Tryz.underlying217 HI.out.1 HI.out.2.1 HI.out.2.2.1 (by rw [HI.out.2.2.2]; decide) hne ha hb
        have nE := Nt.noIs
        have uE := Nt.noUn
        have vE := Nt.noUns
        clear ha hb
        go_wp2
        go_ret
        exact ⟨rfl, hbw⟩
    | about p hc =>
      obtain ⟨Tv, xv, rfl⟩ := hc.iface
      have hty := fun (x y : Value) (W : World) => run_eql_iface_types (P := Tryz.prog) 101 217 x y Tryz.underlying61 (by decide) W
      have nE := Rs.noIs
      have uE := Rs.hasUn
      have HT := Lib.hid (And.intro hbw (And.intro hm hc))
      clear hbw hm hc hT
      go_wp2_with (go_at_call 189; refine (Rs.unwrap p _ _).mono ?_; rintro e w' ⟨rfl, hb'⟩)
      obtain ⟨g', rfl⟩ : ∃ g', gk = g' + 1 := ⟨gk - 1, by have := HT.out.2.1; omega⟩
      go_roundg g'
      case rel => exact ⟨HT.out.1.trans (hb'.mono HT.out.1.size), _, by have := HT.out.2.1; omega, HT.out.2.2⟩
      omega
set_option maxHeartbeats 1000000 in
set_option maxRecDepth 100000 in
theorem Rs.Is_any (a b : Addr) (n : Nat) (v : Value) (hv : Rs.Chain a n v) (r : Bool) (w : World) (h2 : Rs.Two w a b r) :
    Calls Tryz.prog 66 #[v, .iface 217 (.pointer (some b))] w fun e w' => e = .returned (.bool r) ∧ Below w.heap.size w w' := by
  have h8 := @run_callFunc_extern Tryz.prog 104 _ Extern.ReflectliteType.typeOf Tryz.func104 (by kernel_rfl) (by kernel_rfl) (by kernel_rfl) (by kernel_rfl)
  have h32 := @run_callFunc_extern Tryz.prog 195 _ Nt.cmpS Tryz.func195 (by kernel_rfl) (by kernel_rfl) (by kernel_rfl) (by kernel_rfl)
  have tT := Nt.tyE
  have cT := Nt.cmpE
  have HC := Lib.hid (Rs.is_chain a b n v hv r w h2)
  obtain ⟨Tv, xv, rfl⟩ := hv.iface
  clear hv h2
  go_enter Tryz.func66, Tryz.ntmps66
  go_wp2_with (go_at_call 105; refine HC.out.mono ?_; rintro e w' ⟨rfl, hb'⟩)
  go_ret
  exact ⟨rfl, hb'⟩
/-- The variable of the error with this number, and its text. -/
def Rs.gOf (k : Nat) : Nat := if k = 40 then 0 else if k = 41 then 1 else if k = 42 then 2 else 3
def Rs.tOf (k : Nat) : List UInt8 := if k = 40 then [114, 115, 97, 58, 32, 110, 111, 32, 107, 101, 121] else if k = 41 then [114, 115, 97, 58, 32, 97, 32, 115, 105, 103, 110, 97, 116, 117, 114, 101, 32, 111, 102, 32, 97, 110, 111, 116, 104, 101, 114, 32, 115, 105, 122, 101, 44, 32, 111, 114, 32, 116, 111, 111, 32, 103, 114, 101, 97, 116] else if k = 42 then [114, 115, 97, 58, 32, 116, 104, 101, 32, 98, 108, 111, 99, 107, 32, 100, 111, 101, 115, 32, 110, 111, 116, 32, 102, 105, 116] else [114, 115, 97, 58, 32, 110, 111, 32, 115, 117, 99, 104, 32, 115, 99, 104, 101, 109, 101]
structure Rs.Var (w : World) (k : Nat) (a : Addr) : Prop where
  var : w.cell? ⟨Rs.gOf k, 0, none⟩ = some (.iface 217 (.pointer (some a)))
  str : ∃ z : ByteArray, w.cell? a = some (.string z) ∧ z.data.toList = Rs.tOf k
  blk : ∃ c t, w.heap[a.block]? = some (.cells c t (0, 0))
/-- The package-level variables hold what their initialisers lay. -/
def Rs.Ok (w : World) : Prop := Nt.Ok w ∧ ∀ k, 40 ≤ k → k ≤ 42 → ∃ a, Rs.Var w k a
theorem Rs.Var.below {w w' : World} {k : Nat} {a : Addr} (h : Rs.Var w k a) (hb : Below w.heap.size w w') : Rs.Var w' k a := by
  obtain ⟨z, h1, h2⟩ := h.str
  obtain ⟨c, t, h3⟩ := h.blk
  have l1 := World.block_lt_of_cell? w _ h.var
  have l2 := World.block_lt_of_cell? w _ h1
  exact ⟨(hb.cell l1).trans h.var, ⟨z, (hb.cell l2).trans h1, h2⟩, ⟨c, t, (hb.block _ l2).trans h3⟩⟩
theorem Rs.Ok.below {w w' : World} (h : Rs.Ok w) (hb : Below w.heap.size w w') : Rs.Ok w' := ⟨h.1.below hb, fun k h1 h2 => by
  obtain ⟨a, ha⟩ := h.2 k h1 h2
  exact ⟨a, ha.below hb⟩⟩
theorem Rs.Var.two {w : World} {k j : Nat} {a b : Addr} (h : Rs.Var w k a) (g : Rs.Var w j b) (r : Bool) (hr : (k = j ∧ r = true) ∨ (Rs.tOf k ≠ Rs.tOf j ∧ r = false)) : Rs.Two w a b r := by
  rcases hr with ⟨rfl, rfl⟩ | ⟨ht, rfl⟩
  · refine .inl ⟨?_, rfl⟩
    have := h.var.symm.trans g.var
    simpa using this
  · refine .inr ⟨?_, rfl, h.blk, g.blk⟩
    rintro rfl
    obtain ⟨z, h1, h2⟩ := h.str
    obtain ⟨z2, g1, g2⟩ := g.str
    have := h1.symm.trans g1
    simp only [Option.some.injEq, Value.string.injEq] at this
    exact ht (by rw [← h2, ← g2, this])
/-- An error that is told of the variable k (0: none). -/
def Rs.Err (w : World) (v : Value) (k : Nat) : Prop := (k = 0 ∧ v = .nilIface) ∨ (40 ≤ k ∧ k ≤ 43 ∧ ∃ a n, Rs.Chain a n v ∧ Rs.Var w k a)
theorem Rs.Err.below {w w' : World} {v : Value} {k : Nat} (h : Rs.Err w v k) (hb : Below w.heap.size w w') : Rs.Err w' v k := by
  rcases h with h | ⟨h1, h2, a, n, h3, h4⟩
  · exact .inl h
  · exact .inr ⟨h1, h2, a, n, h3, h4.below hb⟩
theorem Rs.Err.about {w : World} {v : Value} {k : Nat} (h : Rs.Err w v k) (h0 : k ≠ 0) (p : ByteArray) : Rs.Err w (.iface 101 (.agg #[.string p, v])) k := by
  rcases h with ⟨h, _⟩ | ⟨h1, h2, a, n, h3, h4⟩
  · exact absurd h h0
  · exact .inr ⟨h1, h2, a, n + 1, .about p h3, h4⟩
theorem Rs.told_nil (w : World) : Calls Tryz.prog 34 #[.nilIface] w fun e w' => e = .returned (.int .i64 0) ∧ Below w.heap.size w w' := by
  go_enter Tryz.func34, Tryz.ntmps34
  go_wp2
  go_ret
  exact ⟨rfl, Below.refl _ _⟩
/-- The number that a face tells. -/
def Rs.num (k : Nat) : Nat := if k = 43 then 1 else k
set_option maxHeartbeats 1000000 in
set_option maxRecDepth 100000 in
theorem Rs.told_40 (w : World) (ok : Rs.Ok w) (a : Addr) (n : Nat) (v : Value) (hc : Rs.Chain a n v) (h : Rs.Var w 40 a) : Calls Tryz.prog 34 #[v] w fun e w' => e = .returned (.int .i64 40) ∧ Below w.heap.size w w' := by
  obtain ⟨a40, v40⟩ := ok.2 40 (by decide) (by decide)
  have t40 := h.two v40 true (.inl ⟨rfl, rfl⟩)
  have x40 : w.cell? ⟨0, 0, none⟩ = some (.iface 217 (.pointer (some a40))) := v40.var
  have HT := Lib.hid (And.intro hc (And.intro t40 (And.intro x40 True.intro)))
  obtain ⟨Tv, xv, rfl⟩ := hc.iface
  clear hc h ok v40 t40 
  have B0 := Below.refl w.heap.size w
  go_enter Tryz.func34, Tryz.ntmps34
  go_wp2_with fail
  go_at_call 66
  refine (Rs.Is_any a a40 n _ HT.out.1 true w (HT.out.2.1.below B0)).mono ?_
  rintro e1 w1 ⟨rfl, hb⟩
  have B1 := B0.trans (hb.mono B0.size)
  clear hb x40
  go_wp2_with fail
  go_ret
  exact ⟨rfl, B1⟩
set_option maxHeartbeats 1000000 in
set_option maxRecDepth 100000 in
theorem Rs.told_41 (w : World) (ok : Rs.Ok w) (a : Addr) (n : Nat) (v : Value) (hc : Rs.Chain a n v) (h : Rs.Var w 41 a) : Calls Tryz.prog 34 #[v] w fun e w' => e = .returned (.int .i64 41) ∧ Below w.heap.size w w' := by
  obtain ⟨a40, v40⟩ := ok.2 40 (by decide) (by decide)
  obtain ⟨a41, v41⟩ := ok.2 41 (by decide) (by decide)
  have t40 := h.two v40 false (.inr ⟨by decide, rfl⟩)
  have x40 : w.cell? ⟨0, 0, none⟩ = some (.iface 217 (.pointer (some a40))) := v40.var
  have t41 := h.two v41 true (.inl ⟨rfl, rfl⟩)
  have x41 : w.cell? ⟨1, 0, none⟩ = some (.iface 217 (.pointer (some a41))) := v41.var
  have HT := Lib.hid (And.intro hc (And.intro t40 (And.intro x40 (And.intro t41 (And.intro x41 True.intro)))))
  obtain ⟨Tv, xv, rfl⟩ := hc.iface
  clear hc h ok v40 t40 v41 t41 x41
  have B0 := Below.refl w.heap.size w
  go_enter Tryz.func34, Tryz.ntmps34
  go_wp2_with fail
  go_at_call 66
  refine (Rs.Is_any a a40 n _ HT.out.1 false w (HT.out.2.1.below B0)).mono ?_
  rintro e1 w1 ⟨rfl, hb⟩
  have B1 := B0.trans (hb.mono B0.size)
  clear hb x40
  have x41 := (B1.cell (p := ⟨1, 0, none⟩) (World.block_lt_of_cell? w _ HT.out.2.2.2.2.1)).trans HT.out.2.2.2.2.1
  go_wp2_with fail
  go_at_call 66
  refine (Rs.Is_any a a41 n _ HT.out.1 true w1 (HT.out.2.2.2.1.below B1)).mono ?_
  rintro e2 w2 ⟨rfl, hb⟩
  have B2 := B1.trans (hb.mono B1.size)
  clear hb x41
  go_wp2_with fail
  go_ret
  exact ⟨rfl, B2⟩
set_option maxHeartbeats 1000000 in
set_option maxRecDepth 100000 in
theorem Rs.told_42 (w : World) (ok : Rs.Ok w) (a : Addr) (n : Nat) (v : Value) (hc : Rs.Chain a n v) (h : Rs.Var w 42 a) : Calls Tryz.prog 34 #[v] w fun e w' => e = .returned (.int .i64 42) ∧ Below w.heap.size w w' := by
  obtain ⟨a40, v40⟩ := ok.2 40 (by decide) (by decide)
  obtain ⟨a41, v41⟩ := ok.2 41 (by decide) (by decide)
  obtain ⟨a42, v42⟩ := ok.2 42 (by decide) (by decide)
  have t40 := h.two v40 false (.inr ⟨by decide, rfl⟩)
  have x40 : w.cell? ⟨0, 0, none⟩ = some (.iface 217 (.pointer (some a40))) := v40.var
  have t41 := h.two v41 false (.inr ⟨by decide, rfl⟩)
  have x41 : w.cell? ⟨1, 0, none⟩ = some (.iface 217 (.pointer (some a41))) := v41.var
  have t42 := h.two v42 true (.inl ⟨rfl, rfl⟩)
  have x42 : w.cell? ⟨2, 0, none⟩ = some (.iface 217 (.pointer (some a42))) := v42.var
  have HT := Lib.hid (And.intro hc (And.intro t40 (And.intro x40 (And.intro t41 (And.intro x41 (And.intro t42 (And.intro x42 True.intro)))))))
  obtain ⟨Tv, xv, rfl⟩ := hc.iface
  clear hc h ok v40 t40 v41 t41 v42 t42 x41 x42
  have B0 := Below.refl w.heap.size w
  go_enter Tryz.func34, Tryz.ntmps34
  go_wp2_with fail
  go_at_call 66
  refine (Rs.Is_any a a40 n _ HT.out.1 false w (HT.out.2.1.below B0)).mono ?_
  rintro e1 w1 ⟨rfl, hb⟩
  have B1 := B0.trans (hb.mono B0.size)
  clear hb x40
  have x41 := (B1.cell (p := ⟨1, 0, none⟩) (World.block_lt_of_cell? w _ HT.out.2.2.2.2.1)).trans HT.out.2.2.2.2.1
  go_wp2_with fail
  go_at_call 66
  refine (Rs.Is_any a a41 n _ HT.out.1 false w1 (HT.out.2.2.2.1.below B1)).mono ?_
  rintro e2 w2 ⟨rfl, hb⟩
  have B2 := B1.trans (hb.mono B1.size)
  clear hb x41
  have x42 := (B2.cell (p := ⟨2, 0, none⟩) (World.block_lt_of_cell? w _ HT.out.2.2.2.2.2.2.1)).trans HT.out.2.2.2.2.2.2.1
  go_wp2_with fail
  go_at_call 66
  refine (Rs.Is_any a a42 n _ HT.out.1 true w2 (HT.out.2.2.2.2.2.1.below B2)).mono ?_
  rintro e3 w3 ⟨rfl, hb⟩
  have B3 := B2.trans (hb.mono B2.size)
  clear hb x42
  go_wp2_with fail
  go_ret
  exact ⟨rfl, B3⟩
set_option maxHeartbeats 1000000 in
set_option maxRecDepth 100000 in
theorem Rs.told_43 (w : World) (ok : Rs.Ok w) (a : Addr) (n : Nat) (v : Value) (hc : Rs.Chain a n v) (h : Rs.Var w 43 a) : Calls Tryz.prog 34 #[v] w fun e w' => e = .returned (.int .i64 1) ∧ Below w.heap.size w w' := by
  obtain ⟨a40, v40⟩ := ok.2 40 (by decide) (by decide)
  obtain ⟨a41, v41⟩ := ok.2 41 (by decide) (by decide)
  obtain ⟨a42, v42⟩ := ok.2 42 (by decide) (by decide)
  have t40 := h.two v40 false (.inr ⟨by decide, rfl⟩)
  have x40 : w.cell? ⟨0, 0, none⟩ = some (.iface 217 (.pointer (some a40))) := v40.var
  have t41 := h.two v41 false (.inr ⟨by decide, rfl⟩)
  have x41 : w.cell? ⟨1, 0, none⟩ = some (.iface 217 (.pointer (some a41))) := v41.var
  have t42 := h.two v42 false (.inr ⟨by decide, rfl⟩)
  have x42 : w.cell? ⟨2, 0, none⟩ = some (.iface 217 (.pointer (some a42))) := v42.var
  have HT := Lib.hid (And.intro hc (And.intro t40 (And.intro x40 (And.intro t41 (And.intro x41 (And.intro t42 (And.intro x42 True.intro)))))))
  obtain ⟨Tv, xv, rfl⟩ := hc.iface
  clear hc h ok v40 t40 v41 t41 v42 t42 x41 x42
  have B0 := Below.refl w.heap.size w
  go_enter Tryz.func34, Tryz.ntmps34
  go_wp2_with fail
  go_at_call 66
  refine (Rs.Is_any a a40 n _ HT.out.1 false w (HT.out.2.1.below B0)).mono ?_
  rintro e1 w1 ⟨rfl, hb⟩
  have B1 := B0.trans (hb.mono B0.size)
  clear hb x40
  have x41 := (B1.cell (p := ⟨1, 0, none⟩) (World.block_lt_of_cell? w _ HT.out.2.2.2.2.1)).trans HT.out.2.2.2.2.1
  go_wp2_with fail
  go_at_call 66
  refine (Rs.Is_any a a41 n _ HT.out.1 false w1 (HT.out.2.2.2.1.below B1)).mono ?_
  rintro e2 w2 ⟨rfl, hb⟩
  have B2 := B1.trans (hb.mono B1.size)
  clear hb x41
  have x42 := (B2.cell (p := ⟨2, 0, none⟩) (World.block_lt_of_cell? w _ HT.out.2.2.2.2.2.2.1)).trans HT.out.2.2.2.2.2.2.1
  go_wp2_with fail
  go_at_call 66
  refine (Rs.Is_any a a42 n _ HT.out.1 false w2 (HT.out.2.2.2.2.2.1.below B2)).mono ?_
  rintro e3 w3 ⟨rfl, hb⟩
  have B3 := B2.trans (hb.mono B2.size)
  clear hb x42
  go_wp2_with fail
  go_ret
  exact ⟨rfl, B3⟩
theorem Rs.told_any (w : World) (ok : Rs.Ok w) (v : Value) (k : Nat) (h : Rs.Err w v k) : Calls Tryz.prog 34 #[v] w fun e w' => e = .returned (.int .i64 (Rs.num k : Nat)) ∧ Below w.heap.size w w' := by
  rcases h with ⟨rfl, rfl⟩ | ⟨h1, h2, a, n, hc, h⟩
  · exact Rs.told_nil w
  · have hk : k = 40 ∨ k = 41 ∨ k = 42 ∨ k = 43 := by omega
    rcases hk with rfl | rfl | rfl | rfl
    · exact Rs.told_40 w ok a n v hc h
    · exact Rs.told_41 w ok a n v hc h
    · exact Rs.told_42 w ok a n v hc h
    · exact Rs.told_43 w ok a n v hc h
end Go.Proofs.YtfbliccblippiaaGreatDoor
