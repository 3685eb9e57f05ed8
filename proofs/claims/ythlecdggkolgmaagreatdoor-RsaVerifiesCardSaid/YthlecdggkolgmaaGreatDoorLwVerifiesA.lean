/- RsaVerifies, the walk. -/
import Derived.Test.YthlecdggkolgmaaGreatDoorRsJ
import Derived.Test.YthlecdggkolgmaaGreatDoorRsX
import Derived.Test.YthlecdggkolgmaaGreatDoorRsY
namespace Go.Proofs.YthlecdggkolgmaaGreatDoor
section
open Go.RowKit
def Rs.laidL4 : List (String × DataW Unit) := [("unicode/utf8.acceptRanges", Rows.laid_unicode_utf8_acceptRanges), ("ostiary/nat.errLong", Rows.laid_ostiary_nat_errLong), ("ostiary/nat.errZero", Rows.laid_ostiary_nat_errZero), ("ostiary/nat.errBelow", Rows.laid_ostiary_nat_errBelow), ("ostiary/nat.errNone", Rows.laid_ostiary_nat_errNone), ("ostiary/nat.errEven", Rows.laid_ostiary_nat_errEven), ("ostiary/nat.errWide", Rows.laid_ostiary_nat_errWide), ("ostiary/rsa.errKey", Rows.laid_ostiary_rsa_errKey), ("ostiary/rsa.errSize", Rows.laid_ostiary_rsa_errSize), ("ostiary/rsa.errBlock", Rows.laid_ostiary_rsa_errBlock), ("ostiary/rsa.errScheme", Rows.laid_ostiary_rsa_errScheme), ("unicode/utf8.first", Rows.laid_unicode_utf8_first)]
theorem Rs.g43 : Tryz.prog.globalNamed "ostiary/rsa.errScheme" = some 3 := by kernel_rfl
theorem Rs.ok4_of_laid {W : World} (h : laidMetH Tryz.prog Rs.laidL4 W) : Rs.Ok4 W := by
  have h' : laidMet Tryz.prog [("unicode/utf8.acceptRanges", Rows.laid_unicode_utf8_acceptRanges), ("ostiary/nat.errLong", Rows.laid_ostiary_nat_errLong), ("ostiary/nat.errZero", Rows.laid_ostiary_nat_errZero), ("ostiary/nat.errBelow", Rows.laid_ostiary_nat_errBelow), ("ostiary/nat.errNone", Rows.laid_ostiary_nat_errNone), ("ostiary/nat.errEven", Rows.laid_ostiary_nat_errEven), ("ostiary/nat.errWide", Rows.laid_ostiary_nat_errWide), ("ostiary/rsa.errKey", Rows.laid_ostiary_rsa_errKey), ("ostiary/rsa.errSize", Rows.laid_ostiary_rsa_errSize), ("ostiary/rsa.errBlock", Rows.laid_ostiary_rsa_errBlock), ("ostiary/rsa.errScheme", Rows.laid_ostiary_rsa_errScheme), ("unicode/utf8.first", Rows.laid_unicode_utf8_first)] W := h
  have h0 := h'.tail
  have h1 := h0.tail
  have h2 := h1.tail
  have h3 := h2.tail
  have h4 := h3.tail
  have h5 := h4.tail
  have h6 := h5.tail
  have h7 := h6.tail
  have h8 := h7.tail
  obtain ⟨a30,a31,s30,s31,c30,c31,t30,t31,v30,v31,e30,x30,_,e31,x31,_,_,b30,b31⟩ := laid_sentinels2 h0 Rs.g30 (by kernel_rfl) Rs.g31 (by kernel_rfl) Tryz.underlying33 Rs.rowE Tryz.underlying200 Tryz.underlying222 rfl rfl Tryz.underlying9 Rs.cells1 Rs.cells2
  obtain ⟨a32,a33,s32,s33,c32,c33,t32,t33,v32,v33,e32,x32,_,e33,x33,_,_,b32,b33⟩ := laid_sentinels2 h2 Rs.g32 (by kernel_rfl) Rs.g33 (by kernel_rfl) Tryz.underlying33 Rs.rowE Tryz.underlying200 Tryz.underlying222 rfl rfl Tryz.underlying9 Rs.cells1 Rs.cells2
  obtain ⟨a34,a35,s34,s35,c34,c35,t34,t35,v34,v35,e34,x34,_,e35,x35,_,_,b34,b35⟩ := laid_sentinels2 h4 Rs.g34 (by kernel_rfl) Rs.g35 (by kernel_rfl) Tryz.underlying33 Rs.rowE Tryz.underlying200 Tryz.underlying222 rfl rfl Tryz.underlying9 Rs.cells1 Rs.cells2
  obtain ⟨a40,a41,s40,s41,c40,c41,t40,t41,v40,v41,e40,x40,_,e41,x41,_,_,b40,b41⟩ := laid_sentinels2 h6 Rs.g40 (by kernel_rfl) Rs.g41 (by kernel_rfl) Tryz.underlying33 Rs.rowE Tryz.underlying200 Tryz.underlying222 rfl rfl Tryz.underlying9 Rs.cells1 Rs.cells2
  obtain ⟨a42,a43,s42,s43,c42,c43,t42,t43,v42,v43,e42,x42,_,e43,x43,_,_,b42,b43⟩ := laid_sentinels2 h8 Rs.g42 (by kernel_rfl) Rs.g43 (by kernel_rfl) Tryz.underlying33 Rs.rowE Tryz.underlying200 Tryz.underlying222 rfl rfl Tryz.underlying9 Rs.cells1 Rs.cells2
  have r30 : W.cell? ⟨6,0,none⟩ = some (.iface 200 (.pointer (some a30))) := by simpa using World.var?_cell Rs.g30 v30 0
  have r31 : W.cell? ⟨4,0,none⟩ = some (.iface 200 (.pointer (some a31))) := by simpa using World.var?_cell Rs.g31 v31 0
  have r32 : W.cell? ⟨7,0,none⟩ = some (.iface 200 (.pointer (some a32))) := by simpa using World.var?_cell Rs.g32 v32 0
  have r33 : W.cell? ⟨8,0,none⟩ = some (.iface 200 (.pointer (some a33))) := by simpa using World.var?_cell Rs.g33 v33 0
  have r34 : W.cell? ⟨9,0,none⟩ = some (.iface 200 (.pointer (some a34))) := by simpa using World.var?_cell Rs.g34 v34 0
  have r35 : W.cell? ⟨5,0,none⟩ = some (.iface 200 (.pointer (some a35))) := by simpa using World.var?_cell Rs.g35 v35 0
  have r40 : W.cell? ⟨0,0,none⟩ = some (.iface 200 (.pointer (some a40))) := by simpa using World.var?_cell Rs.g40 v40 0
  have r41 : W.cell? ⟨1,0,none⟩ = some (.iface 200 (.pointer (some a41))) := by simpa using World.var?_cell Rs.g41 v41 0
  have r42 : W.cell? ⟨2,0,none⟩ = some (.iface 200 (.pointer (some a42))) := by simpa using World.var?_cell Rs.g42 v42 0
  have r43 : W.cell? ⟨3,0,none⟩ = some (.iface 200 (.pointer (some a43))) := by simpa using World.var?_cell Rs.g43 v43 0
  refine ⟨⟨fun k k1 k2 => ?_,fun k k1 k2 => ?_⟩,?_⟩
  · have hk : k = 30 ∨ k = 31 ∨ k = 32 ∨ k = 33 ∨ k = 34 ∨ k = 35 := by omega
    rcases hk with rfl | rfl | rfl | rfl | rfl | rfl
    · exact ⟨a30,r30,⟨s30,e30,x30⟩,⟨c30,t30,b30⟩⟩
    · exact ⟨a31,r31,⟨s31,e31,x31⟩,⟨c31,t31,b31⟩⟩
    · exact ⟨a32,r32,⟨s32,e32,x32⟩,⟨c32,t32,b32⟩⟩
    · exact ⟨a33,r33,⟨s33,e33,x33⟩,⟨c33,t33,b33⟩⟩
    · exact ⟨a34,r34,⟨s34,e34,x34⟩,⟨c34,t34,b34⟩⟩
    · exact ⟨a35,r35,⟨s35,e35,x35⟩,⟨c35,t35,b35⟩⟩
  · have hk : k = 40 ∨ k = 41 ∨ k = 42 := by omega
    rcases hk with rfl | rfl | rfl
    · exact ⟨a40,r40,⟨s40,e40,x40⟩,⟨c40,t40,b40⟩⟩
    · exact ⟨a41,r41,⟨s41,e41,x41⟩,⟨c41,t41,b41⟩⟩
    · exact ⟨a42,r42,⟨s42,e42,x42⟩,⟨c42,t42,b42⟩⟩
  · exact ⟨a43,r43,⟨s43,e43,x43⟩,⟨c43,t43,b43⟩⟩
/-- A world that holds them: the errors' structs in blocks of their own behind what there is. -/
noncomputable def Rs.laidWorld4 (os : Os) : World :=
  let w0 := World.holding Tryz.prog os ⟨#[],#[],[]⟩
  let n := w0.heap.size
  let put (h : Array Obj) (g : Nat) (cs : Array Value) : Array Obj := h.modify g fun
    | .cells _ t frozen => .cells cs t frozen
    | o => o
  let h0 := ((((((((((w0.heap.push (.cells #[.string ⟨(Nt.tOf 30).toArray⟩] 222 (0,0))).push (.cells #[.string ⟨(Nt.tOf 31).toArray⟩] 222 (0,0))).push (.cells #[.string ⟨(Nt.tOf 32).toArray⟩] 222 (0,0))).push (.cells #[.string ⟨(Nt.tOf 33).toArray⟩] 222 (0,0))).push (.cells #[.string ⟨(Nt.tOf 34).toArray⟩] 222 (0,0))).push (.cells #[.string ⟨(Nt.tOf 35).toArray⟩] 222 (0,0))).push (.cells #[.string ⟨(Rs.tOf 40).toArray⟩] 222 (0,0))).push (.cells #[.string ⟨(Rs.tOf 41).toArray⟩] 222 (0,0))).push (.cells #[.string ⟨(Rs.tOf 42).toArray⟩] 222 (0,0))).push (.cells #[.string ⟨(Rs.tOf 43).toArray⟩] 222 (0,0)))
  let ptr (i : Nat) : Array Value := #[.iface 200 (.pointer (some ⟨n + i,0,none⟩))]
  let h1 := put h0 11 (Lib.firstTab.map fun z => Value.int .u8 z).toArray
  let h2 := put h1 12 ((List.range 16).flatMap fun i => [Value.int .u8 (Lib.accLo i),Value.int .u8 (Lib.accHi i)]).toArray
  let h3 := (put (put (put (put (put (put (put (put (put (put h2 6 (ptr 0)) 4 (ptr 1)) 7 (ptr 2)) 8 (ptr 3)) 9 (ptr 4)) 5 (ptr 5)) 0 (ptr 6)) 1 (ptr 7)) 2 (ptr 8)) 3 (ptr 9))
  { w0 with heap := h3 }
theorem Rs.laid_met4 (os : Os) (args : Array Value) : laidMetH Tryz.prog Rs.laidL4 ((Rs.laidWorld4 os).forCall (fun _ _ => 0) ⟨#[],args,[]⟩).memory :=
  laidMetH_of_parts (laidMet_of_run' 8 (by kernel_rfl) (by kernel_rfl)) (by kernel_rfl)
end
section
open Go.RowKit
theorem Rs.sizeK : (Tryz.prog.info? 25).map (·.size) = some 2 := by kernel_rfl
namespace lwVerifies
set_option maxHeartbeats 2000000 in
set_option maxRecDepth 100000 in
theorem longN (n e s sig : ByteArray) (sc : Int) (w : World) (ok : Rs.Ok4 w) (h : 4000 < n.size)
    (hV : ∀ W,Rs.Ok4 W → Calls Tryz.prog 8 #[.agg #[.string n,.string e],.int .i64 sc,.string s,.string sig] W fun r w' => r = .returned (.bool false) ∧ Below W.heap.size W w') :
    Calls Tryz.prog 4 #[.agg #[.string n,.string e],.agg #[.int .i64 sc,.string s,.string sig]] w fun e w' => e = .returned (.bool true) ∧ Below w.heap.size w w' := by
  have z1 : (4000 : Int) < (n.size : Int) := by omega
  have b0 : Below w.heap.size w ((w.alloc (Obj.cells #[.string n,.string e] 25)).alloc (Obj.cells #[.int .i64 sc,.string s,.string sig] 27)) := ((Below.refl _ _).alloc (Nat.le_refl _) _).alloc (by simp) _
  have HK := Lib.hid hV
  have H0 := Lib.hid (And.intro (ok.below b0) b0)
  clear hV ok b0
  go_enter Tryz.func4,Tryz.ntmps4
  go_wp2_with fail
  go_at_call 8
  refine Calls.mono (HK.out _ H0.out.1) ?_
  rintro r w2 ⟨rfl,hb⟩
  have H2 := Lib.hid (And.intro (H0.out.1.below hb) (H0.out.2.trans (hb.mono H0.out.2.size)))
  clear hb
  go_wp2_with fail
  go_at_call 7
  refine Calls.mono (Rs.fixed_any w2 H2.out.1.1) ?_
  rintro r w9 ⟨rfl,hb⟩
  have H9 := Lib.hid (H2.out.2.trans (hb.mono H2.out.2.size))
  clear hb
  go_wp2_with fail
  go_ret
  exact ⟨rfl,H9.out⟩
set_option maxHeartbeats 2000000 in
set_option maxRecDepth 100000 in
theorem longE (n e s sig : ByteArray) (sc : Int) (w : World) (ok : Rs.Ok4 w) (h1 : n.size ≤ 4000) (h : 4000 < e.size)
    (hV : ∀ W,Rs.Ok4 W → Calls Tryz.prog 8 #[.agg #[.string n,.string e],.int .i64 sc,.string s,.string sig] W fun r w' => r = .returned (.bool false) ∧ Below W.heap.size W w') :
    Calls Tryz.prog 4 #[.agg #[.string n,.string e],.agg #[.int .i64 sc,.string s,.string sig]] w fun e w' => e = .returned (.bool true) ∧ Below w.heap.size w w' := by
  have z1 : ¬ (4000 : Int) < (n.size : Int) := by omega
  have z2 : (4000 : Int) < (e.size : Int) := by omega
  have b0 : Below w.heap.size w ((w.alloc (Obj.cells #[.string n,.string e] 25)).alloc (Obj.cells #[.int .i64 sc,.string s,.string sig] 27)) := ((Below.refl _ _).alloc (Nat.le_refl _) _).alloc (by simp) _
  have HK := Lib.hid hV
  have H0 := Lib.hid (And.intro (ok.below b0) b0)
  clear hV ok b0
  go_enter Tryz.func4,Tryz.ntmps4
  go_wp2_with fail
  go_at_call 8
  refine Calls.mono (HK.out _ H0.out.1) ?_
  rintro r w2 ⟨rfl,hb⟩
  have H2 := Lib.hid (And.intro (H0.out.1.below hb) (H0.out.2.trans (hb.mono H0.out.2.size)))
  clear hb
  go_wp2_with fail
  go_at_call 7
  refine Calls.mono (Rs.fixed_any w2 H2.out.1.1) ?_
  rintro r w9 ⟨rfl,hb⟩
  have H9 := Lib.hid (H2.out.2.trans (hb.mono H2.out.2.size))
  clear hb
  go_wp2_with fail
  go_ret
  exact ⟨rfl,H9.out⟩
set_option maxHeartbeats 4000000 in
set_option maxRecDepth 100000 in
theorem near (n e s sig : ByteArray) (sc : Int) (w : World) (ok : Rs.Ok4 w) (hn : n.size ≤ 4000) (he : e.size ≤ 4000) (b : Bool)
    (hV : ∀ W,Rs.Ok4 W → Calls Tryz.prog 8 #[.agg #[.string n,.string e],.int .i64 sc,.string s,.string sig] W fun r w' => r = .returned (.bool b) ∧ Below W.heap.size W w')
    (hR : ∀ W,Calls Tryz.prog 9 #[.agg #[.string n,.string e],.int .i64 sc,.string s,.string sig] W fun r w' => r = .returned (.bool b) ∧ Below W.heap.size W w') :
    Calls Tryz.prog 4 #[.agg #[.string n,.string e],.agg #[.int .i64 sc,.string s,.string sig]] w fun e w' => e = .returned (.bool true) ∧ Below w.heap.size w w' := by
  have z1 : ¬ (4000 : Int) < (n.size : Int) := by omega
  have z2 : ¬ (4000 : Int) < (e.size : Int) := by omega
  have b0 : Below w.heap.size w ((w.alloc (Obj.cells #[.string n,.string e] 25)).alloc (Obj.cells #[.int .i64 sc,.string s,.string sig] 27)) := ((Below.refl _ _).alloc (Nat.le_refl _) _).alloc (by simp) _
  have e1 : (w.alloc (Obj.cells #[.string n,.string e] 25)).heap.size = w.heap.size + 1 := by
    show (w.heap.push _).size = _
    simp
  have kb : ((w.alloc (Obj.cells #[.string n,.string e] 25)).alloc (Obj.cells #[.int .i64 sc,.string s,.string sig] 27)).heap[w.heap.size]? = some (.cells #[.string n,.string e] 25 (0,0)) := (((Below.refl (w.alloc (Obj.cells #[.string n,.string e] 25)).heap.size (w.alloc (Obj.cells #[.string n,.string e] 25))).alloc (Nat.le_refl _) _).block w.heap.size (by omega)).trans (heap_alloc_new _ _)
  have d0 : ((w.alloc (Obj.cells #[.string n,.string e] 25)).alloc (Obj.cells #[.int .i64 sc,.string s,.string sig] 27)).cell? ⟨(w.alloc (Obj.cells #[.string n,.string e] 25)).heap.size,0,none⟩ = some (.int .i64 sc) := by simp
  have d1 : ((w.alloc (Obj.cells #[.string n,.string e] 25)).alloc (Obj.cells #[.int .i64 sc,.string s,.string sig] 27)).cell? ⟨(w.alloc (Obj.cells #[.string n,.string e] 25)).heap.size,1,none⟩ = some (.string s) := by simp
  have d2 : ((w.alloc (Obj.cells #[.string n,.string e] 25)).alloc (Obj.cells #[.int .i64 sc,.string s,.string sig] 27)).cell? ⟨(w.alloc (Obj.cells #[.string n,.string e] 25)).heap.size,2,none⟩ = some (.string sig) := by simp
  rw [e1] at d0 d1 d2
  clear e1
  have HV := Lib.hid hV
  have HR := Lib.hid hR
  have H0 := Lib.hid (And.intro (ok.below b0) (And.intro b0 (And.intro kb (And.intro d0 (And.intro d1 d2)))))
  clear hV hR ok b0 kb d0 d1 d2 hn he
  go_enter Tryz.func4,Tryz.ntmps4
  go_upto_region 3 with fail
  have kb := H0.out.2.2.1
  have S0 := And.intro H0.out.1 (And.intro H0.out.2.1 H0.out.2.2.2)
  clear H0
  revert kb S0
  generalize ((w.alloc (Obj.cells #[.string n,.string e] 25)).alloc (Obj.cells #[.int .i64 sc,.string s,.string sig] 27)) = w2
  intro kb S0
  have d0 := fun p => Rg.cell S0.2.2.1 p
  have d1 := fun p => Rg.cell S0.2.2.2.1 p
  have d2 := fun p => Rg.cell S0.2.2.2.2 p
  have FV := Lib.hid (fun p => HV.out (Rg.w w2 p) (S0.1.below (Rg.below w2 p)))
  have FR := Lib.hid (fun p => HR.out (Rg.w w2 p))
  have FX := Lib.hid (fun p => Rs.fixed_any (Rg.w w2 p) (S0.1.below (Rg.below w2 p)).1)
  have HB := Lib.hid S0.2.1
  have hsz : (Tryz.prog.info? 25).map (·.size) = some (#[Value.string n,Value.string e] : Array Value).size := Rs.sizeK
  clear S0 HV HR z1 z2
  obtain ⟨q,hq⟩ : ∃ q,w.heap.size = q := ⟨_,rfl⟩
  rw [hq] at kb d0 d1 d2 ⊢
  cases b
  all_goals
    refine Rg.quiet (by kernel_rfl) (by kernel_rfl) ?_
    repeat (first | (go_big_quiet_want; refine Rg.load_row _ 25 rfl q rfl 25 #[.string n,.string e] (0,0) _ kb Tryz.underlying25 rfl hsz _ (by simp only [Act.put,List.setIfInBounds_toArray,List.set_cons_zero,List.set_cons_succ]; exact rfl) ?_; go_big_quiet_on) | go_big_quiet_step ((first | (go_at_call 8; with_reducible exact Rg.call (FV.out _)) | (go_at_call 9; with_reducible exact Rg.call (FR.out _)) | (go_at_call 7; with_reducible exact Rg.call (FX.out _)))))
    refine wpQuiet_nil ?_
    intro w' hw'
    obtain ⟨p,rfl⟩ := hw'
    have hBp := Rg.below w2 p
    generalize Rg.w w2 p = w3 at hBp ⊢
    have H3 := Lib.hid (HB.out.trans (hBp.mono HB.out.size))
    clear hBp
    go_wp2_with fail
    go_ret
    exact ⟨rfl,H3.out⟩
theorem walk (n e : ByteArray) (sc : Int) (s sig : ByteArray) (w : World) (ok : Rs.Ok4 w) (zn : n.size ≤ 140737488351232) (ze : e.size ≤ 140737488351232) (zs : s.size ≤ 140737488351232) :
    Calls Tryz.prog 4 #[.agg #[.string n,.string e],.agg #[.int .i64 sc,.string s,.string sig]] w fun e w' => e = .returned (.bool true) ∧ Below w.heap.size w w' := by
  have hV := fun W hW => Rs.Verify_any W hW n e s sig sc (by omega) (by omega) (by omega)
  have hbad : Rs.bad n e → ∀ W,Rs.Ok4 W → Calls Tryz.prog 8 #[.agg #[.string n,.string e],.int .i64 sc,.string s,.string sig] W fun r w' => r = .returned (.bool false) ∧ Below W.heap.size W w' := fun hg W hW => by
    refine (hV W hW).mono ?_
    rintro r w' ⟨b,hb,hr,hB⟩
    cases b
    · exact ⟨hr,hB⟩
    · exact absurd hg (hb.1 rfl).1
  by_cases h1 : 4000 < n.size
  · exact longN n e s sig sc w ok h1 (hbad (Rs.long_bad n e (.inl h1)))
  by_cases h2 : 4000 < e.size
  · exact longE n e s sig sc w ok (by omega) h2 (hbad (Rs.long_bad n e (.inr h2)))
  have hR := fun W => Rs.RVerify_any W n e s sig sc (by omega) (by omega) zs
  by_cases hP : Rs.sigP n e s sig sc
  · refine near n e s sig sc w ok (by omega) (by omega) true (fun W hW => (hV W hW).mono ?_) (fun W => (hR W).mono ?_)
    all_goals
      rintro r w' ⟨b,hb,hr,hB⟩
      obtain rfl := hb.2 hP
      exact ⟨hr,hB⟩
  · refine near n e s sig sc w ok (by omega) (by omega) false (fun W hW => (hV W hW).mono ?_) (fun W => (hR W).mono ?_)
    all_goals
      rintro r w' ⟨b,hb,hr,hB⟩
      cases b
      · exact ⟨hr,hB⟩
      · exact absurd (hb.1 rfl) hP
end lwVerifies
end
end Go.Proofs.YthlecdggkolgmaaGreatDoor
