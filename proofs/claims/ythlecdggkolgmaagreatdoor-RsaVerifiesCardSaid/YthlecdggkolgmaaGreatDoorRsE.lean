/- open, Open: refused. -/
import Derived.Test.YthlecdggkolgmaaGreatDoorRsD
namespace Go.Proofs.YthlecdggkolgmaaGreatDoor
open Go.RowKit
theorem Rs.Err.none {w : World} {v : Value} (h : Rs.Err w v 0) : v = .nilIface := by
  rcases h with ⟨_,h⟩ | ⟨h,_⟩
  · exact h
  · omega
theorem Rs.Err.some {w : World} {v : Value} {k : Nat} (h : Rs.Err w v k) (hk : k ≠ 0) : ∃ T x,v = .iface T x := by
  rcases h with ⟨h,_⟩ | ⟨_,_,a,n,hc,_⟩
  · exact absurd h hk
  · exact hc.iface
/-- A key in a box of its own, checked: what open begins with. -/
theorem Rs.boxed (w : World) (ok : Rs.Ok w) (n e : ByteArray) (hn : n.size ≤ 150000000000000) (he : e.size ≤ 150000000000000) :
    Calls Tryz.prog 36 #[.agg #[.string n,.string e]] (w.alloc (Obj.cells #[.string n,.string e] 25)) fun r w' => ∃ v,r = .returned v ∧ Rs.Err w' v (if Rs.bad n e then 40 else 0) ∧ Rs.Ok w' ∧ w'.cell? ⟨w.heap.size,0,none⟩ = some (.string n) ∧ w'.cell? ⟨w.heap.size,1,none⟩ = some (.string e) ∧ Below w.heap.size w w' := by
  have b0 : Below w.heap.size w (w.alloc (Obj.cells #[.string n,.string e] 25)) := (Below.refl _ _).alloc (Nat.le_refl _) _
  have hlt : w.heap.size < (w.alloc (Obj.cells #[.string n,.string e] 25)).heap.size := by
    show w.heap.size < (w.heap.push _).size
    simp
  refine (Rs.checked_any _ (ok.below b0) n e hn he).mono ?_
  rintro r w2 ⟨v,rfl,hE,hb⟩
  have c0 : (w.alloc (Obj.cells #[.string n,.string e] 25)).cell? ⟨w.heap.size,0,none⟩ = some (.string n) := by simp
  have c1 : (w.alloc (Obj.cells #[.string n,.string e] 25)).cell? ⟨w.heap.size,1,none⟩ = some (.string e) := by simp
  exact ⟨v,rfl,hE,(ok.below b0).below hb,(hb.cell (p := ⟨w.heap.size,0,none⟩) hlt).trans c0,(hb.cell (p := ⟨w.heap.size,1,none⟩) hlt).trans c1,b0.trans (hb.mono b0.size)⟩
set_option maxHeartbeats 2000000 in
set_option maxRecDepth 100000 in
theorem Rs.open_size (w : World) (ok : Rs.Ok w) (n e sig : ByteArray) (hn : n.size ≤ 150000000000000) (he : e.size ≤ 150000000000000) (hg : ¬ Rs.bad n e) (hz : sig.size ≠ n.size) :
    Calls Tryz.prog 35 #[.agg #[.string n,.string e],.string sig] w fun r w' => ∃ v,r = .returned (.tuple #[.string ⟨#[]⟩,v]) ∧ Rs.Err w' v 41 ∧ Below w.heap.size w w' := by
  have HC := Lib.hid (Rs.boxed w ok n e hn he)
  rw [if_neg hg] at HC
  have hzz : ((sig.size : Int) != (n.size : Int)) = true := by
    rw [bne_iff_ne]
    omega
  have hzz2 : ¬ (sig.size : Int) = (n.size : Int) := by omega
  clear ok hg hz
  go_enter Tryz.func35,Tryz.ntmps35
  go_wp2_with fail
  go_at_call 36
  refine Calls.mono HC.out ?_
  rintro r w1 ⟨v,rfl,hE,hO,c0,c1,hb⟩
  obtain rfl := hE.none
  obtain ⟨a,hv⟩ := hO.2 41 (by decide) (by decide)
  have hx : w1.cell? ⟨1,0,none⟩ = some (.iface 200 (.pointer (some a))) := hv.var
  have H1 := Lib.hid (And.intro hv hb)
  clear hE hO hv hb
  go_wp2_with fail
  go_quiet (fail)
  go_wp2_with fail
  go_ret2
  exact ⟨_,rfl,.inr ⟨by decide,by decide,a,1,.about _ .leaf,H1.out.1.below (below_drewN (Below.refl _ _) _)⟩,H1.out.2.trans (below_drewN (Below.refl _ _) _)⟩
set_option maxHeartbeats 1000000 in
theorem Rs.Open_size (w : World) (ok : Rs.Ok w) (n e sig : ByteArray) (hn : n.size ≤ 150000000000000) (he : e.size ≤ 150000000000000) (hg : ¬ Rs.bad n e) (hz : sig.size ≠ n.size) :
    Calls Tryz.prog 18 #[.agg #[.string n,.string e],.string sig] w fun r w' => r = .returned (.tuple #[.string ⟨#[]⟩,.int .i64 41]) ∧ Below w.heap.size w w' := by
  have b0 : Below w.heap.size w (w.alloc (Obj.cells #[.string n,.string e] 25)) := (Below.refl _ _).alloc (Nat.le_refl _) _
  have HC := Lib.hid (Rs.open_size (w.alloc (Obj.cells #[.string n,.string e] 25)) (ok.below b0) n e sig hn he hg hz)
  have HO := Lib.hid (And.intro (ok.below b0) b0)
  clear ok hg hz b0
  go_enter Tryz.func18,Tryz.ntmps18
  go_wp2_with fail
  go_at_call 35
  refine Calls.mono HC.out ?_
  rintro r w1 ⟨v,rfl,hE,hb⟩
  have H1 := Lib.hid (And.intro hE hb)
  clear hE hb
  go_wp2_with fail
  go_at_call 10
  refine Calls.mono (Rs.told_any w1 (HO.out.1.below H1.out.2) v 41 H1.out.1) ?_
  rintro r w2 ⟨rfl,hb⟩
  have H2 := Lib.hid hb
  clear hb
  go_wp2_with fail
  go_ret2
  exact ⟨rfl,(HO.out.2.trans (H1.out.2.mono HO.out.2.size)).trans (H2.out.mono (Nat.le_trans HO.out.2.size H1.out.2.size))⟩
end Go.Proofs.YthlecdggkolgmaaGreatDoor
