/- widened: a copy with noughts at its end. -/
import Derived.Test.YtjlmcffbjikogaaGreatDoorNtL
namespace Go.Proofs.YtjlmcffbjikogaaGreatDoor
open Go.RowKit

set_option maxRecDepth 20000 in
theorem Nt.widened_any (w : World) (ax : Option Addr) (bx ox n cx : Nat) (fx : Nat → Nat) (m : Nat) (hx : 0 < n → ax = some ⟨bx, ox, none⟩ ∧ Nt.Lim w bx ox n fx) (dx : ∀ j, fx j < 4294967296) (hnm : n ≤ m) (hm : m ≤ 1000000) :
    Calls Tryz.prog 55 #[.slice ax n cx, .int .i64 (m : Int)] w fun e w' => ∃ g, e = .returned (.slice (some ⟨g, 0, none⟩) m m) ∧ w.heap.size ≤ g ∧ Nt.Lim w' g 0 m (fun j => if j < n then fx j else 0) ∧ Below w.heap.size w w' := by
  have HX := Lib.hid hx
  have HB := Lib.hid (And.intro dx (And.intro hnm hm))
  clear hx dx hnm hm
  go_enter Tryz.func55, Tryz.ntmps55
  go_upto_region 2 with (at_make; refine Nt.wpList_make rfl _ _ rfl m rfl rfl HB.out.2.2 ?_)
  have hg0 : (w.alloc (Obj.cells (Array.replicate m (Value.int IntKind.u32 0)) 75)).heap[w.heap.size]? = some (.cells (List.replicate m (Value.int .u32 0)).toArray 75 (0, 0)) := by
    rw [heap_alloc_new]
    simp
  have hb0 := (Below.refl w.heap.size w).alloc (Nat.le_refl _) (Obj.cells (Array.replicate m (Value.int IntKind.u32 0)) 75)
  revert hg0 hb0
  generalize w.alloc (Obj.cells (Array.replicate m (Value.int IntKind.u32 0)) 75) = w1
  intro hg0 hb0
  have HG := Lib.hid (And.intro hg0 hb0)
  clear hg0 hb0
  go_wp2_with (refine Nt.wpList_copy rfl (.tmp 8) (.tmp 9) rfl ax bx ox n cx m fx rfl rfl HB.out.2.1 HG.out.1 HG.out.2 HX.out ?_; intro w2 hrow hbel)
  go_ret
  exact ⟨w.heap.size, rfl, Nat.le_refl _, Nt.Lim.ofRow hrow.out (fun j hj => Nt.spliced fx n m j hj) (fun j => by by_cases h : j < n <;> simp [h, HB.out.1]), hbel⟩
end Go.Proofs.YtjlmcffbjikogaaGreatDoor
