/- leftOf, times, divide. -/
import Derived.Test.YthlecdggkolgmaaGreatDoorNtT
import Derived.Test.YthlecdggkolgmaaGreatDoorNtU
namespace Go.Proofs.YthlecdggkolgmaaGreatDoor
open Go.RowKit

theorem Nt.leftOf_any (w : World) (ax ay : Option Addr) (n cx x m cy y : Nat) (hx : Nt.Num w ax n cx x) (hy : Nt.Num w ay m cy y) (hy0 : 0 < y) (hn : n ≤ 400000) (hm : m ≤ 400000) :
    Calls Tryz.prog 108 #[.slice ax n cx, .slice ay m cy] w fun e w' => ∃ av k c, e = .returned (.slice av k c) ∧ Nt.Num w' av k c (x % y) ∧ Below w.heap.size w w' := by
  have HS := Lib.hid (Nt.split_any w ax ay n cx x m cy y hx hy hy0 hn hm)
  clear hx hy
  go_enter Tryz.func108, Tryz.ntmps108
  go_wp2_with fail
  go_at_call 125
  refine Calls.mono HS.out ?_
  rintro e1 w1 ⟨av, k, c, bv, l, d, rfl, h1, h2, hb⟩
  have HN := Lib.hid (And.intro h1 (And.intro h2 hb))
  clear h1 h2 hb
  go_wp2_with fail
  go_ret
  exact ⟨_, _, _, rfl, HN.out.2.1, HN.out.2.2⟩
theorem Nt.times_any (w : World) (ax ay az : Option Addr) (n cx x m cy y l cz z : Nat) (hx : Nt.Num w ax n cx x) (hy : Nt.Num w ay m cy y) (hz : Nt.Num w az l cz z) (hz0 : 0 < z) (hn : n ≤ 200000) (hm : m ≤ 200000) (hl : l ≤ 400000) :
    Calls Tryz.prog 110 #[.slice ax n cx, .slice ay m cy, .slice az l cz] w fun e w' => ∃ av k c, e = .returned (.slice av k c) ∧ Nt.Num w' av k c (x * y % z) ∧ Below w.heap.size w w' := by
  have HS := Lib.hid (And.intro hx (And.intro hy hz))
  clear hx hy hz
  go_enter Tryz.func110, Tryz.ntmps110
  go_wp2_with fail
  go_at_call 127
  refine Calls.mono (Nt.product_any w ax ay n cx x m cy y HS.out.1 HS.out.2.1 (by omega) (by omega)) ?_
  rintro e1 w1 ⟨av, k, c, rfl, h1, hb⟩
  have hk : k ≤ n + m := h1.len _ (by
    rw [Nat.pow_add]
    have a1 := HS.out.1.lt
    have a2 := HS.out.2.1.lt
    exact Nat.mul_lt_mul_of_lt_of_le a1 (Nat.le_of_lt a2) (Nat.pow_pos (by decide)))
  have HN := Lib.hid (And.intro h1 (And.intro hb hk))
  clear h1 hb hk
  go_wp2_with fail
  go_at_call 108
  refine Calls.mono (Nt.leftOf_any w1 av az k c (x * y) l cz z HN.out.1 (HS.out.2.2.below HN.out.2.1) hz0 (by have := HN.out.2.2; omega) hl) ?_
  rintro e2 w2 ⟨bv, k2, c2, rfl, h2, hb2⟩
  have HM := Lib.hid (And.intro h2 hb2)
  clear h2 hb2
  go_wp2_with fail
  go_ret
  exact ⟨_, _, _, rfl, HM.out.1, HN.out.2.1.trans (HM.out.2.mono HN.out.2.1.size)⟩
end Go.Proofs.YthlecdggkolgmaaGreatDoor
