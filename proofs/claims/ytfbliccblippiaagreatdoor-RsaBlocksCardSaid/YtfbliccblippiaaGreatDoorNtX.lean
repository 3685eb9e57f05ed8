/- leftOf, times, divide. -/
import Derived.Test.YtfbliccblippiaaGreatDoorNtT
import Derived.Test.YtfbliccblippiaaGreatDoorNtU
namespace Go.Proofs.YtfbliccblippiaaGreatDoor
open Go.RowKit

theorem Nt.leftOf_any (w : World) (ax ay : Option Addr) (n cx x m cy y : Nat) (hx : Nt.Num w ax n cx x) (hy : Nt.Num w ay m cy y) (hy0 : 0 < y) (hn : n ≤ 400000) (hm : m ≤ 400000) :
    Calls Tryz.prog 123 #[.slice ax n cx, .slice ay m cy] w fun e w' => ∃ av k c, e = .returned (.slice av k c) ∧ Nt.Num w' av k c (x % y) ∧ Below w.heap.size w w' := by
  have HS := Lib.hid (Nt.split_any w ax ay n cx x m cy y hx hy hy0 hn hm)
  clear hx hy
  go_enter Tryz.func123, Tryz.ntmps123
  go_wp2_with fail
  go_at_call 134
  refine Calls.mono HS.out ?_
  rintro e1 w1 ⟨av, k, c, bv, l, d, rfl, h1, h2, hb⟩
  have HN := Lib.hid (And.intro h1 (And.intro h2 hb))
  clear h1 h2 hb
  go_wp2_with fail
  go_ret
  exact ⟨_, _, _, rfl, HN.out.2.1, HN.out.2.2⟩
theorem Nt.times_any (w : World) (ax ay az : Option Addr) (n cx x m cy y l cz z : Nat) (hx : Nt.Num w ax n cx x) (hy : Nt.Num w ay m cy y) (hz : Nt.Num w az l cz z) (hz0 : 0 < z) (hn : n ≤ 200000) (hm : m ≤ 200000) (hl : l ≤ 400000) :
    Calls Tryz.prog 124 #[.slice ax n cx, .slice ay m cy, .slice az l cz] w fun e w' => ∃ av k c, e = .returned (.slice av k c) ∧ Nt.Num w' av k c (x * y % z) ∧ Below w.heap.size w w' := by
  have HS := Lib.hid (And.intro hx (And.intro hy hz))
  clear hx hy hz
  go_enter Tryz.func124, Tryz.ntmps124
  go_wp2_with fail
  go_at_call 89
  refine Calls.mono (Nt.product_any w ax ay n cx x m cy y HS.out.1 HS.out.2.1 (by omega) (by omega)) ?_
  rintro e1 w1 ⟨av, k, c, rfl, h1, hb⟩
  have hk : k ≤ n + m := h1.len _ (by
    rw [Nat.pow_add]
    have a1 := HS.out.1.lt
    have a2 := HS.out.2.1.lt
    exact Nat.mul_lt_mul_of_lt_of_le a1 (Nat.le_of_lt a2) (Nat.pow_pos (by decide)))
  have HN := Lib.hid (And.intro h1 (And.intro hb hk))
  clear h1 hb hk
  go_wp2_with fail
  go_at_call 123
  refine Calls.mono (Nt.leftOf_any w1 av az k c (x * y) l cz z HN.out.1 (HS.out.2.2.below HN.out.2.1) hz0 (by have := HN.out.2.2; omega) hl) ?_
  rintro e2 w2 ⟨bv, k2, c2, rfl, h2, hb2⟩
  have HM := Lib.hid (And.intro h2 hb2)
  clear h2 hb2
  go_wp2_with fail
  go_ret
  exact ⟨_, _, _, rfl, HM.out.1, HN.out.2.1.trans (HM.out.2.mono HN.out.2.1.size)⟩
set_option maxHeartbeats 1000000 in
theorem Nt.divide_any (w : World) (ok : Nt.Ok w) (ax ay : Option Addr) (n cx x m cy y : Nat) (hx : Nt.Num w ax n cx x) (hy : Nt.Num w ay m cy y) (hn : n ≤ 400000) (hm : m ≤ 400000) :
    Calls Tryz.prog 102 #[.slice ax n cx, .slice ay m cy] w fun e w' => ∃ av k c bv l d v, e = .returned (.tuple #[.slice av k c, .slice bv l d, v]) ∧ Nt.Num w' av k c (x / y) ∧ Nt.Num w' bv l d (if y = 0 then 0 else x % y) ∧ Nt.Err w' v (if y = 0 then 31 else 0) ∧ Below w.heap.size w w' := by
  have hz := hy.zero
  by_cases hy0 : y = 0
  · have hm0 := hz.2 hy0
    subst hm0
    rw [if_pos hy0, if_pos hy0, hy0, Nat.div_zero]
    obtain ⟨a, hv⟩ := ok 31 (by decide) (by decide)
    have hc : w.cell? ⟨6, 0, none⟩ = some (.iface 217 (.pointer (some a))) := hv.var
    have HV := Lib.hid hv
    clear hv ok hx hy hz hy0
    go_enter Tryz.func102, Tryz.ntmps102
    go_wp2_with fail
    go_quiet (fail)
    go_wp2_with fail
    have hret : ∀ W : World, Below w.heap.size w W → ∃ av k c bv l d v, (Ending.returned (.tuple #[.slice none 0 0, .slice none 0 0, .iface 217 (.pointer (some a))]) : Ending) = .returned (.tuple #[.slice av k c, .slice bv l d, v]) ∧ Nt.Num W av k c 0 ∧ Nt.Num W bv l d 0 ∧ Nt.Err W v 31 ∧ Below w.heap.size w W := fun W hb => ⟨_, _, _, _, _, _, _, rfl, Nt.Num.nil _, Nt.Num.nil _, .inr ⟨by decide, by decide, a, rfl, HV.out.below hb⟩, hb⟩
    exact bodyPost_ret (v := .tuple #[.slice none 0 0, .slice none 0 0, .iface 217 (.pointer (some a))]) (by simp [results, Tryz.results102, go_sem]) rfl (hret _ (Tx.drewNb w _))
  · have hm0 : ((m : Int) == 0) = false := by rw [beq_eq_false_iff_ne]; intro h; exact hy0 (hz.1 (by omega))
    rw [if_neg hy0, if_neg hy0]
    have HS := Lib.hid (Nt.split_any w ax ay n cx x m cy y hx hy (by omega) hn hm)
    clear hx hy hz ok hy0
    go_enter Tryz.func102, Tryz.ntmps102
    go_wp2_with fail
    go_at_call 134
    refine Calls.mono HS.out ?_
    rintro e1 w1 ⟨av, k, c, bv, l, d, rfl, h1, h2, hb⟩
    have HN := Lib.hid (And.intro h1 (And.intro h2 hb))
    clear h1 h2 hb
    go_wp2_with fail
    exact bodyPost_ret (v := .tuple #[.slice av k c, .slice bv l d, .nilIface]) (by simp [results, Tryz.results102, go_sem]) rfl ⟨_, _, _, _, _, _, _, rfl, HN.out.1, HN.out.2.1, .inl ⟨rfl, rfl⟩, HN.out.2.2⟩
end Go.Proofs.YtfbliccblippiaaGreatDoor
