/- without, difference. -/
import Derived.Test.YtfbliccblippiaaGreatDoorNtQ
import Derived.Test.YtfbliccblippiaaGreatDoorNtR
namespace Go.Proofs.YtfbliccblippiaaGreatDoor
open Go.RowKit

set_option maxHeartbeats 1000000 in
theorem Nt.without_any (w : World) (ax ay : Option Addr) (n cx x m cy y : Nat) (hx : Nt.Num w ax n cx x) (hy : Nt.Num w ay m cy y) (hxy : y ≤ x) (hn : n ≤ 900000) :
    Calls Tryz.prog 127 #[.slice ax n cx, .slice ay m cy] w fun e w' => ∃ av k c, e = .returned (.slice av k c) ∧ Nt.Num w' av k c (x - y) ∧ Below w.heap.size w w' := by
  have hmn := hy.mono hx hxy
  have hlt := hx.lt
  have H0 := Lib.hid (And.intro hx (And.intro hy (And.intro hmn (And.intro hxy hlt))))
  clear hx hy hmn hlt hxy
  go_enter Tryz.func127, Tryz.ntmps127
  go_wp2_with fail
  go_at_call 93
  refine Calls.mono (Nt.widened_num w ax n cx x n H0.out.1 (Nat.le_refl _) (by omega)) ?_
  rintro e1 w1 ⟨g, f, rfl, hg, hL, hv, hz, hb⟩
  have HA := Lib.hid (And.intro hg (And.intro hL (And.intro hv (And.intro hz hb))))
  clear hg hL hv hz hb
  go_wp2_with fail
  go_at_call 93
  refine Calls.mono (Nt.widened_num w1 ay m cy y n (H0.out.2.1.below HA.out.2.2.2.2) H0.out.2.2.1 (by omega)) ?_
  rintro e2 w2 ⟨g2, f2, rfl, hg2, hL2, hv2, hz2, hb2⟩
  have HB := Lib.hid (And.intro hg2 (And.intro hL2 (And.intro hv2 (And.intro hz2 hb2))))
  clear hg2 hL2 hv2 hz2 hb2
  go_wp2_with fail
  go_at_call 145
  refine Calls.mono (Nt.takeTimes_any w2 g 0 n n f g2 0 n n f2 1 (HA.out.2.1.below HB.out.2.2.2.2 HA.out.2.1.lt) HB.out.2.1 (Nat.le_refl _) (by omega) (by decide) (by have h1 := HA.out.2.1.lt; have h2 := HB.out.1; omega)) ?_
  rintro e3 w3 ⟨c, fo, rfl, hcb, hLo, hvo, _, hO⟩
  have HC := Lib.hid (And.intro hcb (And.intro hLo (And.intro hvo hO)))
  have HT := Lib.hid (Nt.trimmed_any w3 g 0 n n fo hLo (Nat.le_refl _) (by omega))
  clear hcb hLo hvo hO
  go_wp2_with fail
  go_at_call 95
  refine Calls.mono HT.out ?_
  rintro e4 w4 ⟨rfl, k, rfl, hk, hzk, htk⟩
  have HZ := Lib.hid (And.intro hk (And.intro hzk htk))
  clear hk hzk htk
  go_wp2_with fail
  go_ret
  have hsum := HC.out.2.2.1
  rw [HA.out.2.2.1, HB.out.2.2.1, Nat.one_mul] at hsum
  have hfo : Vl.val 4294967296 fo n < 4294967296 ^ n := Vl.val_lt _ (by decide) fo n (fun j _ => HC.out.2.1.dig j)
  have hxy := H0.out.2.2.2.1
  have hc0 : c = 0 := by
    rcases Nat.eq_zero_or_pos c with h | h
    · exact h
    · have h5 : 4294967296 ^ n ≤ c * 4294967296 ^ n := Nat.le_mul_of_pos_left _ h
      omega
  rw [hc0, Nat.zero_mul, Nat.add_zero] at hsum
  have hd : x - y = Vl.val 4294967296 fo n := by omega
  refine ⟨_, _, _, rfl, ?_, ?_⟩
  · rw [hd]
    exact Nt.Num.of HC.out.2.1 HZ.out.1 HZ.out.1 HZ.out.2.1 HZ.out.2.2
  · exact (HA.out.2.2.2.2.trans (HB.out.2.2.2.2.mono HA.out.2.2.2.2.size)).trans (HC.out.2.2.2.below (Nat.le_trans HA.out.1 (Nat.le_refl _)) (Nat.le_trans HA.out.2.2.2.2.size HB.out.2.2.2.2.size))
set_option maxHeartbeats 1000000 in
theorem Nt.difference_any (w : World) (ok : Nt.Ok w) (ax ay : Option Addr) (n cx x m cy y : Nat) (hx : Nt.Num w ax n cx x) (hy : Nt.Num w ay m cy y) (hn : n ≤ 900000) (hm : m ≤ 900000) :
    Calls Tryz.prog 88 #[.slice ax n cx, .slice ay m cy] w fun e w' => ∃ av k c v, e = .returned (.tuple #[.slice av k c, v]) ∧ Nt.Num w' av k c (x - y) ∧ Nt.Err w' v (if x < y then 32 else 0) ∧ Below w.heap.size w w' := by
  have HX := Lib.hid (And.intro hx hy)
  obtain ⟨_, bx, ox, fx, hLx, dx, hvx, tx⟩ := hx
  obtain ⟨_, b', oy, fy, hLy, dy, hvy, ty⟩ := hy
  have B := Nt.below_any w ax bx ox n cx fx ay b' oy m cy fy hLx hLy dx dy (by omega) (by omega) tx ty
  rw [hvx, hvy] at B
  clear hLx hLy dx dy hvx hvy tx ty
  by_cases hxy : x < y
  · rw [decide_eq_true hxy] at B
    rw [if_pos hxy]
    have HB := Lib.hid B
    obtain ⟨a, hv⟩ := ok 32 (by decide) (by decide)
    have hc : w.cell? ⟨7, 0, none⟩ = some (.iface 217 (.pointer (some a))) := hv.var
    have HV := Lib.hid hv
    have HO := Lib.hid ok
    have HXY := Lib.hid hxy
    clear B hv ok hxy
    go_enter Tryz.func88, Tryz.ntmps88
    go_wp2_with (go_at_call 126; refine Calls.mono HB.out ?_; rintro e1 w1 ⟨rfl, k, rfl⟩)
    go_quiet (fail)
    go_wp2_with fail
    go_ret2
    refine ⟨_, _, _, _, rfl, ?_, .inr ⟨by decide, by decide, a, rfl, ?_⟩, ?_⟩
    · rw [Nat.sub_eq_zero_of_le (Nat.le_of_lt HXY.out)]
      exact Nt.Num.nil _
    · exact HV.out.below (by rw [World.drewN_drewN]; exact Tx.drewNb w _)
    · rw [World.drewN_drewN]; exact Tx.drewNb w _
  · rw [decide_eq_false hxy] at B
    rw [if_neg hxy]
    have HB := Lib.hid B
    have HXY := Lib.hid hxy
    clear B ok hxy
    go_enter Tryz.func88, Tryz.ntmps88
    go_wp2_with (go_at_call 126; refine Calls.mono HB.out ?_; rintro e1 w1 ⟨rfl, k, rfl⟩)
    go_at_call 127
    refine Calls.mono (Nt.without_any (w.drewN k) ax ay n cx x m cy y (HX.out.1.drewN k) (HX.out.2.drewN k) (by have := HXY.out; omega) hn) ?_
    rintro e2 w2 ⟨av, l, c, rfl, hN, hb⟩
    have HN := Lib.hid (And.intro hN hb)
    clear hN hb
    go_wp2_with fail
    go_ret2
    exact ⟨_, _, _, _, rfl, HN.out.1, .inl ⟨rfl, rfl⟩, (Tx.drewNb w k).trans (HN.out.2.mono (by rw [Nt.drewN_heap]; exact Nat.le_refl _))⟩
end Go.Proofs.YtfbliccblippiaaGreatDoor
