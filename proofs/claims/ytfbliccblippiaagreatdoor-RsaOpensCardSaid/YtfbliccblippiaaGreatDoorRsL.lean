/- open, Open: a key that is none, too great a signature, and what is opened. -/
import Derived.Test.YtfbliccblippiaaGreatDoorRsK
import Derived.Test.YtfbliccblippiaaGreatDoorNyH
import Derived.Test.YtfbliccblippiaaGreatDoorNyK
namespace Go.Proofs.YtfbliccblippiaaGreatDoor
open Go.RowKit
/-- A signature to the power E, as bytes. -/
def Rs.opened (n e sig : ByteArray) : ByteArray := Nt.pd (Nt.nv sig ^ Nt.nv e % Nt.nv n) n.size
theorem Rs.odd_small (a : ByteArray) (l m k : Nat) (h : Rs.odd a l m) (hm : m + 7 ≤ 8 * k) : a.size ≤ k := by
  have h1 := Nt.ts_size a
  rw [h.2.2.1] at h1
  rw [h1]
  unfold Nt.by
  have := h.2.1
  omega
theorem Rs.odd_pos (a : ByteArray) (l m : Nat) (h : Rs.odd a l m) : 0 < Nt.nv a := by
  have := h.2.2.2
  omega
set_option maxHeartbeats 2000000 in
set_option maxRecDepth 100000 in
theorem Rs.open_bad (w : World) (ok : Rs.Ok w) (n e sig : ByteArray) (hn : n.size ≤ 150000000000000) (he : e.size ≤ 150000000000000) (hg : Rs.bad n e) :
    Calls Tryz.prog 41 #[.agg #[.string n, .string e], .string sig] w fun r w' => ∃ v, r = .returned (.tuple #[.string ⟨#[]⟩, v]) ∧ Rs.Err w' v 40 ∧ Below w.heap.size w w' := by
  have HC := Lib.hid (Rs.boxed w ok n e hn he)
  rw [if_pos hg] at HC
  clear ok hg
  go_enter Tryz.func41, Tryz.ntmps41
  go_wp2_with fail
  go_at_call 35
  refine Calls.mono HC.out ?_
  rintro r w1 ⟨v, rfl, hE, hO, c0, c1, hb⟩
  obtain ⟨T, x, rfl⟩ := hE.some (by decide)
  have H1 := Lib.hid (And.intro hE hb)
  clear hE hO hb c0 c1
  go_wp2_with fail
  go_ret2
  exact ⟨_, rfl, H1.out.1, H1.out.2⟩
set_option maxHeartbeats 2000000 in
set_option maxRecDepth 100000 in
theorem Rs.open_value (w : World) (ok : Rs.Ok w) (n e sig : ByteArray) (hn : n.size ≤ 150000000000000) (he : e.size ≤ 150000000000000) (hg : ¬ Rs.bad n e) (hz : sig.size = n.size) (hv : Nt.nv n ≤ Nt.nv sig) :
    Calls Tryz.prog 41 #[.agg #[.string n, .string e], .string sig] w fun r w' => ∃ v, r = .returned (.tuple #[.string ⟨#[]⟩, v]) ∧ Rs.Err w' v 41 ∧ Below w.heap.size w w' := by
  have HC := Lib.hid (Rs.boxed w ok n e hn he)
  rw [if_neg hg] at HC
  have hzz : (sig.size : Int) = (n.size : Int) := by omega
  have hcmp : ∃ r : Int, 0 ≤ r ∧ ∀ W, Calls Tryz.prog 70 #[.string sig, .string n] W fun x w' => x = .returned (.int .i64 r) ∧ w' = W := by
    refine ⟨_, ?_, fun W => Nt.Cmp_any W sig n (by omega) (by omega)⟩
    unfold Nt.cmp
    rw [if_neg (by omega)]
    split <;> decide
  obtain ⟨r, hr, hcmp⟩ := hcmp
  have HM := Lib.hid hcmp
  clear ok hg hz hv hcmp
  go_enter Tryz.func41, Tryz.ntmps41
  go_wp2_with fail
  go_at_call 35
  refine Calls.mono HC.out ?_
  rintro x w1 ⟨v, rfl, hE, hO, c0, c1, hb⟩
  obtain rfl := hE.none
  obtain ⟨a, hv⟩ := hO.2 41 (by decide) (by decide)
  have hx : w1.cell? ⟨1, 0, none⟩ = some (.iface 217 (.pointer (some a))) := hv.var
  have H1 := Lib.hid (And.intro hv hb)
  clear hE hO hv hb
  go_wp2_with fail
  go_at_call 70
  refine Calls.mono (HM.out _) ?_
  rintro x w1 ⟨rfl, rfl⟩
  go_wp2_with fail
  go_quiet (fail)
  go_wp2_with fail
  go_ret2
  exact ⟨_, rfl, .inr ⟨by decide, by decide, a, 1, .about _ .leaf, H1.out.1.below (below_drewN (Below.refl _ _) _)⟩, H1.out.2.trans (below_drewN (Below.refl _ _) _)⟩
set_option maxHeartbeats 2000000 in
set_option maxRecDepth 100000 in
theorem Rs.open_ok (w : World) (ok : Rs.Ok w) (n e sig : ByteArray) (hn : n.size ≤ 150000000000000) (he : e.size ≤ 150000000000000) (hg : ¬ Rs.bad n e) (hz : sig.size = n.size) (hv : Nt.nv sig < Nt.nv n) :
    Calls Tryz.prog 41 #[.agg #[.string n, .string e], .string sig] w fun r w' => r = .returned (.tuple #[.string (Rs.opened n e sig), .nilIface]) ∧ Below w.heap.size w w' := by
  have HC := Lib.hid (Rs.boxed w ok n e hn he)
  rw [if_neg hg] at HC
  have hgg : Rs.odd n 512 2048 ∧ Rs.odd e 2 32 := Decidable.not_not.1 hg
  have sn := Rs.odd_small n _ _ 257 hgg.1 (by decide)
  have se := Rs.odd_small e _ _ 5 hgg.2 (by decide)
  have pn := Rs.odd_pos n _ _ hgg.1
  have hzz : (sig.size : Int) = (n.size : Int) := by omega
  have hcmp : ∀ W, Calls Tryz.prog 70 #[.string sig, .string n] W fun x w' => x = .returned (.int .i64 (-1)) ∧ w' = W := fun W => by
    have h := Nt.Cmp_any W sig n (by omega) (by omega)
    unfold Nt.cmp at h
    rw [if_pos hv] at h
    exact h
  obtain ⟨R, hR⟩ : ∃ R, Nt.nv sig ^ Nt.nv e % Nt.nv n = R := ⟨_, rfl⟩
  obtain ⟨X, hX⟩ : ∃ X : ByteArray, ⟨(Nt.fm R).toArray⟩ = X := ⟨_, rfl⟩
  have hXn : Nt.nv X = R := by rw [← hX]; exact Nt.rd_fm R
  have hpow : ∀ W, Nt.Ok W → Calls Tryz.prog 51 #[.string sig, .string e, .string n] W fun x w' => x = .returned (.tuple #[.string X, .int .i64 0]) ∧ Below W.heap.size W w' := fun W hW => by
    refine (Nt.Pow_ok W hW sig e n (by omega) (by omega) (by omega)).mono ?_
    rintro x w1 ⟨R2, K, rfl, hP, hb⟩
    rcases hP with ⟨h, _⟩ | ⟨_, rfl, rfl⟩
    · omega
    · rw [hR, hX]; exact ⟨rfl, hb⟩
  have hpad : ∀ W, Calls Tryz.prog 31 #[.string X, .int .i64 (n.size : Int)] W fun x w' => x = .returned (.tuple #[.string (Rs.opened n e sig), .int .i64 0]) ∧ Below W.heap.size W w' := fun W => by
    have h := Nt.Pad_ok W X n.size (by omega) (by
      rw [hXn, ← hR]
      exact Nt.by_le _ _ (Nat.lt_trans (Nat.mod_lt _ pn) (Nt.nv_lt n)))
    rw [hXn, ← hR] at h
    exact h
  obtain ⟨O, hO⟩ : ∃ O, Rs.opened n e sig = O := ⟨_, rfl⟩
  rw [hO] at hpad ⊢
  have HM := Lib.hid (And.intro hcmp (And.intro hpow hpad))
  clear ok hg hz hv hcmp hpow hpad hgg sn se pn hR hX hXn hO
  go_enter Tryz.func41, Tryz.ntmps41
  go_wp2_with fail
  go_at_call 35
  refine Calls.mono HC.out ?_
  rintro x w1 ⟨v, rfl, hE, hO, c0, c1, hb⟩
  obtain rfl := hE.none
  have H1 := Lib.hid (And.intro hO (And.intro c0 (And.intro c1 hb)))
  clear hE hO hb
  go_wp2_with fail
  go_at_call 70
  refine Calls.mono (HM.out.1 _) ?_
  rintro x w1 ⟨rfl, rfl⟩
  go_wp2_with fail
  go_at_call 51
  refine Calls.mono (HM.out.2.1 _ H1.out.1.1) ?_
  rintro x w2 ⟨rfl, hb⟩
  have H2 := Lib.hid (H1.out.2.2.2.trans (hb.mono H1.out.2.2.2.size))
  clear hb c0 c1
  go_wp2_with fail
  go_at_call 31
  refine Calls.mono (HM.out.2.2 _) ?_
  rintro x w3 ⟨rfl, hb⟩
  have H3 := Lib.hid (H2.out.trans (hb.mono H2.out.size))
  clear hb
  go_wp2_with fail
  go_ret2
  exact ⟨rfl, H3.out⟩
set_option maxHeartbeats 1000000 in
theorem Rs.Open_bad (w : World) (ok : Rs.Ok w) (n e sig : ByteArray) (hn : n.size ≤ 150000000000000) (he : e.size ≤ 150000000000000) (hg : Rs.bad n e) :
    Calls Tryz.prog 15 #[.agg #[.string n, .string e], .string sig] w fun r w' => r = .returned (.tuple #[.string ⟨#[]⟩, .int .i64 40]) ∧ Below w.heap.size w w' := by
  have b0 : Below w.heap.size w (w.alloc (Obj.cells #[.string n, .string e] 23)) := (Below.refl _ _).alloc (Nat.le_refl _) _
  have HC := Lib.hid (Rs.open_bad (w.alloc (Obj.cells #[.string n, .string e] 23)) (ok.below b0) n e sig hn he hg)
  have HO := Lib.hid (And.intro (ok.below b0) b0)
  clear ok hg b0
  go_enter Tryz.func15, Tryz.ntmps15
  go_wp2_with fail
  go_at_call 41
  refine Calls.mono HC.out ?_
  rintro r w1 ⟨v, rfl, hE, hb⟩
  have H1 := Lib.hid (And.intro hE hb)
  clear hE hb
  go_wp2_with fail
  go_at_call 34
  refine Calls.mono (Rs.told_any w1 (HO.out.1.below H1.out.2) v 40 H1.out.1) ?_
  rintro r w2 ⟨rfl, hb⟩
  have H2 := Lib.hid hb
  clear hb
  go_wp2_with fail
  go_ret2
  exact ⟨rfl, (HO.out.2.trans (H1.out.2.mono HO.out.2.size)).trans (H2.out.mono (Nat.le_trans HO.out.2.size H1.out.2.size))⟩
set_option maxHeartbeats 1000000 in
theorem Rs.Open_value (w : World) (ok : Rs.Ok w) (n e sig : ByteArray) (hn : n.size ≤ 150000000000000) (he : e.size ≤ 150000000000000) (hg : ¬ Rs.bad n e) (hz : sig.size = n.size) (hv : Nt.nv n ≤ Nt.nv sig) :
    Calls Tryz.prog 15 #[.agg #[.string n, .string e], .string sig] w fun r w' => r = .returned (.tuple #[.string ⟨#[]⟩, .int .i64 41]) ∧ Below w.heap.size w w' := by
  have b0 : Below w.heap.size w (w.alloc (Obj.cells #[.string n, .string e] 23)) := (Below.refl _ _).alloc (Nat.le_refl _) _
  have HC := Lib.hid (Rs.open_value (w.alloc (Obj.cells #[.string n, .string e] 23)) (ok.below b0) n e sig hn he hg hz hv)
  have HO := Lib.hid (And.intro (ok.below b0) b0)
  clear ok hg hz hv b0
  go_enter Tryz.func15, Tryz.ntmps15
  go_wp2_with fail
  go_at_call 41
  refine Calls.mono HC.out ?_
  rintro r w1 ⟨v, rfl, hE, hb⟩
  have H1 := Lib.hid (And.intro hE hb)
  clear hE hb
  go_wp2_with fail
  go_at_call 34
  refine Calls.mono (Rs.told_any w1 (HO.out.1.below H1.out.2) v 41 H1.out.1) ?_
  rintro r w2 ⟨rfl, hb⟩
  have H2 := Lib.hid hb
  clear hb
  go_wp2_with fail
  go_ret2
  exact ⟨rfl, (HO.out.2.trans (H1.out.2.mono HO.out.2.size)).trans (H2.out.mono (Nat.le_trans HO.out.2.size H1.out.2.size))⟩
set_option maxHeartbeats 1000000 in
theorem Rs.Open_ok (w : World) (ok : Rs.Ok w) (n e sig : ByteArray) (hn : n.size ≤ 150000000000000) (he : e.size ≤ 150000000000000) (hg : ¬ Rs.bad n e) (hz : sig.size = n.size) (hv : Nt.nv sig < Nt.nv n) :
    Calls Tryz.prog 15 #[.agg #[.string n, .string e], .string sig] w fun r w' => r = .returned (.tuple #[.string (Rs.opened n e sig), .int .i64 0]) ∧ Below w.heap.size w w' := by
  have b0 : Below w.heap.size w (w.alloc (Obj.cells #[.string n, .string e] 23)) := (Below.refl _ _).alloc (Nat.le_refl _) _
  have HC := Lib.hid (Rs.open_ok (w.alloc (Obj.cells #[.string n, .string e] 23)) (ok.below b0) n e sig hn he hg hz hv)
  have HO := Lib.hid (And.intro (ok.below b0) b0)
  clear ok hg hz hv b0
  go_enter Tryz.func15, Tryz.ntmps15
  go_wp2_with fail
  go_at_call 41
  refine Calls.mono HC.out ?_
  rintro r w1 ⟨rfl, hb⟩
  have H1 := Lib.hid (And.intro True.intro hb)
  clear hb
  go_wp2_with fail
  go_at_call 34
  refine Calls.mono (Rs.told_nil w1) ?_
  rintro r w2 ⟨rfl, hb⟩
  have H2 := Lib.hid hb
  clear hb
  go_wp2_with fail
  go_ret2
  exact ⟨rfl, (HO.out.2.trans (H1.out.2.mono HO.out.2.size)).trans (H2.out.mono (Nat.le_trans HO.out.2.size H1.out.2.size))⟩
end Go.Proofs.YtfbliccblippiaaGreatDoor
