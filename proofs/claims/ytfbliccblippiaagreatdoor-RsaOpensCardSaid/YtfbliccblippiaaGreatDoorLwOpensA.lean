/- The reference's padded and Open; RsaOpens, the walk. -/
import Derived.Test.YtfbliccblippiaaGreatDoorLwKeysA
import Derived.Test.YtfbliccblippiaaGreatDoorRsL
import Derived.Test.YtfbliccblippiaaGreatDoorRnM
namespace Go.Proofs.YtfbliccblippiaaGreatDoor
open Go.RowKit
/-- A number behind j noughts. -/
def Rs.zp (j x : Nat) : ByteArray := Tx.ba (List.replicate j 0 ++ Nt.fm x)
theorem Rs.zp_size (j x : Nat) : (Rs.zp j x).size = j + Nt.by x := by
  show (List.replicate j (0 : UInt8) ++ Nt.fm x).length = _
  rw [List.length_append, List.length_replicate, Nt.fm_len]
theorem Rs.zp_zero (x : Nat) : (⟨(Nt.fm x).toArray⟩ : ByteArray) = Rs.zp 0 x := rfl
theorem Rs.zp_succ (j x : Nat) : (⟨#[0]⟩ : ByteArray) ++ Rs.zp j x = Rs.zp (j + 1) x := by
  have e : (⟨#[0]⟩ : ByteArray) = Tx.ba [0] := rfl
  unfold Rs.zp
  rw [e, Rs.ba_app, List.replicate_succ]
  rfl
theorem Rs.zp_pd (x n : Nat) : Rs.zp (n - Nt.by x) x = Nt.pd x n := by
  unfold Rs.zp Nt.pd
  rw [← Rs.ba_app, ← Nt.rep_zeros]
  rfl
set_option maxHeartbeats 1000000 in
set_option maxRecDepth 100000 in
theorem Rs.padded_any (w : World) (av : Option Addr) (k c x N : Nat) (h : Rn.Num w av k c x) (hk : k ≤ 1000000) (hx : Nt.by x ≤ N) (hN : N ≤ 10000000) :
    Calls Tryz.prog 42 #[.slice av k c, .int .i64 (N : Int)] w fun e w' => e = .returned (.string (Nt.pd x N)) ∧ Below w.heap.size w w' := by
  have HF := Lib.hid (Rn.Form_any w av k c x h hk)
  rw [Rs.zp_zero] at HF
  clear h hk
  obtain ⟨Y, hY⟩ : ∃ Y, Nt.by x = Y := ⟨_, rfl⟩
  rw [hY] at hx
  have HY := Lib.hid hY
  clear hY
  obtain ⟨P, hP⟩ : ∃ P, Nt.pd x N = P := ⟨_, rfl⟩
  rw [hP]
  have HP := Lib.hid hP
  clear hP
  have hNz : (N : Int) ≤ 10000000 := by omega
  go_enter Tryz.func42, Tryz.ntmps42
  go_wp2_with fail
  go_at_call 37
  refine Calls.mono HF.out ?_
  rintro e1 w1 ⟨rfl, hb⟩
  have H1 := Lib.hid hb
  clear hb
  go_wp2_with fail
  go_loop [5] (fun v => ∃ j : Nat, j + Y ≤ N ∧ v = .string (Rs.zp j x)) (fun v => match v with | .string s => N - s.size | _ => 0)
  case atStart => exact ⟨0, by omega, rfl⟩
  case round =>
  obtain ⟨j, hj, rfl⟩ := hrel
  have hs := Rs.zp_size j x
  rw [HY.out] at hs
  have hn := Rs.zp_succ j x
  have hs2 := Rs.zp_size (j + 1) x
  rw [HY.out] at hs2
  have hp := Rs.zp_pd x N
  rw [HY.out, HP.out] at hp
  by_cases hlt : j + Y < N
  · obtain ⟨s, es⟩ : ∃ s, Rs.zp j x = s := ⟨_, rfl⟩
    obtain ⟨t, et⟩ : ∃ t, Rs.zp (j + 1) x = t := ⟨_, rfl⟩
    rw [es] at hs hn ⊢
    rw [et] at hn hs2
    have hsz : (s.size : Int) < (N : Int) := by omega
    have hsb : s.size ≤ 10000000 := by omega
    have HT := Lib.hid (And.intro et (And.intro hs hs2))
    clear es et hs hs2 hp
    go_wp2_with fail
    exact ⟨⟨j + 1, by omega, by rw [HT.out.1]⟩, by have := HT.out.2; show N - t.size < N - s.size; omega⟩
  · have hjn : j = N - Y := by omega
    rw [← hjn] at hp
    rw [hp] at hs ⊢
    have hsz : ¬ (P.size : Int) < (N : Int) := by omega
    clear hn hs2 hp hs
    go_wp2_with fail
    go_ret
    exact ⟨rfl, H1.out⟩
/-- What holds of the world while the reference opens. -/
structure Rs.OpS (w : World) (p : Nat) (n e : ByteArray) (an : Option Addr) (kn cn : Nat) (W : World) : Prop where
  c0 : W.cell? ⟨p, 0, none⟩ = some (.string n)
  c1 : W.cell? ⟨p, 1, none⟩ = some (.string e)
  n : Rn.Num W an kn cn (Nt.nv n)
  bel : Below w.heap.size w W
theorem Rs.OpS.below {w W W' : World} {p : Nat} {n e : ByteArray} {an : Option Addr} {kn cn : Nat} (h : Rs.OpS w p n e an kn cn W) (hb : Below W.heap.size W W') : Rs.OpS w p n e an kn cn W' :=
  ⟨(hb.cell (p := ⟨p, 0, none⟩) (World.block_lt_of_cell? W _ h.c0)).trans h.c0, (hb.cell (p := ⟨p, 1, none⟩) (World.block_lt_of_cell? W _ h.c1)).trans h.c1, h.n.below hb, h.bel.trans (hb.mono h.bel.size)⟩
theorem Rs.BoxS.start (w : World) (n e : ByteArray) : Rs.BoxS w w.heap.size n e (w.alloc (Obj.cells #[.string n, .string e] 23)) := ⟨by simp, by simp, (Below.refl _ _).alloc (Nat.le_refl _) _⟩
set_option maxHeartbeats 4000000 in
set_option maxRecDepth 100000 in
theorem Rs.ROpen_bad (w : World) (n e sig : ByteArray) (hR : ∀ W, Calls Tryz.prog 14 #[.agg #[.string n, .string e]] W fun r w' => r = .returned (.bool false) ∧ Below W.heap.size W w')  :
    Calls Tryz.prog 16 #[.agg #[.string n, .string e], .string sig] w fun r w' => r = .returned (.tuple #[.string ⟨#[]⟩, .int .i64 40]) ∧ Below w.heap.size w w' := by
  have HR := Lib.hid hR
  have HS := Lib.hid (Rs.BoxS.start w n e)
  clear hR
  go_enter Tryz.func16, Tryz.ntmps16
  go_wp2_with fail
  have S0 := HS.out
  clear HS
  revert S0
  generalize w.alloc (Obj.cells #[.string n, .string e] 23) = w1
  intro S0
  go_at_call 14
  refine Calls.mono (HR.out _) ?_
  rintro x w2 ⟨rfl, hb⟩
  have S2 := S0.below hb
  clear hb S0
  have HB := Lib.hid S2.bel
  clear S2
  go_wp2_with fail
  go_ret2
  exact ⟨rfl, HB.out⟩
set_option maxHeartbeats 4000000 in
set_option maxRecDepth 100000 in
theorem Rs.ROpen_size (w : World) (n e sig : ByteArray) (hR : ∀ W, Calls Tryz.prog 14 #[.agg #[.string n, .string e]] W fun r w' => r = .returned (.bool true) ∧ Below W.heap.size W w') (hn : n.size ≤ 4000) (hz : sig.size ≠ n.size) :
    Calls Tryz.prog 16 #[.agg #[.string n, .string e], .string sig] w fun r w' => r = .returned (.tuple #[.string ⟨#[]⟩, .int .i64 41]) ∧ Below w.heap.size w w' := by
  have hzz : ((sig.size : Int) != (n.size : Int)) = true := by
    rw [bne_iff_ne]
    omega
  have hzz2 : ¬ (sig.size : Int) = (n.size : Int) := by omega
  clear hz
  have HR := Lib.hid hR
  have HS := Lib.hid (Rs.BoxS.start w n e)
  clear hR
  go_enter Tryz.func16, Tryz.ntmps16
  go_wp2_with fail
  have S0 := HS.out
  clear HS
  revert S0
  generalize w.alloc (Obj.cells #[.string n, .string e] 23) = w1
  intro S0
  go_at_call 14
  refine Calls.mono (HR.out _) ?_
  rintro x w2 ⟨rfl, hb⟩
  have S2 := S0.below hb
  clear hb S0
  have c0 := S2.c0
  have c1 := S2.c1
  have H2 := Lib.hid S2
  clear S2
  go_wp2_with fail
  go_at_call 36
  refine Calls.mono (Rn.Of_any w2 n (Nat.le_trans hn (by decide))) ?_
  rintro x w3 ⟨an, kn, cn, rfl, hN, hb⟩
  have S3b := H2.out.below hb
  have S3 : Rs.OpS w w.heap.size n e an kn cn w3 := ⟨S3b.c0, S3b.c1, hN, S3b.bel⟩
  clear hN hb c0 c1 S3b
  have c0 := S3.c0
  have H3 := Lib.hid S3
  clear S3
  go_wp2_with fail
  go_ret2
  exact ⟨rfl, H3.out.bel⟩
set_option maxHeartbeats 4000000 in
set_option maxRecDepth 100000 in
theorem Rs.ROpen_value (w : World) (n e sig : ByteArray) (hR : ∀ W, Calls Tryz.prog 14 #[.agg #[.string n, .string e]] W fun r w' => r = .returned (.bool true) ∧ Below W.heap.size W w') (hn : n.size ≤ 4000) (hz : sig.size = n.size) (hv : Nt.nv n ≤ Nt.nv sig) :
    Calls Tryz.prog 16 #[.agg #[.string n, .string e], .string sig] w fun r w' => r = .returned (.tuple #[.string ⟨#[]⟩, .int .i64 41]) ∧ Below w.heap.size w w' := by
  have hzz : (sig.size : Int) = (n.size : Int) := by omega
  have hs : sig.size ≤ 4000 := by omega
  obtain ⟨r, hr⟩ : ∃ r, Nt.cmp (Nt.nv sig) (Nt.nv n) = r := ⟨_, rfl⟩
  have hr0 : 0 ≤ r := by
    rw [← hr]
    unfold Nt.cmp
    rw [if_neg (by omega)]
    split <;> decide
  have HC := Lib.hid (And.intro hr True.intro)
  clear hz hv hr
  have HR := Lib.hid hR
  have HS := Lib.hid (Rs.BoxS.start w n e)
  clear hR
  go_enter Tryz.func16, Tryz.ntmps16
  go_wp2_with fail
  have S0 := HS.out
  clear HS
  revert S0
  generalize w.alloc (Obj.cells #[.string n, .string e] 23) = w1
  intro S0
  go_at_call 14
  refine Calls.mono (HR.out _) ?_
  rintro x w2 ⟨rfl, hb⟩
  have S2 := S0.below hb
  clear hb S0
  have c0 := S2.c0
  have c1 := S2.c1
  have H2 := Lib.hid S2
  clear S2
  go_wp2_with fail
  go_at_call 36
  refine Calls.mono (Rn.Of_any w2 n (Nat.le_trans hn (by decide))) ?_
  rintro x w3 ⟨an, kn, cn, rfl, hN, hb⟩
  have S3b := H2.out.below hb
  have S3 : Rs.OpS w w.heap.size n e an kn cn w3 := ⟨S3b.c0, S3b.c1, hN, S3b.bel⟩
  clear hN hb c0 c1 S3b
  have c0 := S3.c0
  have H3 := Lib.hid S3
  clear S3
  go_wp2_with fail
  go_at_call 36
  refine Calls.mono (Rn.Of_any w3 sig (Nat.le_trans hs (by decide))) ?_
  rintro x w4 ⟨av, kv, cv, rfl, hV, hb⟩
  have H4 := Lib.hid (And.intro (H3.out.below hb) hV)
  have kb1 : kv ≤ 2000 := hV.bytes 2000 sig.size (Nt.nv_lt sig) (by omega)
  have kb2 : kn ≤ 2000 := H3.out.n.bytes 2000 n.size (Nt.nv_lt n) (by omega)
  clear hV hb c0
  go_wp2_with fail
  go_at_call 40
  have hc := Rn.Cmp_any w4 av an kv cv _ kn cn _ H4.out.2 H4.out.1.n (by omega) (by omega)
  rw [HC.out.1] at hc
  refine Calls.mono hc ?_
  rintro x w5 ⟨rfl, j5, hw5⟩
  have S5 : Rs.OpS w w.heap.size n e an kn cn w5 := by rw [hw5]; exact H4.out.1.below (Rn.beyond2 _ j5)
  clear hw5
  have HB := Lib.hid S5.bel
  clear S5
  go_wp2_with fail
  go_ret2
  exact ⟨rfl, HB.out⟩
set_option maxHeartbeats 4000000 in
set_option maxRecDepth 100000 in
theorem Rs.ROpen_ok (w : World) (n e sig : ByteArray) (hR : ∀ W, Calls Tryz.prog 14 #[.agg #[.string n, .string e]] W fun r w' => r = .returned (.bool true) ∧ Below W.heap.size W w') (hn : n.size ≤ 4000) (he : e.size ≤ 4000) (hz : sig.size = n.size) (hv : Nt.nv sig < Nt.nv n) :
    Calls Tryz.prog 16 #[.agg #[.string n, .string e], .string sig] w fun r w' => r = .returned (.tuple #[.string (Rs.opened n e sig), .int .i64 0]) ∧ Below w.heap.size w w' := by
  have hzz : (sig.size : Int) = (n.size : Int) := by omega
  have hs : sig.size ≤ 4000 := by omega
  obtain ⟨r, hr⟩ : ∃ r, Nt.cmp (Nt.nv sig) (Nt.nv n) = r := ⟨_, rfl⟩
  have hr0 : ¬ 0 ≤ r := by
    rw [← hr]
    unfold Nt.cmp
    rw [if_pos hv]
    decide
  have HC := Lib.hid (And.intro hr (show 0 < Nt.nv n by omega))
  clear hz hv hr
  unfold Rs.opened
  have HR := Lib.hid hR
  have HS := Lib.hid (Rs.BoxS.start w n e)
  clear hR
  go_enter Tryz.func16, Tryz.ntmps16
  go_wp2_with fail
  have S0 := HS.out
  clear HS
  revert S0
  generalize w.alloc (Obj.cells #[.string n, .string e] 23) = w1
  intro S0
  go_at_call 14
  refine Calls.mono (HR.out _) ?_
  rintro x w2 ⟨rfl, hb⟩
  have S2 := S0.below hb
  clear hb S0
  have c0 := S2.c0
  have c1 := S2.c1
  have H2 := Lib.hid S2
  clear S2
  go_wp2_with fail
  go_at_call 36
  refine Calls.mono (Rn.Of_any w2 n (Nat.le_trans hn (by decide))) ?_
  rintro x w3 ⟨an, kn, cn, rfl, hN, hb⟩
  have S3b := H2.out.below hb
  have S3 : Rs.OpS w w.heap.size n e an kn cn w3 := ⟨S3b.c0, S3b.c1, hN, S3b.bel⟩
  clear hN hb c0 c1 S3b
  have c0 := S3.c0
  have H3 := Lib.hid S3
  clear S3
  go_wp2_with fail
  go_at_call 36
  refine Calls.mono (Rn.Of_any w3 sig (Nat.le_trans hs (by decide))) ?_
  rintro x w4 ⟨av, kv, cv, rfl, hV, hb⟩
  have H4 := Lib.hid (And.intro (H3.out.below hb) hV)
  have kb1 : kv ≤ 2000 := hV.bytes 2000 sig.size (Nt.nv_lt sig) (by omega)
  have kb2 : kn ≤ 2000 := H3.out.n.bytes 2000 n.size (Nt.nv_lt n) (by omega)
  clear hV hb c0
  go_wp2_with fail
  go_at_call 40
  have hc := Rn.Cmp_any w4 av an kv cv _ kn cn _ H4.out.2 H4.out.1.n (by omega) (by omega)
  rw [HC.out.1] at hc
  refine Calls.mono hc ?_
  rintro x w5 ⟨rfl, j5, hw5⟩
  have S5 : Rs.OpS w w.heap.size n e an kn cn w5 := by rw [hw5]; exact H4.out.1.below (Rn.beyond2 _ j5)
  clear hw5
  go_wp2_with fail
  refine wp_region_held_drew (S := fun W => Rs.OpS w w.heap.size n e an kn cn W) (by kernel_rfl) (S5.below (below_drewN (Below.refl _ _) 1)) (fun hHeld0 => ?_)
  clear S5
  refine wpAnyH_take (i := 0) (oi := ⟨_, _, _, _, _, _⟩) (v := ?vg2_1) rfl (by kernel_rfl) (by kernel_rfl) (by kernel_rfl) (fun _ _ _ h => h) (Or.inl ⟨by rfl, ?hyg2_1⟩) (by assumption) ?restg2_1
  case hyg2_1 => (intro W hW; go_simp; try with_reducible rfl)
  try simp only [Act.put, List.setIfInBounds_toArray, List.set_cons_zero, List.set_cons_succ]
  refine wpAnyH_take (i := 2) (oi := ⟨_, _, _, _, _, _⟩) (v := ?vg2_2) rfl (by kernel_rfl) (by kernel_rfl) (by kernel_rfl) (fun _ _ _ h => h) (Or.inl ⟨by rfl, ?hyg2_2⟩) (by assumption) ?restg2_2
  case hyg2_2 => (intro W hW; go_simp; try with_reducible rfl)
  try simp only [Act.put, List.setIfInBounds_toArray, List.set_cons_zero, List.set_cons_succ]
  refine wpAnyH_take (i := 3) (oi := ⟨_, _, _, _, _, _⟩) (v := .string e) rfl (by kernel_rfl) (by kernel_rfl) (by kernel_rfl) (fun _ _ _ h => h) (Or.inl ⟨by rfl, fun W hW => (by have c1 := hW.c1; go_simp)⟩) (by assumption) ?restg2_3
  try simp only [Act.put, List.setIfInBounds_toArray, List.set_cons_zero, List.set_cons_succ]
  refine wpAnyH_take (i := 5) (oi := ⟨_, _, _, _, _, _⟩) (v := ?vg2_4) rfl (by kernel_rfl) (by kernel_rfl) (by kernel_rfl) (fun _ _ _ h => h) (Or.inl ⟨by rfl, ?hyg2_4⟩) (by assumption) ?restg2_4
  case hyg2_4 => (intro W hW; go_simp; try with_reducible rfl)
  try simp only [Act.put, List.setIfInBounds_toArray, List.set_cons_zero, List.set_cons_succ]
  refine wpAnyH_take (i := 7) (oi := ⟨_, _, _, _, _, _⟩) (v := ?vg2_5) rfl (by kernel_rfl) (by kernel_rfl) (by kernel_rfl) (fun _ _ _ h => h) (Or.inl ⟨by rfl, ?hyg2_5⟩) (by assumption) ?restg2_5
  case hyg2_5 => (intro W hW; go_simp; try with_reducible rfl)
  try simp only [Act.put, List.setIfInBounds_toArray, List.set_cons_zero, List.set_cons_succ]
  refine wpAnyH_take (i := 8) (oi := ⟨_, _, _, _, _, _⟩) (v := .string n) rfl (by kernel_rfl) (by kernel_rfl) (by kernel_rfl) (fun _ _ _ h => h) (Or.inl ⟨by rfl, fun W hW => (by have c0 := hW.c0; go_simp)⟩) (by assumption) ?restg2_6
  try simp only [Act.put, List.setIfInBounds_toArray, List.set_cons_zero, List.set_cons_succ]
  refine wpAnyH_take (i := 9) (oi := ⟨_, _, _, _, _, _⟩) (v := ?vg2_7) rfl (by kernel_rfl) (by kernel_rfl) (by kernel_rfl) (fun _ _ _ h => h) (Or.inl ⟨by rfl, ?hyg2_7⟩) (by assumption) ?restg2_7
  case hyg2_7 => (intro W hW; go_simp; try with_reducible rfl)
  try simp only [Act.put, List.setIfInBounds_toArray, List.set_cons_zero, List.set_cons_succ]
  refine wpAnyH_ready (rs := [1]) (by kernel_rfl) (by simp) ?_
  refine AllReadyH.cons (o := ⟨_, _, _, _, _, _⟩) rfl (fun K hK => ?_) AllReadyH.nil
  go_simp
  refine Calls.mono (Rn.Of_any _ sig (Nat.le_trans hs (by decide))) ?_
  rintro x w6 ⟨a6, k6, c6, rfl, hN6, hb⟩
  have T6 := hHeld0.below hb
  clear hb
  go_wp2_with fail
  refine hK.out _ _ (T6) (fun hHeld1 => ?_)
  clear hK K hHeld0
  try simp only [Act.put, List.setIfInBounds_toArray, List.set_cons_zero, List.set_cons_succ]
  refine wpAnyH_ready (rs := [4]) (by kernel_rfl) (by simp) ?_
  refine AllReadyH.cons (o := ⟨_, _, _, _, _, _⟩) rfl (fun K hK => ?_) AllReadyH.nil
  go_simp
  refine Calls.mono (Rn.Of_any _ e (Nat.le_trans he (by decide))) ?_
  rintro x w7 ⟨a7, k7, c7, rfl, hN7, hb⟩
  have T7 := hHeld1.below hb
  have hN6b := hN6.below hb
  clear hb hN6
  go_wp2_with fail
  refine hK.out _ _ (T7) (fun hHeld2 => ?_)
  clear hK K hHeld1
  try simp only [Act.put, List.setIfInBounds_toArray, List.set_cons_zero, List.set_cons_succ]
  have k6b : k6 ≤ 2000 := hN6b.bytes 2000 sig.size (Nt.nv_lt sig) (by omega)
  have k7b : k7 ≤ 2000 := hN7.bytes 2000 e.size (Nt.nv_lt e) (by omega)
  refine wpAnyH_ready (rs := [6]) (by kernel_rfl) (by simp) ?_
  refine AllReadyH.cons (o := ⟨_, _, _, _, _, _⟩) rfl (fun K hK => ?_) AllReadyH.nil
  go_simp
  refine Calls.mono (Rn.Pow_any w7 a6 a7 an k6 c6 _ k7 c7 _ kn cn _ hN6b hN7 hHeld2.n (by omega) (by omega) (by omega) HC.out.2) ?_
  rintro x w8 ⟨a8, k8, c8, rfl, hN8, hb⟩
  have k8b := hN8.mod hHeld2.n HC.out.2
  have T8 := hHeld2.below hb
  clear hb
  go_wp2_with fail
  refine hK.out _ _ (T8) (fun hHeld3 => ?_)
  clear hK K hHeld2
  try simp only [Act.put, List.setIfInBounds_toArray, List.set_cons_zero, List.set_cons_succ]
  refine wpAnyH_ready (rs := [10]) (by kernel_rfl) (by simp) ?_
  refine AllReadyH.cons (o := ⟨_, _, _, _, _, _⟩) rfl (fun K hK => ?_) AllReadyH.nil
  go_simp
  refine Calls.mono (Rs.padded_any w8 a8 k8 c8 _ n.size hN8 (by omega) (Nt.by_le _ _ (Nat.lt_trans (Nat.mod_lt _ HC.out.2) (Nt.nv_lt n))) (by omega)) ?_
  rintro x w9 ⟨rfl, hb⟩
  have T9 := hHeld3.below hb
  clear hb
  go_wp2_with fail
  refine hK.out _ _ (T9) (fun hHeld4 => ?_)
  clear hK K hHeld3
  try simp only [Act.put, List.setIfInBounds_toArray, List.set_cons_zero, List.set_cons_succ]
  refine wpAnyH_take (i := 11) (oi := ⟨_, _, _, _, _, _⟩) (v := ?vg2_8) rfl (by kernel_rfl) (by kernel_rfl) (by kernel_rfl) (fun _ _ _ h => h) (Or.inl ⟨by rfl, ?hyg2_8⟩) (by assumption) ?restg2_8
  case hyg2_8 => (intro W hW; go_simp; try with_reducible rfl)
  try simp only [Act.put, List.setIfInBounds_toArray, List.set_cons_zero, List.set_cons_succ]
  refine wpAnyH_take (i := 12) (oi := ⟨_, _, _, _, _, _⟩) (v := ?vg2_9) rfl (by kernel_rfl) (by kernel_rfl) (by kernel_rfl) (fun _ _ _ h => h) (Or.inl ⟨by rfl, ?hyg2_9⟩) (by assumption) ?restg2_9
  case hyg2_9 => (intro W hW; go_simp; try with_reducible rfl)
  try simp only [Act.put, List.setIfInBounds_toArray, List.set_cons_zero, List.set_cons_succ]
  refine wpAnyH_done (by kernel_rfl) ?_ _
  have HB := Lib.hid hHeld4.bel
  go_wp2_with fail
  go_ret2
  exact ⟨rfl, HB.out⟩
namespace lwOpens
set_option maxHeartbeats 2000000 in
set_option maxRecDepth 100000 in
theorem longN (n e sig : ByteArray) (w : World) (ok : Rs.Ok w) (hC : ∀ W, Rs.Ok W → Calls Tryz.prog 15 #[.agg #[.string n, .string e], .string sig] W fun r w' => r = .returned (.tuple #[.string ⟨#[]⟩, .int .i64 40]) ∧ Below W.heap.size W w') (h : 4000 < n.size) :
    Calls Tryz.prog 4 #[.agg #[.string n, .string e], .string sig] w fun e w' => e = .returned (.bool true) ∧ Below w.heap.size w w' := by
  have z1 : (4000 : Int) < (n.size : Int) := by omega
  have HK := Lib.hid hC
  have HS := Lib.hid (Rs.LawS.start w ok n e)
  clear hC ok
  go_enter Tryz.func4, Tryz.ntmps4
  go_wp2_with fail
  have S0 := HS.out
  clear HS
  revert S0
  generalize w.alloc (Obj.cells #[.string n, .string e] 23) = w1
  intro S0
  go_at_call 15
  refine Calls.mono (HK.out _ S0.ok) ?_
  rintro r w2 ⟨rfl, hb⟩
  have S2 := S0.below hb
  have c0 := S2.c0
  have c1 := S2.c1
  have H2 := Lib.hid S2
  clear hb S0 S2
  go_wp2_with fail
  go_at_call 13
  refine Calls.mono (Rs.fixed_any w2 H2.out.ok) ?_
  rintro r w9 ⟨rfl, hb⟩
  have H9 := Lib.hid (H2.out.bel.trans (hb.mono H2.out.bel.size))
  clear hb
  go_wp2_with fail
  go_ret
  exact ⟨rfl, H9.out⟩
set_option maxHeartbeats 2000000 in
set_option maxRecDepth 100000 in
theorem longE (n e sig : ByteArray) (w : World) (ok : Rs.Ok w) (hC : ∀ W, Rs.Ok W → Calls Tryz.prog 15 #[.agg #[.string n, .string e], .string sig] W fun r w' => r = .returned (.tuple #[.string ⟨#[]⟩, .int .i64 40]) ∧ Below W.heap.size W w') (h1 : n.size ≤ 4000) (h : 4000 < e.size) :
    Calls Tryz.prog 4 #[.agg #[.string n, .string e], .string sig] w fun e w' => e = .returned (.bool true) ∧ Below w.heap.size w w' := by
  have z1 : ¬ (4000 : Int) < (n.size : Int) := by omega
  have z2 : (4000 : Int) < (e.size : Int) := by omega
  have HK := Lib.hid hC
  have HS := Lib.hid (Rs.LawS.start w ok n e)
  clear hC ok
  go_enter Tryz.func4, Tryz.ntmps4
  go_wp2_with fail
  have S0 := HS.out
  clear HS
  revert S0
  generalize w.alloc (Obj.cells #[.string n, .string e] 23) = w1
  intro S0
  go_at_call 15
  refine Calls.mono (HK.out _ S0.ok) ?_
  rintro r w2 ⟨rfl, hb⟩
  have S2 := S0.below hb
  have c0 := S2.c0
  have c1 := S2.c1
  have H2 := Lib.hid S2
  clear hb S0 S2
  go_wp2_with fail
  go_at_call 13
  refine Calls.mono (Rs.fixed_any w2 H2.out.ok) ?_
  rintro r w9 ⟨rfl, hb⟩
  have H9 := Lib.hid (H2.out.bel.trans (hb.mono H2.out.bel.size))
  clear hb
  go_wp2_with fail
  go_ret
  exact ⟨rfl, H9.out⟩
set_option maxHeartbeats 2000000 in
set_option maxRecDepth 100000 in
theorem near (n e sig X : ByteArray) (K : Nat) (w : World) (ok : Rs.Ok w) (hC : ∀ W, Rs.Ok W → Calls Tryz.prog 15 #[.agg #[.string n, .string e], .string sig] W fun r w' => r = .returned (.tuple #[.string X, .int .i64 (K : Int)]) ∧ Below W.heap.size W w') (hn : n.size ≤ 4000) (he : e.size ≤ 4000)
    (hR : ∀ W, Calls Tryz.prog 16 #[.agg #[.string n, .string e], .string sig] W fun r w' => r = .returned (.tuple #[.string X, .int .i64 (K : Int)]) ∧ Below W.heap.size W w') :
    Calls Tryz.prog 4 #[.agg #[.string n, .string e], .string sig] w fun e w' => e = .returned (.bool true) ∧ Below w.heap.size w w' := by
  have z1 : ¬ (4000 : Int) < (n.size : Int) := by omega
  have z2 : ¬ (4000 : Int) < (e.size : Int) := by omega
  have HR := Lib.hid hR
  clear hR
  have HK := Lib.hid hC
  have HS := Lib.hid (Rs.LawS.start w ok n e)
  clear hC ok
  go_enter Tryz.func4, Tryz.ntmps4
  go_wp2_with fail
  have S0 := HS.out
  clear HS
  revert S0
  generalize w.alloc (Obj.cells #[.string n, .string e] 23) = w1
  intro S0
  go_at_call 15
  refine Calls.mono (HK.out _ S0.ok) ?_
  rintro r w2 ⟨rfl, hb⟩
  have S2 := S0.below hb
  have c0 := S2.c0
  have c1 := S2.c1
  have H2 := Lib.hid S2
  clear hb S0 S2
  go_wp2_with fail
  go_at_call 16
  refine Calls.mono (HR.out _) ?_
  rintro r w3 ⟨rfl, hb⟩
  have H3 := Lib.hid (H2.out.below hb)
  clear hb c0 c1
  go_wp2_with fail
  go_at_call 13
  refine Calls.mono (Rs.fixed_any w3 H3.out.ok) ?_
  rintro r w9 ⟨rfl, hb⟩
  have H9 := Lib.hid (H3.out.bel.trans (hb.mono H3.out.bel.size))
  clear hb
  go_wp2_with fail
  go_ret
  exact ⟨rfl, H9.out⟩
theorem walk (n e sig : ByteArray) (w : World) (ok : Rs.Ok w) (zn : n.size ≤ 140737488355328) (ze : e.size ≤ 140737488355328) (_zs : sig.size ≤ 140737488355328) :
    Calls Tryz.prog 4 #[.agg #[.string n, .string e], .string sig] w fun e w' => e = .returned (.bool true) ∧ Below w.heap.size w w' := by
  by_cases h1 : 4000 < n.size
  · exact longN n e sig w ok (fun W hW => Rs.Open_bad W hW n e sig (by omega) (by omega) (Rs.long_bad n e (.inl h1))) h1
  by_cases h2 : 4000 < e.size
  · exact longE n e sig w ok (fun W hW => Rs.Open_bad W hW n e sig (by omega) (by omega) (Rs.long_bad n e (.inr h2))) (by omega) h2
  have hR := fun W => Rs.RCheck_any W n e (by omega) (by omega)
  by_cases hb : Rs.bad n e
  · rw [decide_eq_false (fun h => h hb)] at hR
    exact near n e sig _ 40 w ok (fun W hW => Rs.Open_bad W hW n e sig (by omega) (by omega) hb) (by omega) (by omega) (fun W => Rs.ROpen_bad W n e sig hR)
  rw [decide_eq_true hb] at hR
  by_cases hz : sig.size = n.size
  · by_cases hv : Nt.nv sig < Nt.nv n
    · exact near n e sig _ 0 w ok (fun W hW => Rs.Open_ok W hW n e sig (by omega) (by omega) hb hz hv) (by omega) (by omega) (fun W => Rs.ROpen_ok W n e sig hR (by omega) (by omega) hz hv)
    · exact near n e sig _ 41 w ok (fun W hW => Rs.Open_value W hW n e sig (by omega) (by omega) hb hz (by omega)) (by omega) (by omega) (fun W => Rs.ROpen_value W n e sig hR (by omega) hz (by omega))
  · exact near n e sig _ 41 w ok (fun W hW => Rs.Open_size W hW n e sig (by omega) (by omega) hb hz) (by omega) (by omega) (fun W => Rs.ROpen_size W n e sig hR (by omega) hz)
end lwOpens
end Go.Proofs.YtfbliccblippiaaGreatDoor
