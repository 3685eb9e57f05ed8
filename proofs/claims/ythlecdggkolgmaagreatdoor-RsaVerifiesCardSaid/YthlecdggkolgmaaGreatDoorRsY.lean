/- The reference's Verify. -/
import Derived.Test.YthlecdggkolgmaaGreatDoorRsX
import Derived.Test.YthlecdggkolgmaaGreatDoorRsW
import Derived.Test.YthlecdggkolgmaaGreatDoorLwOpensA
namespace Go.Proofs.YthlecdggkolgmaaGreatDoor
open Go.RowKit
theorem Rs.pd_step (x m : Nat) (h : Nt.by x ≤ m) : Nt.pd x (m + 1) = ⟨#[0]⟩ ++ Nt.pd x m := by
  rw [← Rs.zp_pd,← Rs.zp_pd,Rs.zp_succ,show m + 1 - Nt.by x = m - Nt.by x + 1 by omega]
theorem Rs.pd_first (x m : Nat) (h : Nt.by x ≤ m + 1) : Rs.at (Nt.pd x (m + 1)).data.toList 0 = 0 ↔ Nt.by x ≤ m := by
  by_cases hm : Nt.by x ≤ m
  · rw [Rs.pd_step x m hm]
    refine ⟨fun _ => hm,fun _ => ?_⟩
    rw [ByteArray.data_append,Array.toList_append]
    rfl
  · refine ⟨fun h0 => ?_,fun h1 => absurd h1 hm⟩
    exfalso
    rw [← Rs.zp_pd,show m + 1 - Nt.by x = 0 by omega] at h0
    have hl := Nt.fm_len x
    cases hf : Nt.fm x with
    | nil => rw [hf] at hl; simp at hl; omega
    | cons c t =>
      have hc := Nt.fm_head x c t hf
      have e : (Rs.zp 0 x).data.toList = c :: t := by
        unfold Rs.zp
        rw [hf]
        rfl
      rw [e] at h0
      have h1 : c.toNat = 0 := h0
      exact hc (UInt8.toNat_inj.1 h1)
theorem Rs.pd_rest (x m : Nat) (h : Nt.by x ≤ m) : (Nt.pd x (m + 1)).extract 1 (m + 1) = Nt.pd x m := by
  apply Rs.ext_ba
  rw [Rs.pd_step x m h,Hs.ext_list,ByteArray.data_append,Array.toList_append,Nat.add_sub_cancel]
  show (Nt.pd x m).data.toList.take m = _
  rw [List.take_of_length_le (by rw [Rs.ba_len,Nt.pd_size x m h]; exact Nat.le_refl _)]
set_option maxHeartbeats 1000000 in
set_option maxRecDepth 100000 in
theorem Rs.RVerify_no (w : World) (n e s sig : ByteArray) (sc : Int) (X : Nat) (hX : X ≠ 0)
    (hOp : ∀ W,Calls Tryz.prog 21 #[.agg #[.string n,.string e],.string sig] W fun r w' => r = .returned (.tuple #[.string ⟨#[]⟩,.int .i64 (X : Int)]) ∧ Below W.heap.size W w') :
    Calls Tryz.prog 9 #[.agg #[.string n,.string e],.int .i64 sc,.string s,.string sig] w fun r w' => r = .returned (.bool false) ∧ Below w.heap.size w w' := by
  have x1 : ¬ (X : Int) = 0 := by omega
  have x2 : ((X : Int) != 0) = true := by rw [bne_iff_ne]; exact x1
  clear hX
  have HS := Lib.hid (Rs.BoxS.start w n e)
  have HO := Lib.hid hOp
  clear hOp
  go_enter Tryz.func9,Tryz.ntmps9
  go_wp2_with fail
  have S0 := HS.out
  clear HS
  revert S0
  generalize w.alloc (Obj.cells #[.string n,.string e] 25) = w1
  intro S0
  go_at_call 21
  refine Calls.mono (HO.out _) ?_
  rintro r w2 ⟨rfl,hb⟩
  have S2 := S0.below hb
  clear hb S0
  have c0 := S2.c0
  have H2 := Lib.hid S2
  clear S2
  go_wp2_with fail
  go_ret
  exact ⟨rfl,H2.out.bel⟩
set_option maxHeartbeats 1000000 in
set_option maxRecDepth 100000 in
theorem Rs.RVerify_other (w : World) (n e s sig Y : ByteArray) (sc : Int) (h0 : sc ≠ 0) (h1 : sc ≠ 1)
    (hOp : ∀ W,Calls Tryz.prog 21 #[.agg #[.string n,.string e],.string sig] W fun r w' => r = .returned (.tuple #[.string Y,.int .i64 0]) ∧ Below W.heap.size W w') :
    Calls Tryz.prog 9 #[.agg #[.string n,.string e],.int .i64 sc,.string s,.string sig] w fun r w' => r = .returned (.bool false) ∧ Below w.heap.size w w' := by
  have e0 : (sc == 0) = false := by rw [beq_eq_false_iff_ne]; exact h0
  have e1 : (sc == 1) = false := by rw [beq_eq_false_iff_ne]; exact h1
  have i0 : ¬ sc = 0 := h0
  have i1 : ¬ sc = 1 := h1
  clear h0 h1
  have HS := Lib.hid (Rs.BoxS.start w n e)
  have HO := Lib.hid hOp
  clear hOp
  go_enter Tryz.func9,Tryz.ntmps9
  go_wp2_with fail
  have S0 := HS.out
  clear HS
  revert S0
  generalize w.alloc (Obj.cells #[.string n,.string e] 25) = w1
  intro S0
  go_at_call 21
  refine Calls.mono (HO.out _) ?_
  rintro r w2 ⟨rfl,hb⟩
  have S2 := S0.below hb
  clear hb S0
  have c0 := S2.c0
  have H2 := Lib.hid S2
  clear S2
  go_wp2_with fail
  go_ret
  exact ⟨rfl,H2.out.bel⟩
set_option maxHeartbeats 1000000 in
set_option maxRecDepth 100000 in
theorem Rs.RVerify_0 (w : World) (n e s sig Y : ByteArray) (N : Nat) (hY : Y.size = N) (h1 : 62 ≤ N) (h2 : N ≤ 512) (hs : s.size ≤ 140737488351232)
    (hOp : ∀ W,Calls Tryz.prog 21 #[.agg #[.string n,.string e],.string sig] W fun r w' => r = .returned (.tuple #[.string Y,.int .i64 0]) ∧ Below W.heap.size W w') :
    Calls Tryz.prog 9 #[.agg #[.string n,.string e],.int .i64 0,.string s,.string sig] w fun r w' => r = .returned (.bool ((Rs.block s N).toList == Y.toList)) ∧ Below w.heap.size w w' := by
  have HB := Lib.hid (fun W => Rs.RBlock_ok W s N hs h1 h2)
  generalize Rs.block s N = B at HB ⊢
  have hYz : (Y.size : Int) = (N : Int) := by omega
  have hNb : (N : Int) ≤ 512 := by omega
  clear h1 h2 hs hY
  have HS := Lib.hid (Rs.BoxS.start w n e)
  have HO := Lib.hid hOp
  clear hOp
  go_enter Tryz.func9,Tryz.ntmps9
  go_wp2_with fail
  have S0 := HS.out
  clear HS
  revert S0
  generalize w.alloc (Obj.cells #[.string n,.string e] 25) = w1
  intro S0
  go_at_call 21
  refine Calls.mono (HO.out _) ?_
  rintro r w2 ⟨rfl,hb⟩
  have S2 := S0.below hb
  clear hb S0
  have c0 := S2.c0
  have H2 := Lib.hid S2
  clear S2
  go_wp2_with fail
  go_at_call 22
  refine Calls.mono (HB.out _) ?_
  rintro r w3 ⟨rfl,hb⟩
  have H3 := Lib.hid (H2.out.bel.trans (hb.mono H2.out.bel.size))
  clear hb
  go_wp2_with fail
  go_ret
  exact ⟨rfl,H3.out⟩
set_option maxHeartbeats 2000000 in
set_option maxRecDepth 100000 in
theorem Rs.RVerify_same (w : World) (n e s sig Y : ByteArray) (D b m L : Nat) (hn : n.size ≤ 4000) (hY : Y.size = L) (hL : L ≤ 4000) (hD : Nt.dig (Nt.nv n) = D) (hDb : D ≤ 32000) (hb : b + 1 = D) (hm : m = (b + 7) / 8) (hLm : L ≤ m) (P : Prop) (hF : ∀ W,Calls Tryz.prog 6 #[.string s,.string Y,.int .i64 (b : Int)] W fun r w' => ∃ q : Bool,(q = true ↔ P) ∧ r = .returned (.bool q) ∧ Below W.heap.size W w')
    (hOp : ∀ W,Calls Tryz.prog 21 #[.agg #[.string n,.string e],.string sig] W fun r w' => r = .returned (.tuple #[.string Y,.int .i64 0]) ∧ Below W.heap.size W w') :
    Calls Tryz.prog 9 #[.agg #[.string n,.string e],.int .i64 1,.string s,.string sig] w fun r w' => ∃ q : Bool,(q = true ↔ P) ∧ r = .returned (.bool q) ∧ Below w.heap.size w w' := by
  have HN := Lib.hid (fun W => Rn.Of_any W n (by omega))
  have hYz : (Y.size : Int) = (L : Int) := by omega
  have hLb : (L : Int) ≤ 4000 := by omega
  have hD1 : (D : Int) - 1 = (b : Int) := by omega
  have hbb : (b : Int) ≤ 32000 := by omega
  have q1 : Int.tdiv ((b : Int) + 7) 8 = (m : Int) := by rw [Int.tdiv_eq_ediv_of_nonneg (by omega)]; omega
  have hmb : (m : Int) ≤ 4001 := by omega
  have HD := Lib.hid (And.intro hD hn)
  have HF := Lib.hid hF
  have hgt : ¬ (m : Int) < (L : Int) := by omega
  clear hF hLm
  clear hD hDb hb hm hn
  have HS := Lib.hid (Rs.BoxS.start w n e)
  have HO := Lib.hid hOp
  clear hOp
  go_enter Tryz.func9,Tryz.ntmps9
  go_wp2_with fail
  have S0 := HS.out
  clear HS
  revert S0
  generalize w.alloc (Obj.cells #[.string n,.string e] 25) = w1
  intro S0
  go_at_call 21
  refine Calls.mono (HO.out _) ?_
  rintro r w2 ⟨rfl,hb⟩
  have S2 := S0.below hb
  clear hb S0
  have c0 := S2.c0
  have H2 := Lib.hid S2
  clear S2
  go_wp2_with fail
  go_at_call 24
  refine Calls.mono (HN.out _) ?_
  rintro r w3 ⟨av,k,c,rfl,hNum,hb⟩
  have hk : k ≤ 1000000 := by
    have := hNum.len n.size (Nat.lt_of_lt_of_le (Nt.nv_lt n) (Nat.pow_le_pow_left (by decide) _))
    have := HD.out.2
    omega
  have HBt := Lib.hid (Rn.Bits_any w3 av k c (Nt.nv n) hNum hk)
  have hk2 : (k : Int) ≤ 1000000 := by omega
  rw [HD.out.1] at HBt
  have H3 := Lib.hid (H2.out.bel.trans (hb.mono H2.out.bel.size))
  clear hb hNum hk c0
  go_wp2_with fail
  go_at_call 23
  refine Calls.mono HBt.out ?_
  rintro r w4 ⟨rfl,rfl⟩
  clear HBt
  go_wp2_with fail
  go_at_call 6
  refine Calls.mono (HF.out _) ?_
  rintro r w5 ⟨q,hq,rfl,hb⟩
  have H5 := Lib.hid (And.intro hq (H3.out.trans (hb.mono H3.out.size)))
  clear hb hq
  go_wp2_with fail
  go_ret
  exact ⟨q,H5.out.1,rfl,H5.out.2⟩
set_option maxHeartbeats 2000000 in
set_option maxRecDepth 100000 in
theorem Rs.RVerify_over (w : World) (n e s sig Y : ByteArray) (D b m L : Nat) (hn : n.size ≤ 4000) (hY : Y.size = L) (hL : L ≤ 4000) (hD : Nt.dig (Nt.nv n) = D) (hDb : D ≤ 32000) (hb : b + 1 = D) (hm : m = (b + 7) / 8) (hLm : L = m + 1) (c0b : UInt8) (h0 : 0 < Y.size) (hc : Y[0] = c0b) (hcz : c0b.toNat ≠ 0)
    (hOp : ∀ W,Calls Tryz.prog 21 #[.agg #[.string n,.string e],.string sig] W fun r w' => r = .returned (.tuple #[.string Y,.int .i64 0]) ∧ Below W.heap.size W w') :
    Calls Tryz.prog 9 #[.agg #[.string n,.string e],.int .i64 1,.string s,.string sig] w fun r w' => r = .returned (.bool false) ∧ Below w.heap.size w w' := by
  have HN := Lib.hid (fun W => Rn.Of_any W n (by omega))
  have hYz : (Y.size : Int) = (L : Int) := by omega
  have hLb : (L : Int) ≤ 4000 := by omega
  have hD1 : (D : Int) - 1 = (b : Int) := by omega
  have hbb : (b : Int) ≤ 32000 := by omega
  have q1 : Int.tdiv ((b : Int) + 7) 8 = (m : Int) := by rw [Int.tdiv_eq_ediv_of_nonneg (by omega)]; omega
  have hmb : (m : Int) ≤ 4001 := by omega
  have HD := Lib.hid (And.intro hD hn)
  have hgt : (m : Int) < (L : Int) := by omega
  have hL0 : (0 : Int) < (L : Int) := by omega
  have hc1 : ¬ (c0b.toNat : Int) = 0 := by omega
  have hc2 : ((c0b.toNat : Int) == 0) = false := by rw [beq_eq_false_iff_ne]; exact hc1
  clear hcz hLm
  clear hD hDb hb hm hn
  have HS := Lib.hid (Rs.BoxS.start w n e)
  have HO := Lib.hid hOp
  clear hOp
  go_enter Tryz.func9,Tryz.ntmps9
  go_wp2_with fail
  have S0 := HS.out
  clear HS
  revert S0
  generalize w.alloc (Obj.cells #[.string n,.string e] 25) = w1
  intro S0
  go_at_call 21
  refine Calls.mono (HO.out _) ?_
  rintro r w2 ⟨rfl,hb⟩
  have S2 := S0.below hb
  clear hb S0
  have c0 := S2.c0
  have H2 := Lib.hid S2
  clear S2
  go_wp2_with fail
  go_at_call 24
  refine Calls.mono (HN.out _) ?_
  rintro r w3 ⟨av,k,c,rfl,hNum,hb⟩
  have hk : k ≤ 1000000 := by
    have := hNum.len n.size (Nat.lt_of_lt_of_le (Nt.nv_lt n) (Nat.pow_le_pow_left (by decide) _))
    have := HD.out.2
    omega
  have HBt := Lib.hid (Rn.Bits_any w3 av k c (Nt.nv n) hNum hk)
  have hk2 : (k : Int) ≤ 1000000 := by omega
  rw [HD.out.1] at HBt
  have H3 := Lib.hid (H2.out.bel.trans (hb.mono H2.out.bel.size))
  clear hb hNum hk c0
  go_wp2_with fail
  go_at_call 23
  refine Calls.mono HBt.out ?_
  rintro r w4 ⟨rfl,rfl⟩
  clear HBt
  go_wp2_with fail
  go_ret
  exact ⟨rfl,H3.out⟩
set_option maxHeartbeats 2000000 in
set_option maxRecDepth 100000 in
theorem Rs.RVerify_rest (w : World) (n e s sig Y : ByteArray) (D b m L : Nat) (hn : n.size ≤ 4000) (hY : Y.size = L) (hL : L ≤ 4000) (hD : Nt.dig (Nt.nv n) = D) (hDb : D ≤ 32000) (hb : b + 1 = D) (hm : m = (b + 7) / 8) (hLm : L = m + 1) (c0b : UInt8) (h0 : 0 < Y.size) (hc : Y[0] = c0b) (hcz : c0b.toNat = 0) (T : ByteArray) (hT : Y.extract 1 L = T) (P : Prop) (hF : ∀ W,Calls Tryz.prog 6 #[.string s,.string T,.int .i64 (b : Int)] W fun r w' => ∃ q : Bool,(q = true ↔ P) ∧ r = .returned (.bool q) ∧ Below W.heap.size W w')
    (hOp : ∀ W,Calls Tryz.prog 21 #[.agg #[.string n,.string e],.string sig] W fun r w' => r = .returned (.tuple #[.string Y,.int .i64 0]) ∧ Below W.heap.size W w') :
    Calls Tryz.prog 9 #[.agg #[.string n,.string e],.int .i64 1,.string s,.string sig] w fun r w' => ∃ q : Bool,(q = true ↔ P) ∧ r = .returned (.bool q) ∧ Below w.heap.size w w' := by
  have HN := Lib.hid (fun W => Rn.Of_any W n (by omega))
  have hYz : (Y.size : Int) = (L : Int) := by omega
  have hLb : (L : Int) ≤ 4000 := by omega
  have hD1 : (D : Int) - 1 = (b : Int) := by omega
  have hbb : (b : Int) ≤ 32000 := by omega
  have q1 : Int.tdiv ((b : Int) + 7) 8 = (m : Int) := by rw [Int.tdiv_eq_ediv_of_nonneg (by omega)]; omega
  have hmb : (m : Int) ≤ 4001 := by omega
  have HD := Lib.hid (And.intro hD hn)
  have HF := Lib.hid hF
  have hgt : (m : Int) < (L : Int) := by omega
  have hL0 : (0 : Int) < (L : Int) := by omega
  have hL1 : (1 : Int) ≤ (L : Int) := by omega
  have hc1 : (c0b.toNat : Int) = 0 := by omega
  clear hcz hLm hF
  clear hD hDb hb hm hn
  have HS := Lib.hid (Rs.BoxS.start w n e)
  have HO := Lib.hid hOp
  clear hOp
  go_enter Tryz.func9,Tryz.ntmps9
  go_wp2_with fail
  have S0 := HS.out
  clear HS
  revert S0
  generalize w.alloc (Obj.cells #[.string n,.string e] 25) = w1
  intro S0
  go_at_call 21
  refine Calls.mono (HO.out _) ?_
  rintro r w2 ⟨rfl,hb⟩
  have S2 := S0.below hb
  clear hb S0
  have c0 := S2.c0
  have H2 := Lib.hid S2
  clear S2
  go_wp2_with fail
  go_at_call 24
  refine Calls.mono (HN.out _) ?_
  rintro r w3 ⟨av,k,c,rfl,hNum,hb⟩
  have hk : k ≤ 1000000 := by
    have := hNum.len n.size (Nat.lt_of_lt_of_le (Nt.nv_lt n) (Nat.pow_le_pow_left (by decide) _))
    have := HD.out.2
    omega
  have HBt := Lib.hid (Rn.Bits_any w3 av k c (Nt.nv n) hNum hk)
  have hk2 : (k : Int) ≤ 1000000 := by omega
  rw [HD.out.1] at HBt
  have H3 := Lib.hid (H2.out.bel.trans (hb.mono H2.out.bel.size))
  clear hb hNum hk c0
  go_wp2_with fail
  go_at_call 23
  refine Calls.mono HBt.out ?_
  rintro r w4 ⟨rfl,rfl⟩
  clear HBt
  go_wp2_with fail
  go_at_call 6
  refine Calls.mono (HF.out _) ?_
  rintro r w5 ⟨q,hq,rfl,hb⟩
  have H5 := Lib.hid (And.intro hq (H3.out.trans (hb.mono H3.out.size)))
  clear hb hq
  go_wp2_with fail
  go_ret
  exact ⟨q,H5.out.1,rfl,H5.out.2⟩
theorem Rs.RVerify_any (w : World) (n e s sig : ByteArray) (sc : Int) (hn : n.size ≤ 4000) (he : e.size ≤ 4000) (hs : s.size ≤ 140737488351232) :
    Calls Tryz.prog 9 #[.agg #[.string n,.string e],.int .i64 sc,.string s,.string sig] w fun r w' => ∃ q : Bool,(q = true ↔ Rs.sigP n e s sig sc) ∧ r = .returned (.bool q) ∧ Below w.heap.size w w' := by
  have hR := fun W => Rs.RCheck_any W n e hn he
  have hno : ∀ X : Nat,X ≠ 0 → ¬ Rs.sigP n e s sig sc → (∀ W,Calls Tryz.prog 21 #[.agg #[.string n,.string e],.string sig] W fun r w' => r = .returned (.tuple #[.string ⟨#[]⟩,.int .i64 (X : Int)]) ∧ Below W.heap.size W w') →
      Calls Tryz.prog 9 #[.agg #[.string n,.string e],.int .i64 sc,.string s,.string sig] w fun r w' => ∃ q : Bool,(q = true ↔ Rs.sigP n e s sig sc) ∧ r = .returned (.bool q) ∧ Below w.heap.size w w' := fun X hX hP hOp => by
    refine (Rs.RVerify_no w n e s sig sc X hX hOp).mono ?_
    rintro r w' ⟨hr,hb⟩
    exact ⟨false,⟨fun h => (by cases h),fun h => absurd h hP⟩,hr,hb⟩
  by_cases hg : Rs.bad n e
  · rw [decide_eq_false (fun h => h hg)] at hR
    exact hno 40 (by decide) (fun h => h.1 hg) (fun W => Rs.ROpen_bad W n e sig hR)
  rw [decide_eq_true hg] at hR
  by_cases hz : sig.size = n.size
  case neg => exact hno 41 (by decide) (fun h => hz h.2.1) (fun W => Rs.ROpen_size W n e sig hR hn hz)
  by_cases hv : Nt.nv sig < Nt.nv n
  case neg => exact hno 41 (by decide) (fun h => hv h.2.2.1) (fun W => Rs.ROpen_value W n e sig hR hn hz (by omega))
  have hOp := fun W => Rs.ROpen_ok W n e sig hR hn he hz hv
  obtain ⟨z1,z2,z3,z4,z5⟩ := Rs.good_sizes n e hg
  obtain ⟨x,hx⟩ : ∃ x,Nt.nv sig ^ Nt.nv e % Nt.nv n = x := ⟨_,rfl⟩
  have hxn : x < Nt.nv n := by rw [← hx]; exact Nat.mod_lt _ (by omega)
  have hby : Nt.by x ≤ n.size := Nt.by_le _ _ (Nat.lt_trans hxn (Nt.nv_lt n))
  have hop : Rs.opened n e sig = Nt.pd x n.size := by unfold Rs.opened; rw [hx]
  have hOs : (Nt.pd x n.size).size = n.size := Nt.pd_size _ _ hby
  by_cases hs0 : sc = 0
  · subst hs0
    rw [hop] at hOp
    refine (Rs.RVerify_0 w n e s sig _ n.size hOs (by omega) (by omega) hs hOp).mono ?_
    rintro r w' ⟨hr,hb⟩
    refine ⟨_,?_,hr,hb⟩
    rw [beq_iff_eq,Rs.toList_inj]
    constructor
    · intro h
      exact ⟨hg,hz,hv,.inl ⟨rfl,by rw [hop,h]⟩⟩
    · rintro ⟨_,_,_,h | h⟩
      · rw [← h.2,hop]
      · exact absurd h.1 (by decide)
  by_cases hs1 : sc = 1
  · subst hs1
    rw [hop] at hOp
    obtain ⟨D,hD⟩ : ∃ D,Nt.dig (Nt.nv n) = D := ⟨_,rfl⟩
    rw [hD] at z3 z4 z5
    obtain ⟨m,hm⟩ : ∃ m,m = (D - 1 + 7) / 8 := ⟨_,rfl⟩
    have hP : Rs.sigP n e s sig 1 ↔ Nt.by x ≤ m ∧ Rs.fitP s (Nt.pd x m) ((D - 1 : Nat) : Int) := by
      unfold Rs.sigP
      rw [hop,Nt.pd_nv,hD,← hm]
      constructor
      · rintro ⟨_,_,_,h | h⟩
        · exact absurd h.1 (by decide)
        · exact h.2
      · intro h
        exact ⟨hg,hz,hv,.inr ⟨rfl,h⟩⟩
    simp only [hP]
    by_cases hLm : n.size ≤ m
    · have he1 : n.size = m := by omega
      refine (Rs.RVerify_same w n e s sig _ D (D - 1) m n.size hn hOs hn hD (by omega) (by omega) hm hLm _ (fun W => Rs.RFits_any W s _ _ hs) hOp).mono ?_
      rintro r w' ⟨q,hq,hr,hb⟩
      refine ⟨q,hq.trans ?_,hr,hb⟩
      rw [he1]
      exact ⟨fun h => ⟨by omega,h⟩,fun h => h.2⟩
    · have he1 : n.size = m + 1 := by omega
      have hfi := Rs.pd_first x m (by omega)
      rw [← he1] at hfi
      have h0 : 0 < (Nt.pd x n.size).size := by omega
      have hat := Rs.at_get (Nt.pd x n.size) 0 h0
      by_cases hf : Nt.by x ≤ m
      · refine (Rs.RVerify_rest w n e s sig _ D (D - 1) m n.size hn hOs hn hD (by omega) (by omega) hm he1 _ h0 rfl (by rw [hat]; exact hfi.2 hf) _ rfl _ (fun W => Rs.RFits_any W s _ _ hs) hOp).mono ?_
        rintro r w' ⟨q,hq,hr,hb⟩
        refine ⟨q,hq.trans ?_,hr,hb⟩
        rw [he1,Rs.pd_rest x m hf]
        exact ⟨fun h => ⟨hf,h⟩,fun h => h.2⟩
      · refine (Rs.RVerify_over w n e s sig _ D (D - 1) m n.size hn hOs hn hD (by omega) (by omega) hm he1 _ h0 rfl (by rw [hat]; exact fun h => hf (hfi.1 h)) hOp).mono ?_
        rintro r w' ⟨hr,hb⟩
        exact ⟨false,⟨fun h => (by cases h),fun h => absurd h.1 hf⟩,hr,hb⟩
  · refine (Rs.RVerify_other w n e s sig _ sc hs0 hs1 hOp).mono ?_
    rintro r w' ⟨hr,hb⟩
    exact ⟨false,⟨fun h => (by cases h),fun h => h.2.2.2.elim (fun h => absurd h.1 hs0) (fun h => absurd h.1 hs1)⟩,hr,hb⟩
end Go.Proofs.YthlecdggkolgmaaGreatDoor
