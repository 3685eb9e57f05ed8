/- The reference's padded and Open; RsaOpens, the walk. -/
import Derived.Test.YthlecdggkolgmaaGreatDoorRsK
import Derived.Lib.SmallJoins
import Derived.Test.YthlecdggkolgmaaGreatDoorRsL
import Derived.Test.YthlecdggkolgmaaGreatDoorRnM
namespace Go.Proofs.YthlecdggkolgmaaGreatDoor
section
open Go.RowKit
/-- What holds of the world while a law asks of a key in its box. -/
structure Rs.LawS (w : World) (p : Nat) (n e : ByteArray) (W : World) : Prop where
  ok : Rs.Ok W
  c0 : W.cell? ⟨p,0,none⟩ = some (.string n)
  c1 : W.cell? ⟨p,1,none⟩ = some (.string e)
  bel : Below w.heap.size w W
theorem Rs.LawS.below {w W W' : World} {p : Nat} {n e : ByteArray} (h : Rs.LawS w p n e W) (hb : Below W.heap.size W W') : Rs.LawS w p n e W' :=
  ⟨h.ok.below hb,(hb.cell (p := ⟨p,0,none⟩) (World.block_lt_of_cell? W _ h.c0)).trans h.c0,(hb.cell (p := ⟨p,1,none⟩) (World.block_lt_of_cell? W _ h.c1)).trans h.c1,h.bel.trans (hb.mono h.bel.size)⟩
theorem Rs.LawS.start (w : World) (ok : Rs.Ok w) (n e : ByteArray) : Rs.LawS w w.heap.size n e (w.alloc (Obj.cells #[.string n,.string e] 25)) :=
  ⟨ok.below ((Below.refl _ _).alloc (Nat.le_refl _) _),by simp,by simp,(Below.refl _ _).alloc (Nat.le_refl _) _⟩
theorem Rs.odd_size (a : ByteArray) (l m : Nat) (h : Rs.odd a l m) (hm : m ≤ 16000) : a.size ≤ 2000 := by
  have h1 := Nt.ts_size a
  rw [h.2.2.1] at h1
  rw [h1]
  unfold Nt.by
  have := h.2.1
  omega
theorem Rs.long_bad (n e : ByteArray) (h : 4000 < n.size ∨ 4000 < e.size) : Rs.bad n e := fun hg => by
  have h1 := Rs.odd_size n _ _ hg.1 (by decide)
  have h2 := Rs.odd_size e _ _ hg.2 (by decide)
  omega
theorem Rs.RCheck_any (w : World) (n e : ByteArray) (hn : n.size ≤ 4000) (he : e.size ≤ 4000) :
    Calls Tryz.prog 39 #[.agg #[.string n,.string e]] w fun r w' => r = .returned (.bool (decide (¬ Rs.bad n e))) ∧ Below w.heap.size w w' := by
  have key : ∀ b : Bool,(b = true ↔ (Rs.odd n 512 2048 ∧ Rs.odd e 2 32)) → decide (¬ Rs.bad n e) = b := fun b hb => by
    have : (¬ Rs.bad n e) ↔ (Rs.odd n 512 2048 ∧ Rs.odd e 2 32) := by unfold Rs.bad; exact Decidable.not_not
    cases b
    · exact decide_eq_false (fun h => by have := hb.2 (this.1 h); cases this)
    · exact decide_eq_true (this.2 (hb.1 rfl))
  have no : (¬ (Rs.odd n 512 2048 ∧ Rs.odd e 2 32)) → decide (¬ Rs.bad n e) = false := fun h => key false ⟨fun h2 => (by cases h2),fun h2 => absurd h2 h⟩
  by_cases c1 : Nt.ts n = n
  case neg => rw [no (fun h => c1 h.1.2.2.1)]; exact Rs.RCheck_1 w n e _ _ _ _ hn he rfl rfl rfl rfl c1
  by_cases c2 : Nt.ts e = e
  case neg => rw [no (fun h => c2 h.2.2.2.1)]; exact Rs.RCheck_2 w n e _ _ _ _ hn he rfl rfl rfl rfl c1 c2
  by_cases c3 : Nt.nv n % 2 = 1
  case neg => rw [no (fun h => c3 h.1.2.2.2)]; exact Rs.RCheck_3 w n e _ _ _ _ hn he rfl rfl rfl rfl c1 c2 (by omega)
  by_cases c4 : Nt.nv e % 2 = 1
  case neg => rw [no (fun h => c4 h.2.2.2.2)]; exact Rs.RCheck_4 w n e _ _ _ _ hn he rfl rfl rfl rfl c1 c2 c3 (by omega)
  by_cases c5 : 512 ≤ Nt.dig (Nt.nv n)
  case neg => rw [no (fun h => c5 h.1.1)]; exact Rs.RCheck_5 w n e _ _ _ _ hn he rfl rfl rfl rfl c1 c2 c3 c4 c5
  by_cases c6 : Nt.dig (Nt.nv n) ≤ 2048
  case neg => rw [no (fun h => c6 h.1.2.1)]; exact Rs.RCheck_6 w n e _ _ _ _ hn he rfl rfl rfl rfl c1 c2 c3 c4 c5 c6
  by_cases c7 : 3 ≤ Nt.nv e
  case neg =>
    rw [no (fun h => by
      have h1 : Nt.nv e = 1 := by omega
      have h2 := h.2.1
      rw [h1] at h2
      exact absurd h2 (by decide))]
    exact Rs.RCheck_7 w n e _ _ _ _ hn he rfl rfl rfl rfl c1 c2 c3 c4 c5 c6 c7
  by_cases c8 : Nt.dig (Nt.nv e) ≤ 32
  case neg => rw [no (fun h => c8 h.2.2.1)]; exact Rs.RCheck_8 w n e _ _ _ _ hn he rfl rfl rfl rfl c1 c2 c3 c4 c5 c6 c7 c8
  have c9 : 2 ≤ Nt.dig (Nt.nv e) := by
    have h1 := Nt.dig_lt (Nt.nv e)
    refine Nat.le_of_not_lt fun h2 => ?_
    have h3 : (2 : Nat) ^ Nt.dig (Nt.nv e) ≤ 2 ^ 1 := Nat.pow_le_pow_right (by decide) (by omega)
    omega
  rw [key true ⟨fun _ => ⟨⟨c5,c6,c1,c3⟩,c9,c8,c2,c4⟩,fun _ => rfl⟩]
  exact Rs.RCheck_0 w n e _ _ _ _ hn he rfl rfl rfl rfl c1 c2 c3 c4 c5 c6 c7 c8
namespace lwKeys
end lwKeys
theorem Rs.cellsK : Tryz.prog.cellsOf 25 = 2 := by kernel_rfl
set_option maxRecDepth 100000 in
/-- A key, opened and shut. -/
theorem Rs.open_key {H : Type} {enc : TypeId × Value → H} {W : World} {v : Value} {d : DataW H} {ps : List MemPlace} (hval : Value.okWide Tryz.prog W .any 0 25 v)
    (h : DataW.Trod enc Tryz.prog W 0 (fun _ => true) true 25 v d ps) :
    ∃ s0 s1 : ByteArray,v = .agg #[.string s0,.string s1] ∧ d = .agg [.lit (.string s0.data.toList),.lit (.string s1.data.toList)] ∧ ps = [] ∧ s0.size ≤ maxLen ∧ s1.size ≤ maxLen := by
  obtain ⟨c0,c1,y0,y1,m,rfl,rfl,rfl,hy0,hy1⟩ := Go.Joins.open_agg2 Tryz.underlying25 (by kernel_rfl) Rs.cellsK hval h
  obtain ⟨s0,e0,rfl,z0⟩ := DataW.trod_string Tryz.underlying9 hy0
  obtain ⟨s1,e1,rfl,z1⟩ := DataW.trod_string Tryz.underlying9 hy1
  simp only [List.cons.injEq,and_true] at e0 e1
  subst e0 e1
  exact ⟨s0,s1,rfl,rfl,rfl,z0,z1⟩
set_option maxRecDepth 100000 in
theorem Rs.shut_key {H : Type} {enc : TypeId × Value → H} {W : World} {spare : Nat → Bool} (s0 s1 : ByteArray) (z0 : s0.size ≤ maxLen) (z1 : s1.size ≤ maxLen) :
    DataW.Trod enc Tryz.prog W 0 spare true 25 (.agg #[.string s0,.string s1]) (.agg [.lit (.string s0.data.toList),.lit (.string s1.data.toList)]) [] :=
  Go.Joins.shut_agg2 (y0 := (.lit (.string s0.data.toList),[])) (y1 := (.lit (.string s1.data.toList),[])) Tryz.underlying25 (by kernel_rfl) Rs.cellsK ⟨1,by simp [DataW.trod,Tryz.underlying9,z0]⟩ ⟨1,by simp [DataW.trod,Tryz.underlying9,z1]⟩
theorem Rs.weights_key {H : Type} (a b : List UInt8) : DataW.weights Tryz.prog 25 (.agg [.lit (.string a),.lit (.string b)] : DataW H) = [a.length,b.length] := by
  simp [DataW.weights,DataW.weightsEach,Tryz.underlying25]
theorem Rs.weights_key0 {H : Type} (a b : List UInt8) : a.length ∈ DataW.weights Tryz.prog 25 (.agg [.lit (.string a),.lit (.string b)] : DataW H) := by rw [Rs.weights_key]; simp
theorem Rs.weights_key1 {H : Type} (a b : List UInt8) : b.length ∈ DataW.weights Tryz.prog 25 (.agg [.lit (.string a),.lit (.string b)] : DataW H) := by rw [Rs.weights_key]; simp
end
section
open Go.RowKit
/-- A number behind j noughts. -/
def Rs.zp (j x : Nat) : ByteArray := Tx.ba (List.replicate j 0 ++ Nt.fm x)
theorem Rs.zp_size (j x : Nat) : (Rs.zp j x).size = j + Nt.by x := by
  show (List.replicate j (0 : UInt8) ++ Nt.fm x).length = _
  rw [List.length_append,List.length_replicate,Nt.fm_len]
theorem Rs.zp_zero (x : Nat) : (⟨(Nt.fm x).toArray⟩ : ByteArray) = Rs.zp 0 x := rfl
theorem Rs.zp_succ (j x : Nat) : (⟨#[0]⟩ : ByteArray) ++ Rs.zp j x = Rs.zp (j + 1) x := by
  have e : (⟨#[0]⟩ : ByteArray) = Tx.ba [0] := rfl
  unfold Rs.zp
  rw [e,Rs.ba_app,List.replicate_succ]
  rfl
theorem Rs.zp_pd (x n : Nat) : Rs.zp (n - Nt.by x) x = Nt.pd x n := by
  unfold Rs.zp Nt.pd
  rw [← Rs.ba_app,← Nt.rep_zeros]
  rfl
set_option maxHeartbeats 1000000 in
set_option maxRecDepth 100000 in
theorem Rs.padded_any (w : World) (av : Option Addr) (k c x N : Nat) (h : Rn.Num w av k c x) (hk : k ≤ 1000000) (hx : Nt.by x ≤ N) (hN : N ≤ 10000000) :
    Calls Tryz.prog 41 #[.slice av k c,.int .i64 (N : Int)] w fun e w' => e = .returned (.string (Nt.pd x N)) ∧ Below w.heap.size w w' := by
  have HF := Lib.hid (Rn.Form_any w av k c x h hk)
  rw [Rs.zp_zero] at HF
  clear h hk
  obtain ⟨Y,hY⟩ : ∃ Y,Nt.by x = Y := ⟨_,rfl⟩
  rw [hY] at hx
  have HY := Lib.hid hY
  clear hY
  obtain ⟨P,hP⟩ : ∃ P,Nt.pd x N = P := ⟨_,rfl⟩
  rw [hP]
  have HP := Lib.hid hP
  clear hP
  have hNz : (N : Int) ≤ 10000000 := by omega
  go_enter Tryz.func41,Tryz.ntmps41
  go_wp2_with fail
  go_at_call 67
  refine Calls.mono HF.out ?_
  rintro e1 w1 ⟨rfl,hb⟩
  have H1 := Lib.hid hb
  clear hb
  go_wp2_with fail
  go_loop [5] (fun v => ∃ j : Nat,j + Y ≤ N ∧ v = .string (Rs.zp j x)) (fun v => match v with | .string s => N - s.size | _ => 0)
  case atStart => exact ⟨0,by omega,rfl⟩
  case round =>
  obtain ⟨j,hj,rfl⟩ := hrel
  have hs := Rs.zp_size j x
  rw [HY.out] at hs
  have hn := Rs.zp_succ j x
  have hs2 := Rs.zp_size (j + 1) x
  rw [HY.out] at hs2
  have hp := Rs.zp_pd x N
  rw [HY.out,HP.out] at hp
  by_cases hlt : j + Y < N
  · obtain ⟨s,es⟩ : ∃ s,Rs.zp j x = s := ⟨_,rfl⟩
    obtain ⟨t,et⟩ : ∃ t,Rs.zp (j + 1) x = t := ⟨_,rfl⟩
    rw [es] at hs hn ⊢
    rw [et] at hn hs2
    have hsz : (s.size : Int) < (N : Int) := by omega
    have hsb : s.size ≤ 10000000 := by omega
    have HT := Lib.hid (And.intro et (And.intro hs hs2))
    clear es et hs hs2 hp
    go_wp2_with fail
    exact ⟨⟨j + 1,by omega,by rw [HT.out.1]⟩,by have := HT.out.2; show N - t.size < N - s.size; omega⟩
  · have hjn : j = N - Y := by omega
    rw [← hjn] at hp
    rw [hp] at hs ⊢
    have hsz : ¬ (P.size : Int) < (N : Int) := by omega
    clear hn hs2 hp hs
    go_wp2_with fail
    go_ret
    exact ⟨rfl,H1.out⟩
/-- What holds of the world while the reference opens. -/
structure Rs.OpS (w : World) (p : Nat) (n e : ByteArray) (an : Option Addr) (kn cn : Nat) (W : World) : Prop where
  c0 : W.cell? ⟨p,0,none⟩ = some (.string n)
  c1 : W.cell? ⟨p,1,none⟩ = some (.string e)
  n : Rn.Num W an kn cn (Nt.nv n)
  bel : Below w.heap.size w W
theorem Rs.OpS.below {w W W' : World} {p : Nat} {n e : ByteArray} {an : Option Addr} {kn cn : Nat} (h : Rs.OpS w p n e an kn cn W) (hb : Below W.heap.size W W') : Rs.OpS w p n e an kn cn W' :=
  ⟨(hb.cell (p := ⟨p,0,none⟩) (World.block_lt_of_cell? W _ h.c0)).trans h.c0,(hb.cell (p := ⟨p,1,none⟩) (World.block_lt_of_cell? W _ h.c1)).trans h.c1,h.n.below hb,h.bel.trans (hb.mono h.bel.size)⟩
theorem Rs.BoxS.start (w : World) (n e : ByteArray) : Rs.BoxS w w.heap.size n e (w.alloc (Obj.cells #[.string n,.string e] 25)) := ⟨by simp,by simp,(Below.refl _ _).alloc (Nat.le_refl _) _⟩
set_option maxHeartbeats 4000000 in
set_option maxRecDepth 100000 in
theorem Rs.ROpen_bad (w : World) (n e sig : ByteArray) (hR : ∀ W,Calls Tryz.prog 39 #[.agg #[.string n,.string e]] W fun r w' => r = .returned (.bool false) ∧ Below W.heap.size W w')  :
    Calls Tryz.prog 21 #[.agg #[.string n,.string e],.string sig] w fun r w' => r = .returned (.tuple #[.string ⟨#[]⟩,.int .i64 40]) ∧ Below w.heap.size w w' := by
  have HR := Lib.hid hR
  have HS := Lib.hid (Rs.BoxS.start w n e)
  clear hR
  go_enter Tryz.func21,Tryz.ntmps21
  go_wp2_with fail
  have S0 := HS.out
  clear HS
  revert S0
  generalize w.alloc (Obj.cells #[.string n,.string e] 25) = w1
  intro S0
  go_at_call 39
  refine Calls.mono (HR.out _) ?_
  rintro x w2 ⟨rfl,hb⟩
  have S2 := S0.below hb
  clear hb S0
  have HB := Lib.hid S2.bel
  clear S2
  go_wp2_with fail
  go_ret2
  exact ⟨rfl,HB.out⟩
set_option maxHeartbeats 4000000 in
set_option maxRecDepth 100000 in
theorem Rs.ROpen_size (w : World) (n e sig : ByteArray) (hR : ∀ W,Calls Tryz.prog 39 #[.agg #[.string n,.string e]] W fun r w' => r = .returned (.bool true) ∧ Below W.heap.size W w') (hn : n.size ≤ 4000) (hz : sig.size ≠ n.size) :
    Calls Tryz.prog 21 #[.agg #[.string n,.string e],.string sig] w fun r w' => r = .returned (.tuple #[.string ⟨#[]⟩,.int .i64 41]) ∧ Below w.heap.size w w' := by
  have hzz : ((sig.size : Int) != (n.size : Int)) = true := by
    rw [bne_iff_ne]
    omega
  have hzz2 : ¬ (sig.size : Int) = (n.size : Int) := by omega
  clear hz
  have HR := Lib.hid hR
  have HS := Lib.hid (Rs.BoxS.start w n e)
  clear hR
  go_enter Tryz.func21,Tryz.ntmps21
  go_wp2_with fail
  have S0 := HS.out
  clear HS
  revert S0
  generalize w.alloc (Obj.cells #[.string n,.string e] 25) = w1
  intro S0
  go_at_call 39
  refine Calls.mono (HR.out _) ?_
  rintro x w2 ⟨rfl,hb⟩
  have S2 := S0.below hb
  clear hb S0
  have c0 := S2.c0
  have c1 := S2.c1
  have H2 := Lib.hid S2
  clear S2
  go_wp2_with fail
  go_at_call 24
  refine Calls.mono (Rn.Of_any w2 n (Nat.le_trans hn (by decide))) ?_
  rintro x w3 ⟨an,kn,cn,rfl,hN,hb⟩
  have S3b := H2.out.below hb
  have S3 : Rs.OpS w w.heap.size n e an kn cn w3 := ⟨S3b.c0,S3b.c1,hN,S3b.bel⟩
  clear hN hb c0 c1 S3b
  have c0 := S3.c0
  have H3 := Lib.hid S3
  clear S3
  go_wp2_with fail
  go_ret2
  exact ⟨rfl,H3.out.bel⟩
set_option maxHeartbeats 4000000 in
set_option maxRecDepth 100000 in
theorem Rs.ROpen_value (w : World) (n e sig : ByteArray) (hR : ∀ W,Calls Tryz.prog 39 #[.agg #[.string n,.string e]] W fun r w' => r = .returned (.bool true) ∧ Below W.heap.size W w') (hn : n.size ≤ 4000) (hz : sig.size = n.size) (hv : Nt.nv n ≤ Nt.nv sig) :
    Calls Tryz.prog 21 #[.agg #[.string n,.string e],.string sig] w fun r w' => r = .returned (.tuple #[.string ⟨#[]⟩,.int .i64 41]) ∧ Below w.heap.size w w' := by
  have hzz : (sig.size : Int) = (n.size : Int) := by omega
  have hs : sig.size ≤ 4000 := by omega
  obtain ⟨r,hr⟩ : ∃ r,Nt.cmp (Nt.nv sig) (Nt.nv n) = r := ⟨_,rfl⟩
  have hr0 : 0 ≤ r := by
    rw [← hr]
    unfold Nt.cmp
    rw [if_neg (by omega)]
    split <;> decide
  have HC := Lib.hid (And.intro hr True.intro)
  clear hz hv hr
  have HR := Lib.hid hR
  have HS := Lib.hid (Rs.BoxS.start w n e)
  clear hR
  go_enter Tryz.func21,Tryz.ntmps21
  go_wp2_with fail
  have S0 := HS.out
  clear HS
  revert S0
  generalize w.alloc (Obj.cells #[.string n,.string e] 25) = w1
  intro S0
  go_at_call 39
  refine Calls.mono (HR.out _) ?_
  rintro x w2 ⟨rfl,hb⟩
  have S2 := S0.below hb
  clear hb S0
  have c0 := S2.c0
  have c1 := S2.c1
  have H2 := Lib.hid S2
  clear S2
  go_wp2_with fail
  go_at_call 24
  refine Calls.mono (Rn.Of_any w2 n (Nat.le_trans hn (by decide))) ?_
  rintro x w3 ⟨an,kn,cn,rfl,hN,hb⟩
  have S3b := H2.out.below hb
  have S3 : Rs.OpS w w.heap.size n e an kn cn w3 := ⟨S3b.c0,S3b.c1,hN,S3b.bel⟩
  clear hN hb c0 c1 S3b
  have c0 := S3.c0
  have H3 := Lib.hid S3
  clear S3
  go_wp2_with fail
  go_at_call 24
  refine Calls.mono (Rn.Of_any w3 sig (Nat.le_trans hs (by decide))) ?_
  rintro x w4 ⟨av,kv,cv,rfl,hV,hb⟩
  have H4 := Lib.hid (And.intro (H3.out.below hb) hV)
  have kb1 : kv ≤ 2000 := hV.bytes 2000 sig.size (Nt.nv_lt sig) (by omega)
  have kb2 : kn ≤ 2000 := H3.out.n.bytes 2000 n.size (Nt.nv_lt n) (by omega)
  clear hV hb c0
  go_wp2_with fail
  go_at_call 40
  have hc := Rn.Cmp_any w4 av an kv cv _ kn cn _ H4.out.2 H4.out.1.n (by omega) (by omega)
  rw [HC.out.1] at hc
  refine Calls.mono hc ?_
  rintro x w5 ⟨rfl,j5,hw5⟩
  have S5 : Rs.OpS w w.heap.size n e an kn cn w5 := by rw [hw5]; exact H4.out.1.below (Rn.beyond2 _ j5)
  clear hw5
  have HB := Lib.hid S5.bel
  clear S5
  go_wp2_with fail
  go_ret2
  exact ⟨rfl,HB.out⟩
set_option maxHeartbeats 4000000 in
set_option maxRecDepth 100000 in
theorem Rs.ROpen_ok (w : World) (n e sig : ByteArray) (hR : ∀ W,Calls Tryz.prog 39 #[.agg #[.string n,.string e]] W fun r w' => r = .returned (.bool true) ∧ Below W.heap.size W w') (hn : n.size ≤ 4000) (he : e.size ≤ 4000) (hz : sig.size = n.size) (hv : Nt.nv sig < Nt.nv n) :
    Calls Tryz.prog 21 #[.agg #[.string n,.string e],.string sig] w fun r w' => r = .returned (.tuple #[.string (Rs.opened n e sig),.int .i64 0]) ∧ Below w.heap.size w w' := by
  have hzz : (sig.size : Int) = (n.size : Int) := by omega
  have hs : sig.size ≤ 4000 := by omega
  obtain ⟨r,hr⟩ : ∃ r,Nt.cmp (Nt.nv sig) (Nt.nv n) = r := ⟨_,rfl⟩
  have hr0 : ¬ 0 ≤ r := by
    rw [← hr]
    unfold Nt.cmp
    rw [if_pos hv]
    decide
  have HC := Lib.hid (And.intro hr (show 0 < Nt.nv n by omega))
  clear hz hv hr
  unfold Rs.opened
  have HR := Lib.hid hR
  have HS := Lib.hid (Rs.BoxS.start w n e)
  clear hR
  go_enter Tryz.func21,Tryz.ntmps21
  go_wp2_with fail
  have S0 := HS.out
  clear HS
  revert S0
  generalize w.alloc (Obj.cells #[.string n,.string e] 25) = w1
  intro S0
  go_at_call 39
  refine Calls.mono (HR.out _) ?_
  rintro x w2 ⟨rfl,hb⟩
  have S2 := S0.below hb
  clear hb S0
  have c0 := S2.c0
  have c1 := S2.c1
  have H2 := Lib.hid S2
  clear S2
  go_wp2_with fail
  go_at_call 24
  refine Calls.mono (Rn.Of_any w2 n (Nat.le_trans hn (by decide))) ?_
  rintro x w3 ⟨an,kn,cn,rfl,hN,hb⟩
  have S3b := H2.out.below hb
  have S3 : Rs.OpS w w.heap.size n e an kn cn w3 := ⟨S3b.c0,S3b.c1,hN,S3b.bel⟩
  clear hN hb c0 c1 S3b
  have c0 := S3.c0
  have H3 := Lib.hid S3
  clear S3
  go_wp2_with fail
  go_at_call 24
  refine Calls.mono (Rn.Of_any w3 sig (Nat.le_trans hs (by decide))) ?_
  rintro x w4 ⟨av,kv,cv,rfl,hV,hb⟩
  have H4 := Lib.hid (And.intro (H3.out.below hb) hV)
  have kb1 : kv ≤ 2000 := hV.bytes 2000 sig.size (Nt.nv_lt sig) (by omega)
  have kb2 : kn ≤ 2000 := H3.out.n.bytes 2000 n.size (Nt.nv_lt n) (by omega)
  clear hV hb c0
  go_wp2_with fail
  go_at_call 40
  have hc := Rn.Cmp_any w4 av an kv cv _ kn cn _ H4.out.2 H4.out.1.n (by omega) (by omega)
  rw [HC.out.1] at hc
  refine Calls.mono hc ?_
  rintro x w5 ⟨rfl,j5,hw5⟩
  have S5 : Rs.OpS w w.heap.size n e an kn cn w5 := by rw [hw5]; exact H4.out.1.below (Rn.beyond2 _ j5)
  clear hw5
  go_wp2_with fail
  refine wp_region_held_drew (S := fun W => Rs.OpS w w.heap.size n e an kn cn W) (by kernel_rfl) (S5.below (below_drewN (Below.refl _ _) 1)) (fun hHeld0 => ?_)
  clear S5
  refine wpAnyH_take (i := 0) (oi := ⟨_,_,_,_,_,_⟩) (v := ?vg2_1) rfl (by kernel_rfl) (by kernel_rfl) (by kernel_rfl) (fun _ _ _ h => h) (Or.inl ⟨by rfl,?hyg2_1⟩) (by assumption) ?restg2_1
  case hyg2_1 => (intro W hW; go_simp; try with_reducible rfl)
  try simp only [Act.put,List.setIfInBounds_toArray,List.set_cons_zero,List.set_cons_succ]
  refine wpAnyH_take (i := 2) (oi := ⟨_,_,_,_,_,_⟩) (v := ?vg2_2) rfl (by kernel_rfl) (by kernel_rfl) (by kernel_rfl) (fun _ _ _ h => h) (Or.inl ⟨by rfl,?hyg2_2⟩) (by assumption) ?restg2_2
  case hyg2_2 => (intro W hW; go_simp; try with_reducible rfl)
  try simp only [Act.put,List.setIfInBounds_toArray,List.set_cons_zero,List.set_cons_succ]
  refine wpAnyH_take (i := 3) (oi := ⟨_,_,_,_,_,_⟩) (v := .string e) rfl (by kernel_rfl) (by kernel_rfl) (by kernel_rfl) (fun _ _ _ h => h) (Or.inl ⟨by rfl,fun W hW => (by have c1 := hW.c1; go_simp)⟩) (by assumption) ?restg2_3
  try simp only [Act.put,List.setIfInBounds_toArray,List.set_cons_zero,List.set_cons_succ]
  refine wpAnyH_take (i := 5) (oi := ⟨_,_,_,_,_,_⟩) (v := ?vg2_4) rfl (by kernel_rfl) (by kernel_rfl) (by kernel_rfl) (fun _ _ _ h => h) (Or.inl ⟨by rfl,?hyg2_4⟩) (by assumption) ?restg2_4
  case hyg2_4 => (intro W hW; go_simp; try with_reducible rfl)
  try simp only [Act.put,List.setIfInBounds_toArray,List.set_cons_zero,List.set_cons_succ]
  refine wpAnyH_take (i := 7) (oi := ⟨_,_,_,_,_,_⟩) (v := ?vg2_5) rfl (by kernel_rfl) (by kernel_rfl) (by kernel_rfl) (fun _ _ _ h => h) (Or.inl ⟨by rfl,?hyg2_5⟩) (by assumption) ?restg2_5
  case hyg2_5 => (intro W hW; go_simp; try with_reducible rfl)
  try simp only [Act.put,List.setIfInBounds_toArray,List.set_cons_zero,List.set_cons_succ]
  refine wpAnyH_take (i := 8) (oi := ⟨_,_,_,_,_,_⟩) (v := .string n) rfl (by kernel_rfl) (by kernel_rfl) (by kernel_rfl) (fun _ _ _ h => h) (Or.inl ⟨by rfl,fun W hW => (by have c0 := hW.c0; go_simp)⟩) (by assumption) ?restg2_6
  try simp only [Act.put,List.setIfInBounds_toArray,List.set_cons_zero,List.set_cons_succ]
  refine wpAnyH_take (i := 9) (oi := ⟨_,_,_,_,_,_⟩) (v := ?vg2_7) rfl (by kernel_rfl) (by kernel_rfl) (by kernel_rfl) (fun _ _ _ h => h) (Or.inl ⟨by rfl,?hyg2_7⟩) (by assumption) ?restg2_7
  case hyg2_7 => (intro W hW; go_simp; try with_reducible rfl)
  try simp only [Act.put,List.setIfInBounds_toArray,List.set_cons_zero,List.set_cons_succ]
  refine wpAnyH_ready (rs := [1]) (by kernel_rfl) (by simp) ?_
  refine AllReadyH.cons (o := ⟨_,_,_,_,_,_⟩) rfl (fun K hK => ?_) AllReadyH.nil
  go_simp
  refine Calls.mono (Rn.Of_any _ sig (Nat.le_trans hs (by decide))) ?_
  rintro x w6 ⟨a6,k6,c6,rfl,hN6,hb⟩
  have T6 := hHeld0.below hb
  clear hb
  go_wp2_with fail
  refine hK.out _ _ (T6) (fun hHeld1 => ?_)
  clear hK K hHeld0
  try simp only [Act.put,List.setIfInBounds_toArray,List.set_cons_zero,List.set_cons_succ]
  refine wpAnyH_ready (rs := [4]) (by kernel_rfl) (by simp) ?_
  refine AllReadyH.cons (o := ⟨_,_,_,_,_,_⟩) rfl (fun K hK => ?_) AllReadyH.nil
  go_simp
  refine Calls.mono (Rn.Of_any _ e (Nat.le_trans he (by decide))) ?_
  rintro x w7 ⟨a7,k7,c7,rfl,hN7,hb⟩
  have T7 := hHeld1.below hb
  have hN6b := hN6.below hb
  clear hb hN6
  go_wp2_with fail
  refine hK.out _ _ (T7) (fun hHeld2 => ?_)
  clear hK K hHeld1
  try simp only [Act.put,List.setIfInBounds_toArray,List.set_cons_zero,List.set_cons_succ]
  have k6b : k6 ≤ 2000 := hN6b.bytes 2000 sig.size (Nt.nv_lt sig) (by omega)
  have k7b : k7 ≤ 2000 := hN7.bytes 2000 e.size (Nt.nv_lt e) (by omega)
  refine wpAnyH_ready (rs := [6]) (by kernel_rfl) (by simp) ?_
  refine AllReadyH.cons (o := ⟨_,_,_,_,_,_⟩) rfl (fun K hK => ?_) AllReadyH.nil
  go_simp
  refine Calls.mono (Rn.Pow_any w7 a6 a7 an k6 c6 _ k7 c7 _ kn cn _ hN6b hN7 hHeld2.n (by omega) (by omega) (by omega) HC.out.2) ?_
  rintro x w8 ⟨a8,k8,c8,rfl,hN8,hb⟩
  have k8b := hN8.mod hHeld2.n HC.out.2
  have T8 := hHeld2.below hb
  clear hb
  go_wp2_with fail
  refine hK.out _ _ (T8) (fun hHeld3 => ?_)
  clear hK K hHeld2
  try simp only [Act.put,List.setIfInBounds_toArray,List.set_cons_zero,List.set_cons_succ]
  refine wpAnyH_ready (rs := [10]) (by kernel_rfl) (by simp) ?_
  refine AllReadyH.cons (o := ⟨_,_,_,_,_,_⟩) rfl (fun K hK => ?_) AllReadyH.nil
  go_simp
  refine Calls.mono (Rs.padded_any w8 a8 k8 c8 _ n.size hN8 (by omega) (Nt.by_le _ _ (Nat.lt_trans (Nat.mod_lt _ HC.out.2) (Nt.nv_lt n))) (by omega)) ?_
  rintro x w9 ⟨rfl,hb⟩
  have T9 := hHeld3.below hb
  clear hb
  go_wp2_with fail
  refine hK.out _ _ (T9) (fun hHeld4 => ?_)
  clear hK K hHeld3
  try simp only [Act.put,List.setIfInBounds_toArray,List.set_cons_zero,List.set_cons_succ]
  refine wpAnyH_take (i := 11) (oi := ⟨_,_,_,_,_,_⟩) (v := ?vg2_8) rfl (by kernel_rfl) (by kernel_rfl) (by kernel_rfl) (fun _ _ _ h => h) (Or.inl ⟨by rfl,?hyg2_8⟩) (by assumption) ?restg2_8
  case hyg2_8 => (intro W hW; go_simp; try with_reducible rfl)
  try simp only [Act.put,List.setIfInBounds_toArray,List.set_cons_zero,List.set_cons_succ]
  refine wpAnyH_take (i := 12) (oi := ⟨_,_,_,_,_,_⟩) (v := ?vg2_9) rfl (by kernel_rfl) (by kernel_rfl) (by kernel_rfl) (fun _ _ _ h => h) (Or.inl ⟨by rfl,?hyg2_9⟩) (by assumption) ?restg2_9
  case hyg2_9 => (intro W hW; go_simp; try with_reducible rfl)
  try simp only [Act.put,List.setIfInBounds_toArray,List.set_cons_zero,List.set_cons_succ]
  refine wpAnyH_done (by kernel_rfl) ?_ _
  have HB := Lib.hid hHeld4.bel
  go_wp2_with fail
  go_ret2
  exact ⟨rfl,HB.out⟩
namespace lwOpens
end lwOpens
end
end Go.Proofs.YthlecdggkolgmaaGreatDoor
