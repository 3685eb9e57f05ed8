/- The reference: Times. -/
import Derived.Test.YthlecdggkolgmaaGreatDoorRnF
namespace Go.Proofs.YthlecdggkolgmaaGreatDoor
section
section
open Go.RowKit
end
section
open Go.RowKit
theorem Rn.beyond {g : Nat} {w wr : World} (h : Below g w wr) : ∀ k,Below g w (wr.drewN k)
  | 0 => h
  | k + 1 => (Rn.beyond h k).drew
end
end
section
open Go.RowKit
set_option maxHeartbeats 4000000 in
set_option maxRecDepth 100000 in
theorem Rn.Times_any (w : World) (ax ay : Option Addr) (n cx x m cy y : Nat) (hx : Rn.Num w ax n cx x) (hy : Rn.Num w ay m cy y) (hn : n ≤ 400000) (hm : m ≤ 400000) :
    Calls Tryz.prog 69 #[.slice ax n cx,.slice ay m cy] w fun e w' => ∃ av k c,e = .returned (.slice av k c) ∧ Rn.Num w' av k c (x * y) ∧ Below w.heap.size w w' := by
  obtain ⟨_,bx,ox,fx,hLx,dfx,hvx,_⟩ := hx
  obtain ⟨_,b',oy,fy,hLy,dfy,hvy,_⟩ := hy
  obtain ⟨N1,hN1⟩ : ∃ N1,n + m = N1 := ⟨_,rfl⟩
  obtain ⟨N,hN⟩ : ∃ N,N1 + 1 = N := ⟨_,rfl⟩
  have hN1z : (n : Int) + (m : Int) = (N1 : Int) := by omega
  have hNz : (N1 : Int) + 1 = (N : Int) := by omega
  have hN1b : (N1 : Int) ≤ 800000 := by omega
  have hNb : (N : Int) ≤ 800001 := by omega
  have hNb2 : N ≤ 1000000 := by omega
  have H0 := Lib.hid (And.intro hLx (And.intro hLy (And.intro dfx (And.intro dfy (And.intro hvx (And.intro hvy (And.intro hN1 hN)))))))
  clear hLx hLy dfx dfy hvx hvy hN1 hN
  go_enter Tryz.func69,Tryz.ntmps69
  go_upto_region 2 with (at_make; refine Rn.wpList_make rfl _ _ rfl N rfl rfl hNb2 ?_)
  have hL0 : Rn.Lim (w.alloc (Obj.cells (Array.replicate N (Value.int IntKind.u64 0)) 76)) w.heap.size 0 N (fun _ => 0) := by
    refine Rn.Lim.ofRow (T := 76) (l := List.replicate N (Value.int .u64 0)) ?_ (fun j hj => ?_) (fun _ => by decide)
    · rw [heap_alloc_new]; simp
    · rw [List.getElem?_replicate,if_pos hj]; rfl
  have hb0 := (Below.refl w.heap.size w).alloc (Nat.le_refl _) (Obj.cells (Array.replicate N (Value.int IntKind.u64 0)) 76)
  obtain ⟨g,hg⟩ : ∃ g,w.heap.size = g := ⟨_,rfl⟩
  revert hL0 hb0
  generalize w.alloc (Obj.cells (Array.replicate N (Value.int IntKind.u64 0)) 76) = w1
  rw [hg]
  intro hL0 hb0
  have HG := Lib.hid (And.intro hg (And.intro hL0 hb0))
  clear hg hL0 hb0
  go_wp2_with fail
  go_loopw [6] (fun iv wr => ∃ (i : Nat) (fo : Nat → Nat),i ≤ n ∧ iv = .int .i64 (i : Int) ∧ Vl.val 65536 fo N = Vl.val 65536 fx i * Vl.val 65536 fy m ∧ Rn.Lim wr g 0 N fo ∧ (∀ j,i + m ≤ j → fo j = 0) ∧ Below g w wr) (fun iv _ => n - (intOf iv).toNat)
  case atStart => exact ⟨0,_,Nat.zero_le _,rfl,by rw [Vl.val_zero _ _ _ (fun _ _ => rfl)]; simp [Vl.val],HG.out.2.1,fun _ _ => rfl,HG.out.2.2⟩
  case round =>
  obtain ⟨i,fo,hi,rfl,hv,hLo,hzo,hB⟩ := hrel
  obtain ⟨w2,rfl⟩ : ∃ w2,w2 = wr := ⟨_,rfl⟩
  by_cases hlt : i < n
  · have hiz : (i : Int) < (n : Int) := by omega
    have hi0 : 0 ≤ (i : Int) := by omega
    obtain ⟨rfl,hLX⟩ := H0.out.1 (by omega)
    have hbx : bx < g := by rw [← HG.out.1]; exact hLX.lt
    have HV := Lib.hid (And.intro hv (And.intro hLo (And.intro hzo hB)))
    clear hv hLo hzo hB
    go_wp2_with fail
    go_loopw [7,8] (fun cv kv wr => ∃ (k c : Nat) (fo : Nat → Nat),k ≤ m ∧ kv = .int .i64 (k : Int) ∧ cv = .int .u64 (c : Int) ∧ c < 65536 ∧ Vl.val 65536 fo N + c * 65536 ^ (i + k) = Vl.val 65536 fx i * Vl.val 65536 fy m + fx i * Vl.val 65536 fy k * 65536 ^ i ∧ Rn.Lim wr g 0 N fo ∧ (∀ j,i + m ≤ j → fo j = 0) ∧ Below g w wr) (fun _ kv _ => m - (intOf kv).toNat)
    case atStart => exact ⟨0,0,fo,Nat.zero_le _,rfl,rfl,by decide,by simp [Vl.val,HV.out.1],HV.out.2.1,HV.out.2.2.1,HV.out.2.2.2⟩
    case round =>
    clear HV
    obtain ⟨k,c,fo,hk,rfl,rfl,hc,hv,hLo,hzo,hB⟩ := hrel
    obtain ⟨w3,rfl⟩ : ∃ w3,w3 = wr := ⟨_,rfl⟩
    have hall := H0.out
    obtain ⟨p,hp⟩ : ∃ p,i + k = p := ⟨_,rfl⟩
    have hpN : p < N := by omega
    have ep : (i : Int) + (k : Int) = (p : Int) := by omega
    have ep0 : 0 ≤ (p : Int) := by omega
    have epN : (p : Int) < (N : Int) := by omega
    have epb : (p : Int) ≤ 800000 := by omega
    have ho := hLo.dig p
    have hib : (i : Int) ≤ 400000 := by omega
    have hkb : (k : Int) ≤ 400000 := by omega
    by_cases hkl : k < m
    · have hkz : (k : Int) < (m : Int) := by omega
      have hk0 : 0 ≤ (k : Int) := by omega
      obtain ⟨rfl,hLY⟩ := hall.2.1 (by omega)
      have hby : b' < g := by rw [← HG.out.1]; exact hLY.lt
      have cx := (hLX.below hB hbx).cell i hlt
      have cy := (hLY.below hB hby).cell k hkl
      have co := hLo.cell p hpN
      have dx := hall.2.2.1 i
      have dy := hall.2.2.2.1 k
      have hstep := Vl.mul_step 65536 fo N i k c (fx i) (fy k) (Vl.val 65536 fy k) (Vl.val 65536 fx i * Vl.val 65536 fy m) (by rw [hp]; exact hpN) hv
      rw [hp] at hstep
      obtain ⟨x',hxx⟩ : ∃ x',fx i = x' := ⟨_,rfl⟩
      obtain ⟨y',hyy⟩ : ∃ y',fy k = y' := ⟨_,rfl⟩
      obtain ⟨o,hoo⟩ : ∃ o,fo p = o := ⟨_,rfl⟩
      have hvk : Vl.val 65536 fy k + y' * 65536 ^ k = Vl.val 65536 fy (k + 1) := by rw [← hyy]; rfl
      rw [hxx,hyy,hoo,hvk] at hstep
      rw [hxx] at cx dx
      rw [hyy] at cy dy
      rw [hoo,Nat.zero_add] at co
      rw [hoo] at ho
      have hm0 : x' * y' ≤ 65535 * 65535 := Nat.mul_le_mul (by omega) (by omega)
      have r1 : (x' : Int) * (y' : Int) = ((x' * y' : Nat) : Int) := by simp
      obtain ⟨q,hq⟩ : ∃ q,x' * y' = q := ⟨_,rfl⟩
      rw [hq] at hm0 r1 hstep
      obtain ⟨t,ht⟩ : ∃ t,c + (o + q) = t := ⟨_,rfl⟩
      rw [ht] at hstep
      obtain ⟨s,hs⟩ : ∃ s,o + q = s := ⟨_,rfl⟩
      have r2 : (o : Int) + (q : Int) = (s : Int) := by omega
      have r3 : (c : Int) + (s : Int) = (t : Int) := by omega
      have r1w : IntKind.u64.wrap ((x' : Int) * (y' : Int)) = (q : Int) := by rw [r1,IntWalk.u64_in _ (by omega)]
      have r2w : IntKind.u64.wrap ((o : Int) + (q : Int)) = (s : Int) := by rw [IntWalk.u64_in _ (by omega)]; omega
      have r3w : IntKind.u64.wrap ((c : Int) + (s : Int)) = (t : Int) := by rw [IntWalk.u64_in _ (by omega)]; omega
      have htb : t < 4294967296 := by omega
      have r4 : (t : Int) % 65536 = ((t % 65536 : Nat) : Int) := by omega
      have r5 : (t : Int) / 65536 = ((t / 65536 : Nat) : Int) := by omega
      obtain ⟨d,hd⟩ : ∃ d,t % 65536 = d := ⟨_,rfl⟩
      obtain ⟨c',hc'⟩ : ∃ c',t / 65536 = c' := ⟨_,rfl⟩
      rw [hd] at r4 hstep
      rw [hc'] at r5 hstep
      have hd2 : d < 65536 := by omega
      have hc2 : c' < 65536 := by omega
      have HST := Lib.hid (show Vl.val 65536 (Vl.upd fo p d) N + c' * 65536 ^ (i + (k + 1)) = Vl.val 65536 fx i * Vl.val 65536 fy m + fx i * Vl.val 65536 fy (k + 1) * 65536 ^ i by rw [hxx,← Nat.add_assoc,hp]; exact hstep)
      have HP := Lib.hid (And.intro hp (And.intro hzo (And.intro hLo hB)))
      clear hstep hvk hxx hyy hoo hq ht hs hd hc' hp hm0 hv hzo hall hLo hB hLY
      go_wp2_with fail
      go_quiet (fail)
      generalize hw4 : w3.drewN nq = w4
      have hLo2 : Rn.Lim w4 g 0 N fo := by rw [← hw4]; exact HP.out.2.2.1.drewN _
      have hB2 : Below g w w4 := by rw [← hw4]; exact Rn.beyond HP.out.2.2.2 _
      have co2 := hLo2.cell p hpN
      have ro2 := hLo2.fro p hpN
      rw [Nat.zero_add] at co2 ro2
      have hLs := hLo2.set p d hpN hd2
      have hBs := hB2.setCell (p := ⟨g,p,none⟩) (Nat.le_refl _) (.int .u64 (d : Int))
      rw [Nat.zero_add] at hLs
      have HL := Lib.hid (And.intro hLs hBs)
      clear hLo2 hB2 hLs hBs hw4 cx cy co
      go_wp2_with fail
      exact ⟨⟨k + 1,c',_,by omega,by go_num,rfl,hc2,HST.out,HL.out.1,fun j hj => by unfold Vl.upd; rw [if_neg (by have := HP.out.1; omega)]; exact HP.out.2.1 j hj,HL.out.2⟩,by simp [intOf]; omega⟩
    · have hkm : k = m := by omega
      have hkz : ¬ (k : Int) < (m : Int) := by omega
      have epm : (i : Int) + (m : Int) = (p : Int) := by omega
      have co := hLo.cell p hpN
      have ro := hLo.fro p hpN
      have hz := hzo p (by omega)
      rw [Nat.zero_add] at co ro
      rw [hz] at co
      have hu := Vl.val_upd 65536 fo p c N hpN
      rw [hz,Nat.zero_mul,Nat.add_zero] at hu
      rw [hp,← hu] at hv
      have hfin : Vl.val 65536 (Vl.upd fo p c) N = Vl.val 65536 fx (i + 1) * Vl.val 65536 fy m := by
        rw [hv,Vl.val,Nat.add_mul,hkm,Nat.mul_right_comm]
      have hLs := hLo.set p c hpN hc
      have hBs := hB.setCell (p := ⟨g,p,none⟩) (Nat.le_refl _) (.int .u64 (c : Int))
      rw [Nat.zero_add] at hLs
      have HL := Lib.hid (And.intro hLs (And.intro hBs (And.intro hfin (And.intro hzo hp))))
      have kc : IntKind.u64.wrap (c : Int) = (c : Int) := Rn.u64_eq _ _ rfl (by omega)
      clear hLs hBs hfin hu hv hz hp hzo hLo hB hall
      go_wp2_with fail
      exact ⟨⟨i + 1,_,by omega,by go_num,HL.out.2.2.1,HL.out.1,fun j hj => by unfold Vl.upd; rw [if_neg (by have := HL.out.2.2.2.2; omega)]; exact HL.out.2.2.2.1 j (by omega),HL.out.2.1⟩,by simp [intOf]; omega⟩
  · have hie : i = n := by omega
    have hiz : ¬ (i : Int) < (n : Int) := by omega
    have HT := Lib.hid (And.intro (Rn.trim_wide w2 g 0 N N fo hLo (Nat.le_refl _) (by omega) (by omega)) (And.intro hLo (And.intro hB (by rw [hv,hie,H0.out.2.2.2.2.1,H0.out.2.2.2.2.2.1] : Vl.val 65536 fo N = x * y))))
    clear hLo hv hB hie hzo
    go_wp2_with (go_at_call 45; refine Calls.mono HT.out.1 ?_; rintro e1 w4 ⟨rfl,k,rfl,hk,hz,ht⟩; have HZ := Lib.hid (And.intro hk (And.intro hz ht)); clear hk hz ht)
    go_ret
    refine ⟨_,_,_,rfl,?_,HT.out.2.2.1.mono (Nat.le_of_eq HG.out.1)⟩
    rw [← HT.out.2.2.2]
    exact Rn.Num.of HT.out.2.1 HZ.out.1 HZ.out.1 HZ.out.2.1 HZ.out.2.2
end
end Go.Proofs.YthlecdggkolgmaaGreatDoor
