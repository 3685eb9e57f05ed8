/- The reference: half. -/
import Derived.Test.YtccbnpondlncpaaGreatDoorRnN
import Derived.StillTailTactics
namespace Go.Proofs.YtccbnpondlncpaaGreatDoor
open Go.RowKit
theorem Rn.half_dg (x i : Nat) : Rn.dg x i / 2 + 32768 * (Rn.dg x (i + 1) % 2) = Rn.dg (x / 2) i := by
  unfold Rn.dg
  have h1 : x / 2 / 65536 ^ i = x / 65536 ^ i / 2 := by rw [Nat.div_div_eq_div_mul, Nat.div_div_eq_div_mul, Nat.mul_comm]
  have h2 : x / 65536 ^ (i + 1) = x / 65536 ^ i / 65536 := by rw [Nat.pow_succ, Nat.div_div_eq_div_mul]
  rw [h1, h2]
  generalize x / 65536 ^ i = X
  omega
set_option maxHeartbeats 1000000 in
set_option maxRecDepth 100000 in
theorem Rn.half_any (w : World) (ax : Option Addr) (n cx x : Nat) (hx : Rn.Num w ax n cx x) (hn : n ≤ 100000) :
    Calls Tryz.prog 50 #[.slice ax n cx] w fun e w' => ∃ av k c, e = .returned (.slice av k c) ∧ Rn.Num w' av k c (x / 2) ∧ Below w.heap.size w w' := by
  obtain ⟨_, bx, ox, fx, hLx, dfx, hvx, _⟩ := id hx
  have hxn := hx.lt
  have hnb : (n : Int) ≤ 100000 := by omega
  have hN2 : n ≤ 1000000 := by omega
  have H0 := Lib.hid (And.intro hx (And.intro hLx (And.intro dfx (And.intro hvx hxn))))
  clear hx hLx dfx hvx hxn
  go_enter Tryz.func50, Tryz.ntmps50
  go_upto_region 2 with (at_make; refine Rn.wpList_make rfl _ _ rfl n rfl rfl hN2 ?_)
  have hL0 : Rn.Lim (w.alloc (Obj.cells (Array.replicate n (Value.int IntKind.u64 0)) 47)) w.heap.size 0 n (fun _ => 0) := by
    refine Rn.Lim.ofRow (T := 47) (l := List.replicate n (Value.int .u64 0)) ?_ (fun j hj => ?_) (fun _ => by decide)
    · rw [heap_alloc_new]; simp
    · rw [List.getElem?_replicate, if_pos hj]; rfl
  have hb0 := (Below.refl w.heap.size w).alloc (Nat.le_refl _) (Obj.cells (Array.replicate n (Value.int IntKind.u64 0)) 47)
  obtain ⟨g, hg⟩ : ∃ g, w.heap.size = g := ⟨_, rfl⟩
  revert hL0 hb0
  generalize w.alloc (Obj.cells (Array.replicate n (Value.int IntKind.u64 0)) 47) = w1
  rw [hg]
  intro hL0 hb0
  have HG := Lib.hid (And.intro hg (And.intro hL0 hb0))
  clear hg hL0 hb0
  go_wp2_with fail
  go_loopw [4] (fun iv wr => ∃ (i : Nat) (fo : Nat → Nat), i ≤ n ∧ iv = .int .i64 (i : Int) ∧ (∀ j, j < i → fo j = Rn.dg (x / 2) j) ∧ Rn.Lim wr g 0 n fo ∧ Below g w wr) (fun iv _ => n - (intOf iv).toNat)
  case atStart => exact ⟨0, _, Nat.zero_le _, rfl, fun j h => by omega, HG.out.2.1, HG.out.2.2⟩
  case round =>
  obtain ⟨i, fo, hi, rfl, hz, hLo, hB⟩ := hrel
  obtain ⟨w2, rfl⟩ : ∃ w2, w2 = wr := ⟨_, rfl⟩
  by_cases hlt : i < n
  · have hiz : (i : Int) < (n : Int) := by omega
    have hi0 : 0 ≤ (i : Int) := by omega
    have hib : (i : Int) ≤ 100000 := by omega
    obtain ⟨rfl, hLX⟩ := H0.out.2.1 (by omega)
    have hbx : bx < g := by rw [← HG.out.1]; exact hLX.lt
    have hX : Rn.Num w2 _ n cx x := H0.out.1.below (by rw [HG.out.1]; exact hB)
    have hLX2 := hLX.below hB hbx
    have hd := Rn.half_dg x i
    have hfd : fx i = Rn.dg x i := by rw [← H0.out.2.2.2.1, Rn.dg_val fx H0.out.2.2.1 n i hlt]
    obtain ⟨u, eu⟩ : ∃ u, Rn.dg x i = u := ⟨_, rfl⟩
    obtain ⟨v, ev⟩ : ∃ v, Rn.dg x (i + 1) = v := ⟨_, rfl⟩
    obtain ⟨y, ey⟩ : ∃ y, Rn.dg (x / 2) i = y := ⟨_, rfl⟩
    have hub : u < 65536 := by rw [← eu]; exact Rn.dg_lt _ _
    have hyb : y < 65536 := by rw [← ey]; exact Rn.dg_lt _ _
    rw [eu, ev, ey] at hd
    have ci := fun k => ((hLX2.drewN k).cell i hlt)
    rw [hfd, eu] at ci
    obtain ⟨p, hp⟩ : ∃ p, i + 1 = p := ⟨_, rfl⟩
    have hpz : (i : Int) + 1 = (p : Int) := by omega
    have hpb : (p : Int) ≤ 100001 := by omega
    have hpw : IntKind.i64.wrap (p : Int) = (p : Int) := by rw [IntWalk.i64_in _ (by omega)]
    obtain ⟨u2, eu2⟩ : ∃ u2, u / 2 = u2 := ⟨_, rfl⟩
    obtain ⟨v2, ev2⟩ : ∃ v2, v % 2 = v2 := ⟨_, rfl⟩
    have r1 : (u : Int) / 2 = (u2 : Int) := by omega
    have r2 : (v : Int) % 2 = (v2 : Int) := by omega
    have r3 : (u2 : Int) + 32768 * (v2 : Int) = (y : Int) := by omega
    have r4 : v2 ≤ 1 := by omega
    have HD := Lib.hid (fun k => Rn.digit_any (w2.drewN k) _ n cx x (hX.drewN k) p)
    rw [← hp, ev, hp] at HD
    have c0 := ci 0
    have c1 := ci 1
    have c0 : w2.cell? _ = _ := c0
    have HV := Lib.hid (And.intro hz (And.intro hLo (And.intro hB (And.intro ey (And.intro hyb hlt)))))
    clear hz hLo hB ci ey hp hd hfd eu ev eu2 ev2 hX hLX2 hlt hLX
    go_wp2_with fail
    go_still_tail 15, (by kernel_rfl)
    still_call (HD.out 1)
    repeat still_step
    refine wpStill_nil ?_
    change wpList _ _ _ _ _ (w2.drewN 1)
    generalize hw4 : w2.drewN 1 = w4
    have hLo2 : Rn.Lim w4 g 0 n fo := by rw [← hw4]; exact HV.out.2.1.drewN _
    have hB2 : Below g w w4 := by rw [← hw4]; exact Rn.beyond HV.out.2.2.1 _
    have o2 := hLo2.cell i HV.out.2.2.2.2.2
    have r2 := hLo2.fro i HV.out.2.2.2.2.2
    rw [Nat.zero_add] at o2 r2
    have hLs := hLo2.set i y HV.out.2.2.2.2.2 HV.out.2.2.2.2.1
    have hBs := hB2.setCell (p := ⟨g, i, none⟩) (Nat.le_refl _) (.int .u64 (y : Int))
    rw [Nat.zero_add] at hLs
    have HL := Lib.hid (And.intro hLs hBs)
    clear hLo2 hB2 hLs hBs hw4 c0 c1
    go_wp2_with fail
    refine ⟨⟨i + 1, _, by have := HV.out.2.2.2.2.2; omega, by go_num, fun j hj => ?_, HL.out.1, HL.out.2⟩, by have := HV.out.2.2.2.2.2; simp [intOf]; omega⟩
    unfold Vl.upd
    by_cases hji : j = i
    · rw [if_pos hji, hji]; exact HV.out.2.2.2.1.symm
    · rw [if_neg hji]; exact HV.out.1 j (by omega)
  · have hin : i = n := by omega
    have hiz : ¬ (i : Int) < (n : Int) := by omega
    have hv : Vl.val 65536 fo n = x / 2 := by
      rw [Vl.val_congr 65536 fo (Rn.dg (x / 2)) n (fun j hj => hz j (by omega)), Rn.val_dg, Nat.mod_eq_of_lt]
      exact Nat.lt_of_le_of_lt (Nat.div_le_self _ _) H0.out.2.2.2.2
    have HT := Lib.hid (And.intro (Rn.trimmed_any w2 g 0 n n fo hLo (Nat.le_refl _) hN2) (And.intro hLo (And.intro hB hv)))
    clear hLo hv hB hz hlt hin
    go_wp2_with (go_at_call 41; refine Calls.mono HT.out.1 ?_; rintro e1 w4 ⟨rfl, k, rfl, hk, hz, ht⟩; have HZ := Lib.hid (And.intro hk (And.intro hz ht)); clear hk hz ht)
    go_ret
    refine ⟨_, _, _, rfl, ?_, HT.out.2.2.1.mono (Nat.le_of_eq HG.out.1)⟩
    rw [← HT.out.2.2.2]
    exact Rn.Num.of HT.out.2.1 HZ.out.1 HZ.out.1 HZ.out.2.1 HZ.out.2.2
end Go.Proofs.YtccbnpondlncpaaGreatDoor
