/- digit: the quotient's digit, and what is left. -/
import Derived.Test.YtccbnpondlncpaaGreatDoorNtI
import Derived.Deep.RegionWith
namespace Go.Proofs.YtccbnpondlncpaaGreatDoor
open Go.RowKit

theorem Nt.Lim.narrow {w : World} {b off n m : Nat} {f : Nat → Nat} (h : Nt.Lim w b off n f) (hm : m ≤ n) : Nt.Lim w b off m f := ⟨fun j hj => h.cell j (by omega), fun j hj => h.fro j (by omega), h.dig, h.lt⟩
theorem Nt.Lim.widen {w w' : World} {b off n m : Nat} {f g : Nat → Nat} (h : Nt.Lim w b off n f) (ho : Nt.Only b off m w w') (hg : Nt.Lim w' b off m g) (he : ∀ j, m ≤ j → g j = f j) : Nt.Lim w' b off n g := by
  refine ⟨fun j hj => ?_, fun j hj => ?_, hg.dig, hg.lt⟩
  · by_cases hjm : j < m
    · exact hg.cell j hjm
    · rw [ho.cell _ (Or.inr (by omega)), he j (by omega)]
      exact h.cell j hj
  · rw [ho.fro]
    exact h.fro j hj
theorem Nt.Only.wider {w w' : World} {b off n m : Nat} (h : Nt.Only b off m w w') (hm : m ≤ n) : Nt.Only b off n w w' := ⟨h.os, h.tape, h.output, h.size, h.block, fun o ho => h.cell o (by omega), h.fro⟩
theorem Nt.digit_any (w : World) (bx ox nx cx : Nat) (fx : Nat → Nat) (b' oy n cy : Nat) (fy : Nat → Nat) (hx : Nt.Lim w bx ox nx fx) (hy : Nt.Lim w b' oy n fy) (hnx : nx = n + 1) (hn0 : 0 < n) (hn : n ≤ 900000) (hcx : nx ≤ cx) (hne : b' ≠ bx)
    (hf : 0 < fy (n - 1)) (hlt : Vl.val 4294967296 fx (n + 1) < 4294967296 * Vl.val 4294967296 fy n) :
    Calls Tryz.prog 92 #[.slice (some ⟨bx, ox, none⟩) nx cx, .slice (some ⟨b', oy, none⟩) n cy] w fun e w' => ∃ t fo, e = .returned (.int .u32 ((t : Nat) : Int)) ∧ t < 4294967296 ∧ t = Vl.val 4294967296 fx (n + 1) / Vl.val 4294967296 fy n ∧ Nt.Lim w' bx ox nx fo ∧ Vl.val 4294967296 fo n = Vl.val 4294967296 fx (n + 1) % Vl.val 4294967296 fy n ∧ fo n = 0 ∧ (∀ j, n < j → fo j = fx j) ∧ Nt.Only bx ox nx w w' := by
  have G := Nt.guess_val w bx ox nx cx fx b' oy n cy fy hx hy hnx hn0 (by omega) hf hlt
  have hnz0 : 0 ≤ (n : Int) := by omega
  have hnc : (n : Int) ≤ (cx : Int) := by omega
  have hnxz : (n : Int) < (nx : Int) := by omega
  have hncn : n ≤ cx := by omega
  have hnn : n ≤ 1000000 := by omega
  have hnl : n < nx := by omega
  have HG := Lib.hid G
  have HH := Lib.hid (And.intro hx (And.intro hy (And.intro hnx (And.intro hn0 (And.intro hf (And.intro hlt hne))))))
  clear G hx hy hnx hf hlt hne
  go_enter Tryz.func92, Tryz.ntmps92
  go_wp2_with (go_at_call 100; refine Calls.mono HG.out ?_; rintro e1 w1 ⟨t, rfl, htb, hq1, hq2, k, rfl⟩)
  have T := Nt.takeTimes_any (w.drewN k) bx ox n cx fx b' oy n cy fy t ((HH.out.1.drewN k).narrow (by omega)) (HH.out.2.1.drewN k) (Nat.le_refl _) hnn htb HH.out.2.2.2.2.2.2
  have HT := Lib.hid T
  have HQ := Lib.hid (And.intro hq1 hq2)
  clear T hq1 hq2
  go_wp2_with (fail)
  go_at_call 76
  refine Calls.mono HT.out ?_
  rintro e2 w2 ⟨c, fo, rfl, hcb, hLo, hv, heo, hO⟩
  have hL2 := (HH.out.1.drewN k).widen hO hLo heo
  have hO2 := (Nt.Only.drewN bx ox n w k).trans hO
  have c6 := hL2.cell n hnl
  have r6 := hL2.fro n hnl
  have d6 := hL2.dig n
  have ht6 := heo n (Nat.le_refl _)
  obtain ⟨top, htop⟩ : ∃ top, fo n = top := ⟨_, rfl⟩
  rw [htop] at c6 d6 ht6
  have eU : Vl.val 4294967296 fx (n + 1) = Vl.val 4294967296 fx n + top * 4294967296 ^ n := by rw [ht6]; rfl
  have v1 := Vl.val_lt 4294967296 (by decide) fy n (fun j _ => HH.out.2.1.dig j)
  have v2 := Vl.val_lt 4294967296 (by decide) fo n (fun j _ => hLo.dig j)
  obtain ⟨P, hP⟩ : ∃ P, 4294967296 ^ n = P := ⟨_, rfl⟩
  rw [hP] at eU v1 v2 hv
  have v0 : 0 < Vl.val 4294967296 fy n := by
    have := HH.out.2.2.2.2.2.1
    rcases Nat.eq_zero_or_pos (Vl.val 4294967296 fy n) with h | h
    · rw [h] at this; omega
    · exact h
  have HV := Lib.hid (And.intro hv (And.intro v1 (And.intro v2 (And.intro eU v0))))
  have HA3 := Lib.hid hO
  have HP := Lib.hid hP
  have HO := Lib.hid (And.intro hL2 (And.intro hO2 heo))
  clear hv v1 v2 eU v0 hL2 hO2 heo hLo hO hP ht6
  by_cases hct : top < c
  · have hctz : (top : Int) < (c : Int) := by omega
    have htd : 1 ≤ t := by
      rcases Nat.eq_zero_or_pos t with h | h
      · have h1 := HV.out.1
        have h2 : P ≤ c * P := Nat.le_mul_of_pos_left P (by omega)
        have h3 := HV.out.2.2.1
        rw [h, Nat.zero_mul] at h1
        omega
      · exact h
    obtain ⟨s, hs⟩ : ∃ s, t = s + 1 := ⟨t - 1, by omega⟩
    have hsz : (t : Int) - 1 = (s : Int) := by omega
    have hsb : s < 4294967296 := by omega
    have hcw : IntKind.u32.wrap (c : Int) = (c : Int) := Nt.u32_eq _ _ (by omega)
    have hcc : (c : Int) - (c : Int) = 0 := by omega
    have HS := Lib.hid hs
    have A := fun d => Nt.addTimes_any (w2.drewN d) bx ox n cx fo b' oy n cy fy 1 ((HO.out.1.drewN d).narrow (Nat.le_of_lt hnl)) (((HH.out.2.1.drewN k).only HA3.out HH.out.2.2.2.2.2.2).drewN d) (Nat.le_refl _) hnn (by decide) HH.out.2.2.2.2.2.2
    have HA2 := Lib.hid A
    clear A
    go_wp2_with (fail)
    go_region_with (go_at_call 56; refine Calls.mono (HA2.out _) ?_; rintro e3 w3 ⟨c2, fo2, rfl, hcb2, hLo2, hv2, heo2, hO2⟩; have hL3 := (HO.out.1.drewN _).widen hO2 hLo2 heo2; have c7 := hL3.cell n hnl; have r7 := hL3.fro n hnl; rw [heo2 n (Nat.le_refl _), htop] at c7; rw [HP.out, Nat.one_mul] at hv2; have hv3 := Nt.digit_over P (Vl.val 4294967296 fx n) (Vl.val 4294967296 fy n) top t (Vl.val 4294967296 fo n) (Vl.val 4294967296 fo2 n) c2 c (Nat.lt_succ_of_lt HV.out.2.1) HV.out.2.2.2.2 (by rw [← HP.out]; exact Vl.val_lt 4294967296 (by decide) fo2 n (fun j _ => hLo2.dig j)) (by rw [← HV.out.2.2.2.1]; exact HQ.out.1) (by rw [← HV.out.2.2.2.1]; exact HQ.out.2) HV.out.1 HV.out.2.2.1 hct hv2; have hcz : (top : Int) + (c2 : Int) = (c : Int) := (by have := hv3.2.2; omega); have HD := Lib.hid hv3; have HO3 := Lib.hid (And.intro hL3 (And.intro hO2 heo2)); clear hv2 hv3 hL3 hO2 heo2 hLo2)
    all_goals
      have hL4 := HO3.out.1.set n c hnl hcb
      have c8 := hL4.cell n hnl
      have r8 := hL4.fro n hnl
      have eu : Vl.upd fo2 n c n = c := by unfold Vl.upd; rw [if_pos rfl]
      rw [eu] at c8
      clear eu hcb2
      go_wp2_with fail
      go_ret
      refine ⟨s, Vl.upd (Vl.upd fo2 n c) n 0, rfl, hsb, ?_, hL4.set n 0 hnl (by decide), ?_, ?_, ?_, ?_⟩
      · have h1 := HD.out.1
        rw [← HV.out.2.2.2.1, HS.out] at h1
        omega
      · rw [Vl.val_congr 4294967296 (Vl.upd (Vl.upd fo2 n c) n 0) fo2 n (fun j hj => by unfold Vl.upd; rw [if_neg (by omega), if_neg (by omega)])]
        rw [HV.out.2.2.2.1]
        exact HD.out.2.1
      · unfold Vl.upd
        rw [if_pos rfl]
      · intro j hj
        unfold Vl.upd
        rw [if_neg (by omega), if_neg (by omega), HO3.out.2.2 j (by omega)]
        exact HO.out.2.2 j (by omega)
      · refine (HO.out.2.1.wider (Nat.le_of_lt hnl)).trans (((Nt.Only.drewN bx ox nx w2 _).trans (HO3.out.2.1.wider (Nat.le_of_lt hnl))).trans ((Nt.Only.set _ n _ hnl).trans (Nt.Only.set _ n _ hnl)))
  · have hctz : ¬ (top : Int) < (c : Int) := by omega
    have D := Nt.digit_fits P (Vl.val 4294967296 fx n) (Vl.val 4294967296 fy n) top t (Vl.val 4294967296 fo n) c (Nat.lt_succ_of_lt HV.out.2.1) HV.out.2.2.2.2 (by rw [← HV.out.2.2.2.1]; exact HQ.out.1) HV.out.1 (by omega)
    have hz : (top : Int) - (c : Int) = 0 := by omega
    rw [← HV.out.2.2.2.1] at D
    have HD := Lib.hid D
    clear D hct
    go_wp2_with fail
    go_ret
    refine ⟨t, Vl.upd fo n 0, rfl, htb, HD.out.1, HO.out.1.set n 0 hnl (by decide), ?_, ?_, ?_, (HO.out.2.1.wider (Nat.le_of_lt hnl)).trans (Nt.Only.set w2 n _ hnl)⟩
    · rw [Vl.val_congr 4294967296 (Vl.upd fo n 0) fo n (fun j hj => by unfold Vl.upd; rw [if_neg (by omega)])]
      exact HD.out.2.1
    · unfold Vl.upd
      rw [if_pos rfl]
    · intro j hj
      unfold Vl.upd
      rw [if_neg (by omega)]
      exact HO.out.2.2 j (by omega)
end Go.Proofs.YtccbnpondlncpaaGreatDoor
