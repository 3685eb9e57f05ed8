/- The reference: Pow. -/
import Derived.Test.YthlecdggkolgmaaGreatDoorRnI
namespace Go.Proofs.YthlecdggkolgmaaGreatDoor
section
section
open Go.RowKit

theorem Rn.val_dg (y : Nat) : ∀ n,Vl.val 65536 (Rn.dg y) n = y % 65536 ^ n
  | 0 => by rw [Nat.pow_zero,Nat.mod_one]; rfl
  | n + 1 => by rw [Vl.val,Rn.val_dg y n,Rn.mod_step,Nat.mul_comm (65536 ^ n)]
/-- A multiple of a power of two has room for the next power below. -/
theorem Rn.room (f : Nat → Nat) (hf : ∀ j,f j < 65536) (n a r A : Nat) (ha : a < n) (hr : r < 16) (h : Vl.val 65536 f n = A * 2 ^ (16 * a + r + 1)) : f a + 2 ^ r < 65536 := by
  have e := Rn.dg_val f hf n a ha
  rw [h] at e
  unfold Rn.dg at e
  have e1 : A * 2 ^ (16 * a + r + 1) = A * 2 ^ (r + 1) * 65536 ^ a := by
    rw [show 16 * a + r + 1 = (r + 1) + 16 * a by omega,Nat.pow_add,Nat.pow_mul,← Nat.mul_assoc]
  rw [e1,Nat.mul_div_cancel _ (Nat.pow_pos (by decide))] at e
  have e2 : 65536 = 2 ^ (15 - r) * 2 ^ (r + 1) := by
    rw [← Nat.pow_add,show 15 - r + (r + 1) = 16 by omega]
  rw [e2,Nat.mul_mod_mul_right] at e
  have hlt : A % 2 ^ (15 - r) < 2 ^ (15 - r) := Nat.mod_lt _ (Nat.pow_pos (by decide))
  have hle : (A % 2 ^ (15 - r) + 1) * 2 ^ (r + 1) ≤ 2 ^ (15 - r) * 2 ^ (r + 1) := Nat.mul_le_mul_right _ hlt
  rw [← e2,Nat.add_mul,Nat.one_mul,e,Nat.pow_succ] at hle
  have hp : 0 < 2 ^ r := Nat.pow_pos (by decide)
  omega
/-- One digit of a doubled number. -/
theorem Rn.double_step (f : Nat → Nat) (N i c b V W : Nat) (hi : i < N) (h : Vl.val 65536 f N + c * 65536 ^ i = V + W + b) :
    Vl.val 65536 (Vl.upd f i ((2 * f i + c) % 65536)) N + (2 * f i + c) / 65536 * 65536 ^ (i + 1) = V + (W + f i * 65536 ^ i) + b := by
  have hu := Vl.val_upd 65536 f i ((2 * f i + c) % 65536) N hi
  obtain ⟨t,ht⟩ : ∃ t,2 * f i + c = t := ⟨_,rfl⟩
  rw [ht] at hu ⊢
  rw [Nat.pow_succ]
  obtain ⟨P,hP⟩ : ∃ P,65536 ^ i = P := ⟨_,rfl⟩
  rw [hP] at hu h ⊢
  have e : t / 65536 * (P * 65536) + t % 65536 * P = t * P := by
    have := Nat.div_add_mod t 65536
    rw [show t / 65536 * (P * 65536) = 65536 * (t / 65536) * P by rw [Nat.mul_comm P,← Nat.mul_assoc,Nat.mul_comm (t / 65536)],← Nat.add_mul,this]
  have e2 : t * P = f i * P + f i * P + c * P := by rw [← ht,Nat.add_mul,Nat.mul_assoc,Nat.two_mul]
  omega
/-- One digit of a difference that is left in its place. -/
theorem Rn.less_step (f : Nat → Nat) (N y i c t V W : Nat) (hi : i < N) (hc : c ≤ 1) (hd : f i < 65536) (h : Vl.val 65536 f N + W = V + c * 65536 ^ i) (ht : t + Rn.dg y i + c = 65536 + f i) :
    Vl.val 65536 (Vl.upd f i (t % 65536)) N + (W + Rn.dg y i * 65536 ^ i) = V + (1 - t / 65536) * 65536 ^ (i + 1) := by
  have hu := Vl.val_upd 65536 f i (t % 65536) N hi
  rw [Nat.pow_succ]
  obtain ⟨P,hP⟩ : ∃ P,65536 ^ i = P := ⟨_,rfl⟩
  rw [hP] at hu h ⊢
  have e : c + t % 65536 + Rn.dg y i = f i + (1 - t / 65536) * 65536 := by omega
  have e2 := congrArg (· * P) e
  simp only [Nat.add_mul] at e2
  rw [Nat.mul_comm P 65536,← Nat.mul_assoc]
  omega
/-- One binary digit of a division. -/
theorem Rn.div_step (x y k b : Nat) (hy : 0 < y) (hb : x / 2 ^ k % 2 = b) :
    2 * (x / 2 ^ (k + 1) % y) + b < 2 * y ∧
    (2 * (x / 2 ^ (k + 1) % y) + b < y → x / 2 ^ k / y = 2 * (x / 2 ^ (k + 1) / y) ∧ x / 2 ^ k % y = 2 * (x / 2 ^ (k + 1) % y) + b) ∧
    (y ≤ 2 * (x / 2 ^ (k + 1) % y) + b → x / 2 ^ k / y = 2 * (x / 2 ^ (k + 1) / y) + 1 ∧ x / 2 ^ k % y = 2 * (x / 2 ^ (k + 1) % y) + b - y) := by
  have e : x / 2 ^ (k + 1) = x / 2 ^ k / 2 := by rw [Nat.pow_succ,Nat.div_div_eq_div_mul]
  rw [e]
  obtain ⟨X,hX⟩ : ∃ X,x / 2 ^ k = X := ⟨_,rfl⟩
  rw [hX] at hb ⊢
  have h1 := Nat.div_add_mod (X / 2) y
  have h2 := Nat.mod_lt (X / 2) hy
  obtain ⟨q,hq⟩ : ∃ q,X / 2 / y = q := ⟨_,rfl⟩
  obtain ⟨r,hr⟩ : ∃ r,X / 2 % y = r := ⟨_,rfl⟩
  rw [hq,hr] at h1
  rw [hr] at h2
  rw [hq,hr]
  have hXe : X = y * (2 * q) + (2 * r + b) := by
    have : y * (2 * q) = 2 * (y * q) := by rw [Nat.mul_left_comm]
    omega
  refine ⟨by omega,fun h => ?_,fun h => ?_⟩
  · rw [hXe,Nat.mul_add_div hy,Nat.mul_add_mod,Nat.div_eq_of_lt h,Nat.mod_eq_of_lt h]
    exact ⟨rfl,rfl⟩
  · have hXe2 : X = y * (2 * q + 1) + (2 * r + b - y) := by
      rw [Nat.mul_add,Nat.mul_one]; omega
    have hl : 2 * r + b - y < y := by omega
    rw [hXe2,Nat.mul_add_div hy,Nat.mul_add_mod,Nat.div_eq_of_lt hl,Nat.mod_eq_of_lt hl]
    exact ⟨rfl,rfl⟩
end
section
open Go.RowKit
theorem Rn.Lim.other {w : World} {b off n : Nat} {f : Nat → Nat} (h : Rn.Lim w b off n f) {p : Addr} {v : Value} (hne : p.block ≠ b) : Rn.Lim (w.setCell p v) b off n f := by
  refine ⟨fun j hj => ?_,fun j hj => ?_,h.dig,by simpa [World.setCell] using h.lt⟩
  · rw [World.cell?_setCell_other _ _ _ _ (fun c => hne (by rw [c]))]
    exact h.cell j hj
  · rw [World.frozen?_setCell]
    exact h.fro j hj
theorem Rn.made_lim (w : World) (N : Nat) : Rn.Lim (w.alloc (Obj.cells (Array.replicate N (Value.int IntKind.u64 0)) 76)) w.heap.size 0 N (fun _ => 0) := by
  refine Rn.Lim.ofRow (T := 76) (l := List.replicate N (Value.int .u64 0)) ?_ (fun j hj => ?_) (fun _ => by decide)
  · rw [heap_alloc_new]; simp
  · rw [List.getElem?_replicate,if_pos hj]; rfl
set_option maxHeartbeats 4000000 in
set_option maxRecDepth 100000 in
theorem Rn.Divide_any (w : World) (ax ay : Option Addr) (n cx x m cy y : Nat) (hx : Rn.Num w ax n cx x) (hy : Rn.Num w ay m cy y) (hn : n ≤ 400000) (hm : m ≤ 400000) (hy0 : 0 < y) :
    Calls Tryz.prog 95 #[.slice ax n cx,.slice ay m cy] w fun e w' => ∃ av k c bv l d,e = .returned (.tuple #[.slice av k c,.slice bv l d]) ∧ Rn.Num w' av k c (x / y) ∧ Rn.Num w' bv l d (x % y) ∧ Below w.heap.size w w' := by
  obtain ⟨M,hM⟩ : ∃ M,m + 1 = M := ⟨_,rfl⟩
  have hMz : (m : Int) + 1 = (M : Int) := by omega
  have hMb : (M : Int) ≤ 400001 := by omega
  have hnb2 : n ≤ 1000000 := by omega
  have hMb2 : M ≤ 1000000 := by omega
  obtain ⟨T,hT⟩ : ∃ T,Nt.dig x = T := ⟨_,rfl⟩
  have hTn : T ≤ 16 * n := by
    rw [← hT]
    refine Nt.dig_of_lt _ _ ?_
    rw [Nat.pow_mul]; exact hx.lt
  have hTb : (T : Int) ≤ 6400000 := by omega
  have hxT : x < 2 ^ T := by rw [← hT]; exact Nt.dig_lt x
  obtain ⟨T1,hT1⟩ : ∃ T1 : Int,(T : Int) - 1 = T1 := ⟨_,rfl⟩
  have hT1b : T1 ≤ 6400000 := by omega
  have hT1c : -1 ≤ T1 := by omega
  have hyM : y < 65536 ^ m := hy.lt
  have H0 := Lib.hid (And.intro hx (And.intro hy (And.intro hM (And.intro hT (And.intro hTn (And.intro hxT (And.intro hyM hy0)))))))
  clear hx hy hM hT hTn hxT hyM hy0
  go_enter Tryz.func95,Tryz.ntmps95
  go_upto_region 2 with (at_make; refine Rn.wpList_make rfl _ _ rfl n rfl rfl hnb2 ?_)
  have hQ0 := Rn.made_lim w n
  have hb0 := (Below.refl w.heap.size w).alloc (Nat.le_refl _) (Obj.cells (Array.replicate n (Value.int IntKind.u64 0)) 76)
  obtain ⟨g,hg⟩ : ∃ g,w.heap.size = g := ⟨_,rfl⟩
  have hgs : g < (w.alloc (Obj.cells (Array.replicate n (Value.int IntKind.u64 0)) 76)).heap.size := by rw [← hg]; simp
  revert hQ0 hb0 hgs
  generalize w.alloc (Obj.cells (Array.replicate n (Value.int IntKind.u64 0)) 76) = w1
  rw [hg]
  intro hQ0 hb0 hgs
  have HG := Lib.hid (And.intro hg (And.intro hQ0 hb0))
  clear hg hQ0 hb0
  go_upto_region 3 with (at_make; refine Rn.wpList_make rfl _ _ rfl M rfl rfl hMb2 ?_)
  have hR0 := Rn.made_lim w1 M
  have hb1 := (Below.refl w1.heap.size w1).alloc (Nat.le_refl _) (Obj.cells (Array.replicate M (Value.int IntKind.u64 0)) 76)
  obtain ⟨h,hh⟩ : ∃ h,w1.heap.size = h := ⟨_,rfl⟩
  revert hR0 hb1
  generalize w1.alloc (Obj.cells (Array.replicate M (Value.int IntKind.u64 0)) 76) = w2
  rw [hh] at hgs ⊢
  intro hR0 hb1
  have hB2 : Below g w w2 := HG.out.2.2.trans (hb1.mono (by omega))
  have hQ2 : Rn.Lim w2 g 0 n (fun _ => 0) := HG.out.2.1.below hb1 (by omega)
  have HB := Lib.hid (And.intro (Rn.Bits_any w2 ax n cx x (H0.out.1.below (by rw [HG.out.1]; exact hB2)) hnb2) (And.intro hB2 (And.intro hQ2 hR0)))
  clear hB2 hQ2 hR0 hb1 hh
  rw [H0.out.2.2.2.1] at HB
  go_wp2_with (go_at_call 23; refine Calls.mono HB.out.1 ?_; rintro e1 w3 ⟨rfl,rfl⟩)
  go_wp2_with fail
  have HT1 := Lib.hid hT1
  clear hT1
  go_loopw [8] (fun iv wr => ∃ (kk : Nat) (z : Int) (fq fr : Nat → Nat),kk ≤ T ∧ iv = .int .i64 z ∧ z = (kk : Int) - 1 ∧ Rn.Lim wr g 0 n fq ∧ Rn.Lim wr h 0 M fr ∧ Vl.val 65536 fq n = x / 2 ^ kk / y * 2 ^ kk ∧ Vl.val 65536 fr M = x / 2 ^ kk % y ∧ Below g w wr) (fun iv _ => (intOf iv + 1).toNat)
  case atStart =>
    have e : x / 2 ^ T = 0 := Nat.div_eq_of_lt H0.out.2.2.2.2.2.1
    refine ⟨T,T1,_,_,Nat.le_refl _,rfl,HT1.out.symm,HB.out.2.2.1,HB.out.2.2.2,?_,?_,HB.out.2.1⟩
    · rw [Vl.val_zero _ _ _ (fun _ _ => rfl),e,Nat.zero_div,Nat.zero_mul]
    · rw [Vl.val_zero _ _ _ (fun _ _ => rfl),e,Nat.zero_mod]
  case round =>
  obtain ⟨kk,z,fq,fr,hkk,rfl,hz,hQ,hR,hvq,hvr,hB⟩ := hrel
  obtain ⟨w4,rfl⟩ : ∃ w4,w4 = wr := ⟨_,rfl⟩
  by_cases hk0 : kk = 0
  · have hz0 : ¬ 0 ≤ z := by omega
    subst hk0
    rw [Nat.pow_zero,Nat.div_one] at hvq hvr
    rw [Nat.mul_one] at hvq
    have HQ := Lib.hid (And.intro (Rn.trim_wide w4 g 0 n n fq hQ (Nat.le_refl _) (by omega) (by omega)) (And.intro hQ hvq))
    have HR := Lib.hid (And.intro (Rn.trim_wide w4 h 0 M M fr hR (Nat.le_refl _) (by omega) (by omega)) (And.intro hR hvr))
    have HB4 := Lib.hid hB
    clear hQ hR hvq hvr hB hz
    go_wp2_with (first | (go_at_call 45; with_reducible refine Calls.mono HQ.out.1 ?_; rintro e1 w5 ⟨rfl,k,rfl,hk,hz,ht⟩; have HZ := Lib.hid (And.intro hk (And.intro hz ht)); clear hk hz ht) | (go_at_call 45; with_reducible refine Calls.mono HR.out.1 ?_; rintro e2 w6 ⟨rfl,k2,rfl,hk2,hz2,ht2⟩; have HZ2 := Lib.hid (And.intro hk2 (And.intro hz2 ht2)); clear hk2 hz2 ht2))
    go_ret2
    refine ⟨_,_,_,_,_,_,rfl,?_,?_,HB4.out.mono (Nat.le_of_eq HG.out.1)⟩
    · rw [← HQ.out.2.2]
      exact Rn.Num.of HQ.out.2.1 HZ.out.1 HZ.out.1 HZ.out.2.1 HZ.out.2.2
    · rw [← HR.out.2.2]
      exact Rn.Num.of HR.out.2.1 HZ2.out.1 HZ2.out.1 HZ2.out.2.1 HZ2.out.2.2
  · obtain ⟨k,hk⟩ : ∃ k,kk - 1 = k := ⟨_,rfl⟩
    obtain rfl : z = (k : Int) := by omega
    have hkk1 : kk = k + 1 := by omega
    subst hkk1
    have hkz : 0 ≤ (k : Int) := by omega
    have hkT : k < 16 * n := by have := H0.out.2.2.2.2.1; omega
    have HBit := Lib.hid (Rn.Bit_any w4 ax n cx x k (H0.out.1.below (by rw [HG.out.1]; exact hB)) hnb2 hkT)
    obtain ⟨b,hb⟩ : ∃ b,x / 2 ^ k % 2 = b := ⟨_,rfl⟩
    rw [hb] at HBit
    have hb2 : b ≤ 1 := by omega
    have hD := Rn.div_step x y k b H0.out.2.2.2.2.2.2.2 hb
    have HV := Lib.hid (And.intro hvq (And.intro hvr (And.intro hQ (And.intro hB (And.intro hD hb)))))
    clear hD hb hvq hvr hQ hB hz hk hk0
    go_wp2_with (go_at_call 44; refine Calls.mono HBit.out ?_; rintro e5 w5 ⟨rfl,rfl⟩)
    have hgh : g < h := hgs
    go_loopw [9,10] (fun cv iv wr => ∃ (i c : Nat) (f : Nat → Nat),i ≤ M ∧ iv = .int .i64 (i : Int) ∧ cv = .int .u64 (c : Int) ∧ c ≤ 1 ∧ Rn.Lim wr g 0 n fq ∧ Rn.Lim wr h 0 M f ∧ (∀ j,i ≤ j → f j = fr j) ∧ Vl.val 65536 f M + c * 65536 ^ i = Vl.val 65536 fr M + Vl.val 65536 fr i + b ∧ Below g w wr) (fun _ iv _ => M - (intOf iv).toNat)
    case atStart => exact ⟨0,b,fr,Nat.zero_le _,rfl,rfl,hb2,HV.out.2.2.1,hR,fun _ _ => rfl,by simp [Vl.val],HV.out.2.2.2.1⟩
    case round =>
    clear hR
    obtain ⟨i,c,f,hi,rfl,rfl,hc,hQ,hR,hfr,hv,hB⟩ := hrel
    obtain ⟨w6,rfl⟩ : ∃ w6,w6 = wr := ⟨_,rfl⟩
    by_cases hiM : i < M
    · have hiz : (i : Int) < (M : Int) := by omega
      have hi0 : 0 ≤ (i : Int) := by omega
      have cr := hR.cell i hiM
      have rr := hR.fro i hiM
      have dr := hR.dig i
      rw [Nat.zero_add] at cr rr
      have hst := Rn.double_step f M i c b (Vl.val 65536 fr M) (Vl.val 65536 fr i) hiM hv
      have hfi := hfr i (Nat.le_refl _)
      have hvs : Vl.val 65536 fr i + f i * 65536 ^ i = Vl.val 65536 fr (i + 1) := by rw [hfi]; rfl
      rw [hvs] at hst
      obtain ⟨d,hd⟩ : ∃ d,f i = d := ⟨_,rfl⟩
      rw [hd] at cr dr hst
      obtain ⟨t,ht⟩ : ∃ t,2 * d + c = t := ⟨_,rfl⟩
      rw [ht] at hst
      have htz : 2 * (d : Int) + (c : Int) = (t : Int) := by omega
      have htb : t ≤ 131071 := by omega
      obtain ⟨u,hu⟩ : ∃ u,t % 65536 = u := ⟨_,rfl⟩
      obtain ⟨c',hc'⟩ : ∃ c',t / 65536 = c' := ⟨_,rfl⟩
      rw [hu,hc'] at hst
      have huz : (t : Int) % 65536 = (u : Int) := by omega
      have hcz : (t : Int) / 65536 = (c' : Int) := by omega
      have hu2 : u < 65536 := by omega
      have hc2 : c' ≤ 1 := by omega
      have hRs := hR.set i u hiM hu2
      have hQs := hQ.other (p := ⟨h,i,none⟩) (v := .int .u64 (u : Int)) (show h ≠ g by omega)
      have hBs := hB.setCell (p := ⟨h,i,none⟩) (show g ≤ h by omega) (.int .u64 (u : Int))
      rw [Nat.zero_add] at hRs
      have HL := Lib.hid (And.intro hRs (And.intro hQs (And.intro hBs (And.intro hst hfr))))
      clear hRs hQs hBs hst hfr hR hQ hB hv hvs hfi hd ht hu hc'
      go_wp2_with fail
      exact ⟨⟨i + 1,c',_,by omega,by go_num,rfl,hc2,HL.out.2.1,HL.out.1,fun j hj => by unfold Vl.upd; rw [if_neg (by omega)]; exact HL.out.2.2.2.2 j (by omega),HL.out.2.2.2.1,HL.out.2.2.1⟩,by simp [intOf] <;> omega⟩
    · have hie : i = M := by omega
      have hiz : ¬ (i : Int) < (M : Int) := by omega
      obtain ⟨R2,hR2⟩ : ∃ R2,2 * (x / 2 ^ (k + 1) % y) + b = R2 := ⟨_,rfl⟩
      have hR2y : R2 < 2 * y := by rw [← hR2]; exact HV.out.2.2.2.2.1.1
      have hP : 2 * y ≤ 65536 ^ M := by
        have := H0.out.2.2.2.2.2.2.1
        rw [← H0.out.2.2.1,Nat.pow_succ]; omega
      have hF : Vl.val 65536 f M = R2 := by
        have h1 := HV.out.2.1
        rw [hie] at hv
        obtain ⟨P,hPe⟩ : ∃ P,65536 ^ M = P := ⟨_,rfl⟩
        rw [hPe] at hv hP
        have hc0 : c = 0 := by
          rcases Nat.eq_zero_or_pos c with h | h
          · exact h
          · have : 1 * P ≤ c * P := Nat.mul_le_mul_right _ h
            omega
        rw [hc0,Nat.zero_mul] at hv
        omega
      have hy0 := H0.out.2.2.2.2.2.2.2
      have HF := Lib.hid hF
      have HM := Lib.hid (show y < 65536 ^ M ∧ R2 < 2 * y from ⟨by omega,hR2y⟩)
      have HV2 := Lib.hid hR2
      obtain ⟨M1,hM1⟩ : ∃ M1 : Int,(M : Int) - 1 = M1 := ⟨_,rfl⟩
      have hM1b : M1 ≤ 400001 := by omega
      have hM1c : -1 ≤ M1 := by omega
      have HS0 := Lib.hid (And.intro hQ (And.intro hR hB))
      clear hF hP hR2 hR2y hv hQ hR hB hfr hc
      go_wp2_with fail
      go_loopw [12,13] (fun bv iv wr => ∃ (q : Nat) (z : Int),q ≤ M ∧ bv = .bool false ∧ iv = .int .i64 z ∧ z = (q : Int) - 1 ∧ Rn.Lim wr g 0 n fq ∧ Rn.Lim wr h 0 M f ∧ (∀ j,q ≤ j → j < M → f j = Rn.dg y j) ∧ Below g w wr) (fun _ iv _ => (intOf iv + 1).toNat)
      case atStart => exact ⟨M,M1,Nat.le_refl _,rfl,rfl,hM1.symm,HS0.out.1,HS0.out.2.1,fun j h1 h2 => by omega,HS0.out.2.2⟩
      case round =>
      clear HS0
      obtain ⟨q,z,hq,rfl,rfl,hz,hQ,hR,heq,hB⟩ := hrel
      obtain ⟨w7,rfl⟩ : ∃ w7,w7 = wr := ⟨_,rfl⟩
      have hdgy : Vl.val 65536 (Rn.dg y) M = y := by rw [Rn.val_dg,Nat.mod_eq_of_lt HM.out.1]
      by_cases hq0 : q = 0
      · have hz0 : ¬ 0 ≤ z := by omega
        have hge : y ≤ R2 := by
          rw [← HF.out,Vl.val_congr 65536 f (Rn.dg y) M (fun j hj => heq j (by omega) hj),hdgy]
          exact Nat.le_refl _
        clear heq hdgy hz
        have HS := Lib.hid (And.intro hQ (And.intro hR (And.intro hB hge)))
        clear hQ hR hB hge
        go_wp2_with fail
        go_loopw [14,15] (fun cv iv wr => ∃ (i c : Nat) (f3 : Nat → Nat),i ≤ M ∧ iv = .int .i64 (i : Int) ∧ cv = .int .u64 (c : Int) ∧ c ≤ 1 ∧ Rn.Lim wr g 0 n fq ∧ Rn.Lim wr h 0 M f3 ∧ Vl.val 65536 f3 M + y % 65536 ^ i = R2 + c * 65536 ^ i ∧ Below g w wr) (fun _ iv _ => M - (intOf iv).toNat)
        case atStart => exact ⟨0,0,f,Nat.zero_le _,rfl,rfl,by decide,HS.out.1,HS.out.2.1,by rw [HF.out,Nat.pow_zero,Nat.mod_one,Nat.zero_mul],HS.out.2.2.1⟩
        case round =>
        obtain ⟨i,c,f3,hi,rfl,rfl,hc,hQ,hR,hv,hB⟩ := hrel
        obtain ⟨w8,rfl⟩ : ∃ w8,w8 = wr := ⟨_,rfl⟩
        by_cases hiM : i < M
        · have hiz : (i : Int) < (M : Int) := by omega
          have hi0 : 0 ≤ (i : Int) := by omega
          have cr := hR.cell i hiM
          have dr := hR.dig i
          rw [Nat.zero_add] at cr
          have HDY := Lib.hid (fun k => Rn.digit_any _ ay m cy y ((H0.out.2.1.below (by rw [HG.out.1]; exact hB)).drewN k) i)
          have dyb := Rn.dg_lt y i
          have hst := fun t ht => Rn.less_step f3 M y i c t R2 (y % 65536 ^ i) hiM hc dr hv ht
          rw [show y % 65536 ^ i + Rn.dg y i * 65536 ^ i = y % 65536 ^ (i + 1) by rw [Rn.mod_step,Nat.mul_comm (65536 ^ i)]] at hst
          obtain ⟨d,hd⟩ : ∃ d,f3 i = d := ⟨_,rfl⟩
          obtain ⟨e,he⟩ : ∃ e,Rn.dg y i = e := ⟨_,rfl⟩
          rw [hd] at cr dr hst
          rw [he] at dyb hst HDY
          obtain ⟨t,ht⟩ : ∃ t,65536 + d - e - c = t := ⟨_,rfl⟩
          have hst2 := hst t (by omega)
          have hs1 : (65536 : Int) + (d : Int) - (e : Int) - (c : Int) = (t : Int) := by omega
          have htb : t ≤ 131071 := by omega
          obtain ⟨u,hu⟩ : ∃ u,t % 65536 = u := ⟨_,rfl⟩
          obtain ⟨c',hc'⟩ : ∃ c',1 - t / 65536 = c' := ⟨_,rfl⟩
          rw [hu,hc'] at hst2
          have huz : (t : Int) % 65536 = (u : Int) := by omega
          have hcz : (1 : Int) - (t : Int) / 65536 = (c' : Int) := by omega
          have hu2 : u < 65536 := by omega
          have hc2 : c' ≤ 1 := by omega
          have HL := Lib.hid (And.intro hQ (And.intro hR (And.intro hB hst2)))
          clear hst hst2 hd he ht hu hc' hQ hR hB hv
          go_wp2_with fail
          go_quiet (first | (go_at_call 71; with_reducible exact Calls.quiet_of_same (HDY.out _)))
          generalize hw9 : w8.drewN nq = w9
          have hQ : Rn.Lim w9 g 0 n fq := by rw [← hw9]; exact HL.out.1.drewN _
          have hR : Rn.Lim w9 h 0 M f3 := by rw [← hw9]; exact HL.out.2.1.drewN _
          have hB : Below g w w9 := by rw [← hw9]; exact Rn.beyond HL.out.2.2.1 _
          have cr := hR.cell i hiM
          have rr := hR.fro i hiM
          rw [Nat.zero_add] at cr rr
          have hRs := hR.set i u hiM hu2
          have hQs := hQ.other (p := ⟨h,i,none⟩) (v := .int .u64 (u : Int)) (show h ≠ g by omega)
          have hBs := hB.setCell (p := ⟨h,i,none⟩) (show g ≤ h by omega) (.int .u64 (u : Int))
          rw [Nat.zero_add] at hRs
          have HL2 := Lib.hid (And.intro hRs (And.intro hQs hBs))
          clear hRs hQs hBs hR hQ hB hw9
          go_wp2_with fail
          exact ⟨⟨i + 1,c',_,by omega,by go_num,rfl,hc2,HL2.out.2.1,HL2.out.1,HL.out.2.2.2,HL2.out.2.2⟩,by simp [intOf] <;> omega⟩
        · have hie : i = M := by omega
          have hiz : ¬ (i : Int) < (M : Int) := by omega
          have hl := Vl.val_lt 65536 (by decide) f3 M (fun j _ => hR.dig j)
          have hval : Vl.val 65536 f3 M = R2 - y := by
            have hyM := HM.out.1
            have hR2 := HM.out.2
            have hge := HS.out.2.2.2
            rw [hie] at hv
            obtain ⟨P,hP⟩ : ∃ P,65536 ^ M = P := ⟨_,rfl⟩
            rw [hP] at hl hv hyM
            rw [Nat.mod_eq_of_lt hyM] at hv
            have hc0 : c = 0 := by
              rcases Nat.eq_zero_or_pos c with h | h
              · exact h
              · have : 1 * P ≤ c * P := Nat.mul_le_mul_right _ h
                omega
            rw [hc0,Nat.zero_mul] at hv
            omega
          have hdiv := HV.out.2.2.2.2.1.2.2 (by rw [HV2.out]; exact HS.out.2.2.2)
          rw [HV2.out] at hdiv
          obtain ⟨a,ha⟩ : ∃ a,k / 16 = a := ⟨_,rfl⟩
          obtain ⟨r,hr⟩ : ∃ r,k % 16 = r := ⟨_,rfl⟩
          have han : a < n := by omega
          have hr16 : r < 16 := by omega
          have hroom := Rn.room fq hQ.dig n a r (x / 2 ^ (k + 1) / y) han hr16 (by rw [HV.out.1,show k + 1 = 16 * a + r + 1 by omega])
          have hu := Vl.val_upd 65536 fq a (fq a + 2 ^ r) n han
          have hq2 : Vl.val 65536 (Vl.upd fq a (fq a + 2 ^ r)) n = x / 2 ^ k / y * 2 ^ k := by
            rw [hdiv.1,Nat.add_mul,Nat.one_mul,Nat.mul_comm 2,Nat.mul_assoc,← Nat.pow_succ']
            rw [HV.out.1,Nat.add_mul] at hu
            have e1 : 2 ^ r * 65536 ^ a = 2 ^ k := by
              rw [show (65536 : Nat) = 2 ^ 16 by rfl,← Nat.pow_mul,← Nat.pow_add,show r + 16 * a = k by omega]
            rw [e1] at hu
            show _ = x / 2 ^ (k + 1) / y * 2 ^ (k + 1) + 2 ^ k
            omega
          have cq := hQ.cell a han
          have rq := hQ.fro a han
          rw [Nat.zero_add] at cq rq
          have dq := hQ.dig a
          have hQs : ∀ k,Rn.Lim ((w8.drewN k).setCell ⟨g,a,none⟩ (.int .u64 ((fq a + 2 ^ r : Nat) : Int))) g 0 n (Vl.upd fq a (fq a + 2 ^ r)) := fun k => by
            have h := (hQ.drewN k).set a (fq a + 2 ^ r) han hroom
            rw [Nat.zero_add] at h
            exact h
          obtain ⟨d,hd⟩ : ∃ d,fq a = d := ⟨_,rfl⟩
          obtain ⟨b2,hb2'⟩ : ∃ b2,2 ^ r = b2 := ⟨_,rfl⟩
          rw [hd] at cq dq hQs hq2 hroom
          rw [hb2'] at hQs hq2 hroom
          obtain ⟨d2,hd2⟩ : ∃ d2,d + b2 = d2 := ⟨_,rfl⟩
          rw [hd2] at hQs hq2 hroom
          have hRs := fun k => (hR.drewN k).other (p := ⟨g,a,none⟩) (v := .int .u64 (d2 : Int)) (show g ≠ h by omega)
          have hBs := fun k => (Rn.beyond hB k).setCell (p := ⟨g,a,none⟩) (Nat.le_refl g) (.int .u64 (d2 : Int))
          have haz : (k : Int) / 16 = (a : Int) := by omega
          have hrz : (k : Int) % 16 = (r : Int) := by omega
          have ha0 : 0 ≤ (a : Int) := by omega
          have hanz : (a : Int) < (n : Int) := by omega
          have hr0 : ¬ (r : Int) < 0 := by omega
          have hdz : (d : Int) + (b2 : Int) = (d2 : Int) := by omega
          have hb3 : (2 : Int) ^ r = (b2 : Int) := by rw [← hb2']; simp
          have hb2b : b2 ≤ 65535 := by omega
          have hab : (a : Int) ≤ 400000 := by omega
          have ka : IntKind.i64.wrap (a : Int) = (a : Int) := IntWalk.i64_in _ (by omega)
          have kr : IntKind.i64.wrap (r : Int) = (r : Int) := IntWalk.i64_in _ (by omega)
          have kb : IntKind.u64.wrap (b2 : Int) = (b2 : Int) := Rn.u64_eq _ _ rfl (by omega)
          have kd : IntKind.u64.wrap (d2 : Int) = (d2 : Int) := Rn.u64_eq _ _ rfl (by omega)
          have hmin : min r 64 = r := Nat.min_eq_left (by omega)
          have HE := Lib.hid (And.intro hQs (And.intro hRs (And.intro hBs (And.intro hq2 (And.intro hval hdiv.2)))))
          clear hQ hR hB hQs hRs hBs hq2 hval hdiv hu hd hd2 ha hr hl hv
          go_wp2_with fail
          go_region
          all_goals
            go_wp2_with fail
            exact ⟨⟨k,(k : Int) - 1,_,_,by omega,rfl,rfl,HE.out.1 1,HE.out.2.1 1,HE.out.2.2.2.1,HE.out.2.2.2.2.1.trans HE.out.2.2.2.2.2.symm,HE.out.2.2.1 1⟩,by simp [intOf] <;> omega⟩
      · obtain ⟨a,ha⟩ : ∃ a,q - 1 = a := ⟨_,rfl⟩
        obtain rfl : z = (a : Int) := by omega
        have hqa : q = a + 1 := by omega
        subst hqa
        have haM : a < M := by omega
        have haz : (a : Int) < (M : Int) := by omega
        have ha0 : 0 ≤ (a : Int) := by omega
        have cr := hR.cell a haM
        rw [Nat.zero_add] at cr
        have HDY := Lib.hid (fun k => Rn.digit_any _ ay m cy y ((H0.out.2.1.below (by rw [HG.out.1]; exact hB)).drewN k) a)
        have h1 := fun h => Nt.lt_of_limb 65536 (by decide) f (Rn.dg y) hR.dig a M haM h (fun j h1 h2 => heq j h1 h2)
        have h2 := fun h => Nt.lt_of_limb 65536 (by decide) (Rn.dg y) f (Rn.dg_lt y) a M haM h (fun j h1 h2 => (heq j h1 h2).symm)
        rw [HF.out,hdgy] at h1 h2
        have h3 : f a = Rn.dg y a → ∀ j,a ≤ j → j < M → f j = Rn.dg y j := fun h j h4 h5 => by
          rcases Nat.lt_or_ge a j with h6 | h6
          · exact heq j h6 h5
          · obtain rfl : j = a := by omega
            exact h
        obtain ⟨d,hd⟩ : ∃ d,f a = d := ⟨_,rfl⟩
        obtain ⟨e,he⟩ : ∃ e,Rn.dg y a = e := ⟨_,rfl⟩
        have hfa := hd
        have hea := he
        rw [hd] at cr h1 h2 h3
        rw [he] at h1 h2 h3 HDY
        have HL := Lib.hid (And.intro hQ (And.intro hR (And.intro hB h3)))
        clear hd he heq hdgy hQ hR hB h3 hz
        by_cases hde : d = e
        · have hdz : ((d : Int) == (e : Int)) = true := by rw [beq_iff_eq]; omega
          go_wp2_with fail
          go_quiet (first | (go_at_call 71; with_reducible exact Calls.quiet_of_same (HDY.out _)))
          generalize hw9 : w7.drewN nq = w9
          have hQ : Rn.Lim w9 g 0 n fq := by rw [← hw9]; exact HL.out.1.drewN _
          have hR : Rn.Lim w9 h 0 M f := by rw [← hw9]; exact HL.out.2.1.drewN _
          have hB : Below g w w9 := by rw [← hw9]; exact Rn.beyond HL.out.2.2.1 _
          go_wp2_with fail
          exact ⟨⟨a,(a : Int) - 1,by omega,rfl,rfl,rfl,hQ,hR,HL.out.2.2.2 hde,hB⟩,by simp [intOf] <;> omega⟩
        · have hdz : ((d : Int) == (e : Int)) = false := by rw [beq_eq_false_iff_ne]; omega
          by_cases hlt : d < e
          · have hlz : (d : Int) < (e : Int) := by omega
            have hless := h1 hlt
            go_wp2_with fail
            go_quiet (first | (go_at_call 71; with_reducible exact Calls.quiet_of_same (HDY.out _)))
            generalize hw9 : w7.drewN nq = w9
            have hQ : Rn.Lim w9 g 0 n fq := by rw [← hw9]; exact HL.out.1.drewN _
            have hR : Rn.Lim w9 h 0 M f := by rw [← hw9]; exact HL.out.2.1.drewN _
            have hB : Below g w w9 := by rw [← hw9]; exact Rn.beyond HL.out.2.2.1 _
            have cr := hR.cell a haM
            rw [Nat.zero_add,hfa] at cr
            have HDZ := Lib.hid (fun k => Rn.digit_any _ ay m cy y ((H0.out.2.1.below (by rw [HG.out.1]; exact hB)).drewN k) a)
            rw [hea] at HDZ
            have HL3 := Lib.hid (And.intro hQ (And.intro hR hB))
            clear hQ hR hB hw9
            go_wp2_with fail
            go_quiet (first | (go_at_call 71; with_reducible exact Calls.quiet_of_same (HDZ.out _)))
            generalize hw10 : w9.drewN nq = w10
            have hQ : Rn.Lim w10 g 0 n fq := by rw [← hw10]; exact HL3.out.1.drewN _
            have hR : Rn.Lim w10 h 0 M f := by rw [← hw10]; exact HL3.out.2.1.drewN _
            have hB : Below g w w10 := by rw [← hw10]; exact Rn.beyond HL3.out.2.2 _
            clear hw10
            have HL4 := Lib.hid (And.intro hQ (And.intro hR hB))
            clear hQ hR hB
            go_wp2_with fail
            have hdiv := HV.out.2.2.2.2.1.2.1 (by rw [HV2.out]; exact hless)
            rw [HV2.out] at hdiv
            exact ⟨⟨k,(k : Int) - 1,_,_,by omega,rfl,rfl,HL4.out.1,HL4.out.2.1,by rw [HV.out.1,hdiv.1,Nat.mul_comm 2,Nat.mul_assoc,← Nat.pow_succ'],by rw [HF.out]; exact hdiv.2.symm,HL4.out.2.2⟩,by simp [intOf] <;> omega⟩
          · have hlz : ¬ (d : Int) < (e : Int) := by omega
            have hge : y ≤ R2 := Nat.le_of_lt (h2 (by omega))
            go_wp2_with fail
            go_quiet (first | (go_at_call 71; with_reducible exact Calls.quiet_of_same (HDY.out _)))
            generalize hw9 : w7.drewN nq = w9
            have hQ : Rn.Lim w9 g 0 n fq := by rw [← hw9]; exact HL.out.1.drewN _
            have hR : Rn.Lim w9 h 0 M f := by rw [← hw9]; exact HL.out.2.1.drewN _
            have hB : Below g w w9 := by rw [← hw9]; exact Rn.beyond HL.out.2.2.1 _
            have cr := hR.cell a haM
            rw [Nat.zero_add,hfa] at cr
            have HDZ := Lib.hid (fun k => Rn.digit_any _ ay m cy y ((H0.out.2.1.below (by rw [HG.out.1]; exact hB)).drewN k) a)
            rw [hea] at HDZ
            have HL3 := Lib.hid (And.intro hQ (And.intro hR hB))
            clear hQ hR hB hw9
            go_wp2_with fail
            go_quiet (first | (go_at_call 71; with_reducible exact Calls.quiet_of_same (HDZ.out _)))
            generalize hw10 : w9.drewN nq = w10
            have hQ : Rn.Lim w10 g 0 n fq := by rw [← hw10]; exact HL3.out.1.drewN _
            have hR : Rn.Lim w10 h 0 M f := by rw [← hw10]; exact HL3.out.2.1.drewN _
            have hB : Below g w w10 := by rw [← hw10]; exact Rn.beyond HL3.out.2.2 _
            clear hw10
            have HS := Lib.hid (And.intro hQ (And.intro hR (And.intro hB hge)))
            clear hQ hR hB hge
            go_wp2_with fail
            go_loopw [14,15] (fun cv iv wr => ∃ (i c : Nat) (f3 : Nat → Nat),i ≤ M ∧ iv = .int .i64 (i : Int) ∧ cv = .int .u64 (c : Int) ∧ c ≤ 1 ∧ Rn.Lim wr g 0 n fq ∧ Rn.Lim wr h 0 M f3 ∧ Vl.val 65536 f3 M + y % 65536 ^ i = R2 + c * 65536 ^ i ∧ Below g w wr) (fun _ iv _ => M - (intOf iv).toNat)
            case atStart => exact ⟨0,0,f,Nat.zero_le _,rfl,rfl,by decide,HS.out.1,HS.out.2.1,by rw [HF.out,Nat.pow_zero,Nat.mod_one,Nat.zero_mul],HS.out.2.2.1⟩
            case round =>
            obtain ⟨i,c,f3,hi,rfl,rfl,hc,hQ,hR,hv,hB⟩ := hrel
            obtain ⟨w8,rfl⟩ : ∃ w8,w8 = wr := ⟨_,rfl⟩
            by_cases hiM : i < M
            · have hiz : (i : Int) < (M : Int) := by omega
              have hi0 : 0 ≤ (i : Int) := by omega
              have cr := hR.cell i hiM
              have dr := hR.dig i
              rw [Nat.zero_add] at cr
              have HDY := Lib.hid (fun k => Rn.digit_any _ ay m cy y ((H0.out.2.1.below (by rw [HG.out.1]; exact hB)).drewN k) i)
              have dyb := Rn.dg_lt y i
              have hst := fun t ht => Rn.less_step f3 M y i c t R2 (y % 65536 ^ i) hiM hc dr hv ht
              rw [show y % 65536 ^ i + Rn.dg y i * 65536 ^ i = y % 65536 ^ (i + 1) by rw [Rn.mod_step,Nat.mul_comm (65536 ^ i)]] at hst
              obtain ⟨d,hd⟩ : ∃ d,f3 i = d := ⟨_,rfl⟩
              obtain ⟨e,he⟩ : ∃ e,Rn.dg y i = e := ⟨_,rfl⟩
              rw [hd] at cr dr hst
              rw [he] at dyb hst HDY
              obtain ⟨t,ht⟩ : ∃ t,65536 + d - e - c = t := ⟨_,rfl⟩
              have hst2 := hst t (by omega)
              have hs1 : (65536 : Int) + (d : Int) - (e : Int) - (c : Int) = (t : Int) := by omega
              have htb : t ≤ 131071 := by omega
              obtain ⟨u,hu⟩ : ∃ u,t % 65536 = u := ⟨_,rfl⟩
              obtain ⟨c',hc'⟩ : ∃ c',1 - t / 65536 = c' := ⟨_,rfl⟩
              rw [hu,hc'] at hst2
              have huz : (t : Int) % 65536 = (u : Int) := by omega
              have hcz : (1 : Int) - (t : Int) / 65536 = (c' : Int) := by omega
              have hu2 : u < 65536 := by omega
              have hc2 : c' ≤ 1 := by omega
              have HL := Lib.hid (And.intro hQ (And.intro hR (And.intro hB hst2)))
              clear hst hst2 hd he ht hu hc' hQ hR hB hv
              go_wp2_with fail
              go_quiet (first | (go_at_call 71; with_reducible exact Calls.quiet_of_same (HDY.out _)))
              generalize hw9 : w8.drewN nq = w9
              have hQ : Rn.Lim w9 g 0 n fq := by rw [← hw9]; exact HL.out.1.drewN _
              have hR : Rn.Lim w9 h 0 M f3 := by rw [← hw9]; exact HL.out.2.1.drewN _
              have hB : Below g w w9 := by rw [← hw9]; exact Rn.beyond HL.out.2.2.1 _
              have cr := hR.cell i hiM
              have rr := hR.fro i hiM
              rw [Nat.zero_add] at cr rr
              have hRs := hR.set i u hiM hu2
              have hQs := hQ.other (p := ⟨h,i,none⟩) (v := .int .u64 (u : Int)) (show h ≠ g by omega)
              have hBs := hB.setCell (p := ⟨h,i,none⟩) (show g ≤ h by omega) (.int .u64 (u : Int))
              rw [Nat.zero_add] at hRs
              have HL2 := Lib.hid (And.intro hRs (And.intro hQs hBs))
              clear hRs hQs hBs hR hQ hB hw9
              go_wp2_with fail
              exact ⟨⟨i + 1,c',_,by omega,by go_num,rfl,hc2,HL2.out.2.1,HL2.out.1,HL.out.2.2.2,HL2.out.2.2⟩,by simp [intOf] <;> omega⟩
            · have hie : i = M := by omega
              have hiz : ¬ (i : Int) < (M : Int) := by omega
              have hl := Vl.val_lt 65536 (by decide) f3 M (fun j _ => hR.dig j)
              have hval : Vl.val 65536 f3 M = R2 - y := by
                have hyM := HM.out.1
                have hR2 := HM.out.2
                have hge := HS.out.2.2.2
                rw [hie] at hv
                obtain ⟨P,hP⟩ : ∃ P,65536 ^ M = P := ⟨_,rfl⟩
                rw [hP] at hl hv hyM
                rw [Nat.mod_eq_of_lt hyM] at hv
                have hc0 : c = 0 := by
                  rcases Nat.eq_zero_or_pos c with h | h
                  · exact h
                  · have : 1 * P ≤ c * P := Nat.mul_le_mul_right _ h
                    omega
                rw [hc0,Nat.zero_mul] at hv
                omega
              have hdiv := HV.out.2.2.2.2.1.2.2 (by rw [HV2.out]; exact HS.out.2.2.2)
              rw [HV2.out] at hdiv
              obtain ⟨a,ha⟩ : ∃ a,k / 16 = a := ⟨_,rfl⟩
              obtain ⟨r,hr⟩ : ∃ r,k % 16 = r := ⟨_,rfl⟩
              have han : a < n := by omega
              have hr16 : r < 16 := by omega
              have hroom := Rn.room fq hQ.dig n a r (x / 2 ^ (k + 1) / y) han hr16 (by rw [HV.out.1,show k + 1 = 16 * a + r + 1 by omega])
              have hu := Vl.val_upd 65536 fq a (fq a + 2 ^ r) n han
              have hq2 : Vl.val 65536 (Vl.upd fq a (fq a + 2 ^ r)) n = x / 2 ^ k / y * 2 ^ k := by
                rw [hdiv.1,Nat.add_mul,Nat.one_mul,Nat.mul_comm 2,Nat.mul_assoc,← Nat.pow_succ']
                rw [HV.out.1,Nat.add_mul] at hu
                have e1 : 2 ^ r * 65536 ^ a = 2 ^ k := by
                  rw [show (65536 : Nat) = 2 ^ 16 by rfl,← Nat.pow_mul,← Nat.pow_add,show r + 16 * a = k by omega]
                rw [e1] at hu
                show _ = x / 2 ^ (k + 1) / y * 2 ^ (k + 1) + 2 ^ k
                omega
              have cq := hQ.cell a han
              have rq := hQ.fro a han
              rw [Nat.zero_add] at cq rq
              have dq := hQ.dig a
              have hQs : ∀ k,Rn.Lim ((w8.drewN k).setCell ⟨g,a,none⟩ (.int .u64 ((fq a + 2 ^ r : Nat) : Int))) g 0 n (Vl.upd fq a (fq a + 2 ^ r)) := fun k => by
                have h := (hQ.drewN k).set a (fq a + 2 ^ r) han hroom
                rw [Nat.zero_add] at h
                exact h
              obtain ⟨d,hd⟩ : ∃ d,fq a = d := ⟨_,rfl⟩
              obtain ⟨b2,hb2'⟩ : ∃ b2,2 ^ r = b2 := ⟨_,rfl⟩
              rw [hd] at cq dq hQs hq2 hroom
              rw [hb2'] at hQs hq2 hroom
              obtain ⟨d2,hd2⟩ : ∃ d2,d + b2 = d2 := ⟨_,rfl⟩
              rw [hd2] at hQs hq2 hroom
              have hRs := fun k => (hR.drewN k).other (p := ⟨g,a,none⟩) (v := .int .u64 (d2 : Int)) (show g ≠ h by omega)
              have hBs := fun k => (Rn.beyond hB k).setCell (p := ⟨g,a,none⟩) (Nat.le_refl g) (.int .u64 (d2 : Int))
              have haz : (k : Int) / 16 = (a : Int) := by omega
              have hrz : (k : Int) % 16 = (r : Int) := by omega
              have ha0 : 0 ≤ (a : Int) := by omega
              have hanz : (a : Int) < (n : Int) := by omega
              have hr0 : ¬ (r : Int) < 0 := by omega
              have hdz : (d : Int) + (b2 : Int) = (d2 : Int) := by omega
              have hb3 : (2 : Int) ^ r = (b2 : Int) := by rw [← hb2']; simp
              have hb2b : b2 ≤ 65535 := by omega
              have hab : (a : Int) ≤ 400000 := by omega
              have ka : IntKind.i64.wrap (a : Int) = (a : Int) := IntWalk.i64_in _ (by omega)
              have kr : IntKind.i64.wrap (r : Int) = (r : Int) := IntWalk.i64_in _ (by omega)
              have kb : IntKind.u64.wrap (b2 : Int) = (b2 : Int) := Rn.u64_eq _ _ rfl (by omega)
              have kd : IntKind.u64.wrap (d2 : Int) = (d2 : Int) := Rn.u64_eq _ _ rfl (by omega)
              have hmin : min r 64 = r := Nat.min_eq_left (by omega)
              have HE := Lib.hid (And.intro hQs (And.intro hRs (And.intro hBs (And.intro hq2 (And.intro hval hdiv.2)))))
              clear hQ hR hB hQs hRs hBs hq2 hval hdiv hu hd hd2 ha hr hl hv
              go_wp2_with fail
              go_region
              all_goals
                go_wp2_with fail
                exact ⟨⟨k,(k : Int) - 1,_,_,by omega,rfl,rfl,HE.out.1 1,HE.out.2.1 1,HE.out.2.2.2.1,HE.out.2.2.2.2.1.trans HE.out.2.2.2.2.2.symm,HE.out.2.2.1 1⟩,by simp [intOf] <;> omega⟩
end
end
section
section
open Go.RowKit
set_option maxHeartbeats 1000000 in
set_option maxRecDepth 100000 in
theorem Rn.Left_any (w : World) (ax ay : Option Addr) (n cx x m cy y : Nat) (hx : Rn.Num w ax n cx x) (hy : Rn.Num w ay m cy y) (hn : n ≤ 400000) (hm : m ≤ 400000) (hy0 : 0 < y) :
    Calls Tryz.prog 68 #[.slice ax n cx,.slice ay m cy] w fun e w' => ∃ av k c,e = .returned (.slice av k c) ∧ Rn.Num w' av k c (x % y) ∧ Below w.heap.size w w' := by
  have HD := Lib.hid (Rn.Divide_any w ax ay n cx x m cy y hx hy hn hm hy0)
  clear hx hy
  go_enter Tryz.func68,Tryz.ntmps68
  go_wp2_with (go_at_call 95; refine Calls.mono HD.out ?_; rintro e1 w1 ⟨av,k,c,bv,l,d,rfl,h1,h2,h3⟩; have HN := Lib.hid (And.intro h2 h3); clear h1 h2 h3)
  go_ret
  exact ⟨_,_,_,rfl,HN.out.1,HN.out.2⟩
end
section
open Go.RowKit
theorem Rn.pow_step (a e m k b : Nat) (hb : e / 2 ^ k % 2 = b) :
    (b = 0 → (a ^ (e / 2 ^ (k + 1)) % m) * (a ^ (e / 2 ^ (k + 1)) % m) % m = a ^ (e / 2 ^ k) % m) ∧
    (b = 1 → (a ^ (e / 2 ^ (k + 1)) % m) * (a ^ (e / 2 ^ (k + 1)) % m) % m * a % m = a ^ (e / 2 ^ k) % m) := by
  have e1 : e / 2 ^ (k + 1) = e / 2 ^ k / 2 := by rw [Nat.pow_succ,Nat.div_div_eq_div_mul]
  rw [e1]
  obtain ⟨E,hE⟩ : ∃ E,e / 2 ^ k = E := ⟨_,rfl⟩
  rw [hE] at hb ⊢
  obtain ⟨q,hq⟩ : ∃ q,E / 2 = q := ⟨_,rfl⟩
  rw [hq,← Nat.mul_mod,← Nat.pow_add]
  refine ⟨fun h => ?_,fun h => ?_⟩
  · rw [show q + q = E by omega]
  · rw [Nat.mul_mod,Nat.mod_mod,← Nat.mul_mod,← Nat.pow_succ]
    rw [show (q + q).succ = E by omega]
theorem Rn.one_lim (w : World) : Rn.Num (w.alloc (Obj.cells #[Value.int IntKind.u64 1] 76)) (some ⟨w.heap.size,0,none⟩) 1 1 1 := by
  have h : Rn.Lim (w.alloc (Obj.cells #[Value.int IntKind.u64 1] 76)) w.heap.size 0 1 (fun _ => 1) := by
    refine Rn.Lim.ofRow (T := 76) (l := [Value.int .u64 1]) (heap_alloc_new _ _) (fun j hj => ?_) (fun _ => (show 1 < 65536 by decide))
    obtain rfl : j = 0 := by omega
    rfl
  exact ⟨Nat.le_refl _,w.heap.size,0,fun _ => 1,fun _ => ⟨rfl,h⟩,fun _ => (show 1 < 65536 by decide),rfl,.inr (by decide)⟩
theorem Rn.Num.mod {w : World} {av : Option Addr} {k c x y : Nat} (h : Rn.Num w av k c (x % y)) {w2 : World} {bv : Option Addr} {l d : Nat} (g : Rn.Num w2 bv l d y) (hy : 0 < y) : k ≤ l := h.mono2 g (Nat.le_of_lt (Nat.mod_lt _ hy))
theorem Rn.Num.mul {w : World} {av : Option Addr} {k c x y n m : Nat} (h : Rn.Num w av k c (x * y)) (hx : x < 65536 ^ n) (hy : y < 65536 ^ m) : k ≤ n + m := h.len _ (by
  rw [Nat.pow_add]
  exact Nat.mul_lt_mul'' hx hy)
set_option maxHeartbeats 2000000 in
set_option maxRecDepth 100000 in
theorem Rn.Pow_any (w : World) (ax ay az : Option Addr) (n cx x m cy y l cz z : Nat) (hx : Rn.Num w ax n cx x) (hy : Rn.Num w ay m cy y) (hz : Rn.Num w az l cz z) (hn : n ≤ 100000) (hm : m ≤ 100000) (hl : l ≤ 100000) (hz0 : 0 < z) :
    Calls Tryz.prog 42 #[.slice ax n cx,.slice ay m cy,.slice az l cz] w fun e w' => ∃ av k c,e = .returned (.slice av k c) ∧ Rn.Num w' av k c (x ^ y % z) ∧ Below w.heap.size w w' := by
  obtain ⟨T,hT⟩ : ∃ T,Nt.dig y = T := ⟨_,rfl⟩
  have hTn : T ≤ 16 * m := by
    rw [← hT]
    refine Nt.dig_of_lt _ _ ?_
    rw [Nat.pow_mul]; exact hy.lt
  have hTb : (T : Int) ≤ 1600000 := by omega
  have hyT : y < 2 ^ T := by rw [← hT]; exact Nt.dig_lt y
  obtain ⟨T1,hT1⟩ : ∃ T1 : Int,(T : Int) - 1 = T1 := ⟨_,rfl⟩
  have hT1b : T1 ≤ 1600000 := by omega
  have hT1c : -1 ≤ T1 := by omega
  have hb0 := (Below.refl w.heap.size w).alloc (Nat.le_refl _) (Obj.cells #[Value.int IntKind.u64 1] 76)
  have HL := Lib.hid (Rn.Left_any _ (some ⟨w.heap.size,0,none⟩) az 1 1 1 l cz z (Rn.one_lim w) (hz.below hb0) (by omega) (by omega) hz0)
  have H0 := Lib.hid (And.intro hx (And.intro hy (And.intro hz (And.intro hT (And.intro hTn (And.intro hyT (And.intro hz0 hb0)))))))
  clear hx hy hz hT hTn hyT hz0 hb0
  go_enter Tryz.func42,Tryz.ntmps42
  go_wp2_with fail
  go_at_call 68
  refine Calls.mono HL.out ?_
  rintro e1 w1 ⟨av,k,c,rfl,hN,hb⟩
  have hB : Below w.heap.size w w1 := H0.out.2.2.2.2.2.2.2.trans (hb.mono H0.out.2.2.2.2.2.2.2.size)
  have HB := Lib.hid (Rn.Bits_any w1 ay m cy y (H0.out.2.1.below hB) (by omega))
  rw [H0.out.2.2.2.1] at HB
  have HN := Lib.hid (And.intro hN hB)
  clear hN hB hb
  go_wp2_with (go_at_call 23; refine Calls.mono HB.out ?_; rintro e2 w1 ⟨rfl,rfl⟩)
  have HT1 := Lib.hid hT1
  clear hT1
  go_loopw [7,8] (fun ov iv wr => ∃ (kk : Nat) (i : Int) (av : Option Addr) (k c : Nat),kk ≤ T ∧ iv = .int .i64 i ∧ i = (kk : Int) - 1 ∧ ov = .slice av k c ∧ Rn.Num wr av k c (x ^ (y / 2 ^ kk) % z) ∧ Below w.heap.size w wr) (fun _ iv _ => (intOf iv + 1).toNat)
  case atStart => exact ⟨T,T1,av,k,c,Nat.le_refl _,rfl,HT1.out.symm,rfl,by rw [Nat.div_eq_of_lt H0.out.2.2.2.2.2.1,Nat.pow_zero]; exact HN.out.1,HN.out.2⟩
  case round =>
  obtain ⟨kk,i,av,k,c,hkk,rfl,hi,rfl,hN,hB⟩ := hrel
  obtain ⟨w2,rfl⟩ : ∃ w2,w2 = wr := ⟨_,rfl⟩
  by_cases hk0 : kk = 0
  · have hi0 : ¬ 0 ≤ i := by omega
    subst hk0
    rw [Nat.pow_zero,Nat.div_one] at hN
    have HN2 := Lib.hid (And.intro hN hB)
    clear hN hB hi
    go_wp2_with fail
    go_ret
    exact ⟨_,_,_,rfl,HN2.out.1,HN2.out.2⟩
  · obtain ⟨j,hj⟩ : ∃ j,kk - 1 = j := ⟨_,rfl⟩
    obtain rfl : i = (j : Int) := by omega
    obtain rfl : kk = j + 1 := by omega
    have hjz : 0 ≤ (j : Int) := by omega
    have hjT : j < 16 * m := by have := H0.out.2.2.2.2.1; omega
    have hX := H0.out.1.below hB
    have hY := H0.out.2.1.below hB
    have hZ := H0.out.2.2.1.below hB
    have hz0 := H0.out.2.2.2.2.2.2.1
    have hkl := hN.mod hZ hz0
    obtain ⟨b,hb⟩ : ∃ b,y / 2 ^ j % 2 = b := ⟨_,rfl⟩
    have hb2 : b = 0 ∨ b = 1 := by omega
    have hst := Rn.pow_step x y z j b hb
    obtain ⟨V,hV⟩ : ∃ V,x ^ (y / 2 ^ (j + 1)) % z = V := ⟨_,rfl⟩
    rw [hV] at hN hst
    have H2 := Lib.hid (And.intro hX (And.intro hY (And.intro hZ (And.intro hN (And.intro hB (And.intro hst hb))))))
    clear hX hY hZ hN hB hst hb hV hi hj hk0
    go_wp2_with fail
    go_at_call 69
    refine Calls.mono (Rn.Times_any w2 av av k c V k c V H2.out.2.2.2.1 H2.out.2.2.2.1 (by omega) (by omega)) ?_
    rintro e3 w3 ⟨bv,k2,c2,rfl,hN3,hb3⟩
    have hk2 := hN3.mul H2.out.2.2.2.1.lt H2.out.2.2.2.1.lt
    have H3 := Lib.hid (And.intro (H2.out.1.below hb3) (And.intro (H2.out.2.1.below hb3) (And.intro (H2.out.2.2.1.below hb3) (And.intro hN3 (H2.out.2.2.2.2.1.trans (hb3.mono H2.out.2.2.2.2.1.size))))))
    clear hN3 hb3
    go_wp2_with fail
    go_at_call 68
    refine Calls.mono (Rn.Left_any w3 bv az k2 c2 (V * V) l cz z H3.out.2.2.2.1 H3.out.2.2.1 (by omega) (by omega) hz0) ?_
    rintro e4 w4 ⟨cv,k3,c3,rfl,hN4,hb4⟩
    have hk3 := hN4.mod H3.out.2.2.1 hz0
    have H4 := Lib.hid (And.intro (H3.out.1.below hb4) (And.intro (H3.out.2.1.below hb4) (And.intro (H3.out.2.2.1.below hb4) (And.intro hN4 (H3.out.2.2.2.2.trans (hb4.mono H3.out.2.2.2.2.size))))))
    clear hN4 hb4
    have HBit := Lib.hid (Rn.Bit_any w4 ay m cy y j H4.out.2.1 (by omega) hjT)
    rw [H2.out.2.2.2.2.2.2] at HBit
    rcases hb2 with rfl | rfl
    · go_wp2_with (go_at_call 44; refine Calls.mono HBit.out ?_; rintro e5 w5 ⟨rfl,rfl⟩)
      exact ⟨⟨j,(j : Int) - 1,_,_,_,by omega,rfl,rfl,rfl,by rw [← H2.out.2.2.2.2.2.1.1 trivial]; exact H4.out.2.2.2.1,H4.out.2.2.2.2⟩,by simp [intOf] <;> omega⟩
    · go_wp2_with (go_at_call 44; refine Calls.mono HBit.out ?_; rintro e5 w4 ⟨rfl,rfl⟩)
      go_at_call 69
      refine Calls.mono (Rn.Times_any _ cv ax k3 c3 _ n cx x H4.out.2.2.2.1 H4.out.1 (by omega) (by omega)) ?_
      rintro e6 w6 ⟨dv,k4,c4,rfl,hN6,hb6⟩
      have hk4 := hN6.mul H4.out.2.2.2.1.lt H4.out.1.lt
      have H6 := Lib.hid (And.intro (H4.out.2.2.1.below hb6) (And.intro hN6 (H4.out.2.2.2.2.trans (hb6.mono H4.out.2.2.2.2.size))))
      clear hN6 hb6
      go_wp2_with fail
      go_at_call 68
      refine Calls.mono (Rn.Left_any w6 dv az k4 c4 _ l cz z H6.out.2.1 H6.out.1 (by omega) (by omega) hz0) ?_
      rintro e7 w7 ⟨ev,k5,c5,rfl,hN7,hb7⟩
      have H7 := Lib.hid (And.intro hN7 (H6.out.2.2.trans (hb7.mono H6.out.2.2.size)))
      clear hN7 hb7
      go_wp2_with fail
      exact ⟨⟨j,(j : Int) - 1,_,_,_,by omega,rfl,rfl,rfl,by rw [← H2.out.2.2.2.2.2.1.2 trivial]; exact H7.out.1,H7.out.2⟩,by simp [intOf] <;> omega⟩
end
end
end Go.Proofs.YthlecdggkolgmaaGreatDoor
