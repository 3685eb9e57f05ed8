/- PSS: fits, Fits. -/
import Derived.Test.YthlecdggkolgmaaGreatDoorRsQ
import Derived.Test.YthlecdggkolgmaaGreatDoorRsE
namespace Go.Proofs.YthlecdggkolgmaaGreatDoor
section
section
open Go.RowKit
set_option maxHeartbeats 1000000 in
set_option maxRecDepth 100000 in
theorem Rs.fits_len (w : World) (ok : Rs.Ok w) (s x : ByteArray) (b : Int) (h : b < 1 ∨ (1 ≤ b ∧ 4096 < b) ∨ (1 ≤ b ∧ b ≤ 4096 ∧ (x.size : Int) ≠ (b + 7) / 8) ∨ (1 ≤ b ∧ b ≤ 4096 ∧ (x.size : Int) = (b + 7) / 8 ∧ (x.size : Int) < 66)) :
    Calls Tryz.prog 11 #[.string s,.string x,.int .i64 b] w fun e w' => ∃ v,e = .returned v ∧ Rs.Err w' v 42 ∧ Below w.heap.size w w' := by
  obtain ⟨a,hv⟩ := ok.2 42 (by decide) (by decide)
  have hx : w.cell? ⟨2,0,none⟩ = some (.iface 200 (.pointer (some a))) := hv.var
  have HV := Lib.hid hv
  clear hv ok
  rcases h with h | ⟨h1,h⟩ | ⟨h1,h2,h⟩ | ⟨h1,h2,h,h3⟩
  · skip
    go_enter Tryz.func11,Tryz.ntmps11
    go_wp2_with fail
    go_ret
    exact ⟨_,rfl,.inr ⟨by decide,by decide,a,1,.about _ .leaf,HV.out⟩,Below.refl _ _⟩
  · have h1 : ¬ b < 1 := by omega
    go_enter Tryz.func11,Tryz.ntmps11
    go_wp2_with fail
    go_ret
    exact ⟨_,rfl,.inr ⟨by decide,by decide,a,1,.about _ .leaf,HV.out⟩,Below.refl _ _⟩
  · have t1 : ¬ b < 1 := by omega
    have t2 : ¬ 4096 < b := by omega
    have q1 : Int.tdiv (b + 7) 8 = (b + 7) / 8 := Int.tdiv_eq_ediv_of_nonneg (by omega)
    obtain ⟨L,hL⟩ : ∃ L : Nat,(b + 7) / 8 = (L : Int) := ⟨((b + 7) / 8).toNat,by omega⟩
    rw [hL] at h q1
    have hLb : (L : Int) ≤ 512 := by omega
    have hbi : b ≤ 4096 := by omega
    have hbl : 1 ≤ b := by omega
    obtain ⟨z,hz⟩ : ∃ z,(x.size : Int) = z := ⟨_,rfl⟩
    rw [hz] at h
    have hne : (z != (L : Int)) = true := by rw [bne_iff_ne]; exact h
    clear hL h1 h2
    go_enter Tryz.func11,Tryz.ntmps11
    go_wp2_with fail
    go_ret
    exact ⟨_,rfl,.inr ⟨by decide,by decide,a,1,.about _ .leaf,HV.out⟩,Below.refl _ _⟩
  · have t1 : ¬ b < 1 := by omega
    have t2 : ¬ 4096 < b := by omega
    have q1 : Int.tdiv (b + 7) 8 = (b + 7) / 8 := Int.tdiv_eq_ediv_of_nonneg (by omega)
    rw [← h] at q1
    have hbi : b ≤ 4096 := by omega
    have hbl : 1 ≤ b := by omega
    obtain ⟨z,hz⟩ : ∃ z,(x.size : Int) = z := ⟨_,rfl⟩
    rw [hz] at h3 q1
    clear h h1 h2
    go_enter Tryz.func11,Tryz.ntmps11
    go_wp2_with fail
    go_ret
    exact ⟨_,rfl,.inr ⟨by decide,by decide,a,1,.about _ .leaf,HV.out⟩,Below.refl _ _⟩
set_option maxHeartbeats 1000000 in
set_option maxRecDepth 100000 in
theorem Rs.fits_end (w : World) (ok : Rs.Ok w) (s x : ByteArray) (B n : Nat) (h1 : 1 ≤ B) (h2 : B ≤ 4096) (hx : x.size = n) (hn : n = (B + 7) / 8) (hn66 : 66 ≤ n) (hC : ∀ W,Calls Tryz.prog 26 #[.string x,.string ⟨#[188]⟩] W fun e w' => e = .returned (.tuple #[.string x,.bool false]) ∧ w' = W) :
    Calls Tryz.prog 11 #[.string s,.string x,.int .i64 (B : Int)] w fun e w' => ∃ v,e = .returned v ∧ Rs.Err w' v 42 ∧ Below w.heap.size w w' := by
  obtain ⟨a,hv⟩ := ok.2 42 (by decide) (by decide)
  have hvx : w.cell? ⟨2,0,none⟩ = some (.iface 200 (.pointer (some a))) := hv.var
  have HV := Lib.hid hv
  have HC := Lib.hid hC
  have t1 : ¬ (B : Int) < 1 := by omega
  have t2 : ¬ (4096 : Int) < (B : Int) := by omega
  have hbi : (B : Int) ≤ 4096 := by omega
  have hbl : 1 ≤ (B : Int) := by omega
  have hzn : (x.size : Int) = (n : Int) := by omega
  have q1 : Int.tdiv ((B : Int) + 7) 8 = (n : Int) := by rw [Int.tdiv_eq_ediv_of_nonneg (by omega)]; omega
  have h66 : ¬ (n : Int) < 66 := by omega
  have hnb : (n : Int) ≤ 512 := by omega
  clear hv ok hC hx hn
  go_enter Tryz.func11,Tryz.ntmps11
  go_wp2_with fail
  go_at_call 26
  refine Calls.mono (HC.out _) ?_
  rintro e1 w1 ⟨rfl,rfl⟩
  go_wp2_with fail
  go_ret
  exact ⟨_,rfl,.inr ⟨by decide,by decide,a,1,.about _ .leaf,HV.out⟩,Below.refl _ _⟩
set_option maxHeartbeats 1000000 in
set_option maxRecDepth 100000 in
theorem Rs.fits_salt (w : World) (ok : Rs.Ok w) (s x : ByteArray) (B n : Nat) (h1 : 1 ≤ B) (h2 : B ≤ 4096) (hx : x.size = n) (hn : n = (B + 7) / 8) (hn66 : 66 ≤ n) (sp : Nat) (hsp : sp + B = 8 * n) (_hsp7 : sp ≤ 7) (R A H : ByteArray) (hRs : R.size = n - 1) (hA : R.extract 0 (n - 33) = A) (hH : R.extract (n - 33) (n - 1) = H)
    (hC : ∀ W,Calls Tryz.prog 26 #[.string x,.string ⟨#[188]⟩] W fun e w' => e = .returned (.tuple #[.string R,.bool true]) ∧ w' = W)
    (hS : ∀ W,Rs.Ok W → Calls Tryz.prog 27 #[.string A,.string H,.int .i64 (sp : Int)] W fun e w' => ∃ v,e = .returned (.tuple #[.string ⟨#[]⟩,v]) ∧ Rs.Err w' v 42 ∧ Below W.heap.size W w') :
    Calls Tryz.prog 11 #[.string s,.string x,.int .i64 (B : Int)] w fun e w' => ∃ v,e = .returned v ∧ Rs.Err w' v 42 ∧ Below w.heap.size w w' := by
  have t1 : ¬ (B : Int) < 1 := by omega
  have t2 : ¬ (4096 : Int) < (B : Int) := by omega
  have hbi : (B : Int) ≤ 4096 := by omega
  have hbl : 1 ≤ (B : Int) := by omega
  have hzn : (x.size : Int) = (n : Int) := by omega
  have q1 : Int.tdiv ((B : Int) + 7) 8 = (n : Int) := by rw [Int.tdiv_eq_ediv_of_nonneg (by omega)]; omega
  have h66 : ¬ (n : Int) < 66 := by omega
  have hnb : (n : Int) ≤ 512 := by omega
  have hk : (n : Int) - 1 = ((n - 1 : Nat) : Int) := by omega
  obtain ⟨k,ek⟩ : ∃ k,n - 1 = k := ⟨_,rfl⟩
  rw [ek] at hRs hH
  have hRz : (R.size : Int) = (k : Int) := by omega
  obtain ⟨p,ep⟩ : ∃ p,n - 33 = p := ⟨_,rfl⟩
  rw [ep] at hA hH
  have hkp : (k : Int) - 32 = (p : Int) := by omega
  have hkb : (k : Int) ≤ 511 := by omega
  have hpb : (p : Int) ≤ 479 := by omega
  have hpk : (p : Int) ≤ (k : Int) := by omega
  have h8 : 8 * (n : Int) - (B : Int) = (sp : Int) := by omega
  have h8b : 8 * (n : Int) ≤ 4096 := by omega
  have hsb : (sp : Int) ≤ 7 := by omega
  have hw8 : IntKind.i64.wrap (8 * (n : Int)) = 8 * (n : Int) := by unfold IntKind.wrap; simp [IntKind.bits,IntKind.signed]; omega
  have hws : IntKind.i64.wrap (sp : Int) = (sp : Int) := by unfold IntKind.wrap; simp [IntKind.bits,IntKind.signed]; omega
  have HC := Lib.hid hC
  have HS := Lib.hid (And.intro hS ok)
  clear ok hC hS hx hn hk ek ep
  go_enter Tryz.func11,Tryz.ntmps11
  go_wp2_with fail
  go_at_call 26
  refine Calls.mono (HC.out _) ?_
  rintro e1 w1 ⟨rfl,rfl⟩
  go_upto_region 7 with fail
  go_region_with (go_at_call 27; refine Calls.mono (HS.out.1 _ (HS.out.2.below (below_drewN (Below.refl _ _) 1))) ?_; rintro e5 w5 ⟨v,rfl,hE,hb5⟩; obtain ⟨T,u,rfl⟩ := hE.some (by decide); have H5 := Lib.hid (And.intro hE ((below_drewN (Below.refl w1.heap.size w1) 1).trans hb5)); clear hb5 hE)
  all_goals
    go_wp2_with fail
    go_ret
    exact ⟨_,rfl,H5.out.1,H5.out.2⟩
end
section
open Go.RowKit
set_option maxHeartbeats 1000000 in
set_option maxRecDepth 100000 in
theorem Rs.fits_sum (w : World) (ok : Rs.Ok w) (s x : ByteArray) (B n : Nat) (h1 : 1 ≤ B) (h2 : B ≤ 4096) (hx : x.size = n) (hn : n = (B + 7) / 8) (hn66 : 66 ≤ n) (sp : Nat) (hsp : sp + B = 8 * n) (_hsp7 : sp ≤ 7) (R A H S Z : ByteArray) (hRs : R.size = n - 1) (hA : R.extract 0 (n - 33) = A) (hH : R.extract (n - 33) (n - 1) = H)
    (hC : ∀ W,Calls Tryz.prog 26 #[.string x,.string ⟨#[188]⟩] W fun e w' => e = .returned (.tuple #[.string R,.bool true]) ∧ w' = W)
    (hS : ∀ W,Rs.Ok W → Calls Tryz.prog 27 #[.string A,.string H,.int .i64 (sp : Int)] W fun e w' => e = .returned (.tuple #[.string S,.nilIface]) ∧ Below W.heap.size W w')
    (hT : ∀ W,Calls Tryz.prog 28 #[.string s,.string S] W fun e w' => e = .returned (.string Z) ∧ Below W.heap.size W w') :
    Calls Tryz.prog 11 #[.string s,.string x,.int .i64 (B : Int)] w fun e w' => ((H = Z ∧ e = .returned .nilIface) ∨ (H ≠ Z ∧ ∃ v,e = .returned v ∧ Rs.Err w' v 42)) ∧ Below w.heap.size w w' := by
  have t1 : ¬ (B : Int) < 1 := by omega
  have t2 : ¬ (4096 : Int) < (B : Int) := by omega
  have hbi : (B : Int) ≤ 4096 := by omega
  have hbl : 1 ≤ (B : Int) := by omega
  have hzn : (x.size : Int) = (n : Int) := by omega
  have q1 : Int.tdiv ((B : Int) + 7) 8 = (n : Int) := by rw [Int.tdiv_eq_ediv_of_nonneg (by omega)]; omega
  have h66 : ¬ (n : Int) < 66 := by omega
  have hnb : (n : Int) ≤ 512 := by omega
  have hk : (n : Int) - 1 = ((n - 1 : Nat) : Int) := by omega
  obtain ⟨k,ek⟩ : ∃ k,n - 1 = k := ⟨_,rfl⟩
  rw [ek] at hRs hH
  have hRz : (R.size : Int) = (k : Int) := by omega
  obtain ⟨p,ep⟩ : ∃ p,n - 33 = p := ⟨_,rfl⟩
  rw [ep] at hA hH
  have hkp : (k : Int) - 32 = (p : Int) := by omega
  have hkb : (k : Int) ≤ 511 := by omega
  have hpb : (p : Int) ≤ 479 := by omega
  have hpk : (p : Int) ≤ (k : Int) := by omega
  have h8 : 8 * (n : Int) - (B : Int) = (sp : Int) := by omega
  have h8b : 8 * (n : Int) ≤ 4096 := by omega
  have hsb : (sp : Int) ≤ 7 := by omega
  have hw8 : IntKind.i64.wrap (8 * (n : Int)) = 8 * (n : Int) := by unfold IntKind.wrap; simp [IntKind.bits,IntKind.signed]; omega
  have hws : IntKind.i64.wrap (sp : Int) = (sp : Int) := by unfold IntKind.wrap; simp [IntKind.bits,IntKind.signed]; omega
  have HC := Lib.hid hC
  have HS := Lib.hid hS
  have HT := Lib.hid hT
  have HO := Lib.hid ok
  clear ok hC hS hT hx hn hk ek ep
  by_cases hE : H = Z
  · have t3 : (H.toList == Z.toList) = true := by rw [hE]; simp
    have t4 : (H.toList != Z.toList) = false := by rw [hE]; simp
    have HE := Lib.hid hE
    clear hE
    go_enter Tryz.func11,Tryz.ntmps11
    go_wp2_with fail
    go_at_call 26
    refine Calls.mono (HC.out _) ?_
    rintro e1 w1 ⟨rfl,rfl⟩
    go_upto_region 7 with fail
    go_region_with (go_at_call 27; refine Calls.mono (HS.out _ (HO.out.below (below_drewN (Below.refl _ _) 1))) ?_; rintro e5 w5 ⟨rfl,hb5⟩; have H5 := Lib.hid ((below_drewN (Below.refl w1.heap.size w1) 1).trans hb5); clear hb5)
    all_goals
      go_upto_region 10 with fail
      go_region_with (go_at_call 28; refine Calls.mono (HT.out _) ?_; rintro e6 w6 ⟨rfl,hb6⟩; have H6 := Lib.hid (H5.out.trans ((below_drewN (Below.refl w5.heap.size w5) 1).trans hb6 |>.mono H5.out.size)); clear hb6)
      all_goals
        go_wp2_with fail
        go_ret
        exact ⟨.inl ⟨HE.out,rfl⟩,H6.out⟩
  · have t3 : (H.toList == Z.toList) = false := by rw [beq_eq_false_iff_ne]; exact fun e => hE (by rwa [Rs.toList_inj] at e)
    have t4 : (H.toList != Z.toList) = true := by rw [bne,t3]; rfl
    have HE := Lib.hid hE
    clear hE
    go_enter Tryz.func11,Tryz.ntmps11
    go_wp2_with fail
    go_at_call 26
    refine Calls.mono (HC.out _) ?_
    rintro e1 w1 ⟨rfl,rfl⟩
    go_upto_region 7 with fail
    go_region_with (go_at_call 27; refine Calls.mono (HS.out _ (HO.out.below (below_drewN (Below.refl _ _) 1))) ?_; rintro e5 w5 ⟨rfl,hb5⟩; have H5 := Lib.hid ((below_drewN (Below.refl w1.heap.size w1) 1).trans hb5); clear hb5)
    all_goals
      go_upto_region 10 with fail
      go_region_with (go_at_call 28; refine Calls.mono (HT.out _) ?_; rintro e6 w6 ⟨rfl,hb6⟩; have H6 := Lib.hid (H5.out.trans ((below_drewN (Below.refl w5.heap.size w5) 1).trans hb6 |>.mono H5.out.size)); clear hb6)
      all_goals
        obtain ⟨u,hv⟩ := (HO.out.below H6.out).2 42 (by decide) (by decide)
        have hvx : w6.cell? ⟨2,0,none⟩ = some (.iface 200 (.pointer (some u))) := hv.var
        have HV := Lib.hid hv
        clear hv
        go_wp2_with fail
        go_ret
        exact ⟨.inr ⟨HE.out,_,rfl,.inr ⟨by decide,by decide,u,1,.about _ .leaf,HV.out⟩⟩,H6.out⟩
end
end
section
section
open Go.RowKit
theorem Rs.cut_iff (l : List UInt8) (f : Nat → Nat) (off k : Nat) (hl : l.length = k) (hf : ∀ j,f j < 256) : l = Rs.cut f off k ↔ ∀ j,j < k → Rs.at l j = f (off + j) := by
  constructor
  · intro e j hj
    rw [e]
    unfold Rs.at Rs.cut
    rw [List.getD_eq_getElem?_getD,List.getElem?_map,List.getElem?_range hj]
    show (UInt8.ofNat (f (off + j))).toNat = _
    exact UInt8.toNat_ofNat_of_lt' (hf _)
  · intro h
    apply List.ext_getElem (by rw [hl,Rs.cut_len])
    intro j h1 h2
    have := h j (hl ▸ h1)
    unfold Rs.at at this
    rw [List.getD_eq_getElem?_getD,List.getElem?_eq_getElem h1] at this
    simp only [Option.getD_some] at this
    have e : (Rs.cut f off k)[j] = UInt8.ofNat (f (off + j)) := by simp [Rs.cut]
    rw [e,← this,UInt8.ofNat_toNat]
theorem Rs.at_app_left (a b : List UInt8) (j : Nat) (h : j < a.length) : Rs.at (a ++ b) j = Rs.at a j := by
  unfold Rs.at
  rw [List.getD_eq_getElem?_getD,List.getD_eq_getElem?_getD,List.getElem?_append_left h]
theorem Rs.at_app_right (a b : List UInt8) (j : Nat) : Rs.at (a ++ b) (a.length + j) = Rs.at b j := by
  unfold Rs.at
  rw [List.getD_eq_getElem?_getD,List.getD_eq_getElem?_getD,List.getElem?_append_right (Nat.le_add_right _ _),Nat.add_sub_cancel_left]
theorem Rs.at_take (l : List UInt8) (k j : Nat) (h : j < k) : Rs.at (l.take k) j = Rs.at l j := by
  unfold Rs.at
  rw [List.getD_eq_getElem?_getD,List.getD_eq_getElem?_getD,List.getElem?_take_of_lt h]
theorem Rs.one_len (k : Nat) (h : 1 ≤ k) : (Rs.one k).length = k := by
  unfold Rs.one
  simp
  omega
/-- What stands ahead of the sum, without its mask. -/
def Rs.laidA (salt : List UInt8) (k : Nat) : List UInt8 := Rs.one k ++ salt
theorem Rs.at_one_zero (k : Nat) : Rs.at (Rs.one k) 0 ≤ 1 := by
  unfold Rs.at Rs.one
  rcases Nat.eq_zero_or_pos (k - 1) with h | h
  · rw [h]
    decide
  · obtain ⟨q,hq⟩ : ∃ q,k - 1 = q + 1 := ⟨k - 1 - 1,by omega⟩
    rw [hq,List.replicate_succ]
    exact Nat.zero_le 1
theorem Rs.byte0 (a m o sp : Nat) (hsp : sp ≤ 7) (ho : o ≤ 1) : a = (m ^^^ o) &&& (255 / 2 ^ sp) ↔ a / 2 ^ (8 - sp) = 0 ∧ o = (m ^^^ a) &&& (255 / 2 ^ sp) := by
  have e : 255 / 2 ^ sp = 2 ^ (8 - sp) - 1 := by
    have : sp = 0 ∨ sp = 1 ∨ sp = 2 ∨ sp = 3 ∨ sp = 4 ∨ sp = 5 ∨ sp = 6 ∨ sp = 7 := by omega
    rcases this with rfl | rfl | rfl | rfl | rfl | rfl | rfl | rfl <;> rfl
  have hp : 1 < 2 ^ (8 - sp) := Nat.one_lt_two_pow (by omega)
  rw [e,Nat.and_two_pow_sub_one_eq_mod,Nat.and_two_pow_sub_one_eq_mod,Nat.xor_mod_two_pow,Nat.xor_mod_two_pow]
  obtain ⟨P,hP⟩ : ∃ P,2 ^ (8 - sp) = P := ⟨_,rfl⟩
  have ho' : o % 2 ^ (8 - sp) = o := Nat.mod_eq_of_lt (by omega)
  rw [ho']
  constructor
  · intro h
    have hlt : a < 2 ^ (8 - sp) := by
      rw [h]
      exact Nat.xor_lt_two_pow (Nat.mod_lt _ (by omega)) (by omega)
    refine ⟨Nat.div_eq_of_lt hlt,?_⟩
    rw [Nat.mod_eq_of_lt hlt,h,← Nat.xor_assoc,Nat.xor_self,Nat.zero_xor]
  · rintro ⟨h1,h2⟩
    have hlt : a < 2 ^ (8 - sp) := by
      rcases Nat.lt_or_ge a (2 ^ (8 - sp)) with h | h
      · exact h
      · have := Nat.div_pos h (by omega)
        omega
    rw [Nat.mod_eq_of_lt hlt] at h2
    rw [h2,← Nat.xor_assoc,Nat.xor_self,Nat.zero_xor]
theorem Rs.xor_turn (a m o : Nat) : a = m ^^^ o ↔ o = m ^^^ a := by
  constructor <;> (rintro rfl; rw [← Nat.xor_assoc,Nat.xor_self,Nat.zero_xor])
/-- Byte by byte: what is laid of the salt and masked is A, just if what is unmasked of A begins as it must. -/
theorem Rs.ahead_iff (A : List UInt8) (m : Nat → Nat) (k sp : Nat) (hA : A.length = k + 32) (hk : 1 ≤ k) (hm : ∀ j,m j < 256) (hsp : sp ≤ 7) :
    A = Rs.cut (Rs.bf (Rs.at (Rs.laidA (Rs.cut (Rs.bf (Rs.at A) m sp) k 32) k)) m sp) 0 (k + 32) ↔
      Rs.at A 0 / 2 ^ (8 - sp) = 0 ∧ Rs.cut (Rs.bf (Rs.at A) m sp) 0 k = Rs.one k := by
  obtain ⟨S,hS⟩ : ∃ S,Rs.cut (Rs.bf (Rs.at A) m sp) k 32 = S := ⟨_,rfl⟩
  have hf := Rs.bf_lt (Rs.at A) m (Rs.at_lt A) hm sp
  have hs := (Rs.cut_iff S (Rs.bf (Rs.at A) m sp) k 32 (by rw [← hS]; exact Rs.cut_len _ _ _) hf).1 hS.symm
  rw [hS,Rs.cut_iff _ _ _ _ hA (Rs.bf_lt _ _ (Rs.at_lt _) hm sp),eq_comm (a := Rs.cut _ 0 k),Rs.cut_iff _ _ _ _ (Rs.one_len k hk) hf]
  have hl : ∀ j,j < k → Rs.at (Rs.laidA S k) j = Rs.at (Rs.one k) j := fun j hj => Rs.at_app_left _ _ _ (by rw [Rs.one_len k hk]; exact hj)
  have hr : ∀ j,Rs.at (Rs.laidA S k) (k + j) = Rs.at S j := fun j => by
    have := Rs.at_app_right (Rs.one k) S j
    rwa [Rs.one_len k hk] at this
  have b0 := Rs.byte0 (Rs.at A 0) (m 0) (Rs.at (Rs.one k) 0) sp hsp (Rs.at_one_zero k)
  constructor
  · intro h
    have h0 := h 0 (by omega)
    rw [Nat.zero_add] at h0
    unfold Rs.bf at h0
    rw [if_pos rfl,hl 0 (by omega)] at h0
    have h1 := b0.1 h0
    refine ⟨h1.1,fun j hj => ?_⟩
    rw [Nat.zero_add]
    unfold Rs.bf
    by_cases e : j = 0
    · rw [if_pos e,e]
      exact h1.2
    · rw [if_neg e]
      have h2 := h j (by omega)
      rw [Nat.zero_add] at h2
      unfold Rs.bf at h2
      rw [if_neg e,hl j hj] at h2
      exact (Rs.xor_turn _ _ _).1 h2
  · rintro ⟨h0,h1⟩ j hj
    rw [Nat.zero_add]
    by_cases e : j = 0
    · subst e
      unfold Rs.bf
      rw [if_pos rfl,hl 0 (by omega)]
      have h2 := h1 0 (by omega)
      rw [Nat.zero_add] at h2
      unfold Rs.bf at h2
      rw [if_pos rfl] at h2
      exact b0.2 ⟨h0,h2⟩
    · unfold Rs.bf
      rw [if_neg e]
      by_cases hjk : j < k
      · rw [hl j hjk]
        have h2 := h1 j hjk
        rw [Nat.zero_add] at h2
        unfold Rs.bf at h2
        rw [if_neg e] at h2
        exact (Rs.xor_turn _ _ _).2 h2
      · obtain ⟨i,rfl⟩ : ∃ i,j = k + i := ⟨j - k,by omega⟩
        rw [hr i,hs i (by omega)]
        unfold Rs.bf
        rw [if_neg e,← Nat.xor_assoc,Nat.xor_self,Nat.zero_xor]

/-- A mask's bytes. -/
def Rs.mk (h : List UInt8) (k : Nat) : Nat → Nat := Rs.at ((Rs.maskL h 17).take k)
theorem Rs.mk_lt (h : List UInt8) (k j : Nat) : Rs.mk h k j < 256 := Rs.at_lt _ _
/-- What is unmasked of a block. -/
def Rs.bare (x : List UInt8) (n sp : Nat) : Nat → Nat := Rs.bf (Rs.at (x.take (n - 33))) (Rs.mk ((x.drop (n - 33)).take 32) (n - 33)) sp
def Rs.saltIn (x : List UInt8) (n sp : Nat) : List UInt8 := Rs.cut (Rs.bare x n sp) (n - 65) 32
theorem Rs.saltIn_len (x : List UInt8) (n sp : Nat) : (Rs.saltIn x n sp).length = 32 := Rs.cut_len _ _ _
/-- The bytes ahead of the sum, masked. -/
def Rs.masked (h salt : List UInt8) (n sp : Nat) : List UInt8 := Rs.cut (Rs.bf (Rs.at (Rs.laidA salt (n - 65))) (Rs.mk h (n - 33)) sp) 0 (n - 33)
/-- The block of s with a salt. -/
def Rs.pss (s salt : List UInt8) (n sp : Nat) : List UInt8 := Rs.masked (Rs.inner s salt) salt n sp ++ Rs.inner s salt ++ [188]
/-- What the program asks of a block. -/
def Rs.asks (s x : List UInt8) (n sp : Nat) : Prop := x.drop (n - 1) = [188] ∧ Rs.at (x.take (n - 33)) 0 / 2 ^ (8 - sp) = 0 ∧ Rs.cut (Rs.bare x n sp) 0 (n - 65) = Rs.one (n - 65) ∧ (x.drop (n - 33)).take 32 = Rs.inner s (Rs.saltIn x n sp)
theorem Rs.pss_iff (s x : List UInt8) (n sp : Nat) (hx : x.length = n) (hn : 66 ≤ n) (hsp : sp ≤ 7) : x = Rs.pss s (Rs.saltIn x n sp) n sp ↔ Rs.asks s x n sp := by
  obtain ⟨S,hS⟩ : ∃ S,Rs.saltIn x n sp = S := ⟨_,rfl⟩
  have hx3 : x = x.take (n - 33) ++ (x.drop (n - 33)).take 32 ++ x.drop (n - 1) := by
    have e : x.drop (n - 1) = (x.drop (n - 33)).drop 32 := by rw [List.drop_drop,show n - 33 + 32 = n - 1 by omega]
    rw [e,List.append_assoc,List.take_append_drop,List.take_append_drop]
  have hA : (x.take (n - 33)).length = n - 65 + 32 := by rw [List.length_take]; omega
  have hAi := Rs.ahead_iff (x.take (n - 33)) (Rs.mk ((x.drop (n - 33)).take 32) (n - 33)) (n - 65) sp hA (by omega) (Rs.mk_lt _ _) hsp
  rw [show n - 65 + 32 = n - 33 by omega] at hAi
  have hAi : x.take (n - 33) = Rs.masked ((x.drop (n - 33)).take 32) (Rs.saltIn x n sp) n sp ↔ Rs.at (x.take (n - 33)) 0 / 2 ^ (8 - sp) = 0 ∧ Rs.cut (Rs.bare x n sp) 0 (n - 65) = Rs.one (n - 65) := hAi
  have hH : ((x.drop (n - 33)).take 32).length = 32 := by rw [List.length_take,List.length_drop]; omega
  unfold Rs.asks
  rw [hS] at hAi ⊢
  have hi := Rs.inner_len s S
  have hm : (Rs.masked (Rs.inner s S) S n sp).length = n - 33 := Rs.cut_len _ _ _
  constructor
  · intro h
    rw [hx3] at h
    unfold Rs.pss at h
    obtain ⟨h1,h2⟩ := List.append_inj h (by rw [List.length_append,List.length_append,hA,hH,hm,hi]; omega)
    obtain ⟨h3,h4⟩ := List.append_inj h1 (by rw [hA,hm]; omega)
    rw [← h4] at h3
    exact ⟨h2,(hAi.1 h3).1,(hAi.1 h3).2,h4⟩
  · rintro ⟨h1,h2,h3,h4⟩
    have h5 := hAi.2 ⟨h2,h3⟩
    unfold Rs.pss
    rw [← h4,← h1,← h5]
    exact hx3
theorem Rs.ba_len (x : ByteArray) : x.data.toList.length = x.size := by simp
end
section
open Go.RowKit
/-- Does a block fit? -/
def Rs.fitP (s x : ByteArray) (b : Int) : Prop := 1 ≤ b ∧ b ≤ 4096 ∧ (x.size : Int) = (b + 7) / 8 ∧ 66 ≤ x.size ∧ x.data.toList = Rs.pss s.data.toList (Rs.saltIn x.data.toList x.size (8 * x.size - b.toNat)) x.size (8 * x.size - b.toNat)
theorem Rs.ext_ba {a b : ByteArray} (h : a.data.toList = b.data.toList) : a = b := by
  apply ByteArray.ext
  rw [← Array.toList_inj]
  exact h
set_option maxHeartbeats 1000000 in
theorem Rs.fits_any (w : World) (ok : Rs.Ok w) (s x : ByteArray) (b : Int) (hs : s.size ≤ 1152921504606840000) (hxs : x.size ≤ 1152921504606840000) :
    Calls Tryz.prog 11 #[.string s,.string x,.int .i64 b] w fun e w' => ∃ v,e = .returned v ∧ ((Rs.fitP s x b ∧ v = .nilIface) ∨ (¬ Rs.fitP s x b ∧ Rs.Err w' v 42)) ∧ Below w.heap.size w w' := by
  by_cases hl : b < 1 ∨ (1 ≤ b ∧ 4096 < b) ∨ (1 ≤ b ∧ b ≤ 4096 ∧ (x.size : Int) ≠ (b + 7) / 8) ∨ (1 ≤ b ∧ b ≤ 4096 ∧ (x.size : Int) = (b + 7) / 8 ∧ (x.size : Int) < 66)
  · refine (Rs.fits_len w ok s x b hl).mono ?_
    rintro e w' ⟨v,he,hE,hb⟩
    exact ⟨v,he,.inr ⟨fun h => by obtain ⟨h1,h2,h3,h4,_⟩ := h; omega,hE⟩,hb⟩
  · have h1 : 1 ≤ b := by omega
    have h2 : b ≤ 4096 := by omega
    have h3 : (x.size : Int) = (b + 7) / 8 := by omega
    have h4 : 66 ≤ x.size := by omega
    clear hl
    obtain ⟨B,rfl⟩ : ∃ B : Nat,b = (B : Int) := ⟨b.toNat,by omega⟩
    obtain ⟨n,hn⟩ : ∃ n,x.size = n := ⟨_,rfl⟩
    have hnl : x.data.toList.length = n := by rw [Rs.ba_len,hn]
    obtain ⟨sp,hsp⟩ : ∃ sp,sp + B = 8 * n := ⟨8 * n - B,by omega⟩
    have hsp7 : sp ≤ 7 := by omega
    have h4n : 66 ≤ n := by omega
    have hnB : n = (B + 7) / 8 := by omega
    have hn512 : n ≤ 512 := by omega
    have hP : Rs.fitP s x (B : Int) ↔ Rs.asks s.data.toList x.data.toList n sp := by
      rw [← Rs.pss_iff _ _ n sp hnl h4n hsp7]
      unfold Rs.fitP
      rw [hn,show 8 * n - (B : Int).toNat = sp by omega]
      exact ⟨fun h => h.2.2.2.2,fun h => ⟨h1,h2,by omega,h4n,h⟩⟩
    simp only [hP]
    have hC := fun W => Rs.cutEnd x _ W (by omega) hxs rfl
    obtain ⟨t,ht⟩ : ∃ t,x.extract (x.size - 1) x.size = t := ⟨_,rfl⟩
    rw [ht] at hC
    have htl : t.toList = x.data.toList.drop (n - 1) := by
      rw [ByteArray.toList_eq,← ht,Hs.ext_list,hn,List.take_of_length_le (by rw [List.length_drop]; omega)]
    by_cases hc : t.toList = [188]
    · have hb : (t.toList == [188]) = true := by rw [hc]; rfl
      rw [hb,hn] at hC
      simp only [if_true] at hC
      rw [htl] at hc
      obtain ⟨R,hR⟩ : ∃ R,x.extract 0 (n - 1) = R := ⟨_,rfl⟩
      rw [hR] at hC
      have hRl : R.data.toList = x.data.toList.take (n - 1) := by rw [← hR,Hs.ext_list,List.drop_zero,Nat.sub_zero]
      have hRs : R.size = n - 1 := by rw [← Rs.ba_len,hRl,List.length_take]; omega
      obtain ⟨A,hA⟩ : ∃ A,R.extract 0 (n - 33) = A := ⟨_,rfl⟩
      obtain ⟨H,hH⟩ : ∃ H,R.extract (n - 33) (n - 1) = H := ⟨_,rfl⟩
      have hAl : A.data.toList = x.data.toList.take (n - 33) := by rw [← hA,Hs.ext_list,hRl,List.drop_zero,Nat.sub_zero,List.take_take,Nat.min_eq_left (by omega)]
      have hAs : A.size = n - 33 := by rw [← Rs.ba_len,hAl,List.length_take]; omega
      have hHl : H.data.toList = (x.data.toList.drop (n - 33)).take 32 := by rw [← hH,Hs.ext_list,hRl,List.drop_take,List.take_take,show min (n - 1 - (n - 33)) (n - 1 - (n - 33)) = 32 by omega]
      have hHs : H.size ≤ 1024 := by rw [← Rs.ba_len,hHl,List.length_take]; omega
      have hbare : Rs.bf (Rs.at A.data.toList) (Rs.at (Rs.mask H (n - 33)).data.toList) sp = Rs.bare x.data.toList n sp := by
        unfold Rs.bare Rs.mk
        rw [← hAl,← hHl]
        rfl
      have e65 : n - 33 - 32 = n - 65 := by omega
      by_cases hh : Rs.at A.data.toList 0 / 2 ^ (8 - sp) = 0
      · have L := fun W oW => Rs.saltOf_low W oW A H (n - 33) sp hAs (by omega) (by omega) hsp7 hHs hh
        rw [hbare,e65] at L
        rw [hAl] at hh
        by_cases hcut : Rs.cut (Rs.bare x.data.toList n sp) 0 (n - 65) = Rs.one (n - 65)
        · have hsl : (Tx.ba (Rs.cut (Rs.bare x.data.toList n sp) (n - 65) 32)).size = 32 := Rs.cut_len _ _ _
          refine (Rs.fits_sum w ok s x B n (by omega) (by omega) hn hnB h4n sp hsp hsp7 R A H _ _ hRs hA hH hC (fun W oW => (L W oW).mono (by
            rintro e w' ⟨h | h,hb⟩
            · exact ⟨h.2,hb⟩
            · exact absurd hcut h.1)) (fun W => Rs.saltedSum_any W s (Tx.ba (Rs.cut (Rs.bare x.data.toList n sp) (n - 65) 32)) hs (by omega))).mono ?_
          rintro e w' ⟨⟨hE,he⟩ | ⟨hE,v,he,hErr⟩,hbl⟩
          · exact ⟨_,he,.inl ⟨⟨hc,hh,hcut,by rw [← hHl,hE]; rfl⟩,rfl⟩,hbl⟩
          · refine ⟨v,he,.inr ⟨fun h => hE ?_,hErr⟩,hbl⟩
            apply Rs.ext_ba
            rw [hHl,h.2.2.2]
            rfl
        · refine (Rs.fits_salt w ok s x B n (by omega) (by omega) hn hnB h4n sp hsp hsp7 R A H hRs hA hH hC (fun W oW => (L W oW).mono (by
            rintro e w' ⟨h | h,hb⟩
            · exact absurd h.1 hcut
            · obtain ⟨_,v,he,hErr⟩ := h
              exact ⟨v,he,hErr,hb⟩))).mono ?_
          rintro e w' ⟨v,he,hErr,hbl⟩
          exact ⟨v,he,.inr ⟨fun h => hcut h.2.2.1,hErr⟩,hbl⟩
      · refine (Rs.fits_salt w ok s x B n (by omega) (by omega) hn hnB h4n sp hsp hsp7 R A H hRs hA hH hC (fun W oW => Rs.saltOf_high W oW A H (n - 33) sp hAs (by omega) (by omega) hsp7 hh)).mono ?_
        rintro e w' ⟨v,he,hErr,hbl⟩
        rw [hAl] at hh
        exact ⟨v,he,.inr ⟨fun h => hh h.2.1,hErr⟩,hbl⟩
    · have hb : (t.toList == [188]) = false := by rw [beq_eq_false_iff_ne]; exact hc
      rw [hb] at hC
      simp only [Bool.false_eq_true,if_false] at hC
      rw [htl] at hc
      refine (Rs.fits_end w ok s x B n (by omega) (by omega) hn hnB h4n hC).mono ?_
      rintro e w' ⟨v,he,hErr,hbl⟩
      exact ⟨v,he,.inr ⟨fun h => hc h.1,hErr⟩,hbl⟩
end
end
end Go.Proofs.YthlecdggkolgmaaGreatDoor
