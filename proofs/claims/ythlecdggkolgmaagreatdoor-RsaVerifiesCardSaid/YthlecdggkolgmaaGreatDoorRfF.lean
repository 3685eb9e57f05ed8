/- The reference's bytes of a word, the greatest first: bytes. -/
import Derived.Test.YthlecdggkolgmaaGreatDoorRfB
namespace Go.Proofs.YthlecdggkolgmaaGreatDoor
section
open Go.RowKit

theorem Vl.val_mod (B : Nat) (hB : 0 < B) (f : Nat → Nat) (hf : ∀ j,f j < B) (m : Nat) : ∀ n,m ≤ n → Vl.val B f n % B ^ m = Vl.val B f m
  | 0,h => by
    obtain rfl : m = 0 := by omega
    simp [Vl.val]
  | n + 1,h => by
    by_cases hm : m = n + 1
    · rw [hm]; exact Nat.mod_eq_of_lt (Vl.val_lt B hB f (n + 1) (fun j _ => hf j))
    · rw [Vl.val,show n = m + (n - m) by omega,Nat.pow_add,Nat.mul_left_comm,Nat.add_mul_mod_self_left,show m + (n - m) = n by omega]
      exact Vl.val_mod B hB f hf m n (by omega)
/-- The root under way: r in five digits, its bits below m are nought. -/
structure Rf.Rt (w : World) (q m r : Nat) (fr : Nat → Nat) (wr : World) : Prop where
  out : Rf.Out w q 5 5 fr wr
  val : Vl.val 65536 fr 5 = r
  dvd : ∀ j,j < 5 → 2 ^ (m - 16 * j) ∣ fr j
theorem Rf.Out.below {w : World} {q n z : Nat} {fo : Nat → Nat} {wr w' : World} (h : Rf.Out w q n z fo wr) (B : Nat) (hb : Below B wr w') (hB : B = wr.heap.size) : Rf.Out w q n z fo w' := by
  subst hB
  exact ⟨h.blk.below hb h.blk.lt,h.dig,h.zero,h.lo,h.B.trans (hb.mono h.B.size)⟩
theorem Rf.Rt.below {w : World} {q m r : Nat} {fr : Nat → Nat} {wr w' : World} (h : Rf.Rt w q m r fr wr) (B : Nat) (hb : Below B wr w') (hB : B = wr.heap.size) : Rf.Rt w q m r fr w' := ⟨h.out.below B hb hB,h.val,h.dvd⟩
theorem Rf.Rt.back {w : World} {q m r : Nat} {fr : Nat → Nat} {wr W : World} (h : Rf.Rt w q (m + 1) r fr wr) (hO : Rf.Out w q 5 5 fr W) : Rf.Rt w q m r fr W := ⟨hO,h.val,fun j hj => Nat.dvd_trans (Nat.pow_dvd_pow 2 (by omega)) (h.dvd j hj)⟩
theorem Rf.Out.congr {w : World} {q n z : Nat} {fo fo' : Nat → Nat} {wr : World} (h : Rf.Out w q n z fo wr) (he : ∀ j,fo j = fo' j) : Rf.Out w q n z fo' wr := by
  obtain rfl : fo = fo' := funext he
  exact h
theorem Rf.bit_fits (x e : Nat) (he : e < 16) (hx : x < 65536) (h : 2 ^ (e + 1) ∣ x) : x + 2 ^ e < 65536 := by
  obtain ⟨k,rfl⟩ := h
  have h1 : (65536 : Nat) = 2 ^ (e + 1) * 2 ^ (15 - e) := by rw [← Nat.pow_add,show e + 1 + (15 - e) = 16 by omega]
  rw [h1] at hx ⊢
  have hk : k < 2 ^ (15 - e) := Nat.lt_of_mul_lt_mul_left hx
  have h2 : 2 ^ (e + 1) * (k + 1) ≤ 2 ^ (e + 1) * 2 ^ (15 - e) := Nat.mul_le_mul_left _ hk
  rw [Nat.mul_add,Nat.mul_one] at h2
  have h3 : 2 ^ e < 2 ^ (e + 1) := Nat.pow_lt_pow_right (by decide) (by omega)
  omega
theorem Rf.Rt.step {w : World} {q m r : Nat} {fr : Nat → Nat} {wr : World} (h : Rf.Rt w q (m + 1) r fr wr) (hm : m < 80) (w2 : World) (hw : Rf.Out w q 5 5 (Vl.upd fr (m / 16) (fr (m / 16) + 2 ^ (m % 16))) w2) : Rf.Rt w q m (r + 2 ^ m) (Vl.upd fr (m / 16) (fr (m / 16) + 2 ^ (m % 16))) w2 := by
  refine ⟨hw,?_,fun j hj => ?_⟩
  · have h1 := Vl.val_upd 65536 fr (m / 16) (fr (m / 16) + 2 ^ (m % 16)) 5 (by omega)
    rw [Nat.add_mul,h.val] at h1
    have h2 : 2 ^ (m % 16) * 65536 ^ (m / 16) = 2 ^ m := by
      rw [show (65536 : Nat) = 2 ^ 16 by decide,← Nat.pow_mul,← Nat.pow_add,show m % 16 + 16 * (m / 16) = m by omega]
    rw [h2] at h1
    omega
  · unfold Vl.upd
    split
    · rename_i hj
      have h1 := h.dvd (m / 16) (by omega)
      rw [hj]
      have e1 : m + 1 - 16 * (m / 16) = m % 16 + 1 := by omega
      have e2 : m - 16 * (m / 16) = m % 16 := by omega
      rw [e1] at h1
      rw [e2]
      exact Nat.dvd_add (Nat.dvd_trans (Nat.pow_dvd_pow 2 (by omega)) h1) (Nat.dvd_refl _)
    · exact Nat.dvd_trans (Nat.pow_dvd_pow 2 (by omega)) (h.dvd j hj)
set_option maxHeartbeats 400000 in
set_option maxRecDepth 100000 in
theorem Rf.root_any (w : World) (p k c : Nat) (hp : p < 65536) (hk0 : 2 ≤ k) (hk3 : k ≤ 3) (hc0 : 2 ≤ c) (hc4 : c ≤ 4) (hkc : k * c < 5 * k + 1) :
    Calls Tryz.prog 51 #[.int .u64 (p : Int),.int .i64 (k : Int),.int .i64 ((16 * c : Nat) : Int)] w fun e w' => ∃ r,e = .returned (.int .u64 ((r % 65536 ^ c : Nat) : Int)) ∧ r ^ k ≤ p * 65536 ^ (k * c) ∧ p * 65536 ^ (k * c) < (r + 1) ^ k ∧ Below w.heap.size w w' := by
  obtain ⟨s,hs⟩ : ∃ s,16 * c = s := ⟨_,rfl⟩
  rw [hs]
  have hs2 : s ≤ 64 := by omega
  obtain ⟨o,ho⟩ : ∃ o,k * c = o := ⟨_,rfl⟩
  have hol : o < 1 + 5 * k := by omega
  have hsk : k * s = 16 * o := by rw [← hs,← ho,Nat.mul_left_comm]
  have ho16 : o ≤ 15 := by omega
  have hw1 : wrap64 ((k : Int) * (s : Int)) = ((16 * o : Nat) : Int) := by
    rw [show (k : Int) * (s : Int) = ((k * s : Nat) : Int) by simp,hsk]
    unfold wrap64; omega
  obtain ⟨t,ht⟩ : ∃ t,16 * o = t := ⟨_,rfl⟩
  rw [ht] at hw1
  have hw2 : (t : Int).tdiv 16 = (o : Int) := by rw [Int.tdiv_eq_ediv_of_nonneg (by omega)]; omega
  have hw3 : wrap64 (o : Int) = (o : Int) := by unfold wrap64; omega
  have HO := Lib.hid (And.intro ho hsk)
  have HP := Lib.hid (And.intro hkc hs)
  rw [ho]
  clear ht ho hsk hkc hs
  go_enter Tryz.func51,Tryz.ntmps51
  go_wp2_with (at_make; refine Rf.wpList_make rfl _ _ rfl 5 5 rfl rfl (Nat.le_refl _) (by decide) ?_)
  have hO : Rf.Out w w.heap.size 5 5 (fun _ => 0) (w.alloc (.cells (Hs.fn 5 (fun _ => .int .u64 0)) 76)) := ⟨heap_alloc_new _ _,fun _ => by decide,fun _ _ => rfl,Nat.le_refl _,(Below.refl _ _).alloc (Nat.le_refl _) _⟩
  obtain ⟨q,hq⟩ : ∃ q,w.heap.size = q := ⟨_,rfl⟩
  rw [hq] at hO ⊢
  generalize w.alloc (.cells (Hs.fn 5 (fun _ => .int .u64 0)) 76) = w1 at hO ⊢
  go_loopw [8] (fun iv wr => ∃ (m r : Nat) (z : Int) (fr : Nat → Nat),m ≤ s + 9 ∧ iv = .int .i64 z ∧ z = (m : Int) - 1 ∧ Rf.Rt w q m r fr wr ∧ r ^ k ≤ p * 65536 ^ o ∧ p * 65536 ^ o < (r + 2 ^ m) ^ k) (fun iv _ => (intOf iv + 1).toNat)
  case atStart =>
    refine ⟨s + 9,0,(s : Int) + 8,_,Nat.le_refl _,by first | rfl | (congr 1),by omega,⟨hO,Vl.val_zero _ _ _ (fun _ _ => rfl),fun j _ => Nat.dvd_zero _⟩,?_,?_⟩
    · rw [Nat.zero_pow (by omega)]; exact Nat.zero_le _
    · have h1 : p < 2 ^ (9 * k) := Nat.lt_of_lt_of_le hp (Nat.le_trans (show 65536 ≤ 2 ^ 18 by decide) (Nat.pow_le_pow_right (by decide) (by omega)))
      have h2 : (2 ^ (s + 9)) ^ k = 2 ^ (9 * k) * 65536 ^ o := by
        rw [← Nat.pow_mul,show (s + 9) * k = 9 * k + 16 * o by rw [Nat.add_mul,Nat.mul_comm s k,HO.out.2,Nat.add_comm],Nat.pow_add,Nat.pow_mul 2 16 o]
      rw [Nat.zero_add,h2]
      have h3 : (p + 1) * 65536 ^ o ≤ 2 ^ (9 * k) * 65536 ^ o := Nat.mul_le_mul_right _ h1
      rw [Nat.add_mul,Nat.one_mul] at h3
      have h4 : 0 < 65536 ^ o := Nat.pow_pos (by decide)
      omega
  case round =>
  clear hO
  obtain ⟨m,r,z,fr,hm,rfl,hz,hT,hlo,hhi⟩ := hrel
  obtain ⟨w2,rfl⟩ : ∃ w2,w2 = wr := ⟨_,rfl⟩
  by_cases hm0 : m = 0
  · subst hm0
    have hz0 : ¬ 0 ≤ z := by omega
    have hs16 : (s : Int).tdiv 16 = (c : Int) := by rw [Int.tdiv_eq_ediv_of_nonneg (by omega)]; have := HP.out.2; omega
    have HB := Lib.hid (And.intro hlo hhi)
    clear hz hlo hhi hm
    go_wp2_with fail
    go_loopw [11,12] (fun av iv wr => ∃ (j acc : Nat) (z : Int),j ≤ c ∧ av = .int .u64 (acc : Int) ∧ iv = .int .i64 z ∧ z = (j : Int) - 1 ∧ acc < 65536 ^ (c - j) ∧ acc * 65536 ^ j + Vl.val 65536 fr j = Vl.val 65536 fr c ∧ wr = w2) (fun _ iv _ => (intOf iv + 1).toNat)
    case atStart => exact ⟨c,0,(c : Int) - 1,Nat.le_refl _,rfl,rfl,rfl,by rw [Nat.sub_self]; decide,by rw [Nat.zero_mul,Nat.zero_add],rfl⟩
    case round =>
    obtain ⟨j,acc,z2,hj,rfl,rfl,hz2,hacc,hval,rfl⟩ := hrel
    by_cases hj0 : j = 0
    · subst hj0
      have hz4 : ¬ 0 ≤ z2 := by omega
      have HV := Lib.hid (And.intro hval hacc)
      clear hz2 hval hacc
      go_wp2_with fail
      go_ret
      have hfin : r % 65536 ^ c = acc := by
        have h1 := Vl.val_mod 65536 (by decide) fr hT.out.dig c 5 (by omega)
        rw [hT.val] at h1
        rw [h1,← HV.out.1]; simp [Vl.val]
      have hfinI : ((r : Int) % 65536 ^ c) = (acc : Int) := by rw [← hfin]; simp
      exact ⟨r,by first | (rw [hfinI]; rfl) | (rw [hfin]; rfl),HB.out.1,by have := HB.out.2; rwa [Nat.pow_zero] at this,by rw [← hq]; exact hT.out.B⟩
    · obtain ⟨i,rfl⟩ : ∃ i,j = i + 1 := ⟨j - 1,by omega⟩
      have hzi : z2 = (i : Int) := by omega
      subst hzi
      have hi0 : 0 ≤ (i : Int) := by omega
      have hi5 : (i : Int) < 5 := by omega
      have ci := hT.out.blk.cell (j := i) (by omega)
      have hy := hT.out.dig i
      have HV := Lib.hid (And.intro hval hacc)
      clear hz2 hval hacc hj0
      obtain ⟨y,hyy⟩ : ∃ y,fr i = y := ⟨_,rfl⟩
      rw [hyy] at ci hy
      have HY := Lib.hid hyy
      have hacc3 : acc < 65536 ^ 3 := Nat.lt_of_lt_of_le HV.out.2 (Nat.pow_le_pow_right (by decide) (by omega))
      rw [show 65536 ^ 3 = 281474976710656 by decide] at hacc3
      have hwr : IntKind.u64.wrap ((acc : Int) * 65536) = ((acc * 65536 : Nat) : Int) := by rw [IntWalk.u64_in _ (by omega)]; omega
      have hor0 := u64_or_nat (acc * 65536) y (by omega) (by omega)
      rw [show acc * 65536 ||| y = acc * 65536 + y by
        have h1 := Nat.shiftLeft_add_eq_or_of_lt (show y < 2 ^ 16 by omega) acc
        rw [Nat.shiftLeft_eq] at h1
        exact h1.symm] at hor0
      obtain ⟨u,hu⟩ : ∃ u,acc * 65536 = u := ⟨_,rfl⟩
      rw [hu] at hwr hor0
      obtain ⟨n,hn⟩ : ∃ n,u + y = n := ⟨_,rfl⟩
      rw [hn] at hor0
      have HN := Lib.hid (show acc * 65536 + y = n by rw [hu,hn])
      clear hyy hu hn hacc3
      go_wp2_with fail
      refine ⟨⟨i,n,(i : Int) - 1,by omega,rfl,rfl,rfl,?_,?_,trivial⟩,by simp [intOf]⟩
      · have h1 := HV.out.2
        rw [show c - i = (c - (i + 1)) + 1 by omega,Nat.pow_succ]
        have h2 : (acc + 1) * 65536 ≤ 65536 ^ (c - (i + 1)) * 65536 := Nat.mul_le_mul_right _ h1
        have := HN.out
        omega
      · have h := HV.out.1
        rw [Vl.val,HY.out] at h
        rw [← HN.out,Nat.add_mul,Nat.mul_assoc,← Nat.pow_succ',Nat.add_assoc,Nat.add_comm (y * 65536 ^ i)]
        exact h
  · obtain ⟨b,rfl⟩ : ∃ b,m = b + 1 := ⟨m - 1,by omega⟩
    have hzb : z = (b : Int) := by omega
    subst hzb
    have hb0 : 0 ≤ (b : Int) := by omega
    have HB := Lib.hid (And.intro hlo hhi)
    clear hz hm0 hlo hhi
    have hfit := Rf.bit_fits (fr (b / 16)) (b % 16) (by omega) (hT.out.dig _) (by have := hT.dvd (b / 16) (by omega); rwa [show b + 1 - 16 * (b / 16) = b % 16 + 1 by omega] at this)
    obtain ⟨d,hd⟩ : ∃ d,b / 16 = d := ⟨_,rfl⟩
    obtain ⟨e,he⟩ : ∃ e,b % 16 = e := ⟨_,rfl⟩
    have hd5 : d < 5 := by omega
    have he16 : e < 16 := by omega
    have tq : (b : Int).tdiv 16 = (d : Int) := by rw [Int.tdiv_eq_ediv_of_nonneg hb0]; omega
    have tr : (b : Int).tmod 16 = (e : Int) := by rw [Int.tmod_eq_emod_of_nonneg hb0]; omega
    have td0 : 0 ≤ (d : Int) := by omega
    have td5 : (d : Int) < 5 := by omega
    have te0 : 0 ≤ (e : Int) := by omega
    have te1 : ¬ (e : Int) < 0 := by omega
    rw [hd,he] at hfit
    have hT2 : ∀ v W,v = fr d + 2 ^ e → Rf.Out w q 5 5 (Vl.upd fr d v) W → Rf.Rt w q b (r + 2 ^ b) (Vl.upd fr d v) W := by
      intro v W hv hW
      have := hT.step (by omega) W (by rw [hd,he,← hv]; exact hW)
      rwa [hd,he,← hv] at this
    have HT2 := Lib.hid hT2
    have hg1 : (2 : Nat) ^ e ≤ 32768 := Nat.le_trans (Nat.pow_le_pow_right (by decide) (show e ≤ 15 by omega)) (by decide)
    have hg2 : ((2 : Int) ^ e) = ((2 ^ e : Nat) : Int) := by simp
    obtain ⟨g,hg⟩ : ∃ g,2 ^ e = g := ⟨_,rfl⟩
    rw [hg] at hg1 hg2 hfit
    have hgw : IntKind.u64.wrap ((2 : Int) ^ e) = (g : Int) := by rw [hg2,IntWalk.u64_in _ (by omega)]
    have HDE := Lib.hid (And.intro hd (And.intro he hg))
    clear hd he hT2 hg hg2
    have cq := hT.out.blk.cell (j := d) hd5
    have fq := Hs.Blk.frozen hT.out.blk d
    obtain ⟨x,hx⟩ : ∃ x,fr d = x := ⟨_,rfl⟩
    rw [hx] at cq hfit
    have HXX := Lib.hid hx
    obtain ⟨v,hv⟩ : ∃ v,x + g = v := ⟨_,rfl⟩
    have hvw : IntKind.u64.wrap ((x : Int) + (g : Int)) = (v : Int) := by rw [IntWalk.u64_in _ (by omega)]; omega
    have hvb : v < 65536 := by omega
    have HVV := Lib.hid hv
    clear hx hv
    have hO3 := hT.out.set d v 5 hvb (Nat.le_refl _) hd5
    go_wp2_with fail
    go_region
    have hT3 := HT2.out v _ (by rw [← HVV.out,HXX.out,HDE.out.2.2]) (hO3.drewN 1)
    obtain ⟨R,hR⟩ : ∃ R,r + 2 ^ b = R := ⟨_,rfl⟩
    rw [hR] at hT3
    obtain ⟨fr3,hfr3⟩ : ∃ fr3,Vl.upd fr d v = fr3 := ⟨_,rfl⟩
    rw [hfr3] at hT3
    have e0 : (w2.setCell ⟨q,d,none⟩ (.int .u64 (v : Int))).drewN 1 = (w2.setCell ⟨q,d,none⟩ (.int .u64 (v : Int))).drew := rfl
    rw [e0] at hT3
    clear hO3 e0 cq fq
    generalize (w2.setCell ⟨q,d,none⟩ (.int .u64 (v : Int))).drew = w3 at hT3 ⊢
    go_wp2_with fail
    have hB4 : Hs.Blk (w3.alloc (Obj.cells #[Value.int .u64 1] 76)) w3.heap.size 76 1 (fun _ => .int .u64 ((1 : Nat) : Int)) := heap_alloc_new _ _
    have hT4 := hT3.below w3.heap.size ((Below.refl _ _).alloc (Nat.le_refl _) (Obj.cells #[Value.int .u64 1] 76)) rfl
    generalize w3.alloc (Obj.cells #[Value.int .u64 1] 76) = w4 at hB4 hT4 ⊢
    generalize w3.heap.size = q1 at hB4 ⊢
    have HTo := Lib.hid hT
    clear hT3 hT
    go_loopw [9,10] (fun pv iv wr => ∃ (i l qp : Nat) (fp : Nat → Nat),i ≤ k ∧ pv = .slice (some ⟨qp,0,none⟩) l l ∧ iv = .int .i64 (i : Int) ∧ l = 1 + 5 * i ∧ Rf.Dig wr qp l fp ∧ (∀ j,fp j < 65536) ∧ Vl.val 65536 fp l = R ^ i ∧ Rf.Rt w q b R fr3 wr) (fun _ iv _ => k - (intOf iv).toNat)
    case atStart => exact ⟨0,1,q1,fun _ => 1,by omega,rfl,rfl,rfl,⟨fun j hj => hB4.cell hj,hB4.lt⟩,fun _ => by show 1 < 65536; decide,by simp [Vl.val],hT4⟩
    case round =>
    clear hT4 hB4
    obtain ⟨i,l,qp,fp,hi,rfl,rfl,hl,hD,hfp,hv,hT⟩ := hrel
    obtain ⟨w5,rfl⟩ : ∃ w5,w5 = wr := ⟨_,rfl⟩
    have hl2 : l ≤ 1000 := by omega
    have HL := Lib.hid (And.intro hl hv)
    clear hl hv
    by_cases hik : i < k
    · have hikz : (i : Int) < (k : Int) := by omega
      have CT := Lib.hid (Rf.times_any w5 qp l l fp q 5 5 fr3 hD ⟨fun j hj => hT.out.blk.cell hj,hT.out.blk.lt⟩ hfp hT.out.dig hl2 (by omega))
      go_wp2_with (go_at_call 79; refine Calls.mono CT.out ?_; rintro e2 w6 ⟨q2,fo,rfl,hq2,hD2,hfo,hval,hB⟩)
      have hT6 := hT.below _ hB rfl
      rw [HL.out.2,hT.val,← Nat.pow_succ] at hval
      exact ⟨⟨i + 1,_,q2,fo,by omega,rfl,by go_num,by have := HL.out.1; omega,hD2,hfo,hval,hT6⟩,by simp [intOf]; omega⟩
    · obtain rfl : k = i := by omega
      have hikz : ¬ (k : Int) < (k : Int) := by omega
      have CA := Lib.hid (Rf.above_any w5 qp l l fp hD hfp hl2 p o hp (by have := HL.out.1; omega))
      rw [HL.out.2] at CA
      by_cases hX : p * 65536 ^ o < R ^ k
      · rw [decide_eq_true hX] at CA
        have HX := Lib.hid hX
        have c3 := hT.out.blk.cell (j := d) hd5
        have f3 := Hs.Blk.frozen hT.out.blk d
        have hv3 : fr3 d = v := by rw [← hfr3]; unfold Vl.upd; rw [if_pos rfl]
        rw [hv3] at c3
        have hxb : x < 65536 := by omega
        have hsw : IntKind.u64.wrap ((v : Int) - (g : Int)) = (x : Int) := by rw [IntWalk.u64_in _ (by have := HVV.out; omega)]; have := HVV.out; omega
        have hO4 : Rf.Out w q 5 5 fr (w5.setCell ⟨q,d,none⟩ (.int .u64 (x : Int))) := (hT.out.set d x 5 hxb (Nat.le_refl _) hd5).congr (fun j => by
          unfold Vl.upd
          split
          · rename_i hj; rw [hj,HXX.out]
          · rename_i hj; rw [← hfr3]; unfold Vl.upd; rw [if_neg hj])
        have HR := Lib.hid (And.intro hR hfr3)
        have HK := Lib.hid (And.intro hO4 hT)
        clear hX hR hfr3 hO4 hT hv3 hvw hgw
        have hgw : IntKind.u64.wrap ((2 : Int) ^ e) = (g : Int) := by
          have h2 : ((2 : Int) ^ e) = ((2 ^ e : Nat) : Int) := by simp
          rw [h2,HDE.out.2.2,IntWalk.u64_in _ (by omega)]
        go_wp2_with (go_at_call 80; refine Calls.mono CA.out ?_; rintro e2 w6 ⟨rfl,rfl⟩)
        go_region
        all_goals
          go_wp2_with fail
          exact ⟨⟨b,r,(b : Int) - 1,fr,by omega,rfl,rfl,HTo.out.back (HK.out.1.drewN 1),HB.out.1,by rw [HR.out.1]; exact HX.out⟩,by simp [intOf]⟩
      · rw [decide_eq_false hX] at CA
        have HX := Lib.hid hX
        clear hX
        go_wp2_with (go_at_call 80; refine Calls.mono CA.out ?_; rintro e2 w6 ⟨rfl,rfl⟩)
        exact ⟨⟨b,R,(b : Int) - 1,fr3,by omega,rfl,rfl,hT,Nat.le_of_not_lt HX.out,by have := HB.out.2; rwa [Nat.pow_succ,Nat.mul_two,← Nat.add_assoc,hR] at this⟩,by simp [intOf]⟩
end
section
section
open Go.RowKit

def Rf.at8 (v b : Nat) : UInt8 := if 7 < b then 0 else UInt8.ofNat (v / 2 ^ (8 * b) % 256)
def Rf.be (v : Nat) : Nat → List UInt8
  | 0 => []
  | n + 1 => Rf.at8 v n :: Rf.be v n
theorem Rf.be_len (v : Nat) : ∀ n,(Rf.be v n).length = n
  | 0 => rfl
  | n + 1 => by rw [Rf.be,List.length_cons,Rf.be_len]
theorem Rf.Own.empty (w : World) (B : Nat) (hB : B ≤ w.heap.size) : Tx.Own (w.alloc (.cells #[] 5)) B (.slice (some ⟨w.heap.size,0,none⟩) 0 0) [] :=
  ⟨rfl,.inr ⟨w.heap.size,0,#[],rfl,hB,heap_alloc_new _ _,Nat.le_refl _,by decide,rfl,rfl⟩⟩
set_option maxHeartbeats 400000 in
set_option maxRecDepth 100000 in
theorem Rf.bytes_any (w : World) (v n : Nat) (hv : v < 18446744073709551616) (hn : n ≤ 1000) :
    Calls Tryz.prog 52 #[.int .u64 (v : Int),.int .i64 (n : Int)] w fun e w' => ∃ x,e = .returned x ∧ Tx.Own w' w.heap.size x (Rf.be v n) ∧ Below w.heap.size w w' := by
  go_enter Tryz.func52,Tryz.ntmps52
  go_wp2_with fail
  have hO := Rf.Own.empty w w.heap.size (Nat.le_refl _)
  have hB : Below w.heap.size w (w.alloc (.cells #[] 5)) := (Below.refl _ _).alloc (Nat.le_refl _) _
  obtain ⟨x0,hx0⟩ : ∃ x0,Value.slice (some ⟨w.heap.size,0,none⟩) 0 0 = x0 := ⟨_,rfl⟩
  rw [hx0] at hO ⊢
  clear hx0
  generalize w.alloc (.cells #[] 5) = w1 at hO hB ⊢
  go_loopw [5,6] (fun xv iv wr => ∃ (m : Nat) (z : Int) (l : List UInt8),m ≤ n ∧ iv = .int .i64 z ∧ z = (m : Int) - 1 ∧ Tx.Own wr w.heap.size xv l ∧ l ++ Rf.be v m = Rf.be v n ∧ Below w.heap.size w wr) (fun _ iv _ => (intOf iv + 1).toNat)
  case atStart => exact ⟨n,(n : Int) - 1,[],Nat.le_refl _,by first | rfl | (congr 1),rfl,hO,rfl,hB⟩
  case round =>
  clear hO hB
  obtain ⟨m,z,l,hm,rfl,hz,hO,hl,hB⟩ := hrel
  by_cases hm0 : m = 0
  · subst hm0
    have hz0 : ¬ 0 ≤ z := by omega
    rw [Rf.be,List.append_nil] at hl
    subst hl
    clear hz
    go_wp2_with fail
    go_ret
    exact ⟨_,rfl,hO,hB⟩
  · obtain ⟨b,rfl⟩ : ∃ b,m = b + 1 := ⟨m - 1,by omega⟩
    have hzb : z = (b : Int) := by omega
    subst hzb
    have hb0 : 0 ≤ (b : Int) := by omega
    have hlen : l.length ≤ 1000 := by
      have := congrArg List.length hl
      rw [List.length_append,Rf.be_len,Rf.be_len] at this
      omega
    have hnx : ∀ c,c = Rf.at8 v b → (l ++ [c]) ++ Rf.be v b = Rf.be v n := by
      rintro c rfl
      rw [List.append_assoc]
      exact hl
    have HL := Lib.hid hnx
    have hsz := hB.size
    clear hz hm0 hl hnx
    by_cases h7 : 7 < b
    · have h7z : 7 < (b : Int) := by omega
      have h8 := HL.out 0 (by unfold Rf.at8; rw [if_pos h7])
      have H8 := Lib.hid h8
      clear h8 h7
      go_wp2_with (at_builtin; refine Tx.append rfl _ _ rfl w.heap.size _ _ rfl (Tx.Own.alloc hO _) ⟨_,0,none⟩ 1 [0] rfl (World.news_of_block (heap_alloc_new _ _)) (by simp; omega) (by simp; omega) ?_; intro v1 w1 hown1 hb1 hz1)
      exact ⟨⟨b,(b : Int) - 1,_,by omega,rfl,rfl,hown1,H8.out,(hB.alloc hsz _).trans hb1⟩,by simp [intOf]⟩
    · have h7z : ¬ 7 < (b : Int) := by omega
      have hw8 : wrap64 (8 * (b : Int)) = ((8 * b : Nat) : Int) := by unfold wrap64; omega
      have h8 := HL.out (UInt8.ofNat (v / 2 ^ (8 * b) % 256)) (by unfold Rf.at8; rw [if_neg h7])
      obtain ⟨y,hy⟩ : ∃ y,v / 2 ^ (8 * b) = y := ⟨_,rfl⟩
      have hyb : y < 18446744073709551616 := by rw [← hy]; exact Nat.lt_of_le_of_lt (Nat.div_le_self _ _) hv
      have hdiv : (v : Int) / 2 ^ (8 * b) = (y : Int) := by
        have h2 : ((2 : Int) ^ (8 * b)) = ((2 ^ (8 * b) : Nat) : Int) := by simp
        rw [h2,← hy]
        exact (Int.natCast_ediv _ _).symm
      rw [hy] at h8
      obtain ⟨c,hc⟩ : ∃ c,UInt8.ofNat (y % 256) = c := ⟨_,rfl⟩
      rw [hc] at h8
      have hcn : y % 256 = c.toNat := by rw [← hc,UInt8.toNat_ofNat']; omega
      have hand : bits .and .u64 (y : Int) 255 = (c.toNat : Int) := by
        have := u64_and_nat y 255 hyb (by decide)
        rw [show y &&& 255 = y % 256 from Nat.and_two_pow_sub_one_eq_mod y 8,hcn] at this
        exact this
      have hmod : (c.toNat : Int) % 256 = (c.toNat : Int) := by have := c.toNat_lt; omega
      have H8 := Lib.hid h8
      clear h8 h7 hy hc hcn
      go_wp2_with (at_builtin; refine Tx.append rfl _ _ rfl w.heap.size _ _ rfl (Tx.Own.alloc hO _) ⟨_,0,none⟩ 1 [c] rfl (World.news_of_block (heap_alloc_new _ _)) (by simp; omega) (by simp; omega) ?_; intro v1 w1 hown1 hb1 hz1)
      exact ⟨⟨b,(b : Int) - 1,_,by omega,rfl,rfl,hown1,H8.out,(hB.alloc hsz _).trans hb1⟩,by simp [intOf]⟩
end
section
open Go.RowKit

/-- The primes below m + 2. -/
def Rf.sv : Nat → List Nat
  | 0 => []
  | m + 1 => if (Rf.sv m).all (fun p => (m + 2) % p != 0) then Rf.sv m ++ [m + 2] else Rf.sv m
def Rf.ps : List Nat := [2,3,5,7,11,13,17,19,23,29,31,37,41,43,47,53,59,61,67,71,73,79,83,89,97,101,103,107,109,113,127,131,137,139,149,151,157,163,167,173,179,181,191,193,197,199,211,223,227,229,233,239,241,251,257,263,269,271,277,281,283,293,307,311,313,317,331,337,347,349,353,359,367,373,379,383,389,397,401,409]
theorem Rf.sv_ps : Rf.sv 408 = Rf.ps := by kernel_rfl
theorem Rf.root_one (X k r s : Nat) (hr : r ^ k ≤ X) (hr2 : X < (r + 1) ^ k) (hs : s ^ k ≤ X) (hs2 : X < (s + 1) ^ k) : r = s := by
  rcases Nat.lt_trichotomy r s with h | h | h
  · have := Nat.pow_le_pow_left (show r + 1 ≤ s by omega) k
    omega
  · exact h
  · have := Nat.pow_le_pow_left (show s + 1 ≤ r by omega) k
    omega
/-- c digits K of the k-th root of p, behind some whole number. -/
def Rf.ok (k c p K : Nat) : Bool := decide (K < 65536 ^ c) && (List.range 24).any fun a => decide ((a * 65536 ^ c + K) ^ k ≤ p * 65536 ^ (k * c)) && decide (p * 65536 ^ (k * c) < (a * 65536 ^ c + K + 1) ^ k)
theorem Rf.ok_root (k c p K r : Nat) (h : Rf.ok k c p K = true) (hr : r ^ k ≤ p * 65536 ^ (k * c)) (hr2 : p * 65536 ^ (k * c) < (r + 1) ^ k) : r % 65536 ^ c = K := by
  unfold Rf.ok at h
  rw [Bool.and_eq_true,decide_eq_true_iff,List.any_eq_true] at h
  obtain ⟨hK,a,_,ha⟩ := h
  rw [Bool.and_eq_true,decide_eq_true_iff,decide_eq_true_iff] at ha
  rw [Rf.root_one _ k r _ hr hr2 ha.1 ha.2,Nat.mul_add_mod_self_right,Nat.mod_eq_of_lt hK]
theorem Rf.ok_k1 : (List.range 80).all (fun i => Rf.ok 3 4 (Rf.ps.getD i 0) (Hs.rk.getD i 0)) = true := by kernel_rfl
theorem Rf.ok_k0 : (List.range 64).all (fun i => Rf.ok 3 2 (Rf.ps.getD i 0) (Hs.rk.getD i 0 / 2 ^ 32)) = true := by kernel_rfl
theorem Rf.ok_h1 : (List.range 8).all (fun i => Rf.ok 2 4 (Rf.ps.getD (8 + i) 0) ((Hs.first 1).get i)) = true := by kernel_rfl
theorem Rf.ok_h0 : (List.range 8).all (fun i => Rf.ok 2 2 (Rf.ps.getD i 0) ((Hs.first 0).get i)) = true := by kernel_rfl
/-- Root of the i-th prime, for each of the four tables. -/
theorem Rf.root_ps (w : World) (i k c K : Nat) (hi : i < 80) (hk0 : 2 ≤ k) (hk3 : k ≤ 3) (hc0 : 2 ≤ c) (hc4 : c ≤ 4) (h : Rf.ok k c (Rf.ps.getD i 0) K = true) :
    Calls Tryz.prog 51 #[.int .u64 (Rf.ps.getD i 0 : Nat),.int .i64 (k : Int),.int .i64 ((16 * c : Nat) : Int)] w fun e w' => e = .returned (.int .u64 (K : Int)) ∧ Below w.heap.size w w' := by
  have hp : Rf.ps.getD i 0 < 65536 := by
    have h0 : (List.range 80).all (fun i => decide (Rf.ps.getD i 0 < 65536)) = true := by kernel_rfl
    have h1 := List.all_eq_true.1 h0 i (List.mem_range.2 hi)
    exact of_decide_eq_true h1
  refine Calls.mono (Rf.root_any w _ k c hp hk0 hk3 hc0 hc4 ?_) ?_
  · have : k * c ≤ k * 4 := Nat.mul_le_mul_left _ hc4
    omega
  · rintro e w' ⟨r,rfl,h1,h2,hB⟩
    rw [Rf.ok_root k c _ K r h h1 h2]
    exact ⟨rfl,hB⟩
end
section
open Go.RowKit

def Rf.qv (n : Nat) : Value := .int .u64 (n : Int)
/-- Slice value v holds the numbers l in a row of the call's own, from block B on. -/
def Rf.OwnQ (w : World) (B : Nat) (v : Value) (l : List Nat) : Prop := w.ownsRow B 76 1 v l.length (l.map Rf.qv)
theorem Rf.OwnQ.empty (w : World) (B : Nat) (hB : B ≤ w.heap.size) : Rf.OwnQ (w.alloc (.cells #[] 76)) B (.slice (some ⟨w.heap.size,0,none⟩) 0 0) [] :=
  ⟨rfl,.inr ⟨w.heap.size,0,#[],rfl,hB,heap_alloc_new _ _,Nat.le_refl _,by decide,rfl,rfl⟩⟩
theorem Rf.OwnQ.alloc {w : World} {B : Nat} {v : Value} {l : List Nat} (h : Rf.OwnQ w B v l) (o : Obj) : Rf.OwnQ (w.alloc o) B v l := World.ownsRow.alloc h o
theorem Rf.OwnQ.at {w : World} {B : Nat} {v : Value} {l : List Nat} (h : Rf.OwnQ w B v l) (hl : 0 < l.length) : ∃ g cap,v = .slice (some ⟨g,0,none⟩) l.length cap ∧ B ≤ g := by
  rcases h.2 with ⟨_,hn⟩ | ⟨g,cap,cur,rfl,hg,_⟩
  · omega
  · exact ⟨g,cap,rfl,hg⟩
theorem Rf.OwnQ.cell {w : World} {B g n cap : Nat} {l : List Nat} (h : Rf.OwnQ w B (.slice (some ⟨g,0,none⟩) n cap) l) : Rf.Dig w g l.length (fun j => l.getD j 0) ∨ l = [] := by
  rcases h.2 with ⟨hv,_⟩ | ⟨g',cap',cur,hv,hg,hgg,hle,_,hsz,hcur⟩
  · simp at hv
  · left
    simp only [Value.slice.injEq,Option.some.injEq,Addr.mk.injEq] at hv
    obtain ⟨⟨rfl,_⟩,_,_⟩ := hv
    refine ⟨fun j hj => ?_,(Array.getElem?_eq_some_iff.1 hgg).1⟩
    simp only [World.cell?,hgg]
    have h1 : (cur.toList.take (l.length * 1))[j]? = (l.map Rf.qv)[j]? := by rw [hcur]
    rw [List.getElem?_take,if_pos (by omega),List.getElem?_map,List.getElem?_eq_getElem hj] at h1
    simp only [Array.getElem?_toList] at h1
    rw [h1]
    simp [Rf.qv,hj]
section
variable {w : World} {ops : Array Oper} {rest : List Oper} {o : Oper} {a : Act} {Q : Exit → Act → World → Prop}
theorem Rf.appendQ (hg : o.guard = none) (s x : Operand) (hop : o.op = .call { callee := .builtin .append,args := #[s,x],argTypes := #[48,48] }) (B : Nat) (v : Value) (l : List Nat) (hs : a.eval s = v) (hown : Rf.OwnQ w B v l)
    (ad : Addr) (c : Nat) (bs : List Nat) (hx : a.eval x = .slice (some ad) bs.length c) (hnew : ∀ j u,(bs.map Rf.qv)[j]? = some u → w.cell? (ad.add j) = some u) (hlen : l.length + bs.length ≤ 1000000) (hB : B ≤ w.heap.size)
    (hK : ∀ v' w',Rf.OwnQ w' B v' (l ++ bs) → Below B w w' → B ≤ w'.heap.size → wpList Tryz.prog ops Q rest (a.put o.dst v') w') : wpList Tryz.prog ops Q (o :: rest) a w := by
  obtain ⟨i0,hi,hz0,hz1,hz2⟩ := info_parts Rf.info64
  refine wpList_append_own w hg s x 48 hop B 76 i0 (.int .u64 0) 1 8 Tryz.underlying48 hi hz0 hz1 hz2 rfl (by decide) v l.length (l.map Rf.qv) hs hown ad bs.length c (bs.map Rf.qv) hx (by simp) hnew (by intro u hu; obtain ⟨b,_,rfl⟩ := List.mem_map.1 hu; rfl) (by unfold maxLen; omega) (by omega) hB ?_
  intro v' w' h1 h2 _
  refine hK v' w' ?_ ((Below.refl _ _).grown h2 hB fun k hk => (World.ownsRow.lt hown k hk).1) (Nat.le_trans hB h2.size)
  simpa [Rf.OwnQ] using h1
end
theorem Rf.sv_two : ∀ m p,p ∈ Rf.sv m → 2 ≤ p ∧ p < 1000 + m
  | 0,p,h => by simp [Rf.sv] at h
  | m + 1,p,h => by
    rw [Rf.sv] at h
    split at h
    · rcases List.mem_append.1 h with h | h
      · have := Rf.sv_two m p h; omega
      · simp at h; omega
    · have := Rf.sv_two m p h; omega
theorem Rf.sv_pre : ∀ d m,Rf.sv m <+: Rf.sv (m + d)
  | 0,m => List.prefix_refl _
  | d + 1,m => by
    refine (Rf.sv_pre d m).trans ?_
    rw [← Nat.add_assoc,Rf.sv]
    split
    · exact List.prefix_append _ _
    · exact List.prefix_refl _
theorem Rf.sv_len (m : Nat) (h : m ≤ 408) : (Rf.sv m).length ≤ 80 := by
  have := (Rf.sv_pre (408 - m) m).length_le
  rw [show m + (408 - m) = 408 by omega,Rf.sv_ps] at this
  exact this
theorem Rf.sv_full (m : Nat) (h : m ≤ 408) (hl : 80 ≤ (Rf.sv m).length) : Rf.sv m = Rf.ps := by
  have := Rf.sv_pre (408 - m) m
  rw [show m + (408 - m) = 408 by omega,Rf.sv_ps] at this
  exact this.eq_of_length_le hl
end
end
end Go.Proofs.YthlecdggkolgmaaGreatDoor
