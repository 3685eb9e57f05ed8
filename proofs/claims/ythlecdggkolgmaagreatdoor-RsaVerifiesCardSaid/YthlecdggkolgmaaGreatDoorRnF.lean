/- The reference: digits that a call owns (append), digits of numbers, trim; Plus. -/
import Derived.Test.YthlecdggkolgmaaGreatDoorRnC
import Derived.Test.YthlecdggkolgmaaGreatDoorKit
namespace Go.Proofs.YthlecdggkolgmaaGreatDoor
section
section
open Go.RowKit

theorem Rn.cmp_limb (f g : Nat → Nat) (hf : ∀ j,f j < 65536) (hg : ∀ j,g j < 65536) (i n : Nat) (hi : i < n) (he : ∀ j,i < j → j < n → f j = g j) : (f i < g i → Nt.cmp (Vl.val 65536 f n) (Vl.val 65536 g n) = -1) ∧ (g i < f i → Nt.cmp (Vl.val 65536 f n) (Vl.val 65536 g n) = 1) := by
  constructor
  · intro h
    have := Nt.lt_of_limb 65536 (by decide) f g hf i n hi h he
    unfold Nt.cmp
    rw [if_pos this]
  · intro h
    have := Nt.lt_of_limb 65536 (by decide) g f hg i n hi h (fun j h1 h2 => (he j h1 h2).symm)
    unfold Nt.cmp
    rw [if_neg (by omega),if_pos this]
set_option maxHeartbeats 1000000 in
set_option maxRecDepth 100000 in
theorem Rn.Cmp_any (w : World) (ax ay : Option Addr) (n cx x m cy y : Nat) (hx : Rn.Num w ax n cx x) (hy : Rn.Num w ay m cy y) (hn : n ≤ 1000000) (hm : m ≤ 1000000) :
    Calls Tryz.prog 40 #[.slice ax n cx,.slice ay m cy] w fun e w' => e = .returned (.int .i64 (Nt.cmp x y)) ∧ ∃ k,w' = w.drewN k := by
  obtain ⟨_,bx,ox,fx,hLx,dx,hvx,tx⟩ := hx
  obtain ⟨_,b',oy,fy,hLy,dy,hvy,ty⟩ := hy
  obtain ⟨R,hR⟩ : ∃ R,Nt.cmp x y = R := ⟨_,rfl⟩
  rw [hR]
  rcases Nat.lt_trichotomy n m with hnm | hnm | hnm
  · have h := Nt.lt_of_len 65536 (by decide) fx fy dx n m hnm (ty.resolve_left (by omega))
    rw [hvx,hvy] at h
    have hr : R = -1 := by rw [← hR]; unfold Nt.cmp; rw [if_pos h]
    subst hr
    have hz : (n : Int) < (m : Int) := by omega
    clear hLx hLy dx dy hvx hvy tx ty h hR hnm
    go_enter Tryz.func40,Tryz.ntmps40
    go_wp2_with fail
    go_ret
    exact ⟨rfl,0,rfl⟩
  · subst hnm
    have hz : ¬ (n : Int) < (n : Int) := by omega
    have HR := Lib.hid (And.intro hR (And.intro hvx hvy))
    obtain ⟨n1,hn1⟩ : ∃ n1 : Int,(n : Int) - 1 = n1 := ⟨_,rfl⟩
    have hn1b : n1 ≤ 1000000 := by omega
    have hn1c : -1 ≤ n1 := by omega
    have HN := Lib.hid hn1
    clear hR hvx hvy tx ty
    go_enter Tryz.func40,Tryz.ntmps40
    go_wp2_with fail
    clear hn1
    go_loopw [5] (fun iv wr => ∃ (q k : Nat) (z : Int),q ≤ n ∧ iv = .int .i64 z ∧ z = (q : Int) - 1 ∧ (∀ j,q ≤ j → j < n → fx j = fy j) ∧ wr = w.drewN k) (fun iv _ => (intOf iv + 1).toNat)
    case atStart => exact ⟨n,0,n1,Nat.le_refl _,rfl,HN.out.symm,fun j h1 h2 => by omega,rfl⟩
    case round =>
    obtain ⟨q,k,z,hq,rfl,hzq,he,hw⟩ := hrel
    obtain ⟨w2,rfl⟩ : ∃ w2,w2 = wr := ⟨_,rfl⟩
    by_cases hq0 : q = 0
    · have hz0 : ¬ 0 ≤ z := by omega
      have hr : R = 0 := by
        rw [← HR.out.1,← HR.out.2.1,← HR.out.2.2,Vl.val_congr 65536 fx fy n (fun j hj => he j (by omega) hj)]
        unfold Nt.cmp
        rw [if_neg (by omega),if_neg (by omega)]
      have HW := Lib.hid (And.intro hw hr)
      clear hw hr he hzq hq0
      go_wp2_with fail
      go_ret
      exact ⟨by rw [HW.out.2]; rfl,k,HW.out.1⟩
    · obtain ⟨a,ha⟩ : ∃ a,q - 1 = a := ⟨_,rfl⟩
      obtain rfl : z = (a : Int) := by omega
      have han : a < n := by omega
      obtain ⟨rfl,hLx2⟩ := hLx (by omega)
      obtain ⟨rfl,hLy2⟩ := hLy (by omega)
      have haz : (a : Int) < (n : Int) := by omega
      have ha0 : 0 ≤ (a : Int) := by omega
      have cx2 := (hLx2.drewN k).cell a han
      have cy2 := (hLy2.drewN k).cell a han
      rw [← hw] at cx2 cy2
      have hlim := Rn.cmp_limb fx fy dx dy a n han (fun j h1 h2 => he j (by omega) h2)
      rw [HR.out.2.1,HR.out.2.2,HR.out.1] at hlim
      obtain ⟨u,eu⟩ : ∃ u,fx a = u := ⟨_,rfl⟩
      obtain ⟨v,ev⟩ : ∃ v,fy a = v := ⟨_,rfl⟩
      rw [eu] at cx2 hlim
      rw [ev] at cy2 hlim
      have hab : (a : Int) ≤ 1000000 := by omega
      have HH := Lib.hid (And.intro he (And.intro hw (And.intro hlim (And.intro ha (And.intro eu ev)))))
      clear he hw hlim ha eu ev hzq hLx2 hLy2
      rcases Nat.lt_trichotomy u v with huv | huv | huv
      · have hr := HH.out.2.2.1.1 huv
        have HRr := Lib.hid hr
        have h1 : (u : Int) < (v : Int) := by omega
        clear hr
        go_wp2_with fail
        go_quiet (fail)
        go_wp2_with fail
        go_ret
        exact ⟨by rw [HRr.out]; rfl,_,by rw [HH.out.2.1,World.drewN_drewN]⟩
      · subst huv
        go_wp2_with fail
        go_quiet (fail)
        go_wp2_with fail
        go_quiet (fail)
        go_wp2_with fail
        refine ⟨⟨a,?kk,(a : Int) - 1,by omega,rfl,rfl,fun j h1 h2 => ?_,?ww⟩,by simp [intOf] <;> omega⟩
        case ww => rw [HH.out.2.1,World.drewN_drewN]
        · by_cases hj : j = a
          · rw [hj,HH.out.2.2.2.2.1,HH.out.2.2.2.2.2]
          · exact HH.out.1 j (by have := HH.out.2.2.2.1; omega) h2
      · have hr := HH.out.2.2.1.2 huv
        have HRr := Lib.hid hr
        have h1 : ¬ (u : Int) < (v : Int) := by omega
        have h2 : (v : Int) < (u : Int) := by omega
        clear hr
        go_wp2_with fail
        go_quiet (fail)
        go_wp2_with fail
        go_quiet (fail)
        go_wp2_with fail
        go_ret
        exact ⟨by rw [HRr.out]; rfl,_,by rw [HH.out.2.1,World.drewN_drewN,World.drewN_drewN]⟩
  · have h := Nt.lt_of_len 65536 (by decide) fy fx dy m n hnm (tx.resolve_left (by omega))
    rw [hvx,hvy] at h
    have hr : R = 1 := by rw [← hR]; unfold Nt.cmp; rw [if_neg (by omega),if_pos h]
    subst hr
    have hz : ¬ (n : Int) < (m : Int) := by omega
    have hz2 : (m : Int) < (n : Int) := by omega
    clear hLx hLy dx dy hvx hvy tx ty h hR hnm
    go_enter Tryz.func40,Tryz.ntmps40
    go_wp2_with fail
    go_ret
    exact ⟨rfl,0,rfl⟩
end
section
open Go.RowKit

/-- The value of the digits from q on. -/
def Rn.up (f : Nat → Nat) (n q : Nat) : Nat := Vl.val 65536 (fun j => f (q + j)) (n - q)
theorem Nt.u8_eq2 (x : Int) (y : Nat) (h : x = (y : Int)) (hy : y < 256) : IntKind.u8.wrap x = (y : Int) := by
  unfold IntKind.wrap
  have : x % 256 = (y : Int) := by omega
  simpa [IntKind.bits,IntKind.signed] using this
theorem Rn.up_end (f : Nat → Nat) (n : Nat) : Rn.up f n n = 0 := by unfold Rn.up; rw [Nat.sub_self]; rfl
theorem Rn.up_all (f : Nat → Nat) (n : Nat) : Rn.up f n 0 = Vl.val 65536 f n := by
  unfold Rn.up
  exact Vl.val_congr _ _ _ _ (fun j _ => by rw [Nat.zero_add])
theorem Rn.up_step (f : Nat → Nat) (n a : Nat) (h : a < n) : Rn.up f n a = Rn.up f n (a + 1) * 65536 + f a := by
  unfold Rn.up
  obtain ⟨m,hm⟩ : ∃ m,n - a = 1 + m := ⟨n - a - 1,by omega⟩
  rw [hm,Nt.val_split,show n - (a + 1) = m by omega]
  have e : Vl.val 65536 (fun j => f (a + j)) 1 = f a := by simp [Vl.val]
  rw [e,Nat.pow_one,Vl.val_congr 65536 (fun j => f (a + (1 + j))) (fun j => f (a + 1 + j)) m (fun j _ => by rw [Nat.add_assoc])]
  omega
theorem Rn.up_pos (f : Nat → Nat) (n q : Nat) (h : q < n) (ht : f (n - 1) ≠ 0) : 0 < Rn.up f n q := by
  unfold Rn.up
  obtain ⟨m,hm⟩ : ∃ m,n - q = m + 1 := ⟨n - q - 1,by omega⟩
  rw [hm,Vl.val]
  have e : f (q + m) = f (n - 1) := by congr 1; omega
  rw [e]
  have : 1 * 65536 ^ m ≤ f (n - 1) * 65536 ^ m := Nat.mul_le_mul_right _ (Nat.pos_of_ne_zero ht)
  have := Nat.pow_pos (n := m) (show 0 < 65536 by decide)
  omega
theorem Rn.keep {g : Nat} {w w1 : World} {o : Obj} {p : Addr} {v : Value} (hb : Below g (w.alloc o) w1) (hg : g ≤ w.heap.size) (hc : w.cell? p = some v) (hp : p.block < g) : w1.cell? p = some v :=
  (hb.cell hp).trans ((World.cell?_alloc_lt w o _ (Nat.lt_of_lt_of_le hp hg)).trans hc)
set_option maxHeartbeats 1000000 in
set_option maxRecDepth 100000 in
theorem Rn.Form_any (w : World) (ax : Option Addr) (n cx x : Nat) (hx : Rn.Num w ax n cx x) (hn : n ≤ 1000000) :
    Calls Tryz.prog 67 #[.slice ax n cx] w fun e w' => e = .returned (.string ⟨(Nt.fm x).toArray⟩) ∧ Below w.heap.size w w' := by
  obtain ⟨_,bx,ox,fx,hLx,dx,hvx,tx⟩ := hx
  obtain ⟨n1,hn1⟩ : ∃ n1 : Int,(n : Int) - 1 = n1 := ⟨_,rfl⟩
  have hn1b : n1 ≤ 1000000 := by omega
  have hn1c : -1 ≤ n1 := by omega
  have HN := Lib.hid hn1
  have H0 := Lib.hid (And.intro hLx (And.intro dx (And.intro hvx tx)))
  clear hLx dx hvx tx
  go_enter Tryz.func67,Tryz.ntmps67
  go_wp2_with fail
  have hown0 : Tx.Own (w.alloc (Obj.cells #[] 5)) w.heap.size (.slice (some ⟨w.heap.size,0,none⟩) 0 0) [] := ⟨rfl,.inr ⟨w.heap.size,0,#[],rfl,Nat.le_refl _,heap_alloc_new _ _,Nat.le_refl _,Nat.zero_le _,rfl,rfl⟩⟩
  have hb0 := (Below.refl w.heap.size w).alloc (Nat.le_refl _) (Obj.cells #[] 5)
  obtain ⟨g,hg⟩ : ∃ g,w.heap.size = g := ⟨_,rfl⟩
  revert hown0 hb0
  generalize w.alloc (Obj.cells #[] 5) = w0
  rw [hg]
  intro hown0 hb0
  have HG := Lib.hid (And.intro hg (And.intro hown0 hb0))
  clear hown0 hb0 hg hn1
  go_loopw [3,4] (fun v iv wr => ∃ (q : Nat) (z : Int),q ≤ n ∧ iv = .int .i64 z ∧ z = (q : Int) - 1 ∧ Tx.Own wr g v (Nt.fm (Rn.up fx n q)) ∧ Below g w wr ∧ g ≤ wr.heap.size) (fun _ iv _ => (intOf iv + 1).toNat)
  case atStart => exact ⟨n,n1,Nat.le_refl _,rfl,HN.out.symm,by rw [Rn.up_end]; exact HG.out.2.1,HG.out.2.2,by rw [← HG.out.1]; exact HG.out.2.2.size⟩
  case round =>
  obtain ⟨q,z,hq,rfl,hzq,hown,hB,hgs⟩ := hrel
  by_cases hq0 : q = 0
  · have hz0 : ¬ 0 ≤ z := by omega
    subst hq0
    rw [Rn.up_all,H0.out.2.2.1] at hown
    have hcv := hown.conv
    have HB := Lib.hid hB
    clear hown hB hzq
    go_wp2_with fail
    go_ret
    exact ⟨rfl,HB.out.mono (Nat.le_of_eq HG.out.1)⟩
  · obtain ⟨a,ha⟩ : ∃ a,q - 1 = a := ⟨_,rfl⟩
    obtain rfl : z = (a : Int) := by omega
    have haq : q = a + 1 := by omega
    subst haq
    have han : a < n := by omega
    obtain ⟨rfl,hLx2⟩ := H0.out.1 (by omega)
    have hbx : bx < g := by rw [← HG.out.1]; exact hLx2.lt
    have haz : (a : Int) < (n : Int) := by omega
    have ha0 : 0 ≤ (a : Int) := by omega
    have cx2 := (hLx2.below hB hbx).cell a han
    have dd := H0.out.2.1 a
    have hst := Rn.up_step fx n a han
    have htop := H0.out.2.2.2.resolve_left (by omega)
    obtain ⟨d,ed⟩ : ∃ d,fx a = d := ⟨_,rfl⟩
    rw [ed] at cx2 dd hst
    obtain ⟨c1,hc1⟩ : ∃ c1,UInt8.ofNat (d / 256) = c1 := ⟨_,rfl⟩
    obtain ⟨c0,hc0⟩ : ∃ c0,UInt8.ofNat (d % 256) = c0 := ⟨_,rfl⟩
    have e1 : (d : Int) / 256 = (c1.toNat : Int) := by rw [← hc1,UInt8.toNat_ofNat']; omega
    have e0 : (d : Int) % 256 = (c0.toNat : Int) := by rw [← hc0,UInt8.toNat_ofNat']; omega
    have h1b := c1.toNat_lt
    have h0b := c0.toNat_lt
    have hab : (a : Int) ≤ 1000000 := by omega
    have hX := Nt.by_le (Rn.up fx n (a + 1)) (2 * n) (by
      unfold Rn.up
      have h := Vl.val_lt 65536 (by decide) (fun j => fx (a + 1 + j)) (n - (a + 1)) (fun j _ => H0.out.2.1 _)
      refine Nat.lt_of_lt_of_le h ?_
      rw [Nat.pow_mul]
      exact Nat.pow_le_pow_right (by decide) (by omega))
    have hlen := Nt.fm_len (Rn.up fx n (a + 1))
    obtain ⟨l,hl⟩ : ∃ l,Nt.fm (Rn.up fx n (a + 1)) = l := ⟨_,rfl⟩
    rw [hl] at hown hlen
    have hlb : l.length ≤ 2000000 := by omega
    have hnext : l ≠ [] ∨ 255 < d → Nt.fm (Rn.up fx n a) = l ++ [c1] ++ [c0] := fun h => by
      rw [hst,List.append_assoc,← hl,← hc1,← hc0]
      rcases Nat.eq_zero_or_pos (Rn.up fx n (a + 1)) with h0 | h0
      · have hd : 255 < d := h.resolve_left (fun h2 => h2 (by rw [← hl,h0]; rfl))
        rw [h0,Nat.zero_mul,Nat.zero_add,Rn.fm_two d dd hd]
        rfl
      · exact Rn.fm_more _ d h0 dd
    have hnext0 : l = [] → d ≤ 255 → Nt.fm (Rn.up fx n a) = l ++ [c0] := fun h h2 => by
      have h3 : Rn.up fx n (a + 1) = 0 := by
        have := Nt.rd_fm (Rn.up fx n (a + 1))
        rw [hl,h] at this
        exact this.symm
      have h4 := Rn.up_pos fx n a han htop
      rw [hst,h3,Nat.zero_mul,Nat.zero_add] at h4 ⊢
      rw [h,← hc0,Nat.mod_eq_of_lt (by omega),Rn.fm_one d (by omega) h4]
      rfl
    have HH := Lib.hid (And.intro hnext hnext0)
    have HBB := Lib.hid hB
    obtain ⟨ga,cap,rfl⟩ := hown.size
    have k1 : IntKind.u8.wrap (c1.toNat : Int) = (c1.toNat : Int) := Nt.u8_eq2 _ _ rfl h1b
    have k0 : IntKind.u8.wrap (c0.toNat : Int) = (c0.toNat : Int) := Nt.u8_eq2 _ _ rfl h0b
    clear hnext hnext0 hst htop ed hc1 hc0 hl hlen hX hzq hB ha hLx2
    by_cases hl0 : l = []
    · subst hl0
      by_cases hd : 255 < d
      · have hdz : (255 : Int) < (d : Int) := by omega
        go_upto_region 7 with (at_builtin; refine Tx.append rfl _ _ rfl g _ _ rfl (Tx.Own.alloc (by assumption) _) ⟨_,0,none⟩ 1 [_] rfl (World.news_of_block (heap_alloc_new _ _)) (by simp; try omega) (by simp; omega) ?_; intro v1 w1 hown1 hb1 hz1)
        have cx3 := Rn.keep hb1 hgs cx2 hbx
        obtain ⟨ga1,cap1,rfl⟩ := hown1.size
        have hB1 : Below g w w1 := HBB.out.trans ((Below.refl g _).alloc hgs _ |>.trans hb1)
        go_wp2_with (at_builtin; refine Tx.append rfl _ _ rfl g _ _ rfl (Tx.Own.alloc (by assumption) _) ⟨_,0,none⟩ 1 [_] rfl (World.news_of_block (heap_alloc_new _ _)) (by simp; try omega) (by simp; omega) ?_; intro v2 w2 hown2 hb2 hz2)
        exact ⟨⟨a,(a : Int) - 1,by omega,rfl,rfl,by rw [HH.out.1 (.inr hd)]; exact hown2,hB1.trans ((Below.refl g _).alloc hz1 _ |>.trans hb2),hz2⟩,by show ((a : Int) - 1 + 1).toNat < ((a : Int) + 1).toNat; omega⟩
      · have hdz : ¬ (255 : Int) < (d : Int) := by omega
        go_wp2_with (at_builtin; refine Tx.append rfl _ _ rfl g _ _ rfl (Tx.Own.alloc (by assumption) _) ⟨_,0,none⟩ 1 [_] rfl (World.news_of_block (heap_alloc_new _ _)) (by simp; try omega) (by simp; omega) ?_; intro v2 w2 hown2 hb2 hz2)
        exact ⟨⟨a,(a : Int) - 1,by omega,rfl,rfl,by rw [HH.out.2 rfl (by omega)]; exact hown2,HBB.out.trans ((Below.refl g _).alloc hgs _ |>.trans hb2),hz2⟩,by show ((a : Int) - 1 + 1).toNat < ((a : Int) + 1).toNat; omega⟩
    · have hlp : 0 < l.length := List.length_pos_iff.2 hl0
      have hlz : (0 : Int) < (l.length : Int) := by omega
      go_upto_region 7 with (at_builtin; refine Tx.append rfl _ _ rfl g _ _ rfl (Tx.Own.alloc (by assumption) _) ⟨_,0,none⟩ 1 [_] rfl (World.news_of_block (heap_alloc_new _ _)) (by simp; try omega) (by simp; omega) ?_; intro v1 w1 hown1 hb1 hz1)
      have cx3 := Rn.keep hb1 hgs cx2 hbx
      obtain ⟨ga1,cap1,rfl⟩ := hown1.size
      have hB1 : Below g w w1 := HBB.out.trans ((Below.refl g _).alloc hgs _ |>.trans hb1)
      go_wp2_with (at_builtin; refine Tx.append rfl _ _ rfl g _ _ rfl (Tx.Own.alloc (by assumption) _) ⟨_,0,none⟩ 1 [_] rfl (World.news_of_block (heap_alloc_new _ _)) (by simp; try omega) (by simp; omega) ?_; intro v2 w2 hown2 hb2 hz2)
      exact ⟨⟨a,(a : Int) - 1,by omega,rfl,rfl,by rw [HH.out.1 (.inl hl0)]; exact hown2,hB1.trans ((Below.refl g _).alloc hz1 _ |>.trans hb2),hz2⟩,by show ((a : Int) - 1 + 1).toNat < ((a : Int) + 1).toNat; omega⟩
end
end
section
open Go.RowKit

def Rn.lv (x : Nat) : Value := .int .u64 (x : Int)
/-- Slice value v holds the digits l in a row of the call's own, from block B on. -/
def Rn.Own (w : World) (B : Nat) (v : Value) (l : List Nat) : Prop := w.ownsRow B 76 1 v l.length (l.map Rn.lv)
theorem Rn.Own.below {w w' : World} {B B' : Nat} {v : Value} {l : List Nat} (h : Rn.Own w B v l) (hb : Below B' w w') (hB : w.heap.size ≤ B') : Rn.Own w' B v l := by
  refine ⟨h.1,?_⟩
  rcases h.2 with hn | ⟨g,cap,cur,rfl,hg,hgg,rest⟩
  · exact .inl hn
  · refine .inr ⟨g,cap,cur,rfl,hg,?_,rest⟩
    rw [hb.block g (Nat.lt_of_lt_of_le (Array.getElem?_eq_some_iff.1 hgg).1 hB)]
    exact hgg
theorem Rn.Own.drew {w : World} {B : Nat} {v : Value} {l : List Nat} (h : Rn.Own w B v l) : Rn.Own w.drew B v l := h
theorem Rn.Own.drewN {w : World} {B : Nat} {v : Value} {l : List Nat} (h : Rn.Own w B v l) : ∀ n,Rn.Own (w.drewN n) B v l
  | 0 => h
  | n + 1 => (Rn.Own.drewN h n).drew
theorem Rn.Own.alloc {w : World} {B : Nat} {v : Value} {l : List Nat} (h : Rn.Own w B v l) (o : Obj) : Rn.Own (w.alloc o) B v l := World.ownsRow.alloc h o
theorem Rn.Own.mono {w : World} {B B' : Nat} {v : Value} {l : List Nat} (h : Rn.Own w B v l) (hB : B' ≤ B) : Rn.Own w B' v l := by
  refine ⟨h.1,?_⟩
  rcases h.2 with hn | ⟨g,cap,cur,rfl,hg,rest⟩
  · exact .inl hn
  · exact .inr ⟨g,cap,cur,rfl,Nat.le_trans hB hg,rest⟩
theorem Rn.Own.size {w : World} {B : Nat} {v : Value} {l : List Nat} (h : Rn.Own w B v l) : ∃ g cap,v = .slice g l.length cap := by
  rcases h.2 with ⟨rfl,hn⟩ | ⟨g,cap,cur,rfl,_⟩
  · exact ⟨_,_,by rw [hn]⟩
  · exact ⟨_,_,rfl⟩
section
variable {w : World} {ops : Array Oper} {rest : List Oper} {o : Oper} {a : Act} {Q : Exit → Act → World → Prop}
/-- append of some digits to what the call owns. -/
theorem Rn.append (hg : o.guard = none) (s x : Operand) (hop : o.op = .call { callee := .builtin .append,args := #[s,x],argTypes := #[49,49] }) (B : Nat) (v : Value) (l : List Nat) (hs : a.eval s = v) (hown : Rn.Own w B v l)
    (ad : Addr) (c : Nat) (bs : List Nat) (hx : a.eval x = .slice (some ad) bs.length c) (hnew : ∀ j u,(bs.map Rn.lv)[j]? = some u → w.cell? (ad.add j) = some u) (hlen : l.length + bs.length ≤ 17592186044416) (hB : B ≤ w.heap.size)
    (hK : ∀ v' w',Rn.Own w' B v' (l ++ bs) → Below B w w' → B ≤ w'.heap.size → wpList Tryz.prog ops Q rest (a.put o.dst v') w') : wpList Tryz.prog ops Q (o :: rest) a w := by
  obtain ⟨i0,hi,hz0,hz1,hz2⟩ := info_parts Rn.info64
  refine wpList_append_own w hg s x 49 hop B 76 i0 (.int .u64 0) 1 8 Tryz.underlying49 hi hz0 hz1 hz2 rfl (by decide) v l.length (l.map Rn.lv) hs hown ad bs.length c (bs.map Rn.lv) hx (by simp) hnew (by intro u hu; obtain ⟨b,_,rfl⟩ := List.mem_map.1 hu; rfl) (by unfold maxLen; omega) (by omega) hB ?_
  intro v' w' h1 h2 _
  refine hK v' w' ?_ ((Below.refl _ _).grown h2 hB fun k hk => (World.ownsRow.lt hown k hk).1) (Nat.le_trans hB h2.size)
  simpa [Rn.Own] using h1
end

/-- The i-th digit of x. -/
def Rn.dg (x i : Nat) : Nat := x / 65536 ^ i % 65536
theorem Rn.dg_lt (x i : Nat) : Rn.dg x i < 65536 := Nat.mod_lt _ (by decide)
theorem Rn.mod_step (x i : Nat) : x % 65536 ^ (i + 1) = x % 65536 ^ i + 65536 ^ i * Rn.dg x i := Nat.mod_pow_succ
theorem Rn.dg_val (f : Nat → Nat) (hf : ∀ j,f j < 65536) (n i : Nat) (h : i < n) : Rn.dg (Vl.val 65536 f n) i = f i := by
  obtain ⟨m,rfl⟩ : ∃ m,n = i + m := ⟨n - i,by omega⟩
  obtain ⟨k,rfl⟩ : ∃ k,m = 1 + k := ⟨m - 1,by omega⟩
  unfold Rn.dg
  have hp : 0 < 65536 ^ i := Nat.pow_pos (by decide)
  rw [Nt.val_split,Nat.add_mul_div_right _ _ hp,Nat.div_eq_of_lt (Vl.val_lt 65536 (by decide) f i (fun j _ => hf j)),Nat.zero_add,Nt.val_split]
  have e : Vl.val 65536 (fun j => f (i + j)) 1 = f i := by simp [Vl.val]
  rw [e,Nat.pow_one,Nat.add_mul_mod_self_right,Nat.mod_eq_of_lt (hf i)]
theorem Rn.dg_out (x n i : Nat) (hx : x < 65536 ^ n) (h : n ≤ i) : Rn.dg x i = 0 := by
  unfold Rn.dg
  rw [Nat.div_eq_of_lt (Nat.lt_of_lt_of_le hx (Nat.pow_le_pow_right (by decide) h))]
theorem Rn.digit_any (w : World) (ax : Option Addr) (n cx x : Nat) (hx : Rn.Num w ax n cx x) (i : Nat) :
    Calls Tryz.prog 71 #[.slice ax n cx,.int .i64 (i : Int)] w fun e w' => e = .returned (.int .u64 ((Rn.dg x i : Nat) : Int)) ∧ w' = w := by
  rcases Nat.lt_or_ge i n with h | h
  · obtain ⟨_,bx,ox,fx,hLx,dx,hvx,_⟩ := hx
    obtain ⟨rfl,hL⟩ := hLx (by omega)
    rw [← hvx,Rn.dg_val fx dx n i h]
    exact Rn.digit_in w bx ox n cx fx hL i h
  · rw [Rn.dg_out x n i hx.lt h]
    exact Rn.digit_out w ax n cx i h
set_option maxHeartbeats 1000000 in
set_option maxRecDepth 100000 in
theorem Rn.trim_wide (w : World) (b o n c : Nat) (f : Nat → Nat) (hx : Rn.Lim w b o n f) (hc : n ≤ c) (hn : n ≤ 10000000) (hcb : c ≤ 9223372036854775807) :
    Calls Tryz.prog 45 #[.slice (some ⟨b,o,none⟩) n c] w fun e w' => w' = w ∧ ∃ m,e = .returned (.slice (some ⟨b,o,none⟩) m c) ∧ m ≤ n ∧ (∀ j,m ≤ j → j < n → f j = 0) ∧ (m = 0 ∨ f (m - 1) ≠ 0) := by
  go_enter Tryz.func45,Tryz.ntmps45
  go_wp2_with fail
  go_loop [0] (fun v => ∃ (m : Nat),m ≤ n ∧ v = .slice (some ⟨b,o,none⟩) m c ∧ ∀ j,m ≤ j → j < n → f j = 0) (fun v => match v with | .slice _ m _ => m | _ => 0)
  case atStart => exact ⟨n,Nat.le_refl _,rfl,fun j h1 h2 => by omega⟩
  case round =>
  obtain ⟨m,hm,rfl,hz⟩ := hrel
  by_cases hm0 : m = 0
  · subst hm0
    have HZ := Lib.hid hz
    clear hz
    go_wp2_with fail
    go_ret
    exact ⟨rfl,0,rfl,Nat.zero_le _,HZ.out,.inl rfl⟩
  · obtain ⟨a,rfl⟩ : ∃ a,m = a + 1 := ⟨m - 1,by omega⟩
    have hmz : (0 : Int) < ((a + 1 : Nat) : Int) := by omega
    have ca := hx.cell a (by omega)
    have ea : ((a + 1 : Nat) : Int) - 1 = (a : Int) := by omega
    have ea0 : 0 ≤ (a : Int) := by omega
    have eal : (a : Int) < ((a + 1 : Nat) : Int) := by omega
    have eac : (a : Int) ≤ (c : Int) := by omega
    obtain ⟨x,ex⟩ : ∃ x,f a = x := ⟨_,rfl⟩
    rw [ex] at ca
    have HZ := Lib.hid (And.intro hz ex)
    obtain ⟨m1,hm1⟩ : ∃ m1,a + 1 = m1 := ⟨_,rfl⟩
    rw [hm1] at hmz ea eal hm ⊢
    have haw : wrap64 (a : Int) = (a : Int) := by unfold wrap64; omega
    have HM := Lib.hid hm1
    clear hz ex hm1 hm0
    by_cases hx0 : x = 0
    · subst hx0
      go_wp2_with fail
      refine ⟨⟨a,by have := HM.out; omega,rfl,fun j h1 h2 => ?_⟩,by have := HM.out; show a < m1; omega⟩
      by_cases hj : j = a
      · rw [hj]; exact HZ.out.2
      · exact HZ.out.1 j (by omega) h2
    · have hx0z : ((x : Int) == 0) = false := by rw [beq_eq_false_iff_ne]; omega
      go_wp2_with fail
      go_ret
      exact ⟨rfl,m1,rfl,hm,(by rw [← HM.out]; exact HZ.out.1),.inr (by rw [← HM.out]; show f a ≠ 0; rw [HZ.out.2]; exact hx0)⟩
/-- The digits of a list, as a number. -/
def Rn.nm (l : List Nat) : Nat := Vl.val 65536 (fun j => l.getD j 0) l.length
end
end Go.Proofs.YthlecdggkolgmaaGreatDoor
