/- readTwo, readAndDivide. -/
import Derived.Test.YthlecdggkolgmaaGreatDoorNtS
import Derived.Test.YthlecdggkolgmaaGreatDoorShelf
import Derived.Test.YthlecdggkolgmaaGreatDoorNtQ
import Derived.Test.YthlecdggkolgmaaGreatDoorNtR
import Derived.Test.YthlecdggkolgmaaGreatDoorNtW
import Derived.BigRegion
namespace Go.Proofs.YthlecdggkolgmaaGreatDoor
section
open Go.RowKit

theorem Nt.split_end (x y X V k r q : Nat) (hV : 0 < V) (hX : X = x * 2 ^ k) (hY : V = y * 2 ^ k) (h1 : X = r + V * q) (h2 : r < V) : x / y = q ∧ x % y = r / 2 ^ k := by
  have hk : 0 < 2 ^ k := Nat.two_pow_pos k
  have e1 : X / V = q := by rw [h1,Nat.add_mul_div_left _ _ hV,Nat.div_eq_of_lt h2,Nat.zero_add]
  have e2 : X % V = r := by rw [h1,Nat.add_mul_mod_self_left,Nat.mod_eq_of_lt h2]
  rw [hX,hY] at e1 e2
  rw [Nat.mul_div_mul_right _ _ hk] at e1
  rw [Nat.mul_mod_mul_right] at e2
  exact ⟨e1,by rw [← e2,Nat.mul_div_cancel _ hk]⟩
theorem Nt.val_top (f : Nat → Nat) (m : Nat) (hm : 0 < m) (h : f (m - 1) ≠ 0) : 4294967296 ^ (m - 1) ≤ Vl.val 4294967296 f m := by
  obtain ⟨k,rfl⟩ : ∃ k,m = k + 1 := ⟨m - 1,by omega⟩
  rw [Nat.add_sub_cancel] at h ⊢
  have : 1 * 4294967296 ^ k ≤ f k * 4294967296 ^ k := Nat.mul_le_mul_right _ (Nat.pos_of_ne_zero h)
  rw [Vl.val]
  omega
theorem Nt.top_pos (f : Nat → Nat) (m V : Nat) (hm : 0 < m) (hf : ∀ j,f j < 4294967296) (hv : Vl.val 4294967296 f m = V) (h : 4294967296 ^ (m - 1) ≤ V) : 0 < f (m - 1) := by
  obtain ⟨k,rfl⟩ : ∃ k,m = k + 1 := ⟨m - 1,by omega⟩
  rw [Nat.add_sub_cancel] at h ⊢
  rcases Nat.eq_zero_or_pos (f k) with h0 | h0
  · exfalso
    rw [Vl.val,h0,Nat.zero_mul,Nat.add_zero] at hv
    have := Vl.val_lt 4294967296 (by decide) f k (fun j _ => hf j)
    omega
  · exact h0
set_option maxHeartbeats 1000000 in
set_option maxRecDepth 100000 in
theorem Nt.split_low (w : World) (ax ay : Option Addr) (n cx x m cy y : Nat) (hx : Nt.Num w ax n cx x) (hy : Nt.Num w ay m cy y) (hxy : x < y) (hn : n ≤ 400000) (hm : m ≤ 400000) :
    Calls Tryz.prog 125 #[.slice ax n cx,.slice ay m cy] w fun e w' => ∃ av k c bv l d,e = .returned (.tuple #[.slice av k c,.slice bv l d]) ∧ Nt.Num w' av k c (x / y) ∧ Nt.Num w' bv l d (x % y) ∧ Below w.heap.size w w' := by
  have HX := Lib.hid hx
  obtain ⟨_,bx,ox,fx,hLx,dx,hvx,tx⟩ := hx
  obtain ⟨_,b',oy,fy,hLy,dy,hvy,ty⟩ := hy
  have B := Nt.below_any w ax bx ox n cx fx ay b' oy m cy fy hLx hLy dx dy (by omega) (by omega) tx ty
  rw [hvx,hvy,decide_eq_true hxy] at B
  have HB := Lib.hid B
  have HL := Lib.hid (And.intro hLx (And.intro dx (And.intro hvx tx)))
  clear B hLx hLy dx dy hvx hvy tx ty
  go_enter Tryz.func125,Tryz.ntmps125
  go_wp2_with (go_at_call 133; refine Calls.mono HB.out ?_; rintro e1 w1 ⟨rfl,k,rfl⟩)
  have W := Nt.widened_any (w.drewN k) ax bx ox n cx fx n (fun h => ⟨(HL.out.1 h).1,(HL.out.1 h).2.drewN k⟩) HL.out.2.1 (Nat.le_refl _) (by omega)
  have HW := Lib.hid W
  clear W
  go_at_call 134
  refine Calls.mono HW.out ?_
  rintro e2 w2 ⟨g,rfl,hg,hL,hb⟩
  have HG := Lib.hid (And.intro hL hb)
  clear hL hb hg
  go_wp2_with fail
  go_ret2
  refine ⟨_,_,_,_,_,_,rfl,?_,?_,(Tx.drewNb w k).trans (HG.out.2.mono (by rw [Nt.drewN_heap]; exact Nat.le_refl _))⟩
  · rw [Nat.div_eq_of_lt hxy]
    exact Nt.Num.nil _
  · rw [Nat.mod_eq_of_lt hxy]
    have h := HG.out.1
    refine ⟨Nat.le_refl _,g,0,_,fun _ => ⟨rfl,h⟩,h.dig,?_,?_⟩
    · rw [← HL.out.2.2.1]
      exact Vl.val_congr _ _ _ _ (fun j hj => by rw [if_pos hj])
    · rcases HL.out.2.2.2 with h0 | h0
      · exact .inl h0
      · by_cases hn0 : n = 0
        · exact .inl hn0
        · right
          rw [if_pos (by omega)]
          exact h0
set_option maxHeartbeats 2000000 in
set_option maxRecDepth 100000 in
theorem Nt.split_high (w : World) (ax ay : Option Addr) (n cx x m cy y : Nat) (hx : Nt.Num w ax n cx x) (hy : Nt.Num w ay m cy y) (hy0 : 0 < y) (hxy : ¬ x < y) (hn : n ≤ 400000) (hm : m ≤ 400000) :
    Calls Tryz.prog 125 #[.slice ax n cx,.slice ay m cy] w fun e w' => ∃ av k c bv l d,e = .returned (.tuple #[.slice av k c,.slice bv l d]) ∧ Nt.Num w' av k c (x / y) ∧ Nt.Num w' bv l d (x % y) ∧ Below w.heap.size w w' := by
  have hmn := hy.mono hx (by omega)
  have hm0 : 0 < m := by
    rcases Nat.eq_zero_or_pos m with h | h
    · have := hy.zero.1 h; omega
    · exact h
  have hxlt := hx.lt
  have hylt := hy.lt
  obtain ⟨_,bx,ox,fx,hLx,dx,hvx,tx⟩ := hx
  obtain ⟨_,b',oy,fy,hLy,dy,hvy,ty⟩ := hy
  have htop : fy (m - 1) ≠ 0 := ty.resolve_left (by omega)
  have hn0 : 0 < n := by omega
  have B := Nt.below_any w ax bx ox n cx fx ay b' oy m cy fy hLx hLy dx dy (by omega) (by omega) tx ty
  rw [hvx,hvy,decide_eq_false hxy] at B
  obtain ⟨rfl,hLx2⟩ := hLx hn0
  obtain ⟨rfl,hLy2⟩ := hLy hm0
  have hytop := Nt.val_top fy m hm0 htop
  rw [hvy] at hytop
  obtain ⟨tp,htp⟩ : ∃ tp,fy (m - 1) = tp := ⟨_,rfl⟩
  have htpb : tp < 4294967296 := by rw [← htp]; exact dy _
  obtain ⟨bl,hbl⟩ : ∃ bl,Lib.bitLen tp = bl := ⟨_,rfl⟩
  have hdig := Nt.bitLen_dig tp (by omega)
  have hb1 := Nt.dig_pos tp (by rw [← htp]; exact htop)
  have hb2 := Nt.dig_lt tp
  have hb3 := Nt.dig_of_lt tp 32 htpb
  rw [← hdig,hbl] at hb1 hb2 hb3
  obtain ⟨k,hk⟩ : ∃ k,32 - bl = k := ⟨_,rfl⟩
  have hk32 : k < 32 := by omega
  have hblk : bl = 32 - k := by omega
  rw [hblk] at hb2
  have Z : ∀ W : World,Calls Tryz.prog 135 #[.int .u32 (tp : Int)] W fun e w' => e = .returned (.int .i64 (k : Int)) ∧ w' = W := fun W => by
    have h := Tryz.bits_LeadingZeros32 (tp : Int) W (by omega) (by omega)
    rw [Int.toNat_natCast,hbl,show (32 : Int) - (bl : Int) = (k : Int) by omega] at h
    exact h
  have HB := Lib.hid B
  have HZ := Lib.hid Z
  have HL := Lib.hid (And.intro hLx2 (And.intro hLy2 (And.intro dx (And.intro dy (And.intro hvx hvy)))))
  have HC := Lib.hid (And.intro hmn (And.intro hxlt (And.intro hylt (And.intro hytop (And.intro htp (And.intro hb2 hk32))))))
  clear B Z hLx hLy hLx2 hLy2 dx dy hvx hvy tx ty hmn hxlt hylt hytop hb1 hb2 hb3 hblk hdig hbl htop hk hk32
  obtain ⟨m1,hm1⟩ : ∃ m1,m = m1 + 1 := ⟨m - 1,by omega⟩
  have hmz : (m : Int) - 1 = (m1 : Int) := by omega
  have hm1z : (m1 : Int) < (m : Int) := by omega
  have hm1z0 : 0 ≤ (m1 : Int) := by omega
  have HM := Lib.hid hm1
  obtain ⟨N1,hN1⟩ : ∃ N1,n + 1 = N1 := ⟨_,rfl⟩
  have hN1z : (n : Int) + 1 = (N1 : Int) := by omega
  obtain ⟨d,hd⟩ : ∃ d,n - m = d := ⟨_,rfl⟩
  obtain ⟨Q,hQ⟩ : ∃ Q,d + 1 = Q := ⟨_,rfl⟩
  have hdz : (n : Int) - (m : Int) = (d : Int) := by have := HC.out.1; omega
  have hQz : (d : Int) + 1 = (Q : Int) := by omega
  have hQb : Q ≤ 1000000 := by omega
  have hm1b : (m1 : Int) ≤ 400000 := by omega
  have hdb : (d : Int) ≤ 400000 := by omega
  have hQbz : (Q : Int) ≤ 400001 := by omega
  have hN1bz : (N1 : Int) ≤ 400001 := by omega
  have hmbz : (m : Int) ≤ 400000 := by omega
  have hnbz : (n : Int) ≤ 400000 := by omega
  have HN := Lib.hid (And.intro hN1 (And.intro hd (And.intro hQ (And.intro hm0 (And.intro hn0 (And.intro hn (And.intro hm (And.intro hy0 hxy))))))))
  clear hm1 hN1 hd hQ hm0 hn0 hn hm hy0 hxy
  go_enter Tryz.func125,Tryz.ntmps125
  go_wp2_with fail
  go_at_call 133
  refine Calls.mono HB.out ?_
  rintro e1 w1 ⟨rfl,q1,rfl⟩
  have cy := (HL.out.2.1.drewN q1).cell m1 (by have := HM.out; omega)
  have ety : fy m1 = tp := by
    have h := HC.out.2.2.2.2.1
    have h2 := HM.out
    rwa [h2,Nat.add_sub_cancel] at h
  rw [ety] at cy
  clear ety
  have hb0 : Below w.heap.size w (w.drewN q1) := Tx.drewNb w q1
  have HD := Lib.hid (And.intro hb0 (Nt.drewN_heap w q1))
  clear hb0
  obtain ⟨w1,hw1⟩ : ∃ w1,w.drewN q1 = w1 := ⟨_,rfl⟩
  rw [hw1] at cy HD ⊢
  have HW1 := Lib.hid hw1
  clear hw1
  go_wp2_with (go_at_call 135; refine Calls.mono (HZ.out _) ?_; rintro e2 w2 ⟨rfl,rfl⟩)
  clear cy
  go_at_call 134
  refine Calls.mono (Nt.widened_any w2 (some ⟨b',oy,none⟩) b' oy m cy fy m (fun _ => ⟨rfl,HL.out.2.1.below HD.out.1 HL.out.2.1.lt⟩) HL.out.2.2.2.1 (Nat.le_refl _) (by have := HN.out.2.2.2.2.2.2.1; omega)) ?_
  rintro e3 w3 ⟨g1,rfl,hg1,hL1,hb1⟩
  have H1 := Lib.hid (And.intro hg1 (And.intro hL1 hb1))
  clear hg1 hL1 hb1
  go_wp2_with fail
  go_at_call 136
  refine Calls.mono (Nt.moveUp_any w3 g1 0 m m _ k H1.out.2.1 (by have := HN.out.2.2.2.2.2.2.1; omega) HC.out.2.2.2.2.2.2) ?_
  rintro e4 w4 ⟨rfl,hL2,hO2⟩
  have hv2 := Nt.up_value (fun j => if j < m then fy j else 0) k m HC.out.2.2.2.2.2.2 HN.out.2.2.2.1 (by rw [if_pos (by have := HN.out.2.2.2.1; omega),HC.out.2.2.2.2.1]; exact HC.out.2.2.2.2.2.1)
  have hvw : Vl.val 4294967296 (fun j => if j < m then fy j else 0) m = y := by
    rw [← HL.out.2.2.2.2.2]
    exact Vl.val_congr _ _ _ _ (fun j hj => by rw [if_pos hj])
  rw [hvw] at hv2
  obtain ⟨fD,hfD⟩ : ∃ fD,Nt.part (fun j => if j < m then fy j else 0) (Nt.up (fun j => if j < m then fy j else 0) k) m = fD := ⟨_,rfl⟩
  rw [hfD] at hL2 hv2
  have hB4 : Below w.heap.size w w4 := (HD.out.1.trans (H1.out.2.2.mono HD.out.1.size)).trans (hO2.below (Nat.le_trans HD.out.1.size H1.out.1) (Nat.le_trans HD.out.1.size H1.out.2.2.size))
  have hg1w : w.heap.size ≤ g1 := Nat.le_trans HD.out.1.size H1.out.1
  have H2 := Lib.hid (And.intro hL2 (And.intro hv2 (And.intro hB4 hg1w)))
  clear hL2 hO2 hv2 hvw hfD hB4 hg1w
  go_wp2_with fail
  go_at_call 134
  refine Calls.mono (Nt.widened_any w4 (some ⟨bx,ox,none⟩) bx ox n cx fx N1 (fun _ => ⟨rfl,HL.out.1.below H2.out.2.2.1 HL.out.1.lt⟩) HL.out.2.2.1 (by have := HN.out.1; omega) (by have := HN.out.1; have := HN.out.2.2.2.2.2.1; omega)) ?_
  rintro e5 w5 ⟨g2,rfl,hg2,hL3,hb3⟩
  have H3 := Lib.hid (And.intro hg2 (And.intro hL3 hb3))
  clear hg2 hL3 hb3
  go_wp2_with fail
  go_at_call 136
  refine Calls.mono (Nt.moveUp_any w5 g2 0 N1 N1 _ k H3.out.2.1 (by have := HN.out.1; have := HN.out.2.2.2.2.2.1; omega) HC.out.2.2.2.2.2.2) ?_
  rintro e6 w6 ⟨rfl,hL4,hO4⟩
  have hv4 := Nt.up_value (fun j => if j < n then fx j else 0) k N1 HC.out.2.2.2.2.2.2 (by have := HN.out.1; omega) (by rw [if_neg (by have := HN.out.1; omega)]; exact Nat.two_pow_pos _)
  have hvx4 : Vl.val 4294967296 (fun j => if j < n then fx j else 0) N1 = x := by
    rw [← HL.out.2.2.2.2.1,Vl.val_high _ (fun j => if j < n then fx j else 0) n N1 (by have := HN.out.1; omega) (fun j h1 _ => by rw [if_neg (by omega)])]
    exact Vl.val_congr _ _ _ _ (fun j hj => by rw [if_pos hj])
  rw [hvx4] at hv4
  obtain ⟨fR,hfR⟩ : ∃ fR,Nt.part (fun j => if j < n then fx j else 0) (Nt.up (fun j => if j < n then fx j else 0) k) N1 = fR := ⟨_,rfl⟩
  rw [hfR] at hL4 hv4
  have hg21 : g1 < g2 := Nat.lt_of_lt_of_le H2.out.1.lt H3.out.1
  have hLD : Nt.Lim w6 g1 0 m fD := (H2.out.1.below H3.out.2.2 H2.out.1.lt).only hO4 (by omega)
  have hB6 : Below w.heap.size w w6 := (H2.out.2.2.1.trans (H3.out.2.2.mono H2.out.2.2.1.size)).trans (hO4.below (by have := H2.out.2.2.2; omega) (Nat.le_trans H2.out.2.2.1.size H3.out.2.2.size))
  have H4 := Lib.hid (And.intro hL4 (And.intro hv4 (And.intro hLD (And.intro hB6 hg21))))
  clear hL4 hO4 hv4 hvx4 hfR hLD hB6 hg21
  go_upto_region 9 with (at_make; refine Nt.wpList_make rfl _ _ rfl Q rfl rfl hQb ?_)
  have hLQ : Nt.Lim (w6.alloc (Obj.cells (Array.replicate Q (Value.int IntKind.u32 0)) 145)) w6.heap.size 0 Q (fun _ => 0) := by
    refine Nt.Lim.ofRow (T := 145) (l := List.replicate Q (Value.int .u32 0)) ?_ (fun j hj => ?_) (fun _ => by decide)
    · rw [heap_alloc_new]; simp
    · rw [List.getElem?_replicate,if_pos hj]; rfl
  have hb7 := (Below.refl w6.heap.size w6).alloc (Nat.le_refl _) (Obj.cells (Array.replicate Q (Value.int IntKind.u32 0)) 145)
  obtain ⟨g3,hg3⟩ : ∃ g3,w6.heap.size = g3 := ⟨_,rfl⟩
  revert hLQ hb7
  generalize w6.alloc (Obj.cells (Array.replicate Q (Value.int IntKind.u32 0)) 145) = w7
  rw [hg3]
  intro hLQ hb7
  have hLD7 := H4.out.2.2.1.below hb7 (by rw [← hg3]; exact H4.out.2.2.1.lt)
  have hLR7 := H4.out.1.below hb7 (by rw [← hg3]; exact H4.out.1.lt)
  have hB7 : Below w.heap.size w w7 := H4.out.2.2.2.1.trans (hb7.mono (by rw [← hg3]; exact H4.out.2.2.2.1.size))
  have hg32 : g2 < g3 := by rw [← hg3]; exact H4.out.1.lt
  have hVlt : y * 2 ^ k < 4294967296 ^ m := by rw [← H2.out.2.1]; exact Vl.val_lt _ (by decide) fD m (fun j _ => H2.out.1.dig j)
  have hdt : 0 < fD (m - 1) := Nt.top_pos fD m (y * 2 ^ k) HN.out.2.2.2.1 H2.out.1.dig H2.out.2.1 (Nat.le_trans HC.out.2.2.2.1 (Nat.le_mul_of_pos_right _ (Nat.two_pow_pos k)))
  have hstart : x * 2 ^ k < y * 2 ^ k * 4294967296 ^ Q := by
    have h1 := HC.out.2.1
    have h2 := HC.out.2.2.2.1
    have h3 : 4294967296 ^ n = 4294967296 ^ (m - 1) * 4294967296 ^ Q := by
      rw [← Nat.pow_add]
      have := HN.out
      congr 1
      omega
    rw [Nat.mul_right_comm]
    refine Nat.mul_lt_mul_of_lt_of_le (Nat.lt_of_lt_of_le h1 ?_) (Nat.le_refl _) (Nat.two_pow_pos k)
    rw [h3]
    exact Nat.mul_le_mul_right _ h2
  have H7 := Lib.hid (And.intro hLD7 (And.intro hLR7 (And.intro hLQ (And.intro hB7 (And.intro hg32 (And.intro hVlt (And.intro hdt hstart)))))))
  have HG := Lib.hid hg3
  clear hLD7 hLR7 hLQ hB7 hg32 hb7 hVlt hdt hstart hg3
  go_wp2_with fail
  go_loopw [48] (fun iv wr => ∃ (i : Nat) (fr fq : Nat → Nat),i ≤ Q ∧ iv = .int .i64 (i : Int) ∧ Nt.Lim wr g1 0 m fD ∧ Nt.Lim wr g2 0 N1 fr ∧ Nt.Lim wr g3 0 Q fq ∧ x * 2 ^ k = Vl.val 4294967296 fr N1 + y * 2 ^ k * Vl.val 4294967296 fq Q ∧ Vl.val 4294967296 fr N1 < y * 2 ^ k * 4294967296 ^ (Q - i) ∧ (∀ j,j < Q - i → fq j = 0) ∧ Below w.heap.size w wr) (fun iv _ => Q - (intOf iv).toNat)
  case atStart => exact ⟨0,fR,fun _ => 0,Nat.zero_le _,rfl,H7.out.1,H7.out.2.1,H7.out.2.2.1,by rw [H4.out.2.1,Vl.val_zero _ _ _ (fun _ _ => rfl),Nat.mul_zero,Nat.add_zero],by rw [H4.out.2.1]; exact H7.out.2.2.2.2.2.2.2,fun _ _ => rfl,H7.out.2.2.2.1⟩
  case round =>
  obtain ⟨i,fr,fq,hi,rfl,hLD,hLR,hLQ,hv,hlt,hz,hB⟩ := hrel
  obtain ⟨w8,rfl⟩ : ∃ w8,w8 = wr := ⟨_,rfl⟩
  by_cases hin : i < Q
  · have hiz : (i : Int) < (Q : Int) := by omega
    obtain ⟨Q1,hQ1⟩ : ∃ Q1,Q - 1 = Q1 := ⟨_,rfl⟩
    obtain ⟨a,ha⟩ : ∃ a,Q1 - i = a := ⟨_,rfl⟩
    obtain ⟨s1,hs1⟩ : ∃ s1,a + m = s1 := ⟨_,rfl⟩
    obtain ⟨M,hM⟩ : ∃ M,m + 1 = M := ⟨_,rfl⟩
    obtain ⟨e,he⟩ : ∃ e,a + M = e := ⟨_,rfl⟩
    have hall := HN.out
    have hQ1z : (Q : Int) - 1 = (Q1 : Int) := by omega
    have haz : (Q1 : Int) - (i : Int) = (a : Int) := by omega
    have hs1z : (a : Int) + (m : Int) = (s1 : Int) := by omega
    have hez : (s1 : Int) + 1 = (e : Int) := by omega
    have ha0 : 0 ≤ (a : Int) := by omega
    have haQ : a < Q := by omega
    have haQz : (a : Int) < (Q : Int) := by omega
    have haez : (a : Int) ≤ (e : Int) := by omega
    have heN : e ≤ N1 := by have := HC.out.1; omega
    have heNz : (e : Int) ≤ (N1 : Int) := by omega
    have hNa : ¬ N1 = a := by omega
    have hea : e - a = M := by omega
    have hQi : Q - i = a + 1 := by omega
    have hanm : a + m ≤ n := by have := HC.out.1; omega
    have hQ1b : (Q1 : Int) ≤ 400001 := by omega
    have hab : (a : Int) ≤ 400001 := by omega
    have hs1b : (s1 : Int) ≤ 800001 := by omega
    have heb : (e : Int) ≤ 800002 := by omega
    rw [hQi] at hlt hz
    have hV0 : 0 < y * 2 ^ k := Nat.mul_pos (by omega) (Nat.two_pow_pos k)
    have hP := Nt.split_lt fr a m n (y * 2 ^ k) H7.out.2.2.2.2.2.1 (by rw [hall.1]; exact hlt) hanm
    have hDg := Nt.digit_any w8 g2 a M (N1 - a) (fun j => fr (a + j)) g1 0 m m fD (by have h := hLR.shift a M (by omega); rwa [Nat.zero_add] at h) hLD hM.symm (by omega) (by omega) (by omega) (by have := H4.out.2.2.2.2; omega) H7.out.2.2.2.2.2.2.1 (by rw [H2.out.2.1]; exact hP)
    rw [H2.out.2.1] at hDg
    have HDg := Lib.hid hDg
    have HV := Lib.hid (And.intro hLD (And.intro hLR (And.intro hLQ (And.intro hv (And.intro hlt (And.intro hz hB))))))
    have HE := Lib.hid (And.intro hQ1 (And.intro ha (And.intro hs1 (And.intro hM (And.intro he (And.intro hQi (And.intro hanm hV0)))))))
    have cq := hLQ.cell a haQ
    have rq := hLQ.fro a haQ
    rw [Nat.zero_add] at cq rq
    clear hDg hP hLD hLR hLQ hv hlt hz hB hQ1 ha hs1 hM he hQi hanm hV0 cq rq hall
    go_wp2_with fail
    go_at_call 137
    refine Calls.mono HDg.out ?_
    rintro e9 w9 ⟨t,fo,rfl,htb,ht,hLo,hvo,hfo0,_,hO⟩
    have hLQ9 := HV.out.2.2.1.only hO (by have := H7.out.2.2.2.2.1; omega)
    have hLD9 := HV.out.1.only hO (by have := H4.out.2.2.2.2; omega)
    have hLR9 := HV.out.2.1.put a M (by rw [Nat.zero_add]; exact hLo) (by rw [Nat.zero_add]; exact hO)
    have hB9 : Below w.heap.size w w9 := HV.out.2.2.2.2.2.2.trans (hO.below (by have := H4.out.2.2.2.2; have := H2.out.2.2.2; omega) HV.out.2.2.2.2.2.2.size)
    have cq := hLQ9.cell a haQ
    have rq := hLQ9.fro a haQ
    rw [Nat.zero_add] at cq rq
    have hS := Nt.split_step fr fo HV.out.2.1.dig a m n (x * 2 ^ k) (y * 2 ^ k) (Vl.val 4294967296 fq Q) HE.out.2.2.2.2.2.2.2 H7.out.2.2.2.2.2.1 (by rw [HN.out.1]; exact HV.out.2.2.2.1) (by rw [HN.out.1]; exact HV.out.2.2.2.2.1) HE.out.2.2.2.2.2.2.1 hvo hfo0
    have hOS := Nt.Only.set (b := g3) (off := 0) (n := Q) w9 a (.int .u32 (t : Int)) haQ
    have hLQs := hLQ9.set a t haQ htb
    have hLDs := hLD9.only hOS (by have := H7.out.2.2.2.2.1; have := H4.out.2.2.2.2; omega)
    have hLRs := hLR9.only hOS (by have := H7.out.2.2.2.2.1; omega)
    have hBs := hB9.trans (hOS.below (B := w.heap.size) (by have := H7.out.2.2.2.2.1; have := H4.out.2.2.2.2; have := H2.out.2.2.2; omega) hB9.size)
    rw [Nat.zero_add] at hLQs hLDs hLRs hBs
    have HS := Lib.hid (And.intro hLQs (And.intro hLDs (And.intro hLRs (And.intro hBs (And.intro hS (And.intro htb ht))))))
    clear hLQ9 hLD9 hLR9 hB9 hS hOS hLQs hLDs hLRs hBs htb ht hLo hvo hfo0 hO
    go_wp2_with fail
    refine ⟨⟨i + 1,_,_,by omega,by go_num,HS.out.2.1,HS.out.2.2.1,HS.out.1,?_,?_,?_,HS.out.2.2.2.1⟩,by simp [intOf]; omega⟩
    · have h1 := HS.out.2.2.2.2.1.1
      have h2 := Vl.val_upd 4294967296 fq a t Q haQ
      rw [HV.out.2.2.2.2.2.1 a (Nat.lt_succ_self a),Nat.zero_mul,Nat.add_zero] at h2
      rw [h2,HS.out.2.2.2.2.2.2,← HE.out.2.2.2.1,← HN.out.1]
      exact h1
    · have h1 := HS.out.2.2.2.2.1.2
      rw [show Q - (i + 1) = a by have := HE.out; omega,← HE.out.2.2.2.1,← HN.out.1]
      exact h1
    · intro j hj
      have := HE.out
      unfold Vl.upd
      rw [if_neg (by omega)]
      exact HV.out.2.2.2.2.2.1 j (by omega)
  · have hie : i = Q := by omega
    have hiz : ¬ (i : Int) < (Q : Int) := by omega
    rw [hie,Nat.sub_self,Nat.pow_zero,Nat.mul_one] at hlt
    have hall := HN.out
    have hMD := Nt.moveDown_any w8 g2 0 N1 N1 fr k hLR (by omega) HC.out.2.2.2.2.2.2
    have HV := Lib.hid (And.intro hLR (And.intro hLQ (And.intro hv (And.intro hlt hB))))
    have HMD := Lib.hid hMD
    have hN1b : N1 ≤ 1000000 := by omega
    clear hLD hLR hLQ hv hlt hz hB hie hMD hall
    go_wp2_with fail
    go_at_call 138
    refine Calls.mono HMD.out ?_
    rintro e9 w9 ⟨rfl,hLf,hO⟩
    have hLQ9 := HV.out.2.1.only hO (by have := H7.out.2.2.2.2.1; omega)
    have hB9 : Below w.heap.size w w9 := HV.out.2.2.2.2.trans (hO.below (by have := H4.out.2.2.2.2; have := H2.out.2.2.2; omega) HV.out.2.2.2.2.size)
    have HT1 := Lib.hid (Nt.trimmed_any w9 g3 0 Q Q fq hLQ9 (Nat.le_refl _) hQb)
    have HT2 := Lib.hid (Nt.trimmed_any w9 g2 0 N1 N1 _ hLf (Nat.le_refl _) hN1b)
    have HF := Lib.hid (And.intro hLf (And.intro hLQ9 hB9))
    clear hLf hLQ9 hB9 hO
    go_wp2_with fail
    go_at_call 124
    refine Calls.mono HT1.out ?_
    rintro e10 w10 ⟨rfl,k1,rfl,hk1,hz1,ht1⟩
    have HK1 := Lib.hid (And.intro hk1 (And.intro hz1 ht1))
    clear hk1 hz1 ht1
    go_wp2_with fail
    go_at_call 124
    refine Calls.mono HT2.out ?_
    rintro e11 w11 ⟨rfl,k2,rfl,hk2,hz2,ht2⟩
    have HK2 := Lib.hid (And.intro hk2 (And.intro hz2 ht2))
    clear hk2 hz2 ht2
    go_wp2_with fail
    go_ret2
    have hE := Nt.split_end x y (x * 2 ^ k) (y * 2 ^ k) k (Vl.val 4294967296 fr N1) (Vl.val 4294967296 fq Q) (Nat.mul_pos (by have := HN.out; omega) (Nat.two_pow_pos k)) rfl rfl HV.out.2.2.1 HV.out.2.2.2.1
    refine ⟨_,_,_,_,_,_,rfl,?_,?_,HF.out.2.2⟩
    · rw [hE.1]
      exact Nt.Num.of HF.out.2.1 HK1.out.1 HK1.out.1 HK1.out.2.1 HK1.out.2.2
    · rw [hE.2,← Nt.down_value fr k N1 HC.out.2.2.2.2.2.2]
      exact Nt.Num.of HF.out.1 HK2.out.1 HK2.out.1 HK2.out.2.1 HK2.out.2.2
theorem Nt.split_any (w : World) (ax ay : Option Addr) (n cx x m cy y : Nat) (hx : Nt.Num w ax n cx x) (hy : Nt.Num w ay m cy y) (hy0 : 0 < y) (hn : n ≤ 400000) (hm : m ≤ 400000) :
    Calls Tryz.prog 125 #[.slice ax n cx,.slice ay m cy] w fun e w' => ∃ av k c bv l d,e = .returned (.tuple #[.slice av k c,.slice bv l d]) ∧ Nt.Num w' av k c (x / y) ∧ Nt.Num w' bv l d (x % y) ∧ Below w.heap.size w w' := by
  by_cases h : x < y
  · exact Nt.split_low w ax ay n cx x m cy y hx hy h hn hm
  · exact Nt.split_high w ax ay n cx x m cy y hx hy hy0 h hn hm
end
section
section
open Go.RowKit
end
section
section
open Go.RowKit

theorem Nt.read_step (f : Nat → Nat) (N V i a r c : Nat) (hi : i = 4 * a + r) (hr : r < 4) (ha : a < N) (hv : Vl.val 4294967296 f N = V) (hV : V < 256 ^ i) (hc : c < 256) :
    f a < 2 ^ (8 * r) ∧ c * 2 ^ (8 * r) < 4294967296 ∧ (f a ||| c * 2 ^ (8 * r)) = f a + c * 2 ^ (8 * r) ∧ f a + c * 2 ^ (8 * r) < 4294967296 ∧ Vl.val 4294967296 (Vl.upd f a (f a + c * 2 ^ (8 * r))) N = V + c * 256 ^ i := by
  have eP : (256 : Nat) ^ i = 2 ^ (8 * r) * 4294967296 ^ a := by
    rw [hi,show (256 : Nat) = 2 ^ 8 by rfl,← Nat.pow_mul,show 8 * (4 * a + r) = 8 * r + 32 * a by omega,Nat.pow_add,Nat.pow_mul 2 32]
  have hp : 0 < 4294967296 ^ a := Nat.pow_pos (by decide)
  have hle : f a * 4294967296 ^ a ≤ V := by
    have e1 := Nt.val_split 4294967296 f a (N - a)
    rw [show a + (N - a) = N by omega,hv] at e1
    obtain ⟨m,hm⟩ : ∃ m,N - a = 1 + m := ⟨N - a - 1,by omega⟩
    have e2 := Nt.val_split 4294967296 (fun j => f (a + j)) 1 m
    rw [hm,e2] at e1
    have e3 : Vl.val 4294967296 (fun j => f (a + j)) 1 = f a := by simp [Vl.val]
    rw [e3,Nat.add_mul] at e1
    omega
  have h1 : f a < 2 ^ (8 * r) := by
    rw [eP] at hV
    exact Nat.lt_of_mul_lt_mul_right (Nat.lt_of_le_of_lt hle hV)
  have h24 : 2 ^ (8 * r) ≤ 2 ^ 24 := Nat.pow_le_pow_right (by decide) (by omega)
  have h2 : c * 2 ^ (8 * r) ≤ 255 * 2 ^ 24 := Nat.mul_le_mul (by omega) h24
  have h3 : c * 2 ^ (8 * r) < 4294967296 := by omega
  have h4 : (f a ||| c * 2 ^ (8 * r)) = f a + c * 2 ^ (8 * r) := by
    have h := Nt.up_or c (8 * r) (f a) (by omega) h1
    rw [Nat.mod_eq_of_lt h3] at h
    rw [Nat.or_comm,h,Nat.add_comm]
  refine ⟨h1,h3,h4,by omega,?_⟩
  have h5 := Vl.val_upd 4294967296 f a (f a + c * 2 ^ (8 * r)) N ha
  rw [Nat.add_mul,hv,Nat.mul_assoc c,← eP] at h5
  omega
set_option maxHeartbeats 1000000 in
set_option maxRecDepth 100000 in
theorem Nt.read_ok (w : World) (s : ByteArray) (hs : s.size ≤ 512) :
    Calls Tryz.prog 106 #[.string s] w fun e w' => ∃ av k c,e = .returned (.tuple #[.slice av k c,.nilIface]) ∧ Nt.Num w' av k c (Nt.rd s.data.toList) ∧ Below w.heap.size w w' := by
  obtain ⟨L,hL⟩ : ∃ L,s.size = L := ⟨_,rfl⟩
  have hsz : (s.size : Int) = (L : Int) := by rw [hL]
  have hlist : s.data.toList.length = L := by rw [← hL]; simp
  have hval := Nt.rd_val s.data.toList
  rw [hlist] at hval
  obtain ⟨L3,hL3⟩ : ∃ L3,L + 3 = L3 := ⟨_,rfl⟩
  obtain ⟨N,hN⟩ : ∃ N,L3 / 4 = N := ⟨_,rfl⟩
  have hL3z : (L : Int) + 3 = (L3 : Int) := by omega
  have hNz : (L3 : Int) / 4 = (N : Int) := by omega
  have hLb : (L : Int) ≤ 512 := by omega
  have hL3b : (L3 : Int) ≤ 515 := by omega
  have hNb : (N : Int) ≤ 128 := by omega
  have hNb2 : N ≤ 1000000 := by omega
  have H0 := Lib.hid (And.intro hL (And.intro hlist (And.intro hval (And.intro hL3 hN))))
  have hLlo : ¬ (512 : Int) < (L : Int) := by omega
  clear hL hlist hval hL3 hN hs
  go_enter Tryz.func106,Tryz.ntmps106
  go_upto_region 4 with (at_make; refine Nt.wpList_make rfl _ _ rfl N rfl rfl hNb2 ?_)
  have hL0 : Nt.Lim (w.alloc (Obj.cells (Array.replicate N (Value.int IntKind.u32 0)) 145)) w.heap.size 0 N (fun _ => 0) := by
    refine Nt.Lim.ofRow (T := 145) (l := List.replicate N (Value.int .u32 0)) ?_ (fun j hj => ?_) (fun _ => by decide)
    · rw [heap_alloc_new]; simp
    · rw [List.getElem?_replicate,if_pos hj]; rfl
  have hb0 := (Below.refl w.heap.size w).alloc (Nat.le_refl _) (Obj.cells (Array.replicate N (Value.int IntKind.u32 0)) 145)
  obtain ⟨g,hg⟩ : ∃ g,w.heap.size = g := ⟨_,rfl⟩
  revert hL0 hb0
  generalize w.alloc (Obj.cells (Array.replicate N (Value.int IntKind.u32 0)) 145) = w1
  rw [hg]
  intro hL0 hb0
  have HG := Lib.hid (And.intro hg (And.intro hL0 hb0))
  clear hg hL0 hb0
  go_wp2_with fail
  go_loopw [17] (fun iv wr => ∃ (i : Nat) (f : Nat → Nat),i ≤ L ∧ iv = .int .i64 (i : Int) ∧ Nt.Lim wr g 0 N f ∧ Vl.val 4294967296 f N = Vl.val 256 (Nt.lo s.data.toList) i ∧ Below g w wr) (fun iv _ => L - (intOf iv).toNat)
  case atStart => exact ⟨0,_,Nat.zero_le _,rfl,HG.out.2.1,by rw [Vl.val_zero _ _ _ (fun _ _ => rfl)]; rfl,HG.out.2.2⟩
  case round =>
  obtain ⟨i,f,hi,rfl,hLm,hv,hB⟩ := hrel
  obtain ⟨w3,rfl⟩ : ∃ w3,w3 = wr := ⟨_,rfl⟩
  by_cases hin : i < L
  · have hiz : (i : Int) < (L : Int) := by omega
    have hiz0 : 0 ≤ (i : Int) := by omega
    obtain ⟨L1,hL1⟩ : ∃ L1,L - 1 = L1 := ⟨_,rfl⟩
    obtain ⟨p,hp⟩ : ∃ p,L1 - i = p := ⟨_,rfl⟩
    obtain ⟨a,ha⟩ : ∃ a,i / 4 = a := ⟨_,rfl⟩
    obtain ⟨r,hr⟩ : ∃ r,i % 4 = r := ⟨_,rfl⟩
    obtain ⟨t,ht⟩ : ∃ t,8 * r = t := ⟨_,rfl⟩
    have hall := H0.out
    have haN : a < N := by omega
    have ht24 : t ≤ 24 := by omega
    have hps : p < s.size := by omega
    obtain ⟨c,hc⟩ : ∃ c,s[p] = c := ⟨_,rfl⟩
    obtain ⟨ch,hch⟩ : ∃ ch,c.toNat = ch := ⟨_,rfl⟩
    have hchb : ch < 256 := by rw [← hch]; exact c.toNat_lt
    have hlo : Nt.lo s.data.toList i = ch := by
      unfold Nt.lo
      rw [hall.2.1,show L - 1 - i = p by omega,List.getD_eq_getElem?_getD,List.getElem?_eq_getElem (by rw [hall.2.1]; omega)]
      show (s[p]).toNat = ch
      rw [hc,hch]
    have hVb : Vl.val 256 (Nt.lo s.data.toList) i < 256 ^ i := Vl.val_lt 256 (by decide) _ i (fun j _ => UInt8.toNat_lt _)
    have hst := Nt.read_step f N _ i a r ch (by omega) (by omega) haN hv hVb hchb
    rw [ht] at hst
    have cx := hLm.cell a haN
    have rx := hLm.fro a haN
    have dx := hLm.dig a
    obtain ⟨x,ex⟩ : ∃ x,f a = x := ⟨_,rfl⟩
    rw [ex] at hst cx dx
    rw [Nat.zero_add] at cx rx
    obtain ⟨v,hv2⟩ : ∃ v,ch * 2 ^ t = v := ⟨_,rfl⟩
    rw [hv2] at hst
    obtain ⟨y,hy⟩ : ∃ y,x + v = y := ⟨_,rfl⟩
    rw [hy] at hst
    have hLs := fun k => (hLm.drewN k).set a y haN hst.2.2.2.1
    have hBs := fun k => (hB.trans (Tx.drewNb w3 k)).setCell (p := ⟨g,a,none⟩) (Nat.le_refl _) (.int .u32 (y : Int))
    have e1 : Vl.val 4294967296 (Vl.upd f a y) N = Vl.val 256 (Nt.lo s.data.toList) (i + 1) := by
      rw [hst.2.2.2.2,Vl.val,hlo]
    have hor : bits .or .u32 (x : Int) (v : Int) = (y : Int) := by rw [u32_or_nat _ _ dx hst.2.1,hst.2.2.1]
    have hL1z : (L : Int) - 1 = (L1 : Int) := by omega
    have hpz : (L1 : Int) - (i : Int) = (p : Int) := by omega
    have htz : 8 * (r : Int) = (t : Int) := by omega
    have ht0 : ¬ (t : Int) < 0 := by omega
    have htm : min t 64 = t := Nat.min_eq_left (by omega)
    have haz0 : 0 ≤ (a : Int) := by omega
    have haNz : (a : Int) < (N : Int) := by omega
    have hpz0 : 0 ≤ (p : Int) := by omega
    have hpL : (p : Int) < (L : Int) := by omega
    have hrz0 : 0 ≤ (r : Int) := by omega
    have hq1 : (i : Int).tdiv 4 = (a : Int) := by rw [Int.tdiv_eq_ediv_of_nonneg (by omega)]; omega
    have hq2 : (i : Int).tmod 4 = (r : Int) := by rw [Int.tmod_eq_emod_of_nonneg (by omega)]; omega
    have hq3 : (i : Int) / 4 = (a : Int) := by omega
    have hq4 : (i : Int) % 4 = (r : Int) := by omega
    have hsh : (ch : Int) * 2 ^ t = (v : Int) := by rw [← hv2]; simp
    have hvb := hst.2.1
    have hyb := hst.2.2.2.1
    have HV := Lib.hid (And.intro hLs (And.intro hBs e1))
    have k1 : IntKind.u32.wrap (ch : Int) = (ch : Int) := Nt.u32_eq _ _ (by omega)
    have k2 : IntKind.u32.wrap (v : Int) = (v : Int) := Nt.u32_eq _ _ (by omega)
    have k3 : IntKind.i64.wrap (L1 : Int) = (L1 : Int) := IntWalk.i64_in _ (by omega)
    have k4 : IntKind.i64.wrap (p : Int) = (p : Int) := IntWalk.i64_in _ (by omega)
    have k5 : IntKind.i64.wrap (t : Int) = (t : Int) := IntWalk.i64_in _ (by omega)
    have k6 : IntKind.i64.wrap (a : Int) = (a : Int) := IntWalk.i64_in _ (by omega)
    have k7 : IntKind.i64.wrap (r : Int) = (r : Int) := IntWalk.i64_in _ (by omega)
    clear hst hLs hBs e1 hv hB hLm hL1 hp ha hr ht hall hv2 hy ex hlo hVb hchb
    go_wp2_with fail
    go_region
    all_goals
      have hLs := HV.out.1 1
      have hBs := HV.out.2.1 1
      rw [Nat.zero_add] at hLs
      have HW := Lib.hid (And.intro hLs hBs)
      clear hLs hBs
      go_wp2_with fail
      exact ⟨⟨i + 1,_,by omega,by go_num,HW.out.1,HV.out.2.2,HW.out.2⟩,by simp [intOf]; omega⟩
  · have hie : i = L := by omega
    have hiz : ¬ (i : Int) < (L : Int) := by omega
    have HT := Lib.hid (And.intro (Nt.trimmed_any w3 g 0 N N f hLm (Nat.le_refl _) hNb2) (And.intro hLm (And.intro hB (by rw [hv,hie,H0.out.2.2.1] : Vl.val 4294967296 f N = Nt.rd s.data.toList))))
    clear hLm hv hB hie
    go_wp2_with (go_at_call 124; refine Calls.mono HT.out.1 ?_; rintro e1 w4 ⟨rfl,k,rfl,hk,hz,ht⟩; have HZ := Lib.hid (And.intro hk (And.intro hz ht)); clear hk hz ht)
    go_ret2
    refine ⟨_,_,_,rfl,?_,HT.out.2.2.1.mono (Nat.le_of_eq HG.out.1)⟩
    rw [← HT.out.2.2.2]
    exact Nt.Num.of HT.out.2.1 HZ.out.1 HZ.out.1 HZ.out.2.1 HZ.out.2.2
end
section
section
open Go.RowKit

theorem Nt.leftOf_any (w : World) (ax ay : Option Addr) (n cx x m cy y : Nat) (hx : Nt.Num w ax n cx x) (hy : Nt.Num w ay m cy y) (hy0 : 0 < y) (hn : n ≤ 400000) (hm : m ≤ 400000) :
    Calls Tryz.prog 108 #[.slice ax n cx,.slice ay m cy] w fun e w' => ∃ av k c,e = .returned (.slice av k c) ∧ Nt.Num w' av k c (x % y) ∧ Below w.heap.size w w' := by
  have HS := Lib.hid (Nt.split_any w ax ay n cx x m cy y hx hy hy0 hn hm)
  clear hx hy
  go_enter Tryz.func108,Tryz.ntmps108
  go_wp2_with fail
  go_at_call 125
  refine Calls.mono HS.out ?_
  rintro e1 w1 ⟨av,k,c,bv,l,d,rfl,h1,h2,hb⟩
  have HN := Lib.hid (And.intro h1 (And.intro h2 hb))
  clear h1 h2 hb
  go_wp2_with fail
  go_ret
  exact ⟨_,_,_,rfl,HN.out.2.1,HN.out.2.2⟩
theorem Nt.times_any (w : World) (ax ay az : Option Addr) (n cx x m cy y l cz z : Nat) (hx : Nt.Num w ax n cx x) (hy : Nt.Num w ay m cy y) (hz : Nt.Num w az l cz z) (hz0 : 0 < z) (hn : n ≤ 200000) (hm : m ≤ 200000) (hl : l ≤ 400000) :
    Calls Tryz.prog 110 #[.slice ax n cx,.slice ay m cy,.slice az l cz] w fun e w' => ∃ av k c,e = .returned (.slice av k c) ∧ Nt.Num w' av k c (x * y % z) ∧ Below w.heap.size w w' := by
  have HS := Lib.hid (And.intro hx (And.intro hy hz))
  clear hx hy hz
  go_enter Tryz.func110,Tryz.ntmps110
  go_wp2_with fail
  go_at_call 127
  refine Calls.mono (Nt.product_any w ax ay n cx x m cy y HS.out.1 HS.out.2.1 (by omega) (by omega)) ?_
  rintro e1 w1 ⟨av,k,c,rfl,h1,hb⟩
  have hk : k ≤ n + m := h1.len _ (by
    rw [Nat.pow_add]
    have a1 := HS.out.1.lt
    have a2 := HS.out.2.1.lt
    exact Nat.mul_lt_mul_of_lt_of_le a1 (Nat.le_of_lt a2) (Nat.pow_pos (by decide)))
  have HN := Lib.hid (And.intro h1 (And.intro hb hk))
  clear h1 hb hk
  go_wp2_with fail
  go_at_call 108
  refine Calls.mono (Nt.leftOf_any w1 av az k c (x * y) l cz z HN.out.1 (HS.out.2.2.below HN.out.2.1) hz0 (by have := HN.out.2.2; omega) hl) ?_
  rintro e2 w2 ⟨bv,k2,c2,rfl,h2,hb2⟩
  have HM := Lib.hid (And.intro h2 hb2)
  clear h2 hb2
  go_wp2_with fail
  go_ret
  exact ⟨_,_,_,rfl,HM.out.1,HN.out.2.1.trans (HM.out.2.mono HN.out.2.1.size)⟩
end
section
open Go.RowKit

/-- What a text says as a number. -/
def Nt.nv (s : ByteArray) : Nat := Nt.rd s.data.toList
theorem Nt.nv_lt (s : ByteArray) : Nt.nv s < 256 ^ s.size := by
  have h := Nt.rd_lt s.data.toList
  rwa [show s.data.toList.length = s.size by simp] at h
/-- A number of at most 4 k bytes has at most k limbs. -/
theorem Nt.Num.bytes {w : World} {ax : Option Addr} {n cx x : Nat} (h : Nt.Num w ax n cx x) (k b : Nat) (hx : x < 256 ^ b) (hb : b ≤ 4 * k) : n ≤ k := h.len k (by
  have h2 : 256 ^ b ≤ 256 ^ (4 * k) := Nat.pow_le_pow_right (by decide) hb
  rw [Nat.pow_mul] at h2
  exact Nat.lt_of_lt_of_le hx h2)
set_option maxHeartbeats 1000000 in
theorem Nt.readTwo_ok (w : World) (s t : ByteArray) (hs : s.size ≤ 512) (ht : t.size ≤ 512) :
    Calls Tryz.prog 105 #[.string s,.string t] w fun e w' => ∃ ax n cx ay m cy,e = .returned (.tuple #[.slice ax n cx,.slice ay m cy,.nilIface]) ∧ Nt.Num w' ax n cx (Nt.nv s) ∧ Nt.Num w' ay m cy (Nt.nv t) ∧ n ≤ 128 ∧ m ≤ 128 ∧ Below w.heap.size w w' := by
  have HS := Lib.hid (And.intro hs ht)
  clear hs ht
  go_enter Tryz.func105,Tryz.ntmps105
  go_wp2_with fail
  go_at_call 106
  refine Calls.mono (Nt.read_ok w s HS.out.1) ?_
  rintro e1 w1 ⟨ax,n,cx,rfl,h1,hb1⟩
  have H1 := Lib.hid (And.intro h1 hb1)
  clear h1 hb1
  go_wp2_with fail
  go_at_call 106
  refine Calls.mono (Nt.read_ok w1 t HS.out.2) ?_
  rintro e2 w2 ⟨ay,m,cy,rfl,h2,hb2⟩
  have H2 := Lib.hid (And.intro h2 hb2)
  clear h2 hb2
  go_wp2_with fail
  exact bodyPost_ret (v := .tuple #[.slice ax n cx,.slice ay m cy,.nilIface]) (by simp [results,Tryz.results105,go_sem]) rfl ⟨_,_,_,_,_,_,rfl,H1.out.1.below H2.out.2,H2.out.1,H1.out.1.bytes 128 s.size (Nt.nv_lt s) HS.out.1,H2.out.1.bytes 128 t.size (Nt.nv_lt t) HS.out.2,H1.out.2.trans (H2.out.2.mono H1.out.2.size)⟩
end
end
end
end
end Go.Proofs.YthlecdggkolgmaaGreatDoor
