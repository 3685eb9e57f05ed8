/- The reference's Fits. -/
import Derived.Test.YthlecdggkolgmaaGreatDoorRsU
import Derived.Test.YthlecdggkolgmaaGreatDoorRsN
import Derived.Test.YthlecdggkolgmaaGreatDoorReg
namespace Go.Proofs.YthlecdggkolgmaaGreatDoor
section
open Go.RowKit
theorem Rs.own_empty (w : World) (B : Nat) (hB : B ≤ w.heap.size) : Tx.Own (w.alloc (.cells #[] 5)) B (.slice (some ⟨w.heap.size,0,none⟩) 0 0) [] :=
  World.ownsRow_made w #[] 0 hB (by unfold maxLen; omega) rfl
theorem Rs.own_row {w : World} {B : Nat} {v : Value} {l : List UInt8} (h : Tx.Own w B v l) (hl : l ≠ []) : ∃ g,B ≤ g ∧ Hs.Row w g v l := by
  rcases h.2 with ⟨_,hn⟩ | ⟨g,cap,cur,hv,hg,_⟩
  · exact absurd (List.length_eq_zero_iff.1 hn) hl
  · exact ⟨g,hg,Hs.Row.of h (by rw [hv]; rfl)⟩
theorem Rs.row_byt {w : World} {g : Nat} {v : Value} {l : List UInt8} (h : Hs.Row w g v l) : Nt.Byt w g 0 l.length (Rs.at l) := by
  have hlt := h.lt
  rcases h.1.2 with ⟨hv,_⟩ | ⟨g2,cap,cur,hv,hb,hgg,hnc,hcm,hcs,ht⟩
  · have := h.2
    rw [hv] at this
    simp [Value.ownBlock] at this
  · have e : g2 = g := by have := h.2; rw [hv] at this; simpa [Value.ownBlock] using this
    subst e
    refine ⟨fun j hj => ?_,fun j hj => ?_,hlt⟩
    · have e := congrArg (·[j]?) ht
      simp only [List.getElem?_take,List.getElem?_map] at e
      rw [if_pos (by omega),List.getElem?_eq_getElem hj] at e
      simp only [Array.getElem?_toList,Option.map_some] at e
      have e2 : Rs.at l j = (l[j]).toNat := by
        unfold Rs.at
        rw [List.getD_eq_getElem?_getD,List.getElem?_eq_getElem hj]
        rfl
      rw [e2]
      simp [World.cell?,hgg,e,Tx.bv]
    · simp [World.frozen?,hgg]
theorem Rs.bf_zero (a m : Nat → Nat) (ha : ∀ j,a j < 256) (hm : ∀ j,m j < 256) (j : Nat) : Rs.bf a m 0 j = m j ^^^ a j := by
  unfold Rs.bf
  split
  · rename_i e
    rw [e,show (255 / 2 ^ 0 : Nat) = 2 ^ 8 - 1 from rfl,Nat.and_two_pow_sub_one_eq_mod]
    exact Nat.mod_eq_of_lt (Rs.xor_lt _ _ (hm 0) (ha 0))
  · rfl
theorem Rs.bf_next (a m : Nat → Nat) (t : Nat) (ht : t ≤ 6) : Rs.bf a m t 0 &&& (255 / 2 ^ (t + 1)) = Rs.bf a m (t + 1) 0 := by
  unfold Rs.bf
  rw [if_pos rfl,if_pos rfl,Nat.and_assoc]
  congr 1
  have : t = 0 ∨ t = 1 ∨ t = 2 ∨ t = 3 ∨ t = 4 ∨ t = 5 ∨ t = 6 := by omega
  rcases this with rfl | rfl | rfl | rfl | rfl | rfl | rfl <;> rfl
theorem Rs.bf_other (a m : Nat → Nat) (t u j : Nat) (hj : j ≠ 0) : Rs.bf a m t j = Rs.bf a m u j := by
  unfold Rs.bf
  rw [if_neg hj,if_neg hj]
theorem Rs.laid_rep (salt : List UInt8) (N : Nat) : List.replicate N (0 : UInt8) ++ [1] ++ salt = Rs.laidA salt (N + 1) := rfl
theorem Rs.z8 : (⟨#[0,0,0,0,0,0,0,0]⟩ : ByteArray) = Tx.ba (List.replicate 8 0) := rfl
set_option maxHeartbeats 4000000 in
set_option maxRecDepth 100000 in
theorem Rs.RPss_ok (w : World) (s salt : ByteArray) (B n sp : Nat) (h1 : 1 ≤ B) (h2 : B ≤ 4096) (hn : n = (B + 7) / 8) (h66 : 66 ≤ n) (hsp : sp + B = 8 * n) (hsp7 : sp ≤ 7) (hsl : salt.size = 32) (hs : s.size ≤ 140737488351232) :
    Calls Tryz.prog 13 #[.string s,.string salt,.int .i64 (B : Int)] w fun e w' => e = .returned (.string (Tx.ba (Rs.pss s.data.toList salt.data.toList n sp))) ∧ Below w.heap.size w w' := by
  have CS := Lib.hid (fun W gK cK gF cF hK hF (t : ByteArray) (ht : t.size ≤ 140737488351232) => Rf.sum0 W gK cK gF cF t (by omega) hK hF)
  have hz := Rf.zeroK
  have hsz2 : (salt.size : Int) = 32 := by omega
  have q1 : Int.tdiv ((B : Int) + 7) 8 = (n : Int) := by rw [Int.tdiv_eq_ediv_of_nonneg (by omega)]; omega
  have hbi : (B : Int) ≤ 4096 := by omega
  have hbl : 1 ≤ (B : Int) := by omega
  have h66z : ¬ (n : Int) < 66 := by omega
  have hnb : (n : Int) ≤ 512 := by omega
  have HN := Lib.hid (And.intro h1 (And.intro h2 (And.intro hn (And.intro h66 (And.intro hsp (And.intro hsp7 (And.intro hsl hs)))))))
  clear h1 h2 hn h66 hsp hsp7 hsl hs
  go_enter Tryz.func13,Tryz.ntmps13
  go_upto_region 5 with (first | ((with_reducible refine Calls.mono (Rf.of0 _) ?_); rintro e1 w1 ⟨gK,cK,gF,cF,rfl,hK,hF,b1⟩; have hRs := Rf.kc_size 0 (.slice (some ⟨gK,0,none⟩) 64 cK) (.slice (some ⟨gF,0,none⟩) 8 cF); have hone : (Rf.kc 0 (.slice (some ⟨gK,0,none⟩) 64 cK) (.slice (some ⟨gF,0,none⟩) 8 cF)).all (·.oneCell') = true := (by simp [Rf.kc,Rf.n3,Value.oneCell']); have CC := CS.out; have CC1 := fun W hK hF => CC W gK cK gF cF hK hF; obtain ⟨R,hR⟩ : ∃ R,Rf.kc 0 (.slice (some ⟨gK,0,none⟩) 64 cK) (.slice (some ⟨gF,0,none⟩) 8 cF) = R := ⟨_,rfl⟩; rw [hR] at hRs hone CC1 ⊢; have CC2 := Lib.hid CC1; clear CC CC1 hR; have hsz : (Tryz.prog.info? 61).map (·.size) = some R.size := (by rw [hRs]; exact Rf.infoKd); have hzs : Rf.zk.size = R.size := (by rw [hRs]; rfl); clear hRs) | (refine wpList_store_row rfl 61 (.tmp 8) (.tmp 27) rfl w1.heap.size R rfl rfl 61 _ (heap_alloc_new w1 _) hsz hzs hone ?_; rw [World.setRow_alloc_new]))
  have r2 := heap_alloc_new w1 (.cells R 61)
  have b2 : Below w1.heap.size w1 (w1.alloc (.cells R 61)) := (Below.refl _ _).alloc (Nat.le_refl _) _
  have hK2 := hK.bel b2
  have hF2 := hF.bel b2
  obtain ⟨g,hg⟩ : ∃ g,w1.heap.size = g := ⟨_,rfl⟩
  have B2 := b1.trans (b2.mono b1.size)
  rw [hg] at r2 ⊢
  clear CS hK hF b1 b2 hg hzs hone hz
  generalize w1.alloc (.cells R 61) = w2 at r2 B2 hK2 hF2 ⊢
  obtain ⟨y,hy⟩ : ∃ y,Tx.ba (Hs.sum 0 s.data.toList) = y := ⟨_,rfl⟩
  have hys : y.size = 32 := by rw [← hy]; exact Rs.sum_len _
  obtain ⟨HH,hHH⟩ : ∃ HH,Tx.ba (Rs.inner s.data.toList salt.data.toList) = HH := ⟨_,rfl⟩
  have hHs : HH.size = 32 := by rw [← hHH]; exact Rs.inner_len _ _
  have e2 : Tx.ba (Hs.sum 0 (((⟨#[0,0,0,0,0,0,0,0]⟩ : ByteArray) ++ y) ++ salt).data.toList) = HH := by
    rw [← hHH,← hy,Rs.z8,Rs.ba_app]
    unfold Rs.inner
    congr 2
  have F1 := Lib.hid (fun p => (by
    have := CC2.out (Rg.w w2 p) (hK2.bel (Rg.below w2 p)) (hF2.bel (Rg.below w2 p)) s HN.out.2.2.2.2.2.2.2
    rw [hy] at this
    exact this : Calls Tryz.prog 30 #[.agg R,.string s] (Rg.w w2 p) fun e w' => e = .returned (.string y) ∧ Below (Rg.w w2 p).heap.size (Rg.w w2 p) w'))
  have F2 := Lib.hid (fun p => (by
    have := CC2.out (Rg.w w2 p) (hK2.bel (Rg.below w2 p)) (hF2.bel (Rg.below w2 p)) (((⟨#[0,0,0,0,0,0,0,0]⟩ : ByteArray) ++ y) ++ salt) (by rw [ByteArray.size_append,ByteArray.size_append,hys,HN.out.2.2.2.2.2.2.1]; decide)
    rw [e2] at this
    exact this : Calls Tryz.prog 30 #[.agg R,.string (((⟨#[0,0,0,0,0,0,0,0]⟩ : ByteArray) ++ y) ++ salt)] (Rg.w w2 p) fun e w' => e = .returned (.string HH) ∧ Below (Rg.w w2 p).heap.size (Rg.w w2 p) w'))
  have HE := Lib.hid (And.intro B2 (And.intro hHH hHs))
  clear CC2 hK2 hF2 B2 e2 hy hHH
  refine Rg.quiet (by kernel_rfl) (by kernel_rfl) ?_
  repeat (first | (go_big_quiet_want; refine Rg.load_row _ 61 rfl g rfl 61 R (0,0) _ r2 Tryz.underlying61 rfl hsz _ (by simp only [Act.put,List.setIfInBounds_toArray,List.set_cons_zero,List.set_cons_succ]; exact rfl) ?_; go_big_quiet_on) | go_big_quiet_step ((first | (go_at_call 30; with_reducible exact Rg.call (F1.out _)) | (go_at_call 30; with_reducible exact Rg.call (F2.out _)))))
  refine wpQuiet_nil ?_
  intro w' hw'
  obtain ⟨p,rfl⟩ := hw'
  have hBp := Rg.below w2 p
  generalize Rg.w w2 p = w3 at hBp ⊢
  have H3 := Lib.hid (HE.out.1.trans (hBp.mono HE.out.1.size))
  clear hBp F1 F2 r2
  have hn66 : 66 ≤ n := HN.out.2.2.2.1
  have hn512 : n ≤ 512 := by omega
  obtain ⟨N,hN⟩ : ∃ N,n - 66 = N := ⟨_,rfl⟩
  have hN1 : (n : Int) - 66 = (N : Int) := by omega
  have hNb : (N : Int) ≤ 512 := by omega
  obtain ⟨P,hP⟩ : ∃ P,n - 33 = P := ⟨_,rfl⟩
  have hP1 : (n : Int) - 33 = (P : Int) := by omega
  have hPb : (P : Int) ≤ 512 := by omega
  have hPN : P = N + 33 := by omega
  have HP := Lib.hid (And.intro hN (And.intro hP (And.intro hPN (And.intro hn66 hn512))))
  clear hN hP hPN hn66 hn512
  go_wp2_with fail
  have o4 := Rs.own_empty w3 w3.heap.size (Nat.le_refl _)
  have b4 : Below w3.heap.size w3 (w3.alloc (.cells #[] 5)) := (Below.refl _ _).alloc (Nat.le_refl _) _
  have H4 := Lib.hid (And.intro o4 b4)
  clear o4 b4
  go_loopw [11] (fun v wr => ∃ k : Nat,k ≤ N ∧ Tx.Own wr w3.heap.size v (List.replicate k 0) ∧ Below w3.heap.size w3 wr) (fun v _ => N - Rs.sliceLen v)
  case atStart => exact ⟨0,Nat.zero_le _,H4.out.1,H4.out.2⟩
  case round =>
  obtain ⟨k,hk,hown,hb⟩ := hrel
  obtain ⟨w5,rfl⟩ : ∃ w5,w5 = wr := ⟨_,rfl⟩
  obtain ⟨gq,c,rfl⟩ := hown.size
  have hl : (List.replicate k (0 : UInt8)).length = k := List.length_replicate
  obtain ⟨M,hM⟩ : ∃ M,(List.replicate k (0 : UInt8)).length = M := ⟨_,rfl⟩
  rw [hM] at hl hown ⊢
  by_cases hlt : M < N
  · have hltz : (M : Int) < (N : Int) := by omega
    have hMb : (M : Int) ≤ 512 := by omega
    have hn' : List.replicate k (0 : UInt8) ++ [0] = List.replicate (k + 1) 0 := List.replicate_succ'.symm
    have HL : (List.replicate k (0 : UInt8)).length + [()].length ≤ 140737488355328 := by rw [hM]; simp; omega
    have HK := Lib.hid (And.intro hn' (And.intro hM (And.intro hl hlt)))
    clear hn' hM hl hlt
    go_wp2_with (at_builtin; refine Tx.append rfl _ _ rfl w3.heap.size _ (List.replicate k 0) rfl (Tx.Own.alloc hown _) ⟨_,0,none⟩ 1 [0] rfl (World.news_of_block (heap_alloc_new _ _)) HL (by have := hb.size; simp; omega) ?_; intro v1 w6 hown1 hb6 hz6)
    rw [HK.out.1] at hown1
    obtain ⟨g1,c1,rfl⟩ := hown1.size
    refine ⟨⟨k + 1,by have := HK.out.2; omega,hown1,(hb.alloc hb.size _).trans hb6⟩,?_⟩
    have := HK.out.2
    show N - (List.replicate (k + 1) (0 : UInt8)).length < N - M
    rw [List.length_replicate]
    omega
  · have hltz : ¬ (M : Int) < (N : Int) := by omega
    have hkN : k = N := by omega
    have hMN : M = N := by omega
    have HL : (List.replicate k (0 : UInt8)).length + [()].length ≤ 140737488355328 := by rw [hM]; have := HP.out; simp; omega
    have HL2 : (List.replicate k (0 : UInt8) ++ [1]).length + salt.size ≤ 140737488355328 := by rw [List.length_append,hM,HN.out.2.2.2.2.2.2.1]; have := HP.out; simp; omega
    have HLL : (List.replicate k (0 : UInt8) ++ [1] ++ salt.data.toList).length = P := by rw [List.length_append,List.length_append,hM,Rs.ba_len,HN.out.2.2.2.2.2.2.1]; have := HP.out; simp; omega
    have hLd : List.replicate k (0 : UInt8) ++ [1] ++ salt.data.toList = Rs.laidA salt.data.toList (n - 65) := by rw [Rs.laid_rep,hkN,show N + 1 = n - 65 by have := HP.out; omega]
    obtain ⟨k1,hk1⟩ : ∃ k1,(List.replicate k (0 : UInt8) ++ [1]).length = k1 := ⟨_,rfl⟩
    have hk1b : k1 ≤ 600 := by rw [← hk1,List.length_append,hM]; have := HP.out; simp; omega
    have HK1 := Lib.hid hk1
    clear hk1
    have HM := Lib.hid (fun W => Rs.Rmask_any W HH P (by have := HE.out.2.2; omega) (by have := HP.out; omega))
    obtain ⟨MM,hMM⟩ : ∃ MM,Rs.mask HH P = MM := ⟨_,rfl⟩
    have hMs : MM.size = P := by rw [← hMM]; exact Rs.mask_size HH P (by have := HP.out; omega)
    rw [hMM] at HM
    have HX := Lib.hid (And.intro hl (And.intro hkN (And.intro hMN (And.intro hMM (And.intro hM HLL)))))
    clear hl hkN hMN hMM hM hlt HLL
    go_wp2_with (at_builtin; first | (refine Tx.append rfl _ _ rfl w3.heap.size _ (List.replicate k 0) rfl (Tx.Own.alloc hown _) ⟨_,0,none⟩ 1 [1] rfl (World.news_of_block (heap_alloc_new _ _)) HL (by have := hb.size; simp; omega) ?_; intro v1 w6 hown1 hb6 hz6; obtain ⟨g1,hg1,hrow1⟩ := Rs.own_row hown1 (by simp); obtain ⟨cc,rfl⟩ := hrow1.len; rw [HK1.out] at hrow1 ⊢) | (refine Hs.appendS rfl _ _ rfl g1 _ _ rfl hrow1 salt rfl HL2 ?_; intro v2 w7 g2 hrow2 hg2 hbut; obtain ⟨c2,rfl⟩ := hrow2.len; rw [HX.out.2.2.2.2.2] at hrow2 ⊢))
    have hby := Rs.row_byt hrow2
    rw [HX.out.2.2.2.2.2,hLd] at hby
    have hg3 : w3.heap.size ≤ g2 := by
      have := hg1
      have := hz6
      rcases hg2 with e | e <;> omega
    have hB7 := ((hb.alloc hb.size (Obj.cells #[.int .u8 1] 5)).trans hb6).trans (hbut.toBelow hg1 hz6)
    have H7 := Lib.hid (And.intro hby (And.intro hg3 (And.intro hB7 hrow2.lt)))
    clear hown hown1 hb6 hrow1 hrow2 hg2 hbut hby hg3 hB7 hb hg1 hz6 HL HL2 hLd
    go_at_call 12
    refine Calls.mono (HM.out _) ?_
    rintro e8 w8 ⟨rfl,hb8⟩
    have hL8 := Rs.Byt_below H7.out.1 hb8 H7.out.2.2.2
    have hB8 := H7.out.2.2.1.trans (hb8.mono H7.out.2.2.1.size)
    have hal := Rs.at_lt (Rs.laidA salt.data.toList (n - 65))
    have hml := Rs.at_lt MM.data.toList
    have hga := Rs.at_get MM
    obtain ⟨a,ha⟩ : ∃ a,Rs.at (Rs.laidA salt.data.toList (n - 65)) = a := ⟨_,rfl⟩
    obtain ⟨m,hm⟩ : ∃ m,Rs.at MM.data.toList = m := ⟨_,rfl⟩
    rw [ha] at hal hL8
    rw [hm] at hml hga
    have HA := Lib.hid (And.intro hal (And.intro hml (And.intro hga (And.intro ha hm))))
    have H8 := Lib.hid (And.intro hL8 (And.intro hB8 H7.out.2.1))
    clear hL8 hB8 hal hml hga ha hm hb8 H7 HM
    go_wp2_with fail
    go_loopw [13] (fun iv wr => ∃ (i : Nat) (f : Nat → Nat),i ≤ P ∧ iv = .int .i64 (i : Int) ∧ Nt.Byt wr g2 0 P f ∧ (∀ j,j < i → f j = m j ^^^ a j) ∧ (∀ j,i ≤ j → f j = a j) ∧ Below w3.heap.size w3 wr) (fun iv _ => P - (intOf iv).toNat)
    case atStart => exact ⟨0,a,Nat.zero_le _,rfl,H8.out.1,fun j hj => by omega,fun j _ => rfl,H8.out.2.1⟩
    case round =>
    obtain ⟨i,f,hi,rfl,hL,hlo,hup,hB⟩ := hrel
    obtain ⟨w9,rfl⟩ : ∃ w9,w9 = wr := ⟨_,rfl⟩
    by_cases hin : i < P
    · have hiz : (i : Int) < (P : Int) := by omega
      have hi0 : 0 ≤ (i : Int) := by omega
      have hiA : i < MM.size := by omega
      have hib : (i : Int) ≤ 512 := by omega
      have c3 := (hL.drewN 1).cell i hin
      have f3 := (hL.drewN 1).fro i hin
      rw [Nat.zero_add] at c3 f3
      have c3 : w9.drew.cell? ⟨g2,i,none⟩ = _ := c3
      have f3 : w9.drew.frozen? ⟨g2,i,none⟩ = false := f3
      have hx := hup i (Nat.le_refl _)
      obtain ⟨x,ex⟩ : ∃ x,f i = x := ⟨_,rfl⟩
      rw [ex] at c3 hx
      have hxl : x < 256 := by rw [hx]; exact HA.out.1 i
      have hy := HA.out.2.2.1 i hiA
      obtain ⟨d,hd⟩ : ∃ d,MM[i] = d := ⟨_,rfl⟩
      rw [hd] at hy
      have hxo : bits .xor .u8 (x : Int) (d.toNat : Int) = ((x ^^^ d.toNat : Nat) : Int) := u8_xor_nat x d.toNat hxl (UInt8.toNat_lt _)
      obtain ⟨z,hz2⟩ : ∃ z,x ^^^ d.toNat = z := ⟨_,rfl⟩
      rw [hz2] at hxo
      have hzm : z = m i ^^^ a i := by rw [← hz2,hx,hy,Nat.xor_comm]
      have hLs := (hL.drewN 1).set i z
      rw [Nat.zero_add] at hLs
      have hBs := (below_drewN hB 1).setCell (p := ⟨g2,i,none⟩) H8.out.2.2 (.int .u8 (z : Int))
      have HV := Lib.hid (And.intro hLs (And.intro hBs (And.intro hlo (And.intro hup hzm))))
      clear hL hlo hup hB hLs hBs hzm hz2 hy ex hx hMs
      go_wp2_with fail
      go_region
      go_wp2_with fail
      refine ⟨⟨i + 1,_,by omega,by go_num,HV.out.1,?_,?_,HV.out.2.1⟩,by simp [intOf]; omega⟩
      · intro j hj
        unfold Vl.upd
        by_cases e : j = i
        · rw [if_pos e,e]
          exact HV.out.2.2.2.2
        · rw [if_neg e]
          exact HV.out.2.2.1 j (by omega)
      · intro j hj
        unfold Vl.upd
        rw [if_neg (by omega)]
        exact HV.out.2.2.2.1 j (by omega)
    · have hiz : ¬ (i : Int) < (P : Int) := by omega
      have hiP : i = P := by omega
      have hL0 : Nt.Byt w9 g2 0 P (Rs.bf a m 0) := Rs.Byt_congr hL (fun j hj => by rw [hlo j (by omega),Rs.bf_zero a m HA.out.1 HA.out.2.1])
      have H9 := Lib.hid (And.intro hL0 (And.intro hB hiP))
      clear hL hlo hup hB hL0 hiP
      go_wp2_with fail
      go_loopw [14] (fun kv wr => ∃ t : Nat,t ≤ sp ∧ kv = .int .i64 ((B + t : Nat) : Int) ∧ Nt.Byt wr g2 0 P (Rs.bf a m t) ∧ Below w3.heap.size w3 wr) (fun kv _ => B + sp - (intOf kv).toNat)
      case atStart => exact ⟨0,Nat.zero_le _,rfl,H9.out.1,H9.out.2.1⟩
      case round =>
      obtain ⟨t,ht,rfl,hL,hB⟩ := hrel
      obtain ⟨w10,rfl⟩ : ∃ w10,w10 = wr := ⟨_,rfl⟩
      obtain ⟨K,hK⟩ : ∃ K,B + t = K := ⟨_,rfl⟩
      rw [hK]
      have hsp := HN.out.2.2.2.2.1
      have hsp7 := HN.out.2.2.2.2.2.1
      have h8b : 8 * (n : Int) ≤ 4096 := by omega
      have hw8 : IntKind.i64.wrap (8 * (n : Int)) = 8 * (n : Int) := by unfold IntKind.wrap; simp [IntKind.bits,IntKind.signed]; omega
      have hKb : (K : Int) ≤ 8192 := by omega
      by_cases htl : t < sp
      · have hlt8 : (K : Int) < 8 * (n : Int) := by omega
        have hKB : (K : Int) - (B : Int) = (t : Int) := by omega
        obtain ⟨T,hT⟩ : ∃ T,t + 1 = T := ⟨_,rfl⟩
        have hT1 : (t : Int) + 1 = (T : Int) := by omega
        have hT7 : T ≤ 7 := by omega
        have hTz : (T : Int) ≤ 7 := by omega
        have htz : (t : Int) ≤ 7 := by omega
        have hP0 : 0 < P := by have := HP.out; omega
        have hP0z : (0 : Int) < (P : Int) := by omega
        have c3 := (hL.drewN 1).cell 0 hP0
        have f3 := (hL.drewN 1).fro 0 hP0
        rw [Nat.zero_add] at c3 f3
        have c3 : w10.drew.cell? ⟨g2,0,none⟩ = _ := c3
        have f3 : w10.drew.frozen? ⟨g2,0,none⟩ = false := f3
        have hxn := Rs.bf_next a m t (by omega)
        have hxl := Rs.bf_lt a m HA.out.1 HA.out.2.1 t 0
        obtain ⟨x,ex⟩ : ∃ x,Rs.bf a m t 0 = x := ⟨_,rfl⟩
        rw [ex] at c3 hxl hxn
        rw [hT] at hxn
        have hsh : (255 : Int) / 2 ^ T = ((255 / 2 ^ T : Nat) : Int) := by simp
        obtain ⟨y2,hy2⟩ : ∃ y2,255 / 2 ^ T = y2 := ⟨_,rfl⟩
        have hyl : y2 < 256 := by rw [← hy2]; exact Nat.lt_of_le_of_lt (Nat.div_le_self _ _) (by omega)
        rw [hy2] at hsh hxn
        have han : bits .and .u8 (x : Int) (y2 : Int) = ((x &&& y2 : Nat) : Int) := u8_and_nat x y2 hxl hyl
        obtain ⟨z,hz2⟩ : ∃ z,x &&& y2 = z := ⟨_,rfl⟩
        rw [hz2] at han hxn
        have hLs := (hL.drewN 1).set 0 z
        rw [Nat.zero_add] at hLs
        have hLb : Nt.Byt ((w10.drewN 1).setCell ⟨g2,0,none⟩ (.int .u8 (z : Int))) g2 0 P (Rs.bf a m (t + 1)) := Rs.Byt_congr hLs (fun j hj => by
          unfold Vl.upd
          by_cases e : j = 0
          · rw [if_pos e,e,hxn,hT]
          · rw [if_neg e]
            exact Rs.bf_other a m _ _ j e)
        have hBs := (below_drewN hB 1).setCell (p := ⟨g2,0,none⟩) H8.out.2.2 (.int .u8 (z : Int))
        have hmin : min T 64 = T := by omega
        have hK1 : (K : Int) + 1 = ((B + (t + 1) : Nat) : Int) := by omega
        have HV := Lib.hid (And.intro hLb (And.intro hBs (And.intro htl (And.intro hT (And.intro hsp hK1)))))
        clear hL hB hLs hLb hBs hz2 hy2 ex hxn htl hT hK ht hsp hsp7 hK1
        go_wp2_with fail
        go_region
        go_wp2_with fail
        refine ⟨⟨t + 1,by have := HV.out; omega,by rw [← HV.out.2.2.2.2.2],HV.out.1,HV.out.2.1⟩,?_⟩
        have := HV.out
        simp [intOf]
        omega
      · have hlt8 : ¬ (K : Int) < 8 * (n : Int) := by omega
        have htsp : t = sp := by omega
        rw [htsp] at hL
        have hcv := Rs.Byt_cut (cap := c2) 0 P hL (Rs.bf_lt a m HA.out.1 HA.out.2.1 sp) (by omega)
        obtain ⟨CC,hCC⟩ : ∃ CC,Tx.ba ((List.range P).map fun j => UInt8.ofNat (Rs.bf a m sp (0 + j))) = CC := ⟨_,rfl⟩
        rw [hCC] at hcv
        have hCs : CC.size = P := by rw [← hCC]; exact Rs.cut_len (Rs.bf a m sp) 0 P
        have hHs := HE.out.2.2
        have hfin : (CC ++ HH) ++ ⟨#[188]⟩ = Tx.ba (Rs.pss s.data.toList salt.data.toList n sp) := by
          rw [← hCC,← HE.out.2.1,Rs.ba_app,show (⟨#[188]⟩ : ByteArray) = Tx.ba [188] from rfl,Rs.ba_app]
          unfold Rs.pss Rs.masked
          rw [← HA.out.2.2.2.1,← HA.out.2.2.2.2,HP.out.2.1,← HX.out.2.2.2.1,← HE.out.2.1]
          rfl
        have HF := Lib.hid (And.intro hfin (H3.out.trans (hB.mono H3.out.size)))
        clear hL hB hCC hfin htsp htl hK ht hsp hsp7 hMs
        go_wp2_with fail
        go_ret
        exact ⟨by rw [← HF.out.1]; rfl,HF.out.2⟩
end
section
open Go.RowKit
theorem Rs.cut_succ (f : Nat → Nat) (off k : Nat) : Rs.cut f off (k + 1) = Rs.cut f off k ++ [UInt8.ofNat (f (off + k))] := by
  unfold Rs.cut
  rw [List.range_succ,List.map_append]
  rfl
theorem Rs.cut_congr (f g : Nat → Nat) (off k : Nat) (h : ∀ j,off ≤ j → j < off + k → f j = g j) : Rs.cut f off k = Rs.cut g off k := by
  unfold Rs.cut
  apply List.map_congr_left
  intro j hj
  rw [h (off + j) (by omega) (by have := List.mem_range.1 hj; omega)]
set_option maxHeartbeats 1000000 in
set_option maxRecDepth 100000 in
theorem Rs.RFits_no (w : World) (s x : ByteArray) (b : Int) (h : b < 1 ∨ (1 ≤ b ∧ 4096 < b) ∨ (1 ≤ b ∧ b ≤ 4096 ∧ (x.size : Int) ≠ (b + 7) / 8) ∨ (1 ≤ b ∧ b ≤ 4096 ∧ (x.size : Int) = (b + 7) / 8 ∧ (x.size : Int) < 66)) :
    Calls Tryz.prog 6 #[.string s,.string x,.int .i64 b] w fun e w' => e = .returned (.bool false) ∧ Below w.heap.size w w' := by
  rcases h with h | ⟨h1,h⟩ | ⟨h1,h2,h⟩ | ⟨h1,h2,h,h3⟩
  · skip
    go_enter Tryz.func6,Tryz.ntmps6
    go_wp2_with fail
    go_ret
    exact ⟨rfl,Below.refl _ _⟩
  · have h1 : ¬ b < 1 := by omega
    go_enter Tryz.func6,Tryz.ntmps6
    go_wp2_with fail
    go_ret
    exact ⟨rfl,Below.refl _ _⟩
  · have t1 : ¬ b < 1 := by omega
    have t2 : ¬ 4096 < b := by omega
    have q1 : Int.tdiv (b + 7) 8 = (b + 7) / 8 := Int.tdiv_eq_ediv_of_nonneg (by omega)
    obtain ⟨L,hL⟩ : ∃ L : Nat,(b + 7) / 8 = (L : Int) := ⟨((b + 7) / 8).toNat,by omega⟩
    rw [hL] at h q1
    have hLb : (L : Int) ≤ 512 := by omega
    have hbi : b ≤ 4096 := by omega
    have hbl : 1 ≤ b := by omega
    obtain ⟨z,hz⟩ : ∃ z,(x.size : Int) = z := ⟨_,rfl⟩
    rw [hz] at h
    have hne : (z != (L : Int)) = true := by rw [bne_iff_ne]; exact h
    clear hL h1 h2
    go_enter Tryz.func6,Tryz.ntmps6
    go_wp2_with fail
    go_ret
    exact ⟨rfl,Below.refl _ _⟩
  · have t1 : ¬ b < 1 := by omega
    have t2 : ¬ 4096 < b := by omega
    have q1 : Int.tdiv (b + 7) 8 = (b + 7) / 8 := Int.tdiv_eq_ediv_of_nonneg (by omega)
    rw [← h] at q1
    have hbi : b ≤ 4096 := by omega
    have hbl : 1 ≤ b := by omega
    obtain ⟨z,hz⟩ : ∃ z,(x.size : Int) = z := ⟨_,rfl⟩
    rw [hz] at h3 q1
    clear h h1 h2
    go_enter Tryz.func6,Tryz.ntmps6
    go_wp2_with fail
    go_ret
    exact ⟨rfl,Below.refl _ _⟩
set_option maxHeartbeats 4000000 in
set_option maxRecDepth 100000 in
theorem Rs.RFits_ok (w : World) (s x : ByteArray) (B n sp : Nat) (h1 : 1 ≤ B) (h2 : B ≤ 4096) (hx : x.size = n) (hn : n = (B + 7) / 8) (h66 : 66 ≤ n) (hsp : sp + B = 8 * n) (hsp7 : sp ≤ 7) (hs : s.size ≤ 140737488351232) :
    Calls Tryz.prog 6 #[.string s,.string x,.int .i64 (B : Int)] w fun e w' => e = .returned (.bool (x.toList == (Tx.ba (Rs.pss s.data.toList (Rs.saltIn x.data.toList n sp) n sp)).toList)) ∧ Below w.heap.size w w' := by
  obtain ⟨SL,hSL⟩ : ∃ SL,Rs.saltIn x.data.toList n sp = SL := ⟨_,rfl⟩
  have hSLl : (Tx.ba SL).size = 32 := by rw [← hSL]; exact Rs.saltIn_len _ _ _
  have HS := Lib.hid (fun W => Rs.RPss_ok W s (Tx.ba SL) B n sp h1 h2 hn h66 hsp hsp7 hSLl hs)
  rw [hSL]
  rw [show (Tx.ba SL).data.toList = SL from rfl] at HS
  obtain ⟨Y,hY⟩ : ∃ Y,Tx.ba (Rs.pss s.data.toList SL n sp) = Y := ⟨_,rfl⟩
  rw [hY] at HS ⊢
  clear hY
  have t1 : ¬ (B : Int) < 1 := by omega
  have t2 : ¬ (4096 : Int) < (B : Int) := by omega
  have hbi : (B : Int) ≤ 4096 := by omega
  have hbl : 1 ≤ (B : Int) := by omega
  have hzn : (x.size : Int) = (n : Int) := by omega
  have q1 : Int.tdiv ((B : Int) + 7) 8 = (n : Int) := by rw [Int.tdiv_eq_ediv_of_nonneg (by omega)]; omega
  have h66z : ¬ (n : Int) < 66 := by omega
  have hnb : (n : Int) ≤ 512 := by omega
  obtain ⟨P,hP⟩ : ∃ P,n - 33 = P := ⟨_,rfl⟩
  obtain ⟨Q,hQ⟩ : ∃ Q,n - 65 = Q := ⟨_,rfl⟩
  obtain ⟨k0,hk0⟩ : ∃ k0,n - 1 = k0 := ⟨_,rfl⟩
  have hP1 : (n : Int) - 33 = (P : Int) := by omega
  have hQ1 : (n : Int) - 65 = (Q : Int) := by omega
  have hk1 : (n : Int) - 1 = (k0 : Int) := by omega
  have hPk : (P : Int) ≤ (k0 : Int) := by omega
  have hkn : (k0 : Int) ≤ (n : Int) := by omega
  have hPb : (P : Int) ≤ 512 := by omega
  have hQb : (Q : Int) ≤ 512 := by omega
  obtain ⟨HH,hHH⟩ : ∃ HH,x.extract P k0 = HH := ⟨_,rfl⟩
  have hHs : HH.size = 32 := by rw [← hHH,ByteArray.size_extract]; omega
  have hHl : HH.data.toList = (x.data.toList.drop (n - 33)).take 32 := by rw [← hHH,Hs.ext_list,hP,show k0 - P = 32 by omega]
  have HM := Lib.hid (fun W => Rs.Rmask_any W HH P (by omega) (by omega))
  obtain ⟨MM,hMM⟩ : ∃ MM,Rs.mask HH P = MM := ⟨_,rfl⟩
  have hMs : MM.size = P := by rw [← hMM]; exact Rs.mask_size HH P (by omega)
  rw [hMM] at HM
  obtain ⟨F,hF⟩ : ∃ F : Nat → Nat,(fun j => Rs.at x.data.toList j ^^^ Rs.at MM.data.toList j) = F := ⟨_,rfl⟩
  have hFS : Rs.cut F Q 32 = SL := by
    rw [← hSL]
    unfold Rs.saltIn
    rw [hQ]
    apply Rs.cut_congr
    intro j hj1 hj2
    have hmk : Rs.mk HH.data.toList P = Rs.at MM.data.toList := by rw [← hMM]; rfl
    rw [← hF]
    unfold Rs.bare Rs.bf
    rw [if_neg (by omega),Rs.at_take x.data.toList (n - 33) j (by omega),← hHl,hP,hmk]
    exact Nat.xor_comm _ _
  have HX := Lib.hid (And.intro hx (And.intro hP (And.intro hQ (And.intro h66 (And.intro hF hFS)))))
  clear hx hn h66 hsp hsp7 hs hSL hSLl hP hQ hk0 hHl hMM hF hFS h1 h2
  go_enter Tryz.func6,Tryz.ntmps6
  go_wp2_with fail
  go_at_call 12
  refine Calls.mono (HM.out _) ?_
  rintro e3 w3 ⟨rfl,hb3⟩
  have H3 := Lib.hid hb3
  clear hb3 HM
  go_wp2_with fail
  have o4 := Rs.own_empty w3 w3.heap.size (Nat.le_refl _)
  have b4 : Below w3.heap.size w3 (w3.alloc (.cells #[] 5)) := (Below.refl _ _).alloc (Nat.le_refl _) _
  have H4 := Lib.hid (And.intro o4 b4)
  clear o4 b4
  go_loopw [10,11] (fun v iv wr => ∃ k : Nat,k ≤ 32 ∧ iv = .int .i64 ((Q + k : Nat) : Int) ∧ Tx.Own wr w3.heap.size v (Rs.cut F Q k) ∧ Below w3.heap.size w3 wr) (fun _ iv _ => Q + 32 - (intOf iv).toNat)
  case atStart => exact ⟨0,Nat.zero_le _,rfl,H4.out.1,H4.out.2⟩
  case round =>
  obtain ⟨k,hk,rfl,hown,hb⟩ := hrel
  obtain ⟨w5,rfl⟩ : ∃ w5,w5 = wr := ⟨_,rfl⟩
  obtain ⟨gq,c,rfl⟩ := hown.size
  obtain ⟨J,hJ⟩ : ∃ J,Q + k = J := ⟨_,rfl⟩
  rw [hJ]
  have hl : (Rs.cut F Q k).length = k := Rs.cut_len _ _ _
  obtain ⟨M,hM⟩ : ∃ M,(Rs.cut F Q k).length = M := ⟨_,rfl⟩
  rw [hM] at hown ⊢
  have hMb : (M : Int) ≤ 32 := by omega
  by_cases hlt : k < 32
  · have hJP : J < P := by have := HX.out; omega
    have hJz : (J : Int) < (P : Int) := by omega
    have hJn : (J : Int) < (n : Int) := by have := HX.out; omega
    have hJ0 : 0 ≤ (J : Int) := by omega
    have hJb : (J : Int) ≤ 512 := by omega
    have hJx : J < x.size := by have := HX.out; omega
    have hJm : J < MM.size := by omega
    have ex := Rs.at_get x J hJx
    have em := Rs.at_get MM J hJm
    obtain ⟨cx,hcx⟩ : ∃ cx,x[J] = cx := ⟨_,rfl⟩
    obtain ⟨cm,hcm⟩ : ∃ cm,MM[J] = cm := ⟨_,rfl⟩
    rw [hcx] at ex
    rw [hcm] at em
    have hxo : bits .xor .u8 (cx.toNat : Int) (cm.toNat : Int) = ((cx.toNat ^^^ cm.toNat : Nat) : Int) := u8_xor_nat _ _ (UInt8.toNat_lt _) (UInt8.toNat_lt _)
    obtain ⟨b,hbb⟩ : ∃ b,cx ^^^ cm = b := ⟨_,rfl⟩
    have hbn : cx.toNat ^^^ cm.toNat = b.toNat := by rw [← hbb,UInt8.toNat_xor]
    have hsu : Rs.cut F Q k ++ [b] = Rs.cut F Q (k + 1) := by
      rw [Rs.cut_succ,hJ,← HX.out.2.2.2.2.1]
      show _ = _ ++ [UInt8.ofNat (Rs.at x.data.toList J ^^^ Rs.at MM.data.toList J)]
      rw [← ex,← em,hbn,UInt8.ofNat_toNat]
    rw [hbn] at hxo
    obtain ⟨z,hz⟩ : ∃ z,b.toNat = z := ⟨_,rfl⟩
    have HL : (Rs.cut F Q k).length + [()].length ≤ 140737488355328 := by rw [hM]; simp; omega
    have HK := Lib.hid (And.intro hsu (And.intro hM (And.intro hl (And.intro hJ hlt))))
    clear hsu hM hl hlt hbn hbb ex em hJ hz
    go_upto_region 10 with fail
    go_region_held3 (fun _ => True) (trivial) ((refine Tx.append_step rfl _ _ rfl w3.heap.size _ (Rs.cut F Q k) (by rfl) ((hown.alloc _).drew) ⟨w5.heap.size,0,none⟩ 1 [b] (by rfl) (World.news_of_block (heap_alloc_new w5 _)) (by simp) HL (by have := hb.size; simp; omega) ?_; intro v1 w7 hown1 hb7 hz7))
    all_goals
      go_wp2_with fail
      rw [HK.out.1] at hown1
      obtain ⟨g1,c1,rfl⟩ := hown1.size
      refine ⟨⟨k + 1,by have := HK.out; omega,by rw [← HK.out.2.2.2.1]; go_num,hown1,((hb.alloc hb.size _).drew).trans hb7⟩,?_⟩
      have := HK.out.2.2.2
      simp [intOf]
      omega
  · have hJP : J = P := by have := HX.out; omega
    have hJz : ¬ (J : Int) < (P : Int) := by omega
    have hk32 : k = 32 := by omega
    rw [hk32,HX.out.2.2.2.2.2] at hown
    have hcv := hown.conv
    have HF := Lib.hid (H3.out.trans (hb.mono H3.out.size))
    obtain ⟨SS,hSS⟩ : ∃ SS,Tx.ba SL = SS := ⟨_,rfl⟩
    rw [hSS] at hcv HS
    clear hown hb hM hl hJ hk hlt hk32 hJP hSS
    go_wp2_with fail
    go_at_call 13
    refine Calls.mono (HS.out _) ?_
    rintro e8 w8 ⟨rfl,hb8⟩
    have H8 := Lib.hid (HF.out.trans (hb8.mono HF.out.size))
    clear hb8
    go_wp2_with fail
    go_ret
    exact ⟨rfl,H8.out⟩
theorem Rs.RFits_any (w : World) (s x : ByteArray) (b : Int) (hs : s.size ≤ 140737488351232) :
    Calls Tryz.prog 6 #[.string s,.string x,.int .i64 b] w fun e w' => ∃ r : Bool,(r = true ↔ Rs.fitP s x b) ∧ e = .returned (.bool r) ∧ Below w.heap.size w w' := by
  by_cases hl : b < 1 ∨ (1 ≤ b ∧ 4096 < b) ∨ (1 ≤ b ∧ b ≤ 4096 ∧ (x.size : Int) ≠ (b + 7) / 8) ∨ (1 ≤ b ∧ b ≤ 4096 ∧ (x.size : Int) = (b + 7) / 8 ∧ (x.size : Int) < 66)
  · refine (Rs.RFits_no w s x b hl).mono ?_
    rintro e w' ⟨he,hb⟩
    exact ⟨false,⟨fun h => (by cases h),fun h => by obtain ⟨h1,h2,h3,h4,_⟩ := h; omega⟩,he,hb⟩
  · have h1 : 1 ≤ b := by omega
    have h2 : b ≤ 4096 := by omega
    have h3 : (x.size : Int) = (b + 7) / 8 := by omega
    have h4 : 66 ≤ x.size := by omega
    clear hl
    obtain ⟨B,rfl⟩ : ∃ B : Nat,b = (B : Int) := ⟨b.toNat,by omega⟩
    obtain ⟨n,hn⟩ : ∃ n,x.size = n := ⟨_,rfl⟩
    obtain ⟨sp,hsp⟩ : ∃ sp,sp + B = 8 * n := ⟨8 * n - B,by omega⟩
    refine (Rs.RFits_ok w s x B n sp (by omega) (by omega) hn (by omega) (by omega) hsp (by omega) hs).mono ?_
    rintro e w' ⟨he,hb⟩
    refine ⟨_,?_,he,hb⟩
    rw [beq_iff_eq,Rs.toList_inj]
    unfold Rs.fitP
    rw [hn,show 8 * n - (B : Int).toNat = sp by omega]
    constructor
    · intro e
      refine ⟨h1,h2,by omega,by omega,?_⟩
      have := congrArg (fun b : ByteArray => b.data.toList) e
      exact this
    · rintro ⟨_,_,_,_,e⟩
      exact Rs.ext_ba e
end
end Go.Proofs.YthlecdggkolgmaaGreatDoor
