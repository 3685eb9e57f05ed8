/- The reference's sum, Block, mask, Mask. -/
import Derived.Test.YthlecdggkolgmaaGreatDoorRsD
import Derived.Deep.RegionWith
import Derived.Test.YthlecdggkolgmaaGreatDoorRfZ0
namespace Go.Proofs.YthlecdggkolgmaaGreatDoor
section
open Go.RowKit
/-- What is behind the bytes 255 and the byte 0. -/
def Rs.info : List UInt8 := [48, 49, 48, 13, 6, 9, 96, 134, 72, 1, 101, 3, 4, 2, 1, 5, 0, 4, 32]
def Rs.ahead (k : Nat) : List UInt8 := [0, 1] ++ Rs.ff k
theorem Rs.ahead_len (k : Nat) : (Rs.ahead k).length = k + 2 := by
  unfold Rs.ahead Rs.ff
  simp
theorem Rs.ahead_succ (k : Nat) : Rs.ahead k ++ [255] = Rs.ahead (k + 1) := by
  unfold Rs.ahead Rs.ff
  rw [List.append_assoc, List.replicate_succ']
theorem Rs.block_ahead (s : ByteArray) (n : Nat) : Tx.ba (Rs.ahead (n - 54) ++ [0]) ++ Tx.ba Rs.info ++ Tx.ba (Hs.sum 0 s.data.toList) = Rs.block s n := by
  rw [Rs.ba_app, Rs.ba_app]
  unfold Rs.block Rs.ahead
  rw [List.append_assoc (_ ++ _) [0] Rs.info]
  rfl
def Rs.sliceLen : Value → Nat
  | .slice _ n _ => n
  | _ => 0
set_option maxHeartbeats 4000000 in
set_option maxRecDepth 100000 in
theorem Rs.RBlock_of (w : World) (s : ByteArray) (n : Nat) (h1 : 62 ≤ n) (h2 : n ≤ 512)
    (hS : ∀ W, Calls Tryz.prog 43 #[.string s] W fun e w' => e = .returned (.string (Tx.ba (Hs.sum 0 s.data.toList))) ∧ Below W.heap.size W w') :
    Calls Tryz.prog 22 #[.string s, .int .i64 (n : Int)] w fun e w' => e = .returned (.tuple #[.string (Rs.block s n), .int .i64 0]) ∧ Below w.heap.size w w' := by
  have hB := Rs.block_ahead s n
  have hbs := Rs.block_size s n h1
  obtain ⟨R, hR⟩ : ∃ R, Rs.block s n = R := ⟨_, rfl⟩
  obtain ⟨y, hy⟩ : ∃ y, Tx.ba (Hs.sum 0 s.data.toList) = y := ⟨_, rfl⟩
  have hys : y.size = 32 := by rw [← hy]; exact Rs.sum_len _
  rw [hR] at hB hbs ⊢
  rw [hy] at hB hS
  have HS := Lib.hid hS
  have HB := Lib.hid (And.intro hB (And.intro hbs hys))
  clear hS hR hy hB hbs hys
  have t1 : ¬ (n : Int) < 62 := by omega
  have t2 : ¬ (512 : Int) < (n : Int) := by omega
  have hnb : (n : Int) ≤ 512 := by omega
  obtain ⟨N, hN⟩ : ∃ N : Nat, n = N + 52 := ⟨n - 52, by omega⟩
  have hN1 : (n : Int) - 1 - 19 - 32 = (N : Int) := by omega
  have hNb : (N : Int) ≤ 512 := by omega
  have HN := Lib.hid (And.intro hN (And.intro h1 h2))
  clear hN h1 h2
  go_enter Tryz.func22, Tryz.ntmps22
  go_upto_region 2 with fail
  have o1 : Tx.Own (w.alloc (.cells #[.int .u8 48, .int .u8 49, .int .u8 48, .int .u8 13, .int .u8 6, .int .u8 9, .int .u8 96, .int .u8 134, .int .u8 72, .int .u8 1, .int .u8 101, .int .u8 3, .int .u8 4, .int .u8 2, .int .u8 1, .int .u8 5, .int .u8 0, .int .u8 4, .int .u8 32] 5)) w.heap.size (.slice (some ⟨w.heap.size, 0, none⟩) 19 19) Rs.info := ⟨rfl, .inr ⟨w.heap.size, 19, _, rfl, Nat.le_refl _, heap_alloc_new _ _, Nat.le_refl _, by unfold maxLen; omega, rfl, by rfl⟩⟩
  have b1 : Below w.heap.size w (w.alloc (.cells #[.int .u8 48, .int .u8 49, .int .u8 48, .int .u8 13, .int .u8 6, .int .u8 9, .int .u8 96, .int .u8 134, .int .u8 72, .int .u8 1, .int .u8 101, .int .u8 3, .int .u8 4, .int .u8 2, .int .u8 1, .int .u8 5, .int .u8 0, .int .u8 4, .int .u8 32] 5)) := (Below.refl _ _).alloc (Nat.le_refl _) _
  generalize w.alloc _ = w1 at o1 b1 ⊢
  have H1 := Lib.hid (And.intro o1 b1)
  clear o1 b1
  go_upto_region 5 with fail
  have o2 : Tx.Own (w1.alloc (.cells #[.int .u8 0, .int .u8 1] 5)) w1.heap.size (.slice (some ⟨w1.heap.size, 0, none⟩) 2 2) (Rs.ahead 0) := ⟨rfl, .inr ⟨w1.heap.size, 2, _, rfl, Nat.le_refl _, heap_alloc_new _ _, Nat.le_refl _, by unfold maxLen; omega, rfl, by rfl⟩⟩
  have b2 : Below w1.heap.size w1 (w1.alloc (.cells #[.int .u8 0, .int .u8 1] 5)) := (Below.refl _ _).alloc (Nat.le_refl _) _
  have H2 := Lib.hid (And.intro o2 b2)
  clear o2 b2
  go_loopw [7] (fun v wr => ∃ k : Nat, k + 2 ≤ N ∧ Tx.Own wr w1.heap.size v (Rs.ahead k) ∧ Below w1.heap.size w1 wr) (fun v _ => N - Rs.sliceLen v)
  case atStart => exact ⟨0, by have := HN.out; omega, H2.out.1, H2.out.2⟩
  case round =>
  obtain ⟨k, hk, hown, hb⟩ := hrel
  obtain ⟨w3, rfl⟩ : ∃ w3, w3 = wr := ⟨_, rfl⟩
  obtain ⟨g, c, rfl⟩ := hown.size
  have hl := Rs.ahead_len k
  obtain ⟨M, hM⟩ : ∃ M, (Rs.ahead k).length = M := ⟨_, rfl⟩
  rw [hM] at hl hown ⊢
  by_cases hlt : M < N
  · have hltz : (M : Int) < (N : Int) := by omega
    have hMb : (M : Int) ≤ 512 := by omega
    have hn := Rs.ahead_succ k
    have HL : (Rs.ahead k).length + [()].length ≤ 140737488355328 := by rw [hM]; simp; omega
    have HK := Lib.hid (And.intro hn (And.intro hM (And.intro hl hlt)))
    clear hn hM hl hlt
    go_wp2_with (at_builtin; refine Tx.append rfl _ _ rfl w1.heap.size _ (Rs.ahead k) rfl (Tx.Own.alloc hown _) ⟨_, 0, none⟩ 1 [255] rfl (World.news_of_block (heap_alloc_new _ _)) HL (by have := hb.size; simp; omega) ?_; intro v1 w4 hown1 hb4 hz4)
    rw [HK.out.1] at hown1
    obtain ⟨g1, c1, rfl⟩ := hown1.size
    refine ⟨⟨k + 1, by have := HK.out.2; omega, hown1, (hb.alloc hb.size _).trans hb4⟩, ?_⟩
    have := Rs.ahead_len (k + 1)
    have := HK.out.2
    show N - (Rs.ahead (k + 1)).length < N - M
    omega
  · have hltz : ¬ (M : Int) < (N : Int) := by omega
    have hkn : k = n - 54 := by have := HN.out; omega
    have HL : (Rs.ahead k).length + [()].length ≤ 140737488355328 := by rw [hM]; have := HN.out; simp; omega
    have HM := Lib.hid (And.intro hM (And.intro hl hkn))
    clear hM hl hkn hlt
    go_upto_region 8 with (at_builtin; refine Tx.append rfl _ _ rfl w1.heap.size _ (Rs.ahead k) rfl (Tx.Own.alloc hown _) ⟨_, 0, none⟩ 1 [0] rfl (World.news_of_block (heap_alloc_new _ _)) HL (by have := hb.size; simp; omega) ?_; intro v1 w4 hown1 hb4 hz4)
    have hb5 := (hb.alloc hb.size (Obj.cells #[.int .u8 0] 5)).trans hb4
    have o4 := H1.out.1.below hb5 (Nat.le_refl _)
    have B4 := H1.out.2.trans (hb5.mono H1.out.2.size)
    have e4 : Tx.ba (Rs.ahead k ++ [0]) ++ Tx.ba Rs.info ++ y = R := by rw [HM.out.2.2]; exact HB.out.1
    have cB := hown1.drew.conv
    have cI := o4.drew.conv
    obtain ⟨X, hX⟩ : ∃ X, Tx.ba (Rs.ahead k ++ [0]) = X := ⟨_, rfl⟩
    obtain ⟨I, hI⟩ : ∃ I, Tx.ba Rs.info = I := ⟨_, rfl⟩
    have hIs : I.size = 19 := by rw [← hI]; rfl
    have hXs : X.size = M + 1 := by rw [← hX]; show (Rs.ahead k ++ [0]).length = _; rw [List.length_append, HM.out.1]; rfl
    have hys : y.size = 32 := HB.out.2.2
    have hXI : (X ++ I).size = M + 20 := by rw [ByteArray.size_append]; omega
    have hMb : M ≤ 512 := by have := HM.out; have := HN.out; omega
    have HO := Lib.hid (And.intro hown1 (And.intro o4 (And.intro B4 (And.intro hX hI))))
    rw [hX, hI] at e4
    rw [hX] at cB
    rw [hI] at cI
    have HE := Lib.hid e4
    clear hown hown1 hb hb4 hz4 hb5 o4 B4 hX hI e4 hltz HL
    go_region_with (go_at_call 43; refine Calls.mono (HS.out _) ?_; rintro e5 w5 ⟨rfl, hb5⟩; have hb6 : Below w4.heap.size w4 w5 := (below_drewN (Below.refl w4.heap.size w4) 1).trans hb5; have c5 := (HO.out.1.below hb6 (Nat.le_refl _)).conv; have d5 := (HO.out.2.1.below hb6 (Nat.le_refl _)).conv; rw [HO.out.2.2.2.1] at c5; rw [HO.out.2.2.2.2] at d5; have H6 := Lib.hid (HO.out.2.2.1.trans (hb6.mono HO.out.2.2.1.size)); clear hb5 hb6)
    all_goals
      go_wp2_with fail
      go_ret2
      exact ⟨by rw [← HE.out]; rfl, H6.out⟩
end
section
open Go.RowKit
set_option maxHeartbeats 400000 in
set_option maxRecDepth 100000 in
theorem Rf.RSum0 (w : World) (s : ByteArray) (hs : s.size ≤ 140737488351232) :
    Calls Tryz.prog 70 #[.int .i64 0, .string s] w fun e w' => e = .returned (.tuple #[.string (Tx.ba (Hs.sum 0 s.data.toList)), .int .i64 0]) ∧ Below w.heap.size w w' := by
  obtain ⟨X, hX⟩ : ∃ X, Tx.ba (Hs.sum 0 s.data.toList) = X := ⟨_, rfl⟩
  have CS := Lib.hid (fun W gK cK gF cF hK hF => Rf.sum0 W gK cK gF cF s (by omega) hK hF)
  rw [hX] at CS ⊢
  have hz := Rf.zeroK
  clear hX
  go_enter Tryz.func70, Tryz.ntmps70
  go_upto_region 2 with (first | ((with_reducible refine Calls.mono (Rf.of0 _) ?_); rintro e1 w1 ⟨gK, cK, gF, cF, rfl, hK, hF, b1⟩; have hRs := Rf.kc_size 0 (.slice (some ⟨gK, 0, none⟩) 64 cK) (.slice (some ⟨gF, 0, none⟩) 8 cF); have hone : (Rf.kc 0 (.slice (some ⟨gK, 0, none⟩) 64 cK) (.slice (some ⟨gF, 0, none⟩) 8 cF)).all (·.oneCell') = true := (by simp [Rf.kc, Rf.n3, Value.oneCell']); have CC := CS.out; have CC1 := fun W hK hF => CC W gK cK gF cF hK hF; obtain ⟨R, hR⟩ : ∃ R, Rf.kc 0 (.slice (some ⟨gK, 0, none⟩) 64 cK) (.slice (some ⟨gF, 0, none⟩) 8 cF) = R := ⟨_, rfl⟩; rw [hR] at hRs hone CC1 ⊢; have CC2 := Lib.hid CC1; clear CC CC1 hR; have hsz : (Tryz.prog.info? 61).map (·.size) = some R.size := (by rw [hRs]; exact Rf.infoKd); have hzs : Rf.zk.size = R.size := (by rw [hRs]; rfl); clear hRs) | (refine wpList_store_row rfl 61 (.tmp 6) (.tmp 11) rfl w1.heap.size R rfl rfl 61 _ (heap_alloc_new w1 _) hsz hzs hone ?_; rw [World.setRow_alloc_new]))
  have r2 := heap_alloc_new w1 (.cells R 61)
  have b2 : Below w1.heap.size w1 (w1.alloc (.cells R 61)) := (Below.refl _ _).alloc (Nat.le_refl _) _
  have CD := Lib.hid (CC2.out (w1.alloc (.cells R 61)) (hK.bel b2) (hF.bel b2))
  obtain ⟨g, hg⟩ : ∃ g, w1.heap.size = g := ⟨_, rfl⟩
  have B2 := b1.trans (b2.mono b1.size)
  rw [hg] at r2 ⊢
  clear CS CC2 hK hF b1 b2 hg hzs hone hz
  generalize w1.alloc (.cells R 61) = w2 at r2 B2 CD ⊢
  go_wp2_with (first | (refine wpList_load_row rfl 61 (.tmp 6) rfl g rfl 61 _ (0, 0) _ r2 Tryz.underlying61 rfl hsz ?_) | ((with_reducible refine Calls.mono CD.out ?_); rintro e3 w3 ⟨rfl, b3⟩))
  have B3 := B2.trans (b3.mono B2.size)
  go_ret2
  exact ⟨rfl, B3⟩
set_option maxHeartbeats 400000 in
theorem Rs.Rsum_any (w : World) (s : ByteArray) (hs : s.size ≤ 140737488351232) :
    Calls Tryz.prog 43 #[.string s] w fun e w' => e = .returned (.string (Tx.ba (Hs.sum 0 s.data.toList))) ∧ Below w.heap.size w w' := by
  have HC := Lib.hid (Rf.RSum0 w s hs)
  generalize Tx.ba (Hs.sum 0 s.data.toList) = y at HC ⊢
  clear hs
  go_enter Tryz.func43, Tryz.ntmps43
  go_wp2_with fail
  go_at_call 70
  refine Calls.mono HC.out ?_
  rintro r w1 ⟨rfl, hb⟩
  have H1 := Lib.hid hb
  clear hb
  go_wp2_with fail
  go_ret
  exact ⟨rfl, H1.out⟩
theorem Rs.RBlock_ok (w : World) (s : ByteArray) (n : Nat) (hs : s.size ≤ 140737488351232) (h1 : 62 ≤ n) (h2 : n ≤ 512) :
    Calls Tryz.prog 22 #[.string s, .int .i64 (n : Int)] w fun e w' => e = .returned (.tuple #[.string (Rs.block s n), .int .i64 0]) ∧ Below w.heap.size w w' :=
  Rs.RBlock_of w s n h1 h2 (fun W => Rs.Rsum_any W s hs)
set_option maxHeartbeats 1000000 in
theorem Rs.RBlock_no (w : World) (s : ByteArray) (n : Int) (h : n < 62 ∨ (62 ≤ n ∧ 512 < n)) :
    Calls Tryz.prog 22 #[.string s, .int .i64 n] w fun e w' => e = .returned (.tuple #[.string ⟨#[]⟩, .int .i64 42]) ∧ Below w.heap.size w w' := by
  rcases h with h | ⟨h0, h⟩
  · go_enter Tryz.func22, Tryz.ntmps22
    go_wp2_with fail
    go_ret2
    exact ⟨rfl, (Below.refl _ _).alloc (Nat.le_refl _) _⟩
  · have h0 : ¬ n < 62 := by omega
    go_enter Tryz.func22, Tryz.ntmps22
    go_wp2_with fail
    go_ret2
    exact ⟨rfl, (Below.refl _ _).alloc (Nat.le_refl _) _⟩
theorem Rs.ba_ext {a b : ByteArray} (h : a.data.toList = b.data.toList) : a = b := by
  apply ByteArray.ext
  rw [← Array.toList_inj]
  exact h
theorem Rs.mask_pre (s : ByteArray) (i n : Nat) (hi : i ≤ 17) (h : n ≤ 32 * i) : (Tx.ba (Rs.maskL s.data.toList i)).extract 0 n = Rs.mask s n := by
  apply Rs.ba_ext
  rw [Hs.ext_list]
  show ((Rs.maskL s.data.toList i).drop 0).take (n - 0) = (Rs.maskL s.data.toList 17).take n
  rw [List.drop_zero, Nat.sub_zero, Rs.maskL_take _ i n h 17 hi]
set_option maxHeartbeats 4000000 in
set_option maxRecDepth 100000 in
theorem Rs.Rmask_any (w : World) (s : ByteArray) (n : Nat) (hs : s.size ≤ 140737488352000) (hn : n ≤ 512) :
    Calls Tryz.prog 12 #[.string s, .int .i64 (n : Int)] w fun e w' => e = .returned (.string (Rs.mask s n)) ∧ Below w.heap.size w w' := by
  have CS := Lib.hid (fun W gK cK gF cF hK hF (t : ByteArray) (ht : t.size ≤ 140737488354000) => Rf.sum0 W gK cK gF cF t ht hK hF)
  have hz := Rf.zeroK
  have hnb : (n : Int) ≤ 512 := by omega
  go_enter Tryz.func12, Tryz.ntmps12
  go_upto_region 3 with (first | ((with_reducible refine Calls.mono (Rf.of0 _) ?_); rintro e1 w1 ⟨gK, cK, gF, cF, rfl, hK, hF, b1⟩; have hRs := Rf.kc_size 0 (.slice (some ⟨gK, 0, none⟩) 64 cK) (.slice (some ⟨gF, 0, none⟩) 8 cF); have hone : (Rf.kc 0 (.slice (some ⟨gK, 0, none⟩) 64 cK) (.slice (some ⟨gF, 0, none⟩) 8 cF)).all (·.oneCell') = true := (by simp [Rf.kc, Rf.n3, Value.oneCell']); have CC := CS.out; have CC1 := fun W hK hF => CC W gK cK gF cF hK hF; obtain ⟨R, hR⟩ : ∃ R, Rf.kc 0 (.slice (some ⟨gK, 0, none⟩) 64 cK) (.slice (some ⟨gF, 0, none⟩) 8 cF) = R := ⟨_, rfl⟩; rw [hR] at hRs hone CC1 ⊢; have CC2 := Lib.hid CC1; clear CC CC1 hR; have hsz : (Tryz.prog.info? 61).map (·.size) = some R.size := (by rw [hRs]; exact Rf.infoKd); have hzs : Rf.zk.size = R.size := (by rw [hRs]; rfl); clear hRs) | (refine wpList_store_row rfl 61 (.tmp 6) (.tmp 11) rfl w1.heap.size R rfl rfl 61 _ (heap_alloc_new w1 _) hsz hzs hone ?_; rw [World.setRow_alloc_new]))
  have r2 := heap_alloc_new w1 (.cells R 61)
  have b2 : Below w1.heap.size w1 (w1.alloc (.cells R 61)) := (Below.refl _ _).alloc (Nat.le_refl _) _
  have hK2 := hK.bel b2
  have hF2 := hF.bel b2
  obtain ⟨g, hg⟩ : ∃ g, w1.heap.size = g := ⟨_, rfl⟩
  have B2 := b1.trans (b2.mono b1.size)
  rw [hg] at r2 ⊢
  clear CS hK hF b1 b2 hg hzs hone hz
  generalize w1.alloc (.cells R 61) = w2 at r2 B2 hK2 hF2 ⊢
  have CD := Lib.hid (fun W (hW : Below w2.heap.size w2 W) => CC2.out W (hK2.bel hW) (hF2.bel hW))
  have hg2 : g < w2.heap.size := (Array.getElem?_eq_some_iff.1 r2).1
  have H2 := Lib.hid (And.intro r2 (And.intro B2 (And.intro hg2 hs)))
  clear CC2 hK2 hF2 r2 B2 hg2
  go_upto_region 4 with fail
  go_loopw [5, 8] (fun v iv wr => ∃ i : Nat, i ≤ 17 ∧ iv = .int .i64 (i : Int) ∧ v = .string (Tx.ba (Rs.maskL s.data.toList i)) ∧ (0 < i → 32 * (i - 1) < n) ∧ Below w2.heap.size w2 wr) (fun _ iv _ => 17 - (intOf iv).toNat)
  case atStart => exact ⟨0, by omega, rfl, rfl, fun h => by omega, Below.refl _ _⟩
  case round =>
  obtain ⟨i, hi, rfl, rfl, hlow, hb⟩ := hrel
  obtain ⟨w4, rfl⟩ : ∃ w4, w4 = wr := ⟨_, rfl⟩
  obtain ⟨O, hO⟩ : ∃ O, Tx.ba (Rs.maskL s.data.toList i) = O := ⟨_, rfl⟩
  have hOs : O.size = 32 * i := by rw [← hO]; exact Rs.maskL_len _ _
  rw [hO]
  by_cases hlt : 32 * i < n
  · have hltz : (O.size : Int) < (n : Int) := by omega
    have hi16 : i ≤ 16 := by omega
    have hi0 : 0 ≤ (i : Int) := by omega
    have hib : (i : Int) ≤ 16 := by omega
    have q1 : Int.tdiv (i : Int) 256 = 0 := by rw [Int.tdiv_eq_ediv_of_nonneg (by omega)]; omega
    have q2 : Int.tmod (i : Int) 256 = (i : Int) := by rw [Int.tmod_eq_emod_of_nonneg (by omega)]; omega
    have q4 : IntKind.u8.wrap (i : Int) = (i : Int) := by rw [IntKind.wrap_u8]; omega
    have hr4 : w4.heap[g]? = some (.cells R 61 (0, 0)) := (hb.block g H2.out.2.2.1).trans H2.out.1
    have hOb : O.size ≤ 512 := by omega
    have hsb : s.size ≤ 140737488352000 := H2.out.2.2.2
    have hcv := fun W => Rs.conv4 W i (by omega)
    obtain ⟨x, hx⟩ : ∃ x, Tx.ba [0, 0, 0, UInt8.ofNat i] = x := ⟨_, rfl⟩
    rw [hx] at hcv
    have hxs : x.size = 4 := by rw [← hx]; rfl
    have hyl : Tx.ba (Hs.sum 0 (s ++ x).data.toList) = Tx.ba (Hs.sum 0 (s.data.toList ++ [0, 0, 0, UInt8.ofNat i])) := by
      rw [← hx]
      first | (congr 2; simp [Tx.ba]; done) | congr 2
    obtain ⟨y, hy⟩ : ∃ y, Tx.ba (Hs.sum 0 (s ++ x).data.toList) = y := ⟨_, rfl⟩
    have hys : y.size = 32 := by rw [← hy]; exact Rs.sum_len _
    have hsx : (s ++ x).size ≤ 140737488354000 := by rw [ByteArray.size_append]; omega
    have HC := Lib.hid (fun W hW => CD.out W hW (s ++ x) hsx)
    rw [hy] at HC hyl
    have hnx : Tx.ba (Rs.maskL s.data.toList (i + 1)) = O ++ y := by rw [hyl, ← hO, Rs.ba_app]; rfl
    have H4 := Lib.hid (And.intro hb (And.intro hnx hlt))
    clear hb hO hy hyl hnx hx hlow hlt hsx
    go_wp2_with (refine wpList_load_row rfl 61 (.tmp 6) rfl g rfl 61 _ (0, 0) _ hr4 Tryz.underlying61 rfl hsz ?_)
    have hb6 := H4.out.1.alloc H4.out.1.size (Obj.cells #[.int .u8 0, .int .u8 0, .int .u8 0, .int .u8 (i : Int)] 5)
    clear hcv
    revert hb6
    generalize w4.alloc (Obj.cells #[.int .u8 0, .int .u8 0, .int .u8 0, .int .u8 (i : Int)] 5) = w6
    intro hb6
    refine Calls.mono (HC.out w6 hb6) ?_
    rintro e7 w7 ⟨rfl, hb7⟩
    have H7 := Lib.hid (hb6.trans (hb7.mono hb6.size))
    clear hb6 hb7
    go_wp2_with fail
    exact ⟨⟨i + 1, by omega, by go_num, by rw [H4.out.2.1], fun _ => by rw [Nat.add_sub_cancel]; exact H4.out.2.2, H7.out⟩, by simp [intOf]; omega⟩
  · have hltz : ¬ (O.size : Int) < (n : Int) := by omega
    have hle : (n : Int) ≤ (O.size : Int) := by omega
    have hm := Rs.mask_pre s i n hi (by omega)
    rw [hO] at hm
    have HF := Lib.hid (And.intro hm (H2.out.2.1.trans (hb.mono H2.out.2.1.size)))
    clear hm hb hO hlow hlt
    go_wp2_with fail
    go_ret
    exact ⟨by rw [← HF.out.1]; rfl, HF.out.2⟩
end
end Go.Proofs.YthlecdggkolgmaaGreatDoor
