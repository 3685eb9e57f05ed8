/- RsaMasks, the walk. -/
import Derived.Test.YtfbliccblippiaaGreatDoorRsI
namespace Go.Proofs.YtfbliccblippiaaGreatDoor
open Go.RowKit
namespace lwMasks
theorem mask_pre (s : ByteArray) (m n : Nat) (h : m ≤ n) : (Rs.mask s n).extract 0 m = Rs.mask s m := by
  apply Tx.ba_ext
  rw [Hs.ext_list]
  show (((Rs.maskL s.data.toList 17).take n).drop 0).take (m - 0) = (Rs.maskL s.data.toList 17).take m
  rw [List.drop_zero, Nat.sub_zero, List.take_take, Nat.min_eq_left h]
theorem drop_ff (a b : Nat) (T : List UInt8) (h : a ≤ b) : (Rs.ff b ++ T).drop a = Rs.ff (b - a) ++ T := by
  unfold Rs.ff
  rw [List.drop_append_of_le_length (by simp; exact h), List.drop_replicate]
theorem block_tail (s : ByteArray) (m n : Nat) (hm : 62 ≤ m) (h : m ≤ n) : (Rs.block s n).extract (n - m + 2) n = (Rs.block s m).extract 2 m := by
  have hT : (Rs.head ++ Hs.sum 0 s.data.toList).length = 52 := by rw [List.length_append, Rs.sum_len]; rfl
  apply Tx.ba_ext
  rw [Hs.ext_list, Hs.ext_list]
  have e : ∀ k : Nat, 62 ≤ k → (Rs.block s k).data.toList = [0, 1] ++ (Rs.ff (k - 54) ++ (Rs.head ++ Hs.sum 0 s.data.toList)) := fun k _ => by
    show [0, 1] ++ Rs.ff (k - 54) ++ Rs.head ++ Hs.sum 0 s.data.toList = _
    simp only [List.append_assoc]
  rw [e n (by omega), e m hm]
  have e1 : ([0, 1] ++ (Rs.ff (n - 54) ++ (Rs.head ++ Hs.sum 0 s.data.toList))).drop (n - m + 2) = Rs.ff (m - 54) ++ (Rs.head ++ Hs.sum 0 s.data.toList) := by
    show (Rs.ff (n - 54) ++ (Rs.head ++ Hs.sum 0 s.data.toList)).drop (n - m) = _
    rw [drop_ff _ _ _ (by omega), show n - 54 - (n - m) = m - 54 by omega]
  have e2 : ([0, 1] ++ (Rs.ff (m - 54) ++ (Rs.head ++ Hs.sum 0 s.data.toList))).drop 2 = Rs.ff (m - 54) ++ (Rs.head ++ Hs.sum 0 s.data.toList) := rfl
  have hl : (Rs.ff (m - 54) ++ (Rs.head ++ Hs.sum 0 s.data.toList)).length = m - 2 := by
    rw [List.length_append, hT]
    unfold Rs.ff
    rw [List.length_replicate]
    omega
  rw [e1, e2, List.take_of_length_le (by omega), List.take_of_length_le (by omega)]
theorem block_head (s : ByteArray) (n : Nat) : (Rs.block s n).extract 0 2 = ⟨#[0, 1]⟩ := by
  apply Tx.ba_ext
  rw [Hs.ext_list]
  have e : (Rs.block s n).data.toList = 0 :: 1 :: (Rs.ff (n - 54) ++ (Rs.head ++ Hs.sum 0 s.data.toList)) := by
    show [0, 1] ++ Rs.ff (n - 54) ++ Rs.head ++ Hs.sum 0 s.data.toList = _
    simp only [List.append_assoc]
    rfl
  rw [e]
  rfl
theorem block_ff (s : ByteArray) (m n i : Nat) (hm : 62 ≤ m) (h : m ≤ n) (h2 : 2 ≤ i) (hi : i < n - m + 2) (hz : i < (Rs.block s n).size) : ((Rs.block s n)[i]).toNat = 255 := by
  have e : (Rs.block s n).data.toList = [0, 1] ++ (Rs.ff (n - 54) ++ (Rs.head ++ Hs.sum 0 s.data.toList)) := by
    show [0, 1] ++ Rs.ff (n - 54) ++ Rs.head ++ Hs.sum 0 s.data.toList = _
    simp only [List.append_assoc]
  have hg : (Rs.block s n).data.toList[i]? = some 255 := by
    rw [e, List.getElem?_append_right (by simp; omega), List.getElem?_append_left (by unfold Rs.ff; simp; omega)]
    unfold Rs.ff
    rw [List.getElem?_replicate, if_pos (by simp; omega)]
  have hh := (List.getElem?_eq_some_iff.1 hg).2
  show ((Rs.block s n).data.toList[i]'(by simpa using hz)).toNat = 255
  rw [hh]
  rfl
set_option maxHeartbeats 2000000 in
set_option maxRecDepth 100000 in
theorem off (s : ByteArray) (m n : Int) (w : World) (ok : Rs.Ok w) (h : m < 0 ∨ (0 ≤ m ∧ n < m) ∨ (0 ≤ m ∧ m ≤ n ∧ 512 < n)) :
    Calls Tryz.prog 11 #[.string s, .int .i64 m, .int .i64 n] w fun e w' => e = .returned (.bool true) ∧ Below w.heap.size w w' := by
  rcases h with h | ⟨h1, h⟩ | ⟨h1, h2, h⟩
  · skip
    have H0 := Lib.hid (And.intro ok (And.intro (Below.refl w.heap.size w) True.intro))
    clear ok
    go_enter Tryz.func11, Tryz.ntmps11
    go_wp2_with fail
    go_at_call 13
    refine Calls.mono (Rs.fixed_any w H0.out.1) ?_
    rintro e1 w1 ⟨rfl, hb⟩
    have H1 := Lib.hid (And.intro (H0.out.1.below hb) (And.intro (H0.out.2.1.trans (hb.mono H0.out.2.1.size)) True.intro))
    clear hb
    go_wp2_with fail
    go_ret
    exact ⟨rfl, H1.out.2.1⟩
  · have h1 : ¬ m < 0 := by omega
    have H0 := Lib.hid (And.intro ok (And.intro (Below.refl w.heap.size w) True.intro))
    clear ok
    go_enter Tryz.func11, Tryz.ntmps11
    go_wp2_with fail
    go_at_call 13
    refine Calls.mono (Rs.fixed_any w H0.out.1) ?_
    rintro e1 w1 ⟨rfl, hb⟩
    have H1 := Lib.hid (And.intro (H0.out.1.below hb) (And.intro (H0.out.2.1.trans (hb.mono H0.out.2.1.size)) True.intro))
    clear hb
    go_wp2_with fail
    go_ret
    exact ⟨rfl, H1.out.2.1⟩
  · have h1 : ¬ m < 0 := by omega
    have h2 : ¬ n < m := by omega
    have H0 := Lib.hid (And.intro ok (And.intro (Below.refl w.heap.size w) True.intro))
    clear ok
    go_enter Tryz.func11, Tryz.ntmps11
    go_wp2_with fail
    go_at_call 13
    refine Calls.mono (Rs.fixed_any w H0.out.1) ?_
    rintro e1 w1 ⟨rfl, hb⟩
    have H1 := Lib.hid (And.intro (H0.out.1.below hb) (And.intro (H0.out.2.1.trans (hb.mono H0.out.2.1.size)) True.intro))
    clear hb
    go_wp2_with fail
    go_ret
    exact ⟨rfl, H1.out.2.1⟩
set_option maxHeartbeats 4000000 in
set_option maxRecDepth 100000 in
theorem small (s A B Y : ByteArray) (m n F : Nat) (w : World) (ok : Rs.Ok w) (hmn : m ≤ n) (hn : n ≤ 512) (zA : A.size = m) (zB : B.size = n) (eB : B.extract 0 m = A)
    (HA : ∀ W, Calls Tryz.prog 19 #[.string s, .int .i64 (m : Int)] W fun e w' => e = .returned (.tuple #[.string A, .int .i64 0]) ∧ Below W.heap.size W w')
    (HB : ∀ W, Calls Tryz.prog 19 #[.string s, .int .i64 (n : Int)] W fun e w' => e = .returned (.tuple #[.string B, .int .i64 0]) ∧ Below W.heap.size W w')
    (HX : ∀ W, Rs.Ok W → Calls Tryz.prog 17 #[.string s, .int .i64 (m : Int)] W fun e w' => e = .returned (.tuple #[.string ⟨#[]⟩, .int .i64 42]) ∧ Below W.heap.size W w')
    (HY : ∀ W, Rs.Ok W → Calls Tryz.prog 17 #[.string s, .int .i64 (n : Int)] W fun e w' => e = .returned (.tuple #[.string Y, .int .i64 (F : Int)]) ∧ Below W.heap.size W w') (hm : m < 62) :
    Calls Tryz.prog 11 #[.string s, .int .i64 (m : Int), .int .i64 (n : Int)] w fun e w' => e = .returned (.bool true) ∧ Below w.heap.size w w' := by
  have HA := Lib.hid HA
  have HB := Lib.hid HB
  have HX := Lib.hid HX
  have HY := Lib.hid HY
  have h1 : ¬ (m : Int) < 0 := by omega
  have h2 : ¬ (n : Int) < (m : Int) := by omega
  have h3 : ¬ (512 : Int) < (n : Int) := by omega
  have zAz : (A.size : Int) = (m : Int) := by rw [zA]
  have zBz : (B.size : Int) = (n : Int) := by rw [zB]
  have h4 : (m : Int) ≤ (n : Int) := by omega
  have h5 : (n : Int) ≤ 512 := by omega
  have h6 : (m : Int) < 62 := by omega
  have H0 := Lib.hid (And.intro ok (And.intro (Below.refl w.heap.size w) True.intro))
  clear ok
  go_enter Tryz.func11, Tryz.ntmps11
  go_wp2_with fail
  go_at_call 13
  refine Calls.mono (Rs.fixed_any w H0.out.1) ?_
  rintro e1 w1 ⟨rfl, hb⟩
  have H1 := Lib.hid (And.intro (H0.out.1.below hb) (And.intro (H0.out.2.1.trans (hb.mono H0.out.2.1.size)) True.intro))
  clear hb
  go_wp2_with fail
  go_at_call 19
  refine Calls.mono (HA.out _) ?_
  rintro e2 w2 ⟨rfl, hb⟩
  have H2 := Lib.hid (And.intro (H1.out.1.below hb) (And.intro (H1.out.2.1.trans (hb.mono H1.out.2.1.size)) True.intro))
  clear hb
  go_wp2_with fail
  go_at_call 19
  refine Calls.mono (HB.out _) ?_
  rintro e3 w3 ⟨rfl, hb⟩
  have H3 := Lib.hid (And.intro (H2.out.1.below hb) (And.intro (H2.out.2.1.trans (hb.mono H2.out.2.1.size)) True.intro))
  clear hb
  go_wp2_with fail
  go_at_call 17
  refine Calls.mono (HX.out _ H3.out.1) ?_
  rintro e4 w4 ⟨rfl, hb⟩
  have H4 := Lib.hid (And.intro (H3.out.1.below hb) (And.intro (H3.out.2.1.trans (hb.mono H3.out.2.1.size)) True.intro))
  clear hb
  go_wp2_with fail
  go_at_call 17
  refine Calls.mono (HY.out _ H4.out.1) ?_
  rintro e5 w5 ⟨rfl, hb⟩
  have H5 := Lib.hid (And.intro (H4.out.1.below hb) (And.intro (H4.out.2.1.trans (hb.mono H4.out.2.1.size)) True.intro))
  clear hb
  go_wp2_with fail
  go_ret
  exact ⟨rfl, H5.out.2.1⟩
set_option maxHeartbeats 4000000 in
set_option maxRecDepth 100000 in
theorem great (s A B X Y T : ByteArray) (m n d k2 : Nat) (w : World) (ok : Rs.Ok w) (hmn : m ≤ n) (hn : n ≤ 512) (zA : A.size = m) (zB : B.size = n) (eB : B.extract 0 m = A)
    (HA : ∀ W, Calls Tryz.prog 19 #[.string s, .int .i64 (m : Int)] W fun e w' => e = .returned (.tuple #[.string A, .int .i64 0]) ∧ Below W.heap.size W w')
    (HB : ∀ W, Calls Tryz.prog 19 #[.string s, .int .i64 (n : Int)] W fun e w' => e = .returned (.tuple #[.string B, .int .i64 0]) ∧ Below W.heap.size W w')
    (HX : ∀ W, Rs.Ok W → Calls Tryz.prog 17 #[.string s, .int .i64 (m : Int)] W fun e w' => e = .returned (.tuple #[.string X, .int .i64 0]) ∧ Below W.heap.size W w')
    (HY : ∀ W, Rs.Ok W → Calls Tryz.prog 17 #[.string s, .int .i64 (n : Int)] W fun e w' => e = .returned (.tuple #[.string Y, .int .i64 0]) ∧ Below W.heap.size W w') (hm : 62 ≤ m) (hd : n - m = d) (hk : d + 2 = k2) (zX : X.size = m) (zY : Y.size = n) (eY : Y.extract k2 n = T) (eX : X.extract 2 m = T) (e2 : Y.extract 0 2 = ⟨#[0, 1]⟩)
    (hff : ∀ i (h : i < Y.size), 2 ≤ i → i < k2 → (Y[i]).toNat = 255) :
    Calls Tryz.prog 11 #[.string s, .int .i64 (m : Int), .int .i64 (n : Int)] w fun e w' => e = .returned (.bool true) ∧ Below w.heap.size w w' := by
  have HA := Lib.hid HA
  have HB := Lib.hid HB
  have HX := Lib.hid HX
  have HY := Lib.hid HY
  have h1 : ¬ (m : Int) < 0 := by omega
  have h2 : ¬ (n : Int) < (m : Int) := by omega
  have h3 : ¬ (512 : Int) < (n : Int) := by omega
  have zAz : (A.size : Int) = (m : Int) := by rw [zA]
  have zBz : (B.size : Int) = (n : Int) := by rw [zB]
  have h4 : (m : Int) ≤ (n : Int) := by omega
  have h5 : (n : Int) ≤ 512 := by omega
  have h6 : ¬ (m : Int) < 62 := by omega
  have hff := Lib.hid hff
  have zXz : (X.size : Int) = (m : Int) := by rw [zX]
  have zYz : (Y.size : Int) = (n : Int) := by rw [zY]
  have hdz : (n : Int) - (m : Int) = (d : Int) := by omega
  have hkz : (d : Int) + 2 = (k2 : Int) := by omega
  have hkb : (k2 : Int) ≤ (n : Int) := by omega
  have hk0 : 0 ≤ (k2 : Int) := by omega
  have hdb : (d : Int) ≤ 512 := by omega
  have hm2 : (2 : Int) ≤ (m : Int) := by omega
  have hn2 : (2 : Int) ≤ (n : Int) := by omega
  have hkn : k2 ≤ n := by omega
  have H0 := Lib.hid (And.intro ok (And.intro (Below.refl w.heap.size w) True.intro))
  clear ok
  go_enter Tryz.func11, Tryz.ntmps11
  go_wp2_with fail
  go_at_call 13
  refine Calls.mono (Rs.fixed_any w H0.out.1) ?_
  rintro e1 w1 ⟨rfl, hb⟩
  have H1 := Lib.hid (And.intro (H0.out.1.below hb) (And.intro (H0.out.2.1.trans (hb.mono H0.out.2.1.size)) True.intro))
  clear hb
  go_wp2_with fail
  go_at_call 19
  refine Calls.mono (HA.out _) ?_
  rintro e2 w2 ⟨rfl, hb⟩
  have H2 := Lib.hid (And.intro (H1.out.1.below hb) (And.intro (H1.out.2.1.trans (hb.mono H1.out.2.1.size)) True.intro))
  clear hb
  go_wp2_with fail
  go_at_call 19
  refine Calls.mono (HB.out _) ?_
  rintro e3 w3 ⟨rfl, hb⟩
  have H3 := Lib.hid (And.intro (H2.out.1.below hb) (And.intro (H2.out.2.1.trans (hb.mono H2.out.2.1.size)) True.intro))
  clear hb
  go_wp2_with fail
  go_at_call 17
  refine Calls.mono (HX.out _ H3.out.1) ?_
  rintro e4 w4 ⟨rfl, hb⟩
  have H4 := Lib.hid (And.intro (H3.out.1.below hb) (And.intro (H3.out.2.1.trans (hb.mono H3.out.2.1.size)) True.intro))
  clear hb
  go_wp2_with fail
  go_at_call 17
  refine Calls.mono (HY.out _ H4.out.1) ?_
  rintro e5 w5 ⟨rfl, hb⟩
  have H5 := Lib.hid (And.intro (H4.out.1.below hb) (And.intro (H4.out.2.1.trans (hb.mono H4.out.2.1.size)) True.intro))
  clear hb
  go_wp2_with fail
  go_quiet (fail)
  have hbq := below_drewN (Below.refl w5.heap.size w5) nq
  generalize World.drewN w5 nq = w6 at hbq ⊢
  have H6 := Lib.hid (And.intro (H5.out.1.below hbq) (And.intro (H5.out.2.1.trans (hbq.mono H5.out.2.1.size)) True.intro))
  clear hbq
  go_wp2_with fail
  clear eB zA zB zAz zBz zX zXz eX eY e2
  have HZ := Lib.hid (And.intro H6.out.1 H6.out.2.1)
  go_loop [13] (fun v => ∃ i : Nat, 2 ≤ i ∧ i ≤ k2 ∧ v = .int .i64 (i : Int)) (fun v => k2 - (intOf v).toNat)
  case atStart => exact ⟨2, by omega, by omega, rfl⟩
  case round =>
  obtain ⟨i, hi2, hik, rfl⟩ := hrel
  by_cases hlt : i < k2
  · have hltz : (i : Int) < (k2 : Int) := by omega
    have hi0 : 0 ≤ (i : Int) := by omega
    have hin : i < Y.size := by omega
    have hinz : (i : Int) < (n : Int) := by omega
    have hib : (i : Int) ≤ 512 := by omega
    have hf := hff.out i hin hi2 hlt
    obtain ⟨c, hc⟩ : ∃ c, Y[i] = c := ⟨_, rfl⟩
    rw [hc] at hf
    have hcz : (c.toNat : Int) = 255 := by rw [hf]; rfl
    go_wp2_with fail
    exact ⟨⟨i + 1, by omega, by omega, by go_num⟩, by simp [intOf]; omega⟩
  · have hltz : ¬ (i : Int) < (k2 : Int) := by omega
    go_wp2_with fail
    go_ret
    exact ⟨rfl, HZ.out.2⟩
theorem walk (s : ByteArray) (m n : Int) (w : World) (ok : Rs.Ok w) (zs : s.size ≤ 140737488355328) :
    Calls Tryz.prog 11 #[.string s, .int .i64 m, .int .i64 n] w fun e w' => e = .returned (.bool true) ∧ Below w.heap.size w w' := by
  by_cases h : m < 0 ∨ (0 ≤ m ∧ n < m) ∨ (0 ≤ m ∧ m ≤ n ∧ 512 < n)
  · exact off s m n w ok h
  obtain ⟨M, rfl⟩ : ∃ M : Nat, m = (M : Int) := ⟨m.toNat, by omega⟩
  obtain ⟨N, rfl⟩ : ∃ N : Nat, n = (N : Int) := ⟨n.toNat, by omega⟩
  have hMN : M ≤ N := by omega
  have hN : N ≤ 512 := by omega
  have mA := fun W => Rs.Mask_ok W s M (by omega) (by omega)
  have mB := fun W => Rs.Mask_ok W s N (by omega) hN
  have zA := Rs.mask_size s M (by omega)
  have zB := Rs.mask_size s N hN
  have eB := mask_pre s M N hMN
  by_cases hM : M < 62
  · have mX := fun W hW => Rs.Block_no W hW s (M : Int) (.inl (by omega))
    by_cases hN2 : N < 62
    · exact small s _ _ ⟨#[]⟩ M N 42 w ok hMN hN zA zB eB mA mB mX (fun W hW => Rs.Block_no W hW s (N : Int) (.inl (by omega))) hM
    · exact small s _ _ _ M N 0 w ok hMN hN zA zB eB mA mB mX (fun W _ => Rs.Block_ok W s N (by omega) (by omega) hN) hM
  · have h62 : 62 ≤ M := by omega
    exact great s _ _ _ _ _ M N _ _ w ok hMN hN zA zB eB mA mB (fun W _ => Rs.Block_ok W s M (by omega) h62 (by omega)) (fun W _ => Rs.Block_ok W s N (by omega) (by omega) hN) h62 rfl rfl (Rs.block_size s M h62) (Rs.block_size s N (by omega)) (block_tail s M N h62 hMN) rfl (block_head s N) (fun i hz h2 hi => block_ff s M N i h62 hMN h2 hi hz)
end lwMasks
end Go.Proofs.YtfbliccblippiaaGreatDoor
