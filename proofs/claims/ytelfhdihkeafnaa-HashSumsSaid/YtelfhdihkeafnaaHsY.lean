/- Macs: keyBlock, mac, Mac. -/
import Derived.Test.YtelfhdihkeafnaaHsX
namespace Go.Proofs.Ytelfhdihkeafnaa
open Go.RowKit

/-- A key's text laid over noughts. -/
theorem Hs.laid (w : World) (q n : Nat) (l : List UInt8) (hl : l.length ≤ n) (h : Hs.Blk w q 5 n (fun _ => .int .u8 0)) : Hs.Bytes (w.setCells q 0 (Hs.cellsOf l)) q n (l ++ List.replicate (n - l.length) 0) := by
  refine Hs.Blk.congr (Hs.Blk.setCells (Hs.cellsOf l) 0 w _ h) fun j hj => ?_
  have hc : (Hs.cellsOf l).length = l.length := by simp [Hs.cellsOf]
  rw [hc]
  by_cases h1 : j < l.length
  · rw [if_pos (by omega)]
    simp only [Nat.sub_zero, List.getD_eq_getElem?_getD]
    rw [List.getElem?_append_left h1]
    simp [Hs.cellsOf, h1, Tx.bv]
  · rw [if_neg (by omega)]
    simp only [List.getD_eq_getElem?_getD]
    rw [List.getElem?_append_right (by omega), List.getElem?_replicate, if_pos (by omega)]
    rfl
set_option maxHeartbeats 4000000 in
set_option maxRecDepth 100000 in
theorem Hs.keyBlock_any (κ : Nat) (hκ : κ < 2) (key : ByteArray) (hk : key.size ≤ 1152921504606846000) (w : World) :
    Calls Try.prog 35 #[.int .i64 (κ : Int), .string key] w fun e w' => ∃ q, e = .returned (.slice (some ⟨q, 0, none⟩) (Hs.blk κ) (Hs.blk κ)) ∧ w.heap.size ≤ q ∧ Hs.Bytes w' q (Hs.blk κ) (Hs.keyed κ key.data.toList) ∧ Below w.heap.size w w' := by
  have CP := Lib.hid (Hs.planOf_any κ hκ)
  have CB := Lib.hid (Hs.block_any κ hκ)
  have CS := Lib.hid (Hs.sum_any κ hκ key hk)
  have hb1 := (Hs.blk_le κ hκ).1
  have hb2 := (Hs.blk_le κ hκ).2
  have hsl := Hs.sum_length κ key.data.toList
  have HKD := Lib.hid (show Hs.keyed κ key.data.toList = (fun k : List UInt8 => k ++ List.replicate (Hs.blk κ - k.length) 0) (if key.data.toList.length > Hs.blk κ then Hs.sum κ key.data.toList else key.data.toList) from rfl)
  obtain ⟨B, hB⟩ : ∃ B, Hs.blk κ = B := ⟨_, rfl⟩
  obtain ⟨T, hT⟩ : ∃ T, Tx.ba (Hs.sum κ key.data.toList) = T := ⟨_, rfl⟩
  have hTs : T.size ≤ B := by rw [← hT, Hs.ba_size, hsl, ← hB]; exact hb2
  have hTl : T.data.toList = Hs.sum κ key.data.toList := by rw [← hT]; rfl
  rw [hT] at CS
  rw [hB] at CB HKD hb1 ⊢
  have HT := Lib.hid hTl
  clear hB hT hb2 hsl hTl
  go_enter Try.func35, Try.ntmps35
  go_wp2_with fail
  refine (CP.out w).mono ?_
  rintro e w1 ⟨rfl, b1⟩
  go_wp2_with fail
  refine (CB.out w1).mono ?_
  rintro e w2 ⟨rfl, b2⟩
  have B2 := b1.trans (b2.mono b1.size)
  go_upto_region 2 with (at_make; refine Hs.wpList_make rfl _ _ rfl B B rfl rfl (Nat.le_refl _) (by omega) ?_)
  have bA : Below w2.heap.size w2 (w2.alloc (.cells (Hs.fn B (fun _ => .int .u8 0)) 5)) := (Below.refl _ _).alloc (Nat.le_refl _) _
  have h0 : Hs.Blk (w2.alloc (.cells (Hs.fn B (fun _ => .int .u8 0)) 5)) w2.heap.size 5 B (fun _ => .int .u8 0) := heap_alloc_new _ _
  have B3 := B2.trans (bA.mono B2.size)
  obtain ⟨q, hq⟩ : ∃ q, w2.heap.size = q := ⟨_, rfl⟩
  have hqs : w.heap.size ≤ q := by rw [← hq]; exact B2.size
  rw [hq] at h0 ⊢
  clear bA hq B2 b1 b2
  generalize w2.alloc (.cells (Hs.fn B (fun _ => .int .u8 0)) 5) = w3 at h0 B3 ⊢
  by_cases hlong : B < key.size
  · have hz : (B : Int) < (key.size : Int) := by omega
    go_wp2_with fail
    refine (CS.out w3).mono ?_
    rintro e w4 ⟨rfl, b4⟩
    have h4 := Hs.Blk.below h0 b4 (Hs.Blk.lt h0)
    have B4 := B3.trans (b4.mono B3.size)
    have hlen : T.data.toList.length = T.size := Tx.len T
    have hm : Nat.min T.size B = T.size := Nat.min_eq_left hTs
    have L1 : T.data.toList.take (Nat.min T.size B) = T.data.toList := by rw [hm, ← hlen, List.take_length]
    have HL := Lib.hid (And.intro L1 (And.intro (hlen.trans hm.symm) (Hs.Blk.there h4 0 T.data.toList.length (by omega))))
    have hby := Hs.laid w4 q B T.data.toList (by omega) h4
    rw [HT.out] at hby
    have hkd := HKD.out
    rw [if_pos (by rw [Tx.len]; exact hlong)] at hkd
    rw [← HT.out] at hby
    have hkd2 : Hs.keyed κ key.data.toList = T.data.toList ++ List.replicate (B - T.data.toList.length) 0 := by rw [hkd, HT.out]
    rw [← hkd2] at hby
    have hbs : Below w.heap.size w (w4.setCells q 0 (Hs.cellsOf T.data.toList)) := B4.trans ((Hs.But.setCells (b := q) (Hs.cellsOf T.data.toList) 0 w4).toBelow hqs B4.size)
    have HE := Lib.hid (And.intro hby hbs)
    clear hkd hkd2 hby hbs L1 hm hlen h4
    go_wp2_with (refine Hs.wpList_copy rfl _ _ _ _ rfl 5 Try.underlying50 Tx.size8 q 0 _ _ T rfl rfl T.data.toList HL.out.1 HL.out.2.1 HL.out.2.2 ?_)
    go_ret
    exact ⟨q, rfl, hqs, HE.out.1, HE.out.2⟩
  · have hz : ¬ (B : Int) < (key.size : Int) := by omega
    have hlen : key.data.toList.length = key.size := Tx.len key
    have hm : Nat.min key.size B = key.size := Nat.min_eq_left (by omega)
    have L1 : key.data.toList.take (Nat.min key.size B) = key.data.toList := by rw [hm, ← hlen, List.take_length]
    have HL := Lib.hid (And.intro L1 (And.intro (hlen.trans hm.symm) (Hs.Blk.there h0 0 key.data.toList.length (by omega))))
    have hby := Hs.laid w3 q B key.data.toList (by omega) h0
    have hkd := HKD.out
    rw [if_neg (by rw [Tx.len]; exact hlong)] at hkd
    have hkd2 : Hs.keyed κ key.data.toList = key.data.toList ++ List.replicate (B - key.data.toList.length) 0 := hkd
    rw [← hkd2] at hby
    have hbs : Below w.heap.size w (w3.setCells q 0 (Hs.cellsOf key.data.toList)) := B3.trans ((Hs.But.setCells (b := q) (Hs.cellsOf key.data.toList) 0 w3).toBelow hqs B3.size)
    have HE := Lib.hid (And.intro hby hbs)
    clear hkd hkd2 hby hbs L1 hm hlen h0
    go_wp2_with (refine Hs.wpList_copy rfl _ _ _ _ rfl 5 Try.underlying50 Tx.size8 q 0 _ _ key rfl rfl key.data.toList HL.out.1 HL.out.2.1 HL.out.2.2 ?_)
    go_ret
    exact ⟨q, rfl, hqs, HE.out.1, HE.out.2⟩
set_option maxHeartbeats 4000000 in
set_option maxRecDepth 100000 in
theorem Hs.mac_any (κ : Nat) (hκ : κ < 2) (key s : ByteArray) (hk : key.size ≤ 1152921504606846000) (hs : s.size ≤ 1152921504606845000) (w : World) :
    Calls Try.prog 21 #[.int .i64 (κ : Int), .string key, .string s] w fun e w' => e = .returned (.string (Tx.ba (Hs.mac κ key.data.toList s.data.toList))) ∧ Below w.heap.size w w' := by
  have hb1 := (Hs.blk_le κ hκ).1
  have hb2 := (Hs.blk_le κ hκ).2
  have hkl := Hs.keyed_length κ hκ key.data.toList
  obtain ⟨KB, hKB⟩ : ∃ KB, Hs.keyed κ key.data.toList = KB := ⟨_, rfl⟩
  rw [hKB] at hkl
  have CK := Lib.hid (Hs.keyBlock_any κ hκ key hk)
  rw [hKB] at CK
  have CO := Lib.hid (Hs.open_any κ hκ)
  have CM := Lib.hid (fun (W : World) (q : Nat) (hW : Hs.Bytes W q (Hs.blk κ) KB) (mask : UInt8) => Hs.masked_any W q (Hs.blk κ) KB hW hkl (by omega) mask)
  obtain ⟨I1, hI1⟩ : ∃ I1, KB.map (· ^^^ (54 : UInt8)) = I1 := ⟨_, rfl⟩
  obtain ⟨O1, hO1⟩ : ∃ O1, KB.map (· ^^^ (92 : UInt8)) = O1 := ⟨_, rfl⟩
  have li : I1.length = Hs.blk κ := by rw [← hI1, List.length_map, hkl]
  have lo : O1.length = Hs.blk κ := by rw [← hO1, List.length_map, hkl]
  have CM1 := Lib.hid (fun (W : World) (q : Nat) (hW : Hs.Bytes W q (Hs.blk κ) KB) => by have := CM.out W q hW 54; rw [hI1] at this; exact (show Calls Try.prog 36 #[.slice (some ⟨q, 0, none⟩) (Hs.blk κ) (Hs.blk κ), .int .u8 54] W fun e w' => e = .returned (.string (Tx.ba I1)) ∧ Below W.heap.size W w' from this))
  have CM2 := Lib.hid (fun (W : World) (q : Nat) (hW : Hs.Bytes W q (Hs.blk κ) KB) => by have := CM.out W q hW 92; rw [hO1] at this; exact (show Calls Try.prog 36 #[.slice (some ⟨q, 0, none⟩) (Hs.blk κ) (Hs.blk κ), .int .u8 92] W fun e w' => e = .returned (.string (Tx.ba O1)) ∧ Below W.heap.size W w' from this))
  have CW1 := Lib.hid (fun (W : World) (p : Nat) (hW : Hs.Is W p κ []) => Hs.Write_any W p κ [] (Tx.ba I1) hW (by rw [Hs.ba_size, li]; simp; omega))
  have CW2 := Lib.hid (fun (W : World) (p : Nat) (hW : Hs.Is W p κ I1) => Hs.Write_any W p κ I1 s hW (by rw [li]; omega))
  have CW3 := Lib.hid (fun (W : World) (p : Nat) (hW : Hs.Is W p κ []) => Hs.Write_any W p κ [] (Tx.ba O1) hW (by rw [Hs.ba_size, lo]; simp; omega))
  have CS1 := Lib.hid (fun (W : World) (p : Nat) (hW : Hs.Is W p κ (I1 ++ s.data.toList)) => Hs.Sum_any W p κ _ hW (by rw [List.length_append, li, Tx.len]; omega))
  obtain ⟨IS, hIS⟩ : ∃ IS, Hs.sum κ (I1 ++ s.data.toList) = IS := ⟨_, rfl⟩
  have lis : IS.length ≤ Hs.blk κ := by rw [← hIS, Hs.sum_length]; exact hb2
  have CW4 := Lib.hid (fun (W : World) (p : Nat) (hW : Hs.Is W p κ O1) => Hs.Write_any W p κ O1 (Tx.ba IS) hW (by rw [Hs.ba_size, lo]; omega))
  have CS2 := Lib.hid (fun (W : World) (p : Nat) (hW : Hs.Is W p κ (O1 ++ IS)) => Hs.Sum_any W p κ _ hW (by rw [List.length_append, lo]; omega))
  have hmac : Hs.mac κ key.data.toList s.data.toList = Hs.sum κ (O1 ++ IS) := by rw [← hIS, ← hO1, ← hI1, ← hKB]; rfl
  rw [hmac]
  rw [hIS] at CS1
  clear hI1 hO1 hKB CM hmac hIS
  go_enter Try.func21, Try.ntmps21
  go_wp2_with fail
  refine (CK.out w).mono ?_
  rintro e w1 ⟨q, rfl, hq, hK1, b1⟩
  go_wp2_with fail
  refine (CO.out _).mono ?_
  rintro e w2 ⟨p, rfl, hp, hI2, b2⟩
  have hK2 := hK1.below b2 (Hs.Blk.lt hK1)
  have B2 := b1.trans (b2.mono b1.size)
  have hqp : q ≠ p := Nat.ne_of_lt (Nat.lt_of_lt_of_le (Hs.Blk.lt hK1) hp)
  have hwp : w.heap.size ≤ p := Nat.le_trans b1.size hp
  clear hK1 b1 b2
  go_wp2_with fail
  refine (CM1.out _ _ hK2).mono ?_
  rintro e w3 ⟨rfl, b3⟩
  have hK3 := hK2.below b3 (Hs.Blk.lt hK2)
  have hI3 := hI2.below b3 hI2.lt
  have B3 := B2.trans (b3.mono B2.size)
  clear hK2 hI2 B2 b3
  go_wp2_with fail
  refine (CW1.out _ _ hI3).mono ?_
  rintro e w4 ⟨rfl, hI4, b4⟩
  have hK4 := hK3.but b4 hqp
  have B4 := B3.trans (b4.toBelow hwp B3.size)
  rw [List.nil_append] at hI4
  clear hK3 hI3 B3 b4
  go_wp2_with fail
  refine (CW2.out _ _ hI4).mono ?_
  rintro e w5 ⟨rfl, hI5, b5⟩
  have hK5 := hK4.but b5 hqp
  have B5 := B4.trans (b5.toBelow hwp B4.size)
  clear hK4 hI4 B4 b5
  go_wp2_with fail
  refine (CO.out _).mono ?_
  rintro e w6 ⟨o, rfl, ho, hO6, b6⟩
  have hK6 := hK5.below b6 (Hs.Blk.lt hK5)
  have hI6 := hI5.below b6 hI5.lt
  have B6 := B5.trans (b6.mono B5.size)
  have hqo : q ≠ o := Nat.ne_of_lt (Nat.lt_of_lt_of_le (Hs.Blk.lt hK5) ho)
  have hpo : p ≠ o := Nat.ne_of_lt (Nat.lt_of_lt_of_le hI5.lt ho)
  have hwo : w.heap.size ≤ o := Nat.le_trans B5.size ho
  clear hK5 hI5 B5 b6
  go_wp2_with fail
  refine (CM2.out _ _ hK6).mono ?_
  rintro e w7 ⟨rfl, b7⟩
  have hI7 := hI6.below b7 hI6.lt
  have hO7 := hO6.below b7 hO6.lt
  have B7 := B6.trans (b7.mono B6.size)
  clear hK6 hI6 hO6 B6 b7
  go_wp2_with fail
  refine (CW3.out _ _ hO7).mono ?_
  rintro e w8 ⟨rfl, hO8, b8⟩
  rw [List.nil_append] at hO8
  have hI8 := hI7.but b8 hpo
  have B8 := B7.trans (b8.toBelow hwo B7.size)
  clear hI7 hO7 B7 b8
  go_wp2_with fail
  refine (CS1.out _ _ hI8).mono ?_
  rintro e w9 ⟨rfl, b9⟩
  have hO9 := hO8.below b9 hO8.lt
  have B9 := B8.trans (b9.mono B8.size)
  clear hI8 hO8 B8 b9
  go_wp2_with fail
  refine (CW4.out _ _ hO9).mono ?_
  rintro e w10 ⟨rfl, hO10, b10⟩
  have B10 := B9.trans (b10.toBelow hwo B9.size)
  clear hO9 B9 b10
  go_wp2_with fail
  refine (CS2.out _ _ hO10).mono ?_
  rintro e w11 ⟨rfl, b11⟩
  have B11 := B10.trans (b11.mono B10.size)
  go_wp2_with fail
  go_ret
  exact ⟨rfl, B11⟩
set_option maxHeartbeats 4000000 in
set_option maxRecDepth 100000 in
theorem Hs.Mac_any (κ : Nat) (hκ : κ < 2) (key s : ByteArray) (hk : key.size ≤ 1152921504606846000) (hs : s.size ≤ 1152921504606845000) (w : World) :
    Calls Try.prog 8 #[.int .i64 (κ : Int), .string key, .string s] w fun e w' => e = .returned (.tuple #[.string (Tx.ba (Hs.mac κ key.data.toList s.data.toList)), .int .i64 0]) ∧ Below w.heap.size w w' := by
  have ck := Hs.known_any (κ : Int) w
  rw [decide_eq_true (by omega : (κ : Int) = 0 ∨ (κ : Int) = 1)] at ck
  have CK := Lib.hid ck
  clear ck
  have CS := Lib.hid (Hs.mac_any κ hκ key s hk hs)
  go_enter Try.func8, Try.ntmps8
  go_wp2_with fail
  refine CK.out.mono ?_
  rintro e w1 ⟨rfl, rfl⟩
  go_wp2_with fail
  refine (CS.out _).mono ?_
  rintro e w2 ⟨rfl, b2⟩
  go_wp2_with fail
  go_ret2
  exact ⟨rfl, b2⟩
set_option maxHeartbeats 4000000 in
set_option maxRecDepth 100000 in
theorem Hs.Mac_no (k : Int) (h0 : k ≠ 0) (h1 : k ≠ 1) (key s : ByteArray) (w : World) :
    Calls Try.prog 8 #[.int .i64 k, .string key, .string s] w fun e w' => e = .returned (.tuple #[.string ⟨#[]⟩, .int .i64 20]) ∧ w' = w := by
  have ck := Hs.known_any k w
  rw [decide_eq_false (by omega : ¬ (k = 0 ∨ k = 1))] at ck
  have CK := Lib.hid ck
  clear ck
  go_enter Try.func8, Try.ntmps8
  go_wp2_with fail
  refine CK.out.mono ?_
  rintro e w1 ⟨rfl, rfl⟩
  go_wp2_with fail
  go_ret2
  exact ⟨rfl, rfl⟩
set_option maxHeartbeats 4000000 in
set_option maxRecDepth 100000 in
theorem Hs.Mac256_any (key s : ByteArray) (hk : key.size ≤ 1152921504606846000) (hs : s.size ≤ 1152921504606845000) (w : World) :
    Calls Try.prog 15 #[.string key, .string s] w fun e w' => e = .returned (.string (Tx.ba (Hs.mac 0 key.data.toList s.data.toList))) ∧ Below w.heap.size w w' := by
  have CS := Lib.hid (Hs.mac_any 0 (by decide) key s hk hs)
  go_enter Try.func15, Try.ntmps15
  go_wp2_with fail
  refine (CS.out _).mono ?_
  rintro e w2 ⟨rfl, b2⟩
  go_wp2_with fail
  go_ret
  exact ⟨rfl, b2⟩
end Go.Proofs.Ytelfhdihkeafnaa
