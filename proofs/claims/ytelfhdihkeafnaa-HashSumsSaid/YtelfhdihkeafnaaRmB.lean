/- The reference's mac, by kind 1. -/
import Derived.Test.YtelfhdihkeafnaaRfZ1
import Derived.Test.YtelfhdihkeafnaaRwB
namespace Go.Proofs.Ytelfhdihkeafnaa
open Go.RowKit

set_option maxHeartbeats 1000000 in
set_option maxRecDepth 100000 in
theorem Rf.mac1s (w : World) (gK cK gF cF : Nat) (key s : ByteArray) (hk : key.size ≤ 128) (hs : s.size ≤ 140737488351232) (hK : Rf.Dig w gK 80 (Rf.kk 1)) (hF : Rf.Dig w gF 8 (Hs.first 1).get) :
    Calls Try.prog 22 #[.agg (Rf.kc 1 (.slice (some ⟨gK, 0, none⟩) 80 cK) (.slice (some ⟨gF, 0, none⟩) 8 cF)), .string key, .string s] w fun e w' => e = .returned (.string (Tx.ba (Hs.mac 1 key.data.toList s.data.toList))) ∧ Below w.heap.size w w' := by
  have CS := Lib.hid (fun W (hB : Below w.heap.size w W) (t : ByteArray) (ht : t.size ≤ 140737488354000) => Rf.sum1 W gK cK gF cF t ht (hK.below hB hK.lt) (hF.below hB hF.lt))
  have c00 : ∀ vK vF, (Rf.kc 1 vK vF)[0]? = some (.int .i64 64) := fun _ _ => rfl
  have hR0 := c00 (.slice (some ⟨gK, 0, none⟩) 80 cK) (.slice (some ⟨gF, 0, none⟩) 8 cF)
  have hRs := Rf.kc_size 1 (.slice (some ⟨gK, 0, none⟩) 80 cK) (.slice (some ⟨gF, 0, none⟩) 8 cF)
  obtain ⟨R, hR⟩ : ∃ R, Rf.kc 1 (.slice (some ⟨gK, 0, none⟩) 80 cK) (.slice (some ⟨gF, 0, none⟩) 8 cF) = R := ⟨_, rfl⟩
  rw [hR] at CS hR0 hRs ⊢
  have hsz : (Try.prog.info? 34).map (·.size) = some R.size := by rw [hRs]; exact Rf.infoKd
  obtain ⟨kk, hkk⟩ : ∃ kk : ByteArray, kk = key := ⟨_, rfl⟩
  have hkl : kk.size ≤ 128 := by rw [hkk]; exact hk
  have hkey : Hs.keyed 1 key.data.toList = kk.data.toList ++ List.replicate (128 - kk.size) 0 := by
    unfold Hs.keyed
    rw [if_neg (by rw [Tx.len]; show ¬ 128 < key.size; omega), hkk]
    show key.data.toList ++ List.replicate (128 - key.data.toList.length) 0 = _
    rw [Tx.len]
  obtain ⟨KB, hKB⟩ : ∃ KB, kk.data.toList ++ List.replicate (128 - kk.size) 0 = KB := ⟨_, rfl⟩
  rw [hKB] at hkey
  have hkl2 : KB.length = 128 := by rw [← hKB, List.length_append, List.length_replicate, Tx.len]; omega
  obtain ⟨MM, hMM⟩ : ∃ MM, Hs.mac 1 key.data.toList s.data.toList = MM := ⟨_, rfl⟩
  have hmac : Hs.sum 1 (KB.map (· ^^^ (92 : UInt8)) ++ Hs.sum 1 (KB.map (· ^^^ (54 : UInt8)) ++ s.data.toList)) = MM := by rw [← hMM, ← hkey]; rfl
  rw [hMM]
  have hkz : ¬ (128 : Int) < (key.size : Int) := by omega
  have HKB := Lib.hid (And.intro hkey (And.intro hKB.symm hmac))
  subst hkk
  clear hk hkey hKB hmac hMM hR hRs c00 hK hF
  go_enter Try.func22, Try.ntmps22
  go_upto_region 1 with fail
  have kb1 := heap_alloc_new w (.cells R 34)
  have hB1 : Below w.heap.size w (w.alloc (.cells R 34)) := (Below.refl _ _).alloc (Nat.le_refl _) _
  obtain ⟨q, hq⟩ : ∃ q, w.heap.size = q := ⟨_, rfl⟩
  have hq1 : q < (w.alloc (.cells R 34)).heap.size := by rw [← hq]; exact (Array.getElem?_eq_some_iff.1 kb1).1
  rw [hq] at kb1
  generalize w.alloc (.cells R 34) = w1 at kb1 hB1 hq1 ⊢
  rw [hq]
  have c1 := (cell_of_row w1 q 0 _ _ _ kb1).trans hR0
  clear hq
  go_upto_region 3 with fail
  obtain ⟨w2, hw2⟩ : ∃ w2, w1 = w2 := ⟨_, rfl⟩
  rw [hw2] at kb1 hB1 ⊢
  have hB2 := hB1
  have kb2 := kb1
  clear hw2
  clear c1 hkz
  have hq2 : q < w2.heap.size := (Array.getElem?_eq_some_iff.1 kb2).1
  go_wp2_with fail
  have bA : Below w2.heap.size w2 ((w2.alloc (.cells #[] 5)).alloc (.cells #[] 5)) := ((Below.refl _ _).alloc (Nat.le_refl _) _).alloc (by simp) _
  have hz : (w2.alloc (.cells #[] 5)).heap.size = w2.heap.size + 1 := by simp
  have q2 := Hs.Row.nil (w2.alloc (.cells #[] 5))
  have q1 := (Hs.Row.nil w2).below ((Below.refl (w2.alloc (.cells #[] 5)).heap.size (w2.alloc (.cells #[] 5))).alloc (Nat.le_refl _) (.cells #[] 5)) (by simp)
  rw [hz] at q2
  have hT : lwKeys.Two w2 w2.heap.size (w2.heap.size + 1) (.slice (some ⟨w2.heap.size, 0, none⟩) 0 0) (.slice (some ⟨w2.heap.size + 1, 0, none⟩) 0 0) [] [] ((w2.alloc (.cells #[] 5)).alloc (.cells #[] 5)) :=
    ⟨q1, q2, by omega, Nat.le_refl _, by omega, bA⟩
  clear bA hz q1 q2
  obtain ⟨z1, hz1⟩ : ∃ z1, w2.heap.size = z1 := ⟨_, rfl⟩
  rw [hz1] at hT ⊢
  have HZ := Lib.hid hz1
  clear hz1
  generalize (w2.alloc (.cells #[] 5)).alloc (.cells #[] 5) = w7 at hT ⊢
  go_loopw [7, 8, 9] (fun xa xb iv wr => ∃ (i g1 g2 : Nat), i ≤ 128 ∧ iv = .int .i64 (i : Int) ∧ lwKeys.Two w2 g1 g2 xa xb ((KB.take i).map (· ^^^ (92 : UInt8))) ((KB.take i).map (· ^^^ (54 : UInt8))) wr) (fun _ _ iv _ => 128 - (intOf iv).toNat)
  case atStart => exact ⟨0, z1, z1 + 1, by omega, rfl, by simpa using hT⟩
  case round =>
  clear hT
  obtain ⟨i, g1, g2, hi, rfl, hT⟩ := hrel
  obtain ⟨w8, rfl⟩ : ∃ w8, w8 = wr := ⟨_, rfl⟩
  have kb8 := (hT.B.block q hq2).trans kb2
  have c8 := (cell_of_row w8 q 0 _ _ _ kb8).trans hR0
  have hl1 : ((KB.take i).map (· ^^^ (92 : UInt8))).length ≤ 128 := by rw [List.length_map, List.length_take]; omega
  have hl2 : ((KB.take i).map (· ^^^ (54 : UInt8))).length ≤ 128 := by rw [List.length_map, List.length_take]; omega
  by_cases hil : i < 128
  · have hiz : (i : Int) < 128 := by omega
    have hiz0 : 0 ≤ (i : Int) := by omega
    obtain ⟨c, hc⟩ : ∃ c, KB[i]? = some c := ⟨_, List.getElem?_eq_getElem (by omega)⟩
    have s1 : (KB.take (i + 1)).map (· ^^^ (92 : UInt8)) = (KB.take i).map (· ^^^ (92 : UInt8)) ++ [c ^^^ 92] := by rw [List.take_add_one, hc, List.map_append]; rfl
    have s2 : (KB.take (i + 1)).map (· ^^^ (54 : UInt8)) = (KB.take i).map (· ^^^ (54 : UInt8)) ++ [c ^^^ 54] := by rw [List.take_add_one, hc, List.map_append]; rfl
    have e1 : bits .xor .u8 (c.toNat : Int) 92 = ((c ^^^ 92 : UInt8).toNat : Int) := Hs.u8_xor c 92
    have e2 : bits .xor .u8 (c.toNat : Int) 54 = ((c ^^^ 54 : UInt8).toNat : Int) := Hs.u8_xor c 54
    obtain ⟨c1, hc1⟩ : ∃ c1, c ^^^ (92 : UInt8) = c1 := ⟨_, rfl⟩
    obtain ⟨c2, hc2⟩ : ∃ c2, c ^^^ (54 : UInt8) = c2 := ⟨_, rfl⟩
    rw [hc1] at s1 e1
    rw [hc2] at s2 e2
    have HS1 := Lib.hid s1
    have HS2 := Lib.hid s2
    have hcase : (∃ hh : i < kk.size, kk[i] = c) ∨ (kk.size ≤ i ∧ c = 0) := by
      rw [HKB.out.2.1] at hc
      by_cases hh : i < kk.size
      · left
        rw [List.getElem?_append_left (by rw [Tx.len]; exact hh), List.getElem?_eq_getElem (by rw [Tx.len]; exact hh)] at hc
        refine ⟨hh, ?_⟩
        rw [← Tx.get kk i hh]
        exact Option.some.inj hc
      · right
        rw [List.getElem?_append_right (by rw [Tx.len]; omega), List.getElem?_replicate, Tx.len, if_pos (by omega)] at hc
        exact ⟨by omega, (Option.some.inj hc).symm⟩
    obtain ⟨A, hA⟩ : ∃ A, (KB.take i).map (· ^^^ (92 : UInt8)) = A := ⟨_, rfl⟩
    obtain ⟨D, hD⟩ : ∃ D, (KB.take i).map (· ^^^ (54 : UInt8)) = D := ⟨_, rfl⟩
    rw [hA] at hT hl1 HS1
    rw [hD] at hT hl2 HS2
    clear s1 s2 hc hA hD
    rcases hcase with ⟨hh, hkc⟩ | ⟨hh, rfl⟩
    · clear hc1 hc2
      have hhz : (i : Int) < (kk.size : Int) := by omega
      have hix : kk[i]? = some c := by rw [← hkc]; exact getElem?_pos kk i hh
      go_wp2_with (at_builtin; first | (refine Hs.appendB rfl _ _ rfl _ _ A rfl (hT.r1.below ((Below.refl w8.heap.size w8).alloc (Nat.le_refl _) _) hT.r1.lt) ⟨w8.heap.size, 0, none⟩ 1 [c1] rfl (World.news_of_block (heap_alloc_new w8 _)) (by simp; omega) ?_; intro y1 w9 g1' r9 hg9 b9; have hT9 := hT.one ((Below.refl w8.heap.size w8).alloc (Nat.le_refl _) _) r9 hg9 b9) | (refine Hs.appendB rfl _ _ rfl _ _ D rfl (hT9.r2.below ((Below.refl w9.heap.size w9).alloc (Nat.le_refl _) _) hT9.r2.lt) ⟨w9.heap.size, 0, none⟩ 1 [c2] rfl (World.news_of_block (heap_alloc_new w9 _)) (by simp; omega) ?_; intro y2 w10 g2' r10 hg10 b10; have hT10 := hT9.two ((Below.refl w9.heap.size w9).alloc (Nat.le_refl _) _) r10 hg10 b10))
      rw [← HS1.out, ← HS2.out] at hT10
      exact ⟨⟨i + 1, g1', g2', by omega, by go_num, hT10⟩, by simp [intOf]; omega⟩
    · have hhz : ¬ (i : Int) < (kk.size : Int) := by omega
      obtain rfl : c1 = 92 := by rw [← hc1]; rfl
      obtain rfl : c2 = 54 := by rw [← hc2]; rfl
      go_wp2_with (at_builtin; first | (refine Hs.appendB rfl _ _ rfl _ _ A rfl (hT.r1.below ((Below.refl w8.heap.size w8).alloc (Nat.le_refl _) _) hT.r1.lt) ⟨w8.heap.size, 0, none⟩ 1 [92] rfl (World.news_of_block (heap_alloc_new w8 _)) (by simp; omega) ?_; intro y1 w9 g1' r9 hg9 b9; have hT9 := hT.one ((Below.refl w8.heap.size w8).alloc (Nat.le_refl _) _) r9 hg9 b9) | (refine Hs.appendB rfl _ _ rfl _ _ D rfl (hT9.r2.below ((Below.refl w9.heap.size w9).alloc (Nat.le_refl _) _) hT9.r2.lt) ⟨w9.heap.size, 0, none⟩ 1 [54] rfl (World.news_of_block (heap_alloc_new w9 _)) (by simp; omega) ?_; intro y2 w10 g2' r10 hg10 b10; have hT10 := hT9.two ((Below.refl w9.heap.size w9).alloc (Nat.le_refl _) _) r10 hg10 b10))
      rw [← HS1.out, ← HS2.out] at hT10
      exact ⟨⟨i + 1, g1', g2', by omega, by go_num, hT10⟩, by simp [intOf]; omega⟩
  · have hie : i = 128 := by omega
    have hiz : ¬ (i : Int) < 128 := by omega
    rw [hie, List.take_of_length_le (by omega)] at hT
    clear hl1 hl2 hie
    obtain ⟨A, hA⟩ : ∃ A, KB.map (· ^^^ (92 : UInt8)) = A := ⟨_, rfl⟩
    obtain ⟨D, hD⟩ : ∃ D, KB.map (· ^^^ (54 : UInt8)) = D := ⟨_, rfl⟩
    have lA : A.length = 128 := by rw [← hA, List.length_map, hkl2]
    have lD : D.length = 128 := by rw [← hD, List.length_map, hkl2]
    have hmac := HKB.out.2.2
    rw [hA, hD] at hmac
    rw [hA, hD] at hT
    obtain ⟨I, hI⟩ : ∃ I, Hs.sum 1 (D ++ s.data.toList) = I := ⟨_, rfl⟩
    have lI : I.length = 48 := by rw [← hI, Hs.sum_length]; rfl
    rw [hI] at hmac
    have cvA := fun p => (hT.r1.below (Rg.below w8 p) hT.r1.lt).conv
    have cvD := fun p => (hT.r2.below (Rg.below w8 p) hT.r2.lt).conv
    have hB8 : Below w.heap.size w w8 := hB2.trans (hT.B.mono hB2.size)
    have F1 := Lib.hid (fun p => (by
      have := CS.out (Rg.w w8 p) (hB8.trans ((Rg.below w8 p).mono hB8.size)) (Tx.ba D ++ s) (by rw [ByteArray.size_append, Hs.ba_size, lD]; omega)
      rw [show (Tx.ba D ++ s).data.toList = D ++ s.data.toList by simp [Tx.ba], hI] at this
      exact this : Calls Try.prog 13 #[.agg R, .string (Tx.ba D ++ s)] (Rg.w w8 p) fun e w' => e = .returned (.string (Tx.ba I)) ∧ Below (Rg.w w8 p).heap.size (Rg.w w8 p) w'))
    have F2 := Lib.hid (fun p => (by
      have := CS.out (Rg.w w8 p) (hB8.trans ((Rg.below w8 p).mono hB8.size)) (Tx.ba A ++ Tx.ba I) (by rw [ByteArray.size_append, Hs.ba_size, Hs.ba_size, lA, lI]; decide)
      rw [show (Tx.ba A ++ Tx.ba I).data.toList = A ++ I by simp [Tx.ba], hmac] at this
      exact this : Calls Try.prog 13 #[.agg R, .string (Tx.ba A ++ Tx.ba I)] (Rg.w w8 p) fun e w' => e = .returned (.string (Tx.ba MM)) ∧ Below (Rg.w w8 p).heap.size (Rg.w w8 p) w'))
    have zD : (Tx.ba D).size = 128 := lD
    have zA : (Tx.ba A).size = 128 := lA
    have zI : (Tx.ba I).size = 48 := lI
    obtain ⟨BD, hBD⟩ : ∃ BD, Tx.ba D = BD := ⟨_, rfl⟩
    obtain ⟨BA, hBA⟩ : ∃ BA, Tx.ba A = BA := ⟨_, rfl⟩
    obtain ⟨BI, hBI⟩ : ∃ BI, Tx.ba I = BI := ⟨_, rfl⟩
    rw [hBD] at zD F1 cvD
    rw [hBA] at zA F2 cvA
    rw [hBI] at zI F1 F2
    have HE := Lib.hid hB8
    obtain ⟨cA, hxa⟩ := hT.r1.len
    obtain ⟨cD, hxb⟩ := hT.r2.len
    rw [lA] at hxa
    rw [lD] at hxb
    subst hxa hxb
    clear hmac hA hD hI lA lD lI hBD hBA hBI hB8 hT
    go_upto_region 12 with fail
    refine Rg.quiet (by kernel_rfl) (by kernel_rfl) ?_
    repeat (first | (go_big_quiet_want; refine Rg.load_row _ 34 rfl q rfl 34 R (0, 0) _ kb8 Try.underlying34 rfl hsz _ (by simp only [Act.put, List.setIfInBounds_toArray, List.set_cons_zero, List.set_cons_succ]; exact rfl) ?_; go_big_quiet_on) | go_big_quiet_step ((first | (go_at_call 13; with_reducible exact Rg.call (F1.out _)) | (go_at_call 13; with_reducible exact Rg.call (F2.out _)))))
    refine wpQuiet_nil ?_
    intro w' hw'
    obtain ⟨p, rfl⟩ := hw'
    have hBp := Rg.below w8 p
    generalize Rg.w w8 p = w11 at hBp ⊢
    go_wp2_with fail
    go_ret
    refine ⟨rfl, ?_⟩
    exact HE.out.trans (hBp.mono HE.out.size)
set_option maxHeartbeats 1000000 in
set_option maxRecDepth 100000 in
theorem Rf.mac1l (w : World) (gK cK gF cF : Nat) (key s : ByteArray) (hk : 128 < key.size) (hk2 : key.size ≤ 140737488351232) (hs : s.size ≤ 140737488351232) (hK : Rf.Dig w gK 80 (Rf.kk 1)) (hF : Rf.Dig w gF 8 (Hs.first 1).get) :
    Calls Try.prog 22 #[.agg (Rf.kc 1 (.slice (some ⟨gK, 0, none⟩) 80 cK) (.slice (some ⟨gF, 0, none⟩) 8 cF)), .string key, .string s] w fun e w' => e = .returned (.string (Tx.ba (Hs.mac 1 key.data.toList s.data.toList))) ∧ Below w.heap.size w w' := by
  have CS := Lib.hid (fun W (hB : Below w.heap.size w W) (t : ByteArray) (ht : t.size ≤ 140737488354000) => Rf.sum1 W gK cK gF cF t ht (hK.below hB hK.lt) (hF.below hB hF.lt))
  have c00 : ∀ vK vF, (Rf.kc 1 vK vF)[0]? = some (.int .i64 64) := fun _ _ => rfl
  have hR0 := c00 (.slice (some ⟨gK, 0, none⟩) 80 cK) (.slice (some ⟨gF, 0, none⟩) 8 cF)
  have hRs := Rf.kc_size 1 (.slice (some ⟨gK, 0, none⟩) 80 cK) (.slice (some ⟨gF, 0, none⟩) 8 cF)
  obtain ⟨R, hR⟩ : ∃ R, Rf.kc 1 (.slice (some ⟨gK, 0, none⟩) 80 cK) (.slice (some ⟨gF, 0, none⟩) 8 cF) = R := ⟨_, rfl⟩
  rw [hR] at CS hR0 hRs ⊢
  have hsz : (Try.prog.info? 34).map (·.size) = some R.size := by rw [hRs]; exact Rf.infoKd
  obtain ⟨kk, hkk⟩ : ∃ kk : ByteArray, kk = Tx.ba (Hs.sum 1 key.data.toList) := ⟨_, rfl⟩
  have hkl : kk.size ≤ 128 := by rw [hkk, Hs.ba_size, Hs.sum_length]; decide
  have hkey : Hs.keyed 1 key.data.toList = kk.data.toList ++ List.replicate (128 - kk.size) 0 := by
    unfold Hs.keyed
    rw [if_pos (by rw [Tx.len]; exact hk), hkk]
    rfl
  have CK := Lib.hid (fun W hB => CS.out W hB key (by omega))
  have HKK := Lib.hid hkk
  obtain ⟨KB, hKB⟩ : ∃ KB, kk.data.toList ++ List.replicate (128 - kk.size) 0 = KB := ⟨_, rfl⟩
  rw [hKB] at hkey
  have hkl2 : KB.length = 128 := by rw [← hKB, List.length_append, List.length_replicate, Tx.len]; omega
  obtain ⟨MM, hMM⟩ : ∃ MM, Hs.mac 1 key.data.toList s.data.toList = MM := ⟨_, rfl⟩
  have hmac : Hs.sum 1 (KB.map (· ^^^ (92 : UInt8)) ++ Hs.sum 1 (KB.map (· ^^^ (54 : UInt8)) ++ s.data.toList)) = MM := by rw [← hMM, ← hkey]; rfl
  rw [hMM]
  have hkz : (128 : Int) < (key.size : Int) := by omega
  have HKB := Lib.hid (And.intro hkey (And.intro hKB.symm hmac))
  clear hk hk2 hkk hkey hKB hmac hMM hR hRs c00 hK hF
  go_enter Try.func22, Try.ntmps22
  go_upto_region 1 with fail
  have kb1 := heap_alloc_new w (.cells R 34)
  have hB1 : Below w.heap.size w (w.alloc (.cells R 34)) := (Below.refl _ _).alloc (Nat.le_refl _) _
  obtain ⟨q, hq⟩ : ∃ q, w.heap.size = q := ⟨_, rfl⟩
  have hq1 : q < (w.alloc (.cells R 34)).heap.size := by rw [← hq]; exact (Array.getElem?_eq_some_iff.1 kb1).1
  rw [hq] at kb1
  generalize w.alloc (.cells R 34) = w1 at kb1 hB1 hq1 ⊢
  rw [hq]
  have c1 := (cell_of_row w1 q 0 _ _ _ kb1).trans hR0
  clear hq
  go_upto_region 3 with (first | (refine wpList_load_row rfl 34 (.tmp 3) rfl q rfl 34 R (0, 0) _ kb1 Try.underlying34 rfl hsz ?_) | ((with_reducible refine Calls.mono (CK.out _ hB1) ?_); rintro e2 w2 ⟨rfl, b2⟩))
  have hB2 := hB1.trans (b2.mono hB1.size)
  have kb2 := (b2.block q hq1).trans kb1
  rw [← HKK.out]
  clear c1 hkz
  have hq2 : q < w2.heap.size := (Array.getElem?_eq_some_iff.1 kb2).1
  go_wp2_with fail
  have bA : Below w2.heap.size w2 ((w2.alloc (.cells #[] 5)).alloc (.cells #[] 5)) := ((Below.refl _ _).alloc (Nat.le_refl _) _).alloc (by simp) _
  have hz : (w2.alloc (.cells #[] 5)).heap.size = w2.heap.size + 1 := by simp
  have q2 := Hs.Row.nil (w2.alloc (.cells #[] 5))
  have q1 := (Hs.Row.nil w2).below ((Below.refl (w2.alloc (.cells #[] 5)).heap.size (w2.alloc (.cells #[] 5))).alloc (Nat.le_refl _) (.cells #[] 5)) (by simp)
  rw [hz] at q2
  have hT : lwKeys.Two w2 w2.heap.size (w2.heap.size + 1) (.slice (some ⟨w2.heap.size, 0, none⟩) 0 0) (.slice (some ⟨w2.heap.size + 1, 0, none⟩) 0 0) [] [] ((w2.alloc (.cells #[] 5)).alloc (.cells #[] 5)) :=
    ⟨q1, q2, by omega, Nat.le_refl _, by omega, bA⟩
  clear bA hz q1 q2
  obtain ⟨z1, hz1⟩ : ∃ z1, w2.heap.size = z1 := ⟨_, rfl⟩
  rw [hz1] at hT ⊢
  have HZ := Lib.hid hz1
  clear hz1
  generalize (w2.alloc (.cells #[] 5)).alloc (.cells #[] 5) = w7 at hT ⊢
  go_loopw [7, 8, 9] (fun xa xb iv wr => ∃ (i g1 g2 : Nat), i ≤ 128 ∧ iv = .int .i64 (i : Int) ∧ lwKeys.Two w2 g1 g2 xa xb ((KB.take i).map (· ^^^ (92 : UInt8))) ((KB.take i).map (· ^^^ (54 : UInt8))) wr) (fun _ _ iv _ => 128 - (intOf iv).toNat)
  case atStart => exact ⟨0, z1, z1 + 1, by omega, rfl, by simpa using hT⟩
  case round =>
  clear hT
  obtain ⟨i, g1, g2, hi, rfl, hT⟩ := hrel
  obtain ⟨w8, rfl⟩ : ∃ w8, w8 = wr := ⟨_, rfl⟩
  have kb8 := (hT.B.block q hq2).trans kb2
  have c8 := (cell_of_row w8 q 0 _ _ _ kb8).trans hR0
  have hl1 : ((KB.take i).map (· ^^^ (92 : UInt8))).length ≤ 128 := by rw [List.length_map, List.length_take]; omega
  have hl2 : ((KB.take i).map (· ^^^ (54 : UInt8))).length ≤ 128 := by rw [List.length_map, List.length_take]; omega
  by_cases hil : i < 128
  · have hiz : (i : Int) < 128 := by omega
    have hiz0 : 0 ≤ (i : Int) := by omega
    obtain ⟨c, hc⟩ : ∃ c, KB[i]? = some c := ⟨_, List.getElem?_eq_getElem (by omega)⟩
    have s1 : (KB.take (i + 1)).map (· ^^^ (92 : UInt8)) = (KB.take i).map (· ^^^ (92 : UInt8)) ++ [c ^^^ 92] := by rw [List.take_add_one, hc, List.map_append]; rfl
    have s2 : (KB.take (i + 1)).map (· ^^^ (54 : UInt8)) = (KB.take i).map (· ^^^ (54 : UInt8)) ++ [c ^^^ 54] := by rw [List.take_add_one, hc, List.map_append]; rfl
    have e1 : bits .xor .u8 (c.toNat : Int) 92 = ((c ^^^ 92 : UInt8).toNat : Int) := Hs.u8_xor c 92
    have e2 : bits .xor .u8 (c.toNat : Int) 54 = ((c ^^^ 54 : UInt8).toNat : Int) := Hs.u8_xor c 54
    obtain ⟨c1, hc1⟩ : ∃ c1, c ^^^ (92 : UInt8) = c1 := ⟨_, rfl⟩
    obtain ⟨c2, hc2⟩ : ∃ c2, c ^^^ (54 : UInt8) = c2 := ⟨_, rfl⟩
    rw [hc1] at s1 e1
    rw [hc2] at s2 e2
    have HS1 := Lib.hid s1
    have HS2 := Lib.hid s2
    have hcase : (∃ hh : i < kk.size, kk[i] = c) ∨ (kk.size ≤ i ∧ c = 0) := by
      rw [HKB.out.2.1] at hc
      by_cases hh : i < kk.size
      · left
        rw [List.getElem?_append_left (by rw [Tx.len]; exact hh), List.getElem?_eq_getElem (by rw [Tx.len]; exact hh)] at hc
        refine ⟨hh, ?_⟩
        rw [← Tx.get kk i hh]
        exact Option.some.inj hc
      · right
        rw [List.getElem?_append_right (by rw [Tx.len]; omega), List.getElem?_replicate, Tx.len, if_pos (by omega)] at hc
        exact ⟨by omega, (Option.some.inj hc).symm⟩
    obtain ⟨A, hA⟩ : ∃ A, (KB.take i).map (· ^^^ (92 : UInt8)) = A := ⟨_, rfl⟩
    obtain ⟨D, hD⟩ : ∃ D, (KB.take i).map (· ^^^ (54 : UInt8)) = D := ⟨_, rfl⟩
    rw [hA] at hT hl1 HS1
    rw [hD] at hT hl2 HS2
    clear s1 s2 hc hA hD
    rcases hcase with ⟨hh, hkc⟩ | ⟨hh, rfl⟩
    · clear hc1 hc2
      have hhz : (i : Int) < (kk.size : Int) := by omega
      have hix : kk[i]? = some c := by rw [← hkc]; exact getElem?_pos kk i hh
      go_wp2_with (at_builtin; first | (refine Hs.appendB rfl _ _ rfl _ _ A rfl (hT.r1.below ((Below.refl w8.heap.size w8).alloc (Nat.le_refl _) _) hT.r1.lt) ⟨w8.heap.size, 0, none⟩ 1 [c1] rfl (World.news_of_block (heap_alloc_new w8 _)) (by simp; omega) ?_; intro y1 w9 g1' r9 hg9 b9; have hT9 := hT.one ((Below.refl w8.heap.size w8).alloc (Nat.le_refl _) _) r9 hg9 b9) | (refine Hs.appendB rfl _ _ rfl _ _ D rfl (hT9.r2.below ((Below.refl w9.heap.size w9).alloc (Nat.le_refl _) _) hT9.r2.lt) ⟨w9.heap.size, 0, none⟩ 1 [c2] rfl (World.news_of_block (heap_alloc_new w9 _)) (by simp; omega) ?_; intro y2 w10 g2' r10 hg10 b10; have hT10 := hT9.two ((Below.refl w9.heap.size w9).alloc (Nat.le_refl _) _) r10 hg10 b10))
      rw [← HS1.out, ← HS2.out] at hT10
      exact ⟨⟨i + 1, g1', g2', by omega, by go_num, hT10⟩, by simp [intOf]; omega⟩
    · have hhz : ¬ (i : Int) < (kk.size : Int) := by omega
      obtain rfl : c1 = 92 := by rw [← hc1]; rfl
      obtain rfl : c2 = 54 := by rw [← hc2]; rfl
      go_wp2_with (at_builtin; first | (refine Hs.appendB rfl _ _ rfl _ _ A rfl (hT.r1.below ((Below.refl w8.heap.size w8).alloc (Nat.le_refl _) _) hT.r1.lt) ⟨w8.heap.size, 0, none⟩ 1 [92] rfl (World.news_of_block (heap_alloc_new w8 _)) (by simp; omega) ?_; intro y1 w9 g1' r9 hg9 b9; have hT9 := hT.one ((Below.refl w8.heap.size w8).alloc (Nat.le_refl _) _) r9 hg9 b9) | (refine Hs.appendB rfl _ _ rfl _ _ D rfl (hT9.r2.below ((Below.refl w9.heap.size w9).alloc (Nat.le_refl _) _) hT9.r2.lt) ⟨w9.heap.size, 0, none⟩ 1 [54] rfl (World.news_of_block (heap_alloc_new w9 _)) (by simp; omega) ?_; intro y2 w10 g2' r10 hg10 b10; have hT10 := hT9.two ((Below.refl w9.heap.size w9).alloc (Nat.le_refl _) _) r10 hg10 b10))
      rw [← HS1.out, ← HS2.out] at hT10
      exact ⟨⟨i + 1, g1', g2', by omega, by go_num, hT10⟩, by simp [intOf]; omega⟩
  · have hie : i = 128 := by omega
    have hiz : ¬ (i : Int) < 128 := by omega
    rw [hie, List.take_of_length_le (by omega)] at hT
    clear hl1 hl2 hie
    obtain ⟨A, hA⟩ : ∃ A, KB.map (· ^^^ (92 : UInt8)) = A := ⟨_, rfl⟩
    obtain ⟨D, hD⟩ : ∃ D, KB.map (· ^^^ (54 : UInt8)) = D := ⟨_, rfl⟩
    have lA : A.length = 128 := by rw [← hA, List.length_map, hkl2]
    have lD : D.length = 128 := by rw [← hD, List.length_map, hkl2]
    have hmac := HKB.out.2.2
    rw [hA, hD] at hmac
    rw [hA, hD] at hT
    obtain ⟨I, hI⟩ : ∃ I, Hs.sum 1 (D ++ s.data.toList) = I := ⟨_, rfl⟩
    have lI : I.length = 48 := by rw [← hI, Hs.sum_length]; rfl
    rw [hI] at hmac
    have cvA := fun p => (hT.r1.below (Rg.below w8 p) hT.r1.lt).conv
    have cvD := fun p => (hT.r2.below (Rg.below w8 p) hT.r2.lt).conv
    have hB8 : Below w.heap.size w w8 := hB2.trans (hT.B.mono hB2.size)
    have F1 := Lib.hid (fun p => (by
      have := CS.out (Rg.w w8 p) (hB8.trans ((Rg.below w8 p).mono hB8.size)) (Tx.ba D ++ s) (by rw [ByteArray.size_append, Hs.ba_size, lD]; omega)
      rw [show (Tx.ba D ++ s).data.toList = D ++ s.data.toList by simp [Tx.ba], hI] at this
      exact this : Calls Try.prog 13 #[.agg R, .string (Tx.ba D ++ s)] (Rg.w w8 p) fun e w' => e = .returned (.string (Tx.ba I)) ∧ Below (Rg.w w8 p).heap.size (Rg.w w8 p) w'))
    have F2 := Lib.hid (fun p => (by
      have := CS.out (Rg.w w8 p) (hB8.trans ((Rg.below w8 p).mono hB8.size)) (Tx.ba A ++ Tx.ba I) (by rw [ByteArray.size_append, Hs.ba_size, Hs.ba_size, lA, lI]; decide)
      rw [show (Tx.ba A ++ Tx.ba I).data.toList = A ++ I by simp [Tx.ba], hmac] at this
      exact this : Calls Try.prog 13 #[.agg R, .string (Tx.ba A ++ Tx.ba I)] (Rg.w w8 p) fun e w' => e = .returned (.string (Tx.ba MM)) ∧ Below (Rg.w w8 p).heap.size (Rg.w w8 p) w'))
    have zD : (Tx.ba D).size = 128 := lD
    have zA : (Tx.ba A).size = 128 := lA
    have zI : (Tx.ba I).size = 48 := lI
    obtain ⟨BD, hBD⟩ : ∃ BD, Tx.ba D = BD := ⟨_, rfl⟩
    obtain ⟨BA, hBA⟩ : ∃ BA, Tx.ba A = BA := ⟨_, rfl⟩
    obtain ⟨BI, hBI⟩ : ∃ BI, Tx.ba I = BI := ⟨_, rfl⟩
    rw [hBD] at zD F1 cvD
    rw [hBA] at zA F2 cvA
    rw [hBI] at zI F1 F2
    have HE := Lib.hid hB8
    obtain ⟨cA, hxa⟩ := hT.r1.len
    obtain ⟨cD, hxb⟩ := hT.r2.len
    rw [lA] at hxa
    rw [lD] at hxb
    subst hxa hxb
    clear hmac hA hD hI lA lD lI hBD hBA hBI hB8 hT
    go_upto_region 12 with fail
    refine Rg.quiet (by kernel_rfl) (by kernel_rfl) ?_
    repeat (first | (go_big_quiet_want; refine Rg.load_row _ 34 rfl q rfl 34 R (0, 0) _ kb8 Try.underlying34 rfl hsz _ (by simp only [Act.put, List.setIfInBounds_toArray, List.set_cons_zero, List.set_cons_succ]; exact rfl) ?_; go_big_quiet_on) | go_big_quiet_step ((first | (go_at_call 13; with_reducible exact Rg.call (F1.out _)) | (go_at_call 13; with_reducible exact Rg.call (F2.out _)))))
    refine wpQuiet_nil ?_
    intro w' hw'
    obtain ⟨p, rfl⟩ := hw'
    have hBp := Rg.below w8 p
    generalize Rg.w w8 p = w11 at hBp ⊢
    go_wp2_with fail
    go_ret
    refine ⟨rfl, ?_⟩
    exact HE.out.trans (hBp.mono HE.out.size)
end Go.Proofs.Ytelfhdihkeafnaa
