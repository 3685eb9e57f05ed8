/- The reference's sum and mac, by a kind. -/
import Derived.Test.YtelfhdihkeafnaaRmA
import Derived.Test.YtelfhdihkeafnaaRmB
import Derived.Test.YtelfhdihkeafnaaRfKb
namespace Go.Proofs.Ytelfhdihkeafnaa
open Go.RowKit

theorem Rf.mac0 (w : World) (gK cK gF cF : Nat) (key s : ByteArray) (hk : key.size ≤ 140737488351232) (hs : s.size ≤ 140737488351232) (hK : Rf.Dig w gK 64 (Rf.kk 0)) (hF : Rf.Dig w gF 8 (Hs.first 0).get) :
    Calls Try.prog 22 #[.agg (Rf.kc 0 (.slice (some ⟨gK, 0, none⟩) 64 cK) (.slice (some ⟨gF, 0, none⟩) 8 cF)), .string key, .string s] w fun e w' => e = .returned (.string (Tx.ba (Hs.mac 0 key.data.toList s.data.toList))) ∧ Below w.heap.size w w' := by
  by_cases h : key.size ≤ 64
  · exact Rf.mac0s w gK cK gF cF key s h hs hK hF
  · exact Rf.mac0l w gK cK gF cF key s (by omega) hk hs hK hF
theorem Rf.mac1 (w : World) (gK cK gF cF : Nat) (key s : ByteArray) (hk : key.size ≤ 140737488351232) (hs : s.size ≤ 140737488351232) (hK : Rf.Dig w gK 80 (Rf.kk 1)) (hF : Rf.Dig w gF 8 (Hs.first 1).get) :
    Calls Try.prog 22 #[.agg (Rf.kc 1 (.slice (some ⟨gK, 0, none⟩) 80 cK) (.slice (some ⟨gF, 0, none⟩) 8 cF)), .string key, .string s] w fun e w' => e = .returned (.string (Tx.ba (Hs.mac 1 key.data.toList s.data.toList))) ∧ Below w.heap.size w w' := by
  by_cases h : key.size ≤ 128
  · exact Rf.mac1s w gK cK gF cF key s h hs hK hF
  · exact Rf.mac1l w gK cK gF cF key s (by omega) hk hs hK hF
set_option maxHeartbeats 400000 in
set_option maxRecDepth 100000 in
theorem Rf.of_no (w : World) (k : Int) (h0 : k ≠ 0) (h1 : k ≠ 1) :
    Calls Try.prog 12 #[.int .i64 k] w fun e w' => e = .returned (.tuple #[.agg (Rf.kc 0 (.slice none 0 0) (.slice none 0 0)), .bool false]) ∧ Below w.heap.size w w' := by
  have hz := Rf.zeroK
  have t1 : (k == 1) = false := by rw [beq_eq_false_iff_ne]; exact h1
  have hsz : (Try.prog.info? 34).map (·.size) = some (Rf.kc 0 (.slice none 0 0) (.slice none 0 0)).size := by rw [Rf.kc_size]; exact Rf.infoKd
  have hk : k < 0 ∨ (¬ k < 0 ∧ 1 < k) := by omega
  clear h0 h1
  rcases hk with hk | ⟨hk, hk2⟩
  all_goals
    go_enter Try.func12, Try.ntmps12
    go_upto_region 1 with fail
    have r1 : (w.alloc (.cells Rf.zk 34)).heap[w.heap.size]? = some (.cells Rf.zk 34 (0, 0)) := heap_alloc_new _ _
    have b1 : Below w.heap.size w (w.alloc (.cells Rf.zk 34)) := (Below.refl _ _).alloc (Nat.le_refl _) _
    obtain ⟨q, hq⟩ : ∃ q, w.heap.size = q := ⟨_, rfl⟩
    rw [hq] at r1 b1 ⊢
    have hqk : q < (w.alloc (.cells Rf.zk 34)).heap.size := (Array.getElem?_eq_some_iff.1 r1).1
    generalize w.alloc (.cells Rf.zk 34) = w1 at r1 b1 hqk ⊢
    go_upto_region 6 with (first | (refine Hs.wpList_build rfl 34 _ rfl _ (Rf.kc 0 (.slice none 0 0) (.slice none 0 0)) rfl (by kernel_rfl) ?_) | (refine wpList_store_row rfl 34 (.tmp 4) (.tmp 13) rfl w1.heap.size (Rf.kc 0 (.slice none 0 0) (.slice none 0 0)) rfl rfl 34 _ (heap_alloc_new w1 _) hsz (by kernel_rfl) (by kernel_rfl) ?_; rw [World.setRow_alloc_new]))
    have r2 := heap_alloc_new w1 (.cells (Rf.kc 0 (.slice none 0 0) (.slice none 0 0)) 34)
    have b2 : Below w1.heap.size w1 (w1.alloc (.cells (Rf.kc 0 (.slice none 0 0) (.slice none 0 0)) 34)) := (Below.refl _ _).alloc (Nat.le_refl _) _
    obtain ⟨g, hg⟩ : ∃ g, w1.heap.size = g := ⟨_, rfl⟩
    rw [hg] at r2 b2 hqk ⊢
    have r1 := (b2.block q hqk).trans r1
    have b1 := b1.trans (b2.mono (by omega))
    generalize w1.alloc (.cells (Rf.kc 0 (.slice none 0 0) (.slice none 0 0)) 34) = w2 at r1 r2 b1 b2 ⊢
    clear b2 hg
    go_wp2_with (first | (refine wpList_load_row rfl 34 (.tmp 4) rfl g rfl 34 _ (0, 0) _ r2 Try.underlying34 rfl hsz ?_) | (refine wpList_store_row rfl 34 (.tmp 2) (.tmp 27) rfl q _ rfl rfl 34 _ r1 hsz (by kernel_rfl) (by kernel_rfl) ?_))
    refine bodyPost_ret (v := .tuple #[.agg (Rf.kc 0 (.slice none 0 0) (.slice none 0 0)), .bool false]) (Rf.results_two rfl _ _ q 34 _ (0, 0) _ _ rfl rfl (setRow_heap _ _ _ _ _ _ r1) Try.underlying34 rfl hsz) rfl ?_
    refine ⟨rfl, ?_⟩
    have b3 : Below q w2 (w2.setRow q (Rf.kc 0 (.slice none 0 0) (.slice none 0 0))) := ⟨rfl, rfl, rfl, by simp [World.setRow], fun b hb => Rf.setRow_other w2 q b _ (by omega)⟩
    first | exact b1.trans b3 | (rw [hq]; exact b1.trans b3)
set_option maxHeartbeats 400000 in
set_option maxRecDepth 100000 in
theorem Rf.RSum0 (w : World) (s : ByteArray) (hs : s.size ≤ 140737488351232) :
    Calls Try.prog 6 #[.int .i64 0, .string s] w fun e w' => e = .returned (.tuple #[.string (Tx.ba (Hs.sum 0 s.data.toList)), .int .i64 0]) ∧ Below w.heap.size w w' := by
  obtain ⟨X, hX⟩ : ∃ X, Tx.ba (Hs.sum 0 s.data.toList) = X := ⟨_, rfl⟩
  have CS := Lib.hid (fun W gK cK gF cF hK hF => Rf.sum0 W gK cK gF cF s (by omega) hK hF)
  rw [hX] at CS ⊢
  have hz := Rf.zeroK
  clear hX
  go_enter Try.func6, Try.ntmps6
  go_upto_region 2 with (first | ((with_reducible refine Calls.mono (Rf.of0 _) ?_); rintro e1 w1 ⟨gK, cK, gF, cF, rfl, hK, hF, b1⟩; have hRs := Rf.kc_size 0 (.slice (some ⟨gK, 0, none⟩) 64 cK) (.slice (some ⟨gF, 0, none⟩) 8 cF); have hone : (Rf.kc 0 (.slice (some ⟨gK, 0, none⟩) 64 cK) (.slice (some ⟨gF, 0, none⟩) 8 cF)).all (·.oneCell') = true := (by simp [Rf.kc, Rf.n3, Value.oneCell']); have CC := CS.out; have CC1 := fun W hK hF => CC W gK cK gF cF hK hF; obtain ⟨R, hR⟩ : ∃ R, Rf.kc 0 (.slice (some ⟨gK, 0, none⟩) 64 cK) (.slice (some ⟨gF, 0, none⟩) 8 cF) = R := ⟨_, rfl⟩; rw [hR] at hRs hone CC1 ⊢; have CC2 := Lib.hid CC1; clear CC CC1 hR; have hsz : (Try.prog.info? 34).map (·.size) = some R.size := (by rw [hRs]; exact Rf.infoKd); have hzs : Rf.zk.size = R.size := (by rw [hRs]; rfl); clear hRs) | (refine wpList_store_row rfl 34 (.tmp 6) (.tmp 11) rfl w1.heap.size R rfl rfl 34 _ (heap_alloc_new w1 _) hsz hzs hone ?_; rw [World.setRow_alloc_new]))
  have r2 := heap_alloc_new w1 (.cells R 34)
  have b2 : Below w1.heap.size w1 (w1.alloc (.cells R 34)) := (Below.refl _ _).alloc (Nat.le_refl _) _
  have CD := Lib.hid (CC2.out (w1.alloc (.cells R 34)) (hK.bel b2) (hF.bel b2))
  obtain ⟨g, hg⟩ : ∃ g, w1.heap.size = g := ⟨_, rfl⟩
  have B2 := b1.trans (b2.mono b1.size)
  rw [hg] at r2 ⊢
  clear CS CC2 hK hF b1 b2 hg hzs hone hz
  generalize w1.alloc (.cells R 34) = w2 at r2 B2 CD ⊢
  go_wp2_with (first | (refine wpList_load_row rfl 34 (.tmp 6) rfl g rfl 34 _ (0, 0) _ r2 Try.underlying34 rfl hsz ?_) | ((with_reducible refine Calls.mono CD.out ?_); rintro e3 w3 ⟨rfl, b3⟩))
  have B3 := B2.trans (b3.mono B2.size)
  go_ret2
  exact ⟨rfl, B3⟩
set_option maxHeartbeats 400000 in
set_option maxRecDepth 100000 in
theorem Rf.RSum1 (w : World) (s : ByteArray) (hs : s.size ≤ 140737488351232) :
    Calls Try.prog 6 #[.int .i64 1, .string s] w fun e w' => e = .returned (.tuple #[.string (Tx.ba (Hs.sum 1 s.data.toList)), .int .i64 0]) ∧ Below w.heap.size w w' := by
  obtain ⟨X, hX⟩ : ∃ X, Tx.ba (Hs.sum 1 s.data.toList) = X := ⟨_, rfl⟩
  have CS := Lib.hid (fun W gK cK gF cF hK hF => Rf.sum1 W gK cK gF cF s (by omega) hK hF)
  rw [hX] at CS ⊢
  have hz := Rf.zeroK
  clear hX
  go_enter Try.func6, Try.ntmps6
  go_upto_region 2 with (first | ((with_reducible refine Calls.mono (Rf.of1 _) ?_); rintro e1 w1 ⟨gK, cK, gF, cF, rfl, hK, hF, b1⟩; have hRs := Rf.kc_size 1 (.slice (some ⟨gK, 0, none⟩) 80 cK) (.slice (some ⟨gF, 0, none⟩) 8 cF); have hone : (Rf.kc 1 (.slice (some ⟨gK, 0, none⟩) 80 cK) (.slice (some ⟨gF, 0, none⟩) 8 cF)).all (·.oneCell') = true := (by simp [Rf.kc, Rf.n3, Value.oneCell']); have CC := CS.out; have CC1 := fun W hK hF => CC W gK cK gF cF hK hF; obtain ⟨R, hR⟩ : ∃ R, Rf.kc 1 (.slice (some ⟨gK, 0, none⟩) 80 cK) (.slice (some ⟨gF, 0, none⟩) 8 cF) = R := ⟨_, rfl⟩; rw [hR] at hRs hone CC1 ⊢; have CC2 := Lib.hid CC1; clear CC CC1 hR; have hsz : (Try.prog.info? 34).map (·.size) = some R.size := (by rw [hRs]; exact Rf.infoKd); have hzs : Rf.zk.size = R.size := (by rw [hRs]; rfl); clear hRs) | (refine wpList_store_row rfl 34 (.tmp 6) (.tmp 11) rfl w1.heap.size R rfl rfl 34 _ (heap_alloc_new w1 _) hsz hzs hone ?_; rw [World.setRow_alloc_new]))
  have r2 := heap_alloc_new w1 (.cells R 34)
  have b2 : Below w1.heap.size w1 (w1.alloc (.cells R 34)) := (Below.refl _ _).alloc (Nat.le_refl _) _
  have CD := Lib.hid (CC2.out (w1.alloc (.cells R 34)) (hK.bel b2) (hF.bel b2))
  obtain ⟨g, hg⟩ : ∃ g, w1.heap.size = g := ⟨_, rfl⟩
  have B2 := b1.trans (b2.mono b1.size)
  rw [hg] at r2 ⊢
  clear CS CC2 hK hF b1 b2 hg hzs hone hz
  generalize w1.alloc (.cells R 34) = w2 at r2 B2 CD ⊢
  go_wp2_with (first | (refine wpList_load_row rfl 34 (.tmp 6) rfl g rfl 34 _ (0, 0) _ r2 Try.underlying34 rfl hsz ?_) | ((with_reducible refine Calls.mono CD.out ?_); rintro e3 w3 ⟨rfl, b3⟩))
  have B3 := B2.trans (b3.mono B2.size)
  go_ret2
  exact ⟨rfl, B3⟩
set_option maxHeartbeats 400000 in
set_option maxRecDepth 100000 in
theorem Rf.RMac0 (w : World) (key s : ByteArray) (hk : key.size ≤ 140737488351232) (hs : s.size ≤ 140737488351232) :
    Calls Try.prog 9 #[.int .i64 0, .string key, .string s] w fun e w' => e = .returned (.tuple #[.string (Tx.ba (Hs.mac 0 key.data.toList s.data.toList)), .int .i64 0]) ∧ Below w.heap.size w w' := by
  obtain ⟨X, hX⟩ : ∃ X, Tx.ba (Hs.mac 0 key.data.toList s.data.toList) = X := ⟨_, rfl⟩
  have CS := Lib.hid (fun W gK cK gF cF hK hF => Rf.mac0 W gK cK gF cF key s hk hs hK hF)
  rw [hX] at CS ⊢
  have hz := Rf.zeroK
  clear hX
  go_enter Try.func9, Try.ntmps9
  go_upto_region 2 with (first | ((with_reducible refine Calls.mono (Rf.of0 _) ?_); rintro e1 w1 ⟨gK, cK, gF, cF, rfl, hK, hF, b1⟩; have hRs := Rf.kc_size 0 (.slice (some ⟨gK, 0, none⟩) 64 cK) (.slice (some ⟨gF, 0, none⟩) 8 cF); have hone : (Rf.kc 0 (.slice (some ⟨gK, 0, none⟩) 64 cK) (.slice (some ⟨gF, 0, none⟩) 8 cF)).all (·.oneCell') = true := (by simp [Rf.kc, Rf.n3, Value.oneCell']); have CC := CS.out; have CC1 := fun W hK hF => CC W gK cK gF cF hK hF; obtain ⟨R, hR⟩ : ∃ R, Rf.kc 0 (.slice (some ⟨gK, 0, none⟩) 64 cK) (.slice (some ⟨gF, 0, none⟩) 8 cF) = R := ⟨_, rfl⟩; rw [hR] at hRs hone CC1 ⊢; have CC2 := Lib.hid CC1; clear CC CC1 hR; have hsz : (Try.prog.info? 34).map (·.size) = some R.size := (by rw [hRs]; exact Rf.infoKd); have hzs : Rf.zk.size = R.size := (by rw [hRs]; rfl); clear hRs) | (refine wpList_store_row rfl 34 (.tmp 8) (.tmp 13) rfl w1.heap.size R rfl rfl 34 _ (heap_alloc_new w1 _) hsz hzs hone ?_; rw [World.setRow_alloc_new]))
  have r2 := heap_alloc_new w1 (.cells R 34)
  have b2 : Below w1.heap.size w1 (w1.alloc (.cells R 34)) := (Below.refl _ _).alloc (Nat.le_refl _) _
  have CD := Lib.hid (CC2.out (w1.alloc (.cells R 34)) (hK.bel b2) (hF.bel b2))
  obtain ⟨g, hg⟩ : ∃ g, w1.heap.size = g := ⟨_, rfl⟩
  have B2 := b1.trans (b2.mono b1.size)
  rw [hg] at r2 ⊢
  clear CS CC2 hK hF b1 b2 hg hzs hone hz
  generalize w1.alloc (.cells R 34) = w2 at r2 B2 CD ⊢
  go_wp2_with (first | (refine wpList_load_row rfl 34 (.tmp 8) rfl g rfl 34 _ (0, 0) _ r2 Try.underlying34 rfl hsz ?_) | ((with_reducible refine Calls.mono CD.out ?_); rintro e3 w3 ⟨rfl, b3⟩))
  have B3 := B2.trans (b3.mono B2.size)
  go_ret2
  exact ⟨rfl, B3⟩
set_option maxHeartbeats 400000 in
set_option maxRecDepth 100000 in
theorem Rf.RMac1 (w : World) (key s : ByteArray) (hk : key.size ≤ 140737488351232) (hs : s.size ≤ 140737488351232) :
    Calls Try.prog 9 #[.int .i64 1, .string key, .string s] w fun e w' => e = .returned (.tuple #[.string (Tx.ba (Hs.mac 1 key.data.toList s.data.toList)), .int .i64 0]) ∧ Below w.heap.size w w' := by
  obtain ⟨X, hX⟩ : ∃ X, Tx.ba (Hs.mac 1 key.data.toList s.data.toList) = X := ⟨_, rfl⟩
  have CS := Lib.hid (fun W gK cK gF cF hK hF => Rf.mac1 W gK cK gF cF key s hk hs hK hF)
  rw [hX] at CS ⊢
  have hz := Rf.zeroK
  clear hX
  go_enter Try.func9, Try.ntmps9
  go_upto_region 2 with (first | ((with_reducible refine Calls.mono (Rf.of1 _) ?_); rintro e1 w1 ⟨gK, cK, gF, cF, rfl, hK, hF, b1⟩; have hRs := Rf.kc_size 1 (.slice (some ⟨gK, 0, none⟩) 80 cK) (.slice (some ⟨gF, 0, none⟩) 8 cF); have hone : (Rf.kc 1 (.slice (some ⟨gK, 0, none⟩) 80 cK) (.slice (some ⟨gF, 0, none⟩) 8 cF)).all (·.oneCell') = true := (by simp [Rf.kc, Rf.n3, Value.oneCell']); have CC := CS.out; have CC1 := fun W hK hF => CC W gK cK gF cF hK hF; obtain ⟨R, hR⟩ : ∃ R, Rf.kc 1 (.slice (some ⟨gK, 0, none⟩) 80 cK) (.slice (some ⟨gF, 0, none⟩) 8 cF) = R := ⟨_, rfl⟩; rw [hR] at hRs hone CC1 ⊢; have CC2 := Lib.hid CC1; clear CC CC1 hR; have hsz : (Try.prog.info? 34).map (·.size) = some R.size := (by rw [hRs]; exact Rf.infoKd); have hzs : Rf.zk.size = R.size := (by rw [hRs]; rfl); clear hRs) | (refine wpList_store_row rfl 34 (.tmp 8) (.tmp 13) rfl w1.heap.size R rfl rfl 34 _ (heap_alloc_new w1 _) hsz hzs hone ?_; rw [World.setRow_alloc_new]))
  have r2 := heap_alloc_new w1 (.cells R 34)
  have b2 : Below w1.heap.size w1 (w1.alloc (.cells R 34)) := (Below.refl _ _).alloc (Nat.le_refl _) _
  have CD := Lib.hid (CC2.out (w1.alloc (.cells R 34)) (hK.bel b2) (hF.bel b2))
  obtain ⟨g, hg⟩ : ∃ g, w1.heap.size = g := ⟨_, rfl⟩
  have B2 := b1.trans (b2.mono b1.size)
  rw [hg] at r2 ⊢
  clear CS CC2 hK hF b1 b2 hg hzs hone hz
  generalize w1.alloc (.cells R 34) = w2 at r2 B2 CD ⊢
  go_wp2_with (first | (refine wpList_load_row rfl 34 (.tmp 8) rfl g rfl 34 _ (0, 0) _ r2 Try.underlying34 rfl hsz ?_) | ((with_reducible refine Calls.mono CD.out ?_); rintro e3 w3 ⟨rfl, b3⟩))
  have B3 := B2.trans (b3.mono B2.size)
  go_ret2
  exact ⟨rfl, B3⟩
set_option maxHeartbeats 400000 in
set_option maxRecDepth 100000 in
theorem Rf.RSum_no (w : World) (k : Int) (h0 : k ≠ 0) (h1 : k ≠ 1) (s : ByteArray) :
    Calls Try.prog 6 #[.int .i64 k, .string s] w fun e w' => e = .returned (.tuple #[.string ⟨#[]⟩, .int .i64 20]) ∧ Below w.heap.size w w' := by
  have CO := Lib.hid (fun W => Rf.of_no W k h0 h1)
  have hz := Rf.zeroK
  clear h0 h1
  go_enter Try.func6, Try.ntmps6
  go_wp2_with (first | ((with_reducible refine Calls.mono (CO.out _) ?_); rintro e1 w1 ⟨rfl, b1⟩) | (refine wpList_store_row rfl 34 (.tmp 6) (.tmp 11) rfl w1.heap.size _ rfl rfl 34 _ (heap_alloc_new w1 _) (by rw [Rf.kc_size]; exact Rf.infoKd) (by kernel_rfl) (by kernel_rfl) ?_; rw [World.setRow_alloc_new]))
  go_ret2
  exact ⟨rfl, b1.trans (((Below.refl _ _).alloc (Nat.le_refl _) _).mono b1.size)⟩
set_option maxHeartbeats 400000 in
set_option maxRecDepth 100000 in
theorem Rf.RMac_no (w : World) (k : Int) (h0 : k ≠ 0) (h1 : k ≠ 1) (key s : ByteArray) :
    Calls Try.prog 9 #[.int .i64 k, .string key, .string s] w fun e w' => e = .returned (.tuple #[.string ⟨#[]⟩, .int .i64 20]) ∧ Below w.heap.size w w' := by
  have CO := Lib.hid (fun W => Rf.of_no W k h0 h1)
  have hz := Rf.zeroK
  clear h0 h1
  go_enter Try.func9, Try.ntmps9
  go_wp2_with (first | ((with_reducible refine Calls.mono (CO.out _) ?_); rintro e1 w1 ⟨rfl, b1⟩) | (refine wpList_store_row rfl 34 (.tmp 8) (.tmp 13) rfl w1.heap.size _ rfl rfl 34 _ (heap_alloc_new w1 _) (by rw [Rf.kc_size]; exact Rf.infoKd) (by kernel_rfl) (by kernel_rfl) ?_; rw [World.setRow_alloc_new]))
  go_ret2
  exact ⟨rfl, b1.trans (((Below.refl _ _).alloc (Nat.le_refl _) _).mono b1.size)⟩
end Go.Proofs.Ytelfhdihkeafnaa
