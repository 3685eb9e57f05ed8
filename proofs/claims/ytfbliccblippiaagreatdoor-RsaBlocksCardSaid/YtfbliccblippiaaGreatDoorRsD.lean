/- Masks: mask, Mask. -/
import Derived.Test.YtfbliccblippiaaGreatDoorRsC
import Derived.Test.YtfbliccblippiaaGreatDoorRwA
namespace Go.Proofs.YtfbliccblippiaaGreatDoor
open Go.RowKit
/-- i sums of a seed, one behind the other. -/
def Rs.maskL (s : List UInt8) : Nat → List UInt8
  | 0 => []
  | i + 1 => Rs.maskL s i ++ Hs.sum 0 (s ++ [0, 0, 0, UInt8.ofNat i])
theorem Rs.maskL_len (s : List UInt8) : ∀ i, (Rs.maskL s i).length = 32 * i
  | 0 => rfl
  | i + 1 => by rw [Rs.maskL, List.length_append, Rs.maskL_len s i, Rs.sum_len]; omega
theorem Rs.maskL_take (s : List UInt8) (i k : Nat) (hk : k ≤ 32 * i) : ∀ j, i ≤ j → (Rs.maskL s j).take k = (Rs.maskL s i).take k
  | 0, h => by obtain rfl : i = 0 := by omega
               rfl
  | j + 1, h => by
    by_cases e : i = j + 1
    · rw [e]
    · rw [Rs.maskL, List.take_append_of_le_length (by rw [Rs.maskL_len]; omega), Rs.maskL_take s i k hk j (by omega)]
/-- The first n bytes of a seed's mask. -/
def Rs.mask (s : ByteArray) (n : Nat) : ByteArray := Tx.ba ((Rs.maskL s.data.toList 17).take n)
theorem Rs.mask_size (s : ByteArray) (n : Nat) (h : n ≤ 512) : (Rs.mask s n).size = n := by
  show ((Rs.maskL s.data.toList 17).take n).length = n
  rw [List.length_take, Rs.maskL_len]
  omega
theorem Rs.made8 (c : Nat) : madeCells (Value.int .u8 0).cells (c * 1) = (List.replicate c (Value.int .u8 0)).toArray := by
  apply Array.ext_getElem?
  intro j
  by_cases hj : j < c
  · simp [madeCells, Value.cells, hj, Nat.mod_one]
  · rw [Array.getElem?_eq_none (by rw [size_madeCells]; omega), Array.getElem?_eq_none (by simp; omega)]
/-- make([]byte, 0, n). -/
theorem Rs.wpList_room {w : World} {ops : Array Oper} {rest : List Oper} {o : Oper} {a : Act} {Q : Exit → Act → World → Prop} (hg : o.guard = none) (l c : Operand) (hop : o.op = Op.makeSlice 50 l c) (C : Nat)
    (hl : a.eval l = .int .i64 0) (hc : a.eval c = .int .i64 (C : Int)) (hC : C ≤ 10000000)
    (hK : ∀ w', Hs.Row w' w.heap.size (.slice (some ⟨w.heap.size, 0, none⟩) 0 C) [] → Below w.heap.size w w' → wpList Tryz.prog ops Q rest (a.put o.dst (.slice (some ⟨w.heap.size, 0, none⟩) 0 C)) w') : wpList Tryz.prog ops Q (o :: rest) a w := by
  obtain ⟨i0, hi, hz0, hz1, hz2⟩ := info_parts Tx.info8
  have hr := run_make (P := Tryz.prog) w 50 5 i0 (.int .u8 0) Tryz.underlying50 hi hz0 .i64 .i64 0 (C : Int) (by omega) (by omega) (by rw [hz2]; omega) (by omega)
  rw [hz1] at hr
  simp only [Int.toNat_natCast, Int.toNat_zero] at hr
  rw [Rs.made8] at hr
  refine wpList_plain hg fun K hK2 => ?_
  unfold Oper.wp
  simp [execOp, hop, hl, hc, hr, Result.andThen]
  refine hK2 _ _ (hK _ ?_ ((Below.refl _ _).alloc (Nat.le_refl _) _))
  exact ⟨⟨rfl, .inr ⟨w.heap.size, C, _, rfl, Nat.le_refl _, heap_alloc_new _ _, Nat.zero_le _, by unfold maxLen; omega, by simp, by simp⟩⟩, rfl⟩
/-- A row's first bytes. -/
theorem Rs.Row_take {w : World} {g k c n : Nat} {l : List UInt8} (h : Hs.Row w g (.slice (some ⟨g, 0, none⟩) k c) l) (hn : n ≤ l.length) : Hs.Row w g (.slice (some ⟨g, 0, none⟩) n c) (l.take n) := by
  have hk : k = l.length := by
    obtain ⟨c2, hv⟩ := h.len
    simp only [Value.slice.injEq] at hv
    exact hv.2.1
  subst hk
  rcases h.1.2 with ⟨hv, _⟩ | ⟨g2, cap, cur, hv, hb, hg, hnc, hcm, hcs, ht⟩
  · simp at hv
  · simp only [Value.slice.injEq, Option.some.injEq, Addr.mk.injEq] at hv
    obtain ⟨⟨rfl, _, _⟩, _, rfl⟩ := hv
    have hlen : (l.take n).length = n := by rw [List.length_take]; omega
    refine ⟨⟨?_, .inr ⟨g, c, cur, by rw [hlen], hb, hg, by omega, hcm, hcs, ?_⟩⟩, rfl⟩
    · rw [List.length_map, hlen, Nat.mul_one]
    · rw [hlen, Nat.mul_one, List.map_take, ← ht, Nat.mul_one, List.take_take, Nat.min_eq_left hn]
/-- string([]byte{a, b, c, d}). -/
theorem Rs.conv4 (W : World) (i : Nat) (hi : i < 256) : (convert 50 9 (.slice (some ⟨W.heap.size, 0, none⟩) 4 4)).run Tryz.prog (W.alloc (.cells #[.int .u8 0, .int .u8 0, .int .u8 0, .int .u8 (i : Int)] 5)) = .ok (.string (Tx.ba [0, 0, 0, UInt8.ofNat i])) (W.alloc (.cells #[.int .u8 0, .int .u8 0, .int .u8 0, .int .u8 (i : Int)] 5)) := by
  refine Tx.Own.conv (B := W.heap.size) (l := [0, 0, 0, UInt8.ofNat i]) ⟨rfl, .inr ⟨W.heap.size, 4, _, rfl, Nat.le_refl _, heap_alloc_new _ _, Nat.le_refl _, by unfold maxLen; omega, rfl, ?_⟩⟩
  simp [Tx.bv]
  omega
set_option maxHeartbeats 4000000 in
set_option maxRecDepth 100000 in
theorem Rs.mask_any (w : World) (s : ByteArray) (n : Nat) (hs : s.size ≤ 1152921504606840000) (hn : n ≤ 512) :
    Calls Tryz.prog 46 #[.string s, .int .i64 (n : Int)] w fun e w' => e = .returned (.string (Rs.mask s n)) ∧ Below w.heap.size w w' := by
  have hls : s.data.toList.length = s.size := by simp
  obtain ⟨N, hN⟩ : ∃ N, n + 32 = N := ⟨_, rfl⟩
  have hNz : (n : Int) + 32 = (N : Int) := by omega
  have hNb : N ≤ 10000000 := by omega
  have hNbz : (N : Int) ≤ 1000 := by omega
  have hnb : (n : Int) ≤ 512 := by omega
  obtain ⟨L, hL⟩ : ∃ L, s.data.toList = L := ⟨_, rfl⟩
  rw [hL] at hls
  have hLb : L.length ≤ 1152921504606840000 := by omega
  have HS := Lib.hid (And.intro hL (And.intro hls (And.intro hLb hs)))
  clear hN hL hls hLb hs
  go_enter Tryz.func46, Tryz.ntmps46
  go_wp2_with fail
  go_at_call 75
  refine Calls.mono (Hs.New_any 0 (by decide) w) ?_
  rintro e1 w1 ⟨p, rfl, hp, hI, hb⟩
  have H1 := Lib.hid (And.intro hp (And.intro hI hb))
  clear hp hI hb
  go_wp2_with fail
  go_at_call 76
  refine Calls.mono (Hs.Write_any w1 p 0 [] s H1.out.2.1 (by have := HS.out; simp; omega)) ?_
  rintro e2 w2 ⟨rfl, hI, hbut⟩
  rw [List.nil_append, HS.out.1] at hI
  have H2 := Lib.hid (And.intro hI (H1.out.2.2.trans (hbut.toBelow H1.out.1 H1.out.2.2.size)))
  clear hI hbut
  go_wp2_with (at_make; refine Rs.wpList_room rfl _ _ rfl N rfl rfl hNb ?_; intro w3 hrow hb3)
  have H3 := Lib.hid (And.intro hrow (And.intro (H2.out.1.below hb3 H2.out.1.lt) (And.intro (H2.out.2.trans (hb3.mono H2.out.2.size)) (And.intro (Nat.ne_of_gt H2.out.1.lt) H2.out.2.size))))
  clear hrow hb3
  go_loopw [7, 8] (fun v iv wr => ∃ (i g : Nat), i ≤ 17 ∧ iv = .int .i64 (i : Int) ∧ Hs.Row wr g v (Rs.maskL L i) ∧ Hs.Is wr p 0 L ∧ g ≠ p ∧ w.heap.size ≤ g ∧ (0 < i → 32 * (i - 1) < n) ∧ Below w.heap.size w wr) (fun _ iv _ => 17 - (intOf iv).toNat)
  case atStart => exact ⟨0, w2.heap.size, by omega, rfl, H3.out.1, H3.out.2.1, H3.out.2.2.2.1, H3.out.2.2.2.2, fun h => by omega, H3.out.2.2.1⟩
  case round =>
  obtain ⟨i, g, hi, rfl, hrow, hI, hgp, hg, hlow, hB⟩ := hrel
  obtain ⟨w4, rfl⟩ : ∃ w4, w4 = wr := ⟨_, rfl⟩
  obtain ⟨c, rfl⟩ := hrow.len
  have hml := Rs.maskL_len L i
  obtain ⟨M, hM⟩ : ∃ M, (Rs.maskL L i).length = M := ⟨_, rfl⟩
  rw [hM] at hml hrow ⊢
  by_cases hlt : M < n
  · have hltz : (M : Int) < (n : Int) := by omega
    have hi16 : i ≤ 16 := by omega
    have hib : (i : Int) ≤ 16 := by omega
    have hi0 : 0 ≤ (i : Int) := by omega
    have q1 : (i : Int) / 16777216 = 0 := by omega
    have q2 : (i : Int) / 65536 = 0 := by omega
    have q3 : (i : Int) / 256 = 0 := by omega
    have q4 : IntKind.u8.wrap (i : Int) = (i : Int) := by rw [IntKind.wrap_u8]; omega
    have H4 := Lib.hid (And.intro hrow (And.intro hI (And.intro hgp (And.intro hg (And.intro hB (And.intro hM (And.intro hml hlt)))))))
    clear hrow hI hgp hg hB hM hml hlt hlow
    go_wp2_with fail
    go_at_call 77
    refine Calls.mono (Hs.Clone_any w4 p 0 L H4.out.2.1) ?_
    rintro e5 w5 ⟨rfl, hI5, hb5⟩
    have H5 := Lib.hid (And.intro hI5 (And.intro (H4.out.1.below hb5 H4.out.1.lt) (And.intro (H4.out.2.1.below hb5 H4.out.2.1.lt) (And.intro (H4.out.2.2.2.2.1.trans (hb5.mono H4.out.2.2.2.2.1.size)) (And.intro (Nat.ne_of_gt H4.out.1.lt) (Nat.ne_of_gt H4.out.2.1.lt))))))
    clear hI5 hb5
    have hcv := fun W => Rs.conv4 W i (by omega)
    obtain ⟨x, hx⟩ : ∃ x, Tx.ba [0, 0, 0, UInt8.ofNat i] = x := ⟨_, rfl⟩
    rw [hx] at hcv
    have HX := Lib.hid hx
    clear hx
    go_wp2_with fail
    have hb6 : Below w5.heap.size w5 (w5.alloc (Obj.cells #[.int .u8 0, .int .u8 0, .int .u8 0, .int .u8 (i : Int)] 5)) := (Below.refl _ _).alloc (Nat.le_refl _) _
    clear hcv
    revert hb6
    generalize w5.alloc (Obj.cells #[.int .u8 0, .int .u8 0, .int .u8 0, .int .u8 (i : Int)] 5) = w6
    intro hb6
    have H6 := Lib.hid (And.intro (H5.out.1.below hb6 H5.out.1.lt) (And.intro (H5.out.2.1.below hb6 H5.out.2.1.lt) (And.intro (H5.out.2.2.1.below hb6 H5.out.2.2.1.lt) (H5.out.2.2.2.1.trans (hb6.mono H5.out.2.2.2.1.size)))))
    clear hb6
    have hxl : x.data.toList = [0, 0, 0, UInt8.ofNat i] := by rw [← HX.out]; rfl
    have hxs : x.size = 4 := by rw [← HX.out]; rfl
    have HX2 := Lib.hid (And.intro hxl hxs)
    clear hxl hxs
    go_at_call 76
    refine Calls.mono (Hs.Write_any w6 w4.heap.size 0 L x H6.out.1 (by have := HS.out; have := HX2.out.2; omega)) ?_
    rintro e7 w7 ⟨rfl, hI7, hbut⟩
    rw [HX2.out.1] at hI7
    have H7 := Lib.hid (And.intro hI7 (And.intro (H6.out.2.1.but hbut (Ne.symm H5.out.2.2.2.2.1)) (And.intro (H6.out.2.2.1.but hbut (Ne.symm H5.out.2.2.2.2.2)) (H6.out.2.2.2.trans (hbut.toBelow H4.out.2.2.2.2.1.size H6.out.2.2.2.size)))))
    clear hI7 hbut
    obtain ⟨y, hy⟩ : ∃ y, Tx.ba (Hs.sum 0 (L ++ [0, 0, 0, UInt8.ofNat i])) = y := ⟨_, rfl⟩
    have hyl : y.data.toList = Hs.sum 0 (L ++ [0, 0, 0, UInt8.ofNat i]) := by rw [← hy]; rfl
    have hys : y.size = 32 := by rw [← hy]; exact Rs.sum_len _
    have HY := Lib.hid (Hs.Sum_any w7 w4.heap.size 0 (L ++ [0, 0, 0, UInt8.ofNat i]) H7.out.1 (by have := HS.out; simp; omega))
    rw [hy] at HY
    have HY2 := Lib.hid (And.intro hyl hys)
    clear hy hyl hys
    go_wp2_with fail
    go_at_call 78
    refine Calls.mono HY.out ?_
    rintro e8 w8 ⟨rfl, hb8⟩
    have H8 := Lib.hid (And.intro (H7.out.2.1.below hb8 H7.out.2.1.lt) (And.intro (H7.out.2.2.1.below hb8 H7.out.2.2.1.lt) (H7.out.2.2.2.trans (hb8.mono H7.out.2.2.2.size))))
    clear hb8 HY
    go_wp2_with (at_builtin; refine Hs.appendS rfl _ _ rfl _ _ (Rs.maskL L i) rfl H8.out.1 y rfl (by have := H4.out.2.2.2.2.2; have := HY2.out.2; omega) ?_; intro v9 w9 g9 hrow9 hg9 hb9)
    rw [HY2.out.1] at hrow9
    have hI9 := H8.out.2.1.but hb9 (Ne.symm H4.out.2.2.1)
    have hB9 := H8.out.2.2.trans (hb9.toBelow H4.out.2.2.2.1 H8.out.2.2.size)
    have hgp9 : g9 ≠ p := by
      rcases hg9 with rfl | rfl
      · exact H4.out.2.2.1
      · exact Nat.ne_of_gt H8.out.2.1.lt
    have hgw9 : w.heap.size ≤ g9 := by
      rcases hg9 with rfl | rfl
      · exact H4.out.2.2.2.1
      · exact H8.out.2.2.size
    exact ⟨⟨i + 1, g9, by omega, by go_num, hrow9, hI9, hgp9, hgw9, fun _ => by have := H4.out.2.2.2.2.2; rw [Nat.add_sub_cancel]; omega, hB9⟩, by simp [intOf]; omega⟩
  · have hltz : ¬ (M : Int) < (n : Int) := by omega
    have hnM : n ≤ (Rs.maskL L i).length := by omega
    have hcap : M ≤ c := by
      rcases hrow.1.2 with ⟨hv, _⟩ | ⟨g2, cap, cur, hv, _, _, hnc, _⟩
      · simp at hv
      · simp only [Value.slice.injEq] at hv
        omega
    have hcapz : (n : Int) ≤ (c : Int) := by omega
    have hcv := (Rs.Row_take hrow hnM).conv
    obtain ⟨R, hR⟩ : ∃ R, Tx.ba ((Rs.maskL L i).take n) = R := ⟨_, rfl⟩
    have hfin : Rs.mask s n = R := by
      unfold Rs.mask
      rw [HS.out.1, Rs.maskL_take L i n (by omega) 17 hi, hR]
    rw [hR] at hcv
    have HF := Lib.hid (And.intro hfin hB)
    clear hfin hB hR hnM hcap hrow hI hgp hg hlow hml hM hlt
    go_wp2_with fail
    go_ret
    exact ⟨by rw [HF.out.1]; rfl, HF.out.2⟩
set_option maxHeartbeats 1000000 in
theorem Rs.Mask_ok (w : World) (s : ByteArray) (n : Nat) (hs : s.size ≤ 1152921504606840000) (hn : n ≤ 512) :
    Calls Tryz.prog 19 #[.string s, .int .i64 (n : Int)] w fun e w' => e = .returned (.tuple #[.string (Rs.mask s n), .int .i64 0]) ∧ Below w.heap.size w w' := by
  have HC := Lib.hid (Rs.mask_any w s n hs hn)
  have h1 : ¬ (n : Int) < 0 := by omega
  have h2 : ¬ (512 : Int) < (n : Int) := by omega
  clear hs
  go_enter Tryz.func19, Tryz.ntmps19
  go_wp2_with fail
  go_at_call 46
  refine Calls.mono HC.out ?_
  rintro r w1 ⟨rfl, hb⟩
  have H1 := Lib.hid hb
  clear hb
  go_wp2_with fail
  go_ret2
  exact ⟨rfl, H1.out⟩
set_option maxHeartbeats 1000000 in
theorem Rs.Mask_no (w : World) (s : ByteArray) (n : Int) (h : n < 0 ∨ (0 ≤ n ∧ 512 < n)) :
    Calls Tryz.prog 19 #[.string s, .int .i64 n] w fun e w' => e = .returned (.tuple #[.string ⟨#[]⟩, .int .i64 42]) ∧ Below w.heap.size w w' := by
  rcases h with h | ⟨h0, h⟩
  · go_enter Tryz.func19, Tryz.ntmps19
    go_wp2_with fail
    go_ret2
    exact ⟨rfl, Below.refl _ _⟩
  · have h0 : ¬ n < 0 := by omega
    go_enter Tryz.func19, Tryz.ntmps19
    go_wp2_with fail
    go_ret2
    exact ⟨rfl, Below.refl _ _⟩
end Go.Proofs.YtfbliccblippiaaGreatDoor
