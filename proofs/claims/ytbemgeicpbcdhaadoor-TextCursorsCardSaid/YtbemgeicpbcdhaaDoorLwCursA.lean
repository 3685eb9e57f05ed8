/- TextCursors: the walk. -/
import Derived.Test.YtbemgeicpbcdhaaDoorCursM
import Derived.Deep.CutRange
import Derived.Test.YtbemgeicpbcdhaaDoorTcS
import Derived.Deep.RegionHeld3
import Derived.StillTailTactics
import Derived.Deep.CutBlock
namespace Go.Proofs.YtbemgeicpbcdhaaDoor
open Go.ChangeShapes Go.WideShapes Go.ChangeAt Go.RowKit
theorem Tx.three (w : World) (A R Y : Obj) : (((w.alloc A).alloc R).alloc Y).heap[w.heap.size]? = some A ∧ (((w.alloc A).alloc R).alloc Y).heap[w.heap.size + 1]? = some R ∧ (((w.alloc A).alloc R).alloc Y).heap[w.heap.size + 1 + 1]? = some Y ∧ Below w.heap.size w (((w.alloc A).alloc R).alloc Y) := by
  have z1 : (w.alloc A).heap.size = w.heap.size + 1 := by simp
  have z2 : ((w.alloc A).alloc R).heap.size = w.heap.size + 1 + 1 := by simp
  refine ⟨?_, ?_, ?_, (((Below.refl _ _).alloc (Nat.le_refl _) _).alloc (by omega) _).alloc (by omega) _⟩
  · rw [heap_alloc_old _ _ (by omega), heap_alloc_old _ _ (by omega), heap_alloc_new]
  · rw [heap_alloc_old _ _ (by omega), ← z1, heap_alloc_new]
  · rw [← z2, heap_alloc_new]
theorem Tx.tmod_bound (a : Int) (n : Nat) (h : 0 < n) : Int.tmod a (n : Int) < (n : Int) ∧ -(n : Int) < Int.tmod a (n : Int) := by
  by_cases h0 : 0 ≤ a
  · rw [Int.tmod_eq_emod_of_nonneg h0]
    have := Int.emod_nonneg a (b := (n : Int)) (by omega)
    have := Int.emod_lt_of_pos a (b := (n : Int)) (by omega)
    omega
  · have e : Int.tmod a (n : Int) = -(Int.tmod (-a) (n : Int)) := by rw [Int.neg_tmod, Int.neg_neg]
    rw [e, Int.tmod_eq_emod_of_nonneg (by omega)]
    have := Int.emod_nonneg (-a) (b := (n : Int)) (by omega)
    have := Int.emod_lt_of_pos (-a) (b := (n : Int)) (by omega)
    omega
namespace lwCurs
set_option maxHeartbeats 8000000 in
set_option maxRecDepth 100000 in
theorem walk (s : ByteArray) (a : Option Addr) (np cap0 : Nat) (l : List (Int × Int × Int)) (w : World) (h : Tx.Ok w) (hs : s.size ≤ 140737488355328) (hnp : np + 1 ≤ 17592186044416) (hl : Tx.OpsAt w a np l) :
    Calls Tryd.prog 3 #[.string s, .slice a np cap0] w fun e w' => e = .returned (.bool true) ∧ Below w.heap.size w w' := by
  have H0 := Lib.hid h
  have S0 := Tx.Since.start h
  clear h
  have CF := Lib.hid (fun (W : World) (hW : Tx.Ok W) => Tx.fixed_any W hW)
  have CO := Lib.hid (fun W => Tx.Open_any s W)
  go_enter Tryd.func3, Tryd.ntmps3
  go_wp2_with fail
  refine (CO.out w).mono ?_
  rintro e w1 ⟨rfl, cu1, b1⟩
  have S1 := Tx.Since.then b1 S0
  obtain ⟨b, hb⟩ : ∃ b, w.heap.size = b := ⟨_, rfl⟩
  rw [hb] at cu1 ⊢
  have hb0 : w.heap.size ≤ b := by omega
  have hbl := cu1.lt
  clear b1 hb S0
  go_wp2_with fail
  obtain ⟨W2, hW2⟩ : ∃ W2, W2 = ((w1.alloc (.cells #[.pointer (some ⟨b, 0, none⟩)] 23)).alloc (.cells #[.string s, .int .i64 0] 28)).alloc (.cells #[.pointer (some ⟨w1.heap.size + 1, 0, none⟩)] 26) := ⟨_, rfl⟩
  rw [← hW2]
  obtain ⟨t1, t2, t3, bW⟩ := Tx.three w1 (.cells #[.pointer (some ⟨b, 0, none⟩)] 23) (.cells #[.string s, .int .i64 0] 28) (.cells #[.pointer (some ⟨w1.heap.size + 1, 0, none⟩)] 26)
  rw [← hW2] at t1 t2 t3 bW
  have X2 : Tx.OwnX W2 w.heap.size (.slice (some ⟨w1.heap.size, 0, none⟩) 1 1) [⟨b, w1.heap.size + 1, s, 0⟩] :=
    ⟨by simp, .inr ⟨w1.heap.size, 1, #[.pointer (some ⟨b, 0, none⟩)], rfl, S1.size, t1, Nat.le_refl _, by unfold maxLen; omega, by simp, by simp [Tx.ptr]⟩⟩
  have Y2 : Tx.OwnY W2 w.heap.size (.slice (some ⟨w1.heap.size + 1 + 1, 0, none⟩) 1 1) [⟨b, w1.heap.size + 1, s, 0⟩] :=
    ⟨by simp, .inr ⟨w1.heap.size + 1 + 1, 1, #[.pointer (some ⟨w1.heap.size + 1, 0, none⟩)], rfl, by have := S1.size; omega, t3, Nat.le_refl _, by unfold maxLen; omega, by simp, by simp [Tx.ptr]⟩⟩
  have S2 := Tx.Since.then bW S1
  have U2 : Tx.Cus w.heap.size W2 [⟨b, w1.heap.size + 1, s, 0⟩] := by
    refine ⟨fun c hc => ?_, fun c hc d hd => ?_⟩
    · rw [List.mem_singleton.1 hc]
      exact ⟨cu1.below bW hbl, ⟨t2, Nat.zero_le _⟩, hs, hb0, by have := S1.size; simp only; omega⟩
    · rw [List.mem_singleton.1 hc, List.mem_singleton.1 hd]; simp
  clear t1 t2 t3 bW hW2 S1 cu1 hbl hb0
  refine (CF.out W2 S2.ok).mono ?_
  rintro e w3 ⟨rfl, b3⟩
  have S3 := Tx.Since.then b3 S2
  have X3 : Tx.OwnX w3 w.heap.size _ _ := Tx.row_below X2 b3 (Nat.le_refl _)
  have Y3 : Tx.OwnY w3 w.heap.size _ _ := Tx.row_below Y2 b3 (Nat.le_refl _)
  have U3 := U2.below b3
  clear X2 Y2 U2 S2 b3
  go_wp2_with fail
  go_loopw [5, 6, 7] (fun vx vy i wr => ∃ (n : Nat) (cs : List Tx.Cs), n ≤ np ∧ i = .int .i64 (n : Int) ∧ 1 ≤ cs.length ∧ cs.length ≤ n + 1 ∧ Tx.OwnX wr w.heap.size vx cs ∧ Tx.OwnY wr w.heap.size vy cs ∧ Tx.Cus w.heap.size wr cs ∧ Tx.Since w wr) (fun _ _ i _ => np - (intOf i).toNat)
  case atStart => exact ⟨0, _, Nat.zero_le _, rfl, Nat.le_refl _, Nat.le_refl _, X3, Y3, U3, S3⟩
  case round =>
    clear X3 Y3 U3 S3
    obtain ⟨n, cs, hn, rfl, hc1, hc2, hX, hY, hU, hS⟩ := hrel
    obtain ⟨w4, rfl⟩ : ∃ w4, w4 = wr := ⟨_, rfl⟩
    by_cases hlt : n < np
    · have hlz : (n : Int) < (np : Int) := by omega
      obtain ⟨pb, off, rfl, hcells⟩ : ∃ pb off, a = some ⟨pb, off, none⟩ ∧ ∀ W, Tx.Since w W → ∀ (j : Nat) o, l[j]? = some o → W.cell? ⟨pb, off + j * 3, none⟩ = some (.int .i64 o.1) ∧ W.cell? ⟨pb, off + j * 3 + 1, none⟩ = some (.int .i64 o.2.1) ∧ W.cell? ⟨pb, off + j * 3 + 2, none⟩ = some (.int .i64 o.2.2) := by
        rcases hl.out with h0 | h0
        · omega
        · exact h0
      obtain ⟨⟨on, kd, nn⟩, ho⟩ : ∃ o, l[n]? = some o := ⟨_, List.getElem?_eq_getElem (by rw [hl.len]; exact hlt)⟩
      obtain ⟨k0, k1, k2⟩ := hcells w4 hS n _ ho
      simp only at k0 k1 k2
      obtain ⟨N, hN⟩ : ∃ N, cs.length = N := ⟨_, rfl⟩
      rw [hN] at hc1 hc2
      obtain ⟨gx, capx, cx, rfl, hgx, htx⟩ := hX.form N hN hc1
      obtain ⟨gy, capy, cy, rfl, hgy, hty⟩ := hY.form N hN hc1
      obtain ⟨m, hm⟩ : ∃ m, Int.tmod on (N : Int) = m := ⟨_, rfl⟩
      have hmb := Tx.tmod_bound on N (by omega)
      rw [hm] at hmb
      obtain ⟨hm1, hm2⟩ := hmb
      clear hcells hl ho htx hty cx cy
      go_upto_if 54 with fail
      go_cut [9] from 38 to 246 (fun kv wx => ∃ j : Nat, kv = .int .i64 (j : Int) ∧ j < N ∧ wx = w4.alloc (.cells #[.int .i64 on, .int .i64 kd, .int .i64 nn] 32))
      case first =>
        by_cases hneg : m < 0
        · obtain ⟨j, hj⟩ := Int.eq_ofNat_of_zero_le (by omega : 0 ≤ m + (N : Int))
          have e1 : IntKind.i64.wrap (m + (N : Int)) = (j : Int) := by rw [IntWalk.i64_in _ (by omega)]; omega
          go_wp2_with fail
          go_meet
          exact ⟨j, rfl, by omega, rfl⟩
        · obtain ⟨j, rfl⟩ := Int.eq_ofNat_of_zero_le (by omega : 0 ≤ m)
          go_wp2_with fail
          go_meet
          exact ⟨j, rfl, by omega, rfl⟩
      case rest =>
        obtain ⟨j, rfl, hj, rfl⟩ := hcut
        have bA : Below w4.heap.size w4 (w4.alloc (.cells #[.int .i64 on, .int .i64 kd, .int .i64 nn] 32)) := (Below.refl _ _).alloc (Nat.le_refl _) _
        have SIT : Tx.Sit w cs N gx capx gy capy w4.heap.size on kd nn (w4.alloc (.cells #[.int .i64 on, .int .i64 kd, .int .i64 nn] 32)) := ⟨Tx.row_below hX bA (Nat.le_refl _), Tx.row_below hY bA (Nat.le_refl _), hS.then bA, heap_alloc_new _ _⟩
        have U5 := hU.below bA
        obtain ⟨q8, hq8⟩ : ∃ q8, q8 = w4.heap.size := ⟨_, rfl⟩
        rw [← hq8] at SIT ⊢
        clear bA hX hY hS hU k0 k1 k2 hm hm1 hm2 hq8 m
        generalize w4.alloc (.cells #[.int .i64 on, .int .i64 kd, .int .i64 nn] 32) = w5 at *
        have o1 := SIT.o1
        have hjz : (j : Int) < (N : Int) := by omega
        obtain ⟨⟨bx, bz, t, k⟩, hcj⟩ : ∃ c, cs[j]? = some c := ⟨_, List.getElem?_eq_getElem (by omega)⟩
        have HCJ := Lib.hid hcj
        have HMEM := Lib.hid (List.mem_of_getElem? hcj)
        obtain ⟨hx5, hy5, htz, hB1, hB2⟩ := U5.cur _ HMEM.out
        simp only at hx5 hy5 htz hB1 hB2
        have px5 := SIT.px hcj
        have py5 := SIT.py hcj
        simp only at px5 py5
        have hL : k + (t.size - k) = t.size := by have := hx5.2; omega
        have hLen := Lib.hid (And.intro (show 1 ≤ cs.length by omega) (show cs.length ≤ n + 1 by omega))
        have HN := Lib.hid hN
        clear hcj hN
        go_upto_block 2 with fail
        go_cut [5, 6, 10, 11, 12, 13] from 38 to 246 (fun vx vy A Bv E F wx => ∃ (S : ByteArray) (C : Int), A = .string S ∧ Bv = .string S ∧ E = .int .i64 C ∧ F = .int .i64 C ∧ Tx.Left2 w n vx vy wx)
        case first =>
          have hl2 : cs.length + 1 ≤ 17592186044416 := by have := hLen.out.2; omega
          refine Tx.switch _ w w5 cs gx capx gy capy N j q8 bx bz n k on kd nn t H0.out SIT U5 HCJ.out hLen.out.1 hLen.out.2 hl2 hjz hgx hgy ?_
          intros
          rename_i hR
          have HR := Lib.hid hR
          clear hR SIT U5 hx5 hy5 px5 py5 o1
          dsimp only
          go_wp2_with fail
          go_meet
          exact ⟨_, _, rfl, rfl, rfl, rfl, HR.out⟩
        case rest =>
          obtain ⟨S, C, rfl, rfl, rfl, rfl, hleft⟩ := hcut
          obtain ⟨cs2, hd1, hd2, hX2, hY2, hU2, hS2⟩ := hleft.out
          obtain ⟨N2, hN2⟩ : ∃ N2, cs2.length = N2 := ⟨_, rfl⟩
          rw [hN2] at hd1 hd2
          obtain ⟨gx2, capx2, cx2, rfl, hgx2, _⟩ := hX2.form N2 hN2 hd1
          obtain ⟨gy2, capy2, cy2, rfl, hgy2, _⟩ := hY2.form N2 hN2 hd1
          obtain ⟨wm, rfl⟩ : ∃ wm, wm = wc := ⟨_, rfl⟩
          clear hleft o1 px5 py5 SIT U5 HCJ HMEM hx5 hy5 hLen HN
          go_wp2_with fail
          go_loopw [22] (fun i wr => ∃ q : Nat, q ≤ N2 ∧ i = .int .i64 (q : Int) ∧ ∃ r, wr = wm.drewN r) (fun i _ => N2 - (intOf i).toNat)
          case atStart => exact ⟨0, Nat.zero_le _, rfl, 0, rfl⟩
          case round =>
            obtain ⟨q, hq, rfl, r, rfl⟩ := hrel
            by_cases hql : q < N2
            · have hqz : (q : Int) < (N2 : Int) := by omega
              obtain ⟨⟨bx2, bz2, t2, k2⟩, hcq⟩ : ∃ c, cs2[q]? = some c := ⟨_, List.getElem?_eq_getElem (by omega)⟩
              have bD := Tx.drewN_below wm r
              have HWD := Lib.hid (show ∀ x, (wm.drewN r).drewN x = wm.drewN (r + x) from fun x => World.drewN_drewN _ _ _)
              obtain ⟨ha1, ha2, ha3, _, _⟩ := (hU2.below bD).cur _ (List.mem_of_getElem? hcq)
              have X3 : Tx.OwnX (wm.drewN r) w.heap.size _ cs2 := Tx.row_below hX2 bD (Nat.le_refl _)
              have Y3 : Tx.OwnY (wm.drewN r) w.heap.size _ cs2 := Tx.row_below hY2 bD (Nat.le_refl _)
              have p1 := X3.cell hcq
              have p2 := Y3.cell hcq
              clear X3 Y3 bD
              generalize wm.drewN r = wd at *
              simp only at ha1 ha2 ha3 p1 p2
              have r0 := ha2.c0
              have r1 := ha2.c1
              have hk2 := ha1.2
              have C1 := Lib.hid (fun q => Tx.At_q (ha1.drewN q))
              have c2 := (fun q => Tx.Left_any (L := t2.size - k2) (ha1.drewN q) (by omega) (by omega))
              have e1 : ((t2.size - k2 : Nat) : Int) = (t2.size : Int) - (k2 : Int) := by omega
              rw [e1] at c2
              have C2 := Lib.hid c2
              have x1 : IntKind.i64.wrap ((t2.size : Int) - (k2 : Int)) = (t2.size : Int) - (k2 : Int) := IntWalk.i64_in _ (by omega)
              have HW := Lib.hid (And.intro hX2 (And.intro hY2 (And.intro hU2 hS2)))
              clear hX2 hY2 hU2 hS2 hcq ha1 ha2 e1 c2
              go_wp2_with fail
              go_quiet (first | (go_at_call 13; with_reducible exact Calls.quiet_of_same (C1.out _)) | (go_at_call 14; with_reducible exact Calls.quiet_of (C2.out _)))
              go_wp2_with fail
              exact ⟨⟨q + 1, by omega, by go_num, _, HWD.out _⟩, by simp [intOf]; omega⟩
            · obtain rfl : q = N2 := by omega
              go_wp2_with fail
              exact ⟨⟨n + 1, cs2, by omega, by go_num, by omega, by omega, Tx.row_below hX2 (Tx.drewN_below _ _) (Nat.le_refl _), Tx.row_below hY2 (Tx.drewN_below _ _) (Nat.le_refl _), hU2.below (Tx.drewN_below _ _), hS2.drewN _⟩, by simp [intOf]; omega⟩
    · obtain rfl : n = np := by omega
      go_wp2_with fail
      go_ret
      exact ⟨rfl, hS.below⟩
end lwCurs
end Go.Proofs.YtbemgeicpbcdhaaDoor
