/- TextWithin: for every text and every slice of ints it answers true; what came in reads as it did. -/
import Derived.Test.YtejnhhhmjkiehaaDoorWithM
import Derived.Test.YtejnhhhmjkiehaaDoorOpenI
import Derived.Test.YtejnhhhmjkiehaaDoorCards
import Derived.Test.YtejnhhhmjkiehaaDoorTie
import Derived.OpenShut
namespace Go.Proofs.YtejnhhhmjkiehaaDoor
open Go.ChangeShapes Go.WideShapes Go.ChangeAt Go.RowKit
open Go.ChangeMaps (open_string shut_string)
namespace lwWithin

set_option maxHeartbeats 8000000 in
set_option maxRecDepth 100000 in
theorem walk' (s : ByteArray) (a : Option Addr) (np cap0 : Nat) (l : List Int) (w : World) (h : Tx.Ok w) (hs : s.size ≤ 140737488355328) (hnp : np ≤ 9223372036854775807) (hl : Tx.IntsAt w a np l) :
    Calls Tryd.prog 9 #[.string s, .slice a np cap0] w fun e w' => e = .returned (.bool true) ∧ Below w.heap.size w w' := by
  have H0 := Lib.hid h
  have S0 := Tx.Since.start h
  clear h
  have CF := Lib.hid (fun (W : World) (hW : Tx.Ok W) => Tx.fixed_any W hW)
  have CO := Lib.hid (fun W => Tx.Open_any s W)
  go_enter Tryd.func9, Tryd.ntmps9
  go_wp2_with fail
  refine (CO.out w).mono ?_
  rintro e w1 ⟨rfl, cu1, b1⟩
  have S1 := Tx.Since.then b1 S0
  obtain ⟨b, hb⟩ : ∃ b, w.heap.size = b := ⟨_, rfl⟩
  rw [hb] at cu1 ⊢
  have hb0 : w.heap.size ≤ b := by omega
  clear b1 hb S0
  go_wp2_with fail
  refine (CF.out w1 S1.ok).mono ?_
  rintro e w2 ⟨rfl, b2⟩
  have S2 := Tx.Since.then b2 S1
  have cu2 := cu1.below b2 cu1.lt
  have hbB : b < w2.heap.size := cu2.lt
  clear b2 S1 cu1
  have hown0 := Tx.Own.empty w2 w2.heap.size (Nat.le_refl _)
  have sA := S2.alloc (.cells #[] 5)
  have cA := cu2.below ((Below.refl _ _).alloc (Nat.le_refl _) (.cells #[] 5)) cu2.lt
  obtain ⟨B, hB⟩ : ∃ B, w2.heap.size = B := ⟨_, rfl⟩
  have hwB : w.heap.size ≤ B := by rw [← hB]; exact S2.size
  go_wp2_with fail
  go_loopw [6, 7] (fun v i wr => ∃ k n : Nat, k ≤ s.size ∧ n ≤ np ∧ i = .int .i64 n ∧ Tx.Own wr B v (s.data.toList.take k) ∧ Tx.Cur wr b s k ∧ Tx.Since w wr ∧ B ≤ wr.heap.size) (fun _ i _ => np - (intOf i).toNat)
  case atStart => exact ⟨0, 0, Nat.zero_le _, Nat.zero_le _, rfl, by rw [List.take_zero, ← hB]; exact hown0, cA, sA, by rw [← hB]; simp⟩
  case round =>
    rw [hB] at hbB
    clear hown0 sA cA hB S2 cu2
    obtain ⟨k, n, hk, hn, rfl, hown, hcu, hsi, hBz⟩ := hrel
    obtain ⟨w3, rfl⟩ : ∃ w3, w3 = wr := ⟨_, rfl⟩
    by_cases hlt : n < np
    · have hlz : (n : Int) < (np : Int) := by omega
      obtain ⟨pb, off, rfl, hcells⟩ : ∃ pb off, a = some ⟨pb, off, none⟩ ∧ ∀ W, Tx.Since w W → ∀ j, j < np → W.cell? ⟨pb, off + j, none⟩ = some (.int .i64 (l.getD j 0)) := by
        rcases hl.out with h0 | h0
        · omega
        · exact h0
      obtain ⟨x, hx⟩ : ∃ x, l.getD n 0 = x := ⟨_, rfl⟩
      have hcell : Hid (∀ W, Tx.Since w W → W.cell? ⟨pb, off + n, none⟩ = some (.int .i64 x)) := Lib.hid fun W S => by rw [hcells W S n hlt, hx]
      have hxw := hcells
      obtain ⟨L, hL⟩ : ∃ L, k + L = s.size := ⟨s.size - k, by omega⟩
      have CL := Lib.hid (Tx.Left_any hcu (by omega) hL)
      have cell3 := hcell.out w3 hsi
      clear hcells hx hxw hl
      go_wp2_with fail
      refine CL.out.mono ?_
      rintro e w4 ⟨rfl, q4, rfl⟩
      have S4 := hsi.drewN q4
      have cu4 := hcu.drewN q4
      have own4 := hown.drewN q4
      have hBz4 : B ≤ (w3.drewN q4).heap.size := by rw [Tx.drewN_size]; exact hBz
      have cell4 := hcell.out _ S4
      clear CL cell3 hsi hcu hown hBz
      generalize w3.drewN q4 = w4 at *
      by_cases hneg : x < 0
      · have CW := Lib.hid (Tx.Within_no (Tx.take_neg cu4 x hneg) S4.ok.1)
        go_wp2_with fail
        refine CW.out.mono ?_
        rintro e w5 ⟨rfl, b5⟩
        have S5 := Tx.Since.then b5 S4
        have cu5 := cu4.below b5 cu4.lt
        have own5 := own4.below b5 (Nat.le_refl _)
        have hBz5 := Nat.le_trans hBz4 b5.size
        have cell5 := hcell.out _ S5
        have CL := Lib.hid (Tx.Left_any cu5 (by omega) hL)
        clear CW b5 S4 cu4 own4 hBz4 cell4
        go_wp2_with fail
        refine CL.out.mono ?_
        rintro e w6 ⟨rfl, q6, rfl⟩
        go_wp2_with fail
        exact ⟨⟨k, n + 1, hk, by omega, by go_num, own5.drewN _, cu5.drewN _, S5.drewN _, by rw [Tx.drewN_size]; exact hBz5⟩, by simp [intOf]; omega⟩
      · by_cases hgt : (L : Int) < x
        · have CW := Lib.hid (Tx.Within_no (Tx.take_end cu4 (by omega) hL x (by omega) hgt) S4.ok.1)
          go_wp2_with fail
          refine CW.out.mono ?_
          rintro e w5 ⟨rfl, b5⟩
          have S5 := Tx.Since.then b5 S4
          have cu5 := cu4.below b5 cu4.lt
          have own5 := own4.below b5 (Nat.le_refl _)
          have hBz5 := Nat.le_trans hBz4 b5.size
          have cell5 := hcell.out _ S5
          have CL := Lib.hid (Tx.Left_any cu5 (by omega) hL)
          clear CW b5 S4 cu4 own4 hBz4 cell4
          go_wp2_with fail
          refine CL.out.mono ?_
          rintro e w6 ⟨rfl, q6, rfl⟩
          go_wp2_with fail
          exact ⟨⟨k, n + 1, hk, by omega, by go_num, own5.drewN _, cu5.drewN _, S5.drewN _, by rw [Tx.drewN_size]; exact hBz5⟩, by simp [intOf]; omega⟩
        · obtain ⟨m, rfl⟩ := Int.eq_ofNat_of_zero_le (by omega : 0 ≤ x)
          have hm : m ≤ L := by omega
          have CW := Lib.hid (Tx.Within_ok cu4 (by omega) hL m hm)
          go_wp2_with fail
          refine CW.out.mono ?_
          rintro e w5 ⟨d, rfl, hd, cud, cub, g5⟩
          have hps := Tx.ext_size s k m (by omega)
          have HPT := Lib.hid (Tx.take_ext s k m)
          have own5 := own4.grown g5 hbB
          have ne5 := own4.ne hd
          have S5 := Tx.Since.grown g5 hb0 H0.out S4
          have hBz5 := Nat.le_trans hBz4 g5.size
          have hBd : B ≤ d := Nat.le_trans hBz4 hd
          have hbd : b ≠ d := by omega
          have cell5 := hcell.out _ S5
          obtain ⟨p, hp⟩ : ∃ p, s.extract k (k + m) = p := ⟨_, rfl⟩
          have HPG := Lib.hid (fun j hj => Tx.ext_get s k m j hj)
          rw [hp] at hps HPT HPG cud
          have e1 : ((L - m : Nat) : Int) = (L : Int) - (m : Int) := by omega
          have C1 := Lib.hid (fun q => Tx.Left_any (L := m) (cud.drewN q) (by omega) (by omega))
          have c2 := (fun q => Tx.Left_any (L := L - m) (cub.drewN q) (by omega) (by omega))
          rw [e1] at c2
          have C2 := Lib.hid c2
          have x1 : IntKind.i64.wrap ((L : Int) - (m : Int)) = (L : Int) - (m : Int) := IntWalk.i64_in _ (by omega)
          have x2 : IntKind.i64.wrap ((m : Int) + 1) = (m : Int) + 1 := IntWalk.i64_in _ (by omega)
          clear CW S4 cu4 own4 hBz4 cell4 g5 hd hp e1 c2 hneg
          have h0 : ¬ (m : Int) < 0 := by omega
          go_wp2_with fail
          go_quiet (first | (go_at_call 37; with_reducible exact Calls.quiet_of (C1.out _)) | (go_at_call 37; with_reducible exact Calls.quiet_of (C2.out _)))
          have S6 := S5.drewN nq
          have cud6 := cud.drewN nq
          have cub6 := cub.drewN nq
          have own6 := own5.drewN nq
          have hBz6 : B ≤ (w5.drewN nq).heap.size := by rw [Tx.drewN_size]; exact hBz5
          have cell6 := hcell.out _ S6
          clear C1 C2 x1 S5 cud cub own5 hBz5 cell5
          generalize w5.drewN nq = w6 at *
          have CT := Lib.hid (Tx.Take_no (Tx.take_end (L := m) cud6 (by omega) (by omega) ((m : Int) + 1) (by omega) (by omega)) S6.ok.1)
          go_wp2_with fail
          refine CT.out.mono ?_
          rintro e w7 ⟨rfl, b7⟩
          have S7 := Tx.Since.then b7 S6
          have cud7 := cud6.below b7 cud6.lt
          have cub7 := cub6.below b7 cub6.lt
          have own7 := own6.below b7 (Nat.le_refl _)
          have hBz7 := Nat.le_trans hBz6 b7.size
          clear CT S6 cud6 cub6 own6 hBz6 cell6 b7 x2
          go_wp2_with fail
          go_loopw [6] (fun v wy => ∃ q : Nat, q ≤ m ∧ Tx.Own wy B v (s.data.toList.take (k + q)) ∧ v.ownBlock ≠ some d ∧ Tx.Cur wy d p q ∧ Tx.Cur wy b s (k + m) ∧ Tx.Since w wy ∧ B ≤ wy.heap.size) (fun v _ => k + m - Tx.lenV v)
          case atStart => exact ⟨0, Nat.zero_le _, own7, ne5, cud7, cub7, S7, hBz7⟩
          case round =>
            clear S7 cud7 cub7 own7 hBz7 ne5
            obtain ⟨q, hq, hown, hne, cud, cub, hsi, hBz⟩ := hrel
            obtain ⟨w8, rfl⟩ : ∃ w8, w8 = wr := ⟨_, rfl⟩
            have cell8 := hcell.out _ hsi
            have C1 := Lib.hid (fun q => Tx.At_q (cud.drewN q))
            have hlen : Tx.lenV u6 = k + q := by
              obtain ⟨g, cap, hv⟩ := hown.size
              rw [hv]; show (s.data.toList.take (k + q)).length = _
              rw [List.length_take, Tx.len]; omega
            have HLen := Lib.hid hlen
            clear hlen
            by_cases hql : q < m
            · have hqz : (q : Int) < (m : Int) := by omega
              go_wp2_with fail
              go_quiet ((go_at_call 36; exact Calls.quiet_of_same (C1.out _)))
              have S9 := hsi.drewN nq
              have cud9 := cud.drewN nq
              have cub9 := cub.drewN nq
              have own9 := hown.drewN nq
              have hBz9 : B ≤ (w8.drewN nq).heap.size := by rw [Tx.drewN_size]; exact hBz
              clear C1 hsi cud cub hown hBz cell8
              generalize w8.drewN nq = w9 at *
              have CB := Lib.hid (Tx.Byte_ok cud9 (by omega) (by omega))
              obtain ⟨c, hc⟩ : ∃ c, p[q]'(by omega) = c := ⟨_, rfl⟩
              rw [hc] at CB
              have hg := HPG.out q hql
              rw [List.getElem?_eq_getElem (by rw [Tx.len]; omega)] at hg
              have hgc : s.data.toList[k + q]? = some c := hg.symm.trans (congrArg some hc)
              have HGC := Lib.hid hgc
              clear hg hgc hc
              go_wp2_with fail
              refine CB.out.mono ?_
              rintro e w10 ⟨rfl, cud10, g10⟩
              have own10 := own9.grownX g10 hne
              have cub10 := cub9.grown g10 (by simpa using hbd)
              have S10 := Tx.Since.grown g10 (Nat.le_trans hwB hBd) H0.out S9
              have hBz10 := Nat.le_trans hBz9 g10.size
              have HL : (s.data.toList.take (k + q)).length + [c].length ≤ 140737488355328 := by rw [List.length_take, Tx.len, List.length_singleton]; omega
              have hdl := cud10.lt
              clear CB S9 cud9 cub9 own9 hBz9 g10
              go_wp2_with (at_builtin; refine Tx.appendX rfl _ _ rfl B d _ _ rfl (Tx.Own.alloc own10 _) hne (by simp; omega) ⟨_, 0, none⟩ 1 [c] rfl (World.news_of_block (heap_alloc_new _ _)) (by simp) HL (by simp; omega) ?_; intro v11 w11 own11 ne11 g11 b11 z11)
              have bA : Below w10.heap.size w10 (w10.alloc (.cells #[.int .u8 (c.toNat : Int)] 5)) := (Below.refl _ _).alloc (Nat.le_refl _) _
              have cudA := (cud10.below bA cud10.lt).grown g11 (fun e => hne e.symm)
              have b12 : Below B w10 w11 := ((Below.refl _ _).alloc hBz10 _).trans b11
              have cub12 := cub10.below b12 hbB
              have S12 := Tx.Since.above b12 hwB z11 H0.out S10
              have hsn : s.data.toList.take (k + q) ++ [c] = s.data.toList.take (k + (q + 1)) := by
                rw [show k + (q + 1) = k + q + 1 by omega, List.take_add_one, HGC.out]; rfl
              rw [hsn] at own11
              have hl2 : Tx.lenV v11 = k + (q + 1) := by
                obtain ⟨g, cap, hv⟩ := own11.size
                rw [hv]; show (s.data.toList.take (k + (q + 1))).length = _
                rw [List.length_take, Tx.len]; omega
              refine ⟨⟨q + 1, by omega, own11, ne11, cudA, cub12, S12, z11⟩, ?_⟩
              rw [hl2, HLen.out]; omega
            · obtain rfl : q = m := by omega
              go_wp2_with fail
              go_quiet ((go_at_call 36; exact Calls.quiet_of_same (C1.out _)))
              have S9 := hsi.drewN nq
              have cud9 := cud.drewN nq
              have cub9 := cub.drewN nq
              have own9 := hown.drewN nq
              have hBz9 : B ≤ (w8.drewN nq).heap.size := by rw [Tx.drewN_size]; exact hBz
              clear C1 hsi cud cub hown hBz cell8
              generalize w8.drewN nq = w9 at *
              have CB := Lib.hid (Tx.Byte_no (Tx.take_end (L := 0) cud9 (by omega) (by omega) 1 (by omega) (by omega)) S9.ok.1)
              go_wp2_with fail
              refine CB.out.mono ?_
              rintro e w10 ⟨rfl, b10⟩
              have S10 := Tx.Since.then b10 S9
              have cud10 := cud9.below b10 cud9.lt
              have cub10 := cub9.below b10 cub9.lt
              have own10 := own9.below b10 (Nat.le_refl _)
              have hBz10 := Nat.le_trans hBz9 b10.size
              have cell10 := hcell.out _ S10
              have C1 := Lib.hid (fun q => Tx.At_q (cud10.drewN q))
              clear CB S9 cud9 cub9 own9 hBz9 b10
              go_wp2_with fail
              go_quiet ((go_at_call 36; exact Calls.quiet_of_same (C1.out _)))
              go_wp2_with fail
              exact ⟨⟨k + q, n + 1, by omega, by omega, by go_num, own10.drewN _, cub10.drewN _, S10.drewN _, by rw [Tx.drewN_size]; exact hBz10⟩, by simp [intOf]; omega⟩
    · obtain rfl : n = np := by omega
      obtain ⟨L, hL⟩ : ∃ L, k + L = s.size := ⟨s.size - k, by omega⟩
      have C2 := Lib.hid (Tx.Left_any hcu (by omega) hL)
      go_wp2_with fail
      refine C2.out.mono ?_
      rintro e w5 ⟨rfl, q5, rfl⟩
      have S5 := hsi.drewN q5
      have cu5 := hcu.drewN q5
      have own5 := hown.drewN q5
      have C3 := Lib.hid (Tx.Take_ok cu5 (by omega) hL L (Nat.le_refl _))
      clear C2 hsi hcu hown
      go_wp2_with fail
      refine C3.out.mono ?_
      rintro e w6 ⟨rfl, cu6, g6⟩
      have own6 := own5.grown g6 hbB
      have S6 := Tx.Since.grown g6 hb0 H0.out S5
      have hcv := own6.conv
      have hfin : Tx.ba (s.data.toList.take k) ++ s.extract k (k + L) = s := by
        apply Tx.ba_ext
        rw [Tx.data_append, show (Tx.ba (s.data.toList.take k)).data.toList = s.data.toList.take k from rfl, Tx.take_ext, hL, Tx.take_all]
      have n1 := Tx.ba_size (s.data.toList.take k)
      have n2 := Tx.ext_size s k L (by omega)
      have n3 : (s.data.toList.take k).length = k := by rw [List.length_take, Tx.len]; omega
      rw [n3] at n1
      have C4 := Lib.hid (Tx.Left_any (L := 0) cu6 (by omega) (by omega))
      clear C3 own5 own6 g6 cu5 cu6 S5 n3
      generalize Tx.ba (s.data.toList.take k) = p1 at *
      generalize s.extract k (k + L) = p2 at *
      go_wp2_with fail
      refine C4.out.mono ?_
      rintro e w7 ⟨rfl, q7, rfl⟩
      go_wp2
      go_ret
      exact ⟨rfl, (S6.drewN q7).below⟩
theorem walk (s : ByteArray) (v : Value) (l : List Int) (w : World) (h : Tx.Ok w) (hs : s.size ≤ 140737488355328) (hv : Tx.Ints w w.heap.size v l) :
    Calls Tryd.prog 9 #[.string s, v] w fun e w' => e = .returned (.bool true) ∧ Below w.heap.size w w' := by
  have hl : l.length ≤ 9223372036854775807 := by
    rcases hv with ⟨_, rfl⟩ | ⟨b, off, cap, _, h2, h2', _⟩
    · simp
    · omega
  obtain ⟨a, c, rfl, ha⟩ := hv.at
  exact walk' s a l.length c l w h hs hl ha
theorem reads (os : Os) {H : Type} (enc : TypeId × Value → H) : ∃ places, DataW.whole enc Tryd.prog ((Tx.laidWorld os).forCall (fun _ _ => 0) ⟨#[], #[.string ⟨#[]⟩, .slice none 0 0], []⟩).memory Tryd.f9.params.toList Rows.textWithinSpec.vars false (#[.string ⟨#[]⟩, .slice none 0 0] : Array Value).toList 8 = some ([.lit (.string []), .nil], [], places) :=
  ⟨[], by kernel_rfl⟩
set_option maxHeartbeats 4000000 in
set_option maxRecDepth 100000 in
theorem lifted (os : Os) (started : os.Started) (H : Type) (enc : TypeId × Value → H) (F : Stop.Interp) :
    ReturnsInHanded {} Tryd.checked os 9 .any ((OpenSpec.ofChange Rows.textWithinSpec).preRow enc Tryd.prog Tryd.f9 Rows.textWithinRow.domain false Rows.textWithinRow.laid) (((OpenSpec.ofChange Rows.textWithinSpec).at F).post enc Tryd.prog Tryd.f9 false true false false) := by
  obtain ⟨places, hx⟩ := reads os enc
  refine returnsInHanded_of_row (C := Tryd.checked) (s := (OpenSpec.ofChange Rows.textWithinSpec)) Tx.own started (by kernel_rfl) Tryd.func9
    (witness_row_atRef (enc := enc) (C := Tryd.checked) false (Tx.laidWorld os) #[.string ⟨#[]⟩, .slice none 0 0] rfl (by kernel_rfl) (by kernel_rfl) (by kernel_rfl)
      (OpenSpec.preRow_of_cond 8 hx (by kernel_rfl) (fun k hk => by cases hk) (by kernel_rfl) (Tx.laid_met os _))) ?_
  intro W base args ds gs before hval0 hW _ hk hsz hL _ _
  have hval : ∀ (j : Nat) t v, Tryd.f9.params[j]? = some t → args[j]? = some v → Value.okWide Tryd.prog W .any base t v := hval0
  have hW' := hW
  obtain ⟨p, q, hA0, hV0, rfl, _, _⟩ := hW
  have hA : DataW.TrodAll enc Tryd.prog W 0 (fun _ => true) true Tryd.f9.params.toList args.toList ds p := hA0
  rw [Tryd.params9] at hA hval
  obtain ⟨v0, vs0, d0, ds0, p0, q0, hargs, rfl, rfl, h0, r0⟩ := trodAll_cons hA
  obtain ⟨v1, vs1, d1, ds1, p1, q1, rfl, rfl, rfl, h1, r1⟩ := trodAll_cons r0
  obtain ⟨rfl, rfl, rfl⟩ := trodAll_nil r1
  obtain rfl : args = #[v0, v1] := by cases args; simp_all
  obtain ⟨rfl, rfl⟩ := trodVars_none hV0
  obtain ⟨a, rfl, rfl, rfl, wa⟩ := open_string Tryd.underlying9 (hval 0 9 v0 rfl rfl) h0
  have za : a.size ≤ 140737488355328 := by
    have := sized_string hsz (j := 0) (by rw [Tryd.params9]; rfl) rfl
    rw [Tx.len] at this; unfold reachBytes at this; omega
  obtain ⟨lb, ib, nb, backb⟩ := Tx.open_ints (hval 1 29 v1 rfl rfl) h1
  clear hA0 hV0 hval0
  refine (walk a v1 lb W (Tx.ok_of_laid hL) za ib).mono ?_
  rintro e W' ⟨rfl, bel⟩
  have e1 : ((OpenSpec.ofChange Rows.textWithinSpec).at F).fn H ([.lit (.string a.data.toList), d1] ++ []) = { results := [.lit (.bool true)], args := [.lit (.string a.data.toList), d1] } := rfl
  refine ⟨_, rfl, _, _, _, [], [] ++ (p1 ++ ([])), [], hW', ?_, ?_, ?_, bel.frame _, fun h => by cases h⟩
  · rw [e1]; exact trodAll_cons_mk (shut_bool Tryd.underlying4 _) trodAll_mk0
  · rw [e1]; exact trodAll_cons_mk (shut_string Tryd.underlying9 wa) (trodAll_cons_mk (backb _ _ bel (fun _ hx => decide_eq_true hx)) trodAll_mk0)
  · rw [e1]; rfl

theorem said : Rows.TextWithinSaid :=
  OpenClaim.holds_of_cond 9 Tryd.f9 rfl rfl rfl rfl rfl rfl rfl ⟨rfl, rfl, rfl, rfl, rfl⟩ rfl rfl rfl rfl rfl (by kernel_rfl) Tryd.func9 (by kernel_rfl)
    (of_decide_eq_true (by kernel_rfl)) (by unfold Func.isWrapper; rw [if_neg (of_decide_eq_false (by kernel_rfl))]; exact ⟨rfl, rfl⟩)
    (fun os started H enc _ F => by rw [OpenClaim.pre_eq_preRow]; exact lifted os started H enc F)

/-- No parameter wants a stand-in; the program's own looks are off. -/
theorem plain (f : FuncId) (fn : Func) (hf : Tryd.pinned.checked.prog.funcNamed "ostiary/ostiarylaw01.TextWithin" = some f) (hfn : Tryd.pinned.checked.prog.funcs[f]? = some fn) :
    true = Tryd.pinned.checked.prog.looks [] ∧ ∀ (j : Nat) t, fn.params[j]? = some t → Tryd.pinned.checked.prog.wantsStandIn t = false := by
  obtain rfl : f = 9 := Option.some.inj ((show Tryd.prog.funcNamed "ostiary/ostiarylaw01.TextWithin" = some 9 by kernel_rfl).symm.trans hf) |>.symm
  obtain rfl : fn = Tryd.f9 := (Option.some.inj (Tryd.func9.symm.trans hfn)).symm
  refine ⟨by kernel_rfl, fun j t ht => ?_⟩
  rw [Tryd.params9] at ht
  have hm := Array.mem_of_getElem? ht
  simp only [List.mem_toArray, List.mem_cons, List.mem_nil_iff, or_false] at hm
  rcases hm with rfl | rfl
  · exact (show Tryd.prog.wantsStandIn 9 = false by kernel_rfl)
  · exact (show Tryd.prog.wantsStandIn 29 = false by kernel_rfl)

theorem card : Rows.TextWithinCardSaid :=
  Claim7.holds_tied_plain_at .later [] _ _ _ _ said (fun _ h => by cases h) (by kernel_rfl) (fun _ h => by cases h) textWithin_row_tie rfl ⟨rfl, rfl⟩ (by kernel_rfl) rfl plain (by kernel_rfl)

end lwWithin
end Go.Proofs.YtejnhhhmjkiehaaDoor
