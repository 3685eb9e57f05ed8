/- TextParts: for every text and every byte it answers true; what came in reads as it did. -/
import Derived.Test.YtejnhhhmjkiehaaDoorPartsM
import Derived.Test.YtejnhhhmjkiehaaDoorCurF
import Derived.Test.YtejnhhhmjkiehaaDoorCards
import Derived.Test.YtejnhhhmjkiehaaDoorTie
import Derived.OpenShut
namespace Go.Proofs.YtejnhhhmjkiehaaDoor
open Go.ChangeShapes Go.WideShapes Go.ChangeAt Go.RowKit
open Go.ChangeMaps (open_string shut_string)
namespace lwParts

set_option maxHeartbeats 8000000 in
set_option maxRecDepth 100000 in
theorem walk (s : ByteArray) (c : UInt8) (w : World) (h : Tx.Ok w) (hs : s.size ≤ 140737488355328) :
    Calls Tryd.prog 11 #[.string s, .int .u8 (c.toNat : Int)] w fun e w' => e = .returned (.bool true) ∧ Below w.heap.size w w' := by
  have H0 := Lib.hid h
  have S0 := Tx.Since.start h
  clear h
  have CF := Lib.hid (fun (W : World) (hW : Tx.Ok W) => Tx.fixed_any W hW)
  have CO := Lib.hid (fun W => Tx.Open_any s W)
  go_enter Tryd.func11, Tryd.ntmps11
  go_wp2_with fail
  refine (CO.out w).mono ?_
  rintro e w1 ⟨rfl, cu1, b1⟩
  have S1 := Tx.Since.then b1 S0
  obtain ⟨b, hb⟩ : ∃ b, w.heap.size = b := ⟨_, rfl⟩
  rw [hb] at cu1 ⊢
  have hb0 : w.heap.size ≤ b := by omega
  clear b1 hb S0
  go_wp2_with fail
  refine (CF.out w1 S1.ok).mono ?_
  rintro e w2 ⟨rfl, b2⟩
  have S2 := Tx.Since.then b2 S1
  have cu2 := cu1.below b2 cu1.lt
  have hbB : b < w2.heap.size := cu2.lt
  clear b2 S1 cu1
  go_wp2_with fail
  go_loop [6, 7] (fun m i => ∃ k : Nat, k ≤ s.size ∧ i = .int .i64 k ∧ m = .int .i64 ((s.data.toList.take k).count c : Nat)) (fun _ i => s.size - (intOf i).toNat)
  case atStart => exact ⟨0, Nat.zero_le _, rfl, by simp⟩
  case round =>
    obtain ⟨k, hk, rfl, rfl⟩ := hrel
    by_cases hlt : k < s.size
    · have hlz : (k : Int) < (s.size : Int) := by omega
      obtain ⟨x, hx⟩ : ∃ x, s[k] = x := ⟨_, rfl⟩
      have hgk : s.data.toList[k]? = some x := by rw [List.getElem?_eq_getElem (by rw [Tx.len]; exact hlt)]; exact congrArg some hx
      have hcs := Tx.count_snoc s.data.toList c x k hgk
      have hle : (s.data.toList.take k).count c ≤ k := Nat.le_trans List.count_le_length (List.length_take_le _ _)
      have HCS := Lib.hid hcs
      clear hgk hcs
      generalize (s.data.toList.take k).count c = m at *
      by_cases hxc : x = c
      · have t : ((x.toNat : Int) == (c.toNat : Int)) = true := by rw [hxc]; simp
        have e1 := HCS.out
        rw [if_pos hxc] at e1
        have E1 := Lib.hid e1
        clear e1 HCS hxc
        go_wp2_with fail
        exact ⟨⟨k + 1, by omega, by go_num, by rw [E1.out]; go_num⟩, by simp [intOf]; omega⟩
      · have t : ((x.toNat : Int) == (c.toNat : Int)) = false := by
          rw [beq_eq_false_iff_ne]; intro h; exact hxc (UInt8.toNat_inj.1 (by omega))
        have e1 := HCS.out
        rw [if_neg hxc] at e1
        have E1 := Lib.hid e1
        clear e1 HCS hxc
        go_wp2_with fail
        exact ⟨⟨k + 1, by omega, by go_num, by rw [E1.out]; go_num⟩, by simp [intOf]; omega⟩
    · obtain rfl : k = s.size := by omega
      rw [Tx.take_all]
      obtain ⟨M, hM⟩ : ∃ M, s.data.toList.count c = M := ⟨_, rfl⟩
      have hMs : M ≤ s.size := by rw [← hM, ← Tx.len]; exact List.count_le_length
      rw [hM]
      have HM := Lib.hid hM
      clear hM hlt hk
      have hown0 := Tx.Own.empty w2 w2.heap.size (Nat.le_refl _)
      have sA := S2.alloc (.cells #[] 5)
      have cA := cu2.below ((Below.refl _ _).alloc (Nat.le_refl _) (.cells #[] 5)) cu2.lt
      obtain ⟨B, hB⟩ : ∃ B, w2.heap.size = B := ⟨_, rfl⟩
      have hwB : w.heap.size ≤ B := by rw [← hB]; exact S2.size
      go_wp2_with fail
      go_loopw [8, 9] (fun v i wr => ∃ k n : Nat, k ≤ s.size ∧ n ≤ M ∧ i = .int .i64 n ∧ Hid ((s.data.toList.take k).count c = n) ∧ Tx.Own wr B v (s.data.toList.take k) ∧ Tx.Cur wr b s k ∧ Tx.Since w wr ∧ B ≤ wr.heap.size) (fun _ i _ => M - (intOf i).toNat)
      case atStart => exact ⟨0, 0, Nat.zero_le _, Nat.zero_le _, rfl, Lib.hid (by simp), by rw [List.take_zero, ← hB]; exact hown0, cA, sA, by rw [← hB]; simp⟩
      case round =>
        rw [hB] at hbB
        clear hown0 sA cA hB S2 cu2
        obtain ⟨k, n, hk, hn, rfl, hcnt, hown, hcu, hsi, hBz⟩ := hrel
        obtain ⟨w3, rfl⟩ : ∃ w3, w3 = wr := ⟨_, rfl⟩
        by_cases hlt : n < M
        · have hlz : (n : Int) < (M : Int) := by omega
          obtain ⟨o, ho, hix, hne, heq, hc2⟩ := Tx.part_next s.data.toList c k (by rw [hcnt.out, HM.out]; exact hlt)
          rw [Tx.len] at ho
          have CU := Lib.hid (Tx.Until_ok hcu (by omega) c o ho hix)
          have HC2 := Lib.hid (hc2.trans (congrArg (· + 1) hcnt.out))
          have hps := Tx.ext_size s k o (by omega)
          have HPT := Lib.hid (Tx.take_ext s k o)
          have HPG := Lib.hid (fun j hj => Tx.ext_get s k o j hj)
          have HNE := Lib.hid hne
          have HEQ := Lib.hid heq
          obtain ⟨p, hp⟩ : ∃ p, s.extract k (k + o) = p := ⟨_, rfl⟩
          rw [hp] at hps HPT HPG CU
          subst hps
          clear hix hne heq hc2 hp hcnt
          go_wp2_with fail
          refine CU.out.mono ?_
          rintro e w4 ⟨rfl, cu4, g4⟩
          have own4 := hown.grown g4 hbB
          have S4 := Tx.Since.grown g4 hb0 H0.out hsi
          have hBz4 := Nat.le_trans hBz g4.size
          clear CU g4 hown hcu hsi
          go_wp2_with fail
          go_loop [12] (fun i => ∃ q : Nat, q ≤ p.size ∧ i = .int .i64 q) (fun i => p.size - (intOf i).toNat)
          case atStart => exact ⟨0, Nat.zero_le _, rfl⟩
          case round =>
            obtain ⟨q, hq, rfl⟩ := hrel
            by_cases hql : q < p.size
            · have hqz : (q : Int) < (p.size : Int) := by omega
              obtain ⟨x, hx⟩ : ∃ x, p[q] = x := ⟨_, rfl⟩
              have hxc : x ≠ c := by
                intro he
                have h1 := HNE.out q hql
                rw [← HPG.out q hql, List.getElem?_eq_getElem (by rw [Tx.len]; exact hql)] at h1
                exact h1 (congrArg some (hx.trans he))
              have t : ((x.toNat : Int) == (c.toNat : Int)) = false := by
                rw [beq_eq_false_iff_ne]; intro h; exact hxc (UInt8.toNat_inj.1 (by omega))
              clear hxc
              go_wp2_with fail
              exact ⟨⟨q + 1, by omega, by go_num⟩, by simp [intOf]; omega⟩
            · obtain rfl : q = p.size := by omega
              have hkl : (s.data.toList.take k).length = k := by rw [List.length_take, Tx.len]; omega
              have HL1 : (s.data.toList.take k).length + p.size ≤ 140737488355328 := by omega
              have HL2 : (s.data.toList.take k ++ p.data.toList).length + [c].length ≤ 140737488355328 := by rw [List.length_append, hkl, Tx.len, List.length_singleton]; omega
              clear hkl
              go_wp2_with (first | (at_builtin; refine Tx.appendS rfl _ _ rfl B _ _ rfl own4 p rfl HL1 hBz4 ?_; intro v5 w5 own5 b5 z5) | (at_builtin; refine Tx.append rfl _ _ rfl B _ _ rfl (Tx.Own.alloc own5 _) ⟨_, 0, none⟩ 1 [c] rfl (World.news_of_block (heap_alloc_new _ _)) HL2 (by simp; omega) ?_; intro v6 w6 own6 b6 z6))
              have hls : s.data.toList.take k ++ p.data.toList ++ [c] = s.data.toList.take (k + (p.size + 1)) := by
                rw [HPT.out, show k + (p.size + 1) = k + p.size + 1 by omega, List.take_add_one, HEQ.out]; rfl
              rw [hls] at own6
              have b7 : Below B w4 w6 := ((b5.alloc z5 _).trans b6)
              have cu6 := cu4.below b7 hbB
              have S6 := Tx.Since.above b7 hwB z6 H0.out S4
              obtain ⟨g, cap, rfl⟩ := own6.size
              have hl6 : (s.data.toList.take (k + (p.size + 1))).length = k + (p.size + 1) := by rw [List.length_take, Tx.len]; omega
              rw [hl6] at own6 ⊢
              have O6 := Lib.hid own6
              have C1 := Lib.hid (Tx.At_any cu6)
              have C2 := Lib.hid (Tx.Left_any (L := s.size - (k + (p.size + 1))) cu6 (by omega) (by omega))
              have e1 : ((s.size - (k + (p.size + 1)) : Nat) : Int) = (s.size : Int) - ((k + (p.size + 1) : Nat) : Int) := by omega
              have hK : k + (p.size + 1) ≤ s.size := by omega
              clear own4 own5 own6 b5 b6 b7 hls hl6 HL1 HL2
              obtain ⟨K, hKK⟩ : ∃ K, k + (p.size + 1) = K := ⟨_, rfl⟩
              rw [hKK] at C1 C2 e1 hK O6 cu6 HC2 ⊢
              rw [e1] at C2
              clear e1
              go_wp2_with fail
              refine C1.out.mono ?_
              rintro e w7 ⟨rfl, rfl⟩
              go_wp2_with fail
              refine C2.out.mono ?_
              rintro e w8 ⟨rfl, q8, rfl⟩
              go_wp2_with fail
              refine ⟨⟨K, n + 1, hK, by omega, by go_num, HC2, O6.out.drewN _, cu6.drewN _, S6.drewN _, by rw [Tx.drewN_size]; exact z6⟩, by simp [intOf]; omega⟩
        · obtain rfl : n = M := by omega
          have hx := Tx.part_none s.data.toList c k (hcnt.out.trans HM.out.symm)
          have CU := Lib.hid (Tx.Until_no (Tx.until_none hcu (by omega) c hx) hsi.ok.1)
          have hcv := hown.conv
          obtain ⟨L, hL⟩ : ∃ L, k + L = s.size := ⟨s.size - k, by omega⟩
          clear hx
          go_wp2_with fail
          refine CU.out.mono ?_
          rintro e w4 ⟨rfl, b4⟩
          have S4 := Tx.Since.then b4 hsi
          have cu4 := hcu.below b4 hcu.lt
          have own4 := hown.below b4 (Nat.le_refl _)
          clear hcv CU b4 hsi hcu hown
          have C2 := Lib.hid (Tx.Left_any cu4 (by omega) hL)
          go_wp2_with fail
          refine C2.out.mono ?_
          rintro e w5 ⟨rfl, q5, rfl⟩
          have S5 := S4.drewN q5
          have cu5 := cu4.drewN q5
          have own5 := own4.drewN q5
          have C3 := Lib.hid (Tx.Take_ok cu5 (by omega) hL L (Nat.le_refl _))
          clear S4 cu4 own4 C2
          go_wp2_with fail
          refine C3.out.mono ?_
          rintro e w6 ⟨rfl, cu6, g6⟩
          have own6 := own5.grown g6 hbB
          have S6 := Tx.Since.grown g6 hb0 H0.out S5
          have hcv := own6.conv
          have hfin : Tx.ba (s.data.toList.take k) ++ s.extract k (k + L) = s := by
            apply Tx.ba_ext
            rw [Tx.data_append, show (Tx.ba (s.data.toList.take k)).data.toList = s.data.toList.take k from rfl, Tx.take_ext, hL, Tx.take_all]
          have n1 := Tx.ba_size (s.data.toList.take k)
          have n2 := Tx.ext_size s k L (by omega)
          have n3 : (s.data.toList.take k).length = k := by rw [List.length_take, Tx.len]; omega
          rw [n3] at n1
          clear C3 own5 own6 g6 cu5 cu6 S5 n3
          generalize Tx.ba (s.data.toList.take k) = p1 at *
          generalize s.extract k (k + L) = p2 at *
          go_wp2
          go_ret
          exact ⟨rfl, S6.below⟩
theorem reads (os : Os) {H : Type} (enc : TypeId × Value → H) : ∃ places, DataW.whole enc Tryd.prog ((Tx.laidWorld os).forCall (fun _ _ => 0) ⟨#[], #[.string ⟨#[]⟩, .int .u8 0], []⟩).memory Tryd.f11.params.toList Rows.textPartsSpec.vars false (#[.string ⟨#[]⟩, .int .u8 0] : Array Value).toList 8 = some ([.lit (.string []), .lit (.int .u8 0)], [], places) :=
  ⟨[], by kernel_rfl⟩
set_option maxHeartbeats 4000000 in
set_option maxRecDepth 100000 in
theorem lifted (os : Os) (started : os.Started) (H : Type) (enc : TypeId × Value → H) (F : Stop.Interp) :
    ReturnsInHanded {} Tryd.checked os 11 .any ((OpenSpec.ofChange Rows.textPartsSpec).preRow enc Tryd.prog Tryd.f11 Rows.textPartsRow.domain false Rows.textPartsRow.laid) (((OpenSpec.ofChange Rows.textPartsSpec).at F).post enc Tryd.prog Tryd.f11 false true false false) := by
  obtain ⟨places, hx⟩ := reads os enc
  refine returnsInHanded_of_row (C := Tryd.checked) (s := (OpenSpec.ofChange Rows.textPartsSpec)) Tx.own started (by kernel_rfl) Tryd.func11
    (witness_row_atRef (enc := enc) (C := Tryd.checked) false (Tx.laidWorld os) #[.string ⟨#[]⟩, .int .u8 0] rfl (by kernel_rfl) (by kernel_rfl) (by kernel_rfl)
      (OpenSpec.preRow_of_cond 8 hx (by kernel_rfl) (fun k hk => by cases hk) (by kernel_rfl) (Tx.laid_met os _))) ?_
  intro W base args ds gs before hval0 hW _ hk hsz hL _ _
  have hval : ∀ (j : Nat) t v, Tryd.f11.params[j]? = some t → args[j]? = some v → Value.okWide Tryd.prog W .any base t v := hval0
  have hW' := hW
  obtain ⟨p, q, hA0, hV0, rfl, _, _⟩ := hW
  have hA : DataW.TrodAll enc Tryd.prog W 0 (fun _ => true) true Tryd.f11.params.toList args.toList ds p := hA0
  rw [Tryd.params11] at hA hval
  obtain ⟨v0, vs0, d0, ds0, p0, q0, hargs, rfl, rfl, h0, r0⟩ := trodAll_cons hA
  obtain ⟨v1, vs1, d1, ds1, p1, q1, rfl, rfl, rfl, h1, r1⟩ := trodAll_cons r0
  obtain ⟨rfl, rfl, rfl⟩ := trodAll_nil r1
  obtain rfl : args = #[v0, v1] := by cases args; simp_all
  obtain ⟨rfl, rfl⟩ := trodVars_none hV0
  obtain ⟨a, rfl, rfl, rfl, wa⟩ := open_string Tryd.underlying9 (hval 0 9 v0 rfl rfl) h0
  have za : a.size ≤ 140737488355328 := by
    have := sized_string hsz (j := 0) (by rw [Tryd.params11]; rfl) rfl
    rw [Tx.len] at this; unfold reachBytes at this; omega
  obtain ⟨b, rfl, rfl, rfl, wb⟩ := open_int Tryd.underlying5 (hval 1 5 v1 rfl rfl) h1
  obtain ⟨cb, rfl⟩ : ∃ cb : UInt8, b = (cb.toNat : Int) := ⟨UInt8.ofNat b.toNat, by have := bounds_u8 wb; rw [Tx.o8 _ (by omega)]; omega⟩
  clear hA0 hV0 hval0
  refine (walk a cb W (Tx.ok_of_laid hL) za).mono ?_
  rintro e W' ⟨rfl, bel⟩
  have e1 : ((OpenSpec.ofChange Rows.textPartsSpec).at F).fn H ([.lit (.string a.data.toList), .lit (.int .u8 (cb.toNat : Int))] ++ []) = { results := [.lit (.bool true)], args := [.lit (.string a.data.toList), .lit (.int .u8 (cb.toNat : Int))] } := rfl
  refine ⟨_, rfl, _, _, _, [], [], [], hW', ?_, ?_, ?_, bel.frame _, fun h => by cases h⟩
  · rw [e1]; exact trodAll_cons_mk (shut_bool Tryd.underlying4 _) trodAll_mk0
  · rw [e1]; exact trodAll_cons_mk (shut_string Tryd.underlying9 wa) (trodAll_cons_mk (shut_int Tryd.underlying5 wb) trodAll_mk0)
  · rw [e1]; rfl

theorem said : Rows.TextPartsSaid :=
  OpenClaim.holds_of_cond 11 Tryd.f11 rfl rfl rfl rfl rfl rfl rfl ⟨rfl, rfl, rfl, rfl, rfl⟩ rfl rfl rfl rfl rfl (by kernel_rfl) Tryd.func11 (by kernel_rfl)
    (of_decide_eq_true (by kernel_rfl)) (by unfold Func.isWrapper; rw [if_neg (of_decide_eq_false (by kernel_rfl))]; exact ⟨rfl, rfl⟩)
    (fun os started H enc _ F => by rw [OpenClaim.pre_eq_preRow]; exact lifted os started H enc F)

/-- No parameter wants a stand-in; the program's own looks are off. -/
theorem plain (f : FuncId) (fn : Func) (hf : Tryd.pinned.checked.prog.funcNamed "ostiary/ostiarylaw01.TextParts" = some f) (hfn : Tryd.pinned.checked.prog.funcs[f]? = some fn) :
    true = Tryd.pinned.checked.prog.looks [] ∧ ∀ (j : Nat) t, fn.params[j]? = some t → Tryd.pinned.checked.prog.wantsStandIn t = false := by
  obtain rfl : f = 11 := Option.some.inj ((show Tryd.prog.funcNamed "ostiary/ostiarylaw01.TextParts" = some 11 by kernel_rfl).symm.trans hf) |>.symm
  obtain rfl : fn = Tryd.f11 := (Option.some.inj (Tryd.func11.symm.trans hfn)).symm
  refine ⟨by kernel_rfl, fun j t ht => ?_⟩
  rw [Tryd.params11] at ht
  have hm := Array.mem_of_getElem? ht
  simp only [List.mem_toArray, List.mem_cons, List.mem_nil_iff, or_false] at hm
  rcases hm with rfl | rfl
  · exact (show Tryd.prog.wantsStandIn 9 = false by kernel_rfl)
  · exact (show Tryd.prog.wantsStandIn 5 = false by kernel_rfl)

theorem card : Rows.TextPartsCardSaid :=
  Claim7.holds_tied_plain_at .later [] _ _ _ _ said (fun _ h => by cases h) (by kernel_rfl) (fun _ h => by cases h) textParts_row_tie rfl ⟨rfl, rfl⟩ (by kernel_rfl) rfl plain (by kernel_rfl)

end lwParts
end Go.Proofs.YtejnhhhmjkiehaaDoor
