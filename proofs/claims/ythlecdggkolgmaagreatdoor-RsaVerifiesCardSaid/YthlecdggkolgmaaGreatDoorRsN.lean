/- The reference's sum, Block, mask, Mask. -/
import Derived.Test.YthlecdggkolgmaaGreatDoorRfY
import Derived.Test.YthlecdggkolgmaaGreatDoorRsD
import Derived.Deep.RegionWith
namespace Go.Proofs.YthlecdggkolgmaaGreatDoor
section
open Go.RowKit

set_option maxHeartbeats 1000000 in
set_option maxRecDepth 100000 in
theorem Rf.sum0 (w : World) (gK cK gF cF : Nat) (s : ByteArray) (hs : s.size ≤ 140737488354000) (hK : Rf.Dig w gK 64 (Rf.kk 0)) (hF : Rf.Dig w gF 8 (Hs.first 0).get) :
    Calls Tryz.prog 30 #[.agg (Rf.kc 0 (.slice (some ⟨gK,0,none⟩) 64 cK) (.slice (some ⟨gF,0,none⟩) 8 cF)),.string s] w fun e w' => e = .returned (.string (Tx.ba (Hs.sum 0 s.data.toList))) ∧ Below w.heap.size w w' := by
  have hcv := fun W => Lib.run_convert_string_bytes (P := Tryz.prog) W 9 36 5 s Tryz.underlying9 Tryz.underlying36 Tryz.underlying5
  obtain ⟨m,hm⟩ : ∃ m,s.data.toList = m := ⟨_,rfl⟩
  have hml : m.length = s.size := by rw [← hm]; simp
  obtain ⟨N,hN⟩ : ∃ N,s.size = N := ⟨_,rfl⟩
  rw [hN] at hs hml
  have HS := Lib.hid (And.intro hm (And.intro hml hN))
  rw [hm]
  clear hm hml
  obtain ⟨vK,hvK⟩ : ∃ vK,vK = Value.slice (some ⟨gK,0,none⟩) 64 cK := ⟨_,rfl⟩
  obtain ⟨vF,hvF⟩ : ∃ vF,vF = Value.slice (some ⟨gF,0,none⟩) 8 cF := ⟨_,rfl⟩
  rw [← hvK,← hvF]
  have HV := Lib.hid (And.intro hvK hvF)
  clear hvK hvF
  go_enter Tryz.func30,Tryz.ntmps30
  go_upto_region 1 with fail
  have kb := heap_alloc_new w (.cells (Rf.kc 0 vK vF) 61)
  have hB1 : Below w.heap.size w (w.alloc (.cells (Rf.kc 0 vK vF) 61)) := (Below.refl _ _).alloc (Nat.le_refl _) _
  obtain ⟨q,hq⟩ : ∃ q,w.heap.size = q := ⟨_,rfl⟩
  rw [hq] at kb hB1 ⊢
  have hKq : gK < q := hq ▸ hK.lt
  have hFq : gF < q := hq ▸ hF.lt
  have hK := hK.below hB1 hKq
  have hF := hF.below hB1 hFq
  generalize w.alloc (.cells (Rf.kc 0 vK vF) 61) = w1 at kb hB1 hK hF ⊢
  have hq1 : q < w1.heap.size := (Array.getElem?_eq_some_iff.1 kb).1
  have c0 := (cell_of_row w1 q 0 _ _ _ kb).trans (show (Rf.kc 0 vK vF)[0]? = some (.int .i64 32) from rfl)
  have HQ := Lib.hid hq
  clear hq
  go_upto_region 2 with fail
  obtain ⟨hO,hB2⟩ := Rf.OwnB.ofText w1 s
  rw [hN] at hO
  go_wp2_with (at_builtin; refine Rf.appendB rfl _ _ rfl w1.heap.size _ _ rfl ((by rw [HS.out.2.2] at *; exact hO.below ((Below.refl _ _).alloc (Nat.le_refl _) _))) ⟨_,0,none⟩ 1 [128] rfl (World.news_of_block (heap_alloc_new _ _)) (by decide) (by rw [HS.out.1,HS.out.2.1]; simp; omega) (by have := hB2.size; simp; omega) ?_; intro v3 w3 hO3 hB3)
  have hB13 : Below w1.heap.size w1 w3 := (hB2.trans (((Below.refl _ _).alloc (Nat.le_refl _) _).mono hB2.size)).trans hB3
  rw [HS.out.1] at hO3
  clear hO hB2 hB3 c0
  obtain ⟨q1,hq1e⟩ : ∃ q1,w1.heap.size = q1 := ⟨_,rfl⟩
  rw [hq1e] at hO3 hB13 hq1
  have HQ1 := Lib.hid hq1e
  clear hq1e
  obtain ⟨nn,hnn⟩ : ∃ nn,63 - (N + 8) % 64 = nn := ⟨_,rfl⟩
  have hnl : nn ≤ 63 := by omega
  have HNN := Lib.hid hnn
  obtain ⟨g3,c3,hv3,_⟩ := id hO3
  have e3 : (m ++ [128]).length = N + 1 := by rw [List.length_append,HS.out.2.1]; rfl
  rw [e3] at hv3
  subst hv3
  go_loopw [6] (fun bv wr => ∃ (k L g cap : Nat),k ≤ nn ∧ L = N + 1 + k ∧ bv = .slice (some ⟨g,0,none⟩) L cap ∧ Rf.OwnB wr q1 bv (m ++ 128 :: List.replicate k 0) ∧ Below q1 w1 wr) (fun bv _ => match bv with | .slice _ L _ => N + 500 - L | _ => 0)
  case atStart => exact ⟨0,N + 1,g3,c3,by omega,by omega,rfl,hO3,hB13⟩
  case round =>
  clear hO3 hB13 e3
  obtain ⟨k,L,g,cap,hk,hL,rfl,hO,hB⟩ := hrel
  obtain ⟨w4,rfl⟩ : ∃ w4,w4 = wr := ⟨_,rfl⟩
  obtain ⟨r,hr⟩ : ∃ r,(L + 8) % 64 = r := ⟨_,rfl⟩
  have hLb : (L : Int) ≤ 140737488355000 := by omega
  have hL0 : 0 ≤ (L : Int) := by omega
  have em : ((L : Int) + 8) % 64 = (r : Int) := by omega
  have etm : ((L : Int) + 8).tmod 64 = (r : Int) := by rw [Int.tmod_eq_emod_of_nonneg (by omega)]; exact em
  by_cases hkn : k = nn
  · have hr0 : r = 0 := by omega
    subst hr0
    have hLe : L = N + 1 + nn := by omega
    have hNb : N < 18446744073709551616 := by omega
    obtain ⟨x8,hx8⟩ : ∃ x8,8 * N = x8 := ⟨_,rfl⟩
    have hx8b : x8 < 18446744073709551616 := by omega
    have hu0 : 8 * (N : Int) = (x8 : Int) := by omega
    have hu1 : IntKind.u64.wrap (N : Int) = (N : Int) := IntWalk.u64_in _ (by omega)
    have hu2 : IntKind.u64.wrap (x8 : Int) = (x8 : Int) := IntWalk.u64_in _ (by omega)
    have hu3 : (N : Int) % 18446744073709551616 = (N : Int) := by omega
    have hu4 : (x8 : Int) % 18446744073709551616 = (x8 : Int) := by omega
    have CB : ∀ W,Calls Tryz.prog 52 #[.int .u64 (x8 : Int),.int .i64 8] W fun e w' => ∃ x,e = .returned x ∧ Tx.Own w' W.heap.size x (Rf.be x8 8) ∧ Below W.heap.size W w' := fun W => Rf.bytes_any W x8 8 hx8b (by decide)
    have hbl : ∀ v,(Rf.be v 8).length = 8 := fun v => Rf.be_len v _
    have hq14 : q1 ≤ w4.heap.size := by have := hB.size; have := HQ1.out; omega
    have HH := Lib.hid (And.intro hLe (And.intro hx8 (And.intro hx8b hbl)))
    have CBB := Lib.hid CB
    have kb4 := (hB.block q hq1).trans kb
    have c16 := (cell_of_row w4 q 16 _ _ _ kb4).trans (show (Rf.kc 0 vK vF)[16]? = some vF from rfl)
    rw [HV.out.2] at c16
    rw [hkn] at hO
    have HC := Lib.hid (And.intro hO (And.intro hB (And.intro kb4 c16)))
    clear hr hkn hL hk hLe hx8 hx8b hbl CB hNb hO hB kb4 c16 hnn
    go_upto_region 6 with (first | ((with_reducible refine Calls.mono (CBB.out _) ?_); rintro e5 w5 ⟨x5,rfl,hO5,hb5⟩; obtain ⟨g5,c5,rfl⟩ := Rf.Own.form hO5 (by rw [HH.out.2.2.2]; decide)) | (at_builtin; refine Rf.appendB rfl _ _ rfl q1 _ _ rfl (HC.out.1.below hb5) ⟨g5,0,none⟩ c5 (Rf.be x8 8) rfl (Rf.Own.news hO5) (by rw [HH.out.2.2.2]; decide) (by rw [HH.out.2.2.2,List.length_append,HS.out.2.1]; simp; omega) (by have := hb5.size; omega) ?_; intro v6 w6 hO6 hB6))
    have hB16 := (HC.out.2.1.trans (hb5.mono hq14)).trans hB6
    have hq16 : q1 ≤ w6.heap.size := by have := hB16.size; have := HQ1.out; omega
    obtain ⟨M,hM⟩ : ∃ M,m ++ Hs.pad 0 N = M := ⟨_,rfl⟩
    have hpad : (m ++ 128 :: List.replicate nn 0) ++ Rf.be x8 8 = M := by
      rw [← hM,List.append_assoc]
      congr 1
      rw [Hs.pad,List.cons_append]
      congr 1
      rw [Rf.be_eq x8 HH.out.2.2.1,← HH.out.2.1,Nat.mul_comm 8 N]
      show List.replicate nn 0 ++ _ = List.replicate (63 - (N + 8) % 64) 0 ++ _
      rw [HNN.out]
      rfl
    rw [hpad] at hO6
    obtain ⟨lb,hlb⟩ : ∃ lb,M.length = lb := ⟨_,rfl⟩
    have hlbe : lb = N + 1 + nn + 8 := by rw [← hlb,← hpad,List.length_append,List.length_append,HH.out.2.2.2,HS.out.2.1]; simp; omega
    obtain ⟨gb,cb,hv6,_⟩ := id hO6
    rw [hlb] at hv6
    subst hv6
    have kb6 := (hB16.block q hq1).trans kb
    have c16 := (cell_of_row w6 q 16 _ _ _ kb6).trans (show (Rf.kc 0 vK vF)[16]? = some vF from rfl)
    rw [HV.out.2] at c16
    have c16a := fun o => Rf.alloc_cell w6 o _ _ c16
    have hF6 := hF.below hB16 (by omega)
    have hnew := Rf.l8_new hF6
    have h88 : (Rf.l8 (Hs.first 0).get).length = 8 := by simp [Rf.l8]
    have HN2 := Lib.hid (And.intro hnew (And.intro h88 (And.intro hlbe (And.intro hM hlb))))
    have HO6 := Lib.hid (And.intro hO6 (And.intro hB16 hF6))
    clear hnew h88 hlbe hM hlb hpad hO6 hB6 hb5 hO5 hu0 hu1 hu2 hu3 hu4 em etm
    obtain ⟨l,hl⟩ : ∃ l,Rf.l8 (Hs.first 0).get = l := ⟨_,rfl⟩
    rw [hl] at HN2
    have HL := Lib.hid hl
    clear hl
    go_wp2_with (at_builtin; refine Rf.appendQ rfl _ _ rfl w6.heap.size _ [] rfl (Rf.OwnQ.empty _ _ (Nat.le_refl _)) ⟨gF,0,none⟩ cF l (by rw [HN2.out.2.1]; rfl) (fun j u hu => (Rf.alloc_cell _ _ _ _ (HN2.out.1 j u hu))) (by rw [HN2.out.2.1]; simp) (by simp) ?_; intro v7 w7 O7 b7 z7)
    rw [List.nil_append] at O7
    obtain ⟨gs,cs,hv7,hgs⟩ := O7.at (by rw [HN2.out.2.1]; decide)
    rw [hv7,← HL.out] at O7
    have hC7 := Rf.l8_cel O7
    rw [HN2.out.2.1] at hv7
    subst hv7
    have hB67 : Below w6.heap.size w6 w7 := ((Below.refl _ _).alloc (Nat.le_refl _) _).trans b7
    have hB17 := HO6.out.2.1.trans (hB67.mono hq16)
    have kb7 := (hB17.block q hq1).trans kb
    have hO7 := HO6.out.1.below hB67
    obtain ⟨_,_,hvv,hgb,hgbl,_⟩ := id HO6.out.1
    simp only [Value.slice.injEq,Option.some.injEq,Addr.mk.injEq] at hvv
    obtain ⟨⟨rfl,_⟩,_,rfl⟩ := hvv
    have hbs : gb ≠ gs := by omega
    have hqs : q ≠ gs := by omega
    have hks : gK ≠ gs := by omega
    have hgq1 : q1 ≤ gs := by omega
    clear O7 b7 z7 c16 c16a kb6
    rw [HV.out.1] at kb7
    go_wp2_with fail
    refine Rf.l2 (κ := 0) (hκ := by decide) (n := 32) (rd := 64) (wd := 4) (hn := rfl) (hrd := rfl) (hwd := rfl) (T := lb / 64) (m := M) (hkb := kb7) (hlb := by have := HN2.out.2.2.1; omega) (hT := by show lb = lb / 64 * 64; have := HN2.out.2.2.1; have := HNN.out; omega) (hK := hK.below hB17 (by omega)) (hb := fun j hj => hO7.cell j (by rw [HN2.out.2.2.2.2]; exact hj)) (hbl := by have := hB67.size; omega) (hs := hC7) (hqs := hqs) (hks := hks) (hbs := hbs) (hk := ?_)
    intro xx v8 w8 hFr hBut hC8
    have hFr : Rf.Fr (.pointer (some ⟨q,0,none⟩)) (.int .i64 4) (.slice (some ⟨gb,0,none⟩) lb cb) (.slice (some ⟨gs,0,none⟩) 8 cs) v8 xx := hFr
    obtain ⟨gg,rfl⟩ := hFr.open
    dsimp only
    have hB18 : Below q1 w1 w8 := hB17.trans (hBut.toBelow hgq1 (by have := hB17.size; have := HQ1.out; omega))
    have kb8 := (hB18.block q hq1).trans kb
    have hq18 : q1 ≤ w8.heap.size := by have := hB18.size; have := HQ1.out; omega
    obtain ⟨V,hV⟩ : ∃ V,Hs.after 0 M (lb / 64) = V := ⟨_,rfl⟩
    have hVl := Hs.after_lt 0 M (lb / 64)
    rw [hV] at hC8 hVl
    have hVg : ∀ j,j < 8 → V.get j < 18446744073709551616 := fun j hj => Nat.lt_of_lt_of_le (hVl j hj) (by decide)
    have HVV := Lib.hid (And.intro hV (And.intro hVl hVg))
    have CB8 : ∀ W v,v < 18446744073709551616 → Calls Tryz.prog 52 #[.int .u64 ((v : Nat) : Int),.int .i64 4] W fun e w' => ∃ x,e = .returned x ∧ Tx.Own w' W.heap.size x (Rf.be v 4) ∧ Below W.heap.size W w' := fun W v hv => Rf.bytes_any W v 4 hv (by decide)
    have HCB := Lib.hid CB8
    clear hV hVl hVg CB8 hFr hC7 hO7 hBut kb7 hB67
    go_wp2_with fail
    have hOo := Rf.Own.empty w8 w8.heap.size (Nat.le_refl _)
    have hBo : Below w8.heap.size w8 (w8.alloc (.cells #[] 5)) := (Below.refl _ _).alloc (Nat.le_refl _) _
    obtain ⟨x0,hx0⟩ : ∃ x0,Value.slice (some ⟨w8.heap.size,0,none⟩) 0 0 = x0 := ⟨_,rfl⟩
    rw [hx0] at hOo ⊢
    clear hx0
    generalize w8.alloc (.cells #[] 5) = w9 at hOo hBo ⊢
    go_loopw [22,23] (fun ov iv wr => ∃ (k : Nat),k ≤ 8 ∧ iv = .int .i64 (k : Int) ∧ Tx.Own wr w8.heap.size ov (Rf.outs V.get 4 k) ∧ Below w8.heap.size w8 wr) (fun _ iv _ => 8 - (intOf iv).toNat)
    case atStart => exact ⟨0,by omega,rfl,hOo,hBo⟩
    case round =>
    clear hOo hBo
    obtain ⟨k,hk,rfl,hOo,hBo⟩ := hrel
    obtain ⟨w10,rfl⟩ : ∃ w10,w10 = wr := ⟨_,rfl⟩
    by_cases hk8 : k < 8
    · have hkz : (k : Int) < 8 := by omega
      have hkz0 : 0 ≤ (k : Int) := by omega
      have ck := (hC8.below hBo).cell k hk8
      have CK := Lib.hid (fun W => HCB.out W (V.get k) (HVV.out.2.2 k hk8))
      have hlk := Rf.outs_len V.get 4 k
      have hlk2 : (Rf.outs V.get 4 k).length ≤ 64 := by omega
      have hsz := hBo.size
      have HK := Lib.hid (And.intro hlk2 (And.intro hsz (show ∀ v,(Rf.be v 4).length = 4 from fun v => Rf.be_len v _)))
      clear hlk hlk2 hsz
      go_wp2_with (first | ((with_reducible refine Calls.mono (CK.out _) ?_); rintro e11 w11 ⟨x11,rfl,hO11,hb11⟩; obtain ⟨g11,c11,rfl⟩ := Rf.Own.form hO11 (by rw [HK.out.2.2]; decide)) | (at_builtin; refine Tx.append rfl _ _ rfl w8.heap.size _ _ rfl (hOo.below hb11 (Nat.le_refl _)) ⟨g11,0,none⟩ c11 (Rf.be (V.get k) 4) rfl (Rf.Own.news hO11) (by rw [HK.out.2.2]; have := HK.out.1; omega) (by have := hb11.size; have := HK.out.2.1; omega) ?_; intro v12 w12 hO12 hB12 z12))
      have hBn : Below w8.heap.size w8 w12 := (hBo.trans (hb11.mono hBo.size)).trans hB12
      exact ⟨⟨k + 1,by omega,by go_num,hO12,hBn⟩,by simp [intOf]; omega⟩
    · have hke : k = 8 := by omega
      have hkz : ¬ (k : Int) < 8 := by omega
      rw [hke] at hOo
      have ho8 : (Rf.outs V.get 4 8).length = 32 := by rw [Rf.outs_len]
      obtain ⟨go_,co,hvo,_,_,hcap,hcell,_⟩ := Rf.OwnB.ofOwn hOo (by rw [ho8]; decide)
      rw [ho8] at hvo hcap
      subst hvo
      have hcz : (32 : Int) ≤ (co : Int) := by omega
      have kb10 := (hBo.block q (by omega)).trans kb8
      have c2 := (cell_of_row w10 q 2 _ _ _ kb10).trans (show (Rf.kc 0 vK vF)[2]? = some (.int .i64 32) from rfl)
      have htl : (Rf.outs V.get 4 8).take 32 = Hs.tell 0 V := Rf.tell_eq 0 (by decide) V HVV.out.2.1
      have htlen : (Hs.tell 0 V).length = 32 := by rw [← htl,List.length_take,ho8]; rfl
      have hconv : (convert 36 9 (.slice (some ⟨go_,0,none⟩) 32 co)).run Tryz.prog w10 = .ok (.string (Tx.ba (Hs.tell 0 V))) w10 := by
        have := run_convert_bytes_back (P := Tryz.prog) w10 36 9 5 ⟨go_,0,none⟩ co (Hs.tell 0 V) Tryz.underlying36 Tryz.underlying5 Tryz.underlying9 (fun j hj => by
          have e : ((⟨go_,0,none⟩ : Addr).add j) = ⟨go_,j,none⟩ := by unfold Addr.add; split <;> simp_all
          rw [e]
          refine hcell j _ ?_
          rw [List.getElem?_map]
          have hj2 : (Hs.tell 0 V)[j]? = (Rf.outs V.get 4 8)[j]? := by
            rw [← htl,List.getElem?_take,if_pos (by omega)]
          rw [← hj2,List.getElem?_eq_getElem hj]
          rfl)
        rwa [htlen] at this
      have hsum : Hs.tell 0 V = Hs.sum 0 m := by
        rw [Hs.sum,HS.out.2.1,HN2.out.2.2.2.1,← HVV.out.1]
        congr 2
        show lb / 64 = (N + (Hs.pad 0 N).length) / 64
        have h1 : (m ++ Hs.pad 0 N).length = lb := by rw [HN2.out.2.2.2.1]; exact HN2.out.2.2.2.2
        rw [List.length_append,HS.out.2.1] at h1
        rw [h1]
      rw [hsum] at hconv
      have HE := Lib.hid (And.intro hBo hB18)
      clear htl htlen hsum ho8 hcell hke hOo
      go_wp2_with fail
      go_ret
      refine ⟨rfl,?_⟩
      rw [HQ.out]
      exact (hB1.trans (HE.out.2.mono (by omega))).trans (HE.out.1.mono (by omega))
  · have hkl : k < nn := by omega
    have hr0 : ((r : Int) != 0) = true := by rw [bne_iff_ne]; omega
    have hLn : L + 1 = N + 1 + (k + 1) := by omega
    have hq14 : q1 ≤ w4.heap.size := by have := hB.size; have := HQ1.out; omega
    have hll : (m ++ 128 :: List.replicate k 0).length ≤ 140737488355000 := by rw [List.length_append,HS.out.2.1]; simp; omega
    have HH := Lib.hid (And.intro hLn (And.intro hll hr))
    have hlm : L + 1 ≤ N + 400 := by omega
    clear hLn hll hr hL hkn hnn
    go_wp2_with (at_builtin; refine Rf.appendB rfl _ _ rfl q1 _ _ rfl (hO.below ((Below.refl _ _).alloc (Nat.le_refl _) _)) ⟨_,0,none⟩ 1 [0] rfl (World.news_of_block (heap_alloc_new _ _)) (by decide) (by have := HH.out.2.1; simp at this ⊢; omega) (by simp; omega) ?_; intro v5 w5 hO5 hB5)
    have hB15 : Below q1 w1 w5 := (hB.trans (((Below.refl _ _).alloc (Nat.le_refl _) _).mono hq14)).trans hB5
    have hrep : (m ++ 128 :: List.replicate k 0) ++ [0] = m ++ 128 :: List.replicate (k + 1) 0 := by rw [List.append_assoc,List.cons_append,List.replicate_succ']
    rw [hrep] at hO5
    obtain ⟨g5,c5,hv5,_⟩ := id hO5
    have e5 : (m ++ 128 :: List.replicate (k + 1) 0).length = L + 1 := by rw [List.length_append,HS.out.2.1,HH.out.1]; simp; omega
    rw [e5] at hv5
    subst hv5
    exact ⟨⟨k + 1,L + 1,g5,c5,by omega,HH.out.1,rfl,hO5,hB15⟩,by show N + 500 - (L + 1) < N + 500 - L; omega⟩
end
section
section
open Go.RowKit
/-- What is behind the bytes 255 and the byte 0. -/
def Rs.info : List UInt8 := [48,49,48,13,6,9,96,134,72,1,101,3,4,2,1,5,0,4,32]
def Rs.ahead (k : Nat) : List UInt8 := [0,1] ++ Rs.ff k
theorem Rs.ahead_len (k : Nat) : (Rs.ahead k).length = k + 2 := by
  unfold Rs.ahead Rs.ff
  simp
theorem Rs.ahead_succ (k : Nat) : Rs.ahead k ++ [255] = Rs.ahead (k + 1) := by
  unfold Rs.ahead Rs.ff
  rw [List.append_assoc,List.replicate_succ']
theorem Rs.block_ahead (s : ByteArray) (n : Nat) : Tx.ba (Rs.ahead (n - 54) ++ [0]) ++ Tx.ba Rs.info ++ Tx.ba (Hs.sum 0 s.data.toList) = Rs.block s n := by
  rw [Rs.ba_app,Rs.ba_app]
  unfold Rs.block Rs.ahead
  rw [List.append_assoc (_ ++ _) [0] Rs.info]
  rfl
def Rs.sliceLen : Value → Nat
  | .slice _ n _ => n
  | _ => 0
set_option maxHeartbeats 4000000 in
set_option maxRecDepth 100000 in
theorem Rs.RBlock_of (w : World) (s : ByteArray) (n : Nat) (h1 : 62 ≤ n) (h2 : n ≤ 512)
    (hS : ∀ W,Calls Tryz.prog 43 #[.string s] W fun e w' => e = .returned (.string (Tx.ba (Hs.sum 0 s.data.toList))) ∧ Below W.heap.size W w') :
    Calls Tryz.prog 22 #[.string s,.int .i64 (n : Int)] w fun e w' => e = .returned (.tuple #[.string (Rs.block s n),.int .i64 0]) ∧ Below w.heap.size w w' := by
  have hB := Rs.block_ahead s n
  have hbs := Rs.block_size s n h1
  obtain ⟨R,hR⟩ : ∃ R,Rs.block s n = R := ⟨_,rfl⟩
  obtain ⟨y,hy⟩ : ∃ y,Tx.ba (Hs.sum 0 s.data.toList) = y := ⟨_,rfl⟩
  have hys : y.size = 32 := by rw [← hy]; exact Rs.sum_len _
  rw [hR] at hB hbs ⊢
  rw [hy] at hB hS
  have HS := Lib.hid hS
  have HB := Lib.hid (And.intro hB (And.intro hbs hys))
  clear hS hR hy hB hbs hys
  have t1 : ¬ (n : Int) < 62 := by omega
  have t2 : ¬ (512 : Int) < (n : Int) := by omega
  have hnb : (n : Int) ≤ 512 := by omega
  obtain ⟨N,hN⟩ : ∃ N : Nat,n = N + 52 := ⟨n - 52,by omega⟩
  have hN1 : (n : Int) - 1 - 19 - 32 = (N : Int) := by omega
  have hNb : (N : Int) ≤ 512 := by omega
  have HN := Lib.hid (And.intro hN (And.intro h1 h2))
  clear hN h1 h2
  go_enter Tryz.func22,Tryz.ntmps22
  go_upto_region 2 with fail
  have o1 : Tx.Own (w.alloc (.cells #[.int .u8 48,.int .u8 49,.int .u8 48,.int .u8 13,.int .u8 6,.int .u8 9,.int .u8 96,.int .u8 134,.int .u8 72,.int .u8 1,.int .u8 101,.int .u8 3,.int .u8 4,.int .u8 2,.int .u8 1,.int .u8 5,.int .u8 0,.int .u8 4,.int .u8 32] 5)) w.heap.size (.slice (some ⟨w.heap.size,0,none⟩) 19 19) Rs.info := ⟨rfl,.inr ⟨w.heap.size,19,_,rfl,Nat.le_refl _,heap_alloc_new _ _,Nat.le_refl _,by unfold maxLen; omega,rfl,by rfl⟩⟩
  have b1 : Below w.heap.size w (w.alloc (.cells #[.int .u8 48,.int .u8 49,.int .u8 48,.int .u8 13,.int .u8 6,.int .u8 9,.int .u8 96,.int .u8 134,.int .u8 72,.int .u8 1,.int .u8 101,.int .u8 3,.int .u8 4,.int .u8 2,.int .u8 1,.int .u8 5,.int .u8 0,.int .u8 4,.int .u8 32] 5)) := (Below.refl _ _).alloc (Nat.le_refl _) _
  generalize w.alloc _ = w1 at o1 b1 ⊢
  have H1 := Lib.hid (And.intro o1 b1)
  clear o1 b1
  go_upto_region 5 with fail
  have o2 : Tx.Own (w1.alloc (.cells #[.int .u8 0,.int .u8 1] 5)) w1.heap.size (.slice (some ⟨w1.heap.size,0,none⟩) 2 2) (Rs.ahead 0) := ⟨rfl,.inr ⟨w1.heap.size,2,_,rfl,Nat.le_refl _,heap_alloc_new _ _,Nat.le_refl _,by unfold maxLen; omega,rfl,by rfl⟩⟩
  have b2 : Below w1.heap.size w1 (w1.alloc (.cells #[.int .u8 0,.int .u8 1] 5)) := (Below.refl _ _).alloc (Nat.le_refl _) _
  have H2 := Lib.hid (And.intro o2 b2)
  clear o2 b2
  go_loopw [7] (fun v wr => ∃ k : Nat,k + 2 ≤ N ∧ Tx.Own wr w1.heap.size v (Rs.ahead k) ∧ Below w1.heap.size w1 wr) (fun v _ => N - Rs.sliceLen v)
  case atStart => exact ⟨0,by have := HN.out; omega,H2.out.1,H2.out.2⟩
  case round =>
  obtain ⟨k,hk,hown,hb⟩ := hrel
  obtain ⟨w3,rfl⟩ : ∃ w3,w3 = wr := ⟨_,rfl⟩
  obtain ⟨g,c,rfl⟩ := hown.size
  have hl := Rs.ahead_len k
  obtain ⟨M,hM⟩ : ∃ M,(Rs.ahead k).length = M := ⟨_,rfl⟩
  rw [hM] at hl hown ⊢
  by_cases hlt : M < N
  · have hltz : (M : Int) < (N : Int) := by omega
    have hMb : (M : Int) ≤ 512 := by omega
    have hn := Rs.ahead_succ k
    have HL : (Rs.ahead k).length + [()].length ≤ 140737488355328 := by rw [hM]; simp; omega
    have HK := Lib.hid (And.intro hn (And.intro hM (And.intro hl hlt)))
    clear hn hM hl hlt
    go_wp2_with (at_builtin; refine Tx.append rfl _ _ rfl w1.heap.size _ (Rs.ahead k) rfl (Tx.Own.alloc hown _) ⟨_,0,none⟩ 1 [255] rfl (World.news_of_block (heap_alloc_new _ _)) HL (by have := hb.size; simp; omega) ?_; intro v1 w4 hown1 hb4 hz4)
    rw [HK.out.1] at hown1
    obtain ⟨g1,c1,rfl⟩ := hown1.size
    refine ⟨⟨k + 1,by have := HK.out.2; omega,hown1,(hb.alloc hb.size _).trans hb4⟩,?_⟩
    have := Rs.ahead_len (k + 1)
    have := HK.out.2
    show N - (Rs.ahead (k + 1)).length < N - M
    omega
  · have hltz : ¬ (M : Int) < (N : Int) := by omega
    have hkn : k = n - 54 := by have := HN.out; omega
    have HL : (Rs.ahead k).length + [()].length ≤ 140737488355328 := by rw [hM]; have := HN.out; simp; omega
    have HM := Lib.hid (And.intro hM (And.intro hl hkn))
    clear hM hl hkn hlt
    go_upto_region 8 with (at_builtin; refine Tx.append rfl _ _ rfl w1.heap.size _ (Rs.ahead k) rfl (Tx.Own.alloc hown _) ⟨_,0,none⟩ 1 [0] rfl (World.news_of_block (heap_alloc_new _ _)) HL (by have := hb.size; simp; omega) ?_; intro v1 w4 hown1 hb4 hz4)
    have hb5 := (hb.alloc hb.size (Obj.cells #[.int .u8 0] 5)).trans hb4
    have o4 := H1.out.1.below hb5 (Nat.le_refl _)
    have B4 := H1.out.2.trans (hb5.mono H1.out.2.size)
    have e4 : Tx.ba (Rs.ahead k ++ [0]) ++ Tx.ba Rs.info ++ y = R := by rw [HM.out.2.2]; exact HB.out.1
    have cB := hown1.drew.conv
    have cI := o4.drew.conv
    obtain ⟨X,hX⟩ : ∃ X,Tx.ba (Rs.ahead k ++ [0]) = X := ⟨_,rfl⟩
    obtain ⟨I,hI⟩ : ∃ I,Tx.ba Rs.info = I := ⟨_,rfl⟩
    have hIs : I.size = 19 := by rw [← hI]; rfl
    have hXs : X.size = M + 1 := by rw [← hX]; show (Rs.ahead k ++ [0]).length = _; rw [List.length_append,HM.out.1]; rfl
    have hys : y.size = 32 := HB.out.2.2
    have hXI : (X ++ I).size = M + 20 := by rw [ByteArray.size_append]; omega
    have hMb : M ≤ 512 := by have := HM.out; have := HN.out; omega
    have HO := Lib.hid (And.intro hown1 (And.intro o4 (And.intro B4 (And.intro hX hI))))
    rw [hX,hI] at e4
    rw [hX] at cB
    rw [hI] at cI
    have HE := Lib.hid e4
    clear hown hown1 hb hb4 hz4 hb5 o4 B4 hX hI e4 hltz HL
    go_region_with (go_at_call 43; refine Calls.mono (HS.out _) ?_; rintro e5 w5 ⟨rfl,hb5⟩; have hb6 : Below w4.heap.size w4 w5 := (below_drewN (Below.refl w4.heap.size w4) 1).trans hb5; have c5 := (HO.out.1.below hb6 (Nat.le_refl _)).conv; have d5 := (HO.out.2.1.below hb6 (Nat.le_refl _)).conv; rw [HO.out.2.2.2.1] at c5; rw [HO.out.2.2.2.2] at d5; have H6 := Lib.hid (HO.out.2.2.1.trans (hb6.mono HO.out.2.2.1.size)); clear hb5 hb6)
    all_goals
      go_wp2_with fail
      go_ret2
      exact ⟨by rw [← HE.out]; rfl,H6.out⟩
end
section
open Go.RowKit
set_option maxHeartbeats 400000 in
set_option maxRecDepth 100000 in
theorem Rf.RSum0 (w : World) (s : ByteArray) (hs : s.size ≤ 140737488351232) :
    Calls Tryz.prog 70 #[.int .i64 0,.string s] w fun e w' => e = .returned (.tuple #[.string (Tx.ba (Hs.sum 0 s.data.toList)),.int .i64 0]) ∧ Below w.heap.size w w' := by
  obtain ⟨X,hX⟩ : ∃ X,Tx.ba (Hs.sum 0 s.data.toList) = X := ⟨_,rfl⟩
  have CS := Lib.hid (fun W gK cK gF cF hK hF => Rf.sum0 W gK cK gF cF s (by omega) hK hF)
  rw [hX] at CS ⊢
  have hz := Rf.zeroK
  clear hX
  go_enter Tryz.func70,Tryz.ntmps70
  go_upto_region 2 with (first | ((with_reducible refine Calls.mono (Rf.of0 _) ?_); rintro e1 w1 ⟨gK,cK,gF,cF,rfl,hK,hF,b1⟩; have hRs := Rf.kc_size 0 (.slice (some ⟨gK,0,none⟩) 64 cK) (.slice (some ⟨gF,0,none⟩) 8 cF); have hone : (Rf.kc 0 (.slice (some ⟨gK,0,none⟩) 64 cK) (.slice (some ⟨gF,0,none⟩) 8 cF)).all (·.oneCell') = true := (by simp [Rf.kc,Rf.n3,Value.oneCell']); have CC := CS.out; have CC1 := fun W hK hF => CC W gK cK gF cF hK hF; obtain ⟨R,hR⟩ : ∃ R,Rf.kc 0 (.slice (some ⟨gK,0,none⟩) 64 cK) (.slice (some ⟨gF,0,none⟩) 8 cF) = R := ⟨_,rfl⟩; rw [hR] at hRs hone CC1 ⊢; have CC2 := Lib.hid CC1; clear CC CC1 hR; have hsz : (Tryz.prog.info? 61).map (·.size) = some R.size := (by rw [hRs]; exact Rf.infoKd); have hzs : Rf.zk.size = R.size := (by rw [hRs]; rfl); clear hRs) | (refine wpList_store_row rfl 61 (.tmp 6) (.tmp 11) rfl w1.heap.size R rfl rfl 61 _ (heap_alloc_new w1 _) hsz hzs hone ?_; rw [World.setRow_alloc_new]))
  have r2 := heap_alloc_new w1 (.cells R 61)
  have b2 : Below w1.heap.size w1 (w1.alloc (.cells R 61)) := (Below.refl _ _).alloc (Nat.le_refl _) _
  have CD := Lib.hid (CC2.out (w1.alloc (.cells R 61)) (hK.bel b2) (hF.bel b2))
  obtain ⟨g,hg⟩ : ∃ g,w1.heap.size = g := ⟨_,rfl⟩
  have B2 := b1.trans (b2.mono b1.size)
  rw [hg] at r2 ⊢
  clear CS CC2 hK hF b1 b2 hg hzs hone hz
  generalize w1.alloc (.cells R 61) = w2 at r2 B2 CD ⊢
  go_wp2_with (first | (refine wpList_load_row rfl 61 (.tmp 6) rfl g rfl 61 _ (0,0) _ r2 Tryz.underlying61 rfl hsz ?_) | ((with_reducible refine Calls.mono CD.out ?_); rintro e3 w3 ⟨rfl,b3⟩))
  have B3 := B2.trans (b3.mono B2.size)
  go_ret2
  exact ⟨rfl,B3⟩
set_option maxHeartbeats 400000 in
theorem Rs.Rsum_any (w : World) (s : ByteArray) (hs : s.size ≤ 140737488351232) :
    Calls Tryz.prog 43 #[.string s] w fun e w' => e = .returned (.string (Tx.ba (Hs.sum 0 s.data.toList))) ∧ Below w.heap.size w w' := by
  have HC := Lib.hid (Rf.RSum0 w s hs)
  generalize Tx.ba (Hs.sum 0 s.data.toList) = y at HC ⊢
  clear hs
  go_enter Tryz.func43,Tryz.ntmps43
  go_wp2_with fail
  go_at_call 70
  refine Calls.mono HC.out ?_
  rintro r w1 ⟨rfl,hb⟩
  have H1 := Lib.hid hb
  clear hb
  go_wp2_with fail
  go_ret
  exact ⟨rfl,H1.out⟩
theorem Rs.RBlock_ok (w : World) (s : ByteArray) (n : Nat) (hs : s.size ≤ 140737488351232) (h1 : 62 ≤ n) (h2 : n ≤ 512) :
    Calls Tryz.prog 22 #[.string s,.int .i64 (n : Int)] w fun e w' => e = .returned (.tuple #[.string (Rs.block s n),.int .i64 0]) ∧ Below w.heap.size w w' :=
  Rs.RBlock_of w s n h1 h2 (fun W => Rs.Rsum_any W s hs)
theorem Rs.ba_ext {a b : ByteArray} (h : a.data.toList = b.data.toList) : a = b := by
  apply ByteArray.ext
  rw [← Array.toList_inj]
  exact h
theorem Rs.mask_pre (s : ByteArray) (i n : Nat) (hi : i ≤ 17) (h : n ≤ 32 * i) : (Tx.ba (Rs.maskL s.data.toList i)).extract 0 n = Rs.mask s n := by
  apply Rs.ba_ext
  rw [Hs.ext_list]
  show ((Rs.maskL s.data.toList i).drop 0).take (n - 0) = (Rs.maskL s.data.toList 17).take n
  rw [List.drop_zero,Nat.sub_zero,Rs.maskL_take _ i n h 17 hi]
set_option maxHeartbeats 4000000 in
set_option maxRecDepth 100000 in
theorem Rs.Rmask_any (w : World) (s : ByteArray) (n : Nat) (hs : s.size ≤ 140737488352000) (hn : n ≤ 512) :
    Calls Tryz.prog 12 #[.string s,.int .i64 (n : Int)] w fun e w' => e = .returned (.string (Rs.mask s n)) ∧ Below w.heap.size w w' := by
  have CS := Lib.hid (fun W gK cK gF cF hK hF (t : ByteArray) (ht : t.size ≤ 140737488354000) => Rf.sum0 W gK cK gF cF t ht hK hF)
  have hz := Rf.zeroK
  have hnb : (n : Int) ≤ 512 := by omega
  go_enter Tryz.func12,Tryz.ntmps12
  go_upto_region 3 with (first | ((with_reducible refine Calls.mono (Rf.of0 _) ?_); rintro e1 w1 ⟨gK,cK,gF,cF,rfl,hK,hF,b1⟩; have hRs := Rf.kc_size 0 (.slice (some ⟨gK,0,none⟩) 64 cK) (.slice (some ⟨gF,0,none⟩) 8 cF); have hone : (Rf.kc 0 (.slice (some ⟨gK,0,none⟩) 64 cK) (.slice (some ⟨gF,0,none⟩) 8 cF)).all (·.oneCell') = true := (by simp [Rf.kc,Rf.n3,Value.oneCell']); have CC := CS.out; have CC1 := fun W hK hF => CC W gK cK gF cF hK hF; obtain ⟨R,hR⟩ : ∃ R,Rf.kc 0 (.slice (some ⟨gK,0,none⟩) 64 cK) (.slice (some ⟨gF,0,none⟩) 8 cF) = R := ⟨_,rfl⟩; rw [hR] at hRs hone CC1 ⊢; have CC2 := Lib.hid CC1; clear CC CC1 hR; have hsz : (Tryz.prog.info? 61).map (·.size) = some R.size := (by rw [hRs]; exact Rf.infoKd); have hzs : Rf.zk.size = R.size := (by rw [hRs]; rfl); clear hRs) | (refine wpList_store_row rfl 61 (.tmp 6) (.tmp 11) rfl w1.heap.size R rfl rfl 61 _ (heap_alloc_new w1 _) hsz hzs hone ?_; rw [World.setRow_alloc_new]))
  have r2 := heap_alloc_new w1 (.cells R 61)
  have b2 : Below w1.heap.size w1 (w1.alloc (.cells R 61)) := (Below.refl _ _).alloc (Nat.le_refl _) _
  have hK2 := hK.bel b2
  have hF2 := hF.bel b2
  obtain ⟨g,hg⟩ : ∃ g,w1.heap.size = g := ⟨_,rfl⟩
  have B2 := b1.trans (b2.mono b1.size)
  rw [hg] at r2 ⊢
  clear CS hK hF b1 b2 hg hzs hone hz
  generalize w1.alloc (.cells R 61) = w2 at r2 B2 hK2 hF2 ⊢
  have CD := Lib.hid (fun W (hW : Below w2.heap.size w2 W) => CC2.out W (hK2.bel hW) (hF2.bel hW))
  have hg2 : g < w2.heap.size := (Array.getElem?_eq_some_iff.1 r2).1
  have H2 := Lib.hid (And.intro r2 (And.intro B2 (And.intro hg2 hs)))
  clear CC2 hK2 hF2 r2 B2 hg2
  go_upto_region 4 with fail
  go_loopw [5,8] (fun v iv wr => ∃ i : Nat,i ≤ 17 ∧ iv = .int .i64 (i : Int) ∧ v = .string (Tx.ba (Rs.maskL s.data.toList i)) ∧ (0 < i → 32 * (i - 1) < n) ∧ Below w2.heap.size w2 wr) (fun _ iv _ => 17 - (intOf iv).toNat)
  case atStart => exact ⟨0,by omega,rfl,rfl,fun h => by omega,Below.refl _ _⟩
  case round =>
  obtain ⟨i,hi,rfl,rfl,hlow,hb⟩ := hrel
  obtain ⟨w4,rfl⟩ : ∃ w4,w4 = wr := ⟨_,rfl⟩
  obtain ⟨O,hO⟩ : ∃ O,Tx.ba (Rs.maskL s.data.toList i) = O := ⟨_,rfl⟩
  have hOs : O.size = 32 * i := by rw [← hO]; exact Rs.maskL_len _ _
  rw [hO]
  by_cases hlt : 32 * i < n
  · have hltz : (O.size : Int) < (n : Int) := by omega
    have hi16 : i ≤ 16 := by omega
    have hi0 : 0 ≤ (i : Int) := by omega
    have hib : (i : Int) ≤ 16 := by omega
    have q1 : Int.tdiv (i : Int) 256 = 0 := by rw [Int.tdiv_eq_ediv_of_nonneg (by omega)]; omega
    have q2 : Int.tmod (i : Int) 256 = (i : Int) := by rw [Int.tmod_eq_emod_of_nonneg (by omega)]; omega
    have q4 : IntKind.u8.wrap (i : Int) = (i : Int) := by rw [IntKind.wrap_u8]; omega
    have hr4 : w4.heap[g]? = some (.cells R 61 (0,0)) := (hb.block g H2.out.2.2.1).trans H2.out.1
    have hOb : O.size ≤ 512 := by omega
    have hsb : s.size ≤ 140737488352000 := H2.out.2.2.2
    have hcv := fun W => Rs.conv4 W i (by omega)
    obtain ⟨x,hx⟩ : ∃ x,Tx.ba [0,0,0,UInt8.ofNat i] = x := ⟨_,rfl⟩
    rw [hx] at hcv
    have hxs : x.size = 4 := by rw [← hx]; rfl
    have hyl : Tx.ba (Hs.sum 0 (s ++ x).data.toList) = Tx.ba (Hs.sum 0 (s.data.toList ++ [0,0,0,UInt8.ofNat i])) := by
      rw [← hx]
      first | (congr 2; simp [Tx.ba]; done) | congr 2
    obtain ⟨y,hy⟩ : ∃ y,Tx.ba (Hs.sum 0 (s ++ x).data.toList) = y := ⟨_,rfl⟩
    have hys : y.size = 32 := by rw [← hy]; exact Rs.sum_len _
    have hsx : (s ++ x).size ≤ 140737488354000 := by rw [ByteArray.size_append]; omega
    have HC := Lib.hid (fun W hW => CD.out W hW (s ++ x) hsx)
    rw [hy] at HC hyl
    have hnx : Tx.ba (Rs.maskL s.data.toList (i + 1)) = O ++ y := by rw [hyl,← hO,Rs.ba_app]; rfl
    have H4 := Lib.hid (And.intro hb (And.intro hnx hlt))
    clear hb hO hy hyl hnx hx hlow hlt hsx
    go_wp2_with (refine wpList_load_row rfl 61 (.tmp 6) rfl g rfl 61 _ (0,0) _ hr4 Tryz.underlying61 rfl hsz ?_)
    have hb6 := H4.out.1.alloc H4.out.1.size (Obj.cells #[.int .u8 0,.int .u8 0,.int .u8 0,.int .u8 (i : Int)] 5)
    clear hcv
    revert hb6
    generalize w4.alloc (Obj.cells #[.int .u8 0,.int .u8 0,.int .u8 0,.int .u8 (i : Int)] 5) = w6
    intro hb6
    refine Calls.mono (HC.out w6 hb6) ?_
    rintro e7 w7 ⟨rfl,hb7⟩
    have H7 := Lib.hid (hb6.trans (hb7.mono hb6.size))
    clear hb6 hb7
    go_wp2_with fail
    exact ⟨⟨i + 1,by omega,by go_num,by rw [H4.out.2.1],fun _ => by rw [Nat.add_sub_cancel]; exact H4.out.2.2,H7.out⟩,by simp [intOf]; omega⟩
  · have hltz : ¬ (O.size : Int) < (n : Int) := by omega
    have hle : (n : Int) ≤ (O.size : Int) := by omega
    have hm := Rs.mask_pre s i n hi (by omega)
    rw [hO] at hm
    have HF := Lib.hid (And.intro hm (H2.out.2.1.trans (hb.mono H2.out.2.1.size)))
    clear hm hb hO hlow hlt
    go_wp2_with fail
    go_ret
    exact ⟨by rw [← HF.out.1]; rfl,HF.out.2⟩
end
end
end Go.Proofs.YthlecdggkolgmaaGreatDoor
