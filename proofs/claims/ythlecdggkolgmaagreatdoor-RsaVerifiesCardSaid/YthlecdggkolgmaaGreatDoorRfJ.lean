/- The reference's kinds: Of. -/
import Derived.Test.YthlecdggkolgmaaGreatDoorRfF
import Derived.Test.YthlecdggkolgmaaGreatDoorHsU
import Derived.Test.YthlecdggkolgmaaGreatDoorHsW
import Derived.Deep.AppendLies
import Derived.Great.BuildSlice
namespace Go.Proofs.YthlecdggkolgmaaGreatDoor
section
section
open Go.RowKit

theorem Rf.getD_in (l : List Nat) (j : Nat) (h : j < l.length) : l.getD j 0 = l[j] := by simp [List.getD,h]
set_option maxHeartbeats 400000 in
set_option maxRecDepth 100000 in
theorem Rf.primes_any (w : World) :
    Calls Tryz.prog 50 #[.int .i64 80] w fun e w' => ∃ g cap,e = .returned (.slice (some ⟨g,0,none⟩) 80 cap) ∧ w.heap.size ≤ g ∧ Rf.Dig w' g 80 (fun j => Rf.ps.getD j 0) ∧ Below w.heap.size w w' := by
  go_enter Tryz.func50,Tryz.ntmps50
  go_wp2_with fail
  have hO := Rf.OwnQ.empty w w.heap.size (Nat.le_refl _)
  have hB : Below w.heap.size w (w.alloc (.cells #[] 76)) := (Below.refl _ _).alloc (Nat.le_refl _) _
  obtain ⟨q,hq⟩ : ∃ q,w.heap.size = q := ⟨_,rfl⟩
  rw [hq] at hO hB ⊢
  generalize w.alloc (.cells #[] 76) = w1 at hO hB ⊢
  go_loopw [3,4] (fun sv xv wr => ∃ (m g cap L : Nat) (l : List Nat),m ≤ 408 ∧ xv = .int .u64 ((m + 2 : Nat) : Int) ∧ sv = .slice (some ⟨g,0,none⟩) L cap ∧ l = Rf.sv m ∧ l.length = L ∧ q ≤ g ∧ Rf.OwnQ wr q sv l ∧ Below q w wr) (fun _ xv _ => 500 - (intOf xv).toNat)
  case atStart => exact ⟨0,q,0,0,[],by omega,rfl,rfl,rfl,rfl,Nat.le_refl _,hO,hB⟩
  case round =>
  clear hO hB
  obtain ⟨m,g,cap,L,l,hm,rfl,rfl,hl,hL,hqg,hO,hB⟩ := hrel
  obtain ⟨w2,rfl⟩ : ∃ w2,w2 = wr := ⟨_,rfl⟩
  have hL80 : L ≤ 80 := by rw [← hL,hl]; exact Rf.sv_len m hm
  by_cases h80 : L = 80
  · subst h80
    have hfull : l = Rf.ps := by rw [hl]; exact Rf.sv_full m hm (by rw [← hl,hL]; exact Nat.le_refl _)
    have hD : Rf.Dig w2 g 80 (fun j => Rf.ps.getD j 0) := by
      rcases hO.cell with h | h
      · rwa [hL,hfull] at h
      · rw [h] at hL; simp at hL
    clear hfull hl hL
    go_wp2_with fail
    go_ret
    exact ⟨g,cap,rfl,by rw [hq]; exact hqg,hD,by rw [hq]; exact hB⟩
  · have hLz : (L : Int) < 80 := by omega
    have hm2 : m < 408 := by
      rcases Nat.lt_or_ge m 408 with h | h
      · exact h
      · obtain rfl : m = 408 := by omega
        rw [Rf.sv_ps] at hl
        rw [hl] at hL
        exact absurd hL.symm h80
    have hD : Rf.Dig w2 g L (fun j => l.getD j 0) := by
      rcases hO.cell with h | h
      · rwa [hL] at h
      · obtain rfl : L = 0 := by rw [← hL,h]; rfl
        exact ⟨fun j hj => absurd hj (by omega),by
          rcases hO.2 with ⟨hv,_⟩ | ⟨g',_,_,hv,_,hgg,_⟩
          · simp at hv
          · simp only [Value.slice.injEq,Option.some.injEq,Addr.mk.injEq] at hv
            rw [hv.1.1]; exact (Array.getElem?_eq_some_iff.1 hgg).1⟩
    have htwo : ∀ j,j < L → 2 ≤ l.getD j 0 ∧ l.getD j 0 < 2000 := by
      intro j hj
      have hj2 : j < l.length := by omega
      have := Rf.sv_two m (l.getD j 0) (by rw [Rf.getD_in _ _ hj2,← hl]; exact List.getElem_mem hj2)
      omega
    obtain ⟨x,hx⟩ : ∃ x,m + 2 = x := ⟨_,rfl⟩
    rw [hx]
    have hx2 : x ≤ 409 := by omega
    have HL := Lib.hid (And.intro hl hL)
    have HX := Lib.hid hx
    clear hl hL hx h80
    go_wp2_with fail
    go_loopw [5,6] (fun bv iv wr => ∃ (i : Nat) (b : Bool),i ≤ L ∧ bv = .bool b ∧ iv = .int .i64 (i : Int) ∧ b = (l.take i).all (fun p => x % p != 0) ∧ wr = w2) (fun _ iv _ => L - (intOf iv).toNat)
    case atStart => exact ⟨0,true,by omega,rfl,rfl,rfl,rfl⟩
    case round =>
    obtain ⟨i,b,hi,rfl,rfl,hb,hw⟩ := hrel
    by_cases hiL : i < L
    · have hiz : (i : Int) < (L : Int) := by omega
      have hi0 : 0 ≤ (i : Int) := by omega
      have ci := hD.cell i hiL
      have hp := htwo i hiL
      have hnext : ((l.take (i + 1)).all (fun p => x % p != 0)) = (b && (x % l.getD i 0 != 0)) := by
        have hi2 : i < l.length := by have := HL.out.2; omega
        rw [List.take_add_one,List.all_append,← hb,List.getElem?_eq_getElem hi2,Rf.getD_in _ _ hi2]
        simp
      obtain ⟨p,hpp⟩ : ∃ p,l.getD i 0 = p := ⟨_,rfl⟩
      rw [hpp] at hnext hp
      have ci : wr.cell? ⟨g,i,none⟩ = some (.int .u64 (p : Int)) := by rw [hw,ci,hpp]
      have HN := Lib.hid hnext
      have HW := Lib.hid hw
      have hp0 : ¬ (p : Int) = 0 := by omega
      have hp00 : ((p : Int) == 0) = false := by rw [beq_eq_false_iff_ne]; omega
      have hmod : (x : Int).tmod (p : Int) = ((x % p : Nat) : Int) := by rw [Int.tmod_eq_emod_of_nonneg (by omega)]; simp
      have hmod2 : (x : Int) % (p : Int) = ((x % p : Nat) : Int) := by simp
      obtain ⟨r,hr⟩ : ∃ r,x % p = r := ⟨_,rfl⟩
      rw [hr] at hmod hmod2
      have HR := Lib.hid hr
      clear hb hnext hpp hr hw
      cases b
      · go_wp2_with fail
        exact ⟨⟨i + 1,false,by omega,rfl,by go_num,by rw [HN.out]; rfl,HW.out⟩,by simp [intOf]; omega⟩
      · by_cases hr0 : r = 0
        · subst hr0
          go_wp2_with fail
          exact ⟨⟨i + 1,false,by omega,by simp,by go_num,by rw [HN.out,HR.out]; rfl,HW.out⟩,by simp [intOf]; omega⟩
        · have hrz : ((r : Int) != 0) = true := by rw [bne_iff_ne]; omega
          go_wp2_with fail
          exact ⟨⟨i + 1,true,by omega,rfl,by go_num,by rw [HN.out,HR.out]; simp [hr0],HW.out⟩,by simp [intOf]; omega⟩
    · obtain rfl : i = L := by omega
      have hiz : ¬ (i : Int) < (i : Int) := by omega
      rw [List.take_of_length_le (by rw [HL.out.2]; exact Nat.le_refl _)] at hb
      subst hw
      have hsv : Rf.sv (m + 1) = if b then l ++ [x] else l := by
        rw [Rf.sv,HX.out,← HL.out.1,← hb]
      have HS := Lib.hid hsv
      have hll : l.length ≤ 1000 := by rw [HL.out.2]; omega
      have hqs : q ≤ wr.heap.size := by rw [← hq]; exact hB.size
      clear hb hsv
      cases b
      · go_wp2_with fail
        exact ⟨⟨m + 1,g,cap,i,l,by omega,by have := HX.out; congr 1; omega,rfl,by rw [HS.out]; rfl,HL.out.2,hqg,hO,hB⟩,by simp [intOf]; omega⟩
      · go_wp2_with (at_builtin; refine Rf.appendQ rfl _ _ rfl q _ _ rfl (Rf.OwnQ.alloc hO _) ⟨_,0,none⟩ 1 [x] rfl (World.news_of_block (heap_alloc_new _ _)) (by simp; omega) (by simp; omega) ?_; intro v1 w1 hown1 hb1 hz1)
        obtain ⟨g1,cap1,rfl,hg1⟩ := hown1.at (by simp)
        exact ⟨⟨m + 1,g1,cap1,_,l ++ [x],by omega,by have := HX.out; congr 1; omega,rfl,by rw [HS.out]; rfl,rfl,hg1,hown1,(hB.alloc hqs _).trans hb1⟩,by simp [intOf]; omega⟩
end
section
section
open Go.RowKit

set_option maxHeartbeats 400000 in
set_option maxRecDepth 100000 in
theorem Rf.cut_any (w : World) (R : Array Value) (n v : Nat) (h0 : R[0]? = some (.int .i64 (n : Int))) (hn : n = 32 ∨ n = 64) (hv : v < 18446744073709551616) :
    Calls Tryz.prog 53 #[.agg R,.int .u64 (v : Int)] w fun e w' => e = .returned (.int .u64 ((v % 2 ^ n : Nat) : Int)) ∧ Below w.heap.size w w' := by
  have hA : Below w.heap.size w (w.alloc (.cells R 61)) := (Below.refl _ _).alloc (Nat.le_refl _) _
  rcases hn with rfl | rfl
  · have hand : bits .and .u64 (v : Int) 4294967295 = ((v % 2 ^ 32 : Nat) : Int) := by
      have := u64_and_nat v 4294967295 hv (by decide)
      rw [show v &&& 4294967295 = v % 2 ^ 32 from Nat.and_two_pow_sub_one_eq_mod v 32] at this
      exact this
    obtain ⟨r,hr⟩ : ∃ r,v % 2 ^ 32 = r := ⟨_,rfl⟩
    rw [hr] at hand ⊢
    clear hr
    go_enter Tryz.func53,Tryz.ntmps53
    go_wp2_with fail
    go_ret
    exact ⟨rfl,hA⟩
  · have hm : v % 2 ^ 64 = v := Nat.mod_eq_of_lt hv
    rw [hm]
    clear hm
    go_enter Tryz.func53,Tryz.ntmps53
    go_wp2_with fail
    go_ret
    exact ⟨rfl,hA⟩
end
section
open Go.RowKit

theorem Rf.infoKd : (Tryz.prog.info? 61).map (·.size) = some 17 := by kernel_rfl
theorem Rf.takeKd {ops : Array Oper} {S : World → Prop} {op : Oper} {a : Act} (hw : Region.wanted op (yielded ops a.tmps) = true) (x : Operand) (ho : op.op = .load 61 x)
    (q : Nat) (hx : a.eval x = .pointer (some ⟨q,0,none⟩)) (R : Array Value) (hR : R.size = 17) (hS : ∀ W,S W → W.heap[q]? = some (.cells R 61 (0,0))) : YieldsIf Tryz.prog ops S op (.agg R) a := by
  have := yieldsIf_load_mid (P := Tryz.prog) (ops := ops) (S := S) hw 61 x ho q 0 hx R.toList _ (fun W hW => fun j v hv => by
    rw [Nat.zero_add,cell_of_row W q j R _ _ (hS W hW)]
    simpa using hv) Tryz.underlying61 rfl (by rw [Rf.infoKd]; simp [hR])
  exact this
set_option maxHeartbeats 400000 in
set_option maxRecDepth 100000 in
theorem Rf.ror_any (w : World) (R : Array Value) (n v s : Nat) (hR : R.size = 17) (h0 : R[0]? = some (.int .i64 (n : Int))) (hn : n = 32 ∨ n = 64) (hv : v < 2 ^ n) (hs0 : 0 < s) (hs : s < n) :
    Calls Tryz.prog 54 #[.agg R,.int .u64 (v : Int),.int .i64 (s : Int)] w fun e w' => e = .returned (.int .u64 ((Hs.ror n v s : Nat) : Int)) ∧ Below w.heap.size w w' := by
  have hv64 : v < 18446744073709551616 := by rcases hn with rfl | rfl <;> omega
  have hn64 : n ≤ 64 := by omega
  obtain ⟨x,hx⟩ : ∃ x,(v / 2 ^ s ||| v * 2 ^ (n - s) % 2 ^ 64) = x := ⟨_,rfl⟩
  have hx1 : v / 2 ^ s < 18446744073709551616 := Nat.lt_of_le_of_lt (Nat.div_le_self _ _) hv64
  have hx2 : v * 2 ^ (n - s) % 2 ^ 64 < 18446744073709551616 := Nat.mod_lt _ (by decide)
  have hx64 : x < 18446744073709551616 := by rw [← hx]; exact Nat.or_lt_two_pow (n := 64) hx1 hx2
  have hxr : x % 2 ^ n = Hs.ror n v s := by
    rw [← hx,Nat.or_mod_two_pow,Hs.ror,Nat.mod_eq_of_lt (Nat.lt_of_le_of_lt (Nat.div_le_self _ _) hv),Nat.mod_mod_of_dvd _ (Nat.pow_dvd_pow 2 hn64)]
  have hor : bits .or .u64 ((v : Int) / 2 ^ s) (IntKind.u64.wrap ((v : Int) * 2 ^ (n - s))) = (x : Int) := by
    have e1 : (v : Int) / 2 ^ s = ((v / 2 ^ s : Nat) : Int) := by simp
    have e2 : IntKind.u64.wrap ((v : Int) * 2 ^ (n - s)) = ((v * 2 ^ (n - s) % 2 ^ 64 : Nat) : Int) := by
      have : (v : Int) * 2 ^ (n - s) = ((v * 2 ^ (n - s) : Nat) : Int) := by simp
      rw [this]
      generalize v * 2 ^ (n - s) = y
      unfold IntKind.wrap
      simp [IntKind.bits,IntKind.signed]
    rw [e1,e2,u64_or_nat _ _ hx1 hx2,hx]
  have htw : IntKind.i64.wrap ((n : Int) - (s : Int)) = ((n - s : Nat) : Int) := by rw [IntWalk.i64_in _ (by omega)]; omega
  have CC := Lib.hid (fun W => hxr ▸ Rf.cut_any W R n x h0 hn hx64)
  obtain ⟨t,ht⟩ : ∃ t,n - s = t := ⟨_,rfl⟩
  rw [ht] at hor htw
  have ht0 : ¬ (t : Int) < 0 := by omega
  have htm : min t 64 = t := Nat.min_eq_left (by omega)
  clear hx hx1 hx2 hx64 hxr hv64 ht hv hn
  go_enter Tryz.func54,Tryz.ntmps54
  go_upto_region 1 with fail
  have hA : ((w.alloc (.cells R 61)).drewN 1).heap[w.heap.size]? = some (.cells R 61 (0,0)) := heap_alloc_new _ _
  have hB : Below w.heap.size w ((w.alloc (.cells R 61)).drewN 1) := ((Below.refl _ _).alloc (Nat.le_refl _) _).trans (Hs.drewN_below _ 1 |>.mono (by simp))
  obtain ⟨q,hq⟩ : ∃ q,w.heap.size = q := ⟨_,rfl⟩
  rw [hq] at hA hB ⊢
  have hs00 : ¬ (s : Int) < 0 := by omega
  refine wp_region_held_drew (S := fun W => W.heap[q]? = some (.cells R 61 (0,0))) (by kernel_rfl) (hA) (fun hHeld0 => ?_)
  refine wpAnyH_take (i := 1) (oi := ⟨_,_,_,_,_,_⟩) (v := ?vg1_1) rfl (by kernel_rfl) (by kernel_rfl) (by kernel_rfl) (fun _ _ _ h => h) (Or.inl ⟨by rfl,?hyg1_1⟩) (by assumption) ?restg1_1
  case hyg1_1 => (intro W hW; go_simp; try with_reducible rfl)
  try simp only [Act.put,List.setIfInBounds_toArray,List.set_cons_zero,List.set_cons_succ]
  refine wpAnyH_take (i := 2) (oi := ⟨_,_,_,_,_,_⟩) (v := ?vg1_2) rfl (by kernel_rfl) (by kernel_rfl) (by kernel_rfl) (fun _ _ _ h => h) (Or.inl ⟨by rfl,?hyg1_2⟩) (by assumption) ?restg1_2
  case hyg1_2 => (intro W hW; go_simp; try with_reducible rfl)
  try simp only [Act.put,List.setIfInBounds_toArray,List.set_cons_zero,List.set_cons_succ]
  refine wpAnyH_take (i := 4) (oi := ⟨_,_,_,_,_,_⟩) (v := ?vg1_3) rfl (by kernel_rfl) (by kernel_rfl) (by kernel_rfl) (fun _ _ _ h => h) (Or.inl ⟨by rfl,?hyg1_3⟩) (by assumption) ?restg1_3
  case hyg1_3 => (intro W hW; go_simp; try with_reducible rfl)
  try simp only [Act.put,List.setIfInBounds_toArray,List.set_cons_zero,List.set_cons_succ]
  refine wpAnyH_take (i := 7) (oi := ⟨_,_,_,_,_,_⟩) (v := ?vg1_4) rfl (by kernel_rfl) (by kernel_rfl) (by kernel_rfl) (fun _ _ _ h => h) (Or.inl ⟨by rfl,?hyg1_4⟩) (by assumption) ?restg1_4
  case hyg1_4 => (intro W hW; go_simp; try with_reducible rfl)
  try simp only [Act.put,List.setIfInBounds_toArray,List.set_cons_zero,List.set_cons_succ]
  refine wpAnyH_take (i := 0) (oi := ⟨_,_,_,_,_,_⟩) rfl (by kernel_rfl) (by kernel_rfl) (by kernel_rfl) (fun _ _ _ h => h) (Rf.takeKd (by rfl) _ rfl q rfl R hR (fun W hW => hW)) (by assumption) ?restg1_5
  try simp only [Act.put,List.setIfInBounds_toArray,List.set_cons_zero,List.set_cons_succ]
  refine wpAnyH_take (i := 3) (oi := ⟨_,_,_,_,_,_⟩) (v := ?vg1_6) rfl (by kernel_rfl) (by kernel_rfl) (by kernel_rfl) (fun _ _ _ h => h) (Or.inl ⟨by rfl,?hyg1_6⟩) (by assumption) ?restg1_6
  case hyg1_6 => (intro W hW; go_simp; try with_reducible rfl)
  try simp only [Act.put,List.setIfInBounds_toArray,List.set_cons_zero,List.set_cons_succ]
  refine wpAnyH_take (i := 5) (oi := ⟨_,_,_,_,_,_⟩) (v := ?vg1_7) rfl (by kernel_rfl) (by kernel_rfl) (by kernel_rfl) (fun _ _ _ h => h) (Or.inl ⟨by rfl,?hyg1_7⟩) (by assumption) ?restg1_7
  case hyg1_7 => (intro W hW; go_simp; try with_reducible rfl)
  try simp only [Act.put,List.setIfInBounds_toArray,List.set_cons_zero,List.set_cons_succ]
  refine wpAnyH_take (i := 6) (oi := ⟨_,_,_,_,_,_⟩) rfl (by kernel_rfl) (by kernel_rfl) (by kernel_rfl) (fun _ _ _ h => h) (Hs.takeI (by rfl) _ rfl q 0 rfl (n : Int) (fun W hW => (cell_of_row W q 0 R _ _ hW).trans h0)) (by assumption) ?restg1_8
  try simp only [Act.put,List.setIfInBounds_toArray,List.set_cons_zero,List.set_cons_succ]
  refine wpAnyH_take (i := 8) (oi := ⟨_,_,_,_,_,_⟩) (v := ?vg1_9) rfl (by kernel_rfl) (by kernel_rfl) (by kernel_rfl) (fun _ _ _ h => h) (Or.inl ⟨by rfl,?hyg1_9⟩) (by assumption) ?restg1_9
  case hyg1_9 => (intro W hW; go_simp; try with_reducible rfl)
  try simp only [Act.put,List.setIfInBounds_toArray,List.set_cons_zero,List.set_cons_succ]
  try rw [htw]
  refine wpAnyH_take (i := 9) (oi := ⟨_,_,_,_,_,_⟩) (v := ?vg2_1) rfl (by kernel_rfl) (by kernel_rfl) (by kernel_rfl) (fun _ _ _ h => h) (Or.inl ⟨by rfl,?hyg2_1⟩) (by assumption) ?restg2_1
  case hyg2_1 => (intro W hW; go_simp; try with_reducible rfl)
  try simp only [Act.put,List.setIfInBounds_toArray,List.set_cons_zero,List.set_cons_succ]
  refine wpAnyH_take (i := 10) (oi := ⟨_,_,_,_,_,_⟩) (v := ?vg2_2) rfl (by kernel_rfl) (by kernel_rfl) (by kernel_rfl) (fun _ _ _ h => h) (Or.inl ⟨by rfl,?hyg2_2⟩) (by assumption) ?restg2_2
  case hyg2_2 => (intro W hW; go_simp; try with_reducible rfl)
  try simp only [Act.put,List.setIfInBounds_toArray,List.set_cons_zero,List.set_cons_succ]
  refine wpAnyH_ready (rs := [11]) (by kernel_rfl) (by simp) ?_
  refine AllReadyH.cons (o := ⟨_,_,_,_,_,_⟩) rfl (fun K hK => ?_) AllReadyH.nil
  go_simp
  refine Calls.mono (CC.out _) ?_
  rintro e2 w2 ⟨rfl,b2⟩
  have hI2 := (b2.block q (Array.getElem?_eq_some_iff.1 hHeld0).1).trans hHeld0
  have hB2 : Below q w w2 := hB.trans (b2.mono (hq ▸ hB.size))
  go_wp2_with fail
  refine hK.out _ _ (hI2) (fun hHeld1 => ?_)
  clear hK K hHeld0
  try simp only [Act.put,List.setIfInBounds_toArray,List.set_cons_zero,List.set_cons_succ]
  refine wpAnyH_take (i := 12) (oi := ⟨_,_,_,_,_,_⟩) (v := ?vg2_3) rfl (by kernel_rfl) (by kernel_rfl) (by kernel_rfl) (fun _ _ _ h => h) (Or.inl ⟨by rfl,?hyg2_3⟩) (by assumption) ?restg2_3
  case hyg2_3 => (intro W hW; go_simp; try with_reducible rfl)
  try simp only [Act.put,List.setIfInBounds_toArray,List.set_cons_zero,List.set_cons_succ]
  refine wpAnyH_done (by kernel_rfl) ?_ _
  go_wp2_with fail
  go_ret
  exact ⟨rfl,by rw [hq]; exact hB2⟩
end
end
end
section
open Go.RowKit

def Rf.n3 (t : Nat × Nat × Nat) : List Value := [.int .i64 (t.1 : Int),.int .i64 (t.2.1 : Int),.int .i64 (t.2.2 : Int)]
/-- A Kind's cells. -/
def Rf.kc (κ : Nat) (vK vF : Value) : Array Value := ([Value.int .i64 ((Hs.K κ).n : Int),Value.int .i64 ((Hs.K κ).rounds : Int),Value.int .i64 (((Hs.K κ).nn * (Hs.K κ).wb : Nat) : Int)] ++ Rf.n3 (Hs.K κ).a ++ Rf.n3 (Hs.K κ).b ++ Rf.n3 (Hs.K κ).c ++ Rf.n3 (Hs.K κ).d ++ [vK,vF]).toArray
theorem Rf.kc_size (κ : Nat) (vK vF : Value) : (Rf.kc κ vK vF).size = 17 := by simp [Rf.kc,Rf.n3]
def Rf.zk : Array Value := ((List.replicate 15 (Value.int .i64 0)) ++ [Value.slice none 0 0,Value.slice none 0 0]).toArray
theorem Rf.infoKz : (Tryz.prog.info? 61).map (fun i => (i.zero,i.size)) = some (some (.agg Rf.zk),17) := by kernel_rfl
theorem Rf.zeroK (w : World) : (zeroValue 61).run Tryz.prog w = .ok (.agg Rf.zk) w := (zero_of_info Rf.infoKz).1 w
/-- The constants of a kind, rounded to its width. -/
def Rf.kk (κ j : Nat) : Nat := Hs.rk.getD j 0 / 2 ^ (64 - (Hs.K κ).n)
def Rf.c (κ : Nat) : Nat := (Hs.K κ).n / 16
theorem Rf.rootK (w : World) (κ i : Nat) (hκ : κ < 2) (hi : i < (Hs.K κ).rounds) :
    Calls Tryz.prog 51 #[.int .u64 (Rf.ps.getD i 0 : Nat),.int .i64 3,.int .i64 ((Hs.K κ).n : Int)] w fun e w' => e = .returned (.int .u64 (Rf.kk κ i : Int)) ∧ Below w.heap.size w w' := by
  have h : κ = 0 ∨ κ = 1 := by omega
  rcases h with rfl | rfl
  · have hi2 : i < 64 := hi
    exact Rf.root_ps w i 3 2 (Rf.kk 0 i) (by omega) (by omega) (by omega) (by omega) (by omega) (List.all_eq_true.1 Rf.ok_k0 i (List.mem_range.2 hi2))
  · have hi2 : i < 80 := hi
    have e : Rf.kk 1 i = Hs.rk.getD i 0 := Nat.div_one _
    rw [e]
    exact Rf.root_ps w i 3 4 (Hs.rk.getD i 0) (by omega) (by omega) (by omega) (by omega) (by omega) (List.all_eq_true.1 Rf.ok_k1 i (List.mem_range.2 hi2))
theorem Rf.rootF (w : World) (κ i : Nat) (hκ : κ < 2) (hi : i < 8) :
    Calls Tryz.prog 51 #[.int .u64 (Rf.ps.getD (8 * κ + i) 0 : Nat),.int .i64 2,.int .i64 ((Hs.K κ).n : Int)] w fun e w' => e = .returned (.int .u64 ((Hs.first κ).get i : Int)) ∧ Below w.heap.size w w' := by
  have h : κ = 0 ∨ κ = 1 := by omega
  rcases h with rfl | rfl
  · have e : 8 * 0 + i = i := by omega
    rw [e]
    exact Rf.root_ps w i 2 2 ((Hs.first 0).get i) (by omega) (by omega) (by omega) (by omega) (by omega) (List.all_eq_true.1 Rf.ok_h0 i (List.mem_range.2 hi))
  · exact Rf.root_ps w (8 + i) 2 4 ((Hs.first 1).get i) (by omega) (by omega) (by omega) (by omega) (by omega) (List.all_eq_true.1 Rf.ok_h1 i (List.mem_range.2 hi))
/-- How the memory lies while a kind is made: what is told, the kind, the primes. -/
structure Rf.OfS (w0 w5 : World) (q k B κ : Nat) (g : Nat) (vK vF : Value) (W : World) : Prop where
  res : W.heap[q]? = some (.cells Rf.zk 61 (0,0))
  kb : W.heap[k]? = some (.cells (Rf.kc κ vK vF) 61 (0,0))
  pr : Rf.Dig W g 80 (fun j => Rf.ps.getD j 0)
  b : Below q w0 W
  qk : q < k
  kg : k < g
  gB : g < B
  hi : B ≤ W.heap.size
  keep : ∀ b,b < B → b ≠ k → W.heap[b]? = w5.heap[b]?
theorem Rf.OfS.below {w0 w5 W W' : World} {q k B κ g C : Nat} {vK vF : Value} (h : Rf.OfS w0 w5 q k B κ g vK vF W) (hb : Below C W W') (hC : B ≤ C) : Rf.OfS w0 w5 q k B κ g vK vF W' := by
  have h1 := h.qk
  have h2 := h.kg
  have h3 := h.gB
  exact ⟨(hb.block q (by omega)).trans h.res,(hb.block k (by omega)).trans h.kb,h.pr.below hb (by omega),h.b.trans (hb.mono (by omega)),h1,h2,h3,Nat.le_trans h.hi hb.size,fun b hb1 hb2 => (hb.block b (by omega)).trans (h.keep b hb1 hb2)⟩
theorem Rf.kc_setK (κ : Nat) (vK vF v : Value) : (Rf.kc κ vK vF).setIfInBounds 15 v = Rf.kc κ v vF := by simp [Rf.kc,Rf.n3]
theorem Rf.kc_setF (κ : Nat) (vK vF v : Value) : (Rf.kc κ vK vF).setIfInBounds 16 v = Rf.kc κ vK v := by simp [Rf.kc,Rf.n3]
theorem Rf.set_block (W : World) (b j : Nat) (C : Array Value) (T : TypeId) (v : Value) (h : W.heap[b]? = some (.cells C T (0,0))) : (W.setCell ⟨b,j,none⟩ v).heap[b]? = some (.cells (C.setIfInBounds j v) T (0,0)) := by
  simp [World.setCell,Array.getElem?_modify,h]
theorem Rf.set_dig {W : World} {b j g n : Nat} {f : Nat → Nat} {v : Value} (h : Rf.Dig W g n f) (hb : g ≠ b) : Rf.Dig (W.setCell ⟨b,j,none⟩ v) g n f :=
  ⟨fun i hi => (World.cell?_setCell_other _ _ _ _ (fun e => hb (by simpa using (congrArg Addr.block e).symm))).trans (h.cell i hi),by simpa [World.setCell] using h.lt⟩
theorem Rf.OfS.setAny {w0 w5 W : World} {q k B κ g : Nat} {vK vF : Value} (h : Rf.OfS w0 w5 q k B κ g vK vF W) (j : Nat) (v : Value) (uK uF : Value) (e : (Rf.kc κ vK vF).setIfInBounds j v = Rf.kc κ uK uF) : Rf.OfS w0 w5 q k B κ g uK uF (W.setCell ⟨k,j,none⟩ v) := by
  have h1 := h.qk
  have h2 := h.kg
  refine ⟨(Hs.heap_set W _ _ q (by show q ≠ k; omega)).trans h.res,?_,Rf.set_dig h.pr (by omega),h.b.trans ?_,h1,h2,h.gB,by simpa [World.setCell] using h.hi,fun b hb1 hb2 => (Hs.heap_set W _ _ b hb2).trans (h.keep b hb1 hb2)⟩
  · rw [← e]; exact Rf.set_block W _ _ _ _ _ h.kb
  · exact ⟨rfl,rfl,rfl,by simp [World.setCell],fun b hb => Hs.heap_set W _ _ b (by show b ≠ k; omega)⟩
theorem Rf.OfS.kcell {w0 w5 W : World} {q k B κ g : Nat} {vK vF : Value} (h : Rf.OfS w0 w5 q k B κ g vK vF W) (j : Nat) (v : Value) (e : (Rf.kc κ vK vF)[j]? = some v) : W.cell? ⟨k,j,none⟩ = some v := (cell_of_row W k j _ _ _ h.kb).trans e
theorem Rf.Dig.to {w w' : World} {b n : Nat} {f : Nat → Nat} (h : Rf.Dig w b n f) (e : w'.heap[b]? = w.heap[b]?) : Rf.Dig w' b n f := by
  refine ⟨fun j hj => ?_,?_⟩
  · have := h.cell j hj
    simp only [World.cell?,e] at this ⊢
    exact this
  · have h1 := h.lt
    rcases Nat.lt_or_ge b w'.heap.size with h2 | h2
    · exact h2
    · rw [Array.getElem?_eq_none h2,Array.getElem?_eq_getElem h1] at e
      simp at e
/-- Two results, the first a struct in memory. -/
theorem Rf.results_two {P : Program} {fn : Func} {p t : Tmp} {ty : TypeId} (h : fn.results = #[.cell p ty,.tmp t]) (tmps : Array Value) (w : World) (g : Nat) (T : TypeId) (cs : Array Value) (fr : Nat × Nat) (d : TypeDesc) (v : Value)
    (hp : tmps.getD p undef = .pointer (some ⟨g,0,none⟩)) (ht : tmps.getD t undef = v) (hg : w.heap[g]? = some (.cells cs T fr))
    (hu : P.underlying ty = some d) (hd : (match d with | .struct _ | .array _ _ => true | _ => false) = true) (hi : (P.info? ty).map (·.size) = some cs.size) :
    (results fn tmps).run P w = .ok (.tuple #[.agg cs,v]) w := by
  have hp' : tmps[p]?.getD undef = .pointer (some ⟨g,0,none⟩) := by simpa using hp
  have ht' : tmps[t]?.getD undef = v := by simpa using ht
  simp [results,h,hp',ht',asAddr,run_loadVar_row w g T ty cs fr d hg hu hd hi]
theorem Rf.OwnQ.below {w w' : World} {B C : Nat} {v : Value} {l : List Nat} (h : Rf.OwnQ w B v l) (hb : Below C w w') (hB : w.heap.size ≤ C) : Rf.OwnQ w' B v l := by
  refine ⟨h.1,?_⟩
  rcases h.2 with hn | ⟨g,cap,cur,rfl,hg,hgg,rest⟩
  · exact .inl hn
  · refine .inr ⟨g,cap,cur,rfl,hg,?_,rest⟩
    rw [hb.block g (Nat.lt_of_lt_of_le (Array.getElem?_eq_some_iff.1 hgg).1 hB)]
    exact hgg
theorem Rf.OwnQ.set {w : World} {B b j : Nat} {v x : Value} {l : List Nat} (h : Rf.OwnQ w B v l) (hb : b < B) : Rf.OwnQ (w.setCell ⟨b,j,none⟩ x) B v l := by
  refine ⟨h.1,?_⟩
  rcases h.2 with hn | ⟨g,cap,cur,rfl,hg,hgg,rest⟩
  · exact .inl hn
  · refine .inr ⟨g,cap,cur,rfl,hg,?_,rest⟩
    rw [Hs.heap_set w _ _ g (by show g ≠ b; omega)]
    exact hgg
theorem Rf.OwnQ.nil (w : World) (B : Nat) : Rf.OwnQ w B (.slice none 0 0) [] := World.ownsRow_nil w B _ _
/-- append as a step of a region that draws its order. -/
theorem Rf.append_step {w : World} {ops : Array Oper} {o : Oper} {a : Act} {Q : Exit → Act → World → Prop} {K : Act → World → Prop} {E : Prop} (hg : o.guard = none) (s x : Operand) (hop : o.op = .call { callee := .builtin .append,args := #[s,x],argTypes := #[48,48] }) (B : Nat) (v : Value) (l : List Nat) (hs : a.eval s = v) (hown : Rf.OwnQ w B v l)
    (ad : Addr) (c : Nat) (bs : List Nat) (hx : a.eval x = .slice (some ad) bs.length c) (hnew : ∀ j u,(bs.map Rf.qv)[j]? = some u → w.cell? (ad.add j) = some u) (hp : 0 < bs.length) (hlen : l.length + bs.length ≤ 1000000) (hB : B ≤ w.heap.size)
    (hK : ∀ v' w',Rf.OwnQ w' B v' (l ++ bs) → Below B w w' → B ≤ w'.heap.size → K (a.put o.dst v') w') : if Region.wanted o (yielded ops a.tmps) = true then Oper.wp Tryz.prog o a w K Q else E := by
  obtain ⟨i0,hi,hz0,hz1,hz2⟩ := info_parts Rf.info64
  refine step_append_lies w hg s x 48 hop B 76 i0 (.int .u64 0) 1 8 Tryz.underlying48 hi hz0 hz1 hz2 rfl (by decide) v l.length (l.map Rf.qv) hs hown ad bs.length c (bs.map Rf.qv) hx (by simp) hnew (by intro u hu; obtain ⟨b,_,rfl⟩ := List.mem_map.1 hu; rfl) hp (by unfold maxLen; omega) (by omega) hB w.heap.size rfl ?_
  intro g cap w' h1 h2 _ _
  refine hK _ w' ?_ ((Below.refl _ _).grown h2 hB fun k hk => (World.ownsRow.lt hown k hk).1) (Nat.le_trans hB h2.size)
  simpa [Rf.OwnQ] using h1
/-- A number read out of a row, in a region that draws. -/
theorem Rf.takeQ {ops : Array Oper} {S : World → Prop} {op : Oper} {a : Act} (hw : Region.wanted op (yielded ops a.tmps) = true) (x : Operand) (ho : op.op = .load 76 x)
    (g j : Nat) (hx : a.eval x = .pointer (some ⟨g,j,none⟩)) (v : Nat) (hS : ∀ W,S W → W.cell? ⟨g,j,none⟩ = some (.int .u64 (v : Int))) : YieldsIf Tryz.prog ops S op (.int .u64 (v : Int)) a := by
  refine .inl ⟨hw,fun W hW => ?_⟩
  have := hS W hW
  unfold execOp
  simp only [ho,hx,Instr.loadAt,Instr.sureAddr,Sem.run_bind,Sem.run_pure,Result.andThen_ok]
  simp [this,go_sem]
section
variable {w : World} {o : Oper} {a : Act} {Q : Exit → Act → World → Prop} {K : Act → World → Prop}
/-- A slice of numbers is read out of a cell. -/
theorem Rf.wp_load (x : Operand) (ho : o.op = .load 48 x) {p : Addr} (hx : a.eval x = .pointer (some p)) (v : Value) (hc : w.cell? p = some v) (hk : K (a.put o.dst v) w) : Oper.wp Tryz.prog o a w K Q := by
  unfold Oper.wp execOp
  simp only [ho,hx,Instr.loadAt,Instr.sureAddr,Sem.run_bind,Sem.run_pure,Result.andThen_ok]
  simp [hc,go_sem]
  exact hk
theorem Rf.wp_store (x y : Operand) (ho : o.op = .store 48 x y) {p : Addr} (hx : a.eval x = .pointer (some p)) {u : Value} {sa : Option Addr} {n c : Nat} (hy : a.eval y = .slice sa n c) (hc : w.cell? p = some u) (hf : w.frozen? p = false) (hk : K (a.put o.dst undef) (w.setCell p (.slice sa n c))) : Oper.wp Tryz.prog o a w K Q := by
  unfold Oper.wp execOp
  simp only [ho,hx,hy]
  simp [hc,hf,go_sem]
  exact hk
theorem Rf.frozen_of {b j : Nat} {C : Array Value} {T : TypeId} (h : w.heap[b]? = some (.cells C T (0,0))) : w.frozen? ⟨b,j,none⟩ = false := by
  simp [World.frozen?,h]
/-- []uint64{n}. -/
theorem Rf.wp_one (x : Operand) (ho : o.op = .buildSlice 48 1 #[(0,x)]) {n : Nat} (hx : a.eval x = .int .u64 (n : Int))
    (hk : ∀ (w' : World) (g : Nat),(∀ j u,([n].map Rf.qv)[j]? = some u → w'.cell? ((⟨g,0,none⟩ : Addr).add j) = some u) → Below w.heap.size w w' → K (a.put o.dst (.slice (some ⟨g,0,none⟩) 1 1)) w') : Oper.wp Tryz.prog o a w K Q := by
  obtain ⟨i0,hi,hz0,hz1,hz2⟩ := info_parts Rf.info64
  refine wp_buildSlice 48 76 1 #[(0,x)] ho #[.int .u64 (n : Int)] i0 (.int .u64 0) Tryz.underlying48 hi hz0 (by rw [hz1]; decide) (by rw [hz1]; decide) ?_ ?_
  · rw [hz1]
    simp only [List.map_toArray,List.map_cons,List.map_nil,hx]
    kernel_rfl
  · exact hk _ _ (World.news_of_block (heap_alloc_new _ _)) ((Below.refl _ _).alloc (Nat.le_refl _) _)
end
end
end Go.Proofs.YthlecdggkolgmaaGreatDoor
