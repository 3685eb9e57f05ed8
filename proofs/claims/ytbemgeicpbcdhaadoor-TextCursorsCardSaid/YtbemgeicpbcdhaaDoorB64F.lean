/- Base64url: readBase64, FromBase64. -/
import Derived.Test.YtbemgeicpbcdhaaDoorB64G
namespace Go.Proofs.YtbemgeicpbcdhaaDoor
open Go.RowKit

set_option maxHeartbeats 4000000 in
set_option maxRecDepth 100000 in
theorem Tx.readBase64_any (s : ByteArray) (w : World) (hs : s.size ≤ 70368744177664) :
    Calls Tryd.prog 24 #[.string s] w (Tx.BytesOr 11 (Tx.unb64L s.data.toList) w) := by
  go_enter Tryd.func24, Tryd.ntmps24
  go_wp2_with (at_make; refine Tx.make rfl _ _ rfl w.heap.size (3 * s.size / 4) _ rfl rfl (by omega) (by omega) (Nat.le_refl _) ?_; intro v0 w0 hown0 hb0 hz0)
  go_loopw [4, 5] (fun v i wr => ∃ (k : Nat) (l : List UInt8), k ≤ s.size + 3 ∧ i = .int .i64 k ∧ l.length ≤ k ∧ Tx.Own wr w.heap.size v l ∧ Below w.heap.size w wr ∧ Tx.unb64L s.data.toList = (Tx.unb64L (s.data.toList.drop k)).map (l ++ ·)) (fun _ i _ => s.size + 4 - (intOf i).toNat)
  case atStart => exact ⟨0, [], by omega, rfl, by simp, hown0, hb0, by simp⟩
  case round =>
    obtain ⟨k, l, hk, rfl, hl, hown, hb, he⟩ := hrel
    have HE := Lib.hid he
    clear he
    have hbs := hb.size
    have hlen := Tx.len s
    by_cases hlt : k < s.size
    · have hne : s.data.toList.drop k ≠ [] := by intro h; have := congrArg List.length h; simp at this; omega
      have HST := Lib.hid (Tx.unb64_step _ hne)
      have g1 : 1 ≤ ((s.data.toList.drop k).take 4).length := by simp; omega
      have g4 : ((s.data.toList.drop k).take 4).length ≤ 4 := by simp; omega
      have hll : l.length + 4 ≤ 140737488355328 := by omega
      clear hne hlen
      rcases hu : Tx.ungroup ((s.data.toList.drop k).take 4) with _ | g
      · have cg := fun W => Tx.readGroup_none hu g1 g4 u4 W
        have HU := Lib.hid hu
        clear hu
        by_cases h4 : k + 4 ≤ s.size
        · have hx := Tx.ext4 s k h4
          have z1 : (k : Int) + 4 ≤ (s.size : Int) := by omega
          have z2 : ((k : Int) + 4).toNat = k + 4 := by omega
          have zm : min ((k : Int) + 4) (s.size : Int) = (k : Int) + 4 := by omega
          obtain ⟨gb, hgb⟩ : ∃ gb, gb = Tx.ba ((s.data.toList.drop k).take 4) := ⟨_, rfl⟩
          rw [← hgb] at hx cg
          clear hgb
          go_wp2_with fail
          refine (cg _).mono ?_
          rintro e w' ⟨n, x, rfl, hc, rfl⟩
          obtain ⟨T, xv, rfl⟩ := hc.iface
          go_wp2_with fail
          go_ret2
          refine Tx.BytesOr.mk_none ?_ hb (.placed _ hc)
          rw [HE.out, HST.out, HU.out]; rfl
        · have hx := Tx.ext_end s k (by omega)
          have z1 : ¬ ((k : Int) + 4 ≤ (s.size : Int)) := by omega
          have zm : min ((k : Int) + 4) (s.size : Int) = (s.size : Int) := by omega
          obtain ⟨gb, hgb⟩ : ∃ gb, gb = Tx.ba ((s.data.toList.drop k).take 4) := ⟨_, rfl⟩
          rw [← hgb] at hx cg
          clear hgb
          go_wp2_with fail
          refine (cg _).mono ?_
          rintro e w' ⟨n, x, rfl, hc, rfl⟩
          obtain ⟨T, xv, rfl⟩ := hc.iface
          go_wp2_with fail
          go_ret2
          refine Tx.BytesOr.mk_none ?_ hb (.placed _ hc)
          rw [HE.out, HST.out, HU.out]; rfl
      · have cg := Tx.readGroup_some hu w.heap.size u4 l wr hbs hown hll
        have hgl := Tx.ungroup_len hu
        have hgl2 : (l ++ g).length ≤ k + 4 := by simp; omega
        have HU := Lib.hid hu
        clear hu hgl
        have hfin : Tx.unb64L s.data.toList = (Tx.unb64L (s.data.toList.drop (k + 4))).map ((l ++ g) ++ ·) := by
          rw [HE.out, HST.out, HU.out]
          simp [Option.map_map, Function.comp_def, List.drop_drop]
        have HF := Lib.hid hfin
        clear hfin
        by_cases h4 : k + 4 ≤ s.size
        · have hx := Tx.ext4 s k h4
          have z1 : (k : Int) + 4 ≤ (s.size : Int) := by omega
          have z2 : ((k : Int) + 4).toNat = k + 4 := by omega
          have zm : min ((k : Int) + 4) (s.size : Int) = (k : Int) + 4 := by omega
          obtain ⟨gb, hgb⟩ : ∃ gb, gb = Tx.ba ((s.data.toList.drop k).take 4) := ⟨_, rfl⟩
          rw [← hgb] at hx cg
          clear hgb g1 g4
          go_wp2_with fail
          refine cg.mono ?_
          rintro e w1 ⟨v1, rfl, hown1, hb1⟩
          go_wp2_with fail
          exact ⟨⟨k + 4, l ++ g, by omega, by go_num, hgl2, hown1, hb.trans hb1, HF.out⟩, by simp [intOf]; omega⟩
        · have hx := Tx.ext_end s k (by omega)
          have z1 : ¬ ((k : Int) + 4 ≤ (s.size : Int)) := by omega
          have zm : min ((k : Int) + 4) (s.size : Int) = (s.size : Int) := by omega
          obtain ⟨gb, hgb⟩ : ∃ gb, gb = Tx.ba ((s.data.toList.drop k).take 4) := ⟨_, rfl⟩
          rw [← hgb] at hx cg
          clear hgb g1 g4
          go_wp2_with fail
          refine cg.mono ?_
          rintro e w1 ⟨v1, rfl, hown1, hb1⟩
          go_wp2_with fail
          exact ⟨⟨k + 4, l ++ g, by omega, by go_num, hgl2, hown1, hb.trans hb1, HF.out⟩, by simp [intOf]; omega⟩
    · have hk' : s.data.toList.drop k = [] := List.drop_eq_nil_of_le (by omega)
      have hr := HE.out
      rw [hk'] at hr
      have HR := Lib.hid hr
      clear hr hk' hlen
      go_wp2
      go_ret2
      exact Tx.BytesOr.mk_some (by rw [HR.out]; simp [Tx.unb64L]) hb hown

set_option maxHeartbeats 4000000 in
set_option maxRecDepth 100000 in
theorem Tx.FromBase64_any (s : ByteArray) (w : World) (hs : s.size ≤ 70368744177664) (hg : As.ErrVar w) :
    Calls Tryd.prog 15 #[.string s] w fun e w' => e = .returned (Tx.bytesAns 11 (Tx.unb64L s.data.toList)) ∧ Below w.heap.size w w' := by
  have cr := Tx.readBase64_any s w hs
  have h3 := hg.size
  have HG := Lib.hid hg
  clear hg
  rcases hr : Tx.unb64L s.data.toList with _ | b
  · rw [hr] at cr
    have HR := Lib.hid hr
    clear hr
    go_enter Tryd.func15, Tryd.ntmps15
    go_wp2_with fail
    refine cr.mono ?_
    rintro e w1 ⟨hb, n, x, rfl, hx⟩
    have ct := As.told_err 11 n x hx
    have cn := Tx.conv_nil
    have hg1 := HG.out.below hb h3
    have HG1 := Lib.hid hg1
    clear hg1
    go_wp2_with fail
    go_region_held3 (fun w' => True) (trivial) ((refine (ct _ (by exact HG1.out)).mono ?_; rintro e w2 ⟨rfl, hb2⟩))
    all_goals
      go_wp2
      go_ret2
      exact ⟨rfl, hb.drew.trans (hb2.mono hb.size)⟩
  · rw [hr] at cr
    have HR := Lib.hid hr
    clear hr
    go_enter Tryd.func15, Tryd.ntmps15
    go_wp2_with fail
    refine cr.mono ?_
    rintro e w1 ⟨hb, v, rfl, hown⟩
    have ct := fun wx => (As.told_nil wx).mono fun _ _ (h : _ ∧ _) => And.intro h.1 h.2.symm
    have hcv := fun n => (hown.drewN n).conv
    go_wp2_with fail
    go_quiet ((go_at_call 22; exact Calls.quiet_of_same (ct _)))
    go_wp2
    go_ret2
    exact ⟨rfl, below_drewN hb nq⟩
end Go.Proofs.YtbemgeicpbcdhaaDoor
