/- Base64url: Base64. -/
import Derived.Test.YtejnhhhmjkiehaaDoorB64
namespace Go.Proofs.YtejnhhhmjkiehaaDoor
open Go.RowKit

theorem Tx.b64_step3 (l : List UInt8) (k : Nat) (h3 : k % 3 = 0) (h : k + 2 < l.length) : Tx.b64L (l.take (k + 3)) = Tx.b64L (l.take k) ++ Tx.g3 l[k] l[k + 1] l[k + 2] := by
  rw [List.take_succ_eq_append_getElem h, List.take_succ_eq_append_getElem (by omega : k + 1 < l.length), List.take_succ_eq_append_getElem (by omega : k < l.length), List.append_assoc, List.append_assoc, Tx.b64_append3 _ _ (by simp; omega)]
  rfl
theorem Tx.b64_step2 (l : List UInt8) (k : Nat) (h3 : k % 3 = 0) (h : k + 2 = l.length) : Tx.b64L (l.take (k + 3)) = Tx.b64L (l.take k) ++ Tx.g2 l[k] l[k + 1] := by
  have e : l.take (k + 3) = l.take (k + 2) := by rw [List.take_of_length_le (by omega), List.take_of_length_le (by omega)]
  rw [e, List.take_succ_eq_append_getElem (by omega : k + 1 < l.length), List.take_succ_eq_append_getElem (by omega : k < l.length), List.append_assoc, Tx.b64_append3 _ _ (by simp; omega)]
  rfl
theorem Tx.b64_step1 (l : List UInt8) (k : Nat) (h3 : k % 3 = 0) (h : k + 1 = l.length) : Tx.b64L (l.take (k + 3)) = Tx.b64L (l.take k) ++ Tx.g1 l[k] := by
  have e : l.take (k + 3) = l.take (k + 1) := by rw [List.take_of_length_le (by omega), List.take_of_length_le (by omega)]
  rw [e, List.take_succ_eq_append_getElem (by omega : k < l.length), Tx.b64_append3 _ _ (by simp; omega)]
  rfl
theorem Tx.b64_bstep3 (s : ByteArray) (k : Nat) (h3 : k % 3 = 0) (h : k + 2 < s.size) : Tx.b64L (s.data.toList.take (k + 3)) = Tx.b64L (s.data.toList.take k) ++ Tx.g3 s[k] s[k + 1] s[k + 2] :=
  Tx.b64_step3 s.data.toList k h3 (by rw [Tx.len]; exact h)
theorem Tx.b64_bstep2 (s : ByteArray) (k : Nat) (h3 : k % 3 = 0) (h : k + 2 = s.size) : Tx.b64L (s.data.toList.take (k + 3)) = Tx.b64L (s.data.toList.take k) ++ Tx.g2 s[k] s[k + 1] :=
  Tx.b64_step2 s.data.toList k h3 (by rw [Tx.len]; exact h)
theorem Tx.b64_bstep1 (s : ByteArray) (k : Nat) (h3 : k % 3 = 0) (h : k + 1 = s.size) : Tx.b64L (s.data.toList.take (k + 3)) = Tx.b64L (s.data.toList.take k) ++ Tx.g1 s[k] :=
  Tx.b64_step1 s.data.toList k h3 (by rw [Tx.len]; exact h)
theorem Tx.ba_ext {a b : ByteArray} (h : a.data.toList = b.data.toList) : a = b := by
  cases a; cases b; simp only [ByteArray.mk.injEq]; exact Array.toList_inj.1 h
theorem Tx.ext_list (s : ByteArray) (i j : Nat) : (s.extract i j).data.toList = (s.data.toList.drop i).take (j - i) := by
  simp
theorem Tx.ext3 (s : ByteArray) (k : Nat) (h : k + 2 < s.size) : s.extract k (k + 3) = ⟨#[s[k], s[k + 1], s[k + 2]]⟩ := by
  have hl := Tx.len s
  apply Tx.ba_ext
  rw [Tx.ext_list, List.drop_eq_getElem_cons (by omega : k < s.data.toList.length), List.drop_eq_getElem_cons (by omega : k + 1 < s.data.toList.length), List.drop_eq_getElem_cons (by omega : k + 2 < s.data.toList.length), show k + 3 - k = 3 by omega]
  rfl
theorem Tx.ext2 (s : ByteArray) (k : Nat) (h : k + 1 < s.size) : s.extract k (k + 2) = ⟨#[s[k], s[k + 1]]⟩ := by
  have hl := Tx.len s
  apply Tx.ba_ext
  rw [Tx.ext_list, List.drop_eq_getElem_cons (by omega : k < s.data.toList.length), List.drop_eq_getElem_cons (by omega : k + 1 < s.data.toList.length), show k + 2 - k = 2 by omega]
  rfl
theorem Tx.ext1 (s : ByteArray) (k : Nat) (h : k < s.size) : s.extract k (k + 1) = ⟨#[s[k]]⟩ := by
  have hl := Tx.len s
  apply Tx.ba_ext
  rw [Tx.ext_list, List.drop_eq_getElem_cons (by omega : k < s.data.toList.length), show k + 1 - k = 1 by omega]
  rfl

set_option maxHeartbeats 4000000 in
set_option maxRecDepth 100000 in
theorem Tx.Base64_any (s : ByteArray) (w : World) (hs : s.size ≤ 70368744177664) :
    Calls Tryd.prog 19 #[.string s] w fun e w' => e = .returned (.string (Tx.ba (Tx.b64L s.data.toList))) ∧ Below w.heap.size w w' := by
  go_enter Tryd.func19, Tryd.ntmps19
  go_wp2_with (at_make; refine Tx.make rfl _ _ rfl w.heap.size ((4 * s.size + 2) / 3) _ rfl rfl (by omega) (by omega) (Nat.le_refl _) ?_; intro v0 w0 hown0 hb0 hz0)
  go_loopw [3, 4] (fun v i wr => ∃ k : Nat, k ≤ s.size + 2 ∧ k % 3 = 0 ∧ i = .int .i64 k ∧ Tx.Own wr w.heap.size v (Tx.b64L (s.data.toList.take k)) ∧ Below w.heap.size w wr) (fun _ i _ => s.size + 3 - (intOf i).toNat)
  case atStart => exact ⟨0, by omega, by omega, rfl, by simpa [Tx.b64L] using hown0, hb0⟩
  case round =>
    obtain ⟨k, hk, h3, rfl, hown, hb⟩ := hrel
    have H3 := Lib.hid h3
    clear h3
    have hbs := hb.size
    by_cases hlt : k < s.size
    · have hll : (Tx.b64L (s.data.toList.take k)).length + 4 ≤ 140737488355328 := by
        rw [Tx.b64_length, List.length_take]; omega
      by_cases h2 : k + 2 < s.size
      · have hx := Tx.ext3 s k h2
        have HST := Lib.hid (Tx.b64_bstep3 s k H3.out h2)
        have cg := Tx.writeGroup3 s[k] s[k + 1] s[k + 2] w.heap.size u3 (Tx.b64L (s.data.toList.take k)) wr hbs hown hll
        have z1 : (k : Int) + 3 ≤ (s.size : Int) := by omega
        have z2 : ((k : Int) + 3).toNat = k + 3 := by omega
        go_wp2_with fail
        refine cg.mono ?_
        rintro e w1 ⟨v1, rfl, hown1, hb1⟩
        go_wp2_with fail
        exact ⟨⟨k + 3, by omega, by have := H3.out; omega, by go_num, by rw [HST.out]; exact hown1, hb.trans hb1⟩, by simp [intOf]; omega⟩
      · by_cases h1 : k + 1 < s.size
        · have hx := Tx.ext2 s k h1
          have HST := Lib.hid (Tx.b64_bstep2 s k H3.out (by omega))
          have cg := Tx.writeGroup2 s[k] s[k + 1] w.heap.size u3 (Tx.b64L (s.data.toList.take k)) wr hbs hown hll
          have hsz : s.size = k + 2 := by omega
          rw [← hsz] at hx
          have z0 : ¬ ((k : Int) + 3 ≤ (s.size : Int)) := by omega
          clear hsz
          go_wp2_with fail
          refine cg.mono ?_
          rintro e w1 ⟨v1, rfl, hown1, hb1⟩
          go_wp2_with fail
          exact ⟨⟨k + 3, by omega, by have := H3.out; omega, by go_num, by rw [HST.out]; exact hown1, hb.trans hb1⟩, by simp [intOf]; omega⟩
        · have hx := Tx.ext1 s k hlt
          have HST := Lib.hid (Tx.b64_bstep1 s k H3.out (by omega))
          have cg := Tx.writeGroup1 s[k] w.heap.size u3 (Tx.b64L (s.data.toList.take k)) wr hbs hown hll
          have hsz : s.size = k + 1 := by omega
          rw [← hsz] at hx
          have z0 : ¬ ((k : Int) + 3 ≤ (s.size : Int)) := by omega
          clear hsz
          go_wp2_with fail
          refine cg.mono ?_
          rintro e w1 ⟨v1, rfl, hown1, hb1⟩
          go_wp2_with fail
          exact ⟨⟨k + 3, by omega, by have := H3.out; omega, by go_num, by rw [HST.out]; exact hown1, hb.trans hb1⟩, by simp [intOf]; omega⟩
    · have hall : s.data.toList.take k = s.data.toList := List.take_of_length_le (by rw [Tx.len]; omega)
      have hcv := hown.conv
      rw [hall] at hcv
      clear hall
      go_wp2
      go_ret
      exact ⟨rfl, hb⟩
end Go.Proofs.YtejnhhhmjkiehaaDoor
