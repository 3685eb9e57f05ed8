/- The reference's first: the rune with whose UTF-8 bytes begin. -/
import Derived.Test.YtejnhhhmjkiehaaDoorRefU
import Derived.Test.YtejnhhhmjkiehaaDoorUni2
import Derived.Deep.RegionHeld3
namespace Go.Proofs.YtejnhhhmjkiehaaDoor
open Go.RowKit

def Tx.gb (l : List UInt8) (i : Nat) : Nat := (l.getD i 0).toNat
theorem Tx.gb_lt (l : List UInt8) (i : Nat) : Tx.gb l i < 256 := UInt8.toNat_lt _
/-- The number that the first n bytes would be. -/
def Tx.cand (l : List UInt8) : Nat → Nat
  | 1 => Tx.gb l 0
  | 2 => Tx.gb l 0 % 32 * 64 + Tx.gb l 1 % 64
  | 3 => Tx.gb l 0 % 16 * 4096 + Tx.gb l 1 % 64 * 64 + Tx.gb l 2 % 64
  | _ => Tx.gb l 0 % 8 * 262144 + Tx.gb l 1 % 64 * 4096 + Tx.gb l 2 % 64 * 64 + Tx.gb l 3 % 64
def Tx.Fits (l : List UInt8) (n : Nat) : Prop := Tx.Rune (Tx.cand l n) ∧ Tx.enc (Tx.cand l n) = l.take n
theorem Tx.fits_good (l : List UInt8) (n : Nat) (hn : n ≤ l.length) (h : Tx.Fits l n) : Lib.decodeL l = (Tx.cand l n, n) ∧ ¬ ((Lib.decodeL l).1 = 65533 ∧ (Lib.decodeL l).2 = 1) := by
  obtain ⟨hr, he⟩ := h
  have hl := congrArg List.length he
  rw [List.length_take, Nat.min_eq_left hn] at hl
  have e : l = Tx.enc (Tx.cand l n) ++ l.drop n := by rw [he, List.take_append_drop]
  have hd := Tx.decodeL_enc (Tx.cand l n) hr (l.drop n)
  rw [← e, hl] at hd
  refine ⟨hd, ?_⟩
  rw [hd]
  have := Tx.not_bad _ hr
  rw [hl] at this
  exact this
theorem Tx.cand_enc (r : Nat) (hr : Tx.Rune r) (t : List UInt8) : Tx.cand (Tx.enc r ++ t) (Tx.enc r).length = r := by
  have hb : r ≤ 1114111 := by unfold Tx.Rune at hr; omega
  by_cases h1 : r < 128
  · simp only [Tx.enc, if_pos h1, List.cons_append, List.nil_append, List.length_cons, List.length_nil, Tx.cand, Tx.gb, List.getD_cons_zero, Tx.o8 r (by omega)]
  · by_cases h2 : r < 2048
    · simp only [Tx.enc, if_neg h1, if_pos h2, List.cons_append, List.nil_append, List.length_cons, List.length_nil, Tx.cand, Tx.gb, List.getD_cons_zero, List.getD_cons_succ, Tx.o8 (192 + r / 64) (by omega), Tx.o8 (128 + r % 64) (by omega)]
      omega
    · by_cases h3 : r < 65536
      · simp only [Tx.enc, if_neg h1, if_neg h2, if_pos h3, List.cons_append, List.nil_append, List.length_cons, List.length_nil, Tx.cand, Tx.gb, List.getD_cons_zero, List.getD_cons_succ, Tx.o8 (224 + r / 4096) (by omega), Tx.o8 (128 + r / 64 % 64) (by omega), Tx.o8 (128 + r % 64) (by omega)]
        omega
      · simp only [Tx.enc, if_neg h1, if_neg h2, if_neg h3, List.cons_append, List.nil_append, List.length_cons, List.length_nil, Tx.cand, Tx.gb, List.getD_cons_zero, List.getD_cons_succ, Tx.o8 (240 + r / 262144) (by omega), Tx.o8 (128 + r / 4096 % 64) (by omega), Tx.o8 (128 + r / 64 % 64) (by omega), Tx.o8 (128 + r % 64) (by omega)]
        omega
theorem Tx.good_fits (l : List UInt8) (hl : l ≠ []) (hg : ¬ ((Lib.decodeL l).1 = 65533 ∧ (Lib.decodeL l).2 = 1)) : 1 ≤ (Lib.decodeL l).2 ∧ (Lib.decodeL l).2 ≤ 4 ∧ (Lib.decodeL l).2 ≤ l.length ∧ Tx.Fits l (Lib.decodeL l).2 := by
  obtain ⟨hr, h1, h2⟩ := Tx.decodeL_good l hl hg
  have hp := Tx.enc_pos (Lib.decodeL l).1
  have hlen := congrArg List.length h1
  rw [List.length_take, ← h2] at hlen
  have e : l = Tx.enc (Lib.decodeL l).1 ++ l.drop (Lib.decodeL l).2 := by rw [← h1, List.take_append_drop]
  have hc := Tx.cand_enc (Lib.decodeL l).1 hr (l.drop (Lib.decodeL l).2)
  rw [← e, ← h2] at hc
  refine ⟨by omega, by omega, by omega, ?_⟩
  unfold Tx.Fits
  rw [hc]
  exact ⟨hr, h1.symm⟩
/-- What first answers. -/
def Tx.firstV (l : List UInt8) : Value := if (Lib.decodeL l).1 = 65533 ∧ (Lib.decodeL l).2 = 1 then .tuple #[.int .i64 0, .int .i64 0] else .tuple #[.int .i64 ((Lib.decodeL l).1 : Int), .int .i64 ((Lib.decodeL l).2 : Int)]
theorem Tx.firstV_fits (l : List UInt8) (n : Nat) (hn : n ≤ l.length) (h : Tx.Fits l n) : Tx.firstV l = .tuple #[.int .i64 (Tx.cand l n : Int), .int .i64 (n : Int)] := by
  obtain ⟨h1, h2⟩ := Tx.fits_good l n hn h
  unfold Tx.firstV
  rw [if_neg h2, h1]
theorem Tx.firstV_none (l : List UInt8) (hl : l ≠ []) (h : ∀ n, 1 ≤ n → n ≤ 4 → n ≤ l.length → ¬ Tx.Fits l n) : Tx.firstV l = .tuple #[.int .i64 0, .int .i64 0] := by
  unfold Tx.firstV
  by_cases hg : (Lib.decodeL l).1 = 65533 ∧ (Lib.decodeL l).2 = 1
  · rw [if_pos hg]
  · obtain ⟨a, b, c, d⟩ := Tx.good_fits l hl hg
    exact absurd d (h _ a b c)
theorem Tx.gb_get (s : ByteArray) (i : Nat) (h : i < s.size) : ∃ c : UInt8, s[i] = c ∧ Tx.gb s.data.toList i = c.toNat := by
  refine ⟨_, rfl, ?_⟩
  unfold Tx.gb
  rw [List.getD_eq_getElem?_getD, List.getElem?_eq_getElem (by rw [Tx.len]; exact h)]; rfl
theorem Tx.ext0 (s : ByteArray) (n : Nat) : (s.extract 0 n).data.toList = s.data.toList.take n := by rw [Tx.ext_list]; simp

set_option maxHeartbeats 8000000 in
set_option maxRecDepth 100000 in
/-- A round of the loop at 1 bytes: what a walk needs. -/
theorem Tx.cand_1 (s : ByteArray) (h : 1 ≤ s.size) : ∃ r : Nat, Tx.cand s.data.toList 1 = r ∧ r ≤ 2097151 ∧ ∃ c0 : UInt8, s[0] = c0 ∧ (c0.toNat : Int) = (r : Int) := by
  obtain ⟨c0, h0, g0⟩ := Tx.gb_get s 0 (by omega)
  have l0 := c0.toNat_lt
  refine ⟨_, rfl, ?_, c0, h0, ?_⟩
  · simp only [Tx.cand, g0]; omega
  · simp only [Tx.cand, g0]
    all_goals omega

set_option maxHeartbeats 8000000 in
set_option maxRecDepth 100000 in
/-- A round of the loop at 2 bytes: what a walk needs. -/
theorem Tx.cand_2 (s : ByteArray) (h : 2 ≤ s.size) : ∃ r : Nat, Tx.cand s.data.toList 2 = r ∧ r ≤ 2097151 ∧ ∃ c0 c1 : UInt8, s[0] = c0 ∧ s[1] = c1 ∧ (c0.toNat : Int) % 32 * 64 + (c1.toNat : Int) % 64 = (r : Int) := by
  obtain ⟨c0, h0, g0⟩ := Tx.gb_get s 0 (by omega)
  obtain ⟨c1, h1, g1⟩ := Tx.gb_get s 1 (by omega)
  have l0 := c0.toNat_lt
  have l1 := c1.toNat_lt
  refine ⟨_, rfl, ?_, c0, c1, h0, h1, ?_⟩
  · simp only [Tx.cand, g0, g1]; omega
  · simp only [Tx.cand, g0, g1]
    all_goals omega

set_option maxHeartbeats 8000000 in
set_option maxRecDepth 100000 in
/-- A round of the loop at 3 bytes: what a walk needs. -/
theorem Tx.cand_3 (s : ByteArray) (h : 3 ≤ s.size) : ∃ r : Nat, Tx.cand s.data.toList 3 = r ∧ r ≤ 2097151 ∧ ∃ c0 c1 c2 : UInt8, s[0] = c0 ∧ s[1] = c1 ∧ s[2] = c2 ∧ (c0.toNat : Int) % 16 * 4096 + (c1.toNat : Int) % 64 * 64 + (c2.toNat : Int) % 64 = (r : Int) := by
  obtain ⟨c0, h0, g0⟩ := Tx.gb_get s 0 (by omega)
  obtain ⟨c1, h1, g1⟩ := Tx.gb_get s 1 (by omega)
  obtain ⟨c2, h2, g2⟩ := Tx.gb_get s 2 (by omega)
  have l0 := c0.toNat_lt
  have l1 := c1.toNat_lt
  have l2 := c2.toNat_lt
  refine ⟨_, rfl, ?_, c0, c1, c2, h0, h1, h2, ?_⟩
  · simp only [Tx.cand, g0, g1, g2]; omega
  · simp only [Tx.cand, g0, g1, g2]
    all_goals omega

set_option maxHeartbeats 8000000 in
set_option maxRecDepth 100000 in
/-- A round of the loop at 4 bytes: what a walk needs. -/
theorem Tx.cand_4 (s : ByteArray) (h : 4 ≤ s.size) : ∃ r : Nat, Tx.cand s.data.toList 4 = r ∧ r ≤ 2097151 ∧ ∃ c0 c1 c2 c3 : UInt8, s[0] = c0 ∧ s[1] = c1 ∧ s[2] = c2 ∧ s[3] = c3 ∧ (c0.toNat : Int) % 8 * 262144 + (c1.toNat : Int) % 64 * 4096 + (c2.toNat : Int) % 64 * 64 + (c3.toNat : Int) % 64 = (r : Int) := by
  obtain ⟨c0, h0, g0⟩ := Tx.gb_get s 0 (by omega)
  obtain ⟨c1, h1, g1⟩ := Tx.gb_get s 1 (by omega)
  obtain ⟨c2, h2, g2⟩ := Tx.gb_get s 2 (by omega)
  obtain ⟨c3, h3, g3⟩ := Tx.gb_get s 3 (by omega)
  have l0 := c0.toNat_lt
  have l1 := c1.toNat_lt
  have l2 := c2.toNat_lt
  have l3 := c3.toNat_lt
  refine ⟨_, rfl, ?_, c0, c1, c2, c3, h0, h1, h2, h3, ?_⟩
  · simp only [Tx.cand, g0, g1, g2, g3]; omega
  · simp only [Tx.cand, g0, g1, g2, g3]
    all_goals omega

set_option maxHeartbeats 16000000 in
set_option maxRecDepth 100000 in
theorem Tx.Rfirst_any (s : ByteArray) (w : World) (hs0 : 1 ≤ s.size) (hs : s.size ≤ 9223372036854775807) :
    Calls Tryd.prog 60 #[.string s] w fun e w' => e = .returned (Tx.firstV s.data.toList) ∧ Below w.heap.size w w' := by
  have hne : s.data.toList ≠ [] := by intro h; have := congrArg List.length h; rw [Tx.len, List.length_nil] at this; omega
  have HNE := Lib.hid hne
  have U0 := Tx.Up.start w
  clear hne
  go_enter Tryd.func60, Tryd.ntmps60
  go_wp2_with fail
  go_loopw [4] (fun iv wr => ∃ n : Nat, 1 ≤ n ∧ n ≤ 5 ∧ iv = .int .i64 (n : Int) ∧ Hid (∀ m, 1 ≤ m → m < n → m ≤ s.size → ¬ Tx.Fits s.data.toList m) ∧ Tx.Up w wr) (fun iv _ => 5 - (intOf iv).toNat)
  case atStart => exact ⟨1, by omega, by omega, rfl, Lib.hid (fun m h1 h2 _ => by omega), U0⟩
  case round =>
    clear U0
    obtain ⟨n, h1, h5, rfl, hno, hup⟩ := hrel
    obtain ⟨w3, rfl⟩ : ∃ w3, w3 = wr := ⟨_, rfl⟩
    have fin : ∀ (hx : n = 5 ∨ s.size < n), Hid (Tx.firstV s.data.toList = .tuple #[.int .i64 0, .int .i64 0]) := fun hx => Lib.hid (Tx.firstV_none _ HNE.out (fun m a b c => by rw [Tx.len] at c; exact hno.out m a (by omega) c))
    by_cases h4 : n = 5
    · have HF := fin (.inl h4)
      subst h4
      clear fin hno
      go_wp2_with fail
      go_ret2
      rw [HF.out]
      exact ⟨rfl, hup.below⟩
    · by_cases hsz : n ≤ s.size
      · have hz4 : (n : Int) ≤ 4 := by omega
        have hzs : (n : Int) ≤ (s.size : Int) := by omega
        have c4 : n = 1 ∨ n = 2 ∨ n = 3 ∨ n = 4 := by omega
        clear fin h4
        rcases c4 with rfl | rfl | rfl | rfl
        · obtain ⟨r, hr, hrb, c0, k0, hv⟩ := Tx.cand_1 s hsz
          have HR := Lib.hid hr
          have HE0 := Lib.hid (Tx.ext0 s 1)
          have l0 := c0.toNat_lt
          obtain ⟨p2, hp2⟩ : ∃ p2, s.extract 0 1 = p2 := ⟨_, rfl⟩
          rw [hp2] at HE0
          have hno2 : Hid (¬ Tx.Fits s.data.toList 1 → ∀ m, 1 ≤ m → m < 1 + 1 → m ≤ s.size → ¬ Tx.Fits s.data.toList m) := Lib.hid fun hf m a b c => by
            rcases Nat.lt_succ_iff_lt_or_eq.1 b with h | h
            · exact hno.out m a h c
            · subst h; exact hf
          clear hr hno
          by_cases hrune : Tx.Rune r
          · have hr2 : r ≤ 1114111 := by unfold Tx.Rune at hrune; omega
            have CM := Lib.hid (fun w => Tx.RMay_t r hrune w)
            have CR := Lib.hid (fun w => Tx.RRune_any r hr2 w)
            have HRU := Lib.hid hrune
            clear hrune
            obtain ⟨p1, hp1⟩ : ∃ p1, Tx.ba (Tx.enc r) = p1 := ⟨_, rfl⟩
            rw [hp1] at CR
            by_cases heq : p1 = p2
            · have HFit : Hid (Tx.Fits s.data.toList 1) := Lib.hid (by
                unfold Tx.Fits
                rw [HR.out]
                exact ⟨HRU.out, by rw [← HE0.out, ← heq, ← hp1]; rfl⟩)
              subst heq
              clear hp1
              go_wp2_with fail
              go_region_held3 (fun w' => Tx.Up w w') ((first | with_reducible assumption | exact Tx.Up.drew hup | exact Tx.Up.then (by with_reducible assumption) (by with_reducible assumption))) ((first | (with_reducible refine Calls.mono (CM.out _) ?_; rintro e w4 ⟨rfl, rfl⟩) | (with_reducible refine Calls.mono (CR.out _) ?_; rintro e w5 ⟨rfl, b5⟩)))
              all_goals
                go_wp2
                go_ret2
                rw [Tx.firstV_fits _ 1 (by rw [Tx.len]; exact hsz) HFit.out, HR.out]
                exact ⟨rfl, (Tx.Up.below (by with_reducible assumption))⟩
            · have HFit : Hid (¬ Tx.Fits s.data.toList 1) := Lib.hid (by
                unfold Tx.Fits
                rw [HR.out]
                rintro ⟨_, h⟩
                exact heq (by rw [← hp1]; apply Tx.ba_ext; rw [HE0.out]; exact h))
              have t : (p1.toList == p2.toList) = false := by rw [Tx.eq_toList]; exact decide_eq_false heq
              clear hp1 heq
              go_wp2_with fail
              go_region_held3 (fun w' => Tx.Up w w') ((first | with_reducible assumption | exact Tx.Up.drew hup | exact Tx.Up.then (by with_reducible assumption) (by with_reducible assumption))) ((first | (with_reducible refine Calls.mono (CM.out _) ?_; rintro e w4 ⟨rfl, rfl⟩) | (with_reducible refine Calls.mono (CR.out _) ?_; rintro e w5 ⟨rfl, b5⟩)))
              all_goals
                go_wp2
                exact ⟨⟨2, by omega, by omega, rfl, Lib.hid (hno2.out HFit.out), (by with_reducible assumption)⟩, by simp [intOf]⟩
          · have CM := Lib.hid (fun w => Tx.RMay_f r hrune w)
            have HFit : Hid (¬ Tx.Fits s.data.toList 1) := Lib.hid (by
              unfold Tx.Fits
              rw [HR.out]
              exact fun h => hrune h.1)
            clear hrune
            go_wp2_with fail
            go_quiet ((go_at_call 71; with_reducible exact Calls.quiet_of_same (CM.out _)))
            go_wp2
            exact ⟨⟨2, by omega, by omega, rfl, Lib.hid (hno2.out HFit.out), hup.drewN _⟩, by simp [intOf]⟩
        · obtain ⟨r, hr, hrb, c0, c1, k0, k1, hv⟩ := Tx.cand_2 s hsz
          have HR := Lib.hid hr
          have HE0 := Lib.hid (Tx.ext0 s 2)
          have l0 := c0.toNat_lt
          have l1 := c1.toNat_lt
          obtain ⟨p2, hp2⟩ : ∃ p2, s.extract 0 2 = p2 := ⟨_, rfl⟩
          rw [hp2] at HE0
          have hno2 : Hid (¬ Tx.Fits s.data.toList 2 → ∀ m, 1 ≤ m → m < 2 + 1 → m ≤ s.size → ¬ Tx.Fits s.data.toList m) := Lib.hid fun hf m a b c => by
            rcases Nat.lt_succ_iff_lt_or_eq.1 b with h | h
            · exact hno.out m a h c
            · subst h; exact hf
          clear hr hno
          by_cases hrune : Tx.Rune r
          · have hr2 : r ≤ 1114111 := by unfold Tx.Rune at hrune; omega
            have CM := Lib.hid (fun w => Tx.RMay_t r hrune w)
            have CR := Lib.hid (fun w => Tx.RRune_any r hr2 w)
            have HRU := Lib.hid hrune
            clear hrune
            obtain ⟨p1, hp1⟩ : ∃ p1, Tx.ba (Tx.enc r) = p1 := ⟨_, rfl⟩
            rw [hp1] at CR
            by_cases heq : p1 = p2
            · have HFit : Hid (Tx.Fits s.data.toList 2) := Lib.hid (by
                unfold Tx.Fits
                rw [HR.out]
                exact ⟨HRU.out, by rw [← HE0.out, ← heq, ← hp1]; rfl⟩)
              subst heq
              clear hp1
              go_wp2_with fail
              go_quiet (fail)
              have hup := hup.drewN nq
              generalize w3.drewN nq = w3 at *
              go_wp2_with fail
              go_region_held3 (fun w' => Tx.Up w w') ((first | with_reducible assumption | exact Tx.Up.drew hup | exact Tx.Up.then (by with_reducible assumption) (by with_reducible assumption))) ((first | (with_reducible refine Calls.mono (CM.out _) ?_; rintro e w4 ⟨rfl, rfl⟩) | (with_reducible refine Calls.mono (CR.out _) ?_; rintro e w5 ⟨rfl, b5⟩)))
              all_goals
                go_wp2
                go_ret2
                rw [Tx.firstV_fits _ 2 (by rw [Tx.len]; exact hsz) HFit.out, HR.out]
                exact ⟨rfl, (Tx.Up.below (by with_reducible assumption))⟩
            · have HFit : Hid (¬ Tx.Fits s.data.toList 2) := Lib.hid (by
                unfold Tx.Fits
                rw [HR.out]
                rintro ⟨_, h⟩
                exact heq (by rw [← hp1]; apply Tx.ba_ext; rw [HE0.out]; exact h))
              have t : (p1.toList == p2.toList) = false := by rw [Tx.eq_toList]; exact decide_eq_false heq
              clear hp1 heq
              go_wp2_with fail
              go_quiet (fail)
              have hup := hup.drewN nq
              generalize w3.drewN nq = w3 at *
              go_wp2_with fail
              go_region_held3 (fun w' => Tx.Up w w') ((first | with_reducible assumption | exact Tx.Up.drew hup | exact Tx.Up.then (by with_reducible assumption) (by with_reducible assumption))) ((first | (with_reducible refine Calls.mono (CM.out _) ?_; rintro e w4 ⟨rfl, rfl⟩) | (with_reducible refine Calls.mono (CR.out _) ?_; rintro e w5 ⟨rfl, b5⟩)))
              all_goals
                go_wp2
                exact ⟨⟨3, by omega, by omega, rfl, Lib.hid (hno2.out HFit.out), (by with_reducible assumption)⟩, by simp [intOf]⟩
          · have CM := Lib.hid (fun w => Tx.RMay_f r hrune w)
            have HFit : Hid (¬ Tx.Fits s.data.toList 2) := Lib.hid (by
              unfold Tx.Fits
              rw [HR.out]
              exact fun h => hrune h.1)
            clear hrune
            go_wp2_with fail
            go_quiet (fail)
            have hup := hup.drewN nq
            generalize w3.drewN nq = w3 at *
            go_wp2_with fail
            go_quiet ((go_at_call 71; with_reducible exact Calls.quiet_of_same (CM.out _)))
            go_wp2
            exact ⟨⟨3, by omega, by omega, rfl, Lib.hid (hno2.out HFit.out), hup.drewN _⟩, by simp [intOf]⟩
        · obtain ⟨r, hr, hrb, c0, c1, c2, k0, k1, k2, hv⟩ := Tx.cand_3 s hsz
          have HR := Lib.hid hr
          have HE0 := Lib.hid (Tx.ext0 s 3)
          have l0 := c0.toNat_lt
          have l1 := c1.toNat_lt
          have l2 := c2.toNat_lt
          obtain ⟨p2, hp2⟩ : ∃ p2, s.extract 0 3 = p2 := ⟨_, rfl⟩
          rw [hp2] at HE0
          have hno2 : Hid (¬ Tx.Fits s.data.toList 3 → ∀ m, 1 ≤ m → m < 3 + 1 → m ≤ s.size → ¬ Tx.Fits s.data.toList m) := Lib.hid fun hf m a b c => by
            rcases Nat.lt_succ_iff_lt_or_eq.1 b with h | h
            · exact hno.out m a h c
            · subst h; exact hf
          clear hr hno
          by_cases hrune : Tx.Rune r
          · have hr2 : r ≤ 1114111 := by unfold Tx.Rune at hrune; omega
            have CM := Lib.hid (fun w => Tx.RMay_t r hrune w)
            have CR := Lib.hid (fun w => Tx.RRune_any r hr2 w)
            have HRU := Lib.hid hrune
            clear hrune
            obtain ⟨p1, hp1⟩ : ∃ p1, Tx.ba (Tx.enc r) = p1 := ⟨_, rfl⟩
            rw [hp1] at CR
            by_cases heq : p1 = p2
            · have HFit : Hid (Tx.Fits s.data.toList 3) := Lib.hid (by
                unfold Tx.Fits
                rw [HR.out]
                exact ⟨HRU.out, by rw [← HE0.out, ← heq, ← hp1]; rfl⟩)
              subst heq
              clear hp1
              go_wp2_with fail
              go_quiet (fail)
              have hup := hup.drewN nq
              generalize w3.drewN nq = w3 at *
              go_wp2_with fail
              go_region_held3 (fun w' => Tx.Up w w') ((first | with_reducible assumption | exact Tx.Up.drew hup | exact Tx.Up.then (by with_reducible assumption) (by with_reducible assumption))) ((first | (with_reducible refine Calls.mono (CM.out _) ?_; rintro e w4 ⟨rfl, rfl⟩) | (with_reducible refine Calls.mono (CR.out _) ?_; rintro e w5 ⟨rfl, b5⟩)))
              all_goals
                go_wp2
                go_ret2
                rw [Tx.firstV_fits _ 3 (by rw [Tx.len]; exact hsz) HFit.out, HR.out]
                exact ⟨rfl, (Tx.Up.below (by with_reducible assumption))⟩
            · have HFit : Hid (¬ Tx.Fits s.data.toList 3) := Lib.hid (by
                unfold Tx.Fits
                rw [HR.out]
                rintro ⟨_, h⟩
                exact heq (by rw [← hp1]; apply Tx.ba_ext; rw [HE0.out]; exact h))
              have t : (p1.toList == p2.toList) = false := by rw [Tx.eq_toList]; exact decide_eq_false heq
              clear hp1 heq
              go_wp2_with fail
              go_quiet (fail)
              have hup := hup.drewN nq
              generalize w3.drewN nq = w3 at *
              go_wp2_with fail
              go_region_held3 (fun w' => Tx.Up w w') ((first | with_reducible assumption | exact Tx.Up.drew hup | exact Tx.Up.then (by with_reducible assumption) (by with_reducible assumption))) ((first | (with_reducible refine Calls.mono (CM.out _) ?_; rintro e w4 ⟨rfl, rfl⟩) | (with_reducible refine Calls.mono (CR.out _) ?_; rintro e w5 ⟨rfl, b5⟩)))
              all_goals
                go_wp2
                exact ⟨⟨4, by omega, by omega, rfl, Lib.hid (hno2.out HFit.out), (by with_reducible assumption)⟩, by simp [intOf]⟩
          · have CM := Lib.hid (fun w => Tx.RMay_f r hrune w)
            have HFit : Hid (¬ Tx.Fits s.data.toList 3) := Lib.hid (by
              unfold Tx.Fits
              rw [HR.out]
              exact fun h => hrune h.1)
            clear hrune
            go_wp2_with fail
            go_quiet (fail)
            have hup := hup.drewN nq
            generalize w3.drewN nq = w3 at *
            go_wp2_with fail
            go_quiet ((go_at_call 71; with_reducible exact Calls.quiet_of_same (CM.out _)))
            go_wp2
            exact ⟨⟨4, by omega, by omega, rfl, Lib.hid (hno2.out HFit.out), hup.drewN _⟩, by simp [intOf]⟩
        · obtain ⟨r, hr, hrb, c0, c1, c2, c3, k0, k1, k2, k3, hv⟩ := Tx.cand_4 s hsz
          have HR := Lib.hid hr
          have HE0 := Lib.hid (Tx.ext0 s 4)
          have l0 := c0.toNat_lt
          have l1 := c1.toNat_lt
          have l2 := c2.toNat_lt
          have l3 := c3.toNat_lt
          obtain ⟨p2, hp2⟩ : ∃ p2, s.extract 0 4 = p2 := ⟨_, rfl⟩
          rw [hp2] at HE0
          have hno2 : Hid (¬ Tx.Fits s.data.toList 4 → ∀ m, 1 ≤ m → m < 4 + 1 → m ≤ s.size → ¬ Tx.Fits s.data.toList m) := Lib.hid fun hf m a b c => by
            rcases Nat.lt_succ_iff_lt_or_eq.1 b with h | h
            · exact hno.out m a h c
            · subst h; exact hf
          clear hr hno
          by_cases hrune : Tx.Rune r
          · have hr2 : r ≤ 1114111 := by unfold Tx.Rune at hrune; omega
            have CM := Lib.hid (fun w => Tx.RMay_t r hrune w)
            have CR := Lib.hid (fun w => Tx.RRune_any r hr2 w)
            have HRU := Lib.hid hrune
            clear hrune
            obtain ⟨p1, hp1⟩ : ∃ p1, Tx.ba (Tx.enc r) = p1 := ⟨_, rfl⟩
            rw [hp1] at CR
            by_cases heq : p1 = p2
            · have HFit : Hid (Tx.Fits s.data.toList 4) := Lib.hid (by
                unfold Tx.Fits
                rw [HR.out]
                exact ⟨HRU.out, by rw [← HE0.out, ← heq, ← hp1]; rfl⟩)
              subst heq
              clear hp1
              go_wp2_with fail
              go_quiet (fail)
              have hup := hup.drewN nq
              generalize w3.drewN nq = w3 at *
              go_wp2_with fail
              go_region_held3 (fun w' => Tx.Up w w') ((first | with_reducible assumption | exact Tx.Up.drew hup | exact Tx.Up.then (by with_reducible assumption) (by with_reducible assumption))) ((first | (with_reducible refine Calls.mono (CM.out _) ?_; rintro e w4 ⟨rfl, rfl⟩) | (with_reducible refine Calls.mono (CR.out _) ?_; rintro e w5 ⟨rfl, b5⟩)))
              all_goals
                go_wp2
                go_ret2
                rw [Tx.firstV_fits _ 4 (by rw [Tx.len]; exact hsz) HFit.out, HR.out]
                exact ⟨rfl, (Tx.Up.below (by with_reducible assumption))⟩
            · have HFit : Hid (¬ Tx.Fits s.data.toList 4) := Lib.hid (by
                unfold Tx.Fits
                rw [HR.out]
                rintro ⟨_, h⟩
                exact heq (by rw [← hp1]; apply Tx.ba_ext; rw [HE0.out]; exact h))
              have t : (p1.toList == p2.toList) = false := by rw [Tx.eq_toList]; exact decide_eq_false heq
              clear hp1 heq
              go_wp2_with fail
              go_quiet (fail)
              have hup := hup.drewN nq
              generalize w3.drewN nq = w3 at *
              go_wp2_with fail
              go_region_held3 (fun w' => Tx.Up w w') ((first | with_reducible assumption | exact Tx.Up.drew hup | exact Tx.Up.then (by with_reducible assumption) (by with_reducible assumption))) ((first | (with_reducible refine Calls.mono (CM.out _) ?_; rintro e w4 ⟨rfl, rfl⟩) | (with_reducible refine Calls.mono (CR.out _) ?_; rintro e w5 ⟨rfl, b5⟩)))
              all_goals
                go_wp2
                exact ⟨⟨5, by omega, by omega, rfl, Lib.hid (hno2.out HFit.out), (by with_reducible assumption)⟩, by simp [intOf]⟩
          · have CM := Lib.hid (fun w => Tx.RMay_f r hrune w)
            have HFit : Hid (¬ Tx.Fits s.data.toList 4) := Lib.hid (by
              unfold Tx.Fits
              rw [HR.out]
              exact fun h => hrune h.1)
            clear hrune
            go_wp2_with fail
            go_quiet (fail)
            have hup := hup.drewN nq
            generalize w3.drewN nq = w3 at *
            go_wp2_with fail
            go_quiet ((go_at_call 71; with_reducible exact Calls.quiet_of_same (CM.out _)))
            go_wp2
            exact ⟨⟨5, by omega, by omega, rfl, Lib.hid (hno2.out HFit.out), hup.drewN _⟩, by simp [intOf]⟩
      · have HF := fin (.inr (by omega))
        have hz4 : (n : Int) ≤ 4 := by omega
        have hzs : ¬ (n : Int) ≤ (s.size : Int) := by omega
        clear fin hno
        go_wp2_with fail
        go_ret2
        rw [HF.out]
        exact ⟨rfl, hup.below⟩
end Go.Proofs.YtejnhhhmjkiehaaDoor
