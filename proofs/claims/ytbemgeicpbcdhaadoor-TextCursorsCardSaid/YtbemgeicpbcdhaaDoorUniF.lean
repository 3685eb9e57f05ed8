/- FromUnits: readUnits, FromUnits. -/
import Derived.Test.YtbemgeicpbcdhaaDoorUniR
import Derived.Test.YtbemgeicpbcdhaaDoorHexR
namespace Go.Proofs.YtbemgeicpbcdhaaDoor
open Go.RowKit

theorem Tx.runeCells_enc (r : Nat) (hr : Tx.Rune r) : Lib.runeCells (r : Int) = (Tx.enc r).map Tx.bv := by
  unfold Tx.Rune at hr
  unfold Lib.runeCells Tx.enc
  by_cases h1 : r < 128
  · rw [Lib.encodeRuneZ_one (by omega) (by omega), if_pos h1]
    simp only [List.map_cons, List.map_nil, Tx.bv, Tx.o8 _ (show r < 256 by omega)]
  · rw [if_neg h1]
    by_cases h2 : r < 2048
    · rw [Lib.encodeRuneZ_two (by omega) (by omega), if_pos h2]
      simp only [List.map_cons, List.map_nil, Tx.bv, Tx.o8 _ (show 192 + r / 64 < 256 by omega), Tx.o8 _ (show 128 + r % 64 < 256 by omega)]
      rw [show (192 : Int) + (r : Int) / 64 = ((192 + r / 64 : Nat) : Int) by omega, show (128 : Int) + (r : Int) % 64 = ((128 + r % 64 : Nat) : Int) by omega]
    · rw [if_neg h2]
      by_cases h3 : r < 65536
      · rw [Lib.encodeRuneZ_three (by omega), if_pos h3]
        simp only [List.map_cons, List.map_nil, Tx.bv, Tx.o8 _ (show 224 + r / 4096 < 256 by omega), Tx.o8 _ (show 128 + r / 64 % 64 < 256 by omega), Tx.o8 _ (show 128 + r % 64 < 256 by omega)]
        rw [show (224 : Int) + (r : Int) / 4096 = ((224 + r / 4096 : Nat) : Int) by omega, show (128 : Int) + (r : Int) / 64 % 64 = ((128 + r / 64 % 64 : Nat) : Int) by omega, show (128 : Int) + (r : Int) % 64 = ((128 + r % 64 : Nat) : Int) by omega]
      · rw [Lib.encodeRuneZ_four (by omega) (by omega), if_neg h3]
        simp only [List.map_cons, List.map_nil, Tx.bv, Tx.o8 _ (show 240 + r / 262144 < 256 by omega), Tx.o8 _ (show 128 + r / 4096 % 64 < 256 by omega), Tx.o8 _ (show 128 + r / 64 % 64 < 256 by omega), Tx.o8 _ (show 128 + r % 64 < 256 by omega)]
        rw [show (240 : Int) + (r : Int) / 262144 = ((240 + r / 262144 : Nat) : Int) by omega, show (128 : Int) + (r : Int) / 4096 % 64 = ((128 + r / 4096 % 64 : Nat) : Int) by omega, show (128 : Int) + (r : Int) / 64 % 64 = ((128 + r / 64 % 64 : Nat) : Int) by omega, show (128 : Int) + (r : Int) % 64 = ((128 + r % 64 : Nat) : Int) by omega]
theorem Tx.AppendRune_any (r : Nat) (hr : Tx.Rune r) (B : Nat) (v : Value) (l : List UInt8) (w : World) (hown : Tx.Own w B v l) (hl : l.length + 4 ≤ 140737488355328) (hB : B ≤ w.heap.size) :
    Calls Tryd.prog 35 #[v, .int .i32 (r : Int)] w fun e w' => ∃ v', e = .returned v' ∧ Tx.Own w' B v' (l ++ Tx.enc r) ∧ Below B w w' := by
  have hb : r ≤ 1114111 := by unfold Tx.Rune at hr; omega
  refine (Tryd.utf8_AppendRune_plain B v l.length (l.map Tx.bv) (r : Int) (by omega) (by omega) w hown hl hB).mono ?_
  rintro e w' ⟨v', rfl, h1, o, h2⟩
  rw [Tx.runeCells_enc r hr] at h1
  refine ⟨v', rfl, by simpa [Tx.Own] using h1, ?_⟩
  exact ((Below.refl B w).alloc hB o).grown h2 (by simp; omega) fun k hk => (World.ownsRow.lt hown k hk).1

/-- What readUnits answers. -/
def Tx.RunesOr (r : Except Int (List Nat)) (w : World) (e : Ending) (w' : World) : Prop :=
  Below w.heap.size w w' ∧ match r with
    | .ok rs => ∃ v, e = .returned (.tuple #[v, .nilIface]) ∧ Tx.Own w' w.heap.size v (Tx.flat rs)
    | .error c => ∃ n x, e = .returned (.tuple #[.slice none 0 0, x]) ∧ As.Chain c n x
theorem Tx.RunesOr.mk_ok {r : Except Int (List Nat)} {w w' : World} {rs : List Nat} {v : Value} (hr : r = .ok rs) (hb : Below w.heap.size w w') (hv : Tx.Own w' w.heap.size v (Tx.flat rs)) : Tx.RunesOr r w (.returned (.tuple #[v, .nilIface])) w' := by
  subst hr; exact ⟨hb, v, rfl, hv⟩
theorem Tx.RunesOr.mk_err {r : Except Int (List Nat)} {w w' : World} {c : Int} {n : Nat} {x : Value} (hr : r = .error c) (hb : Below w.heap.size w w') (hx : As.Chain c n x) : Tx.RunesOr r w (.returned (.tuple #[.slice none 0 0, x])) w' := by
  subst hr; exact ⟨hb, n, x, rfl, hx⟩

theorem Tx.flat_snoc (rs : List Nat) (r : Nat) : Tx.flat (rs ++ [r]) = Tx.flat rs ++ Tx.enc r := by simp [Tx.flat]

/-- One step: what readRune answers at the place k, and what readU says there. -/
theorem Tx.rr_step (zs : List Int) (k : Nat) (hk : k < zs.length) (b off cap : Nat) (w : World) (h4 : ∀ j, j < zs.length → w.cell? ⟨b, off + j, none⟩ = some (.int .i64 (zs.getD j 0))) :
    (∃ c, Tx.readU (zs.drop k) = .error c ∧ Calls Tryd.prog 34 #[.slice (some ⟨b, off + k, none⟩) (zs.length - k) cap] w (Tx.RRno c w)) ∨
    (∃ (r : Nat) (q : Nat), Tx.Rune r ∧ 1 ≤ q ∧ k + q ≤ zs.length ∧ Tx.readU (zs.drop k) = (Tx.readU (zs.drop (k + q))).map (r :: ·) ∧
      Calls Tryd.prog 34 #[.slice (some ⟨b, off + k, none⟩) (zs.length - k) cap] w fun e w' => e = .returned (.tuple #[.int .i64 (r : Int), .int .i64 (q : Int), .nilIface]) ∧ w = w') := by
  have c0 := h4 k hk
  have hd : zs.drop k = zs.getD k 0 :: zs.drop (k + 1) := by
    rw [List.drop_eq_getElem_cons hk, List.getD_eq_getElem?_getD, List.getElem?_eq_getElem hk]; rfl
  generalize zs.getD k 0 = u at c0 hd
  by_cases hbad : u < 0 ∨ 65536 ≤ u
  · exact .inl ⟨13, by rw [hd]; exact Tx.readU_bad u _ hbad, Tx.rr_bad (by omega) c0 hbad⟩
  by_cases hone : u < 55296 ∨ 57343 < u
  · refine .inr ⟨u.toNat, 1, by unfold Tx.Rune; omega, by omega, by omega, by rw [hd]; exact Tx.readU_one u _ (by omega) (by omega) hone, ?_⟩
    have := Tx.rr_one (n := zs.length - k) (cap := cap) (by omega) c0 (by omega) (by omega) hone
    rw [show ((u.toNat : Nat) : Int) = u by omega]
    exact this
  by_cases hlow : 56320 ≤ u
  · exact .inl ⟨14, by rw [hd]; exact Tx.readU_low u _ hlow (by omega), Tx.rr_low (by omega) c0 hlow (by omega)⟩
  by_cases hk1 : k + 1 < zs.length
  · have c1 := h4 (k + 1) hk1
    have hd1 : zs.drop (k + 1) = zs.getD (k + 1) 0 :: zs.drop (k + 2) := by
      rw [List.drop_eq_getElem_cons hk1, List.getD_eq_getElem?_getD, List.getElem?_eq_getElem hk1]; rfl
    generalize zs.getD (k + 1) 0 = v at c1 hd1
    rw [hd1] at hd
    rw [← Nat.add_assoc] at c1
    by_cases hv : v < 56320 ∨ 57343 < v
    · exact .inl ⟨14, by rw [hd]; exact Tx.readU_nopair u v _ (by omega) (by omega) hv, Tx.rr_nopair (by omega) c0 c1 (by omega) (by omega) hv⟩
    · refine .inr ⟨65536 + (u.toNat - 55296) * 1024 + (v.toNat - 56320), 2, by unfold Tx.Rune; omega, by omega, by omega, by rw [hd]; exact Tx.readU_pair u v _ (by omega) (by omega) (by omega) (by omega), ?_⟩
      have := Tx.rr_two (n := zs.length - k) (cap := cap) (by omega) c0 c1 (by omega) (by omega) (by omega) (by omega)
      rw [show ((65536 + (u.toNat - 55296) * 1024 + (v.toNat - 56320) : Nat) : Int) = 65536 + (u - 55296) * 1024 + v - 56320 by omega]
      exact this
  · have he : zs.drop (k + 1) = [] := List.drop_eq_nil_of_le (by omega)
    rw [he] at hd
    refine .inl ⟨14, by rw [hd]; exact Tx.readU_alone u (by omega) (by omega), ?_⟩
    rw [show zs.length - k = 1 by omega]
    exact Tx.rr_alone c0 (by omega) (by omega)

set_option maxHeartbeats 4000000 in
set_option maxRecDepth 100000 in
theorem Tx.readUnits_any (v : Value) (zs : List Int) (w : World) (hl : zs.length ≤ 17592186044416) (hv : Tx.Ints w w.heap.size v zs) :
    Calls Tryd.prog 26 #[v] w (Tx.RunesOr (Tx.readU zs) w) := by
  rcases hv with ⟨rfl, rfl⟩ | ⟨b, off, cap, rfl, h2, h2', h3, h4⟩
  · go_enter Tryd.func26, Tryd.ntmps26
    go_wp2
    refine wp_loop_rounds 1 ?_
    rw [rounds_succ]
    go_wp2
    go_ret2
    exact Tx.RunesOr.mk_ok (rs := []) rfl (Below.refl _ _) (Tx.Own.nil _ _)
  · have H4 := Lib.hid h4
    obtain ⟨n, hn⟩ : ∃ n, n = zs.length := ⟨_, rfl⟩
    rw [← hn] at h2 hl
    have HN := Lib.hid hn
    rw [← hn]
    clear h4 hn
    go_enter Tryd.func26, Tryd.ntmps26
    go_wp2
    go_loopw [4, 5] (fun vb i wr => ∃ (k : Nat) (rs : List Nat), k ≤ n ∧ i = .int .i64 k ∧ (Tx.flat rs).length ≤ 4 * k ∧ Tx.Own wr w.heap.size vb (Tx.flat rs) ∧ Below w.heap.size w wr ∧ Tx.readU zs = (Tx.readU (zs.drop k)).map (rs ++ ·)) (fun _ i _ => n - (intOf i).toNat)
    case atStart => exact ⟨0, [], by omega, rfl, by simp [Tx.flat], Tx.Own.nil _ _, Below.refl _ _, by simp; cases Tx.readU zs <;> rfl⟩
    case round =>
      obtain ⟨k, rs, hk, rfl, hfl, hown, hb, he⟩ := hrel
      have HE := Lib.hid he
      clear he
      have hbs := hb.size
      by_cases hlt : k < n
      · have hkc : (k : Int) < (cap : Int) := by omega
        have hkn : (k : Int) < (n : Int) := by omega
        have hst := Tx.rr_step zs k (by rw [← HN.out]; exact hlt) b off (cap - k) wr (fun j hj => (hb.cell (p := ⟨b, off + j, none⟩) h3).trans (H4.out j hj))
        rw [← HN.out] at hst
        rcases hst with ⟨c, hc, cr⟩ | ⟨r, q, hr, hq1, hqn, hc, cr⟩
        · have HC := Lib.hid hc
          have CR := Lib.hid cr
          clear hc cr
          go_wp2_with fail
          refine CR.out.mono ?_
          rintro e w1 ⟨rfl, rfl⟩
          go_wp2_with fail
          go_ret2
          refine Tx.RunesOr.mk_err ?_ hb (.placed _ .fault)
          rw [HE.out, HC.out]; rfl
        · have hrb : r ≤ 1114111 := by unfold Tx.Rune at hr; omega
          have ca := Tx.AppendRune_any r hr w.heap.size u4 (Tx.flat rs) wr hown (by omega) hbs
          have hep := (Tx.enc_pos r).2
          have hln : (Tx.flat (rs ++ [r])).length ≤ 4 * (k + q) := by rw [Tx.flat_snoc, List.length_append]; omega
          have hfin : Tx.readU zs = (Tx.readU (zs.drop (k + q))).map ((rs ++ [r]) ++ ·) := by
            rw [HE.out, hc, Tx.except_map_map]
            congr 1
            funext x
            simp
          have HF := Lib.hid (And.intro hfin hln)
          have CR := Lib.hid cr
          have CA := Lib.hid ca
          have hrz : (r : Int) ≤ 1114111 := by omega
          clear hfin hln cr ca hc hr hep
          go_wp2_with fail
          refine CR.out.mono ?_
          rintro e w1 ⟨rfl, rfl⟩
          go_wp2_with fail
          refine CA.out.mono ?_
          rintro e w2 ⟨v2, rfl, hown2, hb2⟩
          go_wp2_with fail
          exact ⟨⟨k + q, rs ++ [r], hqn, by go_num, HF.out.2, by rw [Tx.flat_snoc]; exact hown2, hb.trans hb2, HF.out.1⟩, by simp [intOf]; omega⟩
      · have hk' : zs.drop k = [] := List.drop_eq_nil_of_le (by rw [← HN.out]; omega)
        have hr := HE.out
        rw [hk'] at hr
        have HR := Lib.hid hr
        clear hr hk'
        go_wp2
        go_ret2
        exact Tx.RunesOr.mk_ok (by rw [HR.out]; simp [Tx.readU, Except.map]) hb hown

/-- The answer of FromUnits. -/
def Tx.fromAns : Except Int (List Nat) → Value
  | .ok rs => .tuple #[.string (Tx.ba (Tx.flat rs)), .int .i64 0]
  | .error c => .tuple #[.string (Tx.ba []), .int .i64 c]

set_option maxHeartbeats 4000000 in
set_option maxRecDepth 100000 in
theorem Tx.FromUnits_any (v : Value) (zs : List Int) (w : World) (hl : zs.length ≤ 17592186044416) (hv : Tx.Ints w w.heap.size v zs) (hg : As.ErrVar w) :
    Calls Tryd.prog 17 #[v] w fun e w' => e = .returned (Tx.fromAns (Tx.readU zs)) ∧ Below w.heap.size w w' := by
  have cr := Tx.readUnits_any v zs w hl hv
  have h3 := hg.size
  have HG := Lib.hid hg
  have HV := Lib.hid hv
  clear hg hv
  rcases hr : Tx.readU zs with c | rs
  · rw [hr] at cr
    have HR := Lib.hid hr
    have CR := Lib.hid cr
    clear hr cr
    go_enter Tryd.func17, Tryd.ntmps17
    go_wp2_with fail
    refine CR.out.mono ?_
    rintro e w1 ⟨hb, n, x, rfl, hx⟩
    have ct := As.told_err c n x hx
    have cn := Tx.conv_nil
    have HG1 := Lib.hid (HG.out.below hb h3)
    go_wp2_with fail
    go_region_held3 (fun w' => True) (trivial) ((refine (ct _ (by exact HG1.out)).mono ?_; rintro e w2 ⟨rfl, hb2⟩))
    all_goals
      go_wp2
      go_ret2
      exact ⟨rfl, hb.drew.trans (hb2.mono hb.size)⟩
  · rw [hr] at cr
    have HR := Lib.hid hr
    have CR := Lib.hid cr
    clear hr cr
    go_enter Tryd.func17, Tryd.ntmps17
    go_wp2_with fail
    refine CR.out.mono ?_
    rintro e w1 ⟨hb, v, rfl, hown⟩
    have ct := fun wx => (As.told_nil wx).mono fun _ _ (h : _ ∧ _) => And.intro h.1 h.2.symm
    have hcv := fun n => (hown.drewN n).conv
    go_wp2_with fail
    go_quiet ((go_at_call 22; exact Calls.quiet_of_same (ct _)))
    go_wp2
    go_ret2
    exact ⟨rfl, below_drewN hb nq⟩
end Go.Proofs.YtbemgeicpbcdhaaDoor
