/- The reference's FromUnits. -/
import Derived.Test.YtejnhhhmjkiehaaDoorRefW
namespace Go.Proofs.YtejnhhhmjkiehaaDoor
open Go.RowKit

/-- What readU says at a place. -/
theorem Tx.ru_cases (zs : List Int) (k : Nat) (hk : k < zs.length) :
    ((zs.getD k 0 < 0 ∨ 65535 < zs.getD k 0) ∧ Tx.readU (zs.drop k) = .error 13) ∨
    (∃ r : Nat, zs.getD k 0 = (r : Int) ∧ r < 65536 ∧ (r < 55296 ∨ 57343 < r) ∧ Tx.readU (zs.drop k) = (Tx.readU (zs.drop (k + 1))).map (r :: ·)) ∨
    (56320 ≤ zs.getD k 0 ∧ zs.getD k 0 ≤ 57343 ∧ Tx.readU (zs.drop k) = .error 14) ∨
    (55296 ≤ zs.getD k 0 ∧ zs.getD k 0 ≤ 56319 ∧ zs.length ≤ k + 1 ∧ Tx.readU (zs.drop k) = .error 14) ∨
    (55296 ≤ zs.getD k 0 ∧ zs.getD k 0 ≤ 56319 ∧ k + 1 < zs.length ∧ (zs.getD (k + 1) 0 < 56320 ∨ 57343 < zs.getD (k + 1) 0) ∧ Tx.readU (zs.drop k) = .error 14) ∨
    (∃ r : Nat, 55296 ≤ zs.getD k 0 ∧ zs.getD k 0 ≤ 56319 ∧ k + 1 < zs.length ∧ 56320 ≤ zs.getD (k + 1) 0 ∧ zs.getD (k + 1) 0 ≤ 57343 ∧ r ≤ 1114111 ∧ (r : Int) = 65536 + (zs.getD k 0 - 55296) * 1024 + (zs.getD (k + 1) 0 - 56320) ∧ Tx.readU (zs.drop k) = (Tx.readU (zs.drop (k + 2))).map (r :: ·)) := by
  have hd : zs.drop k = zs.getD k 0 :: zs.drop (k + 1) := by
    rw [List.drop_eq_getElem_cons hk, List.getD_eq_getElem?_getD, List.getElem?_eq_getElem hk]; rfl
  generalize zs.getD k 0 = u at *
  by_cases hbad : u < 0 ∨ 65536 ≤ u
  · exact .inl ⟨by omega, by rw [hd]; exact Tx.readU_bad u _ hbad⟩
  by_cases hone : u < 55296 ∨ 57343 < u
  · exact .inr (.inl ⟨u.toNat, by omega, by omega, by omega, by rw [hd]; exact Tx.readU_one u _ (by omega) (by omega) hone⟩)
  by_cases hlow : 56320 ≤ u
  · exact .inr (.inr (.inl ⟨hlow, by omega, by rw [hd]; exact Tx.readU_low u _ hlow (by omega)⟩))
  by_cases hk1 : k + 1 < zs.length
  · have hd1 : zs.drop (k + 1) = zs.getD (k + 1) 0 :: zs.drop (k + 2) := by
      rw [List.drop_eq_getElem_cons hk1, List.getD_eq_getElem?_getD, List.getElem?_eq_getElem hk1]; rfl
    generalize zs.getD (k + 1) 0 = v at *
    rw [hd1] at hd
    by_cases hv : v < 56320 ∨ 57343 < v
    · exact .inr (.inr (.inr (.inr (.inl ⟨by omega, by omega, hk1, hv, by rw [hd]; exact Tx.readU_nopair u v _ (by omega) (by omega) hv⟩))))
    · exact .inr (.inr (.inr (.inr (.inr ⟨65536 + (u.toNat - 55296) * 1024 + (v.toNat - 56320), by omega, by omega, hk1, by omega, by omega, by omega, by omega, by rw [hd]; exact Tx.readU_pair u v _ (by omega) (by omega) (by omega) (by omega)⟩))))
  · have he : zs.drop (k + 1) = [] := List.drop_eq_nil_of_le (by omega)
    rw [he] at hd
    exact .inr (.inr (.inr (.inl ⟨by omega, by omega, by omega, by rw [hd]; exact Tx.readU_alone u (by omega) (by omega)⟩)))

theorem Tx.fromAns_err {r : Except Int (List Nat)} {c : Int} (h : r = .error c) : Tx.fromAns r = .tuple #[.string ⟨#[]⟩, .int .i64 c] := by subst h; rfl
theorem Tx.fromAns_ok {r : Except Int (List Nat)} {rs : List Nat} (h : r = .ok rs) : Tx.fromAns r = .tuple #[.string (Tx.ba (Tx.flat rs)), .int .i64 0] := by subst h; rfl
set_option maxHeartbeats 16000000 in
set_option maxRecDepth 100000 in
theorem Tx.RFromUnits_any (v : Value) (zs : List Int) (w : World) (hl : zs.length ≤ 17592186044416) (hv : Tx.Ints w w.heap.size v zs) :
    Calls Tryd.prog 24 #[v] w fun e w' => e = .returned (Tx.fromAns (Tx.readU zs)) ∧ Below w.heap.size w w' := by
  obtain ⟨a, c, rfl, hup⟩ := hv.up
  obtain ⟨n, hn⟩ : ∃ n, n = zs.length := ⟨_, rfl⟩
  rw [← hn] at hl hup ⊢
  have HN := Lib.hid hn
  have hown0 := Tx.Own.empty w w.heap.size (Nat.le_refl _)
  clear hn hv
  go_enter Tryd.func24, Tryd.ntmps24
  go_wp2_with fail
  go_loopw [4, 5] (fun vb i wr => ∃ (k : Nat) (rs : List Nat), k ≤ n ∧ i = .int .i64 k ∧ (Tx.flat rs).length ≤ 4 * k ∧ Tx.Own wr w.heap.size vb (Tx.flat rs) ∧ Below w.heap.size w wr ∧ Tx.readU zs = (Tx.readU (zs.drop k)).map (rs ++ ·)) (fun _ i _ => n - (intOf i).toNat)
  case atStart => exact ⟨0, [], by omega, rfl, by simp [Tx.flat], by simpa [Tx.flat] using hown0, (Below.refl _ _).alloc (Nat.le_refl _) _, by simp; cases Tx.readU zs <;> rfl⟩
  case round =>
    clear hown0
    obtain ⟨k, rs, hk, rfl, hfl, hown, hb, he⟩ := hrel
    obtain ⟨w3, rfl⟩ : ∃ w3, w3 = wr := ⟨_, rfl⟩
    have HE := Lib.hid he
    clear he
    have hbs := hb.size
    by_cases hlt : k < n
    · have hlz : (k : Int) < (n : Int) := by omega
      obtain ⟨pb, off, rfl, hcells⟩ : ∃ pb off, a = some ⟨pb, off, none⟩ ∧ ∀ W, Below w.heap.size w W → ∀ j, j < n → W.cell? ⟨pb, off + j, none⟩ = some (.int .i64 (zs.getD j 0)) := by
        rcases hup.out with h0 | h0
        · omega
        · exact h0
      have cell := hcells w3 hb k hlt
      have HCE := Lib.hid hcells
      have hcs := Tx.ru_cases zs k (by rw [← HN.out]; exact hlt)
      rw [← HN.out] at hcs
      obtain ⟨u, hu⟩ : ∃ u, zs.getD k 0 = u := ⟨_, rfl⟩
      rw [hu] at cell hcs
      clear hcells hup hu
      have bad : ∀ c, Tx.readU (zs.drop k) = .error c → Hid (Tx.fromAns (Tx.readU zs) = .tuple #[.string ⟨#[]⟩, .int .i64 c]) := fun c hc => Lib.hid (Tx.fromAns_err (by rw [HE.out, hc]; rfl))
      have good : ∀ (r q : Nat), Tx.readU (zs.drop k) = (Tx.readU (zs.drop (k + q))).map (r :: ·) → 1 ≤ q → Hid (Tx.readU zs = (Tx.readU (zs.drop (k + q))).map ((rs ++ [r]) ++ ·) ∧ (Tx.flat (rs ++ [r])).length ≤ 4 * (k + q)) := fun r q hc hq => Lib.hid ⟨by
        rw [HE.out, hc, Tx.except_map_map]
        congr 1
        funext x
        simp, by have := (Tx.enc_pos r).2; rw [Tx.flat_snoc, List.length_append]; omega⟩
      rcases hcs with ⟨h1, hc⟩ | ⟨r, rfl, h1, h2, hc⟩ | ⟨h1, h2, hc⟩ | ⟨h1, h2, h3, hc⟩ | ⟨h1, h2, h3, h4, hc⟩ | ⟨r, h1, h2, h3, h4, h5, h6, h7, hc⟩
      · have HF := bad 13 hc
        clear bad good hc
        rcases h1 with h1 | h1
        · go_wp2_with fail
          go_ret2
          rw [HF.out]
          exact ⟨rfl, hb⟩
        · have h0 : ¬ u < 0 := by omega
          go_wp2_with fail
          go_ret2
          rw [HF.out]
          exact ⟨rfl, hb⟩
      · have HF := good r 1 hc (by omega)
        have CL := Lib.hid (fun w => Tx.Rlow_f (r : Int) (by omega) w)
        have CH := Lib.hid (fun w => Tx.Rhigh_f (r : Int) (by omega) w)
        have CR := Lib.hid (fun w => Tx.RRune_any r (by omega) w)
        have hez := Tx.ba_size (Tx.enc r)
        have hep := (Tx.enc_pos r).2
        have HL : (Tx.flat rs).length + (Tx.ba (Tx.enc r)).size ≤ 140737488355328 := by rw [hez]; omega
        have h0 : ¬ (r : Int) < 0 := by omega
        have h0' : ¬ (65535 : Int) < (r : Int) := by omega
        clear bad good hc h2 hez hep
        go_wp2_with fail
        refine (CL.out _).mono ?_
        rintro e w4 ⟨rfl, rfl⟩
        go_wp2_with fail
        refine (CH.out _).mono ?_
        rintro e w4 ⟨rfl, rfl⟩
        go_wp2_with fail
        refine (CH.out _).mono ?_
        rintro e w4 ⟨rfl, rfl⟩
        go_wp2_with fail
        refine (CR.out _).mono ?_
        rintro e w5 ⟨rfl, b5⟩
        have hown5 := hown.below b5 (Nat.le_refl _)
        have hbs5 := Nat.le_trans hbs b5.size
        go_wp2_with (at_builtin; refine Tx.appendS rfl _ _ rfl w.heap.size _ _ rfl hown5 _ rfl HL hbs5 ?_; intro v6 w6 hown6 hb6 hz6)
        exact ⟨⟨k + 1, rs ++ [r], by omega, by go_num, HF.out.2, by rw [Tx.flat_snoc]; exact hown6, (hb.trans (b5.mono hbs)).trans hb6, HF.out.1⟩, by simp [intOf]; omega⟩
      · have HF := bad 14 hc
        have CL := Lib.hid (fun w => Tx.Rlow_t u h1 h2 w)
        have h0 : ¬ u < 0 := by omega
        have h0' : ¬ (65535 : Int) < u := by omega
        clear bad good hc
        go_wp2_with fail
        refine (CL.out _).mono ?_
        rintro e w4 ⟨rfl, rfl⟩
        go_wp2_with fail
        go_ret2
        rw [HF.out]
        exact ⟨rfl, hb⟩
      · have HF := bad 14 hc
        have CL := Lib.hid (fun w => Tx.Rlow_f u (by omega) w)
        have CH := Lib.hid (fun w => Tx.Rhigh_t u h1 h2 w)
        have h0 : ¬ u < 0 := by omega
        have h0' : ¬ (65535 : Int) < u := by omega
        have h3z : (n : Int) ≤ (k : Int) + 1 := by omega
        clear bad good hc h3
        go_wp2_with fail
        refine (CL.out _).mono ?_
        rintro e w4 ⟨rfl, rfl⟩
        go_wp2_with fail
        refine (CH.out _).mono ?_
        rintro e w4 ⟨rfl, rfl⟩
        go_wp2_with fail
        go_ret2
        rw [HF.out]
        exact ⟨rfl, hb⟩
      · have HF := bad 14 hc
        have cell1 := HCE.out w3 hb (k + 1) h3
        obtain ⟨u1, hu1⟩ : ∃ u1, zs.getD (k + 1) 0 = u1 := ⟨_, rfl⟩
        rw [hu1] at cell1 h4
        have CL := Lib.hid (fun w => Tx.Rlow_f u (by omega) w)
        have CH := Lib.hid (fun w => Tx.Rhigh_t u h1 h2 w)
        have CL1 := Lib.hid (fun w => Tx.Rlow_f u1 h4 w)
        have h0 : ¬ u < 0 := by omega
        have h0' : ¬ (65535 : Int) < u := by omega
        have h3z : ¬ (n : Int) ≤ (k : Int) + 1 := by omega
        have h3y : ((k + 1 : Nat) : Int) < (n : Int) := by omega
        have e1 : IntKind.i64.wrap ((k : Int) + 1) = ((k + 1 : Nat) : Int) := by rw [IntWalk.i64_in _ (by omega)]; omega
        have h3x : ¬ (n : Int) ≤ ((k + 1 : Nat) : Int) := by omega
        clear bad good hc h4 hu1
        go_wp2_with fail
        refine (CL.out _).mono ?_
        rintro e w4 ⟨rfl, rfl⟩
        go_wp2_with fail
        refine (CH.out _).mono ?_
        rintro e w4 ⟨rfl, rfl⟩
        go_wp2_with fail
        refine (CL1.out _).mono ?_
        rintro e w4 ⟨rfl, rfl⟩
        go_wp2_with fail
        go_ret2
        rw [HF.out]
        exact ⟨rfl, hb⟩
      · have HF := good r 2 hc (by omega)
        have cell1 := HCE.out w3 hb (k + 1) h3
        obtain ⟨u1, hu1⟩ : ∃ u1, zs.getD (k + 1) 0 = u1 := ⟨_, rfl⟩
        rw [hu1] at cell1 h4 h5 h7
        have CL := Lib.hid (fun w => Tx.Rlow_f u (by omega) w)
        have CH := Lib.hid (fun w => Tx.Rhigh_t u h1 h2 w)
        have CL1 := Lib.hid (fun w => Tx.Rlow_t u1 h4 h5 w)
        have CR := Lib.hid (fun w => Tx.RRune_any r h6 w)
        have hez := Tx.ba_size (Tx.enc r)
        have hep := (Tx.enc_pos r).2
        have HL : (Tx.flat rs).length + (Tx.ba (Tx.enc r)).size ≤ 140737488355328 := by rw [hez]; omega
        have h0 : ¬ u < 0 := by omega
        have h0' : ¬ (65535 : Int) < u := by omega
        have h3z : ¬ (n : Int) ≤ (k : Int) + 1 := by omega
        have h3y : ((k + 1 : Nat) : Int) < (n : Int) := by omega
        have e1 : IntKind.i64.wrap ((k : Int) + 1) = ((k + 1 : Nat) : Int) := by rw [IntWalk.i64_in _ (by omega)]; omega
        have h3x : ¬ (n : Int) ≤ ((k + 1 : Nat) : Int) := by omega
        have f1 : IntKind.i64.wrap (u - 55296) = u - 55296 := IntWalk.i64_in _ (by omega)
        have f2 : IntKind.i64.wrap ((u - 55296) * 1024) = (u - 55296) * 1024 := IntWalk.i64_in _ (by omega)
        have f3 : IntKind.i64.wrap (65536 + (u - 55296) * 1024) = 65536 + (u - 55296) * 1024 := IntWalk.i64_in _ (by omega)
        have f4 : IntKind.i64.wrap (u1 - 56320) = u1 - 56320 := IntWalk.i64_in _ (by omega)
        have f5 : IntKind.i64.wrap (65536 + (u - 55296) * 1024 + (u1 - 56320)) = (r : Int) := by rw [IntWalk.i64_in _ (by omega)]; omega
        clear bad good hc hu1 hez hep h7
        go_wp2_with fail
        refine (CL.out _).mono ?_
        rintro e w4 ⟨rfl, rfl⟩
        go_wp2_with fail
        refine (CH.out _).mono ?_
        rintro e w4 ⟨rfl, rfl⟩
        go_wp2_with fail
        refine (CL1.out _).mono ?_
        rintro e w4 ⟨rfl, rfl⟩
        go_wp2_with fail
        refine (CH.out _).mono ?_
        rintro e w4 ⟨rfl, rfl⟩
        go_wp2_with fail
        refine (CR.out _).mono ?_
        rintro e w5 ⟨rfl, b5⟩
        have hown5 := hown.below b5 (Nat.le_refl _)
        have hbs5 := Nat.le_trans hbs b5.size
        go_wp2_with (at_builtin; refine Tx.appendS rfl _ _ rfl w.heap.size _ _ rfl hown5 _ rfl HL hbs5 ?_; intro v6 w6 hown6 hb6 hz6)
        exact ⟨⟨k + 2, rs ++ [r], by omega, by go_num, HF.out.2, by rw [Tx.flat_snoc]; exact hown6, (hb.trans (b5.mono hbs)).trans hb6, HF.out.1⟩, by simp [intOf]; omega⟩
    · have hk' : zs.drop k = [] := List.drop_eq_nil_of_le (by rw [← HN.out]; omega)
      have hr := HE.out
      rw [hk'] at hr
      have HR := Lib.hid (Tx.fromAns_ok (r := Tx.readU zs) (rs := rs) (by rw [hr]; simp [Tx.readU, Except.map]))
      have hcv := hown.conv
      clear hr hk'
      go_wp2
      go_ret2
      rw [HR.out]
      exact ⟨rfl, hb⟩
end Go.Proofs.YtejnhhhmjkiehaaDoor
