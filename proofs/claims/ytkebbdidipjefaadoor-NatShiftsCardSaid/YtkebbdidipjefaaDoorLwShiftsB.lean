/- NatShifts, the cases. -/
import Derived.Test.YtkebbdidipjefaaDoorLwShiftsA
namespace Go.Proofs.YtkebbdidipjefaaDoor
open Go.RowKit

theorem Nt.dig_shift (x k : Nat) (hx : x ≠ 0) : Nt.dig (x * 2 ^ k) = Nt.dig x + k := by
  have h1 := Nt.dig_le x hx
  have h2 := Nt.dig_lt x
  have h3 := Nt.dig_pos x hx
  obtain ⟨d, hd⟩ : ∃ d, Nt.dig x = d + 1 := ⟨Nt.dig x - 1, by omega⟩
  rw [hd, Nat.add_sub_cancel] at h1
  rw [hd] at h2 ⊢
  rw [show d + 1 + k = (d + k) + 1 by omega]
  refine Nt.dig_spec _ _ ?_ ?_
  · rw [Nat.pow_add]
    exact Nat.mul_le_mul_right _ h1
  · rw [show d + k + 1 = (d + 1) + k by omega, Nat.pow_add 2 (d + 1)]
    exact Nat.mul_lt_mul_of_pos_right h2 (Nat.two_pow_pos k)
theorem Nt.two_lt (B k : Nat) (h : B < 8 * k) : 2 ^ B < 256 ^ k := by
  rw [show (256 : Nat) = 2 ^ 8 by rfl, ← Nat.pow_mul]
  exact Nat.pow_lt_pow_right (by decide) h
theorem Nt.Pow_two (W : World) (ok : Nt.Ok W) (e m : ByteArray) (B N : Nat) (hv : Nt.nv e = B) (hm : Nt.nv m = 256 ^ N) (hlt : B < 8 * N) (he : e.size ≤ 512) (hms : m.size ≤ 512) :
    Calls Tryd.prog 15 #[.string ⟨#[2]⟩, .string e, .string m] W fun e w' => e = .returned (.tuple #[.string (lwRing.F (2 ^ B)), .int .i64 0]) ∧ Below W.heap.size W w' := by
  refine (Nt.Pow_ok W ok ⟨#[2]⟩ e m (by decide) he hms).mono ?_
  rintro e w' ⟨R, K, rfl, hP, hb⟩
  rw [hv, hm, show Nt.nv ⟨#[2]⟩ = 2 by decide +kernel] at hP
  rcases hP with ⟨h, _⟩ | ⟨_, rfl, rfl⟩
  · exact absurd h (Nat.ne_of_gt (Nat.pow_pos (by decide)))
  · rw [Nat.mod_eq_of_lt (Nt.two_lt B N hlt)]
    exact ⟨rfl, hb⟩
namespace lwShifts

set_option maxRecDepth 100000 in
theorem neg (a : ByteArray) (n : Int) (w : World) (ok : Nt.Ok w) (h : n < 0) :
    Calls Tryd.prog 5 #[.string a, .int .i64 n] w fun e w' => e = .returned (.bool true) ∧ Below w.heap.size w w' := by
  have H0 := Lib.hid (And.intro ok (Below.refl w.heap.size w))
  clear ok
  go_enter Tryd.func5, Tryd.ntmps5
  go_wp2_with fail
  go_at_call 8
  refine (Nt.fixed_any _ H0.out.1).mono ?_
  rintro e1 w1 ⟨rfl, hb⟩
  have H1 := Lib.hid (And.intro (H0.out.1.below hb) (H0.out.2.trans (hb.mono H0.out.2.size)))
  clear hb H0
  go_wp2_with fail
  go_ret
  exact ⟨rfl, H1.out.2⟩
set_option maxRecDepth 100000 in
theorem big (a : ByteArray) (n : Int) (w : World) (ok : Nt.Ok w) (h : 200 < n) :
    Calls Tryd.prog 5 #[.string a, .int .i64 n] w fun e w' => e = .returned (.bool true) ∧ Below w.heap.size w w' := by
  have h0 : ¬ n < 0 := by omega
  have H0 := Lib.hid (And.intro ok (Below.refl w.heap.size w))
  clear ok
  go_enter Tryd.func5, Tryd.ntmps5
  go_wp2_with fail
  go_at_call 8
  refine (Nt.fixed_any _ H0.out.1).mono ?_
  rintro e1 w1 ⟨rfl, hb⟩
  have H1 := Lib.hid (And.intro (H0.out.1.below hb) (H0.out.2.trans (hb.mono H0.out.2.size)))
  clear hb H0
  go_wp2_with fail
  go_ret
  exact ⟨rfl, H1.out.2⟩
set_option maxRecDepth 100000 in
theorem long (a : ByteArray) (n : Int) (w : World) (ok : Nt.Ok w) (h0 : ¬ n < 0) (h2 : ¬ 200 < n) (ha : 300 < a.size) :
    Calls Tryd.prog 5 #[.string a, .int .i64 n] w fun e w' => e = .returned (.bool true) ∧ Below w.heap.size w w' := by
  have haz : (300 : Int) < (a.size : Int) := by omega
  clear ha
  have H0 := Lib.hid (And.intro ok (Below.refl w.heap.size w))
  clear ok
  go_enter Tryd.func5, Tryd.ntmps5
  go_wp2_with fail
  go_at_call 8
  refine (Nt.fixed_any _ H0.out.1).mono ?_
  rintro e1 w1 ⟨rfl, hb⟩
  have H1 := Lib.hid (And.intro (H0.out.1.below hb) (H0.out.2.trans (hb.mono H0.out.2.size)))
  clear hb H0
  go_wp2_with fail
  go_ret
  exact ⟨rfl, H1.out.2⟩
set_option maxRecDepth 100000 in
theorem walk (a : ByteArray) (n : Int) (w : World) (ok : Nt.Ok w) :
    Calls Tryd.prog 5 #[.string a, .int .i64 n] w fun e w' => e = .returned (.bool true) ∧ Below w.heap.size w w' := by
  by_cases h0 : n < 0
  · exact neg a n w ok h0
  by_cases h2 : 200 < n
  · exact big a n w ok h2
  by_cases h3 : 300 < a.size
  · exact long a n w ok h0 h2 h3
  obtain ⟨k, rfl⟩ : ∃ k : Nat, n = (k : Int) := ⟨n.toNat, by omega⟩
  have hk : k ≤ 200 := by omega
  have ha : a.size ≤ 300 := by omega
  have hpw : Nt.nv (⟨#[1]⟩ ++ Nt.zs k) = 256 ^ k := Nt.nv_one k
  have hup : Nt.nv (a ++ Nt.zs k) = Nt.nv a * 256 ^ k := by rw [Nt.nv_append, Nt.nv_zs, Nt.zs_size, Nat.add_zero]
  have zpw : (⟨#[1]⟩ ++ Nt.zs k : ByteArray).size ≤ 512 := by rw [ByteArray.size_append, Nt.zs_size]; show 1 + k ≤ 512; omega
  have zup : (a ++ Nt.zs k : ByteArray).size ≤ 512 := by rw [ByteArray.size_append, Nt.zs_size]; omega
  have hp : 0 < 256 ^ k := Nat.pow_pos (by decide)
  have MU : ∀ W, Nt.Ok W → Calls Tryd.prog 11 #[.string a, .string (⟨#[1]⟩ ++ Nt.zs k)] W fun e w' => e = .returned (.tuple #[.string (Nt.ts (a ++ Nt.zs k)), .int .i64 0]) ∧ Below W.heap.size W w' := fun W hW => by
    have h := Nt.Mul_ok W hW a (⟨#[1]⟩ ++ Nt.zs k) (by omega) zpw
    rw [hpw, ← hup] at h
    exact h
  have DI : ∀ W, Nt.Ok W → Calls Tryd.prog 13 #[.string (a ++ Nt.zs k), .string (⟨#[1]⟩ ++ Nt.zs k)] W fun e w' => e = .returned (.tuple #[.string (Nt.ts a), .string ⟨#[]⟩, .int .i64 0]) ∧ Below W.heap.size W w' := fun W hW => by
    have h := Nt.Div_ok W hW (a ++ Nt.zs k) (⟨#[1]⟩ ++ Nt.zs k) zup zpw
    rw [hpw, hup, Nat.mul_div_cancel _ hp, if_neg (by omega), if_neg (by omega), Nat.mul_mod_left] at h
    exact h
  by_cases hx : Nt.nv a = 0
  · have e : Nt.ts a = ⟨#[]⟩ := by rw [lwRing.ts_F, hx]; rfl
    rw [e] at DI
    refine zero a (Nt.zs k) (Nt.ts (a ++ Nt.zs k)) w ok k hk ha rfl MU DI (fun W => Nt.Trim_any W _) (fun W => ?_) (fun W => ?_)
    · have h := Nt.Trim_any W a
      rw [e] at h
      exact h
    · have h := Nt.Bits_any W (a ++ Nt.zs k) (by omega)
      rw [hup, hx, Nat.zero_mul] at h
      exact h
  · have hB := Nt.dig_pos _ hx
    have hB2 : Nt.dig (Nt.nv a) ≤ 2400 := by
      have h := Nt.dig_of_lt (Nt.nv a) (8 * a.size) (by rw [Nat.pow_mul]; exact Nt.nv_lt a)
      omega
    have hle := Nt.dig_le _ hx
    have hlt := Nt.dig_lt (Nt.nv a)
    have hsh : Nt.dig (Nt.nv (a ++ Nt.zs k)) = Nt.dig (Nt.nv a) + 8 * k := by
      rw [hup, show (256 : Nat) = 2 ^ 8 by rfl, ← Nat.pow_mul]
      exact Nt.dig_shift _ _ hx
    obtain ⟨x, ex⟩ : ∃ x, Nt.nv a = x := ⟨_, rfl⟩
    have BA := fun W => Nt.Bits_any W a (by omega)
    have BU := fun W => Nt.Bits_any W (a ++ Nt.zs k) (by omega)
    rw [hsh] at BU
    rw [ex] at hB hB2 hle hlt hsh BA BU
    obtain ⟨Bt, hBt⟩ : ∃ Bt, Nt.dig x = Bt := ⟨_, rfl⟩
    rw [hBt] at hB hB2 hle hlt hsh BA BU
    obtain ⟨B1, hB1⟩ : ∃ B1, Bt - 1 = B1 := ⟨_, rfl⟩
    rw [hB1] at hle
    have hBB : Bt = B1 + 1 := by omega
    obtain ⟨s1, hs1⟩ : ∃ s1, 8 * k = s1 := ⟨_, rfl⟩
    rw [hs1] at BU
    have hc1 : (UInt8.ofNat (B1 / 256)).toNat = B1 / 256 := by rw [UInt8.toNat_ofNat']; omega
    have hc0 : (UInt8.ofNat (B1 % 256)).toNat = B1 % 256 := by rw [UInt8.toNat_ofNat']; omega
    have hv : Nt.nv ⟨#[UInt8.ofNat (B1 / 256), UInt8.ofNat (B1 % 256)]⟩ = B1 := by
      show (UInt8.ofNat (B1 / 256)).toNat * 256 ^ 1 + ((UInt8.ofNat (B1 % 256)).toNat * 256 ^ 0 + 0) = B1
      rw [hc1, hc0]
      omega
    have z2 : (lwRing.F (2 ^ B1)).size ≤ 301 := lwRing.F_le (2 ^ B1) 301 (Nt.two_lt B1 301 (by omega))
    refine pos a (Nt.zs k) (Nt.ts (a ++ Nt.zs k)) (Nt.ts a) (Nt.zs 400) (lwRing.F (2 ^ B1)) (lwRing.F (2 ^ B1 + 2 ^ B1)) w ok k hk ha rfl ?_ rfl (UInt8.ofNat (B1 / 256)) (UInt8.ofNat (B1 % 256)) Bt B1 (Bt + s1) (B1 % 256) (B1 / 256) s1 (Nt.cmp (2 ^ B1) x) hB1 hB hB2 hc1 hc0 rfl rfl hs1 rfl ?_ MU DI (fun W => Nt.Trim_any W _) (fun W => Nt.Trim_any W _) BA ?_ ?_ BU ?_ ?_
    · intro e
      have h2 := congrArg (fun z : ByteArray => Nt.nv z) e
      rw [lwRing.ts_F] at h2
      simp only [lwRing.nvF] at h2
      exact hx h2
    · unfold Nt.cmp
      split
      · decide
      · rw [if_neg (by omega)]
        decide
    · intro W hW
      exact Nt.Pow_two W hW _ _ B1 400 hv (Nt.nv_one 400) (by omega) (show 2 ≤ 512 by decide) (by rw [ByteArray.size_append, Nt.zs_size]; show 1 + 400 ≤ 512; decide)
    · exact lwRing.Add_F _ _ (by omega) (by omega)
    · intro W
      have h := Nt.Cmp_any W (lwRing.F (2 ^ B1)) a (by omega) (by omega)
      rw [lwRing.nvF, ex] at h
      exact h
    · intro W
      have z4 : (lwRing.F (2 ^ B1 + 2 ^ B1)).size ≤ 302 := lwRing.F_le (2 ^ B1 + 2 ^ B1) 302 (by
        have h := Nt.two_lt (B1 + 1) 302 (by omega)
        rwa [Nat.pow_succ, Nat.mul_two] at h)
      have h := Nt.Cmp_any W a (lwRing.F (2 ^ B1 + 2 ^ B1)) (by omega) (by omega)
      rw [lwRing.nvF, ex] at h
      have e : Nt.cmp x (2 ^ B1 + 2 ^ B1) = -1 := by
        unfold Nt.cmp
        rw [if_pos (by rw [hBB, Nat.pow_succ] at hlt; omega)]
      rw [e] at h
      exact h
end lwShifts
end Go.Proofs.YtkebbdidipjefaaDoor
