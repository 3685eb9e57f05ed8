/- The calls whose answers the document fixes: 'fixed' answers true. -/
import Derived.Test.YtccbnpondlncpaaGreatDoorNyD
import Derived.Test.YtccbnpondlncpaaGreatDoorNyH
namespace Go.Proofs.YtccbnpondlncpaaGreatDoor
open Go.RowKit

theorem Nt.fx1 (w : World) (ok : Nt.Ok w) : Calls Tryz.prog 23 #[.string ⟨#[2]⟩, .string ⟨#[10]⟩, .string ⟨#[3, 232]⟩] w fun e w' => e = .returned (.tuple #[.string ⟨#[24]⟩, .int .i64 0]) ∧ Below w.heap.size w w' := by
  refine (Nt.Pow_ok w ok ⟨#[2]⟩ ⟨#[10]⟩ ⟨#[3, 232]⟩ (by decide) (by decide) (by decide)).mono ?_
  rintro e w' ⟨R, K, rfl, hP, hb⟩
  rw [show Nt.nv ⟨#[2]⟩ = 2 by decide +kernel, show Nt.nv ⟨#[10]⟩ = 10 by decide +kernel, show Nt.nv ⟨#[3, 232]⟩ = 1000 by decide +kernel] at hP
  rcases hP with ⟨h, _⟩ | ⟨_, rfl, rfl⟩
  · exact absurd h (by decide)
  · exact ⟨by rw [show Nt.fm (2 ^ 10 % 1000) = [24] by decide +kernel]; rfl, hb⟩
theorem Nt.fx2 (w : World) (ok : Nt.Ok w) : Calls Tryz.prog 25 #[.string ⟨#[3]⟩, .string ⟨#[7]⟩] w fun e w' => e = .returned (.tuple #[.string ⟨#[5]⟩, .int .i64 0]) ∧ Below w.heap.size w w' := by
  refine (Nt.Inv_ok w ok ⟨#[3]⟩ ⟨#[7]⟩ (by decide) (by decide)).mono ?_
  rintro e w' ⟨R, K, rfl, hP, hb⟩
  rw [show Nt.nv ⟨#[3]⟩ = 3 by decide +kernel, show Nt.nv ⟨#[7]⟩ = 7 by decide +kernel] at hP
  rcases hP with ⟨h, _⟩ | ⟨_, h, _⟩ | ⟨_, _, h1, h2, rfl⟩
  · exact absurd h (by decide)
  · exact absurd (by decide) h
  · obtain rfl : R = 5 := by omega
    exact ⟨by rw [show Nt.fm 5 = [5] by decide +kernel]; rfl, hb⟩
theorem Nt.fx3 (w : World) (ok : Nt.Ok w) : Calls Tryz.prog 25 #[.string ⟨#[2]⟩, .string ⟨#[4]⟩] w fun e w' => e = .returned (.tuple #[.string ⟨#[]⟩, .int .i64 33]) ∧ Below w.heap.size w w' := by
  refine (Nt.Inv_ok w ok ⟨#[2]⟩ ⟨#[4]⟩ (by decide) (by decide)).mono ?_
  rintro e w' ⟨R, K, rfl, hP, hb⟩
  rw [show Nt.nv ⟨#[2]⟩ = 2 by decide +kernel, show Nt.nv ⟨#[4]⟩ = 4 by decide +kernel] at hP
  rcases hP with ⟨h, _⟩ | ⟨_, _, rfl, rfl⟩ | ⟨_, h, _⟩
  · exact absurd h (by decide)
  · exact ⟨rfl, hb⟩
  · exact absurd h (by decide)
theorem Nt.fx4 (w : World) (ok : Nt.Ok w) : Calls Tryz.prog 29 #[.string ⟨#[1]⟩, .string ⟨#[1]⟩, .string ⟨#[7]⟩] w fun e w' => e = .returned (.tuple #[.string ⟨#[2]⟩, .int .i64 0]) ∧ Below w.heap.size w w' := by
  refine (Nt.Mont_ok w ok ⟨#[1]⟩ ⟨#[1]⟩ ⟨#[7]⟩ (by decide) (by decide) (by decide)).mono ?_
  rintro e w' ⟨R, K, rfl, hP, hb⟩
  rw [show Nt.nv ⟨#[1]⟩ = 1 by decide +kernel, show Nt.nv ⟨#[7]⟩ = 7 by decide +kernel] at hP
  rcases hP with ⟨h, _⟩ | ⟨_, h, _⟩ | ⟨_, h1, h2, rfl⟩
  · exact absurd h (by decide)
  · exact absurd h (by decide)
  · rw [show Nt.by 7 = 1 by decide +kernel] at h2
    obtain rfl : R = 2 := by omega
    exact ⟨by rw [show Nt.fm 2 = [2] by decide +kernel]; rfl, hb⟩
theorem Nt.fx5 (w : World) (ok : Nt.Ok w) : Calls Tryz.prog 29 #[.string ⟨#[5]⟩, .string ⟨#[3]⟩, .string ⟨#[8]⟩] w fun e w' => e = .returned (.tuple #[.string ⟨#[]⟩, .int .i64 34]) ∧ Below w.heap.size w w' := by
  refine (Nt.Mont_ok w ok ⟨#[5]⟩ ⟨#[3]⟩ ⟨#[8]⟩ (by decide) (by decide) (by decide)).mono ?_
  rintro e w' ⟨R, K, rfl, hP, hb⟩
  rw [show Nt.nv ⟨#[5]⟩ = 5 by decide +kernel, show Nt.nv ⟨#[3]⟩ = 3 by decide +kernel, show Nt.nv ⟨#[8]⟩ = 8 by decide +kernel] at hP
  rcases hP with ⟨h, _⟩ | ⟨_, _, rfl, rfl⟩ | ⟨h, _⟩
  · exact absurd h (by decide)
  · exact ⟨rfl, hb⟩
  · exact absurd h (by decide)
theorem Nt.fx6 (w : World) (ok : Nt.Ok w) : Calls Tryz.prog 12 #[.string ⟨#[1, 0]⟩, .string ⟨#[7]⟩] w fun e w' => e = .returned (.tuple #[.string ⟨#[36]⟩, .string ⟨#[4]⟩, .int .i64 0]) ∧ Below w.heap.size w w' := by
  have h := Nt.Div_ok w ok ⟨#[1, 0]⟩ ⟨#[7]⟩ (by decide) (by decide)
  rw [show Nt.nv ⟨#[1, 0]⟩ = 256 by decide +kernel, show Nt.nv ⟨#[7]⟩ = 7 by decide +kernel, show Nt.fm (256 / 7) = [36] by decide +kernel, show (if (7 : Nat) = 0 then 0 else 256 % 7) = 4 by decide, show (if (7 : Nat) = 0 then 31 else 0) = 0 by decide, show Nt.fm 4 = [4] by decide +kernel] at h
  exact h
theorem Nt.fx7 (w : World) (ok : Nt.Ok w) : Calls Tryz.prog 22 #[.string ⟨#[1, 0]⟩, .int .i64 1] w fun e w' => e = .returned (.tuple #[.string ⟨#[]⟩, .int .i64 35]) ∧ Below w.heap.size w w' :=
  Nt.Pad_no w ok ⟨#[1, 0]⟩ (by decide) 1 (.inr (.inr ⟨by decide, by decide, by rw [show Nt.nv ⟨#[1, 0]⟩ = 256 by decide +kernel, show Nt.by 256 = 2 by decide +kernel]; decide⟩))
theorem Nt.fx8 (w : World) (ok : Nt.Ok w) : Calls Tryz.prog 12 #[.string ⟨#[1]⟩, .string ⟨#[]⟩] w fun e w' => e = .returned (.tuple #[.string ⟨#[]⟩, .string ⟨#[]⟩, .int .i64 31]) ∧ Below w.heap.size w w' := by
  have h := Nt.Div_ok w ok ⟨#[1]⟩ ⟨#[]⟩ (by decide) (by decide)
  rw [show Nt.nv ⟨#[1]⟩ = 1 by decide +kernel, show Nt.nv ⟨#[]⟩ = 0 by decide +kernel, show Nt.fm (1 / 0) = [] by decide +kernel, if_pos rfl, if_pos rfl, show Nt.fm 0 = [] by decide +kernel] at h
  exact h
theorem Nt.fx9 (w : World) (ok : Nt.Ok w) : Calls Tryz.prog 10 #[.string ⟨#[1]⟩, .string ⟨#[2]⟩] w fun e w' => e = .returned (.tuple #[.string ⟨#[]⟩, .int .i64 32]) ∧ Below w.heap.size w w' := by
  have h := Nt.Sub_ok w ok ⟨#[1]⟩ ⟨#[2]⟩ (by decide) (by decide)
  rw [show Nt.nv ⟨#[1]⟩ = 1 by decide +kernel, show Nt.nv ⟨#[2]⟩ = 2 by decide +kernel, show Nt.fm (1 - 2) = [] by decide +kernel, if_pos (by decide)] at h
  exact h
theorem Nt.fx10 (w : World) : Calls Tryz.prog 16 #[.string ⟨#[0, 1]⟩] w fun e w' => e = .returned (.string ⟨#[1]⟩) ∧ w' = w := by
  have h := Nt.Trim_any w ⟨#[0, 1]⟩
  rw [show Nt.ts ⟨#[0, 1]⟩ = ⟨#[1]⟩ by decide +kernel] at h
  exact h
theorem Nt.fx11 (w : World) : Calls Tryz.prog 18 #[.string ⟨#[0, 1, 0]⟩] w fun e w' => e = .returned (.int .i64 9) ∧ w' = w := by
  have h := Nt.Bits_any w ⟨#[0, 1, 0]⟩ (by decide)
  rw [show Nt.dig (Nt.nv ⟨#[0, 1, 0]⟩) = 9 by decide +kernel] at h
  exact h
set_option maxHeartbeats 2000000 in
set_option maxRecDepth 100000 in
theorem Nt.fixed_any (w : World) (ok : Nt.Ok w) : Calls Tryz.prog 14 #[] w fun e w' => e = .returned (.bool true) ∧ Below w.heap.size w w' := by
  have H0 := Lib.hid (And.intro ok (Below.refl w.heap.size w))
  clear ok
  go_enter Tryz.func14, Tryz.ntmps14
  go_wp2_with fail
  go_at_call 23
  refine (Nt.fx1 w H0.out.1).mono ?_
  rintro e1 w1 ⟨rfl, hb⟩
  have H1 := Lib.hid (And.intro (H0.out.1.below hb) (H0.out.2.trans (hb.mono H0.out.2.size)))
  clear hb H0
  go_wp2_with fail
  go_at_call 25
  refine (Nt.fx2 w1 H1.out.1).mono ?_
  rintro e2 w2 ⟨rfl, hb⟩
  have H2 := Lib.hid (And.intro (H1.out.1.below hb) (H1.out.2.trans (hb.mono H1.out.2.size)))
  clear hb H1
  go_wp2_with fail
  go_at_call 25
  refine (Nt.fx3 w2 H2.out.1).mono ?_
  rintro e3 w3 ⟨rfl, hb⟩
  have H3 := Lib.hid (And.intro (H2.out.1.below hb) (H2.out.2.trans (hb.mono H2.out.2.size)))
  clear hb H2
  go_wp2_with fail
  go_at_call 29
  refine (Nt.fx4 w3 H3.out.1).mono ?_
  rintro e4 w4 ⟨rfl, hb⟩
  have H4 := Lib.hid (And.intro (H3.out.1.below hb) (H3.out.2.trans (hb.mono H3.out.2.size)))
  clear hb H3
  go_wp2_with fail
  go_at_call 29
  refine (Nt.fx5 w4 H4.out.1).mono ?_
  rintro e5 w5 ⟨rfl, hb⟩
  have H5 := Lib.hid (And.intro (H4.out.1.below hb) (H4.out.2.trans (hb.mono H4.out.2.size)))
  clear hb H4
  go_wp2_with fail
  go_at_call 12
  refine (Nt.fx6 w5 H5.out.1).mono ?_
  rintro e6 w6 ⟨rfl, hb⟩
  have H6 := Lib.hid (And.intro (H5.out.1.below hb) (H5.out.2.trans (hb.mono H5.out.2.size)))
  clear hb H5
  go_wp2_with fail
  go_at_call 22
  refine (Nt.fx7 w6 H6.out.1).mono ?_
  rintro e7 w7 ⟨rfl, hb⟩
  have H7 := Lib.hid (And.intro (H6.out.1.below hb) (H6.out.2.trans (hb.mono H6.out.2.size)))
  clear hb H6
  go_wp2_with fail
  go_at_call 12
  refine (Nt.fx8 w7 H7.out.1).mono ?_
  rintro e8 w8 ⟨rfl, hb⟩
  have H8 := Lib.hid (And.intro (H7.out.1.below hb) (H7.out.2.trans (hb.mono H7.out.2.size)))
  clear hb H7
  go_wp2_with fail
  go_at_call 10
  refine (Nt.fx9 w8 H8.out.1).mono ?_
  rintro e9 w9 ⟨rfl, hb⟩
  have H9 := Lib.hid (And.intro (H8.out.1.below hb) (H8.out.2.trans (hb.mono H8.out.2.size)))
  clear hb H8
  go_wp2_with (first | (go_at_call 16; refine (Nt.fx10 _).mono ?_; rintro e w' ⟨rfl, rfl⟩) | (go_at_call 18; refine (Nt.fx11 _).mono ?_; rintro e w' ⟨rfl, rfl⟩))
  go_ret
  exact ⟨rfl, H9.out.2⟩
end Go.Proofs.YtccbnpondlncpaaGreatDoor
