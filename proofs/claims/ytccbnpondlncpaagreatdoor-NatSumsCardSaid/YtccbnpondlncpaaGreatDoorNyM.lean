/- Div, Pow, Mont, Inv of what is too long. -/
import Derived.Test.YtccbnpondlncpaaGreatDoorNyD
import Derived.Test.YtccbnpondlncpaaGreatDoorNyH
namespace Go.Proofs.YtccbnpondlncpaaGreatDoor
open Go.RowKit
set_option maxHeartbeats 1000000 in
set_option maxRecDepth 100000 in
theorem Nt.readAndDivide_long (w : World) (ok : Nt.Ok w) (s t : ByteArray) (hs : s.size ≤ 9223372036854775807) (ht : t.size ≤ 9223372036854775807) (hl : 512 < s.size ∨ 512 < t.size) :
    Calls Tryz.prog 38 #[.string s, .string t] w fun e w' => ∃ v, e = .returned (.tuple #[.slice none 0 0, .slice none 0 0, v]) ∧ Nt.Err w' v 30 ∧ Below w.heap.size w w' := by
  have HS := Lib.hid (And.intro ok (And.intro hs (And.intro ht hl)))
  clear ok hs ht hl
  go_enter Tryz.func38, Tryz.ntmps38
  go_wp2_with fail
  go_at_call 53
  refine Calls.mono (Nt.readTwo_long w HS.out.1 s t HS.out.2.1 HS.out.2.2.1 HS.out.2.2.2) ?_
  rintro e1 w1 ⟨v, rfl, ⟨T, p, rfl⟩, hE, hb⟩
  have H1 := Lib.hid (And.intro hE hb)
  clear hE hb
  go_wp2_with fail
  exact bodyPost_ret (v := .tuple #[.slice none 0 0, .slice none 0 0, .iface T p]) (by simp [results, Tryz.results38, go_sem]) rfl ⟨_, rfl, H1.out.1, H1.out.2⟩
set_option maxHeartbeats 1000000 in
set_option maxRecDepth 100000 in
theorem Nt.Div_long (w : World) (ok : Nt.Ok w) (s t : ByteArray) (hs : s.size ≤ 9223372036854775807) (ht : t.size ≤ 9223372036854775807) (hl : 512 < s.size ∨ 512 < t.size) :
    Calls Tryz.prog 12 #[.string s, .string t] w fun e w' => e = .returned (.tuple #[.string ⟨#[]⟩, .string ⟨#[]⟩, .int .i64 30]) ∧ Below w.heap.size w w' := by
  have HS := Lib.hid (And.intro ok (And.intro hs (And.intro ht hl)))
  clear ok hs ht hl
  go_enter Tryz.func12, Tryz.ntmps12
  go_wp2_with fail
  go_at_call 38
  refine Calls.mono (Nt.readAndDivide_long w HS.out.1 s t HS.out.2.1 HS.out.2.2.1 HS.out.2.2.2) ?_
  rintro e1 w1 ⟨v, rfl, hE, hb⟩
  have H1 := Lib.hid (And.intro hE hb)
  clear hE hb
  go_wp2_with fail
  go_at_call 39
  refine Calls.mono (Nt.form_any w1 none 0 0 0 (Nt.Num.nil _) (by omega)) ?_
  rintro e3 w3 ⟨rfl, hb3⟩
  have H3 := Lib.hid hb3
  clear hb3
  go_wp2_with fail
  go_at_call 39
  refine Calls.mono (Nt.form_any w3 none 0 0 0 (Nt.Num.nil _) (by omega)) ?_
  rintro e5 w5 ⟨rfl, hb5⟩
  have H5 := Lib.hid hb5
  clear hb5
  go_wp2_with fail
  go_at_call 40
  refine Calls.mono (Nt.told_any w5 (((HS.out.1.below H1.out.2).below H3.out).below H5.out) _ 30 ((H1.out.1.below H3.out).below H5.out)) ?_
  rintro e4 w4 ⟨rfl, rfl⟩
  go_wp2_with fail
  have hfin := (H1.out.2.trans (H3.out.mono H1.out.2.size)).trans (H5.out.mono (Nat.le_trans H1.out.2.size H3.out.size))
  exact bodyPost_ret (v := .tuple #[.string ⟨#[]⟩, .string ⟨#[]⟩, .int .i64 30]) (by simp [results, Tryz.results12, go_sem, Nt.fm_zero]) rfl ⟨rfl, hfin⟩
set_option maxHeartbeats 1000000 in
set_option maxRecDepth 100000 in
theorem Nt.ofThree_long (w : World) (ok : Nt.Ok w) (fv : Value) (s t r : ByteArray) (hs : s.size ≤ 9223372036854775807) (ht : t.size ≤ 9223372036854775807) (hr : r.size ≤ 9223372036854775807) (hl : 512 < s.size ∨ 512 < t.size ∨ 512 < r.size) :
    Calls Tryz.prog 47 #[fv, .string s, .string t, .string r] w fun e w' => e = .returned (.tuple #[.string ⟨#[]⟩, .int .i64 30]) ∧ Below w.heap.size w w' := by
  by_cases h2 : 512 < s.size ∨ 512 < t.size
  · have HS := Lib.hid (And.intro ok (And.intro hs (And.intro ht h2)))
    clear ok hs ht hr hl h2
    go_enter Tryz.func47, Tryz.ntmps47
    go_wp2_with fail
    go_at_call 53
    refine Calls.mono (Nt.readTwo_long w HS.out.1 s t HS.out.2.1 HS.out.2.2.1 HS.out.2.2.2) ?_
    rintro e1 w1 ⟨v, rfl, ⟨T, p, rfl⟩, hE, hb⟩
    have H1 := Lib.hid (And.intro hE hb)
    clear hE hb
    go_wp2_with fail
    go_at_call 40
    refine Calls.mono (Nt.told_any w1 (HS.out.1.below H1.out.2) _ 30 H1.out.1) ?_
    rintro e4 w4 ⟨rfl, rfl⟩
    go_wp2_with fail
    go_ret2
    exact ⟨rfl, H1.out.2⟩
  · have HS := Lib.hid (And.intro ok (And.intro (show s.size ≤ 512 by omega) (And.intro (show t.size ≤ 512 by omega) (And.intro (show 512 < r.size by omega) hr))))
    clear ok hs ht hr hl h2
    go_enter Tryz.func47, Tryz.ntmps47
    go_wp2_with fail
    go_at_call 53
    refine Calls.mono (Nt.readTwo_ok w s t HS.out.2.1 HS.out.2.2.1) ?_
    rintro e1 w1 ⟨ax, n, cx, ay, m, cy, rfl, h1, h2, hn, hm, hb⟩
    have H1 := Lib.hid hb
    clear h1 h2 hn hm hb
    go_wp2_with fail
    go_at_call 69
    refine Calls.mono (Nt.read_long w1 (HS.out.1.below H1.out) r HS.out.2.2.2.1 HS.out.2.2.2.2) ?_
    rintro e2 w2 ⟨v, rfl, hE, hb2⟩
    have hv : ∃ T p, v = .iface T p := by
      rcases hE with ⟨h, _⟩ | ⟨_, _, a, h, _⟩
      · exact absurd h (by decide)
      · exact ⟨_, _, h⟩
    obtain ⟨T, p, rfl⟩ := hv
    have H2 := Lib.hid (And.intro hE hb2)
    clear hE hb2
    go_wp2_with fail
    go_at_call 40
    refine Calls.mono (Nt.told_any w2 ((HS.out.1.below H1.out).below H2.out.2) _ 30 H2.out.1) ?_
    rintro e4 w4 ⟨rfl, rfl⟩
    go_wp2_with fail
    go_ret2
    exact ⟨rfl, H1.out.trans (H2.out.2.mono H1.out.size)⟩
set_option maxRecDepth 100000 in
theorem Nt.Pow_long (w : World) (ok : Nt.Ok w) (s t r : ByteArray) (hs : s.size ≤ 9223372036854775807) (ht : t.size ≤ 9223372036854775807) (hr : r.size ≤ 9223372036854775807) (hl : 512 < s.size ∨ 512 < t.size ∨ 512 < r.size) :
    Calls Tryz.prog 23 #[.string s, .string t, .string r] w fun e w' => e = .returned (.tuple #[.string ⟨#[]⟩, .int .i64 30]) ∧ Below w.heap.size w w' := by
  have HS := Lib.hid (And.intro ok (And.intro hs (And.intro ht (And.intro hr hl))))
  clear ok hs ht hr hl
  go_enter Tryz.func23, Tryz.ntmps23
  go_wp2_with fail
  go_at_call 47
  refine Calls.mono (Nt.ofThree_long w HS.out.1 _ s t r HS.out.2.1 HS.out.2.2.1 HS.out.2.2.2.1 HS.out.2.2.2.2) ?_
  rintro e1 w1 ⟨rfl, hb⟩
  have H1 := Lib.hid hb
  clear hb
  go_wp2_with fail
  go_ret2
  exact ⟨rfl, H1.out⟩
set_option maxRecDepth 100000 in
theorem Nt.Mont_long (w : World) (ok : Nt.Ok w) (s t r : ByteArray) (hs : s.size ≤ 9223372036854775807) (ht : t.size ≤ 9223372036854775807) (hr : r.size ≤ 9223372036854775807) (hl : 512 < s.size ∨ 512 < t.size ∨ 512 < r.size) :
    Calls Tryz.prog 29 #[.string s, .string t, .string r] w fun e w' => e = .returned (.tuple #[.string ⟨#[]⟩, .int .i64 30]) ∧ Below w.heap.size w w' := by
  have HS := Lib.hid (And.intro ok (And.intro hs (And.intro ht (And.intro hr hl))))
  clear ok hs ht hr hl
  go_enter Tryz.func29, Tryz.ntmps29
  go_wp2_with fail
  go_at_call 47
  refine Calls.mono (Nt.ofThree_long w HS.out.1 _ s t r HS.out.2.1 HS.out.2.2.1 HS.out.2.2.2.1 HS.out.2.2.2.2) ?_
  rintro e1 w1 ⟨rfl, hb⟩
  have H1 := Lib.hid hb
  clear hb
  go_wp2_with fail
  go_ret2
  exact ⟨rfl, H1.out⟩
set_option maxRecDepth 100000 in
theorem Nt.Inv_long (w : World) (ok : Nt.Ok w) (s t : ByteArray) (hs : s.size ≤ 9223372036854775807) (ht : t.size ≤ 9223372036854775807) (hl : 512 < s.size ∨ 512 < t.size) :
    Calls Tryz.prog 25 #[.string s, .string t] w fun e w' => e = .returned (.tuple #[.string ⟨#[]⟩, .int .i64 30]) ∧ Below w.heap.size w w' := by
  have HS := Lib.hid (And.intro ok (And.intro hs (And.intro ht hl)))
  clear ok hs ht hl
  go_enter Tryz.func25, Tryz.ntmps25
  go_wp2_with fail
  go_at_call 33
  refine Calls.mono (Nt.ofTwo_long w HS.out.1 _ s t HS.out.2.1 HS.out.2.2.1 HS.out.2.2.2) ?_
  rintro e1 w1 ⟨rfl, hb⟩
  have H1 := Lib.hid hb
  clear hb
  go_wp2_with fail
  go_ret2
  exact ⟨rfl, H1.out⟩
end Go.Proofs.YtccbnpondlncpaaGreatDoor
