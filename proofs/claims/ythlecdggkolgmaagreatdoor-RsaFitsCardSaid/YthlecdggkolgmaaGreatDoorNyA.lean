/- readTwo, readAndDivide. -/
import Derived.Test.YthlecdggkolgmaaGreatDoorNtY
import Derived.Test.YthlecdggkolgmaaGreatDoorNtX
namespace Go.Proofs.YthlecdggkolgmaaGreatDoor
open Go.RowKit

/-- What a text says as a number. -/
def Nt.nv (s : ByteArray) : Nat := Nt.rd s.data.toList
theorem Nt.nv_lt (s : ByteArray) : Nt.nv s < 256 ^ s.size := by
  have h := Nt.rd_lt s.data.toList
  rwa [show s.data.toList.length = s.size by simp] at h
/-- A number of at most 4 k bytes has at most k limbs. -/
theorem Nt.Num.bytes {w : World} {ax : Option Addr} {n cx x : Nat} (h : Nt.Num w ax n cx x) (k b : Nat) (hx : x < 256 ^ b) (hb : b ≤ 4 * k) : n ≤ k := h.len k (by
  have h2 : 256 ^ b ≤ 256 ^ (4 * k) := Nat.pow_le_pow_right (by decide) hb
  rw [Nat.pow_mul] at h2
  exact Nat.lt_of_lt_of_le hx h2)
set_option maxHeartbeats 1000000 in
theorem Nt.readTwo_ok (w : World) (s t : ByteArray) (hs : s.size ≤ 512) (ht : t.size ≤ 512) :
    Calls Tryz.prog 105 #[.string s, .string t] w fun e w' => ∃ ax n cx ay m cy, e = .returned (.tuple #[.slice ax n cx, .slice ay m cy, .nilIface]) ∧ Nt.Num w' ax n cx (Nt.nv s) ∧ Nt.Num w' ay m cy (Nt.nv t) ∧ n ≤ 128 ∧ m ≤ 128 ∧ Below w.heap.size w w' := by
  have HS := Lib.hid (And.intro hs ht)
  clear hs ht
  go_enter Tryz.func105, Tryz.ntmps105
  go_wp2_with fail
  go_at_call 106
  refine Calls.mono (Nt.read_ok w s HS.out.1) ?_
  rintro e1 w1 ⟨ax, n, cx, rfl, h1, hb1⟩
  have H1 := Lib.hid (And.intro h1 hb1)
  clear h1 hb1
  go_wp2_with fail
  go_at_call 106
  refine Calls.mono (Nt.read_ok w1 t HS.out.2) ?_
  rintro e2 w2 ⟨ay, m, cy, rfl, h2, hb2⟩
  have H2 := Lib.hid (And.intro h2 hb2)
  clear h2 hb2
  go_wp2_with fail
  exact bodyPost_ret (v := .tuple #[.slice ax n cx, .slice ay m cy, .nilIface]) (by simp [results, Tryz.results105, go_sem]) rfl ⟨_, _, _, _, _, _, rfl, H1.out.1.below H2.out.2, H2.out.1, H1.out.1.bytes 128 s.size (Nt.nv_lt s) HS.out.1, H2.out.1.bytes 128 t.size (Nt.nv_lt t) HS.out.2, H1.out.2.trans (H2.out.2.mono H1.out.2.size)⟩
set_option maxHeartbeats 1000000 in
theorem Nt.readTwo_long (w : World) (ok : Nt.Ok w) (s t : ByteArray) (hs : s.size ≤ 9223372036854775807) (ht : t.size ≤ 9223372036854775807) (hl : 512 < s.size ∨ 512 < t.size) :
    Calls Tryz.prog 105 #[.string s, .string t] w fun e w' => ∃ v, e = .returned (.tuple #[.slice none 0 0, .slice none 0 0, v]) ∧ (∃ T p, v = .iface T p) ∧ Nt.Err w' v 30 ∧ Below w.heap.size w w' := by
  have HS := Lib.hid (And.intro ok (And.intro hs ht))
  clear ok
  by_cases h1 : 512 < s.size
  · clear hl hs ht
    have HL := Lib.hid h1
    clear h1
    go_enter Tryz.func105, Tryz.ntmps105
    go_wp2_with fail
    go_at_call 106
    refine Calls.mono (Nt.read_long w HS.out.1 s HL.out HS.out.2.1) ?_
    rintro e1 w1 ⟨v, rfl, h1, hb1⟩
    have hv : ∃ T p, v = .iface T p := by
      rcases h1 with ⟨h, _⟩ | ⟨_, _, a, h, _⟩
      · exact absurd h (by decide)
      · exact ⟨_, _, h⟩
    obtain ⟨T, p, rfl⟩ := hv
    have H1 := Lib.hid (And.intro h1 hb1)
    clear h1 hb1
    go_wp2_with fail
    exact bodyPost_ret (v := .tuple #[.slice none 0 0, .slice none 0 0, .iface T p]) (by simp [results, Tryz.results105, go_sem]) rfl ⟨_, rfl, ⟨_, _, rfl⟩, H1.out.1, H1.out.2⟩
  · have h2 : 512 < t.size := hl.resolve_left h1
    have HL := Lib.hid (And.intro (Nat.le_of_not_lt h1) h2)
    clear hl h1 h2 hs ht
    go_enter Tryz.func105, Tryz.ntmps105
    go_wp2_with fail
    go_at_call 106
    refine Calls.mono (Nt.read_ok w s HL.out.1) ?_
    rintro e1 w1 ⟨ax, n, cx, rfl, h1, hb1⟩
    have H1 := Lib.hid (And.intro h1 hb1)
    clear h1 hb1
    go_wp2_with fail
    go_at_call 106
    refine Calls.mono (Nt.read_long w1 (HS.out.1.below H1.out.2) t HL.out.2 HS.out.2.2) ?_
    rintro e2 w2 ⟨v, rfl, h2, hb2⟩
    have hv : ∃ T p, v = .iface T p := by
      rcases h2 with ⟨h, _⟩ | ⟨_, _, a, h, _⟩
      · exact absurd h (by decide)
      · exact ⟨_, _, h⟩
    obtain ⟨T, p, rfl⟩ := hv
    have H2 := Lib.hid (And.intro h2 hb2)
    clear h2 hb2
    go_wp2_with fail
    exact bodyPost_ret (v := .tuple #[.slice none 0 0, .slice none 0 0, .iface T p]) (by simp [results, Tryz.results105, go_sem]) rfl ⟨_, rfl, ⟨_, _, rfl⟩, H2.out.1, H1.out.2.trans (H2.out.2.mono H1.out.2.size)⟩
end Go.Proofs.YthlecdggkolgmaaGreatDoor
