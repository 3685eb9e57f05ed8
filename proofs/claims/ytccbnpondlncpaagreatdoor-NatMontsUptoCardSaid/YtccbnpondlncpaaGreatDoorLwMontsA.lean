/- NatMonts, the walk. -/
import Derived.Test.YtccbnpondlncpaaGreatDoorLwPowersA
namespace Go.Proofs.YtccbnpondlncpaaGreatDoor
open Go.RowKit
/-- n bytes 0. -/
def Rn.zs (n : Nat) : ByteArray := ⟨(List.replicate n 0).toArray⟩
theorem Rn.zs_size (n : Nat) : (Rn.zs n).size = n := by
  show (List.replicate n (0 : UInt8)).length = n
  simp
theorem Rn.conv_zs (w : World) (n : Nat) : (convert 49 9 (.slice (some ⟨w.heap.size, 0, none⟩) n n)).run Tryz.prog (w.alloc (.cells (Array.replicate n (Value.int .u8 0)) 5)) = .ok (.string (Rn.zs n)) (w.alloc (.cells (Array.replicate n (Value.int .u8 0)) 5)) := by
  have h := Nt.Byt.conv (w := w.alloc (.cells (Array.replicate n (Value.int .u8 0)) 5)) (b := w.heap.size) (cap := n) (f := fun _ => 0) (l := List.replicate n 0) (by rw [List.length_replicate]; exact Nt.Byt.zero w n) (fun j hj => by simp)
  rw [List.length_replicate] at h
  exact h
theorem Rn.nv_append (a b : ByteArray) : Nt.nv (a ++ b) = Nt.nv a * 256 ^ b.size + Nt.nv b := by
  unfold Nt.nv
  rw [show (a ++ b).data.toList = a.data.toList ++ b.data.toList by simp, Nt.rd_append, show b.data.toList.length = b.size by simp]
theorem Rn.nv_zs (n : Nat) : Nt.nv (Rn.zs n) = 0 := Nt.rd_zeros n
theorem Rn.nv_one (n : Nat) : Nt.nv (⟨#[1]⟩ ++ Rn.zs n) = 256 ^ n := by
  rw [Rn.nv_append, Rn.nv_zs, Rn.zs_size, show Nt.nv ⟨#[1]⟩ = 1 by decide +kernel, Nat.one_mul, Nat.add_zero]
namespace lwMonts
set_option maxHeartbeats 4000000 in
set_option maxRecDepth 100000 in
theorem far (a b m : ByteArray) (w : World) (ok : Nt.Ok w) (za : a.size ≤ 8000000) (zb : b.size ≤ 8000000) (zm : m.size ≤ 8000000) (h : 512 < a.size ∨ 512 < b.size ∨ 512 < m.size) :
    Calls Tryz.prog 7 #[.string a, .string b, .string m] w fun e w' => e = .returned (.bool true) ∧ Below w.heap.size w w' := by
  have HL := Lib.hid (And.intro (show a.size ≤ 9223372036854775807 by omega) (And.intro (show b.size ≤ 9223372036854775807 by omega) (And.intro (show m.size ≤ 9223372036854775807 by omega) (And.intro zm h))))
  clear h
  have H0 := Lib.hid (And.intro ok (And.intro (Below.refl w.heap.size w) True.intro))
  clear ok
  go_enter Tryz.func7, Tryz.ntmps7
  go_wp2_with fail
  go_at_call 29
  refine Calls.mono (Nt.Mont_long w H0.out.1 a b m HL.out.1 HL.out.2.1 HL.out.2.2.1 HL.out.2.2.2.2) ?_
  rintro e1 w1 ⟨rfl, hb⟩
  have H1 := Lib.hid (And.intro (H0.out.1.below hb) (And.intro (H0.out.2.1.trans (hb.mono H0.out.2.1.size)) True.intro))
  clear hb
  go_wp2_with fail
  go_at_call 14
  refine Calls.mono (Nt.fixed_any w1 H1.out.1) ?_
  rintro e2 w2 ⟨rfl, hb⟩
  have H2 := Lib.hid (And.intro (H1.out.1.below hb) (And.intro (H1.out.2.1.trans (hb.mono H1.out.2.1.size)) True.intro))
  clear hb
  go_wp2_with fail
  go_at_call 15
  refine Calls.mono (Rn.Of_any w2 m HL.out.2.2.2.1) ?_
  rintro e3 w3 ⟨av3, k3, c3, rfl, hN, hb⟩
  have H3 := Lib.hid (And.intro (H2.out.1.below hb) (And.intro (H2.out.2.1.trans (hb.mono H2.out.2.1.size)) (And.intro hN True.intro)))
  clear hN hb
  go_wp2_with fail
  have hnew := heap_alloc_new w3 (Obj.cells #[.string a, .string b, .string m] 9)
  have hb : Below w3.heap.size w3 (w3.alloc (Obj.cells #[.string a, .string b, .string m] 9)) := (Below.refl _ _).alloc (Nat.le_refl _) _
  revert hnew hb
  generalize w3.alloc (Obj.cells #[.string a, .string b, .string m] 9) = w4
  intro hnew hb
  have H4 := Lib.hid (And.intro (H3.out.1.below hb) (And.intro (H3.out.2.1.trans (hb.mono H3.out.2.1.size)) (And.intro (H3.out.2.2.1.below hb) True.intro)))
  have HN := Lib.hid hnew
  clear hnew hb
  go_at_call 13
  refine Calls.mono (Rn.Long_three w4 _ _ a b m true HN.out HL.out.1 HL.out.2.1 HL.out.2.2.1 (.inr ⟨rfl, HL.out.2.2.2.2⟩)) ?_
  rintro e5 w4 ⟨rfl, rfl⟩
  go_wp2_with fail
  go_ret
  exact ⟨rfl, H4.out.2.1⟩
set_option maxHeartbeats 4000000 in
set_option maxRecDepth 100000 in
theorem zero (a b m : ByteArray) (w : World) (ok : Nt.Ok w) (za : a.size ≤ 512) (zb : b.size ≤ 512) (zm : m.size ≤ 512) (hz : Nt.nv m = 0) :
    Calls Tryz.prog 7 #[.string a, .string b, .string m] w fun e w' => e = .returned (.bool true) ∧ Below w.heap.size w w' := by
  have hP : Calls Tryz.prog 29 #[.string a, .string b, .string m] w fun e w' => e = .returned (.tuple #[.string ⟨#[]⟩, .int .i64 31]) ∧ Below w.heap.size w w' := by
    refine (Nt.Mont_ok w ok a b m za zb zm).mono ?_
    rintro e1 w1 ⟨R, K, rfl, hP, hb⟩
    rcases hP with ⟨_, rfl, rfl⟩ | ⟨h, _⟩ | ⟨h, _⟩
    · rw [Nt.fm_zero]; exact ⟨rfl, hb⟩
    · omega
    · omega
  have HP := Lib.hid hP
  have HL := Lib.hid (And.intro (show a.size ≤ 9223372036854775807 by omega) (And.intro (show b.size ≤ 9223372036854775807 by omega) (And.intro (show m.size ≤ 9223372036854775807 by omega) (And.intro (show m.size ≤ 8000000 by omega) (And.intro (And.intro za (And.intro zb zm)) (And.intro (show a.size ≤ 8000000 by omega) (And.intro (show b.size ≤ 8000000 by omega) hz)))))))
  clear hP hz
  have H0 := Lib.hid (And.intro ok (And.intro (Below.refl w.heap.size w) True.intro))
  clear ok
  go_enter Tryz.func7, Tryz.ntmps7
  go_wp2_with fail
  go_at_call 29
  refine Calls.mono (HP.out) ?_
  rintro e1 w1 ⟨rfl, hb⟩
  have H1 := Lib.hid (And.intro (H0.out.1.below hb) (And.intro (H0.out.2.1.trans (hb.mono H0.out.2.1.size)) True.intro))
  clear hb
  go_wp2_with fail
  go_at_call 14
  refine Calls.mono (Nt.fixed_any w1 H1.out.1) ?_
  rintro e2 w2 ⟨rfl, hb⟩
  have H2 := Lib.hid (And.intro (H1.out.1.below hb) (And.intro (H1.out.2.1.trans (hb.mono H1.out.2.1.size)) True.intro))
  clear hb
  go_wp2_with fail
  go_at_call 15
  refine Calls.mono (Rn.Of_any w2 m HL.out.2.2.2.1) ?_
  rintro e3 w3 ⟨av3, k3, c3, rfl, hN, hb⟩
  have H3 := Lib.hid (And.intro (H2.out.1.below hb) (And.intro (H2.out.2.1.trans (hb.mono H2.out.2.1.size)) (And.intro hN True.intro)))
  clear hN hb
  have hk0 := H3.out.2.2.1.zero.2 HL.out.2.2.2.2.2.2.2
  subst hk0
  go_wp2_with fail
  have hnew := heap_alloc_new w3 (Obj.cells #[.string a, .string b, .string m] 9)
  have hb : Below w3.heap.size w3 (w3.alloc (Obj.cells #[.string a, .string b, .string m] 9)) := (Below.refl _ _).alloc (Nat.le_refl _) _
  revert hnew hb
  generalize w3.alloc (Obj.cells #[.string a, .string b, .string m] 9) = w4
  intro hnew hb
  have H4 := Lib.hid (And.intro (H3.out.1.below hb) (And.intro (H3.out.2.1.trans (hb.mono H3.out.2.1.size)) (And.intro (H3.out.2.2.1.below hb) True.intro)))
  have HN := Lib.hid hnew
  clear hnew hb
  go_at_call 13
  refine Calls.mono (Rn.Long_three w4 _ _ a b m false HN.out HL.out.1 HL.out.2.1 HL.out.2.2.1 (.inl ⟨rfl, HL.out.2.2.2.2.1⟩)) ?_
  rintro e5 w4 ⟨rfl, rfl⟩
  go_wp2_with fail
  go_ret
  exact ⟨rfl, H4.out.2.1⟩
set_option maxHeartbeats 4000000 in
set_option maxRecDepth 100000 in
theorem even (a b m : ByteArray) (w : World) (ok : Nt.Ok w) (za : a.size ≤ 512) (zb : b.size ≤ 512) (zm : m.size ≤ 512) (hz : 0 < Nt.nv m ∧ Nt.nv m % 2 = 0) :
    Calls Tryz.prog 7 #[.string a, .string b, .string m] w fun e w' => e = .returned (.bool true) ∧ Below w.heap.size w w' := by
  have hP : Calls Tryz.prog 29 #[.string a, .string b, .string m] w fun e w' => e = .returned (.tuple #[.string ⟨#[]⟩, .int .i64 34]) ∧ Below w.heap.size w w' := by
    refine (Nt.Mont_ok w ok a b m za zb zm).mono ?_
    rintro e1 w1 ⟨R, K, rfl, hP, hb⟩
    rcases hP with ⟨h, _⟩ | ⟨_, _, rfl, rfl⟩ | ⟨h, _⟩
    · omega
    · rw [Nt.fm_zero]; exact ⟨rfl, hb⟩
    · omega
  have HP := Lib.hid hP
  have HL := Lib.hid (And.intro (show a.size ≤ 9223372036854775807 by omega) (And.intro (show b.size ≤ 9223372036854775807 by omega) (And.intro (show m.size ≤ 9223372036854775807 by omega) (And.intro (show m.size ≤ 8000000 by omega) (And.intro (And.intro za (And.intro zb zm)) (And.intro (show a.size ≤ 8000000 by omega) (And.intro (show b.size ≤ 8000000 by omega) hz)))))))
  clear hP hz
  have H0 := Lib.hid (And.intro ok (And.intro (Below.refl w.heap.size w) True.intro))
  clear ok
  go_enter Tryz.func7, Tryz.ntmps7
  go_wp2_with fail
  go_at_call 29
  refine Calls.mono (HP.out) ?_
  rintro e1 w1 ⟨rfl, hb⟩
  have H1 := Lib.hid (And.intro (H0.out.1.below hb) (And.intro (H0.out.2.1.trans (hb.mono H0.out.2.1.size)) True.intro))
  clear hb
  go_wp2_with fail
  go_at_call 14
  refine Calls.mono (Nt.fixed_any w1 H1.out.1) ?_
  rintro e2 w2 ⟨rfl, hb⟩
  have H2 := Lib.hid (And.intro (H1.out.1.below hb) (And.intro (H1.out.2.1.trans (hb.mono H1.out.2.1.size)) True.intro))
  clear hb
  go_wp2_with fail
  go_at_call 15
  refine Calls.mono (Rn.Of_any w2 m HL.out.2.2.2.1) ?_
  rintro e3 w3 ⟨av3, k3, c3, rfl, hN, hb⟩
  have H3 := Lib.hid (And.intro (H2.out.1.below hb) (And.intro (H2.out.2.1.trans (hb.mono H2.out.2.1.size)) (And.intro hN True.intro)))
  clear hN hb
  obtain ⟨hk0, bx, ox, u, hav, _, hpu, hub⟩ := H3.out.2.2.1.low HL.out.2.2.2.2.2.2.2.1
  have hkz : ((k3 : Int) == 0) = false := by rw [beq_eq_false_iff_ne]; omega
  have hkp : (0 : Int) < (k3 : Int) := by omega
  have hkb := Rn.few H3.out.2.2.1 HL.out.2.2.2.2.1.2.2
  have hup : (u : Int) % 2 = 0 := by have := HL.out.2.2.2.2.2.2.2.2; omega
  subst hav
  clear hpu
  go_wp2_with fail
  have hnew := heap_alloc_new w3 (Obj.cells #[.string a, .string b, .string m] 9)
  have hb : Below w3.heap.size w3 (w3.alloc (Obj.cells #[.string a, .string b, .string m] 9)) := (Below.refl _ _).alloc (Nat.le_refl _) _
  revert hnew hb
  generalize w3.alloc (Obj.cells #[.string a, .string b, .string m] 9) = w4
  intro hnew hb
  have H4 := Lib.hid (And.intro (H3.out.1.below hb) (And.intro (H3.out.2.1.trans (hb.mono H3.out.2.1.size)) (And.intro (H3.out.2.2.1.below hb) True.intro)))
  have HN := Lib.hid hnew
  clear hnew hb
  go_at_call 13
  refine Calls.mono (Rn.Long_three w4 _ _ a b m false HN.out HL.out.1 HL.out.2.1 HL.out.2.2.1 (.inl ⟨rfl, HL.out.2.2.2.2.1⟩)) ?_
  rintro e5 w4 ⟨rfl, rfl⟩
  obtain ⟨_, bx2, ox2, u2, hav, hcell, hpu, _⟩ := H4.out.2.2.1.low HL.out.2.2.2.2.2.2.2.1
  obtain ⟨rfl, rfl⟩ : bx = bx2 ∧ ox = ox2 := by simpa using hav
  have hup2 : (u2 : Int) % 2 = 0 := by have := HL.out.2.2.2.2.2.2.2.2; omega
  clear hav hpu hup hub
  go_wp2_with fail
  go_ret
  exact ⟨rfl, H4.out.2.1⟩
theorem mont_ex (a b m : ByteArray) (w : World) (ok : Nt.Ok w) (za : a.size ≤ 512) (zb : b.size ≤ 512) (zm : m.size ≤ 512) (hz : 0 < Nt.nv m ∧ Nt.nv m % 2 = 1) :
    Calls Tryz.prog 29 #[.string a, .string b, .string m] w fun e w' => ∃ X : ByteArray, e = .returned (.tuple #[.string X, .int .i64 0]) ∧ (X = ⟨(Nt.fm (Nt.nv X)).toArray⟩ ∧ Nt.nv X < Nt.nv m ∧ Nt.nv X * 256 ^ Nt.by (Nt.nv m) % Nt.nv m = Nt.nv a * Nt.nv b % Nt.nv m) ∧ Below w.heap.size w w' := by
    refine (Nt.Mont_ok w ok a b m za zb zm).mono ?_
    rintro e1 w1 ⟨R, K, rfl, hP, hb⟩
    rcases hP with ⟨h, _⟩ | ⟨_, h, _⟩ | ⟨_, h1, h2, rfl⟩
    · omega
    · omega
    · have hn : Nt.nv ⟨(Nt.fm R).toArray⟩ = R := Nt.rd_fm R
      exact ⟨_, rfl, by rw [hn]; exact ⟨rfl, h1, h2⟩, hb⟩
theorem facts (a b m X : ByteArray) (zm : m.size ≤ 512) (h : X = ⟨(Nt.fm (Nt.nv X)).toArray⟩ ∧ Nt.nv X < Nt.nv m ∧ Nt.nv X * 256 ^ Nt.by (Nt.nv m) % Nt.nv m = Nt.nv a * Nt.nv b % Nt.nv m) :
    X.size ≤ 8000000 ∧ X.size ≤ 512 ∧ X = ⟨(Nt.fm (Nt.nv X)).toArray⟩ ∧ Nt.cmp (Nt.nv X) (Nt.nv m) = -1 ∧ Nt.cmp (Nt.nv X * 256 ^ Nt.by (Nt.nv m) % Nt.nv m) (Nt.nv a * Nt.nv b % Nt.nv m) = 0 := by
  obtain ⟨hX, hXl, hXi⟩ := h
  have hXs : X.size ≤ 512 := by
    have h1 : X.size = Nt.by (Nt.nv X) := by
      have h0 := congrArg ByteArray.size hX
      rw [h0]; exact Nt.fm_len _
    have h2 := Nt.by_le _ m.size (Nat.lt_trans hXl (Nt.nv_lt m))
    omega
  exact ⟨by omega, hXs, hX, by unfold Nt.cmp; rw [if_pos hXl], by rw [hXi]; unfold Nt.cmp; simp⟩
theorem size_fm (m : ByteArray) : (⟨(Nt.fm (Nt.nv m)).toArray⟩ : ByteArray).size = Nt.by (Nt.nv m) := Nt.fm_len _
set_option maxHeartbeats 4000000 in
set_option maxRecDepth 100000 in
theorem core (a b m T Z0 Z : ByteArray) (w : World) (ok : Nt.Ok w) (za : a.size ≤ 512) (zb : b.size ≤ 512) (zm : m.size ≤ 512) (hz : 0 < Nt.nv m ∧ Nt.nv m % 2 = 1) (hT : (⟨(Nt.fm (Nt.nv m)).toArray⟩ : ByteArray) = T) (hZ0 : Rn.zs T.size = Z0) (hZ : ⟨#[1]⟩ ++ Z0 = Z) :
    Calls Tryz.prog 7 #[.string a, .string b, .string m] w fun e w' => e = .returned (.bool true) ∧ Below w.heap.size w w' := by
  have hP := mont_ex a b m w ok za zb zm hz
  have hTs : T.size = Nt.by (Nt.nv m) := by rw [← hT]; exact size_fm m
  have hTm : T.size ≤ 512 := by rw [hTs]; exact Nat.le_trans (Nt.by_le _ m.size (Nt.nv_lt m)) zm
  have hZs : Z.size = 1 + T.size := by
    rw [← hZ, ByteArray.size_append, ← hZ0, Rn.zs_size]
    rfl
  have hZn : Nt.nv Z = 256 ^ Nt.by (Nt.nv m) := by rw [← hZ, ← hZ0, Rn.nv_one, hTs]
  have HT := Lib.hid (And.intro hT (And.intro hZ0 (And.intro (show Z.size ≤ 8000000 by omega) (And.intro (show Z.size ≤ 2 * 257 by omega) hZn))))
  have hTb : T.size ≤ 10000000 := by omega
  have hZ0s : Z0.size ≤ 512 := by rw [← hZ0, Rn.zs_size]; exact hTm
  clear hT hZ0 hTs hZs hZn
  have HP := Lib.hid hP
  have HL := Lib.hid (And.intro (show a.size ≤ 9223372036854775807 by omega) (And.intro (show b.size ≤ 9223372036854775807 by omega) (And.intro (show m.size ≤ 9223372036854775807 by omega) (And.intro (show m.size ≤ 8000000 by omega) (And.intro (And.intro za (And.intro zb zm)) (And.intro (show a.size ≤ 8000000 by omega) (And.intro (show b.size ≤ 8000000 by omega) hz)))))))
  clear hP hz
  have H0 := Lib.hid (And.intro ok (And.intro (Below.refl w.heap.size w) True.intro))
  clear ok
  go_enter Tryz.func7, Tryz.ntmps7
  go_wp2_with fail
  go_at_call 29
  refine Calls.mono (HP.out) ?_
  rintro e1 w1 ⟨X, rfl, hX, hb⟩
  have H1 := Lib.hid (And.intro (H0.out.1.below hb) (And.intro (H0.out.2.1.trans (hb.mono H0.out.2.1.size)) True.intro))
  clear hb
  have HX := Lib.hid (facts a b m X HL.out.2.2.2.2.1.2.2 hX)
  clear hX
  go_wp2_with fail
  go_at_call 14
  refine Calls.mono (Nt.fixed_any w1 H1.out.1) ?_
  rintro e2 w2 ⟨rfl, hb⟩
  have H2 := Lib.hid (And.intro (H1.out.1.below hb) (And.intro (H1.out.2.1.trans (hb.mono H1.out.2.1.size)) True.intro))
  clear hb
  go_wp2_with fail
  go_at_call 15
  refine Calls.mono (Rn.Of_any w2 m HL.out.2.2.2.1) ?_
  rintro e3 w3 ⟨av3, k3, c3, rfl, hN, hb⟩
  have H3 := Lib.hid (And.intro (H2.out.1.below hb) (And.intro (H2.out.2.1.trans (hb.mono H2.out.2.1.size)) (And.intro hN True.intro)))
  clear hN hb
  obtain ⟨hk0, bx, ox, u, hav, _, hpu, hub⟩ := H3.out.2.2.1.low HL.out.2.2.2.2.2.2.2.1
  have hkz : ((k3 : Int) == 0) = false := by rw [beq_eq_false_iff_ne]; omega
  have hkp : (0 : Int) < (k3 : Int) := by omega
  have hkb := Rn.few H3.out.2.2.1 HL.out.2.2.2.2.1.2.2
  have hup : (u : Int) % 2 = 1 := by have := HL.out.2.2.2.2.2.2.2.2; omega
  subst hav
  clear hpu
  go_wp2_with fail
  have hnew := heap_alloc_new w3 (Obj.cells #[.string a, .string b, .string m] 9)
  have hb : Below w3.heap.size w3 (w3.alloc (Obj.cells #[.string a, .string b, .string m] 9)) := (Below.refl _ _).alloc (Nat.le_refl _) _
  revert hnew hb
  generalize w3.alloc (Obj.cells #[.string a, .string b, .string m] 9) = w4
  intro hnew hb
  have H4 := Lib.hid (And.intro (H3.out.1.below hb) (And.intro (H3.out.2.1.trans (hb.mono H3.out.2.1.size)) (And.intro (H3.out.2.2.1.below hb) True.intro)))
  have HN := Lib.hid hnew
  clear hnew hb
  go_at_call 13
  refine Calls.mono (Rn.Long_three w4 _ _ a b m false HN.out HL.out.1 HL.out.2.1 HL.out.2.2.1 (.inl ⟨rfl, HL.out.2.2.2.2.1⟩)) ?_
  rintro e5 w4 ⟨rfl, rfl⟩
  obtain ⟨_, bx2, ox2, u2, hav, hcell, hpu, _⟩ := H4.out.2.2.1.low HL.out.2.2.2.2.2.2.2.1
  obtain ⟨rfl, rfl⟩ : bx = bx2 ∧ ox = ox2 := by simpa using hav
  have hup2 : (u2 : Int) % 2 = 1 := by have := HL.out.2.2.2.2.2.2.2.2; omega
  clear hav hpu hup hub
  go_wp2_with fail
  go_at_call 15
  refine Calls.mono (Rn.Of_any w4 X HX.out.1) ?_
  rintro e6 w6 ⟨av6, k6, c6, rfl, hN, hb⟩
  have H5 := Lib.hid (And.intro (H4.out.1.below hb) (And.intro (H4.out.2.1.trans (hb.mono H4.out.2.1.size)) (And.intro (H4.out.2.2.1.below hb) (And.intro hN True.intro))))
  clear hN hb
  clear hcell
  have hyb := Rn.few H5.out.2.2.2.1 HX.out.2.1
  go_wp2_with fail
  go_at_call 17
  refine Calls.mono (Rn.Form_any w6 (some ⟨bx, ox, none⟩) k3 c3 _ H5.out.2.2.1 (by omega)) ?_
  rintro e7 w7 ⟨rfl, hb⟩
  have H6 := Lib.hid (And.intro (H5.out.1.below hb) (And.intro (H5.out.2.1.trans (hb.mono H5.out.2.1.size)) (And.intro (H5.out.2.2.1.below hb) (And.intro (H5.out.2.2.2.1.below hb) True.intro))))
  clear hb
  rw [HT.out.1]
  have hcv := fun W => Rn.conv_zs W T.size
  rw [HT.out.2.1] at hcv
  go_wp2_with (at_make; refine Nt.wpList_make8 rfl _ _ rfl T.size rfl rfl hTb ?_)
  clear hcv
  have hb : Below w7.heap.size w7 (w7.alloc (Obj.cells (Array.replicate T.size (Value.int IntKind.u8 0)) 5)) := (Below.refl _ _).alloc (Nat.le_refl _) _
  revert  hb
  generalize w7.alloc (Obj.cells (Array.replicate T.size (Value.int IntKind.u8 0)) 5) = w8
  intro  hb
  have H7 := Lib.hid (And.intro (H6.out.1.below hb) (And.intro (H6.out.2.1.trans (hb.mono H6.out.2.1.size)) (And.intro (H6.out.2.2.1.below hb) (And.intro (H6.out.2.2.2.1.below hb) True.intro))))
  clear hb
  go_at_call 15
  refine Calls.mono (Rn.Of_any w8 Z HT.out.2.2.1) ?_
  rintro e9 w9 ⟨av9, k9, c9, rfl, hN, hb⟩
  have H8 := Lib.hid (And.intro (H7.out.1.below hb) (And.intro (H7.out.2.1.trans (hb.mono H7.out.2.1.size)) (And.intro (H7.out.2.2.1.below hb) (And.intro (H7.out.2.2.2.1.below hb) (And.intro hN True.intro)))))
  clear hN hb
  have hpb := H8.out.2.2.2.2.1.bytes 257 Z.size (Nt.nv_lt Z) HT.out.2.2.2.1
  go_wp2_with fail
  go_at_call 17
  refine Calls.mono (Rn.Form_any w9 av6 k6 c6 _ H8.out.2.2.2.1 (by omega)) ?_
  rintro e10 w10 ⟨rfl, hb⟩
  have H9 := Lib.hid (And.intro (H8.out.1.below hb) (And.intro (H8.out.2.1.trans (hb.mono H8.out.2.1.size)) (And.intro (H8.out.2.2.1.below hb) (And.intro (H8.out.2.2.2.1.below hb) (And.intro (H8.out.2.2.2.2.1.below hb) True.intro)))))
  clear hb
  rw [← HX.out.2.2.1]
  have HD := Lib.hid (Rn.Cmp_any w10 av6 (some ⟨bx, ox, none⟩) k6 c6 _ k3 c3 _ H9.out.2.2.2.1 H9.out.2.2.1 (by omega) (by omega))
  rw [HX.out.2.2.2.1] at HD
  go_wp2_with fail
  go_at_call 21
  refine Calls.mono (HD.out) ?_
  rintro e11 w11 ⟨rfl, j11, hw⟩
  have hb : Below w10.heap.size w10 w11 := by rw [hw]; exact Rn.beyond (Below.refl _ _) j11
  have H10 := Lib.hid (And.intro (H9.out.1.below hb) (And.intro (H9.out.2.1.trans (hb.mono H9.out.2.1.size)) (And.intro (H9.out.2.2.1.below hb) (And.intro (H9.out.2.2.2.1.below hb) (And.intro (H9.out.2.2.2.2.1.below hb) True.intro)))))
  clear hb hw
  go_wp2_with fail
  go_at_call 28
  refine Calls.mono (Rn.Times_any w11 av6 av9 k6 c6 _ k9 c9 _ H10.out.2.2.2.1 H10.out.2.2.2.2.1 (by omega) (by omega)) ?_
  rintro e12 w12 ⟨av12, k12, c12, rfl, hN, hb⟩
  have H11 := Lib.hid (And.intro (H10.out.1.below hb) (And.intro (H10.out.2.1.trans (hb.mono H10.out.2.1.size)) (And.intro (H10.out.2.2.1.below hb) (And.intro (H10.out.2.2.2.1.below hb) (And.intro (H10.out.2.2.2.2.1.below hb) (And.intro hN True.intro))))))
  clear hN hb
  have htb := H11.out.2.2.2.2.2.1.mul H11.out.2.2.2.1.lt H11.out.2.2.2.2.1.lt
  go_wp2_with fail
  go_at_call 27
  refine Calls.mono (Rn.Left_any w12 av12 (some ⟨bx, ox, none⟩) k12 c12 _ k3 c3 _ H11.out.2.2.2.2.2.1 H11.out.2.2.1 (by omega) (by omega) HL.out.2.2.2.2.2.2.2.1) ?_
  rintro e13 w13 ⟨av13, k13, c13, rfl, hN, hb⟩
  have H12 := Lib.hid (And.intro (H11.out.1.below hb) (And.intro (H11.out.2.1.trans (hb.mono H11.out.2.1.size)) (And.intro (H11.out.2.2.1.below hb) (And.intro (H11.out.2.2.2.1.below hb) (And.intro (H11.out.2.2.2.2.1.below hb) (And.intro (H11.out.2.2.2.2.2.1.below hb) (And.intro hN True.intro)))))))
  clear hN hb
  have hlb := H12.out.2.2.2.2.2.2.1.mod H12.out.2.2.1 HL.out.2.2.2.2.2.2.2.1
  go_wp2_with fail
  go_at_call 15
  refine Calls.mono (Rn.Of_any w13 a HL.out.2.2.2.2.2.1) ?_
  rintro e14 w14 ⟨av14, k14, c14, rfl, hN, hb⟩
  have H13 := Lib.hid (And.intro (H12.out.1.below hb) (And.intro (H12.out.2.1.trans (hb.mono H12.out.2.1.size)) (And.intro (H12.out.2.2.1.below hb) (And.intro (H12.out.2.2.2.1.below hb) (And.intro (H12.out.2.2.2.2.1.below hb) (And.intro (H12.out.2.2.2.2.2.1.below hb) (And.intro (H12.out.2.2.2.2.2.2.1.below hb) (And.intro hN True.intro))))))))
  clear hN hb
  have hx1 := Rn.few H13.out.2.2.2.2.2.2.2.1 HL.out.2.2.2.2.1.1
  go_wp2_with fail
  go_at_call 15
  refine Calls.mono (Rn.Of_any w14 b HL.out.2.2.2.2.2.2.1) ?_
  rintro e15 w15 ⟨av15, k15, c15, rfl, hN, hb⟩
  have H14 := Lib.hid (And.intro (H13.out.1.below hb) (And.intro (H13.out.2.1.trans (hb.mono H13.out.2.1.size)) (And.intro (H13.out.2.2.1.below hb) (And.intro (H13.out.2.2.2.1.below hb) (And.intro (H13.out.2.2.2.2.1.below hb) (And.intro (H13.out.2.2.2.2.2.1.below hb) (And.intro (H13.out.2.2.2.2.2.2.1.below hb) (And.intro (H13.out.2.2.2.2.2.2.2.1.below hb) (And.intro hN True.intro)))))))))
  clear hN hb
  have hx2 := Rn.few H14.out.2.2.2.2.2.2.2.2.1 HL.out.2.2.2.2.1.2.1
  go_wp2_with fail
  go_at_call 28
  refine Calls.mono (Rn.Times_any w15 av14 av15 k14 c14 _ k15 c15 _ H14.out.2.2.2.2.2.2.2.1 H14.out.2.2.2.2.2.2.2.2.1 (by omega) (by omega)) ?_
  rintro e16 w16 ⟨av16, k16, c16, rfl, hN, hb⟩
  have H15 := Lib.hid (And.intro (H14.out.1.below hb) (And.intro (H14.out.2.1.trans (hb.mono H14.out.2.1.size)) (And.intro (H14.out.2.2.1.below hb) (And.intro (H14.out.2.2.2.1.below hb) (And.intro (H14.out.2.2.2.2.1.below hb) (And.intro (H14.out.2.2.2.2.2.1.below hb) (And.intro (H14.out.2.2.2.2.2.2.1.below hb) (And.intro (H14.out.2.2.2.2.2.2.2.1.below hb) (And.intro (H14.out.2.2.2.2.2.2.2.2.1.below hb) (And.intro hN True.intro))))))))))
  clear hN hb
  have hsb := H15.out.2.2.2.2.2.2.2.2.2.1.mul H15.out.2.2.2.2.2.2.2.1.lt H15.out.2.2.2.2.2.2.2.2.1.lt
  go_wp2_with fail
  go_at_call 27
  refine Calls.mono (Rn.Left_any w16 av16 (some ⟨bx, ox, none⟩) k16 c16 _ k3 c3 _ H15.out.2.2.2.2.2.2.2.2.2.1 H15.out.2.2.1 (by omega) (by omega) HL.out.2.2.2.2.2.2.2.1) ?_
  rintro e17 w17 ⟨av17, k17, c17, rfl, hN, hb⟩
  have H16 := Lib.hid (And.intro (H15.out.1.below hb) (And.intro (H15.out.2.1.trans (hb.mono H15.out.2.1.size)) (And.intro (H15.out.2.2.1.below hb) (And.intro (H15.out.2.2.2.1.below hb) (And.intro (H15.out.2.2.2.2.1.below hb) (And.intro (H15.out.2.2.2.2.2.1.below hb) (And.intro (H15.out.2.2.2.2.2.2.1.below hb) (And.intro (H15.out.2.2.2.2.2.2.2.1.below hb) (And.intro (H15.out.2.2.2.2.2.2.2.2.1.below hb) (And.intro (H15.out.2.2.2.2.2.2.2.2.2.1.below hb) (And.intro hN True.intro)))))))))))
  clear hN hb
  have hqb := H16.out.2.2.2.2.2.2.2.2.2.2.1.mod H16.out.2.2.1 HL.out.2.2.2.2.2.2.2.1
  have HE := Lib.hid (Rn.Cmp_any w17 av13 av17 k13 c13 _ k17 c17 _ H16.out.2.2.2.2.2.2.1 H16.out.2.2.2.2.2.2.2.2.2.2.1 (by omega) (by omega))
  rw [HT.out.2.2.2.2, HX.out.2.2.2.2] at HE
  go_wp2_with fail
  go_at_call 21
  refine Calls.mono (HE.out) ?_
  rintro e18 w18 ⟨rfl, j18, hw⟩
  have hb : Below w17.heap.size w17 w18 := by rw [hw]; exact Rn.beyond (Below.refl _ _) j18
  have H17 := Lib.hid (And.intro (H16.out.1.below hb) (And.intro (H16.out.2.1.trans (hb.mono H16.out.2.1.size)) (And.intro (H16.out.2.2.1.below hb) (And.intro (H16.out.2.2.2.1.below hb) (And.intro (H16.out.2.2.2.2.1.below hb) (And.intro (H16.out.2.2.2.2.2.1.below hb) (And.intro (H16.out.2.2.2.2.2.2.1.below hb) (And.intro (H16.out.2.2.2.2.2.2.2.1.below hb) (And.intro (H16.out.2.2.2.2.2.2.2.2.1.below hb) (And.intro (H16.out.2.2.2.2.2.2.2.2.2.1.below hb) (And.intro (H16.out.2.2.2.2.2.2.2.2.2.2.1.below hb) True.intro)))))))))))
  clear hb hw
  go_wp2_with fail
  go_ret
  exact ⟨rfl, H17.out.2.1⟩
theorem walk (a b m : ByteArray) (w : World) (ok : Nt.Ok w) (za : a.size ≤ 8000000) (zb : b.size ≤ 8000000) (zm : m.size ≤ 8000000) :
    Calls Tryz.prog 7 #[.string a, .string b, .string m] w fun e w' => e = .returned (.bool true) ∧ Below w.heap.size w w' := by
  by_cases h : 512 < a.size ∨ 512 < b.size ∨ 512 < m.size
  · exact far a b m w ok za zb zm h
  rcases Nat.eq_zero_or_pos (Nt.nv m) with h0 | h0
  · exact zero a b m w ok (by omega) (by omega) (by omega) h0
  by_cases he : Nt.nv m % 2 = 0
  · exact even a b m w ok (by omega) (by omega) (by omega) ⟨h0, he⟩
  · exact core a b m _ _ _ w ok (by omega) (by omega) (by omega) ⟨h0, by omega⟩ rfl rfl rfl
end lwMonts
end Go.Proofs.YtccbnpondlncpaaGreatDoor
