/- Blocks: block, Block. -/
import Derived.Test.YtfbliccblippiaaGreatDoorRsB
import Derived.Test.YtfbliccblippiaaGreatDoorHsW
import Derived.Test.YtfbliccblippiaaGreatDoorNyK
namespace Go.Proofs.YtfbliccblippiaaGreatDoor
open Go.RowKit
/-- n bytes 255. -/
def Rs.ff (n : Nat) : List UInt8 := List.replicate n 255
def Rs.head : List UInt8 := [0, 48, 49, 48, 13, 6, 9, 96, 134, 72, 1, 101, 3, 4, 2, 1, 5, 0, 4, 32]
/-- The block of RS256. -/
def Rs.block (s : ByteArray) (n : Nat) : ByteArray := Tx.ba ([0, 1] ++ Rs.ff (n - 54) ++ Rs.head ++ Hs.sum 0 s.data.toList)
theorem Rs.tell_len (v : Hs.V8) : (Hs.tell 0 v).length = 32 := by
  rfl
theorem Rs.sum_len (m : List UInt8) : (Hs.sum 0 m).length = 32 := by
  rw [← Hs.sum_eq]
  exact Rs.tell_len _
theorem Rs.block_size (s : ByteArray) (n : Nat) (h : 62 ≤ n) : (Rs.block s n).size = n := by
  show ([0, 1] ++ Rs.ff (n - 54) ++ Rs.head ++ Hs.sum 0 s.data.toList).length = n
  rw [List.length_append, List.length_append, List.length_append, Rs.sum_len]
  unfold Rs.ff Rs.head
  simp
  omega
theorem Rs.rep_ff (k : Nat) : Lib.repeatL [255] k = List.replicate k (255 : UInt8) := by
  have h := Lib.repeatL_replicate (255 : UInt8) 1 k
  rw [Nat.mul_one] at h
  exact h
theorem Rs.ba_app (a b : List UInt8) : Tx.ba a ++ Tx.ba b = Tx.ba (a ++ b) := by
  unfold Tx.ba
  apply ByteArray.ext
  simp
theorem Rs.block_parts (s : ByteArray) (n k : Nat) (h : n = k + 62) : ((⟨#[0, 1, 255, 255, 255, 255, 255, 255, 255, 255]⟩ : ByteArray) ++ ⟨(Lib.repeatL (⟨#[255]⟩ : ByteArray).data.toList k).toArray⟩) ++ ⟨#[0, 48, 49, 48, 13, 6, 9, 96, 134, 72, 1, 101, 3, 4, 2, 1, 5, 0, 4, 32]⟩ ++ Tx.ba (Hs.sum 0 s.data.toList) = Rs.block s n := by
  have e1 : (⟨#[0, 1, 255, 255, 255, 255, 255, 255, 255, 255]⟩ : ByteArray) = Tx.ba [0, 1, 255, 255, 255, 255, 255, 255, 255, 255] := rfl
  have e2 : (⟨(Lib.repeatL (⟨#[255]⟩ : ByteArray).data.toList k).toArray⟩ : ByteArray) = Tx.ba (List.replicate k 255) := by rw [← Rs.rep_ff k]; rfl
  have e3 : (⟨#[0, 48, 49, 48, 13, 6, 9, 96, 134, 72, 1, 101, 3, 4, 2, 1, 5, 0, 4, 32]⟩ : ByteArray) = Tx.ba Rs.head := rfl
  rw [e1, e2, e3, Rs.ba_app, Rs.ba_app, Rs.ba_app]
  unfold Rs.block Rs.ff
  rw [show n - 54 = 8 + k by omega, ← List.replicate_append_replicate]
  rfl
set_option maxHeartbeats 2000000 in
set_option maxRecDepth 100000 in
theorem Rs.block_ok (w : World) (s : ByteArray) (n : Nat) (hs : s.size ≤ 1152921504606846000) (h1 : 62 ≤ n) (h2 : n ≤ 512) :
    Calls Tryz.prog 44 #[.string s, .int .i64 (n : Int)] w fun e w' => e = .returned (.tuple #[.string (Rs.block s n), .nilIface]) ∧ Below w.heap.size w w' := by
  obtain ⟨k, hk⟩ : ∃ k, n - 62 = k := ⟨_, rfl⟩
  have hB := Rs.block_parts s n k (by omega)
  have hR := fun W => Tryz.strings_Repeat ⟨#[255]⟩ k W (by omega) (by show 1 * k ≤ _; omega)
  obtain ⟨z, hz⟩ : ∃ z, (⟨(Lib.repeatL (⟨#[255]⟩ : ByteArray).data.toList k).toArray⟩ : ByteArray) = z := ⟨_, rfl⟩
  have hzs : z.size ≤ 512 := by
    rw [← hz]
    show (Lib.repeatL [255] k).length ≤ _
    rw [Rs.rep_ff, List.length_replicate]
    omega
  have hS := fun W => Hs.Sum256_any s hs W
  obtain ⟨y, hy⟩ : ∃ y, Tx.ba (Hs.sum 0 s.data.toList) = y := ⟨_, rfl⟩
  have hys : y.size ≤ 32 := by
    rw [← hy]
    show (Hs.sum 0 s.data.toList).length ≤ 32
    rw [Rs.sum_len]
    exact Nat.le_refl _
  rw [hz] at hR hB
  rw [hy] at hS hB
  obtain ⟨B, hBB⟩ : ∃ B, Rs.block s n = B := ⟨_, rfl⟩
  rw [hBB] at hB ⊢
  have HS := Lib.hid (And.intro hR hS)
  have HB := Lib.hid hB
  have hn1 : ¬ (n : Int) < 62 := by omega
  have hn2 : ¬ (512 : Int) < (n : Int) := by omega
  have hkz : (n : Int) - 62 = (k : Int) := by omega
  have hkb : (k : Int) ≤ 512 := by omega
  clear hR hS hz hy hk hB hBB hs
  go_enter Tryz.func44, Tryz.ntmps44
  go_wp2_with fail
  go_at_call 73
  refine (HS.out.1 _).mono ?_
  rintro e1 w1 ⟨rfl, hb⟩
  have H1 := Lib.hid hb
  clear hb
  go_wp2_with fail
  go_at_call 27
  refine (HS.out.2 _).mono ?_
  rintro e2 w2 ⟨rfl, hb⟩
  have H2 := Lib.hid hb
  clear hb
  go_wp2_with fail
  go_ret2
  exact ⟨by rw [← HB.out]; rfl, H1.out.trans (H2.out.mono H1.out.size)⟩
set_option maxHeartbeats 2000000 in
set_option maxRecDepth 100000 in
theorem Rs.block_no (w : World) (ok : Rs.Ok w) (s : ByteArray) (n : Int) (h : n < 62 ∨ (62 ≤ n ∧ 512 < n)) :
    Calls Tryz.prog 44 #[.string s, .int .i64 n] w fun e w' => ∃ v, e = .returned (.tuple #[.string ⟨#[]⟩, v]) ∧ Rs.Err w' v 42 ∧ Below w.heap.size w w' := by
  obtain ⟨a, hv⟩ := ok.2 42 (by decide) (by decide)
  have hx : w.cell? ⟨2, 0, none⟩ = some (.iface 217 (.pointer (some a))) := hv.var
  have HV := Lib.hid hv
  clear hv ok
  rcases h with h | ⟨h0, h⟩
  · go_enter Tryz.func44, Tryz.ntmps44
    go_wp2_with fail
    go_quiet (fail)
    go_wp2_with fail
    go_ret2
    exact ⟨_, rfl, .inr ⟨by decide, by decide, a, 1, .about _ .leaf, HV.out.below (below_drewN (Below.refl _ _) _)⟩, below_drewN (Below.refl _ _) _⟩
  · have h0 : ¬ n < 62 := by omega
    go_enter Tryz.func44, Tryz.ntmps44
    go_wp2_with fail
    go_quiet (fail)
    go_wp2_with fail
    go_ret2
    exact ⟨_, rfl, .inr ⟨by decide, by decide, a, 1, .about _ .leaf, HV.out.below (below_drewN (Below.refl _ _) _)⟩, below_drewN (Below.refl _ _) _⟩
set_option maxHeartbeats 1000000 in
theorem Rs.Block_ok (w : World) (s : ByteArray) (n : Nat) (hs : s.size ≤ 1152921504606846000) (h1 : 62 ≤ n) (h2 : n ≤ 512) :
    Calls Tryz.prog 17 #[.string s, .int .i64 (n : Int)] w fun e w' => e = .returned (.tuple #[.string (Rs.block s n), .int .i64 0]) ∧ Below w.heap.size w w' := by
  have HC := Lib.hid (Rs.block_ok w s n hs h1 h2)
  clear hs h1 h2
  go_enter Tryz.func17, Tryz.ntmps17
  go_wp2_with fail
  go_at_call 44
  refine Calls.mono HC.out ?_
  rintro r w1 ⟨rfl, hb⟩
  have H1 := Lib.hid hb
  clear hb
  go_wp2_with fail
  go_at_call 34
  refine Calls.mono (Rs.told_nil w1) ?_
  rintro r w2 ⟨rfl, hb⟩
  have H2 := Lib.hid hb
  clear hb
  go_wp2_with fail
  go_ret2
  exact ⟨rfl, H1.out.trans (H2.out.mono H1.out.size)⟩
set_option maxHeartbeats 1000000 in
theorem Rs.Block_no (w : World) (ok : Rs.Ok w) (s : ByteArray) (n : Int) (h : n < 62 ∨ (62 ≤ n ∧ 512 < n)) :
    Calls Tryz.prog 17 #[.string s, .int .i64 n] w fun e w' => e = .returned (.tuple #[.string ⟨#[]⟩, .int .i64 42]) ∧ Below w.heap.size w w' := by
  have HC := Lib.hid (Rs.block_no w ok s n h)
  have HO := Lib.hid ok
  clear ok h
  go_enter Tryz.func17, Tryz.ntmps17
  go_wp2_with fail
  go_at_call 44
  refine Calls.mono HC.out ?_
  rintro r w1 ⟨v, rfl, hE, hb⟩
  have H1 := Lib.hid (And.intro hE hb)
  clear hE hb
  go_wp2_with fail
  go_at_call 34
  refine Calls.mono (Rs.told_any w1 (HO.out.below H1.out.2) v 42 H1.out.1) ?_
  rintro r w2 ⟨rfl, hb⟩
  have H2 := Lib.hid hb
  clear hb
  go_wp2_with fail
  go_ret2
  exact ⟨rfl, H1.out.2.trans (H2.out.mono H1.out.2.size)⟩
end Go.Proofs.YtfbliccblippiaaGreatDoor
