/- NatExponents, the walk: a power by a sum, a power of a power. -/
import Derived.Test.YtkebbdidipjefaaDoorLwRingA
namespace Go.Proofs.YtkebbdidipjefaaDoor
open Go.RowKit

namespace lwExponents

set_option maxHeartbeats 2000000 in
set_option maxRecDepth 100000 in
theorem core (a b c m mt S Q X Y R Z q A : ByteArray) (w : World) (ok : Nt.Ok w) (s1 s2 s3 : Nat) (h1 : (a.size : Int) + (b.size : Int) = (s1 : Int)) (h2 : (s1 : Int) + (c.size : Int) = (s2 : Int)) (h3 : (s2 : Int) + (m.size : Int) = (s3 : Int)) (hs3big : s3 ≤ 562949953421312) (hl : s3 ≤ 200) (hmt : mt ≠ ⟨#[]⟩)
    (TM : ∀ W, Calls Tryd.prog 12 #[.string m] W fun e w' => e = .returned (.string mt) ∧ w' = W)
    (SS : ∀ W, Nt.Ok W → Calls Tryd.prog 9 #[.string b, .string c] W fun e w' => e = .returned (.tuple #[.string S, .int .i64 0]) ∧ Below W.heap.size W w')
    (PP : ∀ W, Nt.Ok W → Calls Tryd.prog 11 #[.string b, .string c] W fun e w' => e = .returned (.tuple #[.string Q, .int .i64 0]) ∧ Below W.heap.size W w')
    (XX : ∀ W, Nt.Ok W → Calls Tryd.prog 15 #[.string a, .string b, .string m] W fun e w' => e = .returned (.tuple #[.string X, .int .i64 0]) ∧ Below W.heap.size W w')
    (YY : ∀ W, Nt.Ok W → Calls Tryd.prog 15 #[.string a, .string c, .string m] W fun e w' => e = .returned (.tuple #[.string Y, .int .i64 0]) ∧ Below W.heap.size W w')
    (BB : ∀ W, Nt.Ok W → Calls Tryd.prog 15 #[.string a, .string S, .string m] W fun e w' => e = .returned (.tuple #[.string R, .int .i64 0]) ∧ Below W.heap.size W w')
    (XY : ∀ W, Nt.Ok W → Calls Tryd.prog 11 #[.string X, .string Y] W fun e w' => e = .returned (.tuple #[.string Z, .int .i64 0]) ∧ Below W.heap.size W w')
    (DD : ∀ W, Nt.Ok W → Calls Tryd.prog 13 #[.string Z, .string m] W fun e w' => e = .returned (.tuple #[.string q, .string R, .int .i64 0]) ∧ Below W.heap.size W w')
    (AG : ∀ W, Nt.Ok W → Calls Tryd.prog 15 #[.string X, .string c, .string m] W fun e w' => e = .returned (.tuple #[.string A, .int .i64 0]) ∧ Below W.heap.size W w')
    (AL : ∀ W, Nt.Ok W → Calls Tryd.prog 15 #[.string a, .string Q, .string m] W fun e w' => e = .returned (.tuple #[.string A, .int .i64 0]) ∧ Below W.heap.size W w') :
    Calls Tryd.prog 4 #[.string a, .agg #[.string b, .string c], .string m] w fun e w' => e = .returned (.bool true) ∧ Below w.heap.size w w' := by
  have hs1b : (s1 : Int) ≤ 562949953421312 := by omega
  have hs2b : (s2 : Int) ≤ 562949953421312 := by omega
  have hs3b : (s3 : Int) ≤ 562949953421312 := by omega
  have hlz : ¬ (200 : Int) < (s3 : Int) := by omega
  have hn1 := Nt.toList_ne hmt
  have hn2 := Nt.toList_emp hmt
  have hn3 := Nt.toList_nil hmt
  clear hl hmt hs3big
  have TM := Lib.hid TM
  have SS := Lib.hid SS
  have PP := Lib.hid PP
  have XX := Lib.hid XX
  have YY := Lib.hid YY
  have BB := Lib.hid BB
  have XY := Lib.hid XY
  have DD := Lib.hid DD
  have AG := Lib.hid AG
  have AL := Lib.hid AL
  have HO := Lib.hid ok
  clear ok
  go_enter Tryd.func4, Tryd.ntmps4
  go_wp2_with fail
  go_at_call 8
  have hB0 : Below w.heap.size w (w.alloc (Obj.cells #[.string b, .string c] 31)) := (Below.refl _ _).alloc (Nat.le_refl _) _
  have g0 : (w.alloc (Obj.cells #[.string b, .string c] 31)).cell? ⟨w.heap.size, 0, none⟩ = some (.string b) := by simp
  have g1 : (w.alloc (Obj.cells #[.string b, .string c] 31)).cell? ⟨w.heap.size, 1, none⟩ = some (.string c) := by simp
  obtain ⟨g, hg⟩ : ∃ g, w.heap.size = g := ⟨_, rfl⟩
  revert hB0 g0 g1
  generalize w.alloc (Obj.cells #[.string b, .string c] 31) = w0
  rw [hg]
  intro hB0 g0 g1
  have H0 := Lib.hid (And.intro (HO.out.below (by rw [hg]; exact hB0)) (And.intro hB0 (And.intro g0 g1)))
  have HG := Lib.hid hg
  clear hB0 g0 g1 hg
  refine (Nt.fixed_any _ H0.out.1).mono ?_
  rintro e1 w1 ⟨rfl, hb⟩
  have q0 := (hb.cell (p := ⟨g, 0, none⟩) (World.block_lt_of_cell? _ _ H0.out.2.2.1)).trans H0.out.2.2.1
  have q1 := (hb.cell (p := ⟨g, 1, none⟩) (World.block_lt_of_cell? _ _ H0.out.2.2.2)).trans H0.out.2.2.2
  have H1 := Lib.hid (And.intro (H0.out.1.below hb) (And.intro (H0.out.2.1.trans (hb.mono (by rw [← HG.out]; exact H0.out.2.1.size))) (And.intro q0 q1)))
  clear hb H0
  go_wp2_with fail
  go_at_call 12
  refine (TM.out _).mono ?_
  rintro e' w' ⟨rfl, rfl⟩
  go_wp2_with fail
  go_at_call 9
  clear q0 q1
  refine (SS.out _ H1.out.1).mono ?_
  rintro e2 w2 ⟨rfl, hb⟩
  have q0 := (hb.cell (p := ⟨g, 0, none⟩) (World.block_lt_of_cell? _ _ H1.out.2.2.1)).trans H1.out.2.2.1
  have q1 := (hb.cell (p := ⟨g, 1, none⟩) (World.block_lt_of_cell? _ _ H1.out.2.2.2)).trans H1.out.2.2.2
  have H2 := Lib.hid (And.intro (H1.out.1.below hb) (And.intro (H1.out.2.1.trans (hb.mono (by rw [← HG.out]; exact H1.out.2.1.size))) (And.intro q0 q1)))
  clear hb H1
  go_wp2_with fail
  go_at_call 11
  clear q0 q1
  refine (PP.out _ H2.out.1).mono ?_
  rintro e3 w3 ⟨rfl, hb⟩
  have q0 := (hb.cell (p := ⟨g, 0, none⟩) (World.block_lt_of_cell? _ _ H2.out.2.2.1)).trans H2.out.2.2.1
  have q1 := (hb.cell (p := ⟨g, 1, none⟩) (World.block_lt_of_cell? _ _ H2.out.2.2.2)).trans H2.out.2.2.2
  have H3 := Lib.hid (And.intro (H2.out.1.below hb) (And.intro (H2.out.2.1.trans (hb.mono (by rw [← HG.out]; exact H2.out.2.1.size))) (And.intro q0 q1)))
  clear hb H2
  go_wp2_with fail
  go_at_call 15
  clear q0 q1
  refine (XX.out _ H3.out.1).mono ?_
  rintro e4 w4 ⟨rfl, hb⟩
  have q0 := (hb.cell (p := ⟨g, 0, none⟩) (World.block_lt_of_cell? _ _ H3.out.2.2.1)).trans H3.out.2.2.1
  have q1 := (hb.cell (p := ⟨g, 1, none⟩) (World.block_lt_of_cell? _ _ H3.out.2.2.2)).trans H3.out.2.2.2
  have H4 := Lib.hid (And.intro (H3.out.1.below hb) (And.intro (H3.out.2.1.trans (hb.mono (by rw [← HG.out]; exact H3.out.2.1.size))) (And.intro q0 q1)))
  clear hb H3
  go_wp2_with fail
  go_at_call 15
  clear q0 q1
  refine (YY.out _ H4.out.1).mono ?_
  rintro e5 w5 ⟨rfl, hb⟩
  have q0 := (hb.cell (p := ⟨g, 0, none⟩) (World.block_lt_of_cell? _ _ H4.out.2.2.1)).trans H4.out.2.2.1
  have q1 := (hb.cell (p := ⟨g, 1, none⟩) (World.block_lt_of_cell? _ _ H4.out.2.2.2)).trans H4.out.2.2.2
  have H5 := Lib.hid (And.intro (H4.out.1.below hb) (And.intro (H4.out.2.1.trans (hb.mono (by rw [← HG.out]; exact H4.out.2.1.size))) (And.intro q0 q1)))
  clear hb H4
  go_wp2_with fail
  go_at_call 15
  clear q0 q1
  refine (BB.out _ H5.out.1).mono ?_
  rintro e6 w6 ⟨rfl, hb⟩
  have q0 := (hb.cell (p := ⟨g, 0, none⟩) (World.block_lt_of_cell? _ _ H5.out.2.2.1)).trans H5.out.2.2.1
  have q1 := (hb.cell (p := ⟨g, 1, none⟩) (World.block_lt_of_cell? _ _ H5.out.2.2.2)).trans H5.out.2.2.2
  have H6 := Lib.hid (And.intro (H5.out.1.below hb) (And.intro (H5.out.2.1.trans (hb.mono (by rw [← HG.out]; exact H5.out.2.1.size))) (And.intro q0 q1)))
  clear hb H5
  go_wp2_with fail
  go_at_call 11
  clear q0 q1
  refine (XY.out _ H6.out.1).mono ?_
  rintro e7 w7 ⟨rfl, hb⟩
  have q0 := (hb.cell (p := ⟨g, 0, none⟩) (World.block_lt_of_cell? _ _ H6.out.2.2.1)).trans H6.out.2.2.1
  have q1 := (hb.cell (p := ⟨g, 1, none⟩) (World.block_lt_of_cell? _ _ H6.out.2.2.2)).trans H6.out.2.2.2
  have H7 := Lib.hid (And.intro (H6.out.1.below hb) (And.intro (H6.out.2.1.trans (hb.mono (by rw [← HG.out]; exact H6.out.2.1.size))) (And.intro q0 q1)))
  clear hb H6
  go_wp2_with fail
  go_at_call 13
  clear q0 q1
  refine (DD.out _ H7.out.1).mono ?_
  rintro e8 w8 ⟨rfl, hb⟩
  have q0 := (hb.cell (p := ⟨g, 0, none⟩) (World.block_lt_of_cell? _ _ H7.out.2.2.1)).trans H7.out.2.2.1
  have q1 := (hb.cell (p := ⟨g, 1, none⟩) (World.block_lt_of_cell? _ _ H7.out.2.2.2)).trans H7.out.2.2.2
  have H8 := Lib.hid (And.intro (H7.out.1.below hb) (And.intro (H7.out.2.1.trans (hb.mono (by rw [← HG.out]; exact H7.out.2.1.size))) (And.intro q0 q1)))
  clear hb H7
  go_wp2_with fail
  go_at_call 15
  clear q0 q1
  refine (AG.out _ H8.out.1).mono ?_
  rintro e9 w9 ⟨rfl, hb⟩
  have q0 := (hb.cell (p := ⟨g, 0, none⟩) (World.block_lt_of_cell? _ _ H8.out.2.2.1)).trans H8.out.2.2.1
  have q1 := (hb.cell (p := ⟨g, 1, none⟩) (World.block_lt_of_cell? _ _ H8.out.2.2.2)).trans H8.out.2.2.2
  have H9 := Lib.hid (And.intro (H8.out.1.below hb) (And.intro (H8.out.2.1.trans (hb.mono (by rw [← HG.out]; exact H8.out.2.1.size))) (And.intro q0 q1)))
  clear hb H8
  go_wp2_with fail
  go_at_call 15
  clear q0 q1
  refine (AL.out _ H9.out.1).mono ?_
  rintro e10 w10 ⟨rfl, hb⟩
  have q0 := (hb.cell (p := ⟨g, 0, none⟩) (World.block_lt_of_cell? _ _ H9.out.2.2.1)).trans H9.out.2.2.1
  have q1 := (hb.cell (p := ⟨g, 1, none⟩) (World.block_lt_of_cell? _ _ H9.out.2.2.2)).trans H9.out.2.2.2
  have H10 := Lib.hid (And.intro (H9.out.1.below hb) (And.intro (H9.out.2.1.trans (hb.mono (by rw [← HG.out]; exact H9.out.2.1.size))) (And.intro q0 q1)))
  clear hb H9
  go_wp2_with fail
  go_ret
  exact ⟨rfl, by rw [HG.out]; exact H10.out.2.1⟩
set_option maxHeartbeats 2000000 in
set_option maxRecDepth 100000 in
theorem zero (a b c m : ByteArray) (w : World) (ok : Nt.Ok w) (s1 s2 s3 : Nat) (h1 : (a.size : Int) + (b.size : Int) = (s1 : Int)) (h2 : (s1 : Int) + (c.size : Int) = (s2 : Int)) (h3 : (s2 : Int) + (m.size : Int) = (s3 : Int)) (hs3big : s3 ≤ 562949953421312) (hl : s3 ≤ 200)
    (TM : ∀ W, Calls Tryd.prog 12 #[.string m] W fun e w' => e = .returned (.string ⟨#[]⟩) ∧ w' = W) :
    Calls Tryd.prog 4 #[.string a, .agg #[.string b, .string c], .string m] w fun e w' => e = .returned (.bool true) ∧ Below w.heap.size w w' := by
  have hs1b : (s1 : Int) ≤ 562949953421312 := by omega
  have hs2b : (s2 : Int) ≤ 562949953421312 := by omega
  have hs3b : (s3 : Int) ≤ 562949953421312 := by omega
  have hlz : ¬ (200 : Int) < (s3 : Int) := by omega
  clear hl hs3big
  have TM := Lib.hid TM
  have HO := Lib.hid ok
  clear ok
  go_enter Tryd.func4, Tryd.ntmps4
  go_wp2_with fail
  go_at_call 8
  have hB0 : Below w.heap.size w (w.alloc (Obj.cells #[.string b, .string c] 31)) := (Below.refl _ _).alloc (Nat.le_refl _) _
  have g0 : (w.alloc (Obj.cells #[.string b, .string c] 31)).cell? ⟨w.heap.size, 0, none⟩ = some (.string b) := by simp
  have g1 : (w.alloc (Obj.cells #[.string b, .string c] 31)).cell? ⟨w.heap.size, 1, none⟩ = some (.string c) := by simp
  obtain ⟨g, hg⟩ : ∃ g, w.heap.size = g := ⟨_, rfl⟩
  revert hB0 g0 g1
  generalize w.alloc (Obj.cells #[.string b, .string c] 31) = w0
  rw [hg]
  intro hB0 g0 g1
  have H0 := Lib.hid (And.intro (HO.out.below (by rw [hg]; exact hB0)) (And.intro hB0 (And.intro g0 g1)))
  have HG := Lib.hid hg
  clear hB0 g0 g1 hg
  refine (Nt.fixed_any _ H0.out.1).mono ?_
  rintro e1 w1 ⟨rfl, hb⟩
  have q0 := (hb.cell (p := ⟨g, 0, none⟩) (World.block_lt_of_cell? _ _ H0.out.2.2.1)).trans H0.out.2.2.1
  have q1 := (hb.cell (p := ⟨g, 1, none⟩) (World.block_lt_of_cell? _ _ H0.out.2.2.2)).trans H0.out.2.2.2
  have H1 := Lib.hid (And.intro (H0.out.1.below hb) (And.intro (H0.out.2.1.trans (hb.mono (by rw [← HG.out]; exact H0.out.2.1.size))) (And.intro q0 q1)))
  clear hb H0
  go_wp2_with fail
  go_at_call 12
  refine (TM.out _).mono ?_
  rintro e' w' ⟨rfl, rfl⟩
  go_wp2_with fail
  go_ret
  exact ⟨rfl, by rw [HG.out]; exact H1.out.2.1⟩
set_option maxHeartbeats 2000000 in
set_option maxRecDepth 100000 in
theorem long (a b c m : ByteArray) (w : World) (ok : Nt.Ok w) (s1 s2 s3 : Nat) (h1 : (a.size : Int) + (b.size : Int) = (s1 : Int)) (h2 : (s1 : Int) + (c.size : Int) = (s2 : Int)) (h3 : (s2 : Int) + (m.size : Int) = (s3 : Int)) (hs3big : s3 ≤ 562949953421312) (hl : 200 < s3)
 :
    Calls Tryd.prog 4 #[.string a, .agg #[.string b, .string c], .string m] w fun e w' => e = .returned (.bool true) ∧ Below w.heap.size w w' := by
  have hs1b : (s1 : Int) ≤ 562949953421312 := by omega
  have hs2b : (s2 : Int) ≤ 562949953421312 := by omega
  have hs3b : (s3 : Int) ≤ 562949953421312 := by omega
  have hlz : (200 : Int) < (s3 : Int) := by omega
  clear hl hs3big
  have HO := Lib.hid ok
  clear ok
  go_enter Tryd.func4, Tryd.ntmps4
  go_wp2_with fail
  go_at_call 8
  have hB0 : Below w.heap.size w (w.alloc (Obj.cells #[.string b, .string c] 31)) := (Below.refl _ _).alloc (Nat.le_refl _) _
  have g0 : (w.alloc (Obj.cells #[.string b, .string c] 31)).cell? ⟨w.heap.size, 0, none⟩ = some (.string b) := by simp
  have g1 : (w.alloc (Obj.cells #[.string b, .string c] 31)).cell? ⟨w.heap.size, 1, none⟩ = some (.string c) := by simp
  obtain ⟨g, hg⟩ : ∃ g, w.heap.size = g := ⟨_, rfl⟩
  revert hB0 g0 g1
  generalize w.alloc (Obj.cells #[.string b, .string c] 31) = w0
  rw [hg]
  intro hB0 g0 g1
  have H0 := Lib.hid (And.intro (HO.out.below (by rw [hg]; exact hB0)) (And.intro hB0 (And.intro g0 g1)))
  have HG := Lib.hid hg
  clear hB0 g0 g1 hg
  refine (Nt.fixed_any _ H0.out.1).mono ?_
  rintro e1 w1 ⟨rfl, hb⟩
  have q0 := (hb.cell (p := ⟨g, 0, none⟩) (World.block_lt_of_cell? _ _ H0.out.2.2.1)).trans H0.out.2.2.1
  have q1 := (hb.cell (p := ⟨g, 1, none⟩) (World.block_lt_of_cell? _ _ H0.out.2.2.2)).trans H0.out.2.2.2
  have H1 := Lib.hid (And.intro (H0.out.1.below hb) (And.intro (H0.out.2.1.trans (hb.mono (by rw [← HG.out]; exact H0.out.2.1.size))) (And.intro q0 q1)))
  clear hb H0
  go_wp2_with fail
  go_ret
  exact ⟨rfl, by rw [HG.out]; exact H1.out.2.1⟩
theorem Pow_eq (s t r : ByteArray) (hs : s.size ≤ 512) (ht : t.size ≤ 512) (hr : r.size ≤ 512) (h0 : 0 < Nt.nv r) (V : Nat) (hV : Nt.nv s ^ Nt.nv t % Nt.nv r = V) (W : World) (ok : Nt.Ok W) :
    Calls Tryd.prog 15 #[.string s, .string t, .string r] W fun e w' => e = .returned (.tuple #[.string (lwRing.F V), .int .i64 0]) ∧ Below W.heap.size W w' := by
  refine (Nt.Pow_ok W ok s t r hs ht hr).mono ?_
  rintro e w' ⟨R, K, rfl, hP, hb⟩
  rcases hP with ⟨h, _⟩ | ⟨_, h, rfl⟩
  · omega
  · rw [h, hV]
    exact ⟨rfl, hb⟩
set_option maxRecDepth 100000 in
theorem walk (a b c m : ByteArray) (w : World) (ok : Nt.Ok w) (za : a.size ≤ 140737488355328) (zb : b.size ≤ 140737488355328) (zc : c.size ≤ 140737488355328) (zm : m.size ≤ 140737488355328) :
    Calls Tryd.prog 4 #[.string a, .agg #[.string b, .string c], .string m] w fun e w' => e = .returned (.bool true) ∧ Below w.heap.size w w' := by
  obtain ⟨s1, hs1⟩ : ∃ s1, a.size + b.size = s1 := ⟨_, rfl⟩
  obtain ⟨s2, hs2⟩ : ∃ s2, s1 + c.size = s2 := ⟨_, rfl⟩
  obtain ⟨s3, hs3⟩ : ∃ s3, s2 + m.size = s3 := ⟨_, rfl⟩
  by_cases hl : s3 ≤ 200
  · by_cases h0 : Nt.nv m = 0
    · refine zero a b c m w ok s1 s2 s3 (by omega) (by omega) (by omega) (by omega) hl (fun W => ?_)
      have h := Nt.Trim_any W m
      rw [lwRing.ts_F, h0] at h
      exact h
    · have ha : a.size ≤ 512 := by omega
      have hb : b.size ≤ 512 := by omega
      have hc : c.size ≤ 512 := by omega
      have hm : m.size ≤ 512 := by omega
      have hp : 0 < Nt.nv m := by omega
      obtain ⟨M, hM⟩ : ∃ M, Nt.nv m = M := ⟨_, rfl⟩
      have hlt : ∀ x, (lwRing.F (x % M)).size ≤ m.size := fun x => lwRing.F_le _ _ (Nat.lt_trans (Nat.mod_lt _ (by omega)) (by rw [← hM]; exact Nt.nv_lt m))
      have zS : (lwRing.F (Nt.nv b + Nt.nv c)).size ≤ 512 := by have := lwRing.F_sum b c; omega
      have zQ : (lwRing.F (Nt.nv b * Nt.nv c)).size ≤ 512 := by have := lwRing.F_prod b c; omega
      have zX := fun x => Nat.le_trans (hlt x) hm
      have zZ : (lwRing.F (Nt.nv a ^ Nt.nv b % M * (Nt.nv a ^ Nt.nv c % M))).size ≤ 512 := by
        have h := lwRing.F_prod (lwRing.F (Nt.nv a ^ Nt.nv b % M)) (lwRing.F (Nt.nv a ^ Nt.nv c % M))
        rw [lwRing.nvF, lwRing.nvF] at h
        have h2 := hlt (Nt.nv a ^ Nt.nv b)
        have h3 := hlt (Nt.nv a ^ Nt.nv c)
        omega
      refine core a b c m (Nt.ts m) (lwRing.F (Nt.nv b + Nt.nv c)) (lwRing.F (Nt.nv b * Nt.nv c)) (lwRing.F (Nt.nv a ^ Nt.nv b % M)) (lwRing.F (Nt.nv a ^ Nt.nv c % M)) (lwRing.F (Nt.nv a ^ (Nt.nv b + Nt.nv c) % M)) (lwRing.F (Nt.nv a ^ Nt.nv b % M * (Nt.nv a ^ Nt.nv c % M))) (lwRing.F (Nt.nv a ^ Nt.nv b % M * (Nt.nv a ^ Nt.nv c % M) / M)) (lwRing.F (Nt.nv a ^ (Nt.nv b * Nt.nv c) % M)) w ok s1 s2 s3 (by omega) (by omega) (by omega) (by omega) hl ?_
        (fun W => Nt.Trim_any W m) (fun W hW => Nt.Add_ok W hW b c hb hc) (fun W hW => Nt.Mul_ok W hW b c hb hc) (Pow_eq a b m ha hb hm hp _ (by rw [hM])) (Pow_eq a c m ha hc hm hp _ (by rw [hM])) (Pow_eq a _ m ha zS hm hp _ (by rw [hM, lwRing.nvF])) (fun W hW => ?_) (fun W hW => ?_) (Pow_eq _ c m (zX _) hc hm hp _ ?_) (Pow_eq a _ m ha zQ hm hp _ (by rw [hM, lwRing.nvF]))
      · intro e
        have h2 := congrArg (fun z : ByteArray => Nt.nv z) e
        rw [lwRing.ts_F] at h2
        simp only [lwRing.nvF] at h2
        exact h0 h2
      · have h := Nt.Mul_ok W hW (lwRing.F (Nt.nv a ^ Nt.nv b % M)) (lwRing.F (Nt.nv a ^ Nt.nv c % M)) (zX _) (zX _)
        rw [lwRing.nvF, lwRing.nvF] at h
        exact h
      · have h := Nt.Div_ok W hW (lwRing.F (Nt.nv a ^ Nt.nv b % M * (Nt.nv a ^ Nt.nv c % M))) m zZ hm
        rw [lwRing.nvF, hM, if_neg (by omega), if_neg (by omega)] at h
        rw [Nat.pow_add, Nat.mul_mod (Nt.nv a ^ Nt.nv b)]
        exact h
      · rw [hM, lwRing.nvF, ← Nat.pow_mod, Nat.pow_mul]
  · exact long a b c m w ok s1 s2 s3 (by omega) (by omega) (by omega) (by omega) (by omega)
end lwExponents
end Go.Proofs.YtkebbdidipjefaaDoor
