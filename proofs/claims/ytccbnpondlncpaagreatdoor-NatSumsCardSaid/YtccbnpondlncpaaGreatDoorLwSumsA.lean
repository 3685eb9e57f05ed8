/- NatSums, the walk. -/
import Derived.Test.YtccbnpondlncpaaGreatDoorNyL
import Derived.Test.YtccbnpondlncpaaGreatDoorNyM
import Derived.Test.YtccbnpondlncpaaGreatDoorRnS
namespace Go.Proofs.YtccbnpondlncpaaGreatDoor
open Go.RowKit
namespace lwSums
set_option maxHeartbeats 4000000 in
set_option maxRecDepth 100000 in
theorem far (a b S D P Q R : ByteArray) (E F : Nat) (w : World) (ok : Nt.Ok w) (za : a.size ≤ 9223372036854775807) (zb : b.size ≤ 9223372036854775807) (h : 512 < a.size ∨ 512 < b.size)
    (SS : ∀ W, Nt.Ok W → Calls Tryz.prog 8 #[.string a, .string b] W fun e w' => e = .returned (.tuple #[.agg (Rn.s5 S D P Q R), .int .i64 (E : Int), .int .i64 (F : Int)]) ∧ Below W.heap.size W w')
    (AA : ∀ W, Nt.Ok W → Calls Tryz.prog 9 #[.string a, .string b] W fun e w' => e = .returned (.tuple #[.string S, .int .i64 30]) ∧ Below W.heap.size W w')
    (BB : ∀ W, Nt.Ok W → Calls Tryz.prog 10 #[.string a, .string b] W fun e w' => e = .returned (.tuple #[.string D, .int .i64 (E : Int)]) ∧ Below W.heap.size W w')
    (MM : ∀ W, Nt.Ok W → Calls Tryz.prog 11 #[.string a, .string b] W fun e w' => e = .returned (.tuple #[.string P, .int .i64 30]) ∧ Below W.heap.size W w')
    (VV : ∀ W, Nt.Ok W → Calls Tryz.prog 12 #[.string a, .string b] W fun e w' => e = .returned (.tuple #[.string Q, .string R, .int .i64 (F : Int)]) ∧ Below W.heap.size W w') :
    Calls Tryz.prog 3 #[.string a, .string b] w fun e w' => e = .returned (.bool true) ∧ Below w.heap.size w w' := by
  have HL := Lib.hid (And.intro za (And.intro zb h))
  have SS := Lib.hid SS
  have AA := Lib.hid AA
  have BB := Lib.hid BB
  have MM := Lib.hid MM
  have VV := Lib.hid VV
  clear h
  have H0 := Lib.hid (And.intro ok (And.intro (Below.refl w.heap.size w) True.intro))
  clear ok
  go_enter Tryz.func3, Tryz.ntmps3
  go_wp2_with fail
  go_at_call 8
  refine Calls.mono (SS.out _ H0.out.1) ?_
  rintro e1 w1 ⟨rfl, hb⟩
  have H1 := Lib.hid (And.intro (H0.out.1.below hb) (And.intro (H0.out.2.1.trans (hb.mono H0.out.2.1.size)) True.intro))
  clear hb
  go_wp2_with (refine wpList_store_row rfl 22 (.tmp 5) (.tmp 22) rfl w1.heap.size (Rn.s5 S D P Q R) rfl rfl 22 _ (heap_alloc_new w1 _) Rn.info5 rfl (Rn.s5_one _ _ _ _ _) ?_; rw [World.setRow_alloc_new])
  have hk := Rn.Blk.new w1 (Obj.cells (Rn.s5 S D P Q R) 22)
  have hb := (Below.refl w1.heap.size w1).alloc (Nat.le_refl _) (Obj.cells (Rn.s5 S D P Q R) 22)
  revert hk hb
  generalize w1.alloc (Obj.cells (Rn.s5 S D P Q R) 22) = w2
  intro hk hb
  have H2 := Lib.hid (And.intro (H1.out.1.below hb) (And.intro (H1.out.2.1.trans (hb.mono H1.out.2.1.size)) (And.intro hk True.intro)))
  clear hk hb
  go_at_call 9
  refine Calls.mono (AA.out _ H2.out.1) ?_
  rintro e3 w3 ⟨rfl, hb⟩
  have H3 := Lib.hid (And.intro (H2.out.1.below hb) (And.intro (H2.out.2.1.trans (hb.mono H2.out.2.1.size)) (And.intro (H2.out.2.2.1.below hb) True.intro)))
  clear hb
  go_wp2_with fail
  go_at_call 10
  refine Calls.mono (BB.out _ H3.out.1) ?_
  rintro e4 w4 ⟨rfl, hb⟩
  have H4 := Lib.hid (And.intro (H3.out.1.below hb) (And.intro (H3.out.2.1.trans (hb.mono H3.out.2.1.size)) (And.intro (H3.out.2.2.1.below hb) True.intro)))
  clear hb
  go_wp2_with fail
  go_at_call 11
  refine Calls.mono (MM.out _ H4.out.1) ?_
  rintro e5 w5 ⟨rfl, hb⟩
  have H5 := Lib.hid (And.intro (H4.out.1.below hb) (And.intro (H4.out.2.1.trans (hb.mono H4.out.2.1.size)) (And.intro (H4.out.2.2.1.below hb) True.intro)))
  clear hb
  go_wp2_with fail
  go_at_call 12
  refine Calls.mono (VV.out _ H5.out.1) ?_
  rintro e6 w6 ⟨rfl, hb⟩
  have H6 := Lib.hid (And.intro (H5.out.1.below hb) (And.intro (H5.out.2.1.trans (hb.mono H5.out.2.1.size)) (And.intro (H5.out.2.2.1.below hb) True.intro)))
  clear hb
  go_wp2_with fail
  have hnew := heap_alloc_new w6 (Obj.cells #[.string a, .string b] 9)
  have hb : Below w6.heap.size w6 (w6.alloc (Obj.cells #[.string a, .string b] 9)) := (Below.refl _ _).alloc (Nat.le_refl _) _
  revert hnew hb
  generalize w6.alloc (Obj.cells #[.string a, .string b] 9) = w7
  intro hnew hb
  have H7 := Lib.hid (And.intro (H6.out.1.below hb) (And.intro (H6.out.2.1.trans (hb.mono H6.out.2.1.size)) (And.intro (H6.out.2.2.1.below hb) True.intro)))
  have HN := Lib.hid hnew
  clear hnew hb
  go_at_call 13
  refine Calls.mono (Rn.Long_two w7 _ _ a b true HN.out HL.out.1 HL.out.2.1 (.inr ⟨rfl, HL.out.2.2⟩)) ?_
  rintro e8 w7 ⟨rfl, rfl⟩
  go_wp2_with fail
  go_at_call 14
  refine Calls.mono (Nt.fixed_any w7 H7.out.1) ?_
  rintro e9 w9 ⟨rfl, hb⟩
  have H8 := Lib.hid (And.intro (H7.out.1.below hb) (And.intro (H7.out.2.1.trans (hb.mono H7.out.2.1.size)) (And.intro (H7.out.2.2.1.below hb) True.intro)))
  clear hb
  obtain ⟨c0, c1, c2, c3, c4⟩ := Rn.blk_cell H8.out.2.2.1
  go_wp2_with fail
  go_ret
  exact ⟨rfl, H8.out.2.1⟩
set_option maxHeartbeats 4000000 in
set_option maxRecDepth 100000 in
theorem near (a b S D P Q R : ByteArray) (E F : Nat) (w : World) (ok : Nt.Ok w) (za : a.size ≤ 9223372036854775807) (zb : b.size ≤ 9223372036854775807) (h : a.size ≤ 512 ∧ b.size ≤ 512)
    (SS : ∀ W, Nt.Ok W → Calls Tryz.prog 8 #[.string a, .string b] W fun e w' => e = .returned (.tuple #[.agg (Rn.s5 S D P Q R), .int .i64 (E : Int), .int .i64 (F : Int)]) ∧ Below W.heap.size W w')
    (AA : ∀ W, Nt.Ok W → Calls Tryz.prog 9 #[.string a, .string b] W fun e w' => e = .returned (.tuple #[.string S, .int .i64 0]) ∧ Below W.heap.size W w')
    (BB : ∀ W, Nt.Ok W → Calls Tryz.prog 10 #[.string a, .string b] W fun e w' => e = .returned (.tuple #[.string D, .int .i64 (E : Int)]) ∧ Below W.heap.size W w')
    (MM : ∀ W, Nt.Ok W → Calls Tryz.prog 11 #[.string a, .string b] W fun e w' => e = .returned (.tuple #[.string P, .int .i64 0]) ∧ Below W.heap.size W w')
    (VV : ∀ W, Nt.Ok W → Calls Tryz.prog 12 #[.string a, .string b] W fun e w' => e = .returned (.tuple #[.string Q, .string R, .int .i64 (F : Int)]) ∧ Below W.heap.size W w') :
    Calls Tryz.prog 3 #[.string a, .string b] w fun e w' => e = .returned (.bool true) ∧ Below w.heap.size w w' := by
  have HL := Lib.hid (And.intro za (And.intro zb h))
  have SS := Lib.hid SS
  have AA := Lib.hid AA
  have BB := Lib.hid BB
  have MM := Lib.hid MM
  have VV := Lib.hid VV
  clear h
  have H0 := Lib.hid (And.intro ok (And.intro (Below.refl w.heap.size w) True.intro))
  clear ok
  go_enter Tryz.func3, Tryz.ntmps3
  go_wp2_with fail
  go_at_call 8
  refine Calls.mono (SS.out _ H0.out.1) ?_
  rintro e1 w1 ⟨rfl, hb⟩
  have H1 := Lib.hid (And.intro (H0.out.1.below hb) (And.intro (H0.out.2.1.trans (hb.mono H0.out.2.1.size)) True.intro))
  clear hb
  go_wp2_with (refine wpList_store_row rfl 22 (.tmp 5) (.tmp 22) rfl w1.heap.size (Rn.s5 S D P Q R) rfl rfl 22 _ (heap_alloc_new w1 _) Rn.info5 rfl (Rn.s5_one _ _ _ _ _) ?_; rw [World.setRow_alloc_new])
  have hk := Rn.Blk.new w1 (Obj.cells (Rn.s5 S D P Q R) 22)
  have hb := (Below.refl w1.heap.size w1).alloc (Nat.le_refl _) (Obj.cells (Rn.s5 S D P Q R) 22)
  revert hk hb
  generalize w1.alloc (Obj.cells (Rn.s5 S D P Q R) 22) = w2
  intro hk hb
  have H2 := Lib.hid (And.intro (H1.out.1.below hb) (And.intro (H1.out.2.1.trans (hb.mono H1.out.2.1.size)) (And.intro hk True.intro)))
  clear hk hb
  go_at_call 9
  refine Calls.mono (AA.out _ H2.out.1) ?_
  rintro e3 w3 ⟨rfl, hb⟩
  have H3 := Lib.hid (And.intro (H2.out.1.below hb) (And.intro (H2.out.2.1.trans (hb.mono H2.out.2.1.size)) (And.intro (H2.out.2.2.1.below hb) True.intro)))
  clear hb
  go_wp2_with fail
  go_at_call 10
  refine Calls.mono (BB.out _ H3.out.1) ?_
  rintro e4 w4 ⟨rfl, hb⟩
  have H4 := Lib.hid (And.intro (H3.out.1.below hb) (And.intro (H3.out.2.1.trans (hb.mono H3.out.2.1.size)) (And.intro (H3.out.2.2.1.below hb) True.intro)))
  clear hb
  go_wp2_with fail
  go_at_call 11
  refine Calls.mono (MM.out _ H4.out.1) ?_
  rintro e5 w5 ⟨rfl, hb⟩
  have H5 := Lib.hid (And.intro (H4.out.1.below hb) (And.intro (H4.out.2.1.trans (hb.mono H4.out.2.1.size)) (And.intro (H4.out.2.2.1.below hb) True.intro)))
  clear hb
  go_wp2_with fail
  go_at_call 12
  refine Calls.mono (VV.out _ H5.out.1) ?_
  rintro e6 w6 ⟨rfl, hb⟩
  have H6 := Lib.hid (And.intro (H5.out.1.below hb) (And.intro (H5.out.2.1.trans (hb.mono H5.out.2.1.size)) (And.intro (H5.out.2.2.1.below hb) True.intro)))
  clear hb
  go_wp2_with fail
  have hnew := heap_alloc_new w6 (Obj.cells #[.string a, .string b] 9)
  have hb : Below w6.heap.size w6 (w6.alloc (Obj.cells #[.string a, .string b] 9)) := (Below.refl _ _).alloc (Nat.le_refl _) _
  revert hnew hb
  generalize w6.alloc (Obj.cells #[.string a, .string b] 9) = w7
  intro hnew hb
  have H7 := Lib.hid (And.intro (H6.out.1.below hb) (And.intro (H6.out.2.1.trans (hb.mono H6.out.2.1.size)) (And.intro (H6.out.2.2.1.below hb) True.intro)))
  have HN := Lib.hid hnew
  clear hnew hb
  go_at_call 13
  refine Calls.mono (Rn.Long_two w7 _ _ a b false HN.out HL.out.1 HL.out.2.1 (.inl ⟨rfl, HL.out.2.2⟩)) ?_
  rintro e8 w7 ⟨rfl, rfl⟩
  go_wp2_with fail
  go_at_call 14
  refine Calls.mono (Nt.fixed_any w7 H7.out.1) ?_
  rintro e9 w9 ⟨rfl, hb⟩
  have H8 := Lib.hid (And.intro (H7.out.1.below hb) (And.intro (H7.out.2.1.trans (hb.mono H7.out.2.1.size)) (And.intro (H7.out.2.2.1.below hb) True.intro)))
  clear hb
  obtain ⟨c0, c1, c2, c3, c4⟩ := Rn.blk_cell H8.out.2.2.1
  go_wp2_with fail
  go_ret
  exact ⟨rfl, H8.out.2.1⟩
theorem walk (a b : ByteArray) (w : World) (ok : Nt.Ok w) (za : a.size ≤ 140737488355328) (zb : b.size ≤ 140737488355328) :
    Calls Tryz.prog 3 #[.string a, .string b] w fun e w' => e = .returned (.bool true) ∧ Below w.heap.size w w' := by
  by_cases h : 512 < a.size ∨ 512 < b.size
  · exact far a b _ _ _ _ _ 30 30 w ok (by omega) (by omega) h (fun W _ => Rn.Sums_long W a b (by omega) (by omega) h) (fun W hW => Nt.Add_long W hW a b (by omega) (by omega) h) (fun W hW => Nt.Sub_long W hW a b (by omega) (by omega) h) (fun W hW => Nt.Mul_long W hW a b (by omega) (by omega) h) (fun W hW => Nt.Div_long W hW a b (by omega) (by omega) h)
  have h1 : a.size ≤ 512 := by omega
  have h2 : b.size ≤ 512 := by omega
  have sl : Nt.nv a < Nt.nv b → ∀ W, Nt.Ok W → Calls Tryz.prog 10 #[.string a, .string b] W fun e w' => e = .returned (.tuple #[.string ⟨#[]⟩, .int .i64 ((32 : Nat) : Int)]) ∧ Below W.heap.size W w' := fun hlt W hW => by
    have hS := Nt.Sub_ok W hW a b h1 h2
    rw [if_pos hlt, Nat.sub_eq_zero_of_le (Nat.le_of_lt hlt), Nt.fm_zero] at hS
    exact hS
  have sg : Nt.nv b ≤ Nt.nv a → ∀ W, Nt.Ok W → Calls Tryz.prog 10 #[.string a, .string b] W fun e w' => e = .returned (.tuple #[.string ⟨(Nt.fm (Nt.nv a - Nt.nv b)).toArray⟩, .int .i64 ((0 : Nat) : Int)]) ∧ Below W.heap.size W w' := fun hle W hW => by
    have hS := Nt.Sub_ok W hW a b h1 h2
    rw [if_neg (Nat.not_lt.2 hle)] at hS
    exact hS
  have dz : Nt.nv b = 0 → ∀ W, Nt.Ok W → Calls Tryz.prog 12 #[.string a, .string b] W fun e w' => e = .returned (.tuple #[.string ⟨#[]⟩, .string ⟨#[]⟩, .int .i64 ((31 : Nat) : Int)]) ∧ Below W.heap.size W w' := fun hz W hW => by
    have hS := Nt.Div_ok W hW a b h1 h2
    rw [if_pos hz, if_pos hz, hz, Nat.div_zero, Nt.fm_zero] at hS
    exact hS
  have dp : 0 < Nt.nv b → ∀ W, Nt.Ok W → Calls Tryz.prog 12 #[.string a, .string b] W fun e w' => e = .returned (.tuple #[.string ⟨(Nt.fm (Nt.nv a / Nt.nv b)).toArray⟩, .string ⟨(Nt.fm (Nt.nv a % Nt.nv b)).toArray⟩, .int .i64 ((0 : Nat) : Int)]) ∧ Below W.heap.size W w' := fun hz W hW => by
    have hS := Nt.Div_ok W hW a b h1 h2
    rw [if_neg (Nat.ne_of_gt hz), if_neg (Nat.ne_of_gt hz)] at hS
    exact hS
  have ad := fun W hW => Nt.Add_ok W hW a b h1 h2
  have mu := fun W hW => Nt.Mul_ok W hW a b h1 h2
  rcases Nat.lt_or_ge (Nt.nv a) (Nt.nv b) with hlt | hle
  · rcases Nat.eq_zero_or_pos (Nt.nv b) with hz | hz
    · omega
    · exact near a b _ _ _ _ _ 32 0 w ok (by omega) (by omega) ⟨h1, h2⟩ (fun W _ => Rn.Sums_lt_pos W a b _ _ _ _ h1 h2 rfl rfl rfl rfl hlt hz) ad (sl hlt) mu (dp hz)
  · rcases Nat.eq_zero_or_pos (Nt.nv b) with hz | hz
    · exact near a b _ _ _ _ _ 0 31 w ok (by omega) (by omega) ⟨h1, h2⟩ (fun W _ => Rn.Sums_le_zero W a b _ _ _ h1 h2 rfl rfl rfl hle hz) ad (sg hle) mu (dz hz)
    · exact near a b _ _ _ _ _ 0 0 w ok (by omega) (by omega) ⟨h1, h2⟩ (fun W _ => Rn.Sums_le_pos W a b _ _ _ _ _ h1 h2 rfl rfl rfl rfl rfl hle hz) ad (sg hle) mu (dp hz)
end lwSums
end Go.Proofs.YtccbnpondlncpaaGreatDoor
