/- Clone, Size, open, New. -/
import Derived.Test.YtelfhdihkeafnaaHsS
namespace Go.Proofs.Ytelfhdihkeafnaa
open Go.RowKit

theorem Hs.infoH : (Try.prog.info? 62).map (·.size) = some 138 := by kernel_rfl
def Hs.v0 : Hs.V8 := ⟨0, 0, 0, 0, 0, 0, 0, 0⟩
theorem Hs.infoHz : (Try.prog.info? 62).map (fun i => (i.zero, i.size)) = some (some (.agg (Hs.fn 138 (Hs.cf 0 Hs.v0 (fun _ => 0) 0))), 138) := by kernel_rfl
theorem Hs.zeroH (w : World) : (zeroValue 62).run Try.prog w = .ok (.agg (Hs.fn 138 (Hs.cf 0 Hs.v0 (fun _ => 0) 0))) w := (zero_of_info Hs.infoHz).1 w
theorem Hs.cf_one (κ : Nat) (v : Hs.V8) (R : Nat → Nat) (n j : Nat) : (Hs.cf κ v R n j).oneCell' = true := by
  unfold Hs.cf
  split
  · rfl
  · split
    · rfl
    · split <;> rfl
theorem Hs.Is.lt {w : World} {p κ : Nat} {m : List UInt8} (h : Hs.Is w p κ m) : p < w.heap.size := by
  obtain ⟨_, _, _, hAt⟩ := h.obj
  exact hAt.lt
theorem Hs.Is.below {w w' : World} {p κ B : Nat} {m : List UInt8} (h : Hs.Is w p κ m) (hb : Below B w w') (hB : p < B) : Hs.Is w' p κ m := by
  obtain ⟨R, h1, h2, hAt⟩ := h.obj
  exact ⟨h.kind, h.size, R, h1, h2, hAt.below hb hB⟩
theorem Hs.Is.but {w w' : World} {p b κ : Nat} {m : List UInt8} (h : Hs.Is w p κ m) (hb : Hs.But b w w') (hp : p ≠ b) : Hs.Is w' p κ m := by
  obtain ⟨R, h1, h2, hAt⟩ := h.obj
  exact ⟨h.kind, h.size, R, h1, h2, hAt.but hb hp⟩
set_option maxHeartbeats 4000000 in
set_option maxRecDepth 100000 in
theorem Hs.Size_any (w : World) (p κ : Nat) (m : List UInt8) (h : Hs.Is w p κ m) :
    Calls Try.prog 20 #[.pointer (some ⟨p, 0, none⟩)] w fun e w' => e = .returned (.int .i64 (m.length : Int)) ∧ w' = w := by
  obtain ⟨R, h1, h2, hAt⟩ := h.obj
  have c := hAt.len
  clear h h1 h2 hAt
  go_enter Try.func20, Try.ntmps20
  go_wp2
  go_ret
  exact ⟨rfl, rfl⟩
set_option maxHeartbeats 4000000 in
set_option maxRecDepth 100000 in
theorem Hs.Clone_any (w : World) (p κ : Nat) (m : List UInt8) (h : Hs.Is w p κ m) :
    Calls Try.prog 32 #[.pointer (some ⟨p, 0, none⟩)] w fun e w' => e = .returned (.pointer (some ⟨w.heap.size, 0, none⟩)) ∧ Hs.Is w' w.heap.size κ m ∧ Below w.heap.size w w' := by
  obtain ⟨R, h1, h2, hAt⟩ := h.obj
  obtain ⟨C, hC⟩ : ∃ C, C = Hs.fn 138 (Hs.cf κ (Hs.after κ m (m.length / Hs.blk κ)) R m.length) := ⟨_, rfl⟩
  have hb : w.heap[p]? = some (.cells C 62 (0, 0)) := by rw [hC]; exact hAt
  have hsz : (Try.prog.info? 62).map (·.size) = some C.size := by rw [hC, Hs.fn_size]; exact Hs.infoH
  have hone : C.all (·.oneCell') = true := by rw [hC]; exact Hs.fn_one _ _ (fun j _ => Hs.cf_one _ _ _ _ _)
  have hzs : (Hs.fn 138 (Hs.cf 0 Hs.v0 (fun _ => 0) 0)).size = C.size := by rw [hC, Hs.fn_size, Hs.fn_size]
  have HI := Lib.hid (And.intro h.kind (And.intro h.size (And.intro h1 (And.intro h2 hC))))
  clear h h1 h2 hAt hC
  have z := Hs.zeroH
  go_enter Try.func32, Try.ntmps32
  go_upto_region 2 with (first | (refine wpList_load_row rfl 62 (.tmp 5) rfl p rfl 62 C (0, 0) _ hb Try.underlying62 rfl hsz ?_) | (refine wpList_store_row rfl 62 (.tmp 3) (.tmp 6) rfl w.heap.size C rfl rfl 62 _ (heap_alloc_new w _) hsz hzs hone ?_; rw [World.setRow_alloc_new]))
  have bA : Below w.heap.size w (w.alloc (.cells C 62)) := (Below.refl _ _).alloc (Nat.le_refl _) _
  have hI : Hs.Is (w.alloc (.cells C 62)) w.heap.size κ m := by
    obtain ⟨h1, h2, h3, h4, hC⟩ := HI.out
    exact ⟨h1, h2, R, h3, h4, by unfold Hs.At Hs.Blk; rw [← hC]; exact heap_alloc_new w _⟩
  go_wp2_with fail
  go_ret
  exact ⟨rfl, hI, bA⟩
theorem Hs.Is.nil {w : World} {p κ : Nat} (hκ : κ < 2) (h : Hs.At w p κ (Hs.first κ) (fun _ => 0) 0) : Hs.Is w p κ [] := by
  refine ⟨hκ, Nat.zero_le _, (fun _ => 0 : Nat → Nat), fun _ => (by decide : 0 < 256), fun j hj => ?_, ?_⟩
  · simp at hj
  · simp only [List.length_nil, Nat.zero_div]
    exact h
theorem Hs.field0 (W : World) : (Instr.field 58 (.agg Hs.pc0) 7).run Try.prog W = .ok (.agg #[.int .u64 1779033703, .int .u64 3144134277, .int .u64 1013904242, .int .u64 2773480762, .int .u64 1359893119, .int .u64 2600822924, .int .u64 528734635, .int .u64 1541459225]) W := by kernel_rfl
theorem Hs.field1 (W : World) : (Instr.field 58 (.agg Hs.pc1) 7).run Try.prog W = .ok (.agg #[.int .u64 14680500436340154072, .int .u64 7105036623409894663, .int .u64 10473403895298186519, .int .u64 1526699215303891257, .int .u64 7436329637833083697, .int .u64 10282925794625328401, .int .u64 15784041429090275239, .int .u64 5167115440072839076]) W := by kernel_rfl
theorem Hs.built0 : Try.prog.built 62 [(0, .int .i64 0), (1, .agg #[.int .u64 1779033703, .int .u64 3144134277, .int .u64 1013904242, .int .u64 2773480762, .int .u64 1359893119, .int .u64 2600822924, .int .u64 528734635, .int .u64 1541459225])] = some (Hs.fn 138 (Hs.cf 0 (Hs.first 0) (fun _ => 0) 0)) := by kernel_rfl
theorem Hs.built1 : Try.prog.built 62 [(0, .int .i64 1), (1, .agg #[.int .u64 14680500436340154072, .int .u64 7105036623409894663, .int .u64 10473403895298186519, .int .u64 1526699215303891257, .int .u64 7436329637833083697, .int .u64 10282925794625328401, .int .u64 15784041429090275239, .int .u64 5167115440072839076])] = some (Hs.fn 138 (Hs.cf 1 (Hs.first 1) (fun _ => 0) 0)) := by kernel_rfl
set_option maxHeartbeats 4000000 in
set_option maxRecDepth 100000 in
theorem Hs.open0 (w : World) :
    Calls Try.prog 23 #[.int .i64 0] w fun e w' => ∃ p, e = .returned (.pointer (some ⟨p, 0, none⟩)) ∧ w.heap.size ≤ p ∧ Hs.Is w' p 0 [] ∧ Below w.heap.size w w' := by
  have CP := Lib.hid Hs.planOf0
  obtain ⟨R, hR⟩ : ∃ R, R = Hs.fn 138 (Hs.cf 0 (Hs.first 0) (fun _ => 0) 0) := ⟨_, rfl⟩
  have hb := Hs.built0
  rw [← hR] at hb
  have HB := Lib.hid hb
  have HR := Lib.hid hR
  clear hb hR
  have hf := Hs.field0
  go_enter Try.func23, Try.ntmps23
  go_wp2_with fail
  refine (CP.out w).mono ?_
  rintro e w1 ⟨rfl, b1⟩
  go_wp2_with (refine Hs.wpList_build rfl 62 _ rfl _ R (by kernel_rfl) HB.out ?_)
  have hI : Hs.Is (w1.alloc (.cells R 62)) w1.heap.size 0 [] := Hs.Is.nil (by decide) (by unfold Hs.At Hs.Blk; rw [← HR.out]; exact heap_alloc_new w1 _)
  have bA : Below w1.heap.size w1 (w1.alloc (.cells R 62)) := (Below.refl _ _).alloc (Nat.le_refl _) _
  go_ret
  exact ⟨_, rfl, b1.size, hI, b1.trans (bA.mono b1.size)⟩
set_option maxHeartbeats 4000000 in
set_option maxRecDepth 100000 in
theorem Hs.New0 (w : World) :
    Calls Try.prog 17 #[.int .i64 0] w fun e w' => ∃ p, e = .returned (.tuple #[.pointer (some ⟨p, 0, none⟩), .int .i64 0]) ∧ w.heap.size ≤ p ∧ Hs.Is w' p 0 [] ∧ Below w.heap.size w w' := by
  have CK : ∀ w, Calls Try.prog 10 #[.int .i64 0] w fun e w' => e = .returned (.bool true) ∧ w' = w := Hs.known_any 0
  have CKH := Lib.hid CK
  clear CK
  have CO := Lib.hid Hs.open0
  go_enter Try.func17, Try.ntmps17
  go_wp2_with fail
  refine (CKH.out w).mono ?_
  rintro e w1 ⟨rfl, rfl⟩
  go_wp2_with fail
  refine (CO.out _).mono ?_
  rintro e w2 ⟨p, rfl, hp, hI, b2⟩
  go_wp2_with fail
  go_ret2
  exact ⟨p, rfl, hp, hI, b2⟩
set_option maxHeartbeats 4000000 in
set_option maxRecDepth 100000 in
theorem Hs.open1 (w : World) :
    Calls Try.prog 23 #[.int .i64 1] w fun e w' => ∃ p, e = .returned (.pointer (some ⟨p, 0, none⟩)) ∧ w.heap.size ≤ p ∧ Hs.Is w' p 1 [] ∧ Below w.heap.size w w' := by
  have CP := Lib.hid Hs.planOf1
  obtain ⟨R, hR⟩ : ∃ R, R = Hs.fn 138 (Hs.cf 1 (Hs.first 1) (fun _ => 0) 0) := ⟨_, rfl⟩
  have hb := Hs.built1
  rw [← hR] at hb
  have HB := Lib.hid hb
  have HR := Lib.hid hR
  clear hb hR
  have hf := Hs.field1
  go_enter Try.func23, Try.ntmps23
  go_wp2_with fail
  refine (CP.out w).mono ?_
  rintro e w1 ⟨rfl, b1⟩
  go_wp2_with (refine Hs.wpList_build rfl 62 _ rfl _ R (by kernel_rfl) HB.out ?_)
  have hI : Hs.Is (w1.alloc (.cells R 62)) w1.heap.size 1 [] := Hs.Is.nil (by decide) (by unfold Hs.At Hs.Blk; rw [← HR.out]; exact heap_alloc_new w1 _)
  have bA : Below w1.heap.size w1 (w1.alloc (.cells R 62)) := (Below.refl _ _).alloc (Nat.le_refl _) _
  go_ret
  exact ⟨_, rfl, b1.size, hI, b1.trans (bA.mono b1.size)⟩
set_option maxHeartbeats 4000000 in
set_option maxRecDepth 100000 in
theorem Hs.New1 (w : World) :
    Calls Try.prog 17 #[.int .i64 1] w fun e w' => ∃ p, e = .returned (.tuple #[.pointer (some ⟨p, 0, none⟩), .int .i64 0]) ∧ w.heap.size ≤ p ∧ Hs.Is w' p 1 [] ∧ Below w.heap.size w w' := by
  have CK : ∀ w, Calls Try.prog 10 #[.int .i64 1] w fun e w' => e = .returned (.bool true) ∧ w' = w := Hs.known_any 1
  have CKH := Lib.hid CK
  clear CK
  have CO := Lib.hid Hs.open1
  go_enter Try.func17, Try.ntmps17
  go_wp2_with fail
  refine (CKH.out w).mono ?_
  rintro e w1 ⟨rfl, rfl⟩
  go_wp2_with fail
  refine (CO.out _).mono ?_
  rintro e w2 ⟨p, rfl, hp, hI, b2⟩
  go_wp2_with fail
  go_ret2
  exact ⟨p, rfl, hp, hI, b2⟩
set_option maxHeartbeats 4000000 in
set_option maxRecDepth 100000 in
theorem Hs.New_no (k : Int) (h0 : k ≠ 0) (h1 : k ≠ 1) (w : World) :
    Calls Try.prog 17 #[.int .i64 k] w fun e w' => e = .returned (.tuple #[.pointer none, .int .i64 20]) ∧ w' = w := by
  have ck := Hs.known_any k w
  rw [decide_eq_false (by omega : ¬ (k = 0 ∨ k = 1))] at ck
  have CK := Lib.hid ck
  clear ck
  go_enter Try.func17, Try.ntmps17
  go_wp2_with fail
  refine CK.out.mono ?_
  rintro e w1 ⟨rfl, rfl⟩
  go_wp2_with fail
  go_ret2
  exact ⟨rfl, rfl⟩
end Go.Proofs.Ytelfhdihkeafnaa
