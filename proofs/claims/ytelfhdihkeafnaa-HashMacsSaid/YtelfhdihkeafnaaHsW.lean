/- The sums. -/
import Derived.Test.YtelfhdihkeafnaaHsU
import Derived.Test.YtelfhdihkeafnaaHsV
namespace Go.Proofs.Ytelfhdihkeafnaa
open Go.RowKit

def Hs.pc : Nat → Array Value
  | 0 => Hs.pc0
  | _ => Hs.pc1
theorem Hs.two {P : Nat → Prop} (h0 : P 0) (h1 : P 1) (κ : Nat) (h : κ < 2) : P κ := by
  obtain rfl | rfl : κ = 0 ∨ κ = 1 := by omega
  · exact h0
  · exact h1
theorem Hs.planOf_any (κ : Nat) (hκ : κ < 2) (w : World) : Calls Try.prog 29 #[.int .i64 (κ : Int)] w fun e w' => e = .returned (.agg (Hs.pc κ)) ∧ Below w.heap.size w w' :=
  Hs.two (P := fun κ => Calls Try.prog 29 #[.int .i64 (κ : Int)] w fun e w' => e = .returned (.agg (Hs.pc κ)) ∧ Below w.heap.size w w') (Hs.planOf0 w) (Hs.planOf1 w) κ hκ
theorem Hs.padding_any (κ : Nat) (hκ : κ < 2) (n : Nat) (hn : n ≤ 1152921504606846975) (w : World) : Calls Try.prog 33 #[.int .i64 (n : Int), .agg (Hs.pc κ)] w fun e w' => e = .returned (.string (Tx.ba (Hs.pad κ n))) ∧ Below w.heap.size w w' :=
  Hs.two (P := fun κ => Calls Try.prog 33 #[.int .i64 (n : Int), .agg (Hs.pc κ)] w fun e w' => e = .returned (.string (Tx.ba (Hs.pad κ n))) ∧ Below w.heap.size w w') (Hs.padding0 w n hn) (Hs.padding1 w n hn) κ hκ
theorem Hs.Write_any (w : World) (p κ : Nat) (m : List UInt8) (s : ByteArray) (h : Hs.Is w p κ m) (hs : m.length + s.size ≤ 1152921504606846975) :
    Calls Try.prog 18 #[.pointer (some ⟨p, 0, none⟩), .string s] w fun e w' => e = .returned (.tuple #[]) ∧ Hs.Is w' p κ (m ++ s.data.toList) ∧ Hs.But p w w' :=
  Hs.two (P := fun κ => Hs.Is w p κ m → Calls Try.prog 18 #[.pointer (some ⟨p, 0, none⟩), .string s] w fun e w' => e = .returned (.tuple #[]) ∧ Hs.Is w' p κ (m ++ s.data.toList) ∧ Hs.But p w w') (fun h => Hs.Write0 w p m s h hs) (fun h => Hs.Write1 w p m s h hs) κ h.kind h
theorem Hs.told_any (w : World) (p κ : Nat) (m : List UInt8) (h : Hs.Is w p κ m) :
    Calls Try.prog 34 #[.pointer (some ⟨p, 0, none⟩)] w fun e w' => e = .returned (.string (Tx.ba (Hs.tell κ (Hs.after κ m (m.length / Hs.blk κ))))) ∧ Below w.heap.size w w' := by
  obtain ⟨R, _, _, hAt⟩ := h.obj
  refine Hs.two (P := fun κ => Hs.At w p κ (Hs.after κ m (m.length / Hs.blk κ)) R m.length → Calls Try.prog 34 #[.pointer (some ⟨p, 0, none⟩)] w fun e w' => e = .returned (.string (Tx.ba (Hs.tell κ (Hs.after κ m (m.length / Hs.blk κ))))) ∧ Below w.heap.size w w') (fun h => ?_) (fun h => ?_) κ h.kind hAt
  · exact Hs.told0 w p _ R _ h (Hs.after_lt 0 m _)
  · exact Hs.told1 w p _ R _ h (Hs.after_lt 1 m _)
theorem Hs.open_any (κ : Nat) (hκ : κ < 2) (w : World) : Calls Try.prog 23 #[.int .i64 (κ : Int)] w fun e w' => ∃ p, e = .returned (.pointer (some ⟨p, 0, none⟩)) ∧ w.heap.size ≤ p ∧ Hs.Is w' p κ [] ∧ Below w.heap.size w w' :=
  Hs.two (P := fun κ => Calls Try.prog 23 #[.int .i64 (κ : Int)] w fun e w' => ∃ p, e = .returned (.pointer (some ⟨p, 0, none⟩)) ∧ w.heap.size ≤ p ∧ Hs.Is w' p κ [] ∧ Below w.heap.size w w') (Hs.open0 w) (Hs.open1 w) κ hκ
theorem Hs.New_any (κ : Nat) (hκ : κ < 2) (w : World) : Calls Try.prog 17 #[.int .i64 (κ : Int)] w fun e w' => ∃ p, e = .returned (.tuple #[.pointer (some ⟨p, 0, none⟩), .int .i64 0]) ∧ w.heap.size ≤ p ∧ Hs.Is w' p κ [] ∧ Below w.heap.size w w' :=
  Hs.two (P := fun κ => Calls Try.prog 17 #[.int .i64 (κ : Int)] w fun e w' => ∃ p, e = .returned (.tuple #[.pointer (some ⟨p, 0, none⟩), .int .i64 0]) ∧ w.heap.size ≤ p ∧ Hs.Is w' p κ [] ∧ Below w.heap.size w w') (Hs.New0 w) (Hs.New1 w) κ hκ
theorem Hs.Is.len {w : World} {p κ : Nat} {m : List UInt8} (h : Hs.Is w p κ m) : w.cell? ⟨p, 137, none⟩ = some (.int .i64 (m.length : Int)) := by
  obtain ⟨_, _, _, hAt⟩ := h.obj
  exact hAt.len
theorem Hs.Is.kindc {w : World} {p κ : Nat} {m : List UInt8} (h : Hs.Is w p κ m) : w.cell? ⟨p, 0, none⟩ = some (.int .i64 (κ : Int)) := by
  obtain ⟨_, _, _, hAt⟩ := h.obj
  exact hAt.kind
theorem Hs.pad_le (κ n : Nat) (hκ : κ < 2) : (Hs.pad κ n).length ≤ 400 := by
  rw [Hs.pad_length]
  unfold Hs.noughts
  obtain rfl | rfl : κ = 0 ∨ κ = 1 := by omega
  · show 1 + (64 - 1 - _) + 2 * 4 ≤ 400
    omega
  · show 1 + (128 - 1 - _) + 2 * 8 ≤ 400
    omega
theorem Hs.ba_list (l : List UInt8) : (Tx.ba l).data.toList = l := rfl
theorem Hs.ba_size (l : List UInt8) : (Tx.ba l).size = l.length := rfl
theorem Hs.ba_of (s : ByteArray) : Tx.ba s.data.toList = s := rfl
theorem Hs.sum_eq (κ : Nat) (m : List UInt8) : Hs.tell κ (Hs.after κ (m ++ Hs.pad κ m.length) ((m ++ Hs.pad κ m.length).length / Hs.blk κ)) = Hs.sum κ m := by
  rw [List.length_append]
  rfl
set_option maxHeartbeats 4000000 in
set_option maxRecDepth 100000 in
theorem Hs.Sum_any (w : World) (p κ : Nat) (m : List UInt8) (h : Hs.Is w p κ m) (hm : m.length ≤ 1152921504606846000) :
    Calls Try.prog 19 #[.pointer (some ⟨p, 0, none⟩)] w fun e w' => e = .returned (.string (Tx.ba (Hs.sum κ m))) ∧ Below w.heap.size w w' := by
  have hp := h.lt
  have CP := Lib.hid (Hs.planOf_any κ h.kind)
  have CQ := Lib.hid (Hs.padding_any κ h.kind m.length (by omega))
  have CW := Lib.hid (fun (W : World) (hW : Hs.Is W w.heap.size κ m) => Hs.Write_any W w.heap.size κ m (Tx.ba (Hs.pad κ m.length)) hW (by rw [Hs.ba_size]; have := Hs.pad_le κ m.length h.kind; omega))
  have CC := Lib.hid (Hs.Clone_any w p κ m h)
  have HH := Lib.hid h
  clear h
  go_enter Try.func19, Try.ntmps19
  go_wp2_with fail
  refine CC.out.mono ?_
  rintro e w1 ⟨rfl, hC, b1⟩
  have hI := HH.out.below b1 hp
  go_upto_region 2 with fail
  refine wp_region_held_drew (S := fun W => Hs.Is W p κ m) (by kernel_rfl) (hI.below (below_drewN (Below.refl _ _) 1) hI.lt) (fun hHeld0 => ?_)
  have hC1 := hC.below (below_drewN (Below.refl w1.heap.size w1) 1) hC.lt
  have B1 := b1.trans ((below_drewN (Below.refl w1.heap.size w1) 1).mono b1.size)
  refine wpAnyH_take (i := 0) (oi := ⟨_, _, _, _, _, _⟩) (v := ?vg1_1) rfl (by kernel_rfl) (by kernel_rfl) (by kernel_rfl) (fun _ _ _ h => h) (Or.inl ⟨by rfl, ?hyg1_1⟩) (by assumption) ?restg1_1
  case hyg1_1 => (intro W hW; go_simp; try with_reducible rfl)
  try simp only [Act.put, List.setIfInBounds_toArray, List.set_cons_zero, List.set_cons_succ]
  refine wpAnyH_take (i := 1) (oi := ⟨_, _, _, _, _, _⟩) (v := ?vg1_2) rfl (by kernel_rfl) (by kernel_rfl) (by kernel_rfl) (fun _ _ _ h => h) (Or.inl ⟨by rfl, ?hyg1_2⟩) (by assumption) ?restg1_2
  case hyg1_2 => (intro W hW; go_simp; try with_reducible rfl)
  try simp only [Act.put, List.setIfInBounds_toArray, List.set_cons_zero, List.set_cons_succ]
  refine wpAnyH_take (i := 2) (oi := ⟨_, _, _, _, _, _⟩) (v := ?vg1_3) rfl (by kernel_rfl) (by kernel_rfl) (by kernel_rfl) (fun _ _ _ h => h) (Or.inl ⟨by rfl, ?hyg1_3⟩) (by assumption) ?restg1_3
  case hyg1_3 => (intro W hW; go_simp; try with_reducible rfl)
  try simp only [Act.put, List.setIfInBounds_toArray, List.set_cons_zero, List.set_cons_succ]
  refine wpAnyH_take (i := 3) (oi := ⟨_, _, _, _, _, _⟩) (v := ?vg1_4) rfl (by kernel_rfl) (by kernel_rfl) (by kernel_rfl) (fun _ _ _ h => h) (Or.inl ⟨by rfl, ?hyg1_4⟩) (by assumption) ?restg1_4
  case hyg1_4 => (intro W hW; go_simp; try with_reducible rfl)
  try simp only [Act.put, List.setIfInBounds_toArray, List.set_cons_zero, List.set_cons_succ]
  refine wpAnyH_take (i := 5) (oi := ⟨_, _, _, _, _, _⟩) (v := ?vg1_5) rfl (by kernel_rfl) (by kernel_rfl) (by kernel_rfl) (fun _ _ _ h => h) (Or.inl ⟨by rfl, ?hyg1_5⟩) (by assumption) ?restg1_5
  case hyg1_5 => (intro W hW; go_simp; try with_reducible rfl)
  try simp only [Act.put, List.setIfInBounds_toArray, List.set_cons_zero, List.set_cons_succ]
  refine wpAnyH_take (i := 6) (oi := ⟨_, _, _, _, _, _⟩) (v := ?vg1_6) rfl (by kernel_rfl) (by kernel_rfl) (by kernel_rfl) (fun _ _ _ h => h) (Or.inl ⟨by rfl, ?hyg1_6⟩) (by assumption) ?restg1_6
  case hyg1_6 => (intro W hW; go_simp; try with_reducible rfl)
  try simp only [Act.put, List.setIfInBounds_toArray, List.set_cons_zero, List.set_cons_succ]
  refine wpAnyH_take (i := 7) (oi := ⟨_, _, _, _, _, _⟩) (v := ?vg1_7) rfl (by kernel_rfl) (by kernel_rfl) (by kernel_rfl) (fun _ _ _ h => h) (Or.inl ⟨by rfl, ?hyg1_7⟩) (by assumption) ?restg1_7
  case hyg1_7 => (intro W hW; go_simp; try with_reducible rfl)
  try simp only [Act.put, List.setIfInBounds_toArray, List.set_cons_zero, List.set_cons_succ]
  refine wpAnyH_take (i := 4) (oi := ⟨_, _, _, _, _, _⟩) rfl (by kernel_rfl) (by kernel_rfl) (by kernel_rfl) (fun _ _ _ h => h) (Hs.takeI (by rfl) _ rfl p 137 rfl (m.length : Int) (fun W hW => hW.len)) (by assumption) ?restg1_8
  try simp only [Act.put, List.setIfInBounds_toArray, List.set_cons_zero, List.set_cons_succ]
  refine wpAnyH_take (i := 8) (oi := ⟨_, _, _, _, _, _⟩) rfl (by kernel_rfl) (by kernel_rfl) (by kernel_rfl) (fun _ _ _ h => h) (Hs.takeI (by rfl) _ rfl p 0 rfl (κ : Int) (fun W hW => hW.kindc)) (by assumption) ?restg1_9
  try simp only [Act.put, List.setIfInBounds_toArray, List.set_cons_zero, List.set_cons_succ]
  refine wpAnyH_ready (rs := [9]) (by kernel_rfl) (by simp) ?_
  refine AllReadyH.cons (o := ⟨_, _, _, _, _, _⟩) rfl (fun K hK => ?_) AllReadyH.nil
  go_simp
  refine Calls.mono (CP.out _) ?_
  rintro e2 w2 ⟨rfl, b2⟩
  have hC2 := hC1.below b2 hC1.lt
  have hI2 := hHeld0.below b2 hHeld0.lt
  have B2 := B1.trans (b2.mono B1.size)
  clear hC1 B1
  go_wp2_with fail
  refine hK.out _ _ (hI2) (fun hHeld1 => ?_)
  clear hK K hHeld0
  try simp only [Act.put, List.setIfInBounds_toArray, List.set_cons_zero, List.set_cons_succ]
  refine wpAnyH_ready (rs := [10]) (by kernel_rfl) (by simp) ?_
  refine AllReadyH.cons (o := ⟨_, _, _, _, _, _⟩) rfl (fun K hK => ?_) AllReadyH.nil
  go_simp
  refine Calls.mono (CQ.out _) ?_
  rintro e3 w3 ⟨rfl, b3⟩
  have hC3 := hC2.below b3 hC2.lt
  have hI3 := hI2.below b3 hI2.lt
  have B3 := B2.trans (b3.mono B2.size)
  clear hC2 hI2 B2
  go_wp2_with fail
  refine hK.out _ _ (hI3) (fun hHeld2 => ?_)
  clear hK K hHeld1
  try simp only [Act.put, List.setIfInBounds_toArray, List.set_cons_zero, List.set_cons_succ]
  refine wpAnyH_ready (rs := [11]) (by kernel_rfl) (by simp) ?_
  refine AllReadyH.cons (o := ⟨_, _, _, _, _, _⟩) rfl (fun K hK => ?_) AllReadyH.nil
  go_simp
  refine Calls.mono (CW.out _ hC3) ?_
  rintro e4 w4 ⟨rfl, hC4, b4⟩
  have hI4 := hI3.but b4 (Nat.ne_of_lt hp)
  have B4 := B3.trans (b4.toBelow (Nat.le_refl _) B3.size)
  clear hC3 hI3 B3
  go_wp2_with fail
  refine hK.out _ _ (hI4) (fun hHeld3 => ?_)
  clear hK K hHeld2
  try simp only [Act.put, List.setIfInBounds_toArray, List.set_cons_zero, List.set_cons_succ]
  refine wpAnyH_done (by kernel_rfl) ?_ _
  have CT := Hs.told_any w4 w.heap.size κ _ hC4
  rw [Hs.ba_list, Hs.sum_eq] at CT
  have CTH := Lib.hid CT
  clear CT hC4 hI4 hHeld3
  go_wp2_with fail
  refine CTH.out.mono ?_
  rintro e w5 ⟨rfl, b5⟩
  have B5 := B4.trans (b5.mono B4.size)
  go_wp2_with fail
  go_ret
  exact ⟨rfl, B5⟩
set_option maxHeartbeats 4000000 in
set_option maxRecDepth 100000 in
theorem Hs.sum_any (κ : Nat) (hκ : κ < 2) (s : ByteArray) (hs : s.size ≤ 1152921504606846000) (w : World) :
    Calls Try.prog 11 #[.int .i64 (κ : Int), .string s] w fun e w' => e = .returned (.string (Tx.ba (Hs.sum κ s.data.toList))) ∧ Below w.heap.size w w' := by
  have CO := Lib.hid (Hs.open_any κ hκ)
  have CW := Lib.hid (fun (W : World) (p : Nat) (hW : Hs.Is W p κ []) => Hs.Write_any W p κ [] s hW (by simp; omega))
  have CS := Lib.hid (fun (W : World) (p : Nat) (hW : Hs.Is W p κ s.data.toList) => Hs.Sum_any W p κ _ hW (by rw [Tx.len]; exact hs))
  go_enter Try.func11, Try.ntmps11
  go_wp2_with fail
  refine (CO.out w).mono ?_
  rintro e w1 ⟨p, rfl, hp, h1, b1⟩
  go_wp2_with fail
  refine (CW.out _ _ h1).mono ?_
  rintro e w2 ⟨rfl, h2, b2⟩
  rw [List.nil_append] at h2
  have B2 := b1.trans (b2.toBelow hp b1.size)
  go_wp2_with fail
  refine (CS.out _ _ h2).mono ?_
  rintro e w3 ⟨rfl, b3⟩
  have B3 := B2.trans (b3.mono B2.size)
  go_wp2_with fail
  go_ret
  exact ⟨rfl, B3⟩
set_option maxHeartbeats 4000000 in
set_option maxRecDepth 100000 in
theorem Hs.FSum_any (κ : Nat) (hκ : κ < 2) (s : ByteArray) (hs : s.size ≤ 1152921504606846000) (w : World) :
    Calls Try.prog 5 #[.int .i64 (κ : Int), .string s] w fun e w' => e = .returned (.tuple #[.string (Tx.ba (Hs.sum κ s.data.toList)), .int .i64 0]) ∧ Below w.heap.size w w' := by
  have ck := Hs.known_any (κ : Int) w
  rw [decide_eq_true (by omega : (κ : Int) = 0 ∨ (κ : Int) = 1)] at ck
  have CK := Lib.hid ck
  clear ck
  have CS := Lib.hid (Hs.sum_any κ hκ s hs)
  go_enter Try.func5, Try.ntmps5
  go_wp2_with fail
  refine CK.out.mono ?_
  rintro e w1 ⟨rfl, rfl⟩
  go_wp2_with fail
  refine (CS.out _).mono ?_
  rintro e w2 ⟨rfl, b2⟩
  go_wp2_with fail
  go_ret2
  exact ⟨rfl, b2⟩
set_option maxHeartbeats 4000000 in
set_option maxRecDepth 100000 in
theorem Hs.FSum_no (k : Int) (h0 : k ≠ 0) (h1 : k ≠ 1) (s : ByteArray) (w : World) :
    Calls Try.prog 5 #[.int .i64 k, .string s] w fun e w' => e = .returned (.tuple #[.string ⟨#[]⟩, .int .i64 20]) ∧ w' = w := by
  have ck := Hs.known_any k w
  rw [decide_eq_false (by omega : ¬ (k = 0 ∨ k = 1))] at ck
  have CK := Lib.hid ck
  clear ck
  go_enter Try.func5, Try.ntmps5
  go_wp2_with fail
  refine CK.out.mono ?_
  rintro e w1 ⟨rfl, rfl⟩
  go_wp2_with fail
  go_ret2
  exact ⟨rfl, rfl⟩
set_option maxHeartbeats 4000000 in
set_option maxRecDepth 100000 in
theorem Hs.Sum256_any (s : ByteArray) (hs : s.size ≤ 1152921504606846000) (w : World) :
    Calls Try.prog 14 #[.string s] w fun e w' => e = .returned (.string (Tx.ba (Hs.sum 0 s.data.toList))) ∧ Below w.heap.size w w' := by
  have CS := Lib.hid (Hs.sum_any 0 (by decide) s hs)
  go_enter Try.func14, Try.ntmps14
  go_wp2_with fail
  refine (CS.out _).mono ?_
  rintro e w2 ⟨rfl, b2⟩
  go_wp2_with fail
  go_ret
  exact ⟨rfl, b2⟩
set_option maxHeartbeats 4000000 in
set_option maxRecDepth 100000 in
theorem Hs.Sum384_any (s : ByteArray) (hs : s.size ≤ 1152921504606846000) (w : World) :
    Calls Try.prog 16 #[.string s] w fun e w' => e = .returned (.string (Tx.ba (Hs.sum 1 s.data.toList))) ∧ Below w.heap.size w w' := by
  have CS := Lib.hid (Hs.sum_any 1 (by decide) s hs)
  go_enter Try.func16, Try.ntmps16
  go_wp2_with fail
  refine (CS.out _).mono ?_
  rintro e w2 ⟨rfl, b2⟩
  go_wp2_with fail
  go_ret
  exact ⟨rfl, b2⟩
end Go.Proofs.Ytelfhdihkeafnaa
