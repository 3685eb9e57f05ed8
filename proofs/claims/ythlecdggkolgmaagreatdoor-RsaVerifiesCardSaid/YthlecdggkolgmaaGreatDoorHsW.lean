/- The sums. -/
import Derived.Test.YthlecdggkolgmaaGreatDoorHsS
import Derived.Test.YthlecdggkolgmaaGreatDoorHsU
namespace Go.Proofs.YthlecdggkolgmaaGreatDoor
section
open Go.RowKit

theorem Hs.infoH : (Tryz.prog.info? 135).map (·.size) = some 138 := by kernel_rfl
def Hs.v0 : Hs.V8 := ⟨0,0,0,0,0,0,0,0⟩
theorem Hs.infoHz : (Tryz.prog.info? 135).map (fun i => (i.zero,i.size)) = some (some (.agg (Hs.fn 138 (Hs.cf 0 Hs.v0 (fun _ => 0) 0))),138) := by kernel_rfl
theorem Hs.zeroH (w : World) : (zeroValue 135).run Tryz.prog w = .ok (.agg (Hs.fn 138 (Hs.cf 0 Hs.v0 (fun _ => 0) 0))) w := (zero_of_info Hs.infoHz).1 w
theorem Hs.cf_one (κ : Nat) (v : Hs.V8) (R : Nat → Nat) (n j : Nat) : (Hs.cf κ v R n j).oneCell' = true := by
  unfold Hs.cf
  split
  · rfl
  · split
    · rfl
    · split <;> rfl
theorem Hs.Is.lt {w : World} {p κ : Nat} {m : List UInt8} (h : Hs.Is w p κ m) : p < w.heap.size := by
  obtain ⟨_,_,_,hAt⟩ := h.obj
  exact hAt.lt
theorem Hs.Is.below {w w' : World} {p κ B : Nat} {m : List UInt8} (h : Hs.Is w p κ m) (hb : Below B w w') (hB : p < B) : Hs.Is w' p κ m := by
  obtain ⟨R,h1,h2,hAt⟩ := h.obj
  exact ⟨h.kind,h.size,R,h1,h2,hAt.below hb hB⟩
theorem Hs.Is.but {w w' : World} {p b κ : Nat} {m : List UInt8} (h : Hs.Is w p κ m) (hb : Hs.But b w w') (hp : p ≠ b) : Hs.Is w' p κ m := by
  obtain ⟨R,h1,h2,hAt⟩ := h.obj
  exact ⟨h.kind,h.size,R,h1,h2,hAt.but hb hp⟩
set_option maxHeartbeats 4000000 in
set_option maxRecDepth 100000 in
theorem Hs.Clone_any (w : World) (p κ : Nat) (m : List UInt8) (h : Hs.Is w p κ m) :
    Calls Tryz.prog 57 #[.pointer (some ⟨p,0,none⟩)] w fun e w' => e = .returned (.pointer (some ⟨w.heap.size,0,none⟩)) ∧ Hs.Is w' w.heap.size κ m ∧ Below w.heap.size w w' := by
  obtain ⟨R,h1,h2,hAt⟩ := h.obj
  obtain ⟨C,hC⟩ : ∃ C,C = Hs.fn 138 (Hs.cf κ (Hs.after κ m (m.length / Hs.blk κ)) R m.length) := ⟨_,rfl⟩
  have hb : w.heap[p]? = some (.cells C 135 (0,0)) := by rw [hC]; exact hAt
  have hsz : (Tryz.prog.info? 135).map (·.size) = some C.size := by rw [hC,Hs.fn_size]; exact Hs.infoH
  have hone : C.all (·.oneCell') = true := by rw [hC]; exact Hs.fn_one _ _ (fun j _ => Hs.cf_one _ _ _ _ _)
  have hzs : (Hs.fn 138 (Hs.cf 0 Hs.v0 (fun _ => 0) 0)).size = C.size := by rw [hC,Hs.fn_size,Hs.fn_size]
  have HI := Lib.hid (And.intro h.kind (And.intro h.size (And.intro h1 (And.intro h2 hC))))
  clear h h1 h2 hAt hC
  have z := Hs.zeroH
  go_enter Tryz.func57,Tryz.ntmps57
  go_upto_region 2 with (first | (refine wpList_load_row rfl 135 (.tmp 5) rfl p rfl 135 C (0,0) _ hb Tryz.underlying135 rfl hsz ?_) | (refine wpList_store_row rfl 135 (.tmp 3) (.tmp 6) rfl w.heap.size C rfl rfl 135 _ (heap_alloc_new w _) hsz hzs hone ?_; rw [World.setRow_alloc_new]))
  have bA : Below w.heap.size w (w.alloc (.cells C 135)) := (Below.refl _ _).alloc (Nat.le_refl _) _
  have hI : Hs.Is (w.alloc (.cells C 135)) w.heap.size κ m := by
    obtain ⟨h1,h2,h3,h4,hC⟩ := HI.out
    exact ⟨h1,h2,R,h3,h4,by unfold Hs.At Hs.Blk; rw [← hC]; exact heap_alloc_new w _⟩
  go_wp2_with fail
  go_ret
  exact ⟨rfl,hI,bA⟩
theorem Hs.Is.nil {w : World} {p κ : Nat} (hκ : κ < 2) (h : Hs.At w p κ (Hs.first κ) (fun _ => 0) 0) : Hs.Is w p κ [] := by
  refine ⟨hκ,Nat.zero_le _,(fun _ => 0 : Nat → Nat),fun _ => (by decide : 0 < 256),fun j hj => ?_,?_⟩
  · simp at hj
  · simp only [List.length_nil,Nat.zero_div]
    exact h
theorem Hs.field0 (W : World) : (Instr.field 131 (.agg Hs.pc0) 7).run Tryz.prog W = .ok (.agg #[.int .u64 1779033703,.int .u64 3144134277,.int .u64 1013904242,.int .u64 2773480762,.int .u64 1359893119,.int .u64 2600822924,.int .u64 528734635,.int .u64 1541459225]) W := by kernel_rfl
theorem Hs.field1 (W : World) : (Instr.field 131 (.agg Hs.pc1) 7).run Tryz.prog W = .ok (.agg #[.int .u64 14680500436340154072,.int .u64 7105036623409894663,.int .u64 10473403895298186519,.int .u64 1526699215303891257,.int .u64 7436329637833083697,.int .u64 10282925794625328401,.int .u64 15784041429090275239,.int .u64 5167115440072839076]) W := by kernel_rfl
theorem Hs.built0 : Tryz.prog.built 135 [(0,.int .i64 0),(1,.agg #[.int .u64 1779033703,.int .u64 3144134277,.int .u64 1013904242,.int .u64 2773480762,.int .u64 1359893119,.int .u64 2600822924,.int .u64 528734635,.int .u64 1541459225])] = some (Hs.fn 138 (Hs.cf 0 (Hs.first 0) (fun _ => 0) 0)) := by kernel_rfl
theorem Hs.built1 : Tryz.prog.built 135 [(0,.int .i64 1),(1,.agg #[.int .u64 14680500436340154072,.int .u64 7105036623409894663,.int .u64 10473403895298186519,.int .u64 1526699215303891257,.int .u64 7436329637833083697,.int .u64 10282925794625328401,.int .u64 15784041429090275239,.int .u64 5167115440072839076])] = some (Hs.fn 138 (Hs.cf 1 (Hs.first 1) (fun _ => 0) 0)) := by kernel_rfl
set_option maxHeartbeats 4000000 in
set_option maxRecDepth 100000 in
theorem Hs.open0 (w : World) :
    Calls Tryz.prog 59 #[.int .i64 0] w fun e w' => ∃ p,e = .returned (.pointer (some ⟨p,0,none⟩)) ∧ w.heap.size ≤ p ∧ Hs.Is w' p 0 [] ∧ Below w.heap.size w w' := by
  have CP := Lib.hid Hs.planOf0
  obtain ⟨R,hR⟩ : ∃ R,R = Hs.fn 138 (Hs.cf 0 (Hs.first 0) (fun _ => 0) 0) := ⟨_,rfl⟩
  have hb := Hs.built0
  rw [← hR] at hb
  have HB := Lib.hid hb
  have HR := Lib.hid hR
  clear hb hR
  have hf := Hs.field0
  go_enter Tryz.func59,Tryz.ntmps59
  go_wp2_with fail
  refine (CP.out w).mono ?_
  rintro e w1 ⟨rfl,b1⟩
  go_wp2_with (refine Hs.wpList_build rfl 135 _ rfl _ R (by kernel_rfl) HB.out ?_)
  have hI : Hs.Is (w1.alloc (.cells R 135)) w1.heap.size 0 [] := Hs.Is.nil (by decide) (by unfold Hs.At Hs.Blk; rw [← HR.out]; exact heap_alloc_new w1 _)
  have bA : Below w1.heap.size w1 (w1.alloc (.cells R 135)) := (Below.refl _ _).alloc (Nat.le_refl _) _
  go_ret
  exact ⟨_,rfl,b1.size,hI,b1.trans (bA.mono b1.size)⟩
set_option maxHeartbeats 4000000 in
set_option maxRecDepth 100000 in
theorem Hs.New0 (w : World) :
    Calls Tryz.prog 55 #[.int .i64 0] w fun e w' => ∃ p,e = .returned (.tuple #[.pointer (some ⟨p,0,none⟩),.int .i64 0]) ∧ w.heap.size ≤ p ∧ Hs.Is w' p 0 [] ∧ Below w.heap.size w w' := by
  have CK : ∀ w,Calls Tryz.prog 81 #[.int .i64 0] w fun e w' => e = .returned (.bool true) ∧ w' = w := Hs.known_any 0
  have CKH := Lib.hid CK
  clear CK
  have CO := Lib.hid Hs.open0
  go_enter Tryz.func55,Tryz.ntmps55
  go_wp2_with fail
  refine (CKH.out w).mono ?_
  rintro e w1 ⟨rfl,rfl⟩
  go_wp2_with fail
  refine (CO.out _).mono ?_
  rintro e w2 ⟨p,rfl,hp,hI,b2⟩
  go_wp2_with fail
  go_ret2
  exact ⟨p,rfl,hp,hI,b2⟩
set_option maxHeartbeats 4000000 in
set_option maxRecDepth 100000 in
theorem Hs.open1 (w : World) :
    Calls Tryz.prog 59 #[.int .i64 1] w fun e w' => ∃ p,e = .returned (.pointer (some ⟨p,0,none⟩)) ∧ w.heap.size ≤ p ∧ Hs.Is w' p 1 [] ∧ Below w.heap.size w w' := by
  have CP := Lib.hid Hs.planOf1
  obtain ⟨R,hR⟩ : ∃ R,R = Hs.fn 138 (Hs.cf 1 (Hs.first 1) (fun _ => 0) 0) := ⟨_,rfl⟩
  have hb := Hs.built1
  rw [← hR] at hb
  have HB := Lib.hid hb
  have HR := Lib.hid hR
  clear hb hR
  have hf := Hs.field1
  go_enter Tryz.func59,Tryz.ntmps59
  go_wp2_with fail
  refine (CP.out w).mono ?_
  rintro e w1 ⟨rfl,b1⟩
  go_wp2_with (refine Hs.wpList_build rfl 135 _ rfl _ R (by kernel_rfl) HB.out ?_)
  have hI : Hs.Is (w1.alloc (.cells R 135)) w1.heap.size 1 [] := Hs.Is.nil (by decide) (by unfold Hs.At Hs.Blk; rw [← HR.out]; exact heap_alloc_new w1 _)
  have bA : Below w1.heap.size w1 (w1.alloc (.cells R 135)) := (Below.refl _ _).alloc (Nat.le_refl _) _
  go_ret
  exact ⟨_,rfl,b1.size,hI,b1.trans (bA.mono b1.size)⟩
set_option maxHeartbeats 4000000 in
set_option maxRecDepth 100000 in
theorem Hs.New1 (w : World) :
    Calls Tryz.prog 55 #[.int .i64 1] w fun e w' => ∃ p,e = .returned (.tuple #[.pointer (some ⟨p,0,none⟩),.int .i64 0]) ∧ w.heap.size ≤ p ∧ Hs.Is w' p 1 [] ∧ Below w.heap.size w w' := by
  have CK : ∀ w,Calls Tryz.prog 81 #[.int .i64 1] w fun e w' => e = .returned (.bool true) ∧ w' = w := Hs.known_any 1
  have CKH := Lib.hid CK
  clear CK
  have CO := Lib.hid Hs.open1
  go_enter Tryz.func55,Tryz.ntmps55
  go_wp2_with fail
  refine (CKH.out w).mono ?_
  rintro e w1 ⟨rfl,rfl⟩
  go_wp2_with fail
  refine (CO.out _).mono ?_
  rintro e w2 ⟨p,rfl,hp,hI,b2⟩
  go_wp2_with fail
  go_ret2
  exact ⟨p,rfl,hp,hI,b2⟩
end
section
open Go.RowKit

def Hs.pc : Nat → Array Value
  | 0 => Hs.pc0
  | _ => Hs.pc1
theorem Hs.two {P : Nat → Prop} (h0 : P 0) (h1 : P 1) (κ : Nat) (h : κ < 2) : P κ := by
  obtain rfl | rfl : κ = 0 ∨ κ = 1 := by omega
  · exact h0
  · exact h1
theorem Hs.planOf_any (κ : Nat) (hκ : κ < 2) (w : World) : Calls Tryz.prog 82 #[.int .i64 (κ : Int)] w fun e w' => e = .returned (.agg (Hs.pc κ)) ∧ Below w.heap.size w w' :=
  Hs.two (P := fun κ => Calls Tryz.prog 82 #[.int .i64 (κ : Int)] w fun e w' => e = .returned (.agg (Hs.pc κ)) ∧ Below w.heap.size w w') (Hs.planOf0 w) (Hs.planOf1 w) κ hκ
theorem Hs.padding_any (κ : Nat) (hκ : κ < 2) (n : Nat) (hn : n ≤ 1152921504606846975) (w : World) : Calls Tryz.prog 85 #[.int .i64 (n : Int),.agg (Hs.pc κ)] w fun e w' => e = .returned (.string (Tx.ba (Hs.pad κ n))) ∧ Below w.heap.size w w' :=
  Hs.two (P := fun κ => Calls Tryz.prog 85 #[.int .i64 (n : Int),.agg (Hs.pc κ)] w fun e w' => e = .returned (.string (Tx.ba (Hs.pad κ n))) ∧ Below w.heap.size w w') (Hs.padding0 w n hn) (Hs.padding1 w n hn) κ hκ
theorem Hs.Write_any (w : World) (p κ : Nat) (m : List UInt8) (s : ByteArray) (h : Hs.Is w p κ m) (hs : m.length + s.size ≤ 1152921504606846975) :
    Calls Tryz.prog 56 #[.pointer (some ⟨p,0,none⟩),.string s] w fun e w' => e = .returned (.tuple #[]) ∧ Hs.Is w' p κ (m ++ s.data.toList) ∧ Hs.But p w w' :=
  Hs.two (P := fun κ => Hs.Is w p κ m → Calls Tryz.prog 56 #[.pointer (some ⟨p,0,none⟩),.string s] w fun e w' => e = .returned (.tuple #[]) ∧ Hs.Is w' p κ (m ++ s.data.toList) ∧ Hs.But p w w') (fun h => Hs.Write0 w p m s h hs) (fun h => Hs.Write1 w p m s h hs) κ h.kind h
theorem Hs.told_any (w : World) (p κ : Nat) (m : List UInt8) (h : Hs.Is w p κ m) :
    Calls Tryz.prog 86 #[.pointer (some ⟨p,0,none⟩)] w fun e w' => e = .returned (.string (Tx.ba (Hs.tell κ (Hs.after κ m (m.length / Hs.blk κ))))) ∧ Below w.heap.size w w' := by
  obtain ⟨R,_,_,hAt⟩ := h.obj
  refine Hs.two (P := fun κ => Hs.At w p κ (Hs.after κ m (m.length / Hs.blk κ)) R m.length → Calls Tryz.prog 86 #[.pointer (some ⟨p,0,none⟩)] w fun e w' => e = .returned (.string (Tx.ba (Hs.tell κ (Hs.after κ m (m.length / Hs.blk κ))))) ∧ Below w.heap.size w w') (fun h => ?_) (fun h => ?_) κ h.kind hAt
  · exact Hs.told0 w p _ R _ h (Hs.after_lt 0 m _)
  · exact Hs.told1 w p _ R _ h (Hs.after_lt 1 m _)
theorem Hs.open_any (κ : Nat) (hκ : κ < 2) (w : World) : Calls Tryz.prog 59 #[.int .i64 (κ : Int)] w fun e w' => ∃ p,e = .returned (.pointer (some ⟨p,0,none⟩)) ∧ w.heap.size ≤ p ∧ Hs.Is w' p κ [] ∧ Below w.heap.size w w' :=
  Hs.two (P := fun κ => Calls Tryz.prog 59 #[.int .i64 (κ : Int)] w fun e w' => ∃ p,e = .returned (.pointer (some ⟨p,0,none⟩)) ∧ w.heap.size ≤ p ∧ Hs.Is w' p κ [] ∧ Below w.heap.size w w') (Hs.open0 w) (Hs.open1 w) κ hκ
theorem Hs.New_any (κ : Nat) (hκ : κ < 2) (w : World) : Calls Tryz.prog 55 #[.int .i64 (κ : Int)] w fun e w' => ∃ p,e = .returned (.tuple #[.pointer (some ⟨p,0,none⟩),.int .i64 0]) ∧ w.heap.size ≤ p ∧ Hs.Is w' p κ [] ∧ Below w.heap.size w w' :=
  Hs.two (P := fun κ => Calls Tryz.prog 55 #[.int .i64 (κ : Int)] w fun e w' => ∃ p,e = .returned (.tuple #[.pointer (some ⟨p,0,none⟩),.int .i64 0]) ∧ w.heap.size ≤ p ∧ Hs.Is w' p κ [] ∧ Below w.heap.size w w') (Hs.New0 w) (Hs.New1 w) κ hκ
theorem Hs.Is.len {w : World} {p κ : Nat} {m : List UInt8} (h : Hs.Is w p κ m) : w.cell? ⟨p,137,none⟩ = some (.int .i64 (m.length : Int)) := by
  obtain ⟨_,_,_,hAt⟩ := h.obj
  exact hAt.len
theorem Hs.Is.kindc {w : World} {p κ : Nat} {m : List UInt8} (h : Hs.Is w p κ m) : w.cell? ⟨p,0,none⟩ = some (.int .i64 (κ : Int)) := by
  obtain ⟨_,_,_,hAt⟩ := h.obj
  exact hAt.kind
theorem Hs.pad_le (κ n : Nat) (hκ : κ < 2) : (Hs.pad κ n).length ≤ 400 := by
  rw [Hs.pad_length]
  unfold Hs.noughts
  obtain rfl | rfl : κ = 0 ∨ κ = 1 := by omega
  · show 1 + (64 - 1 - _) + 2 * 4 ≤ 400
    omega
  · show 1 + (128 - 1 - _) + 2 * 8 ≤ 400
    omega
theorem Hs.ba_list (l : List UInt8) : (Tx.ba l).data.toList = l := rfl
theorem Hs.ba_size (l : List UInt8) : (Tx.ba l).size = l.length := rfl
theorem Hs.sum_eq (κ : Nat) (m : List UInt8) : Hs.tell κ (Hs.after κ (m ++ Hs.pad κ m.length) ((m ++ Hs.pad κ m.length).length / Hs.blk κ)) = Hs.sum κ m := by
  rw [List.length_append]
  rfl
set_option maxHeartbeats 4000000 in
set_option maxRecDepth 100000 in
theorem Hs.Sum_any (w : World) (p κ : Nat) (m : List UInt8) (h : Hs.Is w p κ m) (hm : m.length ≤ 1152921504606846000) :
    Calls Tryz.prog 58 #[.pointer (some ⟨p,0,none⟩)] w fun e w' => e = .returned (.string (Tx.ba (Hs.sum κ m))) ∧ Below w.heap.size w w' := by
  have hp := h.lt
  have CP := Lib.hid (Hs.planOf_any κ h.kind)
  have CQ := Lib.hid (Hs.padding_any κ h.kind m.length (by omega))
  have CW := Lib.hid (fun (W : World) (hW : Hs.Is W w.heap.size κ m) => Hs.Write_any W w.heap.size κ m (Tx.ba (Hs.pad κ m.length)) hW (by rw [Hs.ba_size]; have := Hs.pad_le κ m.length h.kind; omega))
  have CC := Lib.hid (Hs.Clone_any w p κ m h)
  have HH := Lib.hid h
  clear h
  go_enter Tryz.func58,Tryz.ntmps58
  go_wp2_with fail
  refine CC.out.mono ?_
  rintro e w1 ⟨rfl,hC,b1⟩
  have hI := HH.out.below b1 hp
  go_upto_region 2 with fail
  refine wp_region_held_drew (S := fun W => Hs.Is W p κ m) (by kernel_rfl) (hI.below (below_drewN (Below.refl _ _) 1) hI.lt) (fun hHeld0 => ?_)
  have hC1 := hC.below (below_drewN (Below.refl w1.heap.size w1) 1) hC.lt
  have B1 := b1.trans ((below_drewN (Below.refl w1.heap.size w1) 1).mono b1.size)
  refine wpAnyH_take (i := 0) (oi := ⟨_,_,_,_,_,_⟩) (v := ?vg1_1) rfl (by kernel_rfl) (by kernel_rfl) (by kernel_rfl) (fun _ _ _ h => h) (Or.inl ⟨by rfl,?hyg1_1⟩) (by assumption) ?restg1_1
  case hyg1_1 => (intro W hW; go_simp; try with_reducible rfl)
  try simp only [Act.put,List.setIfInBounds_toArray,List.set_cons_zero,List.set_cons_succ]
  refine wpAnyH_take (i := 1) (oi := ⟨_,_,_,_,_,_⟩) (v := ?vg1_2) rfl (by kernel_rfl) (by kernel_rfl) (by kernel_rfl) (fun _ _ _ h => h) (Or.inl ⟨by rfl,?hyg1_2⟩) (by assumption) ?restg1_2
  case hyg1_2 => (intro W hW; go_simp; try with_reducible rfl)
  try simp only [Act.put,List.setIfInBounds_toArray,List.set_cons_zero,List.set_cons_succ]
  refine wpAnyH_take (i := 2) (oi := ⟨_,_,_,_,_,_⟩) (v := ?vg1_3) rfl (by kernel_rfl) (by kernel_rfl) (by kernel_rfl) (fun _ _ _ h => h) (Or.inl ⟨by rfl,?hyg1_3⟩) (by assumption) ?restg1_3
  case hyg1_3 => (intro W hW; go_simp; try with_reducible rfl)
  try simp only [Act.put,List.setIfInBounds_toArray,List.set_cons_zero,List.set_cons_succ]
  refine wpAnyH_take (i := 3) (oi := ⟨_,_,_,_,_,_⟩) (v := ?vg1_4) rfl (by kernel_rfl) (by kernel_rfl) (by kernel_rfl) (fun _ _ _ h => h) (Or.inl ⟨by rfl,?hyg1_4⟩) (by assumption) ?restg1_4
  case hyg1_4 => (intro W hW; go_simp; try with_reducible rfl)
  try simp only [Act.put,List.setIfInBounds_toArray,List.set_cons_zero,List.set_cons_succ]
  refine wpAnyH_take (i := 5) (oi := ⟨_,_,_,_,_,_⟩) (v := ?vg1_5) rfl (by kernel_rfl) (by kernel_rfl) (by kernel_rfl) (fun _ _ _ h => h) (Or.inl ⟨by rfl,?hyg1_5⟩) (by assumption) ?restg1_5
  case hyg1_5 => (intro W hW; go_simp; try with_reducible rfl)
  try simp only [Act.put,List.setIfInBounds_toArray,List.set_cons_zero,List.set_cons_succ]
  refine wpAnyH_take (i := 6) (oi := ⟨_,_,_,_,_,_⟩) (v := ?vg1_6) rfl (by kernel_rfl) (by kernel_rfl) (by kernel_rfl) (fun _ _ _ h => h) (Or.inl ⟨by rfl,?hyg1_6⟩) (by assumption) ?restg1_6
  case hyg1_6 => (intro W hW; go_simp; try with_reducible rfl)
  try simp only [Act.put,List.setIfInBounds_toArray,List.set_cons_zero,List.set_cons_succ]
  refine wpAnyH_take (i := 7) (oi := ⟨_,_,_,_,_,_⟩) (v := ?vg1_7) rfl (by kernel_rfl) (by kernel_rfl) (by kernel_rfl) (fun _ _ _ h => h) (Or.inl ⟨by rfl,?hyg1_7⟩) (by assumption) ?restg1_7
  case hyg1_7 => (intro W hW; go_simp; try with_reducible rfl)
  try simp only [Act.put,List.setIfInBounds_toArray,List.set_cons_zero,List.set_cons_succ]
  refine wpAnyH_take (i := 4) (oi := ⟨_,_,_,_,_,_⟩) rfl (by kernel_rfl) (by kernel_rfl) (by kernel_rfl) (fun _ _ _ h => h) (Hs.takeI (by rfl) _ rfl p 137 rfl (m.length : Int) (fun W hW => hW.len)) (by assumption) ?restg1_8
  try simp only [Act.put,List.setIfInBounds_toArray,List.set_cons_zero,List.set_cons_succ]
  refine wpAnyH_take (i := 8) (oi := ⟨_,_,_,_,_,_⟩) rfl (by kernel_rfl) (by kernel_rfl) (by kernel_rfl) (fun _ _ _ h => h) (Hs.takeI (by rfl) _ rfl p 0 rfl (κ : Int) (fun W hW => hW.kindc)) (by assumption) ?restg1_9
  try simp only [Act.put,List.setIfInBounds_toArray,List.set_cons_zero,List.set_cons_succ]
  refine wpAnyH_ready (rs := [9]) (by kernel_rfl) (by simp) ?_
  refine AllReadyH.cons (o := ⟨_,_,_,_,_,_⟩) rfl (fun K hK => ?_) AllReadyH.nil
  go_simp
  refine Calls.mono (CP.out _) ?_
  rintro e2 w2 ⟨rfl,b2⟩
  have hC2 := hC1.below b2 hC1.lt
  have hI2 := hHeld0.below b2 hHeld0.lt
  have B2 := B1.trans (b2.mono B1.size)
  clear hC1 B1
  go_wp2_with fail
  refine hK.out _ _ (hI2) (fun hHeld1 => ?_)
  clear hK K hHeld0
  try simp only [Act.put,List.setIfInBounds_toArray,List.set_cons_zero,List.set_cons_succ]
  refine wpAnyH_ready (rs := [10]) (by kernel_rfl) (by simp) ?_
  refine AllReadyH.cons (o := ⟨_,_,_,_,_,_⟩) rfl (fun K hK => ?_) AllReadyH.nil
  go_simp
  refine Calls.mono (CQ.out _) ?_
  rintro e3 w3 ⟨rfl,b3⟩
  have hC3 := hC2.below b3 hC2.lt
  have hI3 := hI2.below b3 hI2.lt
  have B3 := B2.trans (b3.mono B2.size)
  clear hC2 hI2 B2
  go_wp2_with fail
  refine hK.out _ _ (hI3) (fun hHeld2 => ?_)
  clear hK K hHeld1
  try simp only [Act.put,List.setIfInBounds_toArray,List.set_cons_zero,List.set_cons_succ]
  refine wpAnyH_ready (rs := [11]) (by kernel_rfl) (by simp) ?_
  refine AllReadyH.cons (o := ⟨_,_,_,_,_,_⟩) rfl (fun K hK => ?_) AllReadyH.nil
  go_simp
  refine Calls.mono (CW.out _ hC3) ?_
  rintro e4 w4 ⟨rfl,hC4,b4⟩
  have hI4 := hI3.but b4 (Nat.ne_of_lt hp)
  have B4 := B3.trans (b4.toBelow (Nat.le_refl _) B3.size)
  clear hC3 hI3 B3
  go_wp2_with fail
  refine hK.out _ _ (hI4) (fun hHeld3 => ?_)
  clear hK K hHeld2
  try simp only [Act.put,List.setIfInBounds_toArray,List.set_cons_zero,List.set_cons_succ]
  refine wpAnyH_done (by kernel_rfl) ?_ _
  have CT := Hs.told_any w4 w.heap.size κ _ hC4
  rw [Hs.ba_list,Hs.sum_eq] at CT
  have CTH := Lib.hid CT
  clear CT hC4 hI4 hHeld3
  go_wp2_with fail
  refine CTH.out.mono ?_
  rintro e w5 ⟨rfl,b5⟩
  have B5 := B4.trans (b5.mono B4.size)
  go_wp2_with fail
  go_ret
  exact ⟨rfl,B5⟩
set_option maxHeartbeats 4000000 in
set_option maxRecDepth 100000 in
theorem Hs.sum_any (κ : Nat) (hκ : κ < 2) (s : ByteArray) (hs : s.size ≤ 1152921504606846000) (w : World) :
    Calls Tryz.prog 33 #[.int .i64 (κ : Int),.string s] w fun e w' => e = .returned (.string (Tx.ba (Hs.sum κ s.data.toList))) ∧ Below w.heap.size w w' := by
  have CO := Lib.hid (Hs.open_any κ hκ)
  have CW := Lib.hid (fun (W : World) (p : Nat) (hW : Hs.Is W p κ []) => Hs.Write_any W p κ [] s hW (by simp; omega))
  have CS := Lib.hid (fun (W : World) (p : Nat) (hW : Hs.Is W p κ s.data.toList) => Hs.Sum_any W p κ _ hW (by rw [Tx.len]; exact hs))
  go_enter Tryz.func33,Tryz.ntmps33
  go_wp2_with fail
  refine (CO.out w).mono ?_
  rintro e w1 ⟨p,rfl,hp,h1,b1⟩
  go_wp2_with fail
  refine (CW.out _ _ h1).mono ?_
  rintro e w2 ⟨rfl,h2,b2⟩
  rw [List.nil_append] at h2
  have B2 := b1.trans (b2.toBelow hp b1.size)
  go_wp2_with fail
  refine (CS.out _ _ h2).mono ?_
  rintro e w3 ⟨rfl,b3⟩
  have B3 := B2.trans (b3.mono B2.size)
  go_wp2_with fail
  go_ret
  exact ⟨rfl,B3⟩
set_option maxHeartbeats 4000000 in
set_option maxRecDepth 100000 in
theorem Hs.Sum256_any (s : ByteArray) (hs : s.size ≤ 1152921504606846000) (w : World) :
    Calls Tryz.prog 16 #[.string s] w fun e w' => e = .returned (.string (Tx.ba (Hs.sum 0 s.data.toList))) ∧ Below w.heap.size w w' := by
  have CS := Lib.hid (Hs.sum_any 0 (by decide) s hs)
  go_enter Tryz.func16,Tryz.ntmps16
  go_wp2_with fail
  refine (CS.out _).mono ?_
  rintro e w2 ⟨rfl,b2⟩
  go_wp2_with fail
  go_ret
  exact ⟨rfl,b2⟩
end
end Go.Proofs.YthlecdggkolgmaaGreatDoor
