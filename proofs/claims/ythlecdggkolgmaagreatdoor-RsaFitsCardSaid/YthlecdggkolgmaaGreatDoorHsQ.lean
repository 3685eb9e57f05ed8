/- What a state tells: told, of the other kind. -/
import Derived.Test.YthlecdggkolgmaaGreatDoorHsO
namespace Go.Proofs.YthlecdggkolgmaaGreatDoor
section
open Go.RowKit

theorem Hs.tell_snoc (f : Nat → UInt8) (k : Nat) : (List.range (k + 1)).map f = (List.range k).map f ++ [f k] := by rw [List.range_succ, List.map_append]; rfl
/-- How the memory lies while a state is told. -/
structure Hs.TLay (w : World) (pc : Array Value) (p κ : Nat) (v : Hs.V8) (R : Nat → Nat) (n q : Nat) (wr : World) : Prop where
  h : Hs.At wr p κ v R n
  pl : wr.heap[q]? = some (.cells pc 131 (0, 0))
  b : Below w.heap.size w wr
  lo : w.heap.size ≤ q
  hp : p < w.heap.size
  z : q + 1 ≤ wr.heap.size
theorem Hs.TLay.pcell {w wr : World} {pc : Array Value} {p κ n q : Nat} {v : Hs.V8} {R : Nat → Nat} (h : Hs.TLay w pc p κ v R n q wr) (j : Nat) (x : Value) (hv : pc[j]? = some x) : wr.cell? ⟨q, j, none⟩ = some x := by
  simp only [World.cell?, h.pl]; exact hv
theorem Hs.TLay.below {w wr wr' : World} {pc : Array Value} {p κ n q : Nat} {v : Hs.V8} {R : Nat → Nat} (h : Hs.TLay w pc p κ v R n q wr) (hb : Below wr.heap.size wr wr') : Hs.TLay w pc p κ v R n q wr' :=
  ⟨h.h.below hb h.h.lt, (hb.block q (by have := h.z; omega)).trans h.pl, h.b.trans (hb.mono (by have := h.lo; have := h.z; omega)), h.lo, h.hp, Nat.le_trans h.z hb.size⟩
theorem Hs.TLay.above {w wr wr' : World} {pc : Array Value} {p κ n q : Nat} {v : Hs.V8} {R : Nat → Nat} (h : Hs.TLay w pc p κ v R n q wr) (hb : Below (q + 1) wr wr') : Hs.TLay w pc p κ v R n q wr' :=
  ⟨h.h.below hb (by have := h.hp; have := h.lo; omega), (hb.block q (by omega)).trans h.pl, h.b.trans (hb.mono (by have := h.lo; omega)), h.lo, h.hp, Nat.le_trans h.z hb.size⟩
def Hs.tb (wb : Nat) (v : Hs.V8) (i : Nat) : UInt8 := UInt8.ofNat (v.get (i / wb) / 2 ^ (8 * (wb - 1 - i % wb)))
theorem Hs.tb_at (wb : Nat) (v : Hs.V8) (i k : Nat) (hk : k < wb) : (Hs.tb wb v (i * wb + k)).toNat = v.get i / 2 ^ (8 * (wb - 1 - k)) % 256 := by
  unfold Hs.tb
  rw [show (i * wb + k) / wb = i by rw [Nat.mul_comm, Nat.mul_add_div (by omega), Nat.div_eq_of_lt hk]; rfl, show (i * wb + k) % wb = k by rw [Nat.mul_comm, Nat.mul_add_mod, Nat.mod_eq_of_lt hk]]
  simp
set_option maxHeartbeats 4000000 in
set_option maxRecDepth 100000 in
theorem Hs.told0 (w : World) (p : Nat) (v : Hs.V8) (R : Nat → Nat) (n : Nat) (h : Hs.At w p 0 v R n) (hv : v.lt 32) :
    Calls Tryz.prog 86 #[.pointer (some ⟨p, 0, none⟩)] w fun e w' => e = .returned (.string (Tx.ba (Hs.tell 0 v))) ∧ Below w.heap.size w w' := by
  have CP := Lib.hid Hs.planOf0
  have kc := h.kind
  have hp := h.lt
  go_enter Tryz.func86, Tryz.ntmps86
  go_wp2_with fail
  refine (CP.out w).mono ?_
  rintro e w1 ⟨rfl, b1⟩
  have h1 := h.below b1 hp
  go_upto_region 2 with (refine wpList_store_row rfl 131 (.tmp 3) (.tmp 12) rfl w1.heap.size Hs.pc0 rfl rfl 131 _ (heap_alloc_new w1 _) Hs.infoP (by kernel_rfl) Hs.pcOk0 ?_; rw [World.setRow_alloc_new])
  have bA : Below w1.heap.size w1 (w1.alloc (.cells Hs.pc0 131)) := (Below.refl _ _).alloc (Nat.le_refl _) _
  have h2 := h1.below bA h1.lt
  have b2 := b1.trans (bA.mono b1.size)
  have hs2 : w.heap.size ≤ w1.heap.size := b1.size
  have hP : (w1.alloc (.cells Hs.pc0 131)).heap[w1.heap.size]? = some (.cells Hs.pc0 131 (0, 0)) := heap_alloc_new _ _
  obtain ⟨q, hq⟩ : ∃ q, w1.heap.size = q := ⟨_, rfl⟩
  have hz2 : (w1.alloc (.cells Hs.pc0 131)).heap.size = q + 1 := by simp [hq]
  rw [hq] at hP hs2 ⊢
  have HS := Hs.TLay.mk h2 hP b2 (show w.heap.size ≤ q from hs2) hp (Nat.le_of_eq hz2.symm)
  clear h2 hP bA h1 b1 hq b2 hz2 kc h
  generalize w1.alloc (.cells Hs.pc0 131) = w2 at HS ⊢
  have p0 := HS.pcell 0 (.int .i64 4) rfl
  have p1 := HS.pcell 1 (.int .i64 8) rfl
  go_wp2_with (at_make; refine Tx.make rfl _ _ rfl w2.heap.size 32 _ rfl rfl (by omega) (by omega) (Nat.le_refl _) ?_; intro v0 w0 hown0 hb0 hz0)
  have HS0 := HS.below hb0
  clear p0 p1
  have p0 := HS0.pcell 0 (.int .i64 4) rfl
  have p1 := HS0.pcell 1 (.int .i64 8) rfl
  go_quiet (fail)
  have HS1 := HS0.below (Hs.drewN_below w0 nq)
  have own1 : Tx.Own (w0.drewN nq) (q + 1) v0 [] := (hown0.mono HS.z).drewN nq
  clear p0 p1 HS0 hown0 hb0 hz0
  generalize w0.drewN nq = w3 at HS1 own1 ⊢
  go_wp2_with fail
  go_loopw [4, 26] (fun b iv wr => ∃ i : Nat, i ≤ 8 ∧ iv = .int .i64 (i : Int) ∧ Tx.Own wr (q + 1) b ((List.range (i * 4)).map (Hs.tb 4 v)) ∧ Hs.TLay w Hs.pc0 p 0 v R n q wr) (fun _ iv _ => 8 - (intOf iv).toNat)
  case atStart => exact ⟨0, by omega, rfl, own1, HS1⟩
  case round =>
    clear HS1 own1
    obtain ⟨i, hi, rfl, hown, hL⟩ := hrel
    obtain ⟨w4, rfl⟩ : ∃ w4, w4 = wr := ⟨_, rfl⟩
    by_cases hlt : i < 8
    · have hlz : (i : Int) < 8 := by omega
      have cs := hL.h.state i hlt
      have p0 := hL.pcell 0 (.int .i64 4) rfl
      have hx := hv i hlt
      go_wp2_with fail
      go_loopw [4, 32] (fun b kv wr => ∃ k : Nat, k ≤ 4 ∧ kv = .int .i64 (k : Int) ∧ Tx.Own wr (q + 1) b ((List.range (i * 4 + k)).map (Hs.tb 4 v)) ∧ Hs.TLay w Hs.pc0 p 0 v R n q wr) (fun _ kv _ => 4 - (intOf kv).toNat)
      case atStart => exact ⟨0, by omega, rfl, hown, hL⟩
      case round =>
        clear hL hown cs p0
        obtain ⟨k, hk, rfl, hown, hL⟩ := hrel
        obtain ⟨w5, rfl⟩ : ∃ w5, w5 = wr := ⟨_, rfl⟩
        by_cases hkl : k < 4
        · have hkz : (k : Int) < 4 := by omega
          have p0 := hL.pcell 0 (.int .i64 4) rfl
          have e1 : IntKind.i64.wrap (3 - (k : Int)) = ((3 - k : Nat) : Int) := by rw [IntWalk.i64_in _ (by omega)]; omega
          have e2 : IntKind.i64.wrap (8 * ((3 - k : Nat) : Int)) = ((8 * (3 - k) : Nat) : Int) := by rw [IntWalk.i64_in _ (by omega)]; omega
          have h1 : 0 ≤ ((8 * (3 - k) : Nat) : Int) := by omega
          obtain ⟨c, hc⟩ : ∃ c, Hs.tb 4 v (i * 4 + k) = c := ⟨_, rfl⟩
          have hcn := Hs.tb_at 4 v i k hkl
          rw [hc] at hcn
          have e3 : (v.get i : Int) / 2 ^ (8 * (3 - k)) % 256 = (c.toNat : Int) := by rw [hcn]; simp
          have HL : ((List.range (i * 4 + k)).map (Hs.tb 4 v)).length + [c].length ≤ 140737488355328 := by simp; omega
          have hsn : (List.range (i * 4 + (k + 1))).map (Hs.tb 4 v) = (List.range (i * 4 + k)).map (Hs.tb 4 v) ++ [c] := by rw [← hc]; exact Hs.tell_snoc _ _
          have HSN := Lib.hid hsn
          have HLH := Lib.hid HL
          clear hc hcn hsn HL
          have hz5 := hL.z
          go_wp2_with (at_builtin; refine Tx.append rfl _ _ rfl (q + 1) _ ((List.range (i * 4 + k)).map (Hs.tb 4 v)) rfl (hown.alloc _) ⟨w5.heap.size, 0, none⟩ 1 [c] rfl (World.news_of_block (heap_alloc_new w5 _)) HLH.out (by simp; omega) ?_; intro v1 w6 own6 b6 z6)
          have hL6 := (hL.below ((Below.refl _ _).alloc (Nat.le_refl _) _)).above b6
          rw [← HSN.out] at own6
          go_wp2_with fail
          exact ⟨⟨k + 1, by omega, by go_num, own6, hL6⟩, by simp [intOf]; omega⟩
        · obtain rfl : k = 4 := by omega
          go_wp2_with fail
          exact ⟨⟨i + 1, by omega, by go_num, by rw [Nat.add_mul, Nat.one_mul]; exact hown, hL⟩, by simp [intOf]; omega⟩
    · obtain rfl : i = 8 := by omega
      have hcv := hown.conv
      have hb := hL.b
      go_wp2_with fail
      go_ret
      exact ⟨rfl, hb⟩
end
section
open Go.RowKit

set_option maxHeartbeats 4000000 in
set_option maxRecDepth 100000 in
theorem Hs.told1 (w : World) (p : Nat) (v : Hs.V8) (R : Nat → Nat) (n : Nat) (h : Hs.At w p 1 v R n) (hv : v.lt 64) :
    Calls Tryz.prog 86 #[.pointer (some ⟨p, 0, none⟩)] w fun e w' => e = .returned (.string (Tx.ba (Hs.tell 1 v))) ∧ Below w.heap.size w w' := by
  have CP := Lib.hid Hs.planOf1
  have kc := h.kind
  have hp := h.lt
  go_enter Tryz.func86, Tryz.ntmps86
  go_wp2_with fail
  refine (CP.out w).mono ?_
  rintro e w1 ⟨rfl, b1⟩
  have h1 := h.below b1 hp
  go_upto_region 2 with (refine wpList_store_row rfl 131 (.tmp 3) (.tmp 12) rfl w1.heap.size Hs.pc1 rfl rfl 131 _ (heap_alloc_new w1 _) Hs.infoP (by kernel_rfl) Hs.pcOk1 ?_; rw [World.setRow_alloc_new])
  have bA : Below w1.heap.size w1 (w1.alloc (.cells Hs.pc1 131)) := (Below.refl _ _).alloc (Nat.le_refl _) _
  have h2 := h1.below bA h1.lt
  have b2 := b1.trans (bA.mono b1.size)
  have hs2 : w.heap.size ≤ w1.heap.size := b1.size
  have hP : (w1.alloc (.cells Hs.pc1 131)).heap[w1.heap.size]? = some (.cells Hs.pc1 131 (0, 0)) := heap_alloc_new _ _
  obtain ⟨q, hq⟩ : ∃ q, w1.heap.size = q := ⟨_, rfl⟩
  have hz2 : (w1.alloc (.cells Hs.pc1 131)).heap.size = q + 1 := by simp [hq]
  rw [hq] at hP hs2 ⊢
  have HS := Hs.TLay.mk h2 hP b2 (show w.heap.size ≤ q from hs2) hp (Nat.le_of_eq hz2.symm)
  clear h2 hP bA h1 b1 hq b2 hz2 kc h
  generalize w1.alloc (.cells Hs.pc1 131) = w2 at HS ⊢
  have p0 := HS.pcell 0 (.int .i64 8) rfl
  have p1 := HS.pcell 1 (.int .i64 6) rfl
  go_wp2_with (at_make; refine Tx.make rfl _ _ rfl w2.heap.size 48 _ rfl rfl (by omega) (by omega) (Nat.le_refl _) ?_; intro v0 w0 hown0 hb0 hz0)
  have HS0 := HS.below hb0
  clear p0 p1
  have p0 := HS0.pcell 0 (.int .i64 8) rfl
  have p1 := HS0.pcell 1 (.int .i64 6) rfl
  go_quiet (fail)
  have HS1 := HS0.below (Hs.drewN_below w0 nq)
  have own1 : Tx.Own (w0.drewN nq) (q + 1) v0 [] := (hown0.mono HS.z).drewN nq
  clear p0 p1 HS0 hown0 hb0 hz0
  generalize w0.drewN nq = w3 at HS1 own1 ⊢
  go_wp2_with fail
  go_loopw [4, 26] (fun b iv wr => ∃ i : Nat, i ≤ 6 ∧ iv = .int .i64 (i : Int) ∧ Tx.Own wr (q + 1) b ((List.range (i * 8)).map (Hs.tb 8 v)) ∧ Hs.TLay w Hs.pc1 p 1 v R n q wr) (fun _ iv _ => 6 - (intOf iv).toNat)
  case atStart => exact ⟨0, by omega, rfl, own1, HS1⟩
  case round =>
    clear HS1 own1
    obtain ⟨i, hi, rfl, hown, hL⟩ := hrel
    obtain ⟨w4, rfl⟩ : ∃ w4, w4 = wr := ⟨_, rfl⟩
    by_cases hlt : i < 6
    · have hlz : (i : Int) < 6 := by omega
      have cs := hL.h.state i (by omega)
      have p0 := hL.pcell 0 (.int .i64 8) rfl
      have hx := hv i (by omega)
      go_wp2_with fail
      go_loopw [4, 32] (fun b kv wr => ∃ k : Nat, k ≤ 8 ∧ kv = .int .i64 (k : Int) ∧ Tx.Own wr (q + 1) b ((List.range (i * 8 + k)).map (Hs.tb 8 v)) ∧ Hs.TLay w Hs.pc1 p 1 v R n q wr) (fun _ kv _ => 8 - (intOf kv).toNat)
      case atStart => exact ⟨0, by omega, rfl, hown, hL⟩
      case round =>
        clear hL hown cs p0
        obtain ⟨k, hk, rfl, hown, hL⟩ := hrel
        obtain ⟨w5, rfl⟩ : ∃ w5, w5 = wr := ⟨_, rfl⟩
        by_cases hkl : k < 8
        · have hkz : (k : Int) < 8 := by omega
          have p0 := hL.pcell 0 (.int .i64 8) rfl
          have e1 : IntKind.i64.wrap (7 - (k : Int)) = ((7 - k : Nat) : Int) := by rw [IntWalk.i64_in _ (by omega)]; omega
          have e2 : IntKind.i64.wrap (8 * ((7 - k : Nat) : Int)) = ((8 * (7 - k) : Nat) : Int) := by rw [IntWalk.i64_in _ (by omega)]; omega
          have h1 : 0 ≤ ((8 * (7 - k) : Nat) : Int) := by omega
          obtain ⟨c, hc⟩ : ∃ c, Hs.tb 8 v (i * 8 + k) = c := ⟨_, rfl⟩
          have hcn := Hs.tb_at 8 v i k hkl
          rw [hc] at hcn
          have e3 : (v.get i : Int) / 2 ^ (8 * (7 - k)) % 256 = (c.toNat : Int) := by rw [hcn]; simp
          have HL : ((List.range (i * 8 + k)).map (Hs.tb 8 v)).length + [c].length ≤ 140737488355328 := by simp; omega
          have hsn : (List.range (i * 8 + (k + 1))).map (Hs.tb 8 v) = (List.range (i * 8 + k)).map (Hs.tb 8 v) ++ [c] := by rw [← hc]; exact Hs.tell_snoc _ _
          have HSN := Lib.hid hsn
          have HLH := Lib.hid HL
          clear hc hcn hsn HL
          have hz5 := hL.z
          go_wp2_with (at_builtin; refine Tx.append rfl _ _ rfl (q + 1) _ ((List.range (i * 8 + k)).map (Hs.tb 8 v)) rfl (hown.alloc _) ⟨w5.heap.size, 0, none⟩ 1 [c] rfl (World.news_of_block (heap_alloc_new w5 _)) HLH.out (by simp; omega) ?_; intro v1 w6 own6 b6 z6)
          have hL6 := (hL.below ((Below.refl _ _).alloc (Nat.le_refl _) _)).above b6
          rw [← HSN.out] at own6
          go_wp2_with fail
          exact ⟨⟨k + 1, by omega, by go_num, own6, hL6⟩, by simp [intOf]; omega⟩
        · obtain rfl : k = 8 := by omega
          go_wp2_with fail
          exact ⟨⟨i + 1, by omega, by go_num, by rw [Nat.add_mul, Nat.one_mul]; exact hown, hL⟩, by simp [intOf]; omega⟩
    · obtain rfl : i = 6 := by omega
      have hcv := hown.conv
      have hb := hL.b
      go_wp2_with fail
      go_ret
      exact ⟨rfl, hb⟩
end
end Go.Proofs.YthlecdggkolgmaaGreatDoor
