/- NatShifts, the walk: bytes 0 behind a number. -/
import Derived.Test.YtkebbdidipjefaaDoorLwRoundsA
import Derived.Deep.RegionWith
namespace Go.Proofs.YtkebbdidipjefaaDoor
open Go.RowKit

/-- string([]byte{x, y}), string(make([]byte, 400)) in the orders that may be. -/
theorem Nt.conv2 (w : World) (b cap : Nat) (x y : UInt8) (T : TypeId) (h : w.heap[b]? = some (.cells #[Value.int .u8 (x.toNat : Int), Value.int .u8 (y.toNat : Int)] T (0, 0))) : (convert 34 9 (.slice (some ⟨b, 0, none⟩) 2 cap)).run Tryd.prog w = .ok (.string ⟨#[x, y]⟩) w := by
  refine run_convert_bytes_back (P := Tryd.prog) w _ _ _ _ cap [x, y] Tryd.underlying34 Tryd.underlying5 Tryd.underlying9 (fun j hj => ?_)
  have hj2 : j < 2 := hj
  have ea : ((⟨b, 0, none⟩ : Addr).add j) = ⟨b, 0 + j, none⟩ := by unfold Addr.add; split <;> simp_all
  rw [ea]
  match j, hj2 with
  | 0, _ => simp [World.cell?, h]
  | 1, _ => simp [World.cell?, h]
theorem Nt.convz (w : World) (b n : Nat) (T : TypeId) (h : w.heap[b]? = some (.cells (Array.replicate n (Value.int .u8 0)) T (0, 0))) : (convert 34 9 (.slice (some ⟨b, 0, none⟩) n n)).run Tryd.prog w = .ok (.string (Nt.zs n)) w := by
  have h2 := Nt.Byt.conv (w := w) (b := b) (cap := n) (f := fun _ => 0) (l := List.replicate n 0) (by rw [List.length_replicate]; exact Nt.Byt.zeroAt h) (fun j hj => by simp)
  rw [List.length_replicate] at h2
  exact h2
theorem Nt.and255 (x y : Nat) (h : x % 256 = y) : bits .and .i64 (x : Int) 255 = (y : Int) := by
  have h255 : (BitVec.ofInt 64 255).toNat = 2 ^ 8 - 1 := by decide
  have key : (BitVec.ofInt 64 (x : Int) &&& BitVec.ofInt 64 255).toNat = ((x : Int) % ((2 ^ 64 : Nat) : Int)).toNat % 2 ^ 8 := by
    rw [BitVec.toNat_and, BitVec.toNat_ofInt, h255, Nat.and_two_pow_sub_one_eq_mod]
  show IntKind.i64.wrap ((BitVec.ofInt 64 (x : Int) &&& BitVec.ofInt 64 255).toNat : Nat) = (y : Int)
  rw [key, IntKind.wrap_i64]
  omega
theorem Nt.mk8 (w : World) (n : Nat) (hn : n ≤ 10000000) : (Instr.makeSlice 34 (.int .i64 (n : Int)) (.int .i64 (n : Int))).run Tryd.prog w = .ok (.slice (some ⟨w.heap.size, 0, none⟩) n n) (w.alloc (.cells (Array.replicate n (Value.int .u8 0)) 5)) := by
  obtain ⟨i0, hi, hz0, hz1, hz2⟩ := info_parts Nt.info8
  have hr := run_make (P := Tryd.prog) w 34 5 i0 (.int .u8 0) Tryd.underlying34 hi hz0 .i64 .i64 (n : Int) (n : Int) (by omega) (by omega) (by rw [hz2]; omega) (by omega)
  rw [hz1] at hr
  simp only [Int.toNat_natCast] at hr
  rw [Nt.made8] at hr
  simpa using hr
namespace lwShifts

set_option maxHeartbeats 2000000 in
set_option maxRecDepth 100000 in
theorem zero (a z TU : ByteArray) (w : World) (ok : Nt.Ok w) (n : Nat) (hn : n ≤ 200) (ha : a.size ≤ 300) (hz : z = Nt.zs n)
    (MU : ∀ W, Nt.Ok W → Calls Tryd.prog 11 #[.string a, .string (⟨#[1]⟩ ++ z)] W fun e w' => e = .returned (.tuple #[.string TU, .int .i64 0]) ∧ Below W.heap.size W w')
    (DI : ∀ W, Nt.Ok W → Calls Tryd.prog 13 #[.string (a ++ z), .string (⟨#[1]⟩ ++ z)] W fun e w' => e = .returned (.tuple #[.string ⟨#[]⟩, .string ⟨#[]⟩, .int .i64 0]) ∧ Below W.heap.size W w')
    (TU1 : ∀ W, Calls Tryd.prog 12 #[.string (a ++ z)] W fun e w' => e = .returned (.string TU) ∧ w' = W)
    (TA1 : ∀ W, Calls Tryd.prog 12 #[.string a] W fun e w' => e = .returned (.string ⟨#[]⟩) ∧ w' = W)
    (BU : ∀ W, Calls Tryd.prog 16 #[.string (a ++ z)] W fun e w' => e = .returned (.int .i64 0) ∧ w' = W) :
    Calls Tryd.prog 5 #[.string a, .int .i64 (n : Int)] w fun e w' => e = .returned (.bool true) ∧ Below w.heap.size w w' := by
  have hn0 : ¬ (n : Int) < 0 := by omega
  have hnn : 0 ≤ (n : Int) := by omega
  have hn2 : ¬ (200 : Int) < (n : Int) := by omega
  have ha3 : ¬ (300 : Int) < (a.size : Int) := by omega
  have hnb : (n : Int) ≤ 200 := by omega
  have hnb2 : n ≤ 10000000 := by omega
  have hzs : z.size ≤ 200 := by rw [hz, Nt.zs_size]; exact hn
  have hcv := fun W => Nt.conv_zs W n
  rw [← hz] at hcv
  have H0 := Lib.hid (And.intro ok (Below.refl w.heap.size w))
  have MU := Lib.hid MU
  have DI := Lib.hid DI
  have TU1 := Lib.hid TU1
  have TA1 := Lib.hid TA1
  have BU := Lib.hid BU
  clear ok hz
  go_enter Tryd.func5, Tryd.ntmps5
  go_wp2_with fail
  go_at_call 8
  refine (Nt.fixed_any _ H0.out.1).mono ?_
  rintro e1 w1 ⟨rfl, hb⟩
  have H1 := Lib.hid (And.intro (H0.out.1.below hb) (H0.out.2.trans (hb.mono H0.out.2.size)))
  clear hb H0
  go_upto_region 6 with (at_make; refine Nt.wpList_make8 rfl _ _ rfl n rfl rfl hnb2 ?_)
  have hB := (Below.refl w1.heap.size w1).alloc (Nat.le_refl _) (Obj.cells (Array.replicate n (Value.int IntKind.u8 0)) 5)
  revert hB
  generalize w1.alloc (Obj.cells (Array.replicate n (Value.int IntKind.u8 0)) 5) = wz6
  intro hB
  have H2 := Lib.hid (And.intro (H1.out.1.below hB) (H1.out.2.trans (hB.mono H1.out.2.size)))
  clear hB H1
  go_upto_region 7 with (at_make; refine Nt.wpList_make8 rfl _ _ rfl n rfl rfl hnb2 ?_)
  have hB := (Below.refl wz6.heap.size wz6).alloc (Nat.le_refl _) (Obj.cells (Array.replicate n (Value.int IntKind.u8 0)) 5)
  revert hB
  generalize wz6.alloc (Obj.cells (Array.replicate n (Value.int IntKind.u8 0)) 5) = wz7
  intro hB
  have H3 := Lib.hid (And.intro (H2.out.1.below hB) (H2.out.2.trans (hB.mono H2.out.2.size)))
  clear hB H2
  go_wp2_with fail
  go_at_call 11
  refine (MU.out _ H3.out.1).mono ?_
  rintro e4 w4 ⟨rfl, hb⟩
  have H4 := Lib.hid (And.intro (H3.out.1.below hb) (H3.out.2.trans (hb.mono H3.out.2.size)))
  clear hb H3
  go_wp2_with fail
  go_at_call 13
  refine (DI.out _ H4.out.1).mono ?_
  rintro e5 w5 ⟨rfl, hb⟩
  have H5 := Lib.hid (And.intro (H4.out.1.below hb) (H4.out.2.trans (hb.mono H4.out.2.size)))
  clear hb H4
  go_wp2_with fail
  go_at_call 12
  refine (TU1.out _).mono ?_
  rintro e' w' ⟨rfl, rfl⟩
  go_wp2_with fail
  go_at_call 12
  refine (TA1.out _).mono ?_
  rintro e' w' ⟨rfl, rfl⟩
  go_wp2_with fail
  go_at_call 12
  refine (TA1.out _).mono ?_
  rintro e' w' ⟨rfl, rfl⟩
  go_wp2_with fail
  go_at_call 16
  refine (BU.out _).mono ?_
  rintro e' w' ⟨rfl, rfl⟩
  go_wp2_with fail
  go_ret
  exact ⟨rfl, H5.out.2⟩
set_option maxHeartbeats 2000000 in
set_option maxRecDepth 100000 in
theorem pos (a z TU TA z4 T2 T4 : ByteArray) (w : World) (ok : Nt.Ok w) (n : Nat) (hn : n ≤ 200) (ha : a.size ≤ 300) (hz : z = Nt.zs n) (hTA : TA ≠ ⟨#[]⟩) (hz4 : z4 = Nt.zs 400) (c1 c0 : UInt8) (Bt B1 Bu q0 q1 s1 : Nat) (r1 : Int) (hB1 : Bt - 1 = B1) (hBt : 0 < Bt) (hBtb : Bt ≤ 2400) (hc1 : c1.toNat = q1) (hc0 : c0.toNat = q0) (hq1 : B1 / 256 = q1) (hq0 : B1 % 256 = q0) (hs1 : 8 * n = s1) (hBu : Bt + s1 = Bu) (hr1 : r1 ≤ 0)
    (MU : ∀ W, Nt.Ok W → Calls Tryd.prog 11 #[.string a, .string (⟨#[1]⟩ ++ z)] W fun e w' => e = .returned (.tuple #[.string TU, .int .i64 0]) ∧ Below W.heap.size W w')
    (DI : ∀ W, Nt.Ok W → Calls Tryd.prog 13 #[.string (a ++ z), .string (⟨#[1]⟩ ++ z)] W fun e w' => e = .returned (.tuple #[.string TA, .string ⟨#[]⟩, .int .i64 0]) ∧ Below W.heap.size W w')
    (TU1 : ∀ W, Calls Tryd.prog 12 #[.string (a ++ z)] W fun e w' => e = .returned (.string TU) ∧ w' = W)
    (TA1 : ∀ W, Calls Tryd.prog 12 #[.string a] W fun e w' => e = .returned (.string TA) ∧ w' = W)
    (BA : ∀ W, Calls Tryd.prog 16 #[.string a] W fun e w' => e = .returned (.int .i64 (Bt : Int)) ∧ w' = W)
    (PO : ∀ W, Nt.Ok W → Calls Tryd.prog 15 #[.string ⟨#[2]⟩, .string ⟨#[c1, c0]⟩, .string (⟨#[1]⟩ ++ z4)] W fun e w' => e = .returned (.tuple #[.string T2, .int .i64 0]) ∧ Below W.heap.size W w')
    (AD : ∀ W, Nt.Ok W → Calls Tryd.prog 9 #[.string T2, .string T2] W fun e w' => e = .returned (.tuple #[.string T4, .int .i64 0]) ∧ Below W.heap.size W w')
    (BU : ∀ W, Calls Tryd.prog 16 #[.string (a ++ z)] W fun e w' => e = .returned (.int .i64 (Bu : Int)) ∧ w' = W)
    (C1 : ∀ W, Calls Tryd.prog 14 #[.string T2, .string a] W fun e w' => e = .returned (.int .i64 r1) ∧ w' = W)
    (C2 : ∀ W, Calls Tryd.prog 14 #[.string a, .string T4] W fun e w' => e = .returned (.int .i64 (-1)) ∧ w' = W) :
    Calls Tryd.prog 5 #[.string a, .int .i64 (n : Int)] w fun e w' => e = .returned (.bool true) ∧ Below w.heap.size w w' := by
  have hn0 : ¬ (n : Int) < 0 := by omega
  have hnn : 0 ≤ (n : Int) := by omega
  have hn2 : ¬ (200 : Int) < (n : Int) := by omega
  have ha3 : ¬ (300 : Int) < (a.size : Int) := by omega
  have hnb : (n : Int) ≤ 200 := by omega
  have hnb2 : n ≤ 10000000 := by omega
  have hzs : z.size ≤ 200 := by rw [hz, Nt.zs_size]; exact hn
  have hcv := fun W => Nt.conv_zs W n
  rw [← hz] at hcv
  have H0 := Lib.hid (And.intro ok (Below.refl w.heap.size w))
  have MU := Lib.hid MU
  have DI := Lib.hid DI
  have TU1 := Lib.hid TU1
  have TA1 := Lib.hid TA1
  have BA := Lib.hid BA
  have PO := Lib.hid PO
  have AD := Lib.hid AD
  have BU := Lib.hid BU
  have C1 := Lib.hid C1
  have C2 := Lib.hid C2
  clear ok hz
  have hn1 := Nt.toList_ne hTA
  have hn3 := Nt.toList_emp hTA
  have hn4 := Nt.toList_nil hTA
  have hB1z : (Bt : Int) - 1 = (B1 : Int) := by omega
  have hB10 : 0 ≤ (B1 : Int) := by omega
  have hB1b : (B1 : Int) ≤ 2400 := by omega
  have hsz : 8 * (n : Int) = (s1 : Int) := by omega
  have hBuz : (Bt : Int) + (s1 : Int) = (Bu : Int) := by omega
  have hBub : (Bu : Int) ≤ 4000 := by omega
  have hBtz : (Bt : Int) ≤ 2400 := by omega
  have hsb : (s1 : Int) ≤ 1600 := by omega
  have hq1b : q1 < 256 := by rw [← hc1]; exact c1.toNat_lt
  have hq0b : q0 < 256 := by rw [← hc0]; exact c0.toNat_lt
  have hsh : (B1 : Int) / 2 ^ 8 = (q1 : Int) := by omega
  have hsh2 : (B1 : Int) / 256 = (q1 : Int) := by omega
  have hand : bits .and .i64 (B1 : Int) 255 = (q0 : Int) := by
    exact Nt.and255 B1 q0 hq0
  go_enter Tryd.func5, Tryd.ntmps5
  go_wp2_with fail
  go_at_call 8
  refine (Nt.fixed_any _ H0.out.1).mono ?_
  rintro e1 w1 ⟨rfl, hb⟩
  have H1 := Lib.hid (And.intro (H0.out.1.below hb) (H0.out.2.trans (hb.mono H0.out.2.size)))
  clear hb H0
  go_upto_region 6 with (at_make; refine Nt.wpList_make8 rfl _ _ rfl n rfl rfl hnb2 ?_)
  have hB := (Below.refl w1.heap.size w1).alloc (Nat.le_refl _) (Obj.cells (Array.replicate n (Value.int IntKind.u8 0)) 5)
  revert hB
  generalize w1.alloc (Obj.cells (Array.replicate n (Value.int IntKind.u8 0)) 5) = wz6
  intro hB
  have H2 := Lib.hid (And.intro (H1.out.1.below hB) (H1.out.2.trans (hB.mono H1.out.2.size)))
  clear hB H1
  go_upto_region 7 with (at_make; refine Nt.wpList_make8 rfl _ _ rfl n rfl rfl hnb2 ?_)
  have hB := (Below.refl wz6.heap.size wz6).alloc (Nat.le_refl _) (Obj.cells (Array.replicate n (Value.int IntKind.u8 0)) 5)
  revert hB
  generalize wz6.alloc (Obj.cells (Array.replicate n (Value.int IntKind.u8 0)) 5) = wz7
  intro hB
  have H3 := Lib.hid (And.intro (H2.out.1.below hB) (H2.out.2.trans (hB.mono H2.out.2.size)))
  clear hB H2
  go_wp2_with fail
  go_at_call 11
  refine (MU.out _ H3.out.1).mono ?_
  rintro e4 w4 ⟨rfl, hb⟩
  have H4 := Lib.hid (And.intro (H3.out.1.below hb) (H3.out.2.trans (hb.mono H3.out.2.size)))
  clear hb H3
  go_wp2_with fail
  go_at_call 13
  refine (DI.out _ H4.out.1).mono ?_
  rintro e5 w5 ⟨rfl, hb⟩
  have H5 := Lib.hid (And.intro (H4.out.1.below hb) (H4.out.2.trans (hb.mono H4.out.2.size)))
  clear hb H4
  go_wp2_with fail
  go_at_call 12
  refine (TU1.out _).mono ?_
  rintro e' w' ⟨rfl, rfl⟩
  go_wp2_with fail
  go_at_call 12
  refine (TA1.out _).mono ?_
  rintro e' w' ⟨rfl, rfl⟩
  go_wp2_with fail
  go_at_call 12
  refine (TA1.out _).mono ?_
  rintro e' w' ⟨rfl, rfl⟩
  go_wp2_with fail
  go_at_call 16
  refine (BA.out _).mono ?_
  rintro e' w' ⟨rfl, rfl⟩
  go_wp2_with fail
  have hmk : ∀ W : World, (Instr.makeSlice 34 (.int .i64 400) (.int .i64 400)).run Tryd.prog W = .ok (.slice (some ⟨W.heap.size, 0, none⟩) 400 400) (W.alloc (.cells (Array.replicate 400 (Value.int .u8 0)) 5)) := fun W => Nt.mk8 W 400 (by decide)
  have k1 : IntKind.u8.wrap (q1 : Int) = (q1 : Int) := Nt.u8_eq _ _ (by omega)
  have k0 : IntKind.u8.wrap (q0 : Int) = (q0 : Int) := Nt.u8_eq _ _ (by omega)
  have k2 : IntKind.i64.wrap (B1 : Int) = (B1 : Int) := IntWalk.i64_in _ (by omega)
  have k3 : IntKind.i64.wrap (q1 : Int) = (q1 : Int) := IntWalk.i64_in _ (by omega)
  clear hcv
  have fe1 : (convert 34 9 (.slice (some ⟨w'.heap.size, 0, none⟩) 2 2)).run Tryd.prog ((w'.alloc (Obj.cells #[Value.int .u8 (q1 : Int), Value.int .u8 (q0 : Int)] 5)).drew) = .ok (.string ⟨#[c1, c0]⟩) ((w'.alloc (Obj.cells #[Value.int .u8 (q1 : Int), Value.int .u8 (q0 : Int)] 5)).drew) := (by have h := Nt.conv2 ((w'.alloc (Obj.cells #[Value.int .u8 (q1 : Int), Value.int .u8 (q0 : Int)] 5)).drew) w'.heap.size 2 c1 c0 5 (by rw [hc1, hc0]; exact heap_alloc_new (w') _); exact h)
  have fe2 : (convert 34 9 (.slice (some ⟨w'.heap.size, 0, none⟩) 2 2)).run Tryd.prog (((w'.alloc (Obj.cells #[Value.int .u8 (q1 : Int), Value.int .u8 (q0 : Int)] 5)).alloc (Obj.cells (Array.replicate 400 (Value.int IntKind.u8 0)) 5)).drew) = .ok (.string ⟨#[c1, c0]⟩) (((w'.alloc (Obj.cells #[Value.int .u8 (q1 : Int), Value.int .u8 (q0 : Int)] 5)).alloc (Obj.cells (Array.replicate 400 (Value.int IntKind.u8 0)) 5)).drew) := (by have h := Nt.conv2 (((w'.alloc (Obj.cells #[Value.int .u8 (q1 : Int), Value.int .u8 (q0 : Int)] 5)).alloc (Obj.cells (Array.replicate 400 (Value.int IntKind.u8 0)) 5)).drew) w'.heap.size 2 c1 c0 5 (by rw [hc1, hc0]; exact (Below.heap_alloc (w'.alloc (Obj.cells #[Value.int .u8 (q1 : Int), Value.int .u8 (q0 : Int)] 5)) _ _ (by simp)).trans (heap_alloc_new (w') _)); exact h)
  have fe3 : (convert 34 9 (.slice (some ⟨w'.heap.size + 1, 0, none⟩) 2 2)).run Tryd.prog (((w'.alloc (Obj.cells (Array.replicate 400 (Value.int IntKind.u8 0)) 5)).alloc (Obj.cells #[Value.int .u8 (q1 : Int), Value.int .u8 (q0 : Int)] 5)).drew) = .ok (.string ⟨#[c1, c0]⟩) (((w'.alloc (Obj.cells (Array.replicate 400 (Value.int IntKind.u8 0)) 5)).alloc (Obj.cells #[Value.int .u8 (q1 : Int), Value.int .u8 (q0 : Int)] 5)).drew) := (by have h := Nt.conv2 (((w'.alloc (Obj.cells (Array.replicate 400 (Value.int IntKind.u8 0)) 5)).alloc (Obj.cells #[Value.int .u8 (q1 : Int), Value.int .u8 (q0 : Int)] 5)).drew) (w'.heap.size + 1) 2 c1 c0 5 (by rw [hc1, hc0]; have g := heap_alloc_new (w'.alloc (Obj.cells (Array.replicate 400 (Value.int IntKind.u8 0)) 5)) (Obj.cells #[Value.int .u8 (q1 : Int), Value.int .u8 (q0 : Int)] 5); have g2 : ((w'.alloc (Obj.cells (Array.replicate 400 (Value.int IntKind.u8 0)) 5)).alloc (Obj.cells #[Value.int .u8 (q1 : Int), Value.int .u8 (q0 : Int)] 5)).heap[w'.heap.size + 1]? = some (.cells #[Value.int .u8 (q1 : Int), Value.int .u8 (q0 : Int)] 5 (0, 0)) := (by simpa using g); exact g2); exact h)
  have fe4 : (convert 34 9 (.slice (some ⟨w'.heap.size, 0, none⟩) 400 400)).run Tryd.prog ((w'.alloc (Obj.cells (Array.replicate 400 (Value.int IntKind.u8 0)) 5)).drew) = .ok (.string z4) ((w'.alloc (Obj.cells (Array.replicate 400 (Value.int IntKind.u8 0)) 5)).drew) := (by rw [hz4]; exact Nt.convz ((w'.alloc (Obj.cells (Array.replicate 400 (Value.int IntKind.u8 0)) 5)).drew) w'.heap.size 400 5 (heap_alloc_new (w') _))
  have fe5 : (convert 34 9 (.slice (some ⟨w'.heap.size, 0, none⟩) 400 400)).run Tryd.prog (((w'.alloc (Obj.cells (Array.replicate 400 (Value.int IntKind.u8 0)) 5)).alloc (Obj.cells #[Value.int .u8 (q1 : Int), Value.int .u8 (q0 : Int)] 5)).drew) = .ok (.string z4) (((w'.alloc (Obj.cells (Array.replicate 400 (Value.int IntKind.u8 0)) 5)).alloc (Obj.cells #[Value.int .u8 (q1 : Int), Value.int .u8 (q0 : Int)] 5)).drew) := (by rw [hz4]; exact Nt.convz (((w'.alloc (Obj.cells (Array.replicate 400 (Value.int IntKind.u8 0)) 5)).alloc (Obj.cells #[Value.int .u8 (q1 : Int), Value.int .u8 (q0 : Int)] 5)).drew) w'.heap.size 400 5 ((Below.heap_alloc (w'.alloc (Obj.cells (Array.replicate 400 (Value.int IntKind.u8 0)) 5)) _ _ (by simp)).trans (heap_alloc_new (w') _)))
  have fe6 : (convert 34 9 (.slice (some ⟨w'.heap.size + 1, 0, none⟩) 400 400)).run Tryd.prog (((w'.alloc (Obj.cells #[Value.int .u8 (q1 : Int), Value.int .u8 (q0 : Int)] 5)).alloc (Obj.cells (Array.replicate 400 (Value.int IntKind.u8 0)) 5)).drew) = .ok (.string z4) (((w'.alloc (Obj.cells #[Value.int .u8 (q1 : Int), Value.int .u8 (q0 : Int)] 5)).alloc (Obj.cells (Array.replicate 400 (Value.int IntKind.u8 0)) 5)).drew) := (by rw [hz4]; exact Nt.convz (((w'.alloc (Obj.cells #[Value.int .u8 (q1 : Int), Value.int .u8 (q0 : Int)] 5)).alloc (Obj.cells (Array.replicate 400 (Value.int IntKind.u8 0)) 5)).drew) (w'.heap.size + 1) 400 5 (by have g := heap_alloc_new (w'.alloc (Obj.cells #[Value.int .u8 (q1 : Int), Value.int .u8 (q0 : Int)] 5)) (Obj.cells (Array.replicate 400 (Value.int IntKind.u8 0)) 5); have g2 : ((w'.alloc (Obj.cells #[Value.int .u8 (q1 : Int), Value.int .u8 (q0 : Int)] 5)).alloc (Obj.cells (Array.replicate 400 (Value.int IntKind.u8 0)) 5)).heap[w'.heap.size + 1]? = some (.cells (Array.replicate 400 (Value.int .u8 0)) 5 (0, 0)) := (by simpa using g); exact g2))
  have hz4s : z4.size ≤ 400 := by rw [hz4, Nt.zs_size]; exact Nat.le_refl _
  clear hz4 hc1 hc0
  have hBB : ∀ X Y : Obj, Nt.Ok (((w'.alloc X).alloc Y).drew) ∧ Below w.heap.size w (((w'.alloc X).alloc Y).drew) := fun X Y => (by have hb := (((Below.refl w'.heap.size w').alloc (Nat.le_refl _) X).alloc (by simp) Y).drew; exact ⟨H5.out.1.below hb, H5.out.2.trans (hb.mono H5.out.2.size)⟩)
  have HK := Lib.hid hBB
  clear hBB
  go_region_with (go_at_call 15; refine (PO.out _ (HK.out _ _).1).mono ?_; rintro e5 w5 ⟨rfl, hb5⟩; have H99 := Lib.hid (And.intro ((HK.out _ _).1.below hb5) ((HK.out _ _).2.trans (hb5.mono (HK.out _ _).2.size))); clear hb5)
  all_goals
    go_wp2_with fail
    go_at_call 9
    refine (AD.out _ H99.out.1).mono ?_
    rintro e100 w100 ⟨rfl, hb⟩
    have H100 := Lib.hid (And.intro (H99.out.1.below hb) (H99.out.2.trans (hb.mono H99.out.2.size)))
    clear hb H99
    go_wp2_with fail
    go_at_call 16
    refine (BU.out _).mono ?_
    rintro e' w' ⟨rfl, rfl⟩
    go_wp2_with (go_at_call 14; (first | (with_reducible refine (C1.out _).mono ?_) | (with_reducible refine (C2.out _).mono ?_)); rintro e' w' ⟨rfl, rfl⟩)
    go_ret
    exact ⟨rfl, H100.out.2⟩
end lwShifts
end Go.Proofs.YtkebbdidipjefaaDoor
