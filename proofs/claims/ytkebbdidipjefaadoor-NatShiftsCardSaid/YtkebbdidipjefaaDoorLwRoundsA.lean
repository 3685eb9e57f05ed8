/- NatRounds, the walk: Montgomery's product undone. -/
import Derived.Test.YtkebbdidipjefaaDoorLwRingA
namespace Go.Proofs.YtkebbdidipjefaaDoor
open Go.RowKit

/-- n bytes 0. -/
def Nt.zs (n : Nat) : ByteArray := ⟨(List.replicate n 0).toArray⟩
theorem Nt.zs_size (n : Nat) : (Nt.zs n).size = n := by
  show (List.replicate n (0 : UInt8)).length = n
  simp
theorem Nt.conv_zs (w : World) (n : Nat) : (convert 34 9 (.slice (some ⟨w.heap.size, 0, none⟩) n n)).run Tryd.prog (w.alloc (.cells (Array.replicate n (Value.int .u8 0)) 5)) = .ok (.string (Nt.zs n)) (w.alloc (.cells (Array.replicate n (Value.int .u8 0)) 5)) := by
  have h := Nt.Byt.conv (w := w.alloc (.cells (Array.replicate n (Value.int .u8 0)) 5)) (b := w.heap.size) (cap := n) (f := fun _ => 0) (l := List.replicate n 0) (by rw [List.length_replicate]; exact Nt.Byt.zero w n) (fun j hj => by simp)
  rw [List.length_replicate] at h
  exact h
theorem Nt.nv_append (a b : ByteArray) : Nt.nv (a ++ b) = Nt.nv a * 256 ^ b.size + Nt.nv b := by
  unfold Nt.nv
  rw [show (a ++ b).data.toList = a.data.toList ++ b.data.toList by simp, Nt.rd_append, show b.data.toList.length = b.size by simp]
theorem Nt.nv_zs (n : Nat) : Nt.nv (Nt.zs n) = 0 := Nt.rd_zeros n
theorem Nt.nv_one (n : Nat) : Nt.nv (⟨#[1]⟩ ++ Nt.zs n) = 256 ^ n := by
  rw [Nt.nv_append, Nt.nv_zs, Nt.zs_size, show Nt.nv ⟨#[1]⟩ = 1 by decide +kernel, Nat.one_mul, Nat.add_zero]
theorem Nt.cancel (u v R md : Nat) (h : Nat.Coprime md R) (e : u * R % md = v * R % md) : u % md = v % md := by
  rcases Nat.le_total u v with hle | hle
  · have h1 := Nat.sub_mod_eq_zero_of_mod_eq e.symm
    rw [← Nat.sub_mul] at h1
    obtain ⟨z, hz⟩ := h.dvd_of_dvd_mul_right (Nat.dvd_of_mod_eq_zero h1)
    rw [show v = u + md * z by omega, Nat.add_mul_mod_self_left]
  · have h1 := Nat.sub_mod_eq_zero_of_mod_eq e
    rw [← Nat.sub_mul] at h1
    obtain ⟨z, hz⟩ := h.dvd_of_dvd_mul_right (Nat.dvd_of_mod_eq_zero h1)
    rw [show u = v + md * z by omega, Nat.add_mul_mod_self_left]
theorem Nt.odd_coprime (md k : Nat) (h : md % 2 = 1) : Nat.Coprime md (256 ^ k) := by
  refine Nat.Coprime.pow_right k ?_
  rw [show (256 : Nat) = 2 ^ 8 by rfl]
  refine Nat.Coprime.pow_right 8 ?_
  show Nat.gcd md 2 = 1
  rw [Nat.gcd_comm, Nat.gcd_rec, h]
  decide
/-- Mont, where the modulus is odd: the one number below it. -/
theorem Nt.Mont_eq (s t m : ByteArray) (hs : s.size ≤ 512) (ht : t.size ≤ 512) (hm : m.size ≤ 512) (hodd : Nt.nv m % 2 = 1) (V : Nat) (hV : Nt.nv s * Nt.nv t % Nt.nv m = V * 256 ^ Nt.by (Nt.nv m) % Nt.nv m) (W : World) (ok : Nt.Ok W) :
    Calls Tryd.prog 17 #[.string s, .string t, .string m] W fun e w' => e = .returned (.tuple #[.string (lwRing.F (V % Nt.nv m)), .int .i64 0]) ∧ Below W.heap.size W w' := by
  refine (Nt.Mont_ok W ok s t m hs ht hm).mono ?_
  rintro e w' ⟨R, K, rfl, hP, hb⟩
  rcases hP with ⟨h, _⟩ | ⟨_, h, _⟩ | ⟨_, h1, h2, rfl⟩
  · omega
  · omega
  · have h3 := Nt.cancel R V _ _ (Nt.odd_coprime _ _ hodd) (h2.trans hV)
    rw [Nat.mod_eq_of_lt h1] at h3
    rw [h3]
    exact ⟨rfl, hb⟩
namespace lwRounds

set_option maxHeartbeats 2000000 in
set_option maxRecDepth 100000 in
theorem core (a b m mt z rr X Y Z O K P q1 q2 : ByteArray) (w : World) (ok : Nt.Ok w) (L L1 ch s1 : Nat) (hz : z = Nt.zs L) (hL : mt.size = L) (hL0 : 0 < L) (hL1 : L - 1 = L1) (hL120 : L ≤ 120) (hch : ∀ h : L1 < mt.size, (mt[L1]).toNat = ch) (hodd : ch % 2 = 1) (hs1 : a.size + b.size = s1) (hs200 : s1 ≤ 200)
    (TT : ∀ W, Calls Tryd.prog 12 #[.string m] W fun e w' => e = .returned (.string mt) ∧ w' = W)
    (RR : ∀ W, Nt.Ok W → Calls Tryd.prog 11 #[.string (⟨#[1]⟩ ++ z), .string (⟨#[1]⟩ ++ z)] W fun e w' => e = .returned (.tuple #[.string rr, .int .i64 0]) ∧ Below W.heap.size W w')
    (XX : ∀ W, Nt.Ok W → Calls Tryd.prog 17 #[.string a, .string rr, .string mt] W fun e w' => e = .returned (.tuple #[.string X, .int .i64 0]) ∧ Below W.heap.size W w')
    (YY : ∀ W, Nt.Ok W → Calls Tryd.prog 17 #[.string b, .string rr, .string mt] W fun e w' => e = .returned (.tuple #[.string Y, .int .i64 0]) ∧ Below W.heap.size W w')
    (ZZ : ∀ W, Nt.Ok W → Calls Tryd.prog 17 #[.string X, .string Y, .string mt] W fun e w' => e = .returned (.tuple #[.string Z, .int .i64 0]) ∧ Below W.heap.size W w')
    (OO : ∀ W, Nt.Ok W → Calls Tryd.prog 17 #[.string Z, .string ⟨#[1]⟩, .string mt] W fun e w' => e = .returned (.tuple #[.string O, .int .i64 0]) ∧ Below W.heap.size W w')
    (BB : ∀ W, Nt.Ok W → Calls Tryd.prog 17 #[.string X, .string ⟨#[1]⟩, .string mt] W fun e w' => e = .returned (.tuple #[.string K, .int .i64 0]) ∧ Below W.heap.size W w')
    (PP : ∀ W, Nt.Ok W → Calls Tryd.prog 11 #[.string a, .string b] W fun e w' => e = .returned (.tuple #[.string P, .int .i64 0]) ∧ Below W.heap.size W w')
    (DD : ∀ W, Nt.Ok W → Calls Tryd.prog 13 #[.string P, .string mt] W fun e w' => e = .returned (.tuple #[.string q1, .string O, .int .i64 0]) ∧ Below W.heap.size W w')
    (EE : ∀ W, Nt.Ok W → Calls Tryd.prog 13 #[.string a, .string mt] W fun e w' => e = .returned (.tuple #[.string q2, .string K, .int .i64 0]) ∧ Below W.heap.size W w') :
    Calls Tryd.prog 7 #[.string a, .string b, .string m] w fun e w' => e = .returned (.bool true) ∧ Below w.heap.size w w' := by
  have hL1b : L1 < mt.size := by omega
  obtain ⟨c, hc⟩ : ∃ c, mt[L1] = c := ⟨_, rfl⟩
  have hcc := hch hL1b
  rw [hc] at hcc
  have hcb : ch < 256 := by rw [← hcc]; exact c.toNat_lt
  have hLz : (mt.size : Int) = (L : Int) := by rw [hL]
  have hL1z : (L : Int) - 1 = (L1 : Int) := by omega
  have hL1p : 0 ≤ (L1 : Int) := by omega
  have hL1q : (L1 : Int) < (L : Int) := by omega
  have hoz : (ch : Int) % 2 = 1 := by omega
  have hot : (ch : Int).tmod 2 = 1 := by rw [Int.tmod_eq_emod_of_nonneg (by omega)]; omega
  have h120 : ¬ (120 : Int) < (L : Int) := by omega
  have hs1z : (a.size : Int) + (b.size : Int) = (s1 : Int) := by omega
  have h200 : ¬ (200 : Int) < (s1 : Int) := by omega
  have hs1b : (s1 : Int) ≤ 200 := by omega
  have hLb : (L : Int) ≤ 120 := by omega
  have hLb2 : L ≤ 10000000 := by omega
  have hemp := Nt.toList_emp (s := mt) (by rintro rfl; exact absurd hL (by show ¬ 0 = L; omega))
  have hnil := Nt.toList_nil (s := mt) (by rintro rfl; exact absurd hL (by show ¬ 0 = L; omega))
  have hzs : z.size ≤ 120 := by rw [hz, Nt.zs_size]; exact hL120
  have H0 := Lib.hid (And.intro ok (Below.refl w.heap.size w))
  have TT := Lib.hid TT
  have RR := Lib.hid RR
  have XX := Lib.hid XX
  have YY := Lib.hid YY
  have ZZ := Lib.hid ZZ
  have OO := Lib.hid OO
  have BB := Lib.hid BB
  have PP := Lib.hid PP
  have DD := Lib.hid DD
  have EE := Lib.hid EE
  have hcv := fun W => Nt.conv_zs W L
  rw [← hz] at hcv
  clear ok hz hL hch hodd hs1 hs200
  go_enter Tryd.func7, Tryd.ntmps7
  go_wp2_with fail
  go_at_call 8
  refine (Nt.fixed_any _ H0.out.1).mono ?_
  rintro e1 w1 ⟨rfl, hb⟩
  have H1 := Lib.hid (And.intro (H0.out.1.below hb) (H0.out.2.trans (hb.mono H0.out.2.size)))
  clear hb H0
  go_wp2_with fail
  go_at_call 12
  refine (TT.out _).mono ?_
  rintro e' w' ⟨rfl, rfl⟩
  go_upto_region 7 with (at_make; refine Nt.wpList_make8 rfl _ _ rfl L rfl rfl hLb2 ?_)
  have hB := (Below.refl w'.heap.size w').alloc (Nat.le_refl _) (Obj.cells (Array.replicate L (Value.int IntKind.u8 0)) 5)
  clear hcv
  revert hB
  generalize w'.alloc (Obj.cells (Array.replicate L (Value.int IntKind.u8 0)) 5) = wz
  intro hB
  have H2 := Lib.hid (And.intro (H1.out.1.below hB) (H1.out.2.trans (hB.mono H1.out.2.size)))
  clear hB H1
  go_wp2_with fail
  go_at_call 11
  refine (RR.out _ H2.out.1).mono ?_
  rintro e3 w3 ⟨rfl, hb⟩
  have H3 := Lib.hid (And.intro (H2.out.1.below hb) (H2.out.2.trans (hb.mono H2.out.2.size)))
  clear hb H2
  go_wp2_with fail
  go_at_call 17
  refine (XX.out _ H3.out.1).mono ?_
  rintro e4 w4 ⟨rfl, hb⟩
  have H4 := Lib.hid (And.intro (H3.out.1.below hb) (H3.out.2.trans (hb.mono H3.out.2.size)))
  clear hb H3
  go_wp2_with fail
  go_at_call 17
  refine (YY.out _ H4.out.1).mono ?_
  rintro e5 w5 ⟨rfl, hb⟩
  have H5 := Lib.hid (And.intro (H4.out.1.below hb) (H4.out.2.trans (hb.mono H4.out.2.size)))
  clear hb H4
  go_wp2_with fail
  go_at_call 17
  refine (ZZ.out _ H5.out.1).mono ?_
  rintro e6 w6 ⟨rfl, hb⟩
  have H6 := Lib.hid (And.intro (H5.out.1.below hb) (H5.out.2.trans (hb.mono H5.out.2.size)))
  clear hb H5
  go_wp2_with fail
  go_at_call 17
  refine (OO.out _ H6.out.1).mono ?_
  rintro e7 w7 ⟨rfl, hb⟩
  have H7 := Lib.hid (And.intro (H6.out.1.below hb) (H6.out.2.trans (hb.mono H6.out.2.size)))
  clear hb H6
  go_wp2_with fail
  go_at_call 17
  refine (BB.out _ H7.out.1).mono ?_
  rintro e8 w8 ⟨rfl, hb⟩
  have H8 := Lib.hid (And.intro (H7.out.1.below hb) (H7.out.2.trans (hb.mono H7.out.2.size)))
  clear hb H7
  go_wp2_with fail
  go_at_call 11
  refine (PP.out _ H8.out.1).mono ?_
  rintro e9 w9 ⟨rfl, hb⟩
  have H9 := Lib.hid (And.intro (H8.out.1.below hb) (H8.out.2.trans (hb.mono H8.out.2.size)))
  clear hb H8
  go_wp2_with fail
  go_at_call 13
  refine (DD.out _ H9.out.1).mono ?_
  rintro e10 w10 ⟨rfl, hb⟩
  have H10 := Lib.hid (And.intro (H9.out.1.below hb) (H9.out.2.trans (hb.mono H9.out.2.size)))
  clear hb H9
  go_wp2_with fail
  go_at_call 13
  refine (EE.out _ H10.out.1).mono ?_
  rintro e11 w11 ⟨rfl, hb⟩
  have H11 := Lib.hid (And.intro (H10.out.1.below hb) (H10.out.2.trans (hb.mono H10.out.2.size)))
  clear hb H10
  go_wp2_with fail
  go_ret
  exact ⟨rfl, H11.out.2⟩
set_option maxHeartbeats 2000000 in
set_option maxRecDepth 100000 in
theorem none (a b m : ByteArray) (w : World) (ok : Nt.Ok w) 
    (TT : ∀ W, Calls Tryd.prog 12 #[.string m] W fun e w' => e = .returned (.string ⟨#[]⟩) ∧ w' = W) :
    Calls Tryd.prog 7 #[.string a, .string b, .string m] w fun e w' => e = .returned (.bool true) ∧ Below w.heap.size w w' := by
  have H0 := Lib.hid (And.intro ok (Below.refl w.heap.size w))
  have TT := Lib.hid TT
  clear ok
  go_enter Tryd.func7, Tryd.ntmps7
  go_wp2_with fail
  go_at_call 8
  refine (Nt.fixed_any _ H0.out.1).mono ?_
  rintro e1 w1 ⟨rfl, hb⟩
  have H1 := Lib.hid (And.intro (H0.out.1.below hb) (H0.out.2.trans (hb.mono H0.out.2.size)))
  clear hb H0
  go_wp2_with fail
  go_at_call 12
  refine (TT.out _).mono ?_
  rintro e' w' ⟨rfl, rfl⟩
  go_wp2_with fail
  go_ret
  exact ⟨rfl, H1.out.2⟩
set_option maxHeartbeats 2000000 in
set_option maxRecDepth 100000 in
theorem even (a b m mt : ByteArray) (w : World) (ok : Nt.Ok w) (L L1 ch s1 : Nat) (hL : mt.size = L) (hL0 : 0 < L) (hL1 : L - 1 = L1) (hLbig : L ≤ 140737488355328) (hch : ∀ h : L1 < mt.size, (mt[L1]).toNat = ch) (hs1 : a.size + b.size = s1) (hsbig : s1 ≤ 281474976710656) (hodd : ch % 2 = 0)
    (TT : ∀ W, Calls Tryd.prog 12 #[.string m] W fun e w' => e = .returned (.string mt) ∧ w' = W) :
    Calls Tryd.prog 7 #[.string a, .string b, .string m] w fun e w' => e = .returned (.bool true) ∧ Below w.heap.size w w' := by
  have hL1b : L1 < mt.size := by omega
  obtain ⟨c, hc⟩ : ∃ c, mt[L1] = c := ⟨_, rfl⟩
  have hcc := hch hL1b
  rw [hc] at hcc
  have hcb : ch < 256 := by rw [← hcc]; exact c.toNat_lt
  have hLz : (mt.size : Int) = (L : Int) := by rw [hL]
  have hL1z : (L : Int) - 1 = (L1 : Int) := by omega
  have hL1p : 0 ≤ (L1 : Int) := by omega
  have hL1q : (L1 : Int) < (L : Int) := by omega
  have hLb : (L : Int) ≤ 140737488355328 := by omega
  have hs1z : (a.size : Int) + (b.size : Int) = (s1 : Int) := by omega
  have hs1b : (s1 : Int) ≤ 281474976710656 := by omega
  have hemp := Nt.toList_emp (s := mt) (by rintro rfl; exact absurd hL (by show ¬ 0 = L; omega))
  have hnil := Nt.toList_nil (s := mt) (by rintro rfl; exact absurd hL (by show ¬ 0 = L; omega))
  have hoz : (ch : Int) % 2 = 0 := by omega
  have hot : (ch : Int).tmod 2 = 0 := by rw [Int.tmod_eq_emod_of_nonneg (by omega)]; omega
  have H0 := Lib.hid (And.intro ok (Below.refl w.heap.size w))
  have TT := Lib.hid TT
  clear ok hL hch hs1 hodd
  go_enter Tryd.func7, Tryd.ntmps7
  go_wp2_with fail
  go_at_call 8
  refine (Nt.fixed_any _ H0.out.1).mono ?_
  rintro e1 w1 ⟨rfl, hb⟩
  have H1 := Lib.hid (And.intro (H0.out.1.below hb) (H0.out.2.trans (hb.mono H0.out.2.size)))
  clear hb H0
  go_wp2_with fail
  go_at_call 12
  refine (TT.out _).mono ?_
  rintro e' w' ⟨rfl, rfl⟩
  go_wp2_with fail
  go_ret
  exact ⟨rfl, H1.out.2⟩
set_option maxHeartbeats 2000000 in
set_option maxRecDepth 100000 in
theorem wide (a b m mt : ByteArray) (w : World) (ok : Nt.Ok w) (L L1 ch s1 : Nat) (hL : mt.size = L) (hL0 : 0 < L) (hL1 : L - 1 = L1) (hLbig : L ≤ 140737488355328) (hch : ∀ h : L1 < mt.size, (mt[L1]).toNat = ch) (hs1 : a.size + b.size = s1) (hsbig : s1 ≤ 281474976710656) (hodd : ch % 2 = 1) (hw : 120 < L)
    (TT : ∀ W, Calls Tryd.prog 12 #[.string m] W fun e w' => e = .returned (.string mt) ∧ w' = W) :
    Calls Tryd.prog 7 #[.string a, .string b, .string m] w fun e w' => e = .returned (.bool true) ∧ Below w.heap.size w w' := by
  have hL1b : L1 < mt.size := by omega
  obtain ⟨c, hc⟩ : ∃ c, mt[L1] = c := ⟨_, rfl⟩
  have hcc := hch hL1b
  rw [hc] at hcc
  have hcb : ch < 256 := by rw [← hcc]; exact c.toNat_lt
  have hLz : (mt.size : Int) = (L : Int) := by rw [hL]
  have hL1z : (L : Int) - 1 = (L1 : Int) := by omega
  have hL1p : 0 ≤ (L1 : Int) := by omega
  have hL1q : (L1 : Int) < (L : Int) := by omega
  have hLb : (L : Int) ≤ 140737488355328 := by omega
  have hs1z : (a.size : Int) + (b.size : Int) = (s1 : Int) := by omega
  have hs1b : (s1 : Int) ≤ 281474976710656 := by omega
  have hemp := Nt.toList_emp (s := mt) (by rintro rfl; exact absurd hL (by show ¬ 0 = L; omega))
  have hnil := Nt.toList_nil (s := mt) (by rintro rfl; exact absurd hL (by show ¬ 0 = L; omega))
  have hoz : (ch : Int) % 2 = 1 := by omega
  have hot : (ch : Int).tmod 2 = 1 := by rw [Int.tmod_eq_emod_of_nonneg (by omega)]; omega
  have h120 : (120 : Int) < (L : Int) := by omega
  have H0 := Lib.hid (And.intro ok (Below.refl w.heap.size w))
  have TT := Lib.hid TT
  clear ok hL hch hs1 hodd
  go_enter Tryd.func7, Tryd.ntmps7
  go_wp2_with fail
  go_at_call 8
  refine (Nt.fixed_any _ H0.out.1).mono ?_
  rintro e1 w1 ⟨rfl, hb⟩
  have H1 := Lib.hid (And.intro (H0.out.1.below hb) (H0.out.2.trans (hb.mono H0.out.2.size)))
  clear hb H0
  go_wp2_with fail
  go_at_call 12
  refine (TT.out _).mono ?_
  rintro e' w' ⟨rfl, rfl⟩
  go_wp2_with fail
  go_ret
  exact ⟨rfl, H1.out.2⟩
set_option maxHeartbeats 2000000 in
set_option maxRecDepth 100000 in
theorem long (a b m mt : ByteArray) (w : World) (ok : Nt.Ok w) (L L1 ch s1 : Nat) (hL : mt.size = L) (hL0 : 0 < L) (hL1 : L - 1 = L1) (hLbig : L ≤ 140737488355328) (hch : ∀ h : L1 < mt.size, (mt[L1]).toNat = ch) (hs1 : a.size + b.size = s1) (hsbig : s1 ≤ 281474976710656) (hodd : ch % 2 = 1) (hw : L ≤ 120) (hl : 200 < s1)
    (TT : ∀ W, Calls Tryd.prog 12 #[.string m] W fun e w' => e = .returned (.string mt) ∧ w' = W) :
    Calls Tryd.prog 7 #[.string a, .string b, .string m] w fun e w' => e = .returned (.bool true) ∧ Below w.heap.size w w' := by
  have hL1b : L1 < mt.size := by omega
  obtain ⟨c, hc⟩ : ∃ c, mt[L1] = c := ⟨_, rfl⟩
  have hcc := hch hL1b
  rw [hc] at hcc
  have hcb : ch < 256 := by rw [← hcc]; exact c.toNat_lt
  have hLz : (mt.size : Int) = (L : Int) := by rw [hL]
  have hL1z : (L : Int) - 1 = (L1 : Int) := by omega
  have hL1p : 0 ≤ (L1 : Int) := by omega
  have hL1q : (L1 : Int) < (L : Int) := by omega
  have hLb : (L : Int) ≤ 140737488355328 := by omega
  have hs1z : (a.size : Int) + (b.size : Int) = (s1 : Int) := by omega
  have hs1b : (s1 : Int) ≤ 281474976710656 := by omega
  have hemp := Nt.toList_emp (s := mt) (by rintro rfl; exact absurd hL (by show ¬ 0 = L; omega))
  have hnil := Nt.toList_nil (s := mt) (by rintro rfl; exact absurd hL (by show ¬ 0 = L; omega))
  have hoz : (ch : Int) % 2 = 1 := by omega
  have hot : (ch : Int).tmod 2 = 1 := by rw [Int.tmod_eq_emod_of_nonneg (by omega)]; omega
  have h120 : ¬ (120 : Int) < (L : Int) := by omega
  have h200 : (200 : Int) < (s1 : Int) := by omega
  have H0 := Lib.hid (And.intro ok (Below.refl w.heap.size w))
  have TT := Lib.hid TT
  clear ok hL hch hs1 hodd
  go_enter Tryd.func7, Tryd.ntmps7
  go_wp2_with fail
  go_at_call 8
  refine (Nt.fixed_any _ H0.out.1).mono ?_
  rintro e1 w1 ⟨rfl, hb⟩
  have H1 := Lib.hid (And.intro (H0.out.1.below hb) (H0.out.2.trans (hb.mono H0.out.2.size)))
  clear hb H0
  go_wp2_with fail
  go_at_call 12
  refine (TT.out _).mono ?_
  rintro e' w' ⟨rfl, rfl⟩
  go_wp2_with fail
  go_ret
  exact ⟨rfl, H1.out.2⟩
theorem low (x : Nat) (m : ByteArray) (h0 : 0 < m.size) (hx : Nt.nv m = x) : x % 256 = (m[m.size - 1]).toNat := by
  have h := Nt.rd_val m.data.toList
  have hl : m.data.toList.length = m.size := by simp
  rw [hl] at h
  have hx2 : Nt.rd m.data.toList = x := hx
  obtain ⟨k, hk⟩ : ∃ k, m.size = 1 + k := ⟨m.size - 1, by omega⟩
  rw [hx2, hk] at h
  have e : ∀ (f : Nat → Nat) (k : Nat), (∀ j, f j < 256) → Vl.val 256 f (1 + k) % 256 = f 0 := fun f k hf => by
    induction k with
    | zero => simp [Vl.val, Nat.mod_eq_of_lt (hf 0)]
    | succ k ih =>
      rw [show 1 + (k + 1) = (1 + k) + 1 by omega, Vl.val, Nat.pow_add, Nat.pow_one, Nat.mul_left_comm, Nat.add_mul_mod_self_left]
      exact ih
  have h2 := e (Nt.lo m.data.toList) k (fun j => UInt8.toNat_lt _)
  rw [h] at h2
  rw [h2]
  unfold Nt.lo
  rw [hl, Nat.sub_zero, List.getD_eq_getElem?_getD, List.getElem?_eq_getElem (by rw [hl]; omega)]
  rfl
set_option maxRecDepth 100000 in
theorem walk (a b m : ByteArray) (w : World) (ok : Nt.Ok w) (za : a.size ≤ 140737488355328) (zb : b.size ≤ 140737488355328) (zc : m.size ≤ 140737488355328) :
    Calls Tryd.prog 7 #[.string a, .string b, .string m] w fun e w' => e = .returned (.bool true) ∧ Below w.heap.size w w' := by
  obtain ⟨md, hmd⟩ : ∃ md, Nt.nv m = md := ⟨_, rfl⟩
  have hT := fun W => Nt.Trim_any W m
  have hsz := Nt.ts_size m
  have hle : Nt.by (Nt.nv m) ≤ m.size := Nt.by_le _ _ (Nt.nv_lt m)
  have hnv : Nt.nv (Nt.ts m) = md := by rw [lwRing.ts_F, lwRing.nvF, hmd]
  rw [hmd] at hsz hle
  by_cases h0 : md = 0
  · have e : Nt.ts m = ⟨#[]⟩ := by rw [lwRing.ts_F, hmd, h0]; rfl
    rw [e] at hT
    exact none a b m w ok hT
  obtain ⟨L, hL⟩ : ∃ L, (Nt.ts m).size = L := ⟨_, rfl⟩
  have hby : Nt.by md = L := by rw [← hL, hsz]
  have hL0 : 0 < L := by
    rcases Nat.eq_zero_or_pos L with h | h
    · have := Nt.by_lt md
      rw [hby, h] at this
      omega
    · exact h
  have hlow := low md (Nt.ts m) (by omega) hnv
  obtain ⟨L1, hL1⟩ : ∃ L1, L - 1 = L1 := ⟨_, rfl⟩
  obtain ⟨ch, hch0⟩ : ∃ ch, md % 256 = ch := ⟨_, rfl⟩
  have hch : ∀ h : L1 < (Nt.ts m).size, ((Nt.ts m)[L1]).toNat = ch := fun h => by
    rw [← hch0, hlow]
    congr 2
    omega
  obtain ⟨s1, hs1⟩ : ∃ s1, a.size + b.size = s1 := ⟨_, rfl⟩
  by_cases hodd : ch % 2 = 0
  · exact even a b m (Nt.ts m) w ok L L1 ch s1 hL hL0 hL1 (by omega) hch hs1 (by omega) hodd hT
  by_cases hw : 120 < L
  · exact wide a b m (Nt.ts m) w ok L L1 ch s1 hL hL0 hL1 (by omega) hch hs1 (by omega) (by omega) hw hT
  by_cases hl : 200 < s1
  · exact long a b m (Nt.ts m) w ok L L1 ch s1 hL hL0 hL1 (by omega) hch hs1 (by omega) (by omega) (by omega) hl hT
  have ha : a.size ≤ 512 := by omega
  have hb : b.size ≤ 512 := by omega
  have hm : (Nt.ts m).size ≤ 512 := by omega
  have hmo : Nt.nv (Nt.ts m) % 2 = 1 := by rw [hnv]; omega
  obtain ⟨G, hG⟩ : ∃ G, 256 ^ L = G := ⟨_, rfl⟩
  have hr1 : Nt.nv (⟨#[1]⟩ ++ Nt.zs L) = G := by rw [Nt.nv_one, hG]
  have hrs : (⟨#[1]⟩ ++ Nt.zs L : ByteArray).size ≤ 512 := by rw [ByteArray.size_append, Nt.zs_size]; show 1 + L ≤ 512; omega
  have hF : ∀ x, x < md → (lwRing.F x).size ≤ 512 := fun x hx => Nat.le_trans (lwRing.F_le x L (by rw [← hby]; exact Nat.lt_trans hx (Nt.by_lt md))) (by omega)
  have hlt : ∀ x, x % md < md := fun x => Nat.mod_lt _ (by omega)
  have hM := fun s t hs ht V hV W hW => Nt.Mont_eq s t (Nt.ts m) hs ht hm hmo V hV W hW
  rw [hnv, hby, hG] at hM
  have hone : (⟨#[1]⟩ : ByteArray).size ≤ 512 := by decide
  have hn1 : Nt.nv ⟨#[1]⟩ = 1 := by decide +kernel
  have hrr : (lwRing.F (G * G)).size ≤ 512 := Nat.le_trans (lwRing.F_le _ (2 * L + 1) (by
    rw [← hG, ← Nat.pow_add, show L + L = 2 * L by omega]
    exact Nat.pow_lt_pow_right (by decide) (by omega))) (by omega)
  have hfold : ∀ x y, (x % md) * y % md = x * y % md := fun x y => by rw [Nat.mod_mul_mod]
  have hP : (lwRing.F (Nt.nv a * Nt.nv b)).size ≤ 512 := by have := lwRing.F_prod a b; omega
  refine core a b m (Nt.ts m) (Nt.zs L) (lwRing.F (G * G)) (lwRing.F (Nt.nv a * G % md)) (lwRing.F (Nt.nv b * G % md)) (lwRing.F (Nt.nv a * Nt.nv b * G % md)) (lwRing.F (Nt.nv a * Nt.nv b % md)) (lwRing.F (Nt.nv a % md)) (lwRing.F (Nt.nv a * Nt.nv b)) (lwRing.F (Nt.nv a * Nt.nv b / md)) (lwRing.F (Nt.nv a / md)) w ok L L1 ch s1 rfl hL hL0 hL1 (by omega) hch (by omega) hs1 (by omega) hT ?_ ?_ ?_ ?_ ?_ ?_ (fun W hW => Nt.Mul_ok W hW a b ha hb) ?_ ?_
  · intro W hW
    have h := Nt.Mul_ok W hW (⟨#[1]⟩ ++ Nt.zs L) (⟨#[1]⟩ ++ Nt.zs L) hrs hrs
    rw [hr1] at h
    exact h
  · intro W hW
    exact hM a (lwRing.F (G * G)) ha hrr (Nt.nv a * G) (by rw [lwRing.nvF, Nat.mul_assoc]) W hW
  · intro W hW
    exact hM b (lwRing.F (G * G)) hb hrr (Nt.nv b * G) (by rw [lwRing.nvF, Nat.mul_assoc]) W hW
  · intro W hW
    exact hM (lwRing.F (Nt.nv a * G % md)) (lwRing.F (Nt.nv b * G % md)) (hF _ (hlt _)) (hF _ (hlt _)) (Nt.nv a * Nt.nv b * G) (by
      rw [lwRing.nvF, lwRing.nvF, ← Nat.mul_mod]
      congr 1
      rw [Nat.mul_assoc (Nt.nv a), Nat.mul_assoc (Nt.nv a), Nat.mul_assoc (Nt.nv a), Nat.mul_left_comm G, Nat.mul_assoc (Nt.nv b)]) W hW
  · intro W hW
    exact hM (lwRing.F (Nt.nv a * Nt.nv b * G % md)) ⟨#[1]⟩ (hF _ (hlt _)) hone (Nt.nv a * Nt.nv b) (by rw [lwRing.nvF, hn1, Nat.mul_one, Nat.mod_mod]) W hW
  · intro W hW
    exact hM (lwRing.F (Nt.nv a * G % md)) ⟨#[1]⟩ (hF _ (hlt _)) hone (Nt.nv a) (by rw [lwRing.nvF, hn1, Nat.mul_one, Nat.mod_mod]) W hW
  · intro W hW
    have h := Nt.Div_ok W hW (lwRing.F (Nt.nv a * Nt.nv b)) (Nt.ts m) hP hm
    rw [lwRing.nvF, hnv, if_neg h0, if_neg h0] at h
    exact h
  · intro W hW
    have h := Nt.Div_ok W hW a (Nt.ts m) ha hm
    rw [hnv, if_neg h0, if_neg h0] at h
    exact h
end lwRounds
end Go.Proofs.YtkebbdidipjefaaDoor
