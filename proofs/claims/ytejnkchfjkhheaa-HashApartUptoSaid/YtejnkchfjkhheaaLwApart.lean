/- HashApart: hashes of both kinds, and clones, written by turns, do not disturb one another. Where the input's bulk is at most 1048576. -/
import Derived.Test.YtejnkchfjkhheaaHsK
namespace Go.Proofs.Ytejnkchfjkhheaa
open Go.ChangeShapes Go.WideShapes Go.ChangeAt Go.RowKit

theorem Hs.takeConv {ops : Array Oper} {S : World → Prop} {op : Oper} {a : Act} (hw : Region.wanted op (yielded ops a.tmps) = true) (x : Operand) (ho : op.op = .convert 38 9 x)
    (v : Value) (hx : a.eval x = v) (p : ByteArray) (hS : ∀ W, S W → (convert 38 9 v).run Try.prog W = .ok (.string p) W) : YieldsIf Try.prog ops S op (.string p) a :=
  .inl ⟨hw, fun W hW => by
    have hr := hS W hW
    rw [← hx] at hr
    unfold execOp
    simp only [ho]
    simp [hr, Result.andThen]⟩
namespace lwApart
structure M5 (bc bd : Nat) (pa pb c d h1 h2 : Nat) (x7 x8 : Value) (E O : List UInt8) (W : World) : Prop where
  ia : Hs.Is W pa 0 E
  ib : Hs.Is W pb 1 O
  ic : ∃ m, Hs.Is W c 0 m ∧ m.length ≤ bc
  id : ∃ m, Hs.Is W d 1 m ∧ m.length ≤ bd
  r1 : Hs.Row W h1 x7 E
  r2 : Hs.Row W h2 x8 O
/-- Six blocks apart. -/
structure Ne (pa pb c d h1 h2 : Nat) : Prop where
  ab : pa ≠ pb
  a1 : pa ≠ h1
  a2 : pa ≠ h2
  b1 : pb ≠ h1
  b2 : pb ≠ h2
  r : h1 ≠ h2
  ca : c ≠ pa
  cb : c ≠ pb
  c1 : c ≠ h1
  c2 : c ≠ h2
  da : d ≠ pa
  db : d ≠ pb
  d1 : d ≠ h1
  d2 : d ≠ h2
  cd : c ≠ d
section
variable {bc bd be pa pb c d h1 h2 : Nat} {x7 x8 : Value} {E O : List UInt8} {W W' : World}
theorem M5.below (h : M5 bc bd pa pb c d h1 h2 x7 x8 E O W) (hb : Below W.heap.size W W') : M5 bc bd pa pb c d h1 h2 x7 x8 E O W' := by
  obtain ⟨m, hm, lm⟩ := h.ic
  obtain ⟨q, hq, lq⟩ := h.id
  exact ⟨h.ia.below hb h.ia.lt, h.ib.below hb h.ib.lt, ⟨m, hm.below hb hm.lt, lm⟩, ⟨q, hq.below hb hq.lt, lq⟩, h.r1.below hb h.r1.lt, h.r2.below hb h.r2.lt⟩
theorem M5.writeC (h : M5 bc bd pa pb c d h1 h2 x7 x8 E O W) (n : Ne pa pb c d h1 h2) (i : ∃ m, Hs.Is W' c 0 m ∧ m.length ≤ be) (hb : Hs.But c W W') : M5 be bd pa pb c d h1 h2 x7 x8 E O W' := by
  obtain ⟨q, hq, lq⟩ := h.id
  exact ⟨h.ia.but hb n.ca.symm, h.ib.but hb n.cb.symm, i, ⟨q, hq.but hb n.cd.symm, lq⟩, h.r1.but hb n.c1.symm, h.r2.but hb n.c2.symm⟩
theorem M5.writeD (h : M5 bc bd pa pb c d h1 h2 x7 x8 E O W) (n : Ne pa pb c d h1 h2) (i : ∃ m, Hs.Is W' d 1 m ∧ m.length ≤ be) (hb : Hs.But d W W') : M5 bc be pa pb c d h1 h2 x7 x8 E O W' := by
  obtain ⟨q, hq, lq⟩ := h.ic
  exact ⟨h.ia.but hb n.da.symm, h.ib.but hb n.db.symm, ⟨q, hq.but hb n.cd, lq⟩, i, h.r1.but hb n.d1.symm, h.r2.but hb n.d2.symm⟩
/-- The same, between a write and the append that goes with it. -/
structure M4 (bc bd : Nat) (pa pb c d h1 h2 : Nat) (x7 x8 : Value) (Ea Eo E O : List UInt8) (W : World) : Prop where
  ia : Hs.Is W pa 0 Ea
  ib : Hs.Is W pb 1 Eo
  ic : ∃ m, Hs.Is W c 0 m ∧ m.length ≤ bc
  id : ∃ m, Hs.Is W d 1 m ∧ m.length ≤ bd
  r1 : Hs.Row W h1 x7 E
  r2 : Hs.Row W h2 x8 O
theorem M5.wA {E' : List UInt8} (h : M5 bc bd pa pb c d h1 h2 x7 x8 E O W) (n : Ne pa pb c d h1 h2) (i : Hs.Is W' pa 0 E') (hb : Hs.But pa W W') : M4 bc bd pa pb c d h1 h2 x7 x8 E' O E O W' := by
  obtain ⟨q, hq, lq⟩ := h.ic
  obtain ⟨r, hr, lr⟩ := h.id
  exact ⟨i, h.ib.but hb n.ab.symm, ⟨q, hq.but hb n.ca, lq⟩, ⟨r, hr.but hb n.da, lr⟩, h.r1.but hb n.a1.symm, h.r2.but hb n.a2.symm⟩
theorem M5.wB {O' : List UInt8} (h : M5 bc bd pa pb c d h1 h2 x7 x8 E O W) (n : Ne pa pb c d h1 h2) (i : Hs.Is W' pb 1 O') (hb : Hs.But pb W W') : M4 bc bd pa pb c d h1 h2 x7 x8 E O' E O W' := by
  obtain ⟨q, hq, lq⟩ := h.ic
  obtain ⟨r, hr, lr⟩ := h.id
  exact ⟨h.ia.but hb n.ab, i, ⟨q, hq.but hb n.cb, lq⟩, ⟨r, hr.but hb n.db, lr⟩, h.r1.but hb n.b1.symm, h.r2.but hb n.b2.symm⟩
theorem M4.append1 {E' : List UInt8} {g : Nat} {y : Value} (h : M4 bc bd pa pb c d h1 h2 x7 x8 E' O E O W) (n : Ne pa pb c d h1 h2) (r : Hs.Row W' g y E') (hg : g = h1 ∨ g = W.heap.size) (hb : Hs.But h1 W W') :
    Ne pa pb c d g h2 ∧ M5 bc bd pa pb c d g h2 y x8 E' O W' := by
  obtain ⟨q, hq, lq⟩ := h.ic
  obtain ⟨u, hu, lu⟩ := h.id
  have la := h.ia.lt
  have lb := h.ib.lt
  have lc := hq.lt
  have ld := hu.lt
  have l2 := h.r2.lt
  refine ⟨?_, h.ia.but hb n.a1, h.ib.but hb n.b1, ⟨q, hq.but hb n.c1, lq⟩, ⟨u, hu.but hb n.d1, lu⟩, r, h.r2.but hb n.r.symm⟩
  rcases hg with rfl | rfl
  · exact n
  · exact ⟨n.ab, by omega, n.a2, by omega, n.b2, by omega, n.ca, n.cb, by omega, n.c2, n.da, n.db, by omega, n.d2, n.cd⟩
theorem M4.append2 {O' : List UInt8} {g : Nat} {y : Value} (h : M4 bc bd pa pb c d h1 h2 x7 x8 E O' E O W) (n : Ne pa pb c d h1 h2) (r : Hs.Row W' g y O') (hg : g = h2 ∨ g = W.heap.size) (hb : Hs.But h2 W W') :
    Ne pa pb c d h1 g ∧ M5 bc bd pa pb c d h1 g x7 y E O' W' := by
  obtain ⟨q, hq, lq⟩ := h.ic
  obtain ⟨u, hu, lu⟩ := h.id
  have la := h.ia.lt
  have lb := h.ib.lt
  have lc := hq.lt
  have ld := hu.lt
  have l1 := h.r1.lt
  refine ⟨?_, h.ia.but hb n.a2, h.ib.but hb n.b2, ⟨q, hq.but hb n.c2, lq⟩, ⟨u, hu.but hb n.d2, lu⟩, h.r1.but hb n.r, r⟩
  rcases hg with rfl | rfl
  · exact n
  · exact ⟨n.ab, n.a1, by omega, n.b1, by omega, by omega, n.ca, n.cb, n.c1, by omega, n.da, n.db, n.d1, by omega, n.cd⟩
end
structure Lp (w : World) (pa pb h1 h2 : Nat) (x7 x8 : Value) (E O : List UInt8) (wr : World) : Prop where
  ia : Hs.Is wr pa 0 E
  ib : Hs.Is wr pb 1 O
  r1 : Hs.Row wr h1 x7 E
  r2 : Hs.Row wr h2 x8 O
  ab : pa ≠ pb
  a1 : pa ≠ h1
  a2 : pa ≠ h2
  b1 : pb ≠ h1
  b2 : pb ≠ h2
  r : h1 ≠ h2
  lpa : w.heap.size ≤ pa
  lpb : w.heap.size ≤ pb
  l1 : w.heap.size ≤ h1
  l2 : w.heap.size ≤ h2
  B : Below w.heap.size w wr
theorem spoilt (W : World) (p κ : Nat) (h : ∃ m, Hs.Is W p κ m ∧ m.length ≤ 1048576) :
    Calls Try.prog 17 #[.pointer (some ⟨p, 0, none⟩), .string ⟨#[115, 112, 111, 105, 108, 116]⟩] W fun e w' => e = .returned (.tuple #[]) ∧ (∃ m, Hs.Is w' p κ m ∧ m.length ≤ 1048582) ∧ Hs.But p W w' := by
  obtain ⟨m, h, hm⟩ := h
  refine (Hs.Write_any W p κ m ⟨#[115, 112, 111, 105, 108, 116]⟩ h (by show m.length + 6 ≤ _; omega)).mono ?_
  rintro e w' ⟨rfl, hI, hb⟩
  exact ⟨rfl, ⟨_, hI, by rw [List.length_append]; show m.length + 6 ≤ _; omega⟩, hb⟩
theorem some_sum (W : World) (p κ : Nat) (m : List UInt8) (h : Hs.Is W p κ m) (hm : m.length ≤ 2000000) :
    Calls Try.prog 18 #[.pointer (some ⟨p, 0, none⟩)] W fun e w' => (∃ X : ByteArray, e = .returned (.string X) ∧ X.toList.isEmpty = false) ∧ Below W.heap.size W w' := by
  refine (Hs.Sum_any W p κ m h (by omega)).mono ?_
  rintro e w' ⟨rfl, hb⟩
  refine ⟨⟨_, rfl, ?_⟩, hb⟩
  rw [ByteArray.toList_eq, Hs.ba_list, List.isEmpty_eq_false_iff, ← List.length_pos_iff, Hs.sum_length]
  have hk := h.kind
  obtain rfl | rfl : κ = 0 ∨ κ = 1 := by omega
  · decide
  · decide
set_option maxHeartbeats 8000000 in
set_option maxRecDepth 100000 in
theorem walk (a : Option Addr) (n cap : Nat) (l : List ByteArray) (w : World) (hS : Hs.StrsAt w a n l) (hn : n ≤ cap) (hcm : cap ≤ 9223372036854775807) (ht : Hs.total l ≤ 1048576) :
    Calls Try.prog 10 #[.slice a n cap] w fun e w' => e = .returned (.bool true) ∧ Below w.heap.size w w' := by
  have DN0 := Lib.hid Hs.New0
  have DN1 := Lib.hid Hs.New1
  have CC := Lib.hid Hs.Clone_any
  have CWA := Lib.hid (fun (W : World) (p : Nat) (s : ByteArray) (m : List UInt8) (hW : Hs.Is W p 0 m) (hs : m.length + s.size ≤ 1152921504606846975) => Hs.Write_any W p 0 m s hW hs)
  have CWB := Lib.hid (fun (W : World) (p : Nat) (s : ByteArray) (m : List UInt8) (hW : Hs.Is W p 1 m) (hs : m.length + s.size ≤ 1152921504606846975) => Hs.Write_any W p 1 m s hW hs)
  have CZ := Lib.hid Hs.Size_any
  go_enter Try.func10, Try.ntmps10
  go_wp2_with fail
  refine (DN0.out w).mono ?_
  rintro e w1 ⟨pa, rfl, hpa, i1, b1⟩
  go_wp2_with fail
  refine (DN1.out _).mono ?_
  rintro e w2 ⟨pb, rfl, hpb, j2, b2⟩
  have i2 := i1.below b2 i1.lt
  have B2 := b1.trans (b2.mono b1.size)
  have hab : pa ≠ pb := Nat.ne_of_lt (Nat.lt_of_lt_of_le i1.lt hpb)
  have hwpb : w.heap.size ≤ pb := Nat.le_trans b1.size hpb
  go_wp2_with fail
  refine (Hs.fixed_any _).mono ?_
  rintro e w3 ⟨rfl, b3⟩
  have i3 := i2.below b3 i2.lt
  have j3 := j2.below b3 j2.lt
  have B3 := B2.trans (b3.mono B2.size)
  clear i1 i2 j2 b1 b2 b3 B2
  go_wp2_with fail
  have bA : Below w3.heap.size w3 ((w3.alloc (.cells #[] 5)).alloc (.cells #[] 5)) := ((Below.refl _ _).alloc (Nat.le_refl _) _).alloc (by simp) _
  have hz : (w3.alloc (.cells #[] 5)).heap.size = w3.heap.size + 1 := by simp
  have q2 := Hs.Row.nil (w3.alloc (.cells #[] 5))
  have q1 := (Hs.Row.nil w3).below ((Below.refl (w3.alloc (.cells #[] 5)).heap.size (w3.alloc (.cells #[] 5))).alloc (Nat.le_refl _) (.cells #[] 5)) (by simp)
  rw [hz] at q2
  have la := i3.lt
  have lb := j3.lt
  have hLp : Lp w pa pb w3.heap.size (w3.heap.size + 1) (.slice (some ⟨w3.heap.size, 0, none⟩) 0 0) (.slice (some ⟨w3.heap.size + 1, 0, none⟩) 0 0) [] [] ((w3.alloc (.cells #[] 5)).alloc (.cells #[] 5)) :=
    ⟨i3.below bA i3.lt, j3.below bA j3.lt, q1, q2, hab, by omega, by omega, by omega, by omega, by omega, hpa, hwpb, B3.size, by have := B3.size; omega, B3.trans (bA.mono B3.size)⟩
  clear bA hz q1 q2 la lb i3 j3 B3 hpb hwpb hab hpa
  generalize w3.heap.size = z1 at hLp ⊢
  generalize (w3.alloc (.cells #[] 5)).alloc (.cells #[] 5) = w4 at hLp ⊢
  go_loopw [7, 8, 9] (fun x7 x8 iv wr => ∃ (k : Nat) (E O : List UInt8) (h1 h2 : Nat), k ≤ n ∧ iv = .int .i64 (k : Int) ∧ E.length + O.length ≤ Hs.total (l.take k) ∧ Lp w pa pb h1 h2 x7 x8 E O wr) (fun _ _ iv _ => n - (intOf iv).toNat)
  case atStart => exact ⟨0, [], [], z1, z1 + 1, by omega, rfl, by simp, hLp⟩
  case round =>
  clear hLp
  obtain ⟨k, E, O, h1, h2, hk, rfl, hEO, hL⟩ := hrel
  obtain ⟨w5, rfl⟩ : ∃ w5, w5 = wr := ⟨_, rfl⟩
  have htk := Hs.total_le l k
  by_cases hlt : k < n
  · have hkz : (k : Int) < (n : Int) := by omega
    obtain ⟨s, hs⟩ : ∃ s, l[k]? = some s := ⟨_, List.getElem?_eq_getElem (by rw [hS.len]; exact hlt)⟩
    have hts := Hs.total_take l k s hs
    have htl := Hs.total_le l (k + 1)
    obtain ⟨b0, off0, rfl, hb0, hc00⟩ := hS.cell k s hs
    go_wp2_with fail
    refine (CC.out _ _ _ _ hL.ia).mono ?_
    rintro e w1 ⟨rfl, ic1, b1⟩
    obtain ⟨c, hc⟩ : ∃ c, w5.heap.size = c := ⟨_, rfl⟩
    have hb1 := hL.ib.below b1 hL.ib.lt
    have hcw0 : w.heap.size ≤ c := by rw [← hc]; exact hL.B.size
    go_wp2_with fail
    refine (CC.out _ _ _ _ hb1).mono ?_
    rintro e w2 ⟨rfl, id2, b2⟩
    obtain ⟨d, hd⟩ : ∃ d, w1.heap.size = d := ⟨_, rfl⟩
    have B2 := b1.trans (b2.mono b1.size)
    have B3 := hL.B.trans (B2.mono hL.B.size)
    have hdw0 : w.heap.size ≤ d := by rw [← hd]; exact Nat.le_trans hL.B.size b1.size
    have M3 : M5 1048576 1048576 pa pb c d h1 h2 u7 u8 E O w2 := by
      rw [← hc, ← hd]
      exact ⟨hL.ia.below B2 hL.ia.lt, hL.ib.below B2 hL.ib.lt, ⟨E, ic1.below b2 ic1.lt, by omega⟩, ⟨O, id2, by omega⟩, hL.r1.below B2 hL.r1.lt, hL.r2.below B2 hL.r2.lt⟩
    have NE : Ne pa pb c d h1 h2 := by
      have t1 := hL.ia.lt
      have t2 := hL.ib.lt
      have t3 := hL.r1.lt
      have t4 := hL.r2.lt
      have t5 := ic1.lt
      exact ⟨hL.ab, hL.a1, hL.a2, hL.b1, hL.b2, hL.r, by omega, by omega, by omega, by omega, by omega, by omega, by omega, by omega, by omega⟩
    have hc0 := (B3.cell (p := ⟨b0, off0 + k, none⟩) hb0).trans hc00
    have CA := Lib.hid (fun (W : World) (p : Nat) (m : List UInt8) (hW : Hs.Is W p 0 m) (hm : m.length ≤ 2000000) => Hs.Sum_any W p 0 m hW (by omega))
    have CB := Lib.hid (fun (W : World) (p : Nat) (m : List UInt8) (hW : Hs.Is W p 1 m) (hm : m.length ≤ 2000000) => Hs.Sum_any W p 1 m hW (by omega))
    have C2 := Lib.hid (fun (m : List UInt8) (hm : m.length ≤ 2000000) (W : World) => (show Calls Try.prog 20 #[.string (Tx.ba m)] W fun e w' => e = .returned (.string (Tx.ba (Hs.sum 0 m))) ∧ Below W.heap.size W w' from Hs.Sum256_any (Tx.ba m) (by rw [Hs.ba_size]; omega) W))
    have C3 := Lib.hid (fun (m : List UInt8) (hm : m.length ≤ 2000000) (W : World) => (show Calls Try.prog 22 #[.string (Tx.ba m)] W fun e w' => e = .returned (.string (Tx.ba (Hs.sum 1 m))) ∧ Below W.heap.size W w' from Hs.Sum384_any (Tx.ba m) (by rw [Hs.ba_size]; omega) W))
    have CW2 := Lib.hid (fun (W : World) (p : Nat) (h : ∃ m, Hs.Is W p 0 m ∧ m.length ≤ 1048576) => spoilt W p 0 h)
    have CW3 := Lib.hid (fun (W : World) (p : Nat) (h : ∃ m, Hs.Is W p 1 m ∧ m.length ≤ 1048576) => spoilt W p 1 h)
    have CA2 := Lib.hid (fun (W : World) (p : Nat) (m : List UInt8) (hW : Hs.Is W p 0 m) (hm : m.length ≤ 2000000) => some_sum W p 0 m hW hm)
    have CB2 := Lib.hid (fun (W : World) (p : Nat) (m : List UInt8) (hW : Hs.Is W p 1 m) (hm : m.length ≤ 2000000) => some_sum W p 1 m hW hm)
    have lc3 := M3.ic
    have ld3 := M3.id
    clear ic1 id2 b1 b2 hb1 B2
    by_cases hev : k % 2 = 0
    · have tp : Int.tmod (k : Int) 2 = 0 := by rw [Int.tmod_eq_emod_of_nonneg (by omega)]; omega
      go_wp2_with fail
      refine (CWA.out _ _ s _ M3.ia (by omega)).mono ?_
      rintro e w4 ⟨rfl, i4, b4⟩
      have B4 := B3.trans (b4.toBelow hL.lpa B3.size)
      have M4 := M3.wA NE i4 b4
      have hc4 := (B4.cell (p := ⟨b0, off0 + k, none⟩) hb0).trans hc00
      clear M3 B3 b4 i4
      go_wp2_with (at_builtin; refine Hs.appendS rfl _ _ rfl _ _ E rfl M4.r1 s rfl (by omega) ?_; intro y w5 g' r5 hg' b5)
      have B5 := B4.trans (b5.toBelow hL.l1 B4.size)
      obtain ⟨NE5, M5h⟩ := M4.append1 NE r5 hg' b5
      have hgl : w.heap.size ≤ g' := by
        rcases hg' with rfl | rfl
        · exact hL.l1
        · exact B4.size
      clear M4 B4 b5 r5 hg'
      obtain ⟨E2, hE2⟩ : ∃ E2, (E ++ s.data.toList) = E2 := ⟨_, rfl⟩
      obtain ⟨O2, hO2⟩ : ∃ O2, O = O2 := ⟨_, rfl⟩
      have lE2 : E2.length + O2.length ≤ Hs.total (l.take (k + 1)) := by
        rw [Hs.total_take l k s hs, ← hE2, ← hO2]
        simp only [List.length_append, Tx.len]
        omega
      have lk2 := Hs.total_le l (k + 1)
      rw [hE2] at M5h
      rw [hO2] at M5h
      go_wp2_with fail
      refine (CW2.out _ _ M5h.ic).mono ?_
      rintro e w6 ⟨rfl, ic6, b6⟩
      have B6 := B5.trans (b6.toBelow hcw0 B5.size)
      have M6 := M5h.writeC NE5 ic6 b6
      clear M5h B5 b6 ic6
      go_wp2_with fail
      refine (CW3.out _ _ M6.id).mono ?_
      rintro e w7 ⟨rfl, id7, b7⟩
      have B7 := B6.trans (b7.toBelow hdw0 B6.size)
      have hM7 := M6.writeD NE5 id7 b7
      clear M6 B6 b7 id7
      go_wp2_with fail
      refine wp_region_held_drew (S := fun W => M5 1048582 1048582 pa pb c d g' h2 y u8 E2 O2 W) (by kernel_rfl) (hM7.below (below_drewN (Below.refl _ _) 1)) (fun hHeld0 => ?_)
      have M := hM7.below (below_drewN (Below.refl _ _) 1)
      have B7d := B7.trans ((below_drewN (Below.refl w7.heap.size w7) 1).mono B7.size)
      clear hM7 B7
      refine wpAnyH_take (i := 0) (oi := ⟨_, _, _, _, _, _⟩) (v := ?vg1_1) rfl (by kernel_rfl) (by kernel_rfl) (by kernel_rfl) (fun _ _ _ h => h) (Or.inl ⟨by rfl, ?hyg1_1⟩) (by assumption) ?restg1_1
      case hyg1_1 => (intro W hW; go_simp; try with_reducible rfl)
      try simp only [Act.put, List.setIfInBounds_toArray, List.set_cons_zero, List.set_cons_succ]
      refine wpAnyH_take (i := 2) (oi := ⟨_, _, _, _, _, _⟩) (v := ?vg1_2) rfl (by kernel_rfl) (by kernel_rfl) (by kernel_rfl) (fun _ _ _ h => h) (Or.inl ⟨by rfl, ?hyg1_2⟩) (by assumption) ?restg1_2
      case hyg1_2 => (intro W hW; go_simp; try with_reducible rfl)
      try simp only [Act.put, List.setIfInBounds_toArray, List.set_cons_zero, List.set_cons_succ]
      refine wpAnyH_take (i := 3) (oi := ⟨_, _, _, _, _, _⟩) rfl (by kernel_rfl) (by kernel_rfl) (by kernel_rfl) (fun _ _ _ h => h) (Hs.takeConv (by rfl) _ rfl y rfl (Tx.ba E2) (fun W hW => hW.r1.conv)) (by assumption) ?restg1_3
      try simp only [Act.put, List.setIfInBounds_toArray, List.set_cons_zero, List.set_cons_succ]
      refine wpAnyH_ready (rs := [1]) (by kernel_rfl) (by simp) ?_
      refine AllReadyH.cons (o := ⟨_, _, _, _, _, _⟩) rfl (fun K hK => ?_) AllReadyH.nil
      go_simp
      refine Calls.mono (CA.out _ _ _ M.ia (by omega)) ?_
      rintro e8 w8 ⟨rfl, b8⟩
      have M8 := M.below b8
      have B8 := B7d.trans (b8.mono B7d.size)
      clear M B7d
      go_wp2_with fail
      refine hK.out _ _ (M8) (fun hHeld1 => ?_)
      clear hK K hHeld0
      try simp only [Act.put, List.setIfInBounds_toArray, List.set_cons_zero, List.set_cons_succ]
      refine wpAnyH_ready (rs := [4]) (by kernel_rfl) (by simp) ?_
      refine AllReadyH.cons (o := ⟨_, _, _, _, _, _⟩) rfl (fun K hK => ?_) AllReadyH.nil
      go_simp
      refine Calls.mono (C2.out E2 (by omega) _) ?_
      rintro e9 w9 ⟨rfl, b9⟩
      have M9 := M8.below b9
      have B9 := B8.trans (b9.mono B8.size)
      clear M8 B8
      go_wp2_with fail
      refine hK.out _ _ (M9) (fun hHeld2 => ?_)
      clear hK K hHeld1
      try simp only [Act.put, List.setIfInBounds_toArray, List.set_cons_zero, List.set_cons_succ]
      refine wpAnyH_take (i := 5) (oi := ⟨_, _, _, _, _, _⟩) (v := ?vg1_4) rfl (by kernel_rfl) (by kernel_rfl) (by kernel_rfl) (fun _ _ _ h => h) (Or.inl ⟨by rfl, ?hyg1_4⟩) (by assumption) ?restg1_4
      case hyg1_4 => (intro W hW; go_simp; try with_reducible rfl)
      try simp only [Act.put, List.setIfInBounds_toArray, List.set_cons_zero, List.set_cons_succ]
      refine wpAnyH_take (i := 6) (oi := ⟨_, _, _, _, _, _⟩) (v := ?vg1_5) rfl (by kernel_rfl) (by kernel_rfl) (by kernel_rfl) (fun _ _ _ h => h) (Or.inl ⟨by rfl, ?hyg1_5⟩) (by assumption) ?restg1_5
      case hyg1_5 => (intro W hW; go_simp; try with_reducible rfl)
      try simp only [Act.put, List.setIfInBounds_toArray, List.set_cons_zero, List.set_cons_succ]
      refine wpAnyH_take (i := 7) (oi := ⟨_, _, _, _, _, _⟩) (v := ?vg1_6) rfl (by kernel_rfl) (by kernel_rfl) (by kernel_rfl) (fun _ _ _ h => h) (Or.inl ⟨by rfl, ?hyg1_6⟩) (by assumption) ?restg1_6
      case hyg1_6 => (intro W hW; go_simp; try with_reducible rfl)
      try simp only [Act.put, List.setIfInBounds_toArray, List.set_cons_zero, List.set_cons_succ]
      refine wpAnyH_take (i := 9) (oi := ⟨_, _, _, _, _, _⟩) (v := ?vg1_7) rfl (by kernel_rfl) (by kernel_rfl) (by kernel_rfl) (fun _ _ _ h => h) (Or.inl ⟨by rfl, ?hyg1_7⟩) (by assumption) ?restg1_7
      case hyg1_7 => (intro W hW; go_simp; try with_reducible rfl)
      try simp only [Act.put, List.setIfInBounds_toArray, List.set_cons_zero, List.set_cons_succ]
      refine wpAnyH_take (i := 10) (oi := ⟨_, _, _, _, _, _⟩) rfl (by kernel_rfl) (by kernel_rfl) (by kernel_rfl) (fun _ _ _ h => h) (Hs.takeConv (by rfl) _ rfl u8 rfl (Tx.ba O2) (fun W hW => hW.r2.conv)) (by assumption) ?restg1_8
      try simp only [Act.put, List.setIfInBounds_toArray, List.set_cons_zero, List.set_cons_succ]
      refine wpAnyH_ready (rs := [8]) (by kernel_rfl) (by simp) ?_
      refine AllReadyH.cons (o := ⟨_, _, _, _, _, _⟩) rfl (fun K hK => ?_) AllReadyH.nil
      go_simp
      refine Calls.mono (CB.out _ _ _ M9.ib (by omega)) ?_
      rintro e10 w10 ⟨rfl, b10⟩
      have M10 := M9.below b10
      have B10 := B9.trans (b10.mono B9.size)
      clear M9 B9
      go_wp2_with fail
      refine hK.out _ _ (M10) (fun hHeld3 => ?_)
      clear hK K hHeld2
      try simp only [Act.put, List.setIfInBounds_toArray, List.set_cons_zero, List.set_cons_succ]
      refine wpAnyH_ready (rs := [11]) (by kernel_rfl) (by simp) ?_
      refine AllReadyH.cons (o := ⟨_, _, _, _, _, _⟩) rfl (fun K hK => ?_) AllReadyH.nil
      go_simp
      refine Calls.mono (C3.out O2 (by omega) _) ?_
      rintro e11 w11 ⟨rfl, b11⟩
      have M11 := M10.below b11
      have B11 := B10.trans (b11.mono B10.size)
      obtain ⟨mc, hmc, lmc⟩ := M11.ic
      clear M10 B10
      go_wp2_with fail
      refine hK.out _ _ (M11) (fun hHeld4 => ?_)
      clear hK K hHeld3
      try simp only [Act.put, List.setIfInBounds_toArray, List.set_cons_zero, List.set_cons_succ]
      refine wpAnyH_take (i := 12) (oi := ⟨_, _, _, _, _, _⟩) (v := ?vg1_9) rfl (by kernel_rfl) (by kernel_rfl) (by kernel_rfl) (fun _ _ _ h => h) (Or.inl ⟨by rfl, ?hyg1_9⟩) (by assumption) ?restg1_9
      case hyg1_9 => (intro W hW; go_simp; try with_reducible rfl)
      try simp only [Act.put, List.setIfInBounds_toArray, List.set_cons_zero, List.set_cons_succ]
      refine wpAnyH_take (i := 13) (oi := ⟨_, _, _, _, _, _⟩) (v := ?vg1_10) rfl (by kernel_rfl) (by kernel_rfl) (by kernel_rfl) (fun _ _ _ h => h) (Or.inl ⟨by rfl, ?hyg1_10⟩) (by assumption) ?restg1_10
      case hyg1_10 => (intro W hW; go_simp; try with_reducible rfl)
      try simp only [Act.put, List.setIfInBounds_toArray, List.set_cons_zero, List.set_cons_succ]
      refine wpAnyH_take (i := 14) (oi := ⟨_, _, _, _, _, _⟩) (v := ?vg1_11) rfl (by kernel_rfl) (by kernel_rfl) (by kernel_rfl) (fun _ _ _ h => h) (Or.inl ⟨by rfl, ?hyg1_11⟩) (by assumption) ?restg1_11
      case hyg1_11 => (intro W hW; go_simp; try with_reducible rfl)
      try simp only [Act.put, List.setIfInBounds_toArray, List.set_cons_zero, List.set_cons_succ]
      refine wpAnyH_take (i := 15) (oi := ⟨_, _, _, _, _, _⟩) (v := ?vg1_12) rfl (by kernel_rfl) (by kernel_rfl) (by kernel_rfl) (fun _ _ _ h => h) (Or.inl ⟨by rfl, ?hyg1_12⟩) (by assumption) ?restg1_12
      case hyg1_12 => (intro W hW; go_simp; try with_reducible rfl)
      try simp only [Act.put, List.setIfInBounds_toArray, List.set_cons_zero, List.set_cons_succ]
      refine wpAnyH_ready (rs := [16]) (by kernel_rfl) (by simp) ?_
      refine AllReadyH.cons (o := ⟨_, _, _, _, _, _⟩) rfl (fun K hK => ?_) AllReadyH.nil
      go_simp
      refine Calls.mono (CA2.out _ _ _ hmc (by omega)) ?_
      rintro e12 w12 ⟨⟨X, rfl, hX⟩, b12⟩
      have M12 := M11.below b12
      have B12 := B11.trans (b12.mono B11.size)
      obtain ⟨md, hmd, lmd⟩ := M12.id
      clear M11 B11 hmc
      go_wp2_with fail
      refine hK.out _ _ (M12) (fun hHeld5 => ?_)
      clear hK K hHeld4
      try simp only [Act.put, List.setIfInBounds_toArray, List.set_cons_zero, List.set_cons_succ]
      refine wpAnyH_take (i := 17) (oi := ⟨_, _, _, _, _, _⟩) (v := ?vg1_13) rfl (by kernel_rfl) (by kernel_rfl) (by kernel_rfl) (fun _ _ _ h => h) (Or.inl ⟨by rfl, ?hyg1_13⟩) (by assumption) ?restg1_13
      case hyg1_13 => (intro W hW; go_simp; try with_reducible rfl)
      try simp only [Act.put, List.setIfInBounds_toArray, List.set_cons_zero, List.set_cons_succ]
      refine wpAnyH_take (i := 18) (oi := ⟨_, _, _, _, _, _⟩) (v := ?vg1_14) rfl (by kernel_rfl) (by kernel_rfl) (by kernel_rfl) (fun _ _ _ h => h) (Or.inl ⟨by rfl, ?hyg1_14⟩) (by assumption) ?restg1_14
      case hyg1_14 => (intro W hW; go_simp; try with_reducible rfl)
      try simp only [Act.put, List.setIfInBounds_toArray, List.set_cons_zero, List.set_cons_succ]
      refine wpAnyH_take (i := 19) (oi := ⟨_, _, _, _, _, _⟩) (v := ?vg1_15) rfl (by kernel_rfl) (by kernel_rfl) (by kernel_rfl) (fun _ _ _ h => h) (Or.inl ⟨by rfl, ?hyg1_15⟩) (by assumption) ?restg1_15
      case hyg1_15 => (intro W hW; go_simp; try with_reducible rfl)
      try simp only [Act.put, List.setIfInBounds_toArray, List.set_cons_zero, List.set_cons_succ]
      refine wpAnyH_take (i := 20) (oi := ⟨_, _, _, _, _, _⟩) (v := ?vg1_16) rfl (by kernel_rfl) (by kernel_rfl) (by kernel_rfl) (fun _ _ _ h => h) (Or.inl ⟨by rfl, ?hyg1_16⟩) (by assumption) ?restg1_16
      case hyg1_16 => (intro W hW; go_simp; try with_reducible rfl)
      try simp only [Act.put, List.setIfInBounds_toArray, List.set_cons_zero, List.set_cons_succ]
      refine wpAnyH_ready (rs := [21]) (by kernel_rfl) (by simp) ?_
      refine AllReadyH.cons (o := ⟨_, _, _, _, _, _⟩) rfl (fun K hK => ?_) AllReadyH.nil
      go_simp
      refine Calls.mono (CB2.out _ _ _ hmd (by omega)) ?_
      rintro e13 w13 ⟨⟨Y, rfl, hY⟩, b13⟩
      have M13 := M12.below b13
      have B13 := B12.trans (b13.mono B12.size)
      clear M12 B12 hmd
      go_wp2_with fail
      refine hK.out _ _ (M13) (fun hHeld6 => ?_)
      clear hK K hHeld5
      try simp only [Act.put, List.setIfInBounds_toArray, List.set_cons_zero, List.set_cons_succ]
      refine wpAnyH_take (i := 22) (oi := ⟨_, _, _, _, _, _⟩) (v := ?vg1_17) rfl (by kernel_rfl) (by kernel_rfl) (by kernel_rfl) (fun _ _ _ h => h) (Or.inl ⟨by rfl, ?hyg1_17⟩) (by assumption) ?restg1_17
      case hyg1_17 => (intro W hW; go_simp; try with_reducible rfl)
      try simp only [Act.put, List.setIfInBounds_toArray, List.set_cons_zero, List.set_cons_succ]
      refine wpAnyH_take (i := 23) (oi := ⟨_, _, _, _, _, _⟩) (v := ?vg1_18) rfl (by kernel_rfl) (by kernel_rfl) (by kernel_rfl) (fun _ _ _ h => h) (Or.inl ⟨by rfl, ?hyg1_18⟩) (by assumption) ?restg1_18
      case hyg1_18 => (intro W hW; go_simp; try with_reducible rfl)
      try simp only [Act.put, List.setIfInBounds_toArray, List.set_cons_zero, List.set_cons_succ]
      refine wpAnyH_done (by kernel_rfl) ?_ _
      go_wp2_with fail
      refine ⟨⟨k + 1, E2, O2, g', h2, by omega, by go_num, lE2, ⟨M13.ia, M13.ib, M13.r1, M13.r2, NE5.ab, NE5.a1, NE5.a2, NE5.b1, NE5.b2, NE5.r, hL.lpa, hL.lpb, hgl, hL.l2, B13⟩⟩, by simp [intOf]; omega⟩
    · have tp : Int.tmod (k : Int) 2 = 1 := by rw [Int.tmod_eq_emod_of_nonneg (by omega)]; omega
      go_wp2_with fail
      refine (CWB.out _ _ s _ M3.ib (by omega)).mono ?_
      rintro e w4 ⟨rfl, i4, b4⟩
      have B4 := B3.trans (b4.toBelow hL.lpb B3.size)
      have M4 := M3.wB NE i4 b4
      have hc4 := (B4.cell (p := ⟨b0, off0 + k, none⟩) hb0).trans hc00
      clear M3 B3 b4 i4
      go_wp2_with (at_builtin; refine Hs.appendS rfl _ _ rfl _ _ O rfl M4.r2 s rfl (by omega) ?_; intro y w5 g' r5 hg' b5)
      have B5 := B4.trans (b5.toBelow hL.l2 B4.size)
      obtain ⟨NE5, M5h⟩ := M4.append2 NE r5 hg' b5
      have hgl : w.heap.size ≤ g' := by
        rcases hg' with rfl | rfl
        · exact hL.l2
        · exact B4.size
      clear M4 B4 b5 r5 hg'
      obtain ⟨E2, hE2⟩ : ∃ E2, E = E2 := ⟨_, rfl⟩
      obtain ⟨O2, hO2⟩ : ∃ O2, (O ++ s.data.toList) = O2 := ⟨_, rfl⟩
      have lE2 : E2.length + O2.length ≤ Hs.total (l.take (k + 1)) := by
        rw [Hs.total_take l k s hs, ← hE2, ← hO2]
        simp only [List.length_append, Tx.len]
        omega
      have lk2 := Hs.total_le l (k + 1)
      rw [hE2] at M5h
      rw [hO2] at M5h
      go_wp2_with fail
      refine (CW2.out _ _ M5h.ic).mono ?_
      rintro e w6 ⟨rfl, ic6, b6⟩
      have B6 := B5.trans (b6.toBelow hcw0 B5.size)
      have M6 := M5h.writeC NE5 ic6 b6
      clear M5h B5 b6 ic6
      go_wp2_with fail
      refine (CW3.out _ _ M6.id).mono ?_
      rintro e w7 ⟨rfl, id7, b7⟩
      have B7 := B6.trans (b7.toBelow hdw0 B6.size)
      have hM7 := M6.writeD NE5 id7 b7
      clear M6 B6 b7 id7
      go_wp2_with fail
      refine wp_region_held_drew (S := fun W => M5 1048582 1048582 pa pb c d h1 g' u7 y E2 O2 W) (by kernel_rfl) (hM7.below (below_drewN (Below.refl _ _) 1)) (fun hHeld0 => ?_)
      have M := hM7.below (below_drewN (Below.refl _ _) 1)
      have B7d := B7.trans ((below_drewN (Below.refl w7.heap.size w7) 1).mono B7.size)
      clear hM7 B7
      refine wpAnyH_take (i := 0) (oi := ⟨_, _, _, _, _, _⟩) (v := ?vg2_1) rfl (by kernel_rfl) (by kernel_rfl) (by kernel_rfl) (fun _ _ _ h => h) (Or.inl ⟨by rfl, ?hyg2_1⟩) (by assumption) ?restg2_1
      case hyg2_1 => (intro W hW; go_simp; try with_reducible rfl)
      try simp only [Act.put, List.setIfInBounds_toArray, List.set_cons_zero, List.set_cons_succ]
      refine wpAnyH_take (i := 2) (oi := ⟨_, _, _, _, _, _⟩) (v := ?vg2_2) rfl (by kernel_rfl) (by kernel_rfl) (by kernel_rfl) (fun _ _ _ h => h) (Or.inl ⟨by rfl, ?hyg2_2⟩) (by assumption) ?restg2_2
      case hyg2_2 => (intro W hW; go_simp; try with_reducible rfl)
      try simp only [Act.put, List.setIfInBounds_toArray, List.set_cons_zero, List.set_cons_succ]
      refine wpAnyH_take (i := 3) (oi := ⟨_, _, _, _, _, _⟩) rfl (by kernel_rfl) (by kernel_rfl) (by kernel_rfl) (fun _ _ _ h => h) (Hs.takeConv (by rfl) _ rfl u7 rfl (Tx.ba E2) (fun W hW => hW.r1.conv)) (by assumption) ?restg2_3
      try simp only [Act.put, List.setIfInBounds_toArray, List.set_cons_zero, List.set_cons_succ]
      refine wpAnyH_ready (rs := [1]) (by kernel_rfl) (by simp) ?_
      refine AllReadyH.cons (o := ⟨_, _, _, _, _, _⟩) rfl (fun K hK => ?_) AllReadyH.nil
      go_simp
      refine Calls.mono (CA.out _ _ _ M.ia (by omega)) ?_
      rintro e8 w8 ⟨rfl, b8⟩
      have M8 := M.below b8
      have B8 := B7d.trans (b8.mono B7d.size)
      clear M B7d
      go_wp2_with fail
      refine hK.out _ _ (M8) (fun hHeld1 => ?_)
      clear hK K hHeld0
      try simp only [Act.put, List.setIfInBounds_toArray, List.set_cons_zero, List.set_cons_succ]
      refine wpAnyH_ready (rs := [4]) (by kernel_rfl) (by simp) ?_
      refine AllReadyH.cons (o := ⟨_, _, _, _, _, _⟩) rfl (fun K hK => ?_) AllReadyH.nil
      go_simp
      refine Calls.mono (C2.out E2 (by omega) _) ?_
      rintro e9 w9 ⟨rfl, b9⟩
      have M9 := M8.below b9
      have B9 := B8.trans (b9.mono B8.size)
      clear M8 B8
      go_wp2_with fail
      refine hK.out _ _ (M9) (fun hHeld2 => ?_)
      clear hK K hHeld1
      try simp only [Act.put, List.setIfInBounds_toArray, List.set_cons_zero, List.set_cons_succ]
      refine wpAnyH_take (i := 5) (oi := ⟨_, _, _, _, _, _⟩) (v := ?vg2_4) rfl (by kernel_rfl) (by kernel_rfl) (by kernel_rfl) (fun _ _ _ h => h) (Or.inl ⟨by rfl, ?hyg2_4⟩) (by assumption) ?restg2_4
      case hyg2_4 => (intro W hW; go_simp; try with_reducible rfl)
      try simp only [Act.put, List.setIfInBounds_toArray, List.set_cons_zero, List.set_cons_succ]
      refine wpAnyH_take (i := 6) (oi := ⟨_, _, _, _, _, _⟩) (v := ?vg2_5) rfl (by kernel_rfl) (by kernel_rfl) (by kernel_rfl) (fun _ _ _ h => h) (Or.inl ⟨by rfl, ?hyg2_5⟩) (by assumption) ?restg2_5
      case hyg2_5 => (intro W hW; go_simp; try with_reducible rfl)
      try simp only [Act.put, List.setIfInBounds_toArray, List.set_cons_zero, List.set_cons_succ]
      refine wpAnyH_take (i := 7) (oi := ⟨_, _, _, _, _, _⟩) (v := ?vg2_6) rfl (by kernel_rfl) (by kernel_rfl) (by kernel_rfl) (fun _ _ _ h => h) (Or.inl ⟨by rfl, ?hyg2_6⟩) (by assumption) ?restg2_6
      case hyg2_6 => (intro W hW; go_simp; try with_reducible rfl)
      try simp only [Act.put, List.setIfInBounds_toArray, List.set_cons_zero, List.set_cons_succ]
      refine wpAnyH_take (i := 9) (oi := ⟨_, _, _, _, _, _⟩) (v := ?vg2_7) rfl (by kernel_rfl) (by kernel_rfl) (by kernel_rfl) (fun _ _ _ h => h) (Or.inl ⟨by rfl, ?hyg2_7⟩) (by assumption) ?restg2_7
      case hyg2_7 => (intro W hW; go_simp; try with_reducible rfl)
      try simp only [Act.put, List.setIfInBounds_toArray, List.set_cons_zero, List.set_cons_succ]
      refine wpAnyH_take (i := 10) (oi := ⟨_, _, _, _, _, _⟩) rfl (by kernel_rfl) (by kernel_rfl) (by kernel_rfl) (fun _ _ _ h => h) (Hs.takeConv (by rfl) _ rfl y rfl (Tx.ba O2) (fun W hW => hW.r2.conv)) (by assumption) ?restg2_8
      try simp only [Act.put, List.setIfInBounds_toArray, List.set_cons_zero, List.set_cons_succ]
      refine wpAnyH_ready (rs := [8]) (by kernel_rfl) (by simp) ?_
      refine AllReadyH.cons (o := ⟨_, _, _, _, _, _⟩) rfl (fun K hK => ?_) AllReadyH.nil
      go_simp
      refine Calls.mono (CB.out _ _ _ M9.ib (by omega)) ?_
      rintro e10 w10 ⟨rfl, b10⟩
      have M10 := M9.below b10
      have B10 := B9.trans (b10.mono B9.size)
      clear M9 B9
      go_wp2_with fail
      refine hK.out _ _ (M10) (fun hHeld3 => ?_)
      clear hK K hHeld2
      try simp only [Act.put, List.setIfInBounds_toArray, List.set_cons_zero, List.set_cons_succ]
      refine wpAnyH_ready (rs := [11]) (by kernel_rfl) (by simp) ?_
      refine AllReadyH.cons (o := ⟨_, _, _, _, _, _⟩) rfl (fun K hK => ?_) AllReadyH.nil
      go_simp
      refine Calls.mono (C3.out O2 (by omega) _) ?_
      rintro e11 w11 ⟨rfl, b11⟩
      have M11 := M10.below b11
      have B11 := B10.trans (b11.mono B10.size)
      obtain ⟨mc, hmc, lmc⟩ := M11.ic
      clear M10 B10
      go_wp2_with fail
      refine hK.out _ _ (M11) (fun hHeld4 => ?_)
      clear hK K hHeld3
      try simp only [Act.put, List.setIfInBounds_toArray, List.set_cons_zero, List.set_cons_succ]
      refine wpAnyH_take (i := 12) (oi := ⟨_, _, _, _, _, _⟩) (v := ?vg2_9) rfl (by kernel_rfl) (by kernel_rfl) (by kernel_rfl) (fun _ _ _ h => h) (Or.inl ⟨by rfl, ?hyg2_9⟩) (by assumption) ?restg2_9
      case hyg2_9 => (intro W hW; go_simp; try with_reducible rfl)
      try simp only [Act.put, List.setIfInBounds_toArray, List.set_cons_zero, List.set_cons_succ]
      refine wpAnyH_take (i := 13) (oi := ⟨_, _, _, _, _, _⟩) (v := ?vg2_10) rfl (by kernel_rfl) (by kernel_rfl) (by kernel_rfl) (fun _ _ _ h => h) (Or.inl ⟨by rfl, ?hyg2_10⟩) (by assumption) ?restg2_10
      case hyg2_10 => (intro W hW; go_simp; try with_reducible rfl)
      try simp only [Act.put, List.setIfInBounds_toArray, List.set_cons_zero, List.set_cons_succ]
      refine wpAnyH_take (i := 14) (oi := ⟨_, _, _, _, _, _⟩) (v := ?vg2_11) rfl (by kernel_rfl) (by kernel_rfl) (by kernel_rfl) (fun _ _ _ h => h) (Or.inl ⟨by rfl, ?hyg2_11⟩) (by assumption) ?restg2_11
      case hyg2_11 => (intro W hW; go_simp; try with_reducible rfl)
      try simp only [Act.put, List.setIfInBounds_toArray, List.set_cons_zero, List.set_cons_succ]
      refine wpAnyH_take (i := 15) (oi := ⟨_, _, _, _, _, _⟩) (v := ?vg2_12) rfl (by kernel_rfl) (by kernel_rfl) (by kernel_rfl) (fun _ _ _ h => h) (Or.inl ⟨by rfl, ?hyg2_12⟩) (by assumption) ?restg2_12
      case hyg2_12 => (intro W hW; go_simp; try with_reducible rfl)
      try simp only [Act.put, List.setIfInBounds_toArray, List.set_cons_zero, List.set_cons_succ]
      refine wpAnyH_ready (rs := [16]) (by kernel_rfl) (by simp) ?_
      refine AllReadyH.cons (o := ⟨_, _, _, _, _, _⟩) rfl (fun K hK => ?_) AllReadyH.nil
      go_simp
      refine Calls.mono (CA2.out _ _ _ hmc (by omega)) ?_
      rintro e12 w12 ⟨⟨X, rfl, hX⟩, b12⟩
      have M12 := M11.below b12
      have B12 := B11.trans (b12.mono B11.size)
      obtain ⟨md, hmd, lmd⟩ := M12.id
      clear M11 B11 hmc
      go_wp2_with fail
      refine hK.out _ _ (M12) (fun hHeld5 => ?_)
      clear hK K hHeld4
      try simp only [Act.put, List.setIfInBounds_toArray, List.set_cons_zero, List.set_cons_succ]
      refine wpAnyH_take (i := 17) (oi := ⟨_, _, _, _, _, _⟩) (v := ?vg2_13) rfl (by kernel_rfl) (by kernel_rfl) (by kernel_rfl) (fun _ _ _ h => h) (Or.inl ⟨by rfl, ?hyg2_13⟩) (by assumption) ?restg2_13
      case hyg2_13 => (intro W hW; go_simp; try with_reducible rfl)
      try simp only [Act.put, List.setIfInBounds_toArray, List.set_cons_zero, List.set_cons_succ]
      refine wpAnyH_take (i := 18) (oi := ⟨_, _, _, _, _, _⟩) (v := ?vg2_14) rfl (by kernel_rfl) (by kernel_rfl) (by kernel_rfl) (fun _ _ _ h => h) (Or.inl ⟨by rfl, ?hyg2_14⟩) (by assumption) ?restg2_14
      case hyg2_14 => (intro W hW; go_simp; try with_reducible rfl)
      try simp only [Act.put, List.setIfInBounds_toArray, List.set_cons_zero, List.set_cons_succ]
      refine wpAnyH_take (i := 19) (oi := ⟨_, _, _, _, _, _⟩) (v := ?vg2_15) rfl (by kernel_rfl) (by kernel_rfl) (by kernel_rfl) (fun _ _ _ h => h) (Or.inl ⟨by rfl, ?hyg2_15⟩) (by assumption) ?restg2_15
      case hyg2_15 => (intro W hW; go_simp; try with_reducible rfl)
      try simp only [Act.put, List.setIfInBounds_toArray, List.set_cons_zero, List.set_cons_succ]
      refine wpAnyH_take (i := 20) (oi := ⟨_, _, _, _, _, _⟩) (v := ?vg2_16) rfl (by kernel_rfl) (by kernel_rfl) (by kernel_rfl) (fun _ _ _ h => h) (Or.inl ⟨by rfl, ?hyg2_16⟩) (by assumption) ?restg2_16
      case hyg2_16 => (intro W hW; go_simp; try with_reducible rfl)
      try simp only [Act.put, List.setIfInBounds_toArray, List.set_cons_zero, List.set_cons_succ]
      refine wpAnyH_ready (rs := [21]) (by kernel_rfl) (by simp) ?_
      refine AllReadyH.cons (o := ⟨_, _, _, _, _, _⟩) rfl (fun K hK => ?_) AllReadyH.nil
      go_simp
      refine Calls.mono (CB2.out _ _ _ hmd (by omega)) ?_
      rintro e13 w13 ⟨⟨Y, rfl, hY⟩, b13⟩
      have M13 := M12.below b13
      have B13 := B12.trans (b13.mono B12.size)
      clear M12 B12 hmd
      go_wp2_with fail
      refine hK.out _ _ (M13) (fun hHeld6 => ?_)
      clear hK K hHeld5
      try simp only [Act.put, List.setIfInBounds_toArray, List.set_cons_zero, List.set_cons_succ]
      refine wpAnyH_take (i := 22) (oi := ⟨_, _, _, _, _, _⟩) (v := ?vg2_17) rfl (by kernel_rfl) (by kernel_rfl) (by kernel_rfl) (fun _ _ _ h => h) (Or.inl ⟨by rfl, ?hyg2_17⟩) (by assumption) ?restg2_17
      case hyg2_17 => (intro W hW; go_simp; try with_reducible rfl)
      try simp only [Act.put, List.setIfInBounds_toArray, List.set_cons_zero, List.set_cons_succ]
      refine wpAnyH_take (i := 23) (oi := ⟨_, _, _, _, _, _⟩) (v := ?vg2_18) rfl (by kernel_rfl) (by kernel_rfl) (by kernel_rfl) (fun _ _ _ h => h) (Or.inl ⟨by rfl, ?hyg2_18⟩) (by assumption) ?restg2_18
      case hyg2_18 => (intro W hW; go_simp; try with_reducible rfl)
      try simp only [Act.put, List.setIfInBounds_toArray, List.set_cons_zero, List.set_cons_succ]
      refine wpAnyH_done (by kernel_rfl) ?_ _
      go_wp2_with fail
      refine ⟨⟨k + 1, E2, O2, h1, g', by omega, by go_num, lE2, ⟨M13.ia, M13.ib, M13.r1, M13.r2, NE5.ab, NE5.a1, NE5.a2, NE5.b1, NE5.b2, NE5.r, hL.lpa, hL.lpb, hL.l1, hgl, B13⟩⟩, by simp [intOf]; omega⟩
  · obtain rfl : k = n := by omega
    obtain ⟨cap1, rfl⟩ := hL.r1.len
    obtain ⟨cap2, rfl⟩ := hL.r2.len
    have hB := hL.B
    go_wp2_with fail
    refine (CZ.out _ _ _ _ hL.ia).mono ?_
    rintro e w6 ⟨rfl, rfl⟩
    go_wp2_with fail
    refine (CZ.out _ _ _ _ hL.ib).mono ?_
    rintro e w7 ⟨rfl, rfl⟩
    go_wp2_with fail
    go_ret
    exact ⟨rfl, hB⟩
theorem reads (os : Os) {H : Type} (enc : TypeId × Value → H) : ∃ places, DataW.whole enc Try.prog ((Hs.world os).forCall (fun _ _ => 0) ⟨#[], #[.slice none 0 0], []⟩).memory Try.f10.params.toList Rows.hashApartSpec.vars false (#[.slice none 0 0] : Array Value).toList 8 = some ([.nil], [], places) :=
  ⟨[], by kernel_rfl⟩
set_option maxHeartbeats 4000000 in
set_option maxRecDepth 100000 in
theorem lifted (os : Os) (started : os.Started) (H : Type) (enc : TypeId × Value → H) (F : Stop.Interp) :
    ReturnsInHanded {} Try.checked os 10 .any ((Rows.OpenSpec.upto Rows.hashApartSpec).preRow enc Try.prog Try.f10 Rows.hashApartUptoRow.domain false Rows.hashApartUptoRow.laid) (((Rows.OpenSpec.upto Rows.hashApartSpec).at F).post enc Try.prog Try.f10 false true false false) := by
  obtain ⟨places, hx⟩ := reads os enc
  refine returnsInHanded_of_row (C := Try.checked) (s := (Rows.OpenSpec.upto Rows.hashApartSpec)) Hs.own started (by kernel_rfl) Try.func10
    (witness_row_atRef (enc := enc) (C := Try.checked) false (Hs.world os) #[.slice none 0 0] rfl (by kernel_rfl) (by kernel_rfl) (by kernel_rfl)
      (OpenSpec.preRow_of_cond 8 hx (by kernel_rfl) (fun k hk => by cases hk; kernel_rfl) (by kernel_rfl) (Hs.laid_met os _))) ?_
  intro W base args ds gs before hval0 hW _ hk hsz hL _ _
  have hval : ∀ (j : Nat) t v, Try.f10.params[j]? = some t → args[j]? = some v → Value.okWide Try.prog W .any base t v := hval0
  have hW' := hW
  obtain ⟨p, q, hA0, hV0, rfl, _, _⟩ := hW
  have hA : DataW.TrodAll enc Try.prog W 0 (fun _ => true) true Try.f10.params.toList args.toList ds p := hA0
  rw [Try.params10] at hA hval
  obtain ⟨v0, vs0, d0, ds0, p0, q0, hargs, rfl, rfl, h0, r0⟩ := trodAll_cons hA
  obtain ⟨rfl, rfl, rfl⟩ := trodAll_nil r0
  obtain rfl : args = #[v0] := by cases args; simp_all
  obtain ⟨rfl, rfl⟩ := trodVars_none hV0
  obtain ⟨aa, na, capa, la, rfl, lea, cma, Sa, bka, backa⟩ := Hs.open_strs (hval 0 37 v0 rfl rfl) h0
  clear hA0 hV0 hval0
  have hb := hk _ rfl
  have hb2 := of_decide_eq_true hb
  simp only [Rows.uptoBulkAll, List.append_nil] at hb2
  refine (walk aa na capa la W Sa lea cma (by omega)).mono ?_
  rintro e W' ⟨rfl, bel⟩
  have e1 : ((Rows.OpenSpec.upto Rows.hashApartSpec).at F).fn H ([d0] ++ []) = { results := [.lit (.bool true)], args := [d0] } := rfl
  refine ⟨_, rfl, _, _, _, [], p0 ++ ([]), [], hW', ?_, ?_, ?_, bel.frame _, fun h => by cases h⟩
  · rw [e1]; exact trodAll_cons_mk (shut_bool Try.underlying4 _) trodAll_mk0
  · rw [e1]; exact trodAll_cons_mk (backa _ bel) trodAll_mk0
  · rw [e1]; rfl

theorem said : Rows.HashApartUptoSaid :=
  OpenClaim.holds_of_cond 10 Try.f10 rfl rfl rfl rfl rfl rfl rfl ⟨rfl, rfl, rfl, rfl, rfl⟩ rfl rfl rfl rfl rfl (by kernel_rfl) Try.func10 (by kernel_rfl)
    (of_decide_eq_true (by kernel_rfl)) (by unfold Func.isWrapper; rw [if_neg (of_decide_eq_false (by kernel_rfl))]; exact ⟨rfl, rfl⟩)
    (fun os started H enc _ F => by rw [OpenClaim.pre_eq_preRow]; exact lifted os started H enc F)

end lwApart
end Go.Proofs.Ytejnkchfjkhheaa
