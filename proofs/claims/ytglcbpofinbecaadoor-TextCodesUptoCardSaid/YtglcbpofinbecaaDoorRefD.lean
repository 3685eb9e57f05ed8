/- The reference's read. -/
import Derived.Test.YtglcbpofinbecaaDoorRefC
import Derived.Test.YtglcbpofinbecaaDoorUniS
namespace Go.Proofs.YtglcbpofinbecaaDoor
open Go.RowKit

/-- The bits of a digit, the highest first. -/
def Tx.dbits (wide n t : Nat) : List Int := (List.range t).map fun i => ((n / 2 ^ (wide - 1 - i) % 2 : Nat) : Int)
theorem Tx.dbits_length (wide n t : Nat) : (Tx.dbits wide n t).length = t := by simp [Tx.dbits]
theorem Tx.dbits_snoc (wide n t : Nat) : Tx.dbits wide n (t + 1) = Tx.dbits wide n t ++ [((n / 2 ^ (wide - 1 - t) % 2 : Nat) : Int)] := by simp [Tx.dbits, List.range_succ]
def Tx.rbits (al : List UInt8) (wide : Nat) (l : List UInt8) : List Int := l.flatMap fun c => Tx.dbits wide (Lib.indexByte al c).toNat wide
theorem Tx.rbits_length (al : List UInt8) (wide : Nat) (l : List UInt8) : (Tx.rbits al wide l).length = wide * l.length := by
  induction l with
  | nil => simp [Tx.rbits]
  | cons c l ih =>
    rw [show Tx.rbits al wide (c :: l) = Tx.dbits wide (Lib.indexByte al c).toNat wide ++ Tx.rbits al wide l by simp [Tx.rbits], List.length_append, ih, Tx.dbits_length, List.length_cons, Nat.mul_succ, Nat.add_comm]
theorem Tx.rbits_snoc (al : List UInt8) (wide : Nat) (l : List UInt8) (k : Nat) (c : UInt8) (h : l[k]? = some c) : Tx.rbits al wide (l.take (k + 1)) = Tx.rbits al wide (l.take k) ++ Tx.dbits wide (Lib.indexByte al c).toNat wide := by
  rw [List.take_add_one, h]
  simp [Tx.rbits]
theorem Tx.place_lt (al : List UInt8) (c : UInt8) : Lib.indexByte al c < (al.length : Int) ∨ al = [] := by
  induction al with
  | nil => exact .inr rfl
  | cons b l ih =>
    left
    simp only [Lib.indexByte, List.length_cons]
    split
    · omega
    · split
      · omega
      · rcases ih with h | rfl
        · omega
        · simp [Lib.indexByte]

theorem Tx.rbits_01 (al : List UInt8) (wide : Nat) (l : List UInt8) : ∀ z ∈ Tx.rbits al wide l, z = 0 ∨ z = 1 := by
  intro z hz
  obtain ⟨c, _, h⟩ := List.mem_flatMap.1 hz
  obtain ⟨i, _, rfl⟩ := List.mem_map.1 h
  have := Nat.mod_lt ((Lib.indexByte al c).toNat / 2 ^ (wide - 1 - i)) (by decide : 0 < 2)
  omega
/-- The number that j bits from k on say. -/
def Tx.bsum (bits : List Int) (k : Nat) : Nat → Int
  | 0 => 0
  | j + 1 => 2 * Tx.bsum bits k j + bits.getD (k + j) 0
theorem Tx.getD_01 {bits : List Int} (h : ∀ z ∈ bits, z = 0 ∨ z = 1) (j : Nat) : bits.getD j 0 = 0 ∨ bits.getD j 0 = 1 := by
  rw [List.getD_eq_getElem?_getD]
  rcases hj : bits[j]? with _ | z
  · exact .inl rfl
  · exact h z (List.mem_of_getElem? hj)
theorem Tx.bsum_lt {bits : List Int} (h : ∀ z ∈ bits, z = 0 ∨ z = 1) (k : Nat) : ∀ j, 0 ≤ Tx.bsum bits k j ∧ Tx.bsum bits k j < ((2 ^ j : Nat) : Int)
  | 0 => by simp [Tx.bsum]
  | j + 1 => by
    have h1 := Tx.bsum_lt h k j
    have h2 := Tx.getD_01 h (k + j)
    rw [Nat.pow_succ]
    show 0 ≤ 2 * Tx.bsum bits k j + bits.getD (k + j) 0 ∧ 2 * Tx.bsum bits k j + bits.getD (k + j) 0 < _
    omega
/-- The first m whole bytes that bits say. -/
def Tx.rbytes (bits : List Int) (m : Nat) : List UInt8 := (List.range m).map fun i => UInt8.ofNat (Tx.bsum bits (8 * i) 8).toNat
theorem Tx.rbytes_length (bits : List Int) (m : Nat) : (Tx.rbytes bits m).length = m := by simp [Tx.rbytes]
theorem Tx.rbytes_snoc (bits : List Int) (m : Nat) : Tx.rbytes bits (m + 1) = Tx.rbytes bits m ++ [UInt8.ofNat (Tx.bsum bits (8 * m) 8).toNat] := by simp [Tx.rbytes, List.range_succ]

set_option maxHeartbeats 8000000 in
set_option maxRecDepth 100000 in
theorem Tx.read_any (s al : ByteArray) (wide : Nat) (w : World) (hs : s.size ≤ 1099511627776) (hal : al.size ≤ 64) (hw1 : 1 ≤ wide) (hw8 : wide ≤ 6) :
    Calls Tryd.prog 40 #[.string s, .string al, .int .i64 (wide : Int)] w fun e w' =>
      (((∃ c ∈ s.data.toList, Lib.indexByte al.data.toList c < 0) ∧ e = .returned (.tuple #[.string ⟨#[]⟩, .bool false])) ∨
       ((∀ c ∈ s.data.toList, 0 ≤ Lib.indexByte al.data.toList c) ∧ e = .returned (.tuple #[.string (Tx.ba (Tx.rbytes (Tx.rbits al.data.toList wide s.data.toList) ((wide * s.size) / 8))), .bool true]))) ∧ Below w.heap.size w w' := by
  have cp := fun c w => Tx.place_any al c (by omega) w
  have CP := Lib.hid cp
  clear cp
  have f0 : IntKind.i64.wrap ((wide : Int) - 1) = (wide : Int) - 1 := IntWalk.i64_in _ (by omega)
  go_enter Tryd.func40, Tryd.ntmps40
  have hown0 := Tx.OwnI.empty w w.heap.size (Nat.le_refl _)
  go_wp2_with fail
  go_loopw [8, 9] (fun v i wr => ∃ k : Nat, k ≤ s.size ∧ i = .int .i64 k ∧ Tx.OwnI wr w.heap.size v (Tx.rbits al.data.toList wide (s.data.toList.take k)) ∧ Hid (∀ c ∈ s.data.toList.take k, 0 ≤ Lib.indexByte al.data.toList c) ∧ Below w.heap.size w wr) (fun _ i _ => s.size - (intOf i).toNat)
  case atStart => exact ⟨0, Nat.zero_le _, rfl, by simpa [Tx.rbits] using hown0, Lib.hid (by simp), (Below.refl _ _).alloc (Nat.le_refl _) _⟩
  case round =>
    obtain ⟨k, hk, rfl, hown, hall, hb⟩ := hrel
    by_cases hlt : k < s.size
    · have hlz : (k : Int) < (s.size : Int) := by omega
      obtain ⟨c, hc⟩ : ∃ c, s[k] = c := ⟨_, rfl⟩
      have hgk : s.data.toList[k]? = some c := by rw [List.getElem?_eq_getElem (by rw [Tx.len]; exact hlt)]; exact congrArg some hc
      have hsn := Tx.rbits_snoc al.data.toList wide s.data.toList k c hgk
      have hlen := Tx.rbits_length al.data.toList wide (s.data.toList.take k)
      have hlen2 : (s.data.toList.take k).length ≤ k := List.length_take_le _ _
      have hlen3 : (Tx.rbits al.data.toList wide (s.data.toList.take k)).length ≤ 6 * k := by
        rw [hlen]; exact Nat.mul_le_mul hw8 hlen2
      have hcp := CP.out c wr
      have hpl := Tx.place_lt al.data.toList c
      have hge := Lib.indexByte_ge al.data.toList c
      have HSN := Lib.hid hsn
      have HC := Lib.hid hcp
      have HGK := Lib.hid hgk
      clear hsn hcp hgk hlen hlen2
      by_cases hneg : Lib.indexByte al.data.toList c < 0
      · have hex : Hid (∃ c ∈ s.data.toList, Lib.indexByte al.data.toList c < 0) := Lib.hid ⟨c, List.mem_of_getElem? HGK.out, hneg⟩
        generalize Lib.indexByte al.data.toList c = x at *
        clear hpl hge HSN HGK
        go_wp2_with fail
        refine HC.out.mono ?_
        rintro e w1 ⟨rfl, rfl⟩
        go_wp2_with fail
        go_ret2
        exact ⟨.inl ⟨hex.out, rfl⟩, hb⟩
      · obtain ⟨n, hn⟩ := Int.eq_ofNat_of_zero_le (by omega : 0 ≤ Lib.indexByte al.data.toList c)
        have hn64 : n < 64 := by
          rcases hpl with h | h
          · rw [Tx.len] at h; omega
          · rw [h] at hn; simp [Lib.indexByte] at hn
        have HIN := Lib.hid (show 0 ≤ Lib.indexByte al.data.toList c by omega)
        have hsn2 := HSN.out
        rw [hn, show (n : Int).toNat = n from rfl] at hsn2
        have HS2 := Lib.hid hsn2
        have hc2 := HC.out
        rw [hn] at hc2
        have HC2 := Lib.hid hc2
        generalize Tx.rbits al.data.toList wide (s.data.toList.take k) = B at *
        clear hpl hge HSN HC hsn2 hc2 hn hneg
        go_wp2_with fail
        refine HC2.out.mono ?_
        rintro e w1 ⟨rfl, rfl⟩
        go_wp2_with fail
        go_loopw [8, 11] (fun v j wx => ∃ t : Nat, t ≤ wide ∧ j = .int .i64 ((wide : Int) - 1 - (t : Int)) ∧ Tx.OwnI wx w.heap.size v (B ++ Tx.dbits wide n t) ∧ Below w.heap.size w wx) (fun _ j _ => (intOf j + 1).toNat)
        case atStart => exact ⟨0, Nat.zero_le _, by simp, by simpa [Tx.dbits] using hown, hb⟩
        case round =>
          obtain ⟨t, ht, rfl, hown2, hb2⟩ := hrel
          by_cases htl : t < wide
          · obtain ⟨J, hJ⟩ : ∃ J : Nat, (wide : Int) - 1 - (t : Int) = (J : Int) := Int.eq_ofNat_of_zero_le (by omega)
            have EJ := Lib.hid (show wide - 1 - t = J by omega)
            have hdl := Tx.dbits_length wide n t
            have HL : (B ++ Tx.dbits wide n t).length + [()].length ≤ 17592186044416 := by rw [List.length_append, hdl]; simp; omega
            have g : ∀ d : Nat, bits BinOp.and IntKind.i64 ((n : Int) / (d : Int)) 1 = ((n / d % 2 : Nat) : Int) := by
              intro d
              have := Tx.and1 ⟨n / d, by have := Nat.div_le_self n d; omega⟩
              simpa using this
            have g1 : bits BinOp.and IntKind.i64 (n : Int) 1 = ((n / 1 % 2 : Nat) : Int) := by
              have := Tx.and1 ⟨n, by omega⟩
              simpa using this
            have G := Lib.hid g
            have G1 := Lib.hid g1
            have hJ5 : J = 0 ∨ J = 1 ∨ J = 2 ∨ J = 3 ∨ J = 4 ∨ J = 5 := by omega
            clear g g1 hdl
            rw [hJ]
            rcases hJ5 with rfl | rfl | rfl | rfl | rfl | rfl
            · go_wp2_with (at_builtin; refine Tx.appendI rfl _ _ rfl w.heap.size _ _ rfl (Tx.OwnI.alloc hown2 _) ⟨_, 0, none⟩ 1 [_] rfl (World.news_of_block (heap_alloc_new _ _)) HL (by have := hb2.size; simp; omega) ?_; intro v1 w1 hown3 hb3 hz3)
              refine ⟨⟨t + 1, by omega, congrArg (Value.int .i64) (by omega), ?_, (hb2.alloc hb2.size _).trans hb3⟩, by simp [intOf]; try omega⟩
              rw [Tx.dbits_snoc, EJ.out, ← List.append_assoc]
              exact (congrArg (fun z => Tx.OwnI w1 w.heap.size v1 (B ++ Tx.dbits wide n t ++ [z])) G1.out).mp hown3
            · go_wp2_with (at_builtin; refine Tx.appendI rfl _ _ rfl w.heap.size _ _ rfl (Tx.OwnI.alloc hown2 _) ⟨_, 0, none⟩ 1 [_] rfl (World.news_of_block (heap_alloc_new _ _)) HL (by have := hb2.size; simp; omega) ?_; intro v1 w1 hown3 hb3 hz3)
              refine ⟨⟨t + 1, by omega, congrArg (Value.int .i64) (by omega), ?_, (hb2.alloc hb2.size _).trans hb3⟩, by simp [intOf]; try omega⟩
              rw [Tx.dbits_snoc, EJ.out, ← List.append_assoc]
              exact (congrArg (fun z => Tx.OwnI w1 w.heap.size v1 (B ++ Tx.dbits wide n t ++ [z])) (G.out 2)).mp hown3
            · go_wp2_with (at_builtin; refine Tx.appendI rfl _ _ rfl w.heap.size _ _ rfl (Tx.OwnI.alloc hown2 _) ⟨_, 0, none⟩ 1 [_] rfl (World.news_of_block (heap_alloc_new _ _)) HL (by have := hb2.size; simp; omega) ?_; intro v1 w1 hown3 hb3 hz3)
              refine ⟨⟨t + 1, by omega, congrArg (Value.int .i64) (by omega), ?_, (hb2.alloc hb2.size _).trans hb3⟩, by simp [intOf]; try omega⟩
              rw [Tx.dbits_snoc, EJ.out, ← List.append_assoc]
              exact (congrArg (fun z => Tx.OwnI w1 w.heap.size v1 (B ++ Tx.dbits wide n t ++ [z])) (G.out 4)).mp hown3
            · go_wp2_with (at_builtin; refine Tx.appendI rfl _ _ rfl w.heap.size _ _ rfl (Tx.OwnI.alloc hown2 _) ⟨_, 0, none⟩ 1 [_] rfl (World.news_of_block (heap_alloc_new _ _)) HL (by have := hb2.size; simp; omega) ?_; intro v1 w1 hown3 hb3 hz3)
              refine ⟨⟨t + 1, by omega, congrArg (Value.int .i64) (by omega), ?_, (hb2.alloc hb2.size _).trans hb3⟩, by simp [intOf]; try omega⟩
              rw [Tx.dbits_snoc, EJ.out, ← List.append_assoc]
              exact (congrArg (fun z => Tx.OwnI w1 w.heap.size v1 (B ++ Tx.dbits wide n t ++ [z])) (G.out 8)).mp hown3
            · go_wp2_with (at_builtin; refine Tx.appendI rfl _ _ rfl w.heap.size _ _ rfl (Tx.OwnI.alloc hown2 _) ⟨_, 0, none⟩ 1 [_] rfl (World.news_of_block (heap_alloc_new _ _)) HL (by have := hb2.size; simp; omega) ?_; intro v1 w1 hown3 hb3 hz3)
              refine ⟨⟨t + 1, by omega, congrArg (Value.int .i64) (by omega), ?_, (hb2.alloc hb2.size _).trans hb3⟩, by simp [intOf]; try omega⟩
              rw [Tx.dbits_snoc, EJ.out, ← List.append_assoc]
              exact (congrArg (fun z => Tx.OwnI w1 w.heap.size v1 (B ++ Tx.dbits wide n t ++ [z])) (G.out 16)).mp hown3
            · go_wp2_with (at_builtin; refine Tx.appendI rfl _ _ rfl w.heap.size _ _ rfl (Tx.OwnI.alloc hown2 _) ⟨_, 0, none⟩ 1 [_] rfl (World.news_of_block (heap_alloc_new _ _)) HL (by have := hb2.size; simp; omega) ?_; intro v1 w1 hown3 hb3 hz3)
              refine ⟨⟨t + 1, by omega, congrArg (Value.int .i64) (by omega), ?_, (hb2.alloc hb2.size _).trans hb3⟩, by simp [intOf]; try omega⟩
              rw [Tx.dbits_snoc, EJ.out, ← List.append_assoc]
              exact (congrArg (fun z => Tx.OwnI w1 w.heap.size v1 (B ++ Tx.dbits wide n t ++ [z])) (G.out 32)).mp hown3
          · obtain rfl : t = wide := by omega
            have z0 : (t : Int) - 1 - (t : Int) < 0 := by omega
            have hall2 : Hid (∀ c' ∈ s.data.toList.take (k + 1), 0 ≤ Lib.indexByte al.data.toList c') := Lib.hid (by
              intro c' hc'
              rw [List.take_add_one, HGK.out] at hc'
              rcases List.mem_append.1 hc' with h | h
              · exact hall.out c' h
              · have : c' = c := by simpa using h
                rw [this]; exact HIN.out)
            go_wp2_with fail
            exact ⟨⟨k + 1, by omega, by go_num, by rw [HS2.out]; exact hown2, hall2, hb2⟩, by simp [intOf]; omega⟩
    · obtain rfl : k = s.size := by omega
      have hlen := Tx.rbits_length al.data.toList wide s.data.toList
      rw [Tx.len] at hlen
      have h01 := Tx.rbits_01 al.data.toList wide s.data.toList
      have hl6 : wide * s.size ≤ 6 * s.size := Nat.mul_le_mul hw8 (Nat.le_refl _)
      rw [Tx.take_all] at hown hall
      obtain ⟨bits0, hbits⟩ : ∃ b, Tx.rbits al.data.toList wide s.data.toList = b := ⟨_, rfl⟩
      obtain ⟨L, hL⟩ : ∃ L, wide * s.size = L := ⟨_, rfl⟩
      rw [hbits] at hown hlen h01
      rw [hL] at hlen hl6
      have HF := Lib.hid (And.intro hbits hL)
      have H01 := Lib.hid h01
      have hin := hown.ints
      obtain ⟨w3, rfl⟩ : ∃ w3, w3 = wr := ⟨_, rfl⟩
      clear hbits hL h01 hown
      rcases hin with ⟨rfl, hbn⟩ | ⟨g, off, cap, rfl, h2, h2', h3, h4⟩
      · have hL0 : L = 0 := by rw [hbn] at hlen; simpa using hlen.symm
        have hcv := (Tx.Own.empty w3 w3.heap.size (Nat.le_refl _)).conv
        clear hlen
        go_wp2_with fail
        refine wp_loop_rounds 1 ?_
        rw [rounds_succ]
        go_wp2
        go_ret2
        refine ⟨.inr ⟨hall.out, ?_⟩, hb.alloc hb.size _⟩
        rw [HF.out.1, HF.out.2, hL0]
        rfl
      · rw [hlen] at *
        have H4 := Lib.hid h4
        have HB := Lib.hid hlen
        have hown0' := Tx.Own.empty w3 w3.heap.size (Nat.le_refl _)
        clear h4 hlen
        go_wp2_with fail
        go_loopw [12, 13] (fun v i wx => ∃ k m : Nat, k = 8 * m ∧ k ≤ L ∧ i = .int .i64 k ∧ Tx.Own wx w3.heap.size v (Tx.rbytes bits0 m) ∧ Below w3.heap.size w3 wx) (fun _ i _ => L + 8 - (intOf i).toNat)
        case atStart => exact ⟨0, 0, rfl, Nat.zero_le _, rfl, by simpa [Tx.rbytes] using hown0', (Below.refl _ _).alloc (Nat.le_refl _) _⟩
        case round =>
          obtain ⟨k, m, hkm, hk, rfl, hown, hb3⟩ := hrel
          have e8 : IntKind.i64.wrap ((k : Int) + 8) = (k : Int) + 8 := IntWalk.i64_in _ (by omega)
          by_cases hlt : k + 8 ≤ L
          · have hlz : (k : Int) + 8 ≤ (L : Int) := by omega
            have HKM := Lib.hid hkm
            clear hkm
            obtain ⟨w4, rfl⟩ : ∃ w4, w4 = wr := ⟨_, rfl⟩
            go_wp2_with fail
            go_loopw [14, 15] (fun n j wy => ∃ q : Nat, q ≤ 8 ∧ j = .int .i64 q ∧ n = .int .i64 (Tx.bsum bits0 k q) ∧ w4 = wy) (fun _ j _ => 8 - (intOf j).toNat)
            case atStart => exact ⟨0, Nat.zero_le _, rfl, rfl, rfl⟩
            case round =>
              obtain ⟨q, hq, rfl, rfl, rfl⟩ := hrel
              by_cases hql : q < 8
              · have hqz : (q : Int) < 8 := by omega
                have hkq : k + q < L := by omega
                have hkqz : ((k + q : Nat) : Int) < (L : Int) := by omega
                have cell := (hb3.cell (p := ⟨g, off + (k + q), none⟩) h3).trans (H4.out (k + q) hkq)
                have b1 := Tx.getD_01 H01.out (k + q)
                have b2 := Tx.bsum_lt H01.out k q
                have b3 : Tx.bsum bits0 k (q + 1) = 2 * Tx.bsum bits0 k q + bits0.getD (k + q) 0 := rfl
                have b4 : 2 ^ q ≤ 2 ^ 8 := Nat.pow_le_pow_right (by decide) (by omega)
                generalize bits0.getD (k + q) 0 = β at *
                generalize Tx.bsum bits0 k q = ν at *
                have e1 : IntKind.i64.wrap ((k : Int) + (q : Int)) = ((k + q : Nat) : Int) := by rw [IntWalk.i64_in _ (by omega)]; omega
                have e2 : IntKind.i64.wrap (2 * ν) = 2 * ν := IntWalk.i64_in _ (by omega)
                have e3 : IntKind.i64.wrap (2 * ν + β) = 2 * ν + β := IntWalk.i64_in _ (by omega)
                have B3 := Lib.hid b3
                clear b3 b4 b2 b1
                go_wp2_with fail
                refine ⟨⟨q + 1, by omega, by go_num, by rw [B3.out], trivial⟩, by simp [intOf]; omega⟩
              · obtain rfl : q = 8 := by omega
                have b2 := Tx.bsum_lt H01.out k 8
                have hsn := Tx.rbytes_snoc bits0 m
                rw [← HKM.out] at hsn
                have HSN := Lib.hid hsn
                have hl := Tx.rbytes_length bits0 m
                have hm : m ≤ 140737488355327 := by have := HKM.out; omega
                have HL : (Tx.rbytes bits0 m).length + [()].length ≤ 140737488355328 := by rw [hl]; simp; omega
                clear hsn hl
                generalize Tx.bsum bits0 k 8 = ν at *
                obtain ⟨c, rfl⟩ : ∃ c : UInt8, ν = (c.toNat : Int) := ⟨UInt8.ofNat ν.toNat, by rw [Tx.o8 _ (by omega)]; omega⟩
                have hof : UInt8.ofNat ((c.toNat : Int)).toNat = c := by simp
                have hsn2 := HSN.out
                rw [hof] at hsn2
                have HS2 := Lib.hid hsn2
                have e1 : IntKind.u8.wrap (c.toNat : Int) = (c.toNat : Int) := by
                  rw [IntKind.wrap_u8]; omega
                clear hof hsn2 b2 HSN
                go_wp2_with (at_builtin; refine Tx.append rfl _ _ rfl w3.heap.size _ _ rfl (Tx.Own.alloc hown _) ⟨_, 0, none⟩ 1 [_] rfl (World.news_of_block (heap_alloc_new _ _)) HL (by have := hb3.size; simp; omega) ?_; intro v1 w1 hown1 hb4 hz4)
                refine ⟨⟨k + 8, m + 1, by have := HKM.out; omega, by omega, by go_num, ?_, (hb3.alloc hb3.size _).trans hb4⟩, by simp [intOf]; omega⟩
                rw [HS2.out]
                exact hown1
          · have hm : m = L / 8 := by omega
            have hcv := hown.conv
            clear hkm
            go_wp2
            go_ret2
            refine ⟨.inr ⟨hall.out, ?_⟩, hb.trans (hb3.mono hb.size)⟩
            rw [HF.out.1, HF.out.2, ← hm]
            rfl
end Go.Proofs.YtglcbpofinbecaaDoor
