/- HashKeys: a mac is two sums over the padded key; a key that is too long is as good as its sum, and one with bytes 0 behind it as good as it without them. For every input. -/
import Derived.Test.YtejnkchfjkhheaaHsK
import Derived.Maps.AppendAt
namespace Go.Proofs.Ytejnkchfjkhheaa
open Go.ChangeShapes Go.WideShapes Go.ChangeAt Go.ChangeMaps Go.RowKit

/-- append of some bytes: where the new row lies. -/
theorem Hs.appendB {w : World} {ops : Array Oper} {rest : List Oper} {o : Oper} {a : Act} {Q : Exit → Act → World → Prop} (hgd : o.guard = none) (s x : Operand) (hop : o.op = .call { callee := .builtin .append, args := #[s, x], argTypes := #[38, 38] }) (g : Nat) (v : Value) (l : List UInt8) (hs : a.eval s = v) (hrow : Hs.Row w g v l)
    (ad : Addr) (c : Nat) (bs : List UInt8) (hx : a.eval x = .slice (some ad) bs.length c) (hnew : ∀ j u, (bs.map Tx.bv)[j]? = some u → w.cell? (ad.add j) = some u) (hlen : l.length + bs.length ≤ 140737488355328)
    (hK : ∀ v' w' g', Hs.Row w' g' v' (l ++ bs) → (g' = g ∨ g' = w.heap.size) → Hs.But g w w' → wpList Try.prog ops Q rest (a.put o.dst v') w') : wpList Try.prog ops Q (o :: rest) a w := by
  obtain ⟨i0, hi, hz0, hz1, hz2⟩ := info_parts Tx.info8
  refine wpList_append_own_at w hgd s x 38 hop g 5 i0 (.int .u8 0) 1 1 Try.underlying38 hi hz0 hz1 hz2 rfl (by decide) v l.length (l.map Tx.bv) hs hrow.1 ad bs.length c (bs.map Tx.bv) hx (by simp) hnew (by intro u hu; obtain ⟨b, _, rfl⟩ := List.mem_map.1 hu; rfl) (by unfold maxLen; omega) (by omega) (Nat.le_of_lt hrow.lt) ?_
  intro v' w' h1 h2 _ h4
  have hown : Tx.Own w' g v' (l ++ bs) := by simpa [Tx.Own] using h1
  rw [hrow.2] at h2 h4
  rcases h4 with h4 | h4
  · exact hK v' w' g (Hs.Row.of hown h4) (.inl rfl) (Hs.But.of_grown h2)
  · exact hK v' w' w.heap.size (Hs.Row.of hown h4) (.inr rfl) (Hs.But.of_grown h2)
theorem Hs.keyed_sum (κ : Nat) (hκ : κ < 2) (key : List UInt8) (h : Hs.blk κ < key.length) : Hs.keyed κ (Hs.sum κ key) = Hs.keyed κ key := by
  unfold Hs.keyed
  rw [if_pos h, if_neg (by rw [Hs.sum_length]; have := (Hs.blk_le κ hκ).2; omega)]
theorem Hs.mac_long (κ : Nat) (hκ : κ < 2) (key m : List UInt8) (h : Hs.blk κ < key.length) : Hs.mac κ (Hs.sum κ key) m = Hs.mac κ key m := by
  unfold Hs.mac
  rw [Hs.keyed_sum κ hκ key h]
theorem Hs.mac_noughts (κ : Nat) (key m : List UInt8) (j : Nat) (h : key.length + j ≤ Hs.blk κ) : Hs.mac κ (key ++ List.replicate j 0) m = Hs.mac κ key m := by
  have : Hs.keyed κ (key ++ List.replicate j 0) = Hs.keyed κ key := by
    unfold Hs.keyed
    rw [if_neg (by rw [List.length_append, List.length_replicate]; omega), if_neg (by omega)]
    simp only [List.length_append, List.length_replicate, List.append_assoc, List.replicate_append_replicate]
    congr 2
    omega
  unfold Hs.mac
  rw [this]
namespace lwKeys
/-- Two rows of bytes, apart. -/
structure Two (w : World) (g1 g2 : Nat) (x1 x2 : Value) (A D : List UInt8) (wr : World) : Prop where
  r1 : Hs.Row wr g1 x1 A
  r2 : Hs.Row wr g2 x2 D
  ne : g1 ≠ g2
  l1 : w.heap.size ≤ g1
  l2 : w.heap.size ≤ g2
  B : Below w.heap.size w wr
section
variable {w : World} {g1 g2 : Nat} {x1 x2 : Value} {A D : List UInt8} {wr W : World}
theorem Two.below (h : Two w g1 g2 x1 x2 A D wr) (hb : Below wr.heap.size wr W) : Two w g1 g2 x1 x2 A D W := ⟨h.r1.below hb h.r1.lt, h.r2.below hb h.r2.lt, h.ne, h.l1, h.l2, h.B.trans (hb.mono h.B.size)⟩
theorem Two.one {W1 : World} {A' : List UInt8} {g : Nat} {y : Value} (h0 : Two w g1 g2 x1 x2 A D wr) (hb0 : Below wr.heap.size wr W) (r : Hs.Row W1 g y A') (hg : g = g1 ∨ g = W.heap.size) (hb : Hs.But g1 W W1) : Two w g g2 y x2 A' D W1 := by
  have h := h0.below hb0
  have l2 := h.r2.lt
  refine ⟨r, h.r2.but hb h.ne.symm, ?_, ?_, h.l2, h.B.trans (hb.toBelow h.l1 h.B.size)⟩
  · rcases hg with rfl | rfl
    · exact h.ne
    · omega
  · rcases hg with rfl | rfl
    · exact h.l1
    · exact h.B.size
theorem Two.two {W1 : World} {D' : List UInt8} {g : Nat} {y : Value} (h0 : Two w g1 g2 x1 x2 A D wr) (hb0 : Below wr.heap.size wr W) (r : Hs.Row W1 g y D') (hg : g = g2 ∨ g = W.heap.size) (hb : Hs.But g2 W W1) : Two w g1 g x1 y A D' W1 := by
  have h := h0.below hb0
  have l1 := h.r1.lt
  refine ⟨h.r1.but hb h.ne, r, ?_, h.l1, ?_, h.B.trans (hb.toBelow h.l2 h.B.size)⟩
  · rcases hg with rfl | rfl
    · exact h.ne
    · omega
  · rcases hg with rfl | rfl
    · exact h.l2
    · exact h.B.size
end
set_option maxHeartbeats 8000000 in
set_option maxRecDepth 100000 in
theorem walk (key s : ByteArray) (noughts : Int) (w : World) (hk : key.size ≤ 140737488355328) (hs : s.size ≤ 140737488355328) :
    Calls Try.prog 8 #[.string key, .string s, .int .i64 noughts] w fun e w' => e = .returned (.bool true) ∧ Below w.heap.size w w' := by
  have hk2 : key.size ≤ 1152921504606846000 := by omega
  have hs2 : s.size ≤ 1152921504606845000 := by omega
  go_enter Try.func8, Try.ntmps8
  go_wp2_with fail
  refine (Hs.fixed_any _).mono ?_
  rintro e w3 ⟨rfl, b3⟩
  go_wp2_with fail
  go_loopw [7] (fun kv wr => ∃ κ : Nat, κ ≤ 2 ∧ kv = .int .i64 (κ : Int) ∧ Below w.heap.size w wr) (fun kv _ => 2 - (intOf kv).toNat)
  case atStart => exact ⟨0, by omega, rfl, b3⟩
  case round =>
  clear b3
  obtain ⟨κ, hκ, rfl, hB⟩ := hrel
  obtain ⟨w5, rfl⟩ : ∃ w5, w5 = wr := ⟨_, rfl⟩
  by_cases hκ2 : κ < 2
  · by_cases hκ0 : κ = 0
    · obtain rfl : κ = 0 := by omega
      have FMA := Lib.hid (fun W => Hs.Mac_any 0 (by decide) key s hk2 hs2 W)
      obtain ⟨M, hM⟩ : ∃ M, Tx.ba (Hs.mac 0 key.data.toList s.data.toList) = M := ⟨_, rfl⟩
      rw [hM] at FMA
      have HM := Lib.hid hM
      clear hM
      by_cases hlong : 64 < key.size
      · have hlz : (64 : Int) < (key.size : Int) := by omega
        have FSU := Lib.hid (fun W => Hs.FSum_any 0 (by decide) key hk2 W)
        obtain ⟨S, hS⟩ : ∃ S, Tx.ba (Hs.sum 0 key.data.toList) = S := ⟨_, rfl⟩
        rw [hS] at FSU
        have hSl : S.data.toList = Hs.sum 0 key.data.toList := by rw [← hS]; rfl
        have hSs : S.size ≤ 1152921504606846000 := by rw [← hS, Hs.ba_size, Hs.sum_length]; decide
        have FMB := Lib.hid (fun W => by have := Hs.Mac_any 0 (by decide) S s hSs hs2 W; rw [hSl, Hs.mac_long 0 (by decide) key.data.toList s.data.toList (by rw [Tx.len]; exact hlong), HM.out] at this; exact this)
        clear hS hSl hSs
        go_wp2_with fail
        refine (FMA.out _).mono ?_
        rintro e w6 ⟨rfl, b6⟩
        have B6 := hB.trans (b6.mono hB.size)
        go_wp2_with fail
        refine (FSU.out _).mono ?_
        rintro e w7 ⟨rfl, b7⟩
        have B7 := B6.trans (b7.mono B6.size)
        go_wp2_with fail
        refine (FMB.out _).mono ?_
        rintro e w8 ⟨rfl, b8⟩
        have B8 := B7.trans (b8.mono B7.size)
        go_wp2_with fail
        exact ⟨⟨0 + 1, by omega, by go_num, B8⟩, by simp [intOf]⟩
      · have hlz : ¬ (64 : Int) < (key.size : Int) := by omega
        obtain ⟨KB, hKB⟩ : ∃ KB, Hs.keyed 0 key.data.toList = KB := ⟨_, rfl⟩
        have hkl : KB.length = 64 := by rw [← hKB]; exact Hs.keyed_length 0 (by decide) _
        have hkd : KB = key.data.toList ++ List.replicate (64 - key.size) 0 := by
          rw [← hKB, ← Tx.len]
          unfold Hs.keyed
          rw [if_neg (by rw [Tx.len]; exact hlong)]
          rfl
        have HKB := Lib.hid (And.intro hKB hkd)
        clear hKB hkd
        go_wp2_with fail
        refine (FMA.out _).mono ?_
        rintro e w6 ⟨rfl, b6⟩
        have B6 := hB.trans (b6.mono hB.size)
        go_wp2_with fail
        have bA : Below w6.heap.size w6 ((w6.alloc (.cells #[] 5)).alloc (.cells #[] 5)) := ((Below.refl _ _).alloc (Nat.le_refl _) _).alloc (by simp) _
        have hz : (w6.alloc (.cells #[] 5)).heap.size = w6.heap.size + 1 := by simp
        have q2 := Hs.Row.nil (w6.alloc (.cells #[] 5))
        have q1 := (Hs.Row.nil w6).below ((Below.refl (w6.alloc (.cells #[] 5)).heap.size (w6.alloc (.cells #[] 5))).alloc (Nat.le_refl _) (.cells #[] 5)) (by simp)
        rw [hz] at q2
        have hT : Two w w6.heap.size (w6.heap.size + 1) (.slice (some ⟨w6.heap.size, 0, none⟩) 0 0) (.slice (some ⟨w6.heap.size + 1, 0, none⟩) 0 0) [] [] ((w6.alloc (.cells #[] 5)).alloc (.cells #[] 5)) :=
          ⟨q1, q2, by omega, B6.size, by have := B6.size; omega, B6.trans (bA.mono B6.size)⟩
        clear bA hz q1 q2 B6 b6
        generalize w6.heap.size = z1 at hT ⊢
        generalize (w6.alloc (.cells #[] 5)).alloc (.cells #[] 5) = w7 at hT ⊢
        go_loopw [15, 16, 17] (fun xa xb iv wr => ∃ (i g1 g2 : Nat), i ≤ 64 ∧ iv = .int .i64 (i : Int) ∧ Two w g1 g2 xa xb ((KB.take i).map (· ^^^ (92 : UInt8))) ((KB.take i).map (· ^^^ (54 : UInt8))) wr) (fun _ _ iv _ => 64 - (intOf iv).toNat)
        case atStart => exact ⟨0, z1, z1 + 1, by omega, rfl, by simpa using hT⟩
        case round =>
        clear hT
        obtain ⟨i, g1, g2, hi, rfl, hT⟩ := hrel
        obtain ⟨w8, rfl⟩ : ∃ w8, w8 = wr := ⟨_, rfl⟩
        have hl1 : ((KB.take i).map (· ^^^ (92 : UInt8))).length ≤ 64 := by rw [List.length_map, List.length_take]; omega
        have hl2 : ((KB.take i).map (· ^^^ (54 : UInt8))).length ≤ 64 := by rw [List.length_map, List.length_take]; omega
        by_cases hil : i < 64
        · have hiz : (i : Int) < 64 := by omega
          obtain ⟨c, hc⟩ : ∃ c, KB[i]? = some c := ⟨_, List.getElem?_eq_getElem (by omega)⟩
          have s1 : (KB.take (i + 1)).map (· ^^^ (92 : UInt8)) = (KB.take i).map (· ^^^ (92 : UInt8)) ++ [c ^^^ 92] := by rw [List.take_add_one, hc, List.map_append]; rfl
          have s2 : (KB.take (i + 1)).map (· ^^^ (54 : UInt8)) = (KB.take i).map (· ^^^ (54 : UInt8)) ++ [c ^^^ 54] := by rw [List.take_add_one, hc, List.map_append]; rfl
          have e1 : bits .xor .u8 (c.toNat : Int) 92 = ((c ^^^ 92 : UInt8).toNat : Int) := Hs.u8_xor c 92
          have e2 : bits .xor .u8 (c.toNat : Int) 54 = ((c ^^^ 54 : UInt8).toNat : Int) := Hs.u8_xor c 54
          obtain ⟨c1, hc1⟩ : ∃ c1, c ^^^ (92 : UInt8) = c1 := ⟨_, rfl⟩
          obtain ⟨c2, hc2⟩ : ∃ c2, c ^^^ (54 : UInt8) = c2 := ⟨_, rfl⟩
          rw [hc1] at s1 e1
          rw [hc2] at s2 e2
          have HS1 := Lib.hid s1
          have HS2 := Lib.hid s2
          have hcase : (∃ hh : i < key.size, key[i] = c) ∨ (key.size ≤ i ∧ c = 0) := by
            rw [HKB.out.2] at hc
            by_cases hh : i < key.size
            · left
              rw [List.getElem?_append_left (by rw [Tx.len]; exact hh), List.getElem?_eq_getElem (by rw [Tx.len]; exact hh)] at hc
              refine ⟨hh, ?_⟩
              rw [← Tx.get key i hh]
              exact Option.some.inj hc
            · right
              rw [List.getElem?_append_right (by rw [Tx.len]; omega), List.getElem?_replicate, Tx.len, if_pos (by omega)] at hc
              exact ⟨by omega, (Option.some.inj hc).symm⟩
          obtain ⟨A, hA⟩ : ∃ A, (KB.take i).map (· ^^^ (92 : UInt8)) = A := ⟨_, rfl⟩
          obtain ⟨D, hD⟩ : ∃ D, (KB.take i).map (· ^^^ (54 : UInt8)) = D := ⟨_, rfl⟩
          rw [hA] at hT hl1 HS1
          rw [hD] at hT hl2 HS2
          clear s1 s2 hc hA hD
          rcases hcase with ⟨hh, hkc⟩ | ⟨hh, rfl⟩
          · clear hc1 hc2
            have hhz : (i : Int) < (key.size : Int) := by omega
            have hix : key[i]? = some c := by rw [← hkc]; exact getElem?_pos key i hh
            go_wp2_with (at_builtin; first | (refine Hs.appendB rfl _ _ rfl _ _ A rfl (hT.r1.below ((Below.refl w8.heap.size w8).alloc (Nat.le_refl _) _) hT.r1.lt) ⟨w8.heap.size, 0, none⟩ 1 [c1] rfl (World.news_of_block (heap_alloc_new w8 _)) (by simp; omega) ?_; intro y1 w9 g1' r9 hg9 b9; have hT9 := hT.one ((Below.refl w8.heap.size w8).alloc (Nat.le_refl _) _) r9 hg9 b9) | (refine Hs.appendB rfl _ _ rfl _ _ D rfl (hT9.r2.below ((Below.refl w9.heap.size w9).alloc (Nat.le_refl _) _) hT9.r2.lt) ⟨w9.heap.size, 0, none⟩ 1 [c2] rfl (World.news_of_block (heap_alloc_new w9 _)) (by simp; omega) ?_; intro y2 w10 g2' r10 hg10 b10; have hT10 := hT9.two ((Below.refl w9.heap.size w9).alloc (Nat.le_refl _) _) r10 hg10 b10))
            rw [← HS1.out, ← HS2.out] at hT10
            exact ⟨⟨i + 1, g1', g2', by omega, by go_num, hT10⟩, by simp [intOf]; omega⟩
          · have hhz : ¬ (i : Int) < (key.size : Int) := by omega
            obtain rfl : c1 = 92 := by rw [← hc1]; rfl
            obtain rfl : c2 = 54 := by rw [← hc2]; rfl
            go_wp2_with (at_builtin; first | (refine Hs.appendB rfl _ _ rfl _ _ A rfl (hT.r1.below ((Below.refl w8.heap.size w8).alloc (Nat.le_refl _) _) hT.r1.lt) ⟨w8.heap.size, 0, none⟩ 1 [92] rfl (World.news_of_block (heap_alloc_new w8 _)) (by simp; omega) ?_; intro y1 w9 g1' r9 hg9 b9; have hT9 := hT.one ((Below.refl w8.heap.size w8).alloc (Nat.le_refl _) _) r9 hg9 b9) | (refine Hs.appendB rfl _ _ rfl _ _ D rfl (hT9.r2.below ((Below.refl w9.heap.size w9).alloc (Nat.le_refl _) _) hT9.r2.lt) ⟨w9.heap.size, 0, none⟩ 1 [54] rfl (World.news_of_block (heap_alloc_new w9 _)) (by simp; omega) ?_; intro y2 w10 g2' r10 hg10 b10; have hT10 := hT9.two ((Below.refl w9.heap.size w9).alloc (Nat.le_refl _) _) r10 hg10 b10))
            rw [← HS1.out, ← HS2.out] at hT10
            exact ⟨⟨i + 1, g1', g2', by omega, by go_num, hT10⟩, by simp [intOf]; omega⟩
        · obtain rfl : i = 64 := by omega
          rw [List.take_of_length_le (by omega)] at hT
          clear hl1 hl2
          obtain ⟨A, hA⟩ : ∃ A, KB.map (· ^^^ (92 : UInt8)) = A := ⟨_, rfl⟩
          obtain ⟨D, hD⟩ : ∃ D, KB.map (· ^^^ (54 : UInt8)) = D := ⟨_, rfl⟩
          have lA : A.length = 64 := by rw [← hA, List.length_map, hkl]
          have lD : D.length = 64 := by rw [← hD, List.length_map, hkl]
          rw [hA, hD] at hT
          obtain ⟨I, hI⟩ : ∃ I, Hs.sum 0 (D ++ s.data.toList) = I := ⟨_, rfl⟩
          have lI : I.length ≤ 64 := by rw [← hI, Hs.sum_length]; decide
          have hmac : Hs.mac 0 key.data.toList s.data.toList = Hs.sum 0 (A ++ I) := by rw [← hI, ← hA, ← hD, ← HKB.out.1]; rfl
          have F1 := Lib.hid (fun (W : World) (T : ByteArray) (hT : T.data.toList = D ++ s.data.toList) => (by
            have hTs : T.size ≤ 1152921504606846000 := by rw [← Tx.len, hT, List.length_append, lD, Tx.len]; omega
            have := Hs.FSum_any 0 (by decide) T hTs W
            rw [hT, hI] at this
            exact this : Calls Try.prog 11 #[.int .i64 0, .string T] W fun e w' => e = .returned (.tuple #[.string (Tx.ba I), .int .i64 0]) ∧ Below W.heap.size W w'))
          have F2 := Lib.hid (fun (W : World) (T : ByteArray) (hT : T.data.toList = A ++ I) => (by
            have hTs : T.size ≤ 1152921504606846000 := by rw [← Tx.len, hT, List.length_append, lA]; omega
            have := Hs.FSum_any 0 (by decide) T hTs W
            rw [hT, ← hmac, HM.out] at this
            exact this : Calls Try.prog 11 #[.int .i64 0, .string T] W fun e w' => e = .returned (.tuple #[.string M, .int .i64 0]) ∧ Below W.heap.size W w'))
          have F3 := Lib.hid (fun (W : World) (x : ByteArray) (j : Nat) (hx : x.data.toList = key.data.toList ++ List.replicate j 0) (hj : key.size + j ≤ 64) => (by
            have hxs : x.size ≤ 1152921504606846000 := by rw [← Tx.len, hx, List.length_append, List.length_replicate, Tx.len]; omega
            have := Hs.Mac_any 0 (by decide) x s hxs hs2 W
            rw [hx, Hs.mac_noughts 0 key.data.toList s.data.toList j (by rw [Tx.len]; exact hj), HM.out] at this
            exact this : Calls Try.prog 14 #[.int .i64 0, .string x, .string s] W fun e w' => e = .returned (.tuple #[.string M, .int .i64 0]) ∧ Below W.heap.size W w'))
          have hcv1 := hT.r2.conv
          have zD : (Tx.ba D).size ≤ 128 := by rw [Hs.ba_size, lD]; decide
          have zA : (Tx.ba A).size ≤ 128 := by rw [Hs.ba_size, lA]; decide
          have zI : (Tx.ba I).size ≤ 128 := by rw [Hs.ba_size]; omega
          clear hA hD hI hmac
          go_wp2_with fail
          refine (F1.out _ _ (by simp [Tx.ba])).mono ?_
          rintro e w9 ⟨rfl, b9⟩
          have hT9 := hT.below b9
          have hcv2 := hT9.r1.conv
          clear hT hcv1 b9
          go_wp2_with fail
          refine (F2.out _ _ (by simp [Tx.ba])).mono ?_
          rintro e w10 ⟨rfl, b10⟩
          have B10 := hT9.B.trans (b10.mono hT9.B.size)
          clear hT9 hcv2 b10 zD zA zI
          go_wp2_with fail
          go_loopw [23, 24] (fun xv jv wr => ∃ (j : Nat) (x : ByteArray), xv = .string x ∧ jv = .int .i64 (j : Int) ∧ x.data.toList = key.data.toList ++ List.replicate j 0 ∧ key.size + j ≤ 64 ∧ Below w.heap.size w wr) (fun _ jv _ => 64 - (intOf jv).toNat)
          case atStart => exact ⟨0, key, rfl, rfl, by simp, by omega, B10⟩
          case round =>
          clear B10
          obtain ⟨j, x, rfl, rfl, hx, hj, B10⟩ := hrel
          obtain ⟨w11, rfl⟩ : ∃ w11, w11 = wr := ⟨_, rfl⟩
          have hxs : x.size = key.size + j := by rw [← Tx.len, hx, List.length_append, List.length_replicate, Tx.len]
          have HX := Lib.hid hx
          have hj2 : x.size < 64 → key.size + (j + 1) ≤ 64 := by omega
          have HJ2 := Lib.hid hj2
          clear hx hxs hj2
          by_cases m1 : (j : Int) < noughts
          · by_cases m2 : x.size < 64
            · have m3 : (x.size : Int) < 64 := by omega
              have HX2 := Lib.hid (show (x ++ ⟨#[0]⟩ : ByteArray).data.toList = key.data.toList ++ List.replicate (j + 1) 0 by
                rw [List.replicate_succ', ← List.append_assoc, ← HX.out]
                simp)
              go_wp2_with fail
              have hj3 := HJ2.out m2
              exact ⟨⟨j + 1, _, rfl, by go_num, HX2.out, hj3, B10⟩, by simp [intOf]; omega⟩
            · have m3 : ¬ (x.size : Int) < 64 := by omega
              go_wp2_with fail
              refine (F3.out _ _ _ HX.out hj).mono ?_
              rintro e w12 ⟨rfl, b12⟩
              have B12 := B10.trans (b12.mono B10.size)
              go_wp2_with fail
              exact ⟨⟨0 + 1, by omega, by go_num, B12⟩, by simp [intOf]⟩
          · go_wp2_with fail
            refine (F3.out _ _ _ HX.out hj).mono ?_
            rintro e w12 ⟨rfl, b12⟩
            have B12 := B10.trans (b12.mono B10.size)
            go_wp2_with fail
            exact ⟨⟨0 + 1, by omega, by go_num, B12⟩, by simp [intOf]⟩
    · obtain rfl : κ = 1 := by omega
      have FMA := Lib.hid (fun W => Hs.Mac_any 1 (by decide) key s hk2 hs2 W)
      obtain ⟨M, hM⟩ : ∃ M, Tx.ba (Hs.mac 1 key.data.toList s.data.toList) = M := ⟨_, rfl⟩
      rw [hM] at FMA
      have HM := Lib.hid hM
      clear hM
      by_cases hlong : 128 < key.size
      · have hlz : (128 : Int) < (key.size : Int) := by omega
        have FSU := Lib.hid (fun W => Hs.FSum_any 1 (by decide) key hk2 W)
        obtain ⟨S, hS⟩ : ∃ S, Tx.ba (Hs.sum 1 key.data.toList) = S := ⟨_, rfl⟩
        rw [hS] at FSU
        have hSl : S.data.toList = Hs.sum 1 key.data.toList := by rw [← hS]; rfl
        have hSs : S.size ≤ 1152921504606846000 := by rw [← hS, Hs.ba_size, Hs.sum_length]; decide
        have FMB := Lib.hid (fun W => by have := Hs.Mac_any 1 (by decide) S s hSs hs2 W; rw [hSl, Hs.mac_long 1 (by decide) key.data.toList s.data.toList (by rw [Tx.len]; exact hlong), HM.out] at this; exact this)
        clear hS hSl hSs
        go_wp2_with fail
        refine (FMA.out _).mono ?_
        rintro e w6 ⟨rfl, b6⟩
        have B6 := hB.trans (b6.mono hB.size)
        go_wp2_with fail
        refine (FSU.out _).mono ?_
        rintro e w7 ⟨rfl, b7⟩
        have B7 := B6.trans (b7.mono B6.size)
        go_wp2_with fail
        refine (FMB.out _).mono ?_
        rintro e w8 ⟨rfl, b8⟩
        have B8 := B7.trans (b8.mono B7.size)
        go_wp2_with fail
        exact ⟨⟨1 + 1, by omega, by go_num, B8⟩, by simp [intOf]⟩
      · have hlz : ¬ (128 : Int) < (key.size : Int) := by omega
        obtain ⟨KB, hKB⟩ : ∃ KB, Hs.keyed 1 key.data.toList = KB := ⟨_, rfl⟩
        have hkl : KB.length = 128 := by rw [← hKB]; exact Hs.keyed_length 1 (by decide) _
        have hkd : KB = key.data.toList ++ List.replicate (128 - key.size) 0 := by
          rw [← hKB, ← Tx.len]
          unfold Hs.keyed
          rw [if_neg (by rw [Tx.len]; exact hlong)]
          rfl
        have HKB := Lib.hid (And.intro hKB hkd)
        clear hKB hkd
        go_wp2_with fail
        refine (FMA.out _).mono ?_
        rintro e w6 ⟨rfl, b6⟩
        have B6 := hB.trans (b6.mono hB.size)
        go_wp2_with fail
        have bA : Below w6.heap.size w6 ((w6.alloc (.cells #[] 5)).alloc (.cells #[] 5)) := ((Below.refl _ _).alloc (Nat.le_refl _) _).alloc (by simp) _
        have hz : (w6.alloc (.cells #[] 5)).heap.size = w6.heap.size + 1 := by simp
        have q2 := Hs.Row.nil (w6.alloc (.cells #[] 5))
        have q1 := (Hs.Row.nil w6).below ((Below.refl (w6.alloc (.cells #[] 5)).heap.size (w6.alloc (.cells #[] 5))).alloc (Nat.le_refl _) (.cells #[] 5)) (by simp)
        rw [hz] at q2
        have hT : Two w w6.heap.size (w6.heap.size + 1) (.slice (some ⟨w6.heap.size, 0, none⟩) 0 0) (.slice (some ⟨w6.heap.size + 1, 0, none⟩) 0 0) [] [] ((w6.alloc (.cells #[] 5)).alloc (.cells #[] 5)) :=
          ⟨q1, q2, by omega, B6.size, by have := B6.size; omega, B6.trans (bA.mono B6.size)⟩
        clear bA hz q1 q2 B6 b6
        generalize w6.heap.size = z1 at hT ⊢
        generalize (w6.alloc (.cells #[] 5)).alloc (.cells #[] 5) = w7 at hT ⊢
        go_loopw [15, 16, 17] (fun xa xb iv wr => ∃ (i g1 g2 : Nat), i ≤ 128 ∧ iv = .int .i64 (i : Int) ∧ Two w g1 g2 xa xb ((KB.take i).map (· ^^^ (92 : UInt8))) ((KB.take i).map (· ^^^ (54 : UInt8))) wr) (fun _ _ iv _ => 128 - (intOf iv).toNat)
        case atStart => exact ⟨0, z1, z1 + 1, by omega, rfl, by simpa using hT⟩
        case round =>
        clear hT
        obtain ⟨i, g1, g2, hi, rfl, hT⟩ := hrel
        obtain ⟨w8, rfl⟩ : ∃ w8, w8 = wr := ⟨_, rfl⟩
        have hl1 : ((KB.take i).map (· ^^^ (92 : UInt8))).length ≤ 128 := by rw [List.length_map, List.length_take]; omega
        have hl2 : ((KB.take i).map (· ^^^ (54 : UInt8))).length ≤ 128 := by rw [List.length_map, List.length_take]; omega
        by_cases hil : i < 128
        · have hiz : (i : Int) < 128 := by omega
          obtain ⟨c, hc⟩ : ∃ c, KB[i]? = some c := ⟨_, List.getElem?_eq_getElem (by omega)⟩
          have s1 : (KB.take (i + 1)).map (· ^^^ (92 : UInt8)) = (KB.take i).map (· ^^^ (92 : UInt8)) ++ [c ^^^ 92] := by rw [List.take_add_one, hc, List.map_append]; rfl
          have s2 : (KB.take (i + 1)).map (· ^^^ (54 : UInt8)) = (KB.take i).map (· ^^^ (54 : UInt8)) ++ [c ^^^ 54] := by rw [List.take_add_one, hc, List.map_append]; rfl
          have e1 : bits .xor .u8 (c.toNat : Int) 92 = ((c ^^^ 92 : UInt8).toNat : Int) := Hs.u8_xor c 92
          have e2 : bits .xor .u8 (c.toNat : Int) 54 = ((c ^^^ 54 : UInt8).toNat : Int) := Hs.u8_xor c 54
          obtain ⟨c1, hc1⟩ : ∃ c1, c ^^^ (92 : UInt8) = c1 := ⟨_, rfl⟩
          obtain ⟨c2, hc2⟩ : ∃ c2, c ^^^ (54 : UInt8) = c2 := ⟨_, rfl⟩
          rw [hc1] at s1 e1
          rw [hc2] at s2 e2
          have HS1 := Lib.hid s1
          have HS2 := Lib.hid s2
          have hcase : (∃ hh : i < key.size, key[i] = c) ∨ (key.size ≤ i ∧ c = 0) := by
            rw [HKB.out.2] at hc
            by_cases hh : i < key.size
            · left
              rw [List.getElem?_append_left (by rw [Tx.len]; exact hh), List.getElem?_eq_getElem (by rw [Tx.len]; exact hh)] at hc
              refine ⟨hh, ?_⟩
              rw [← Tx.get key i hh]
              exact Option.some.inj hc
            · right
              rw [List.getElem?_append_right (by rw [Tx.len]; omega), List.getElem?_replicate, Tx.len, if_pos (by omega)] at hc
              exact ⟨by omega, (Option.some.inj hc).symm⟩
          obtain ⟨A, hA⟩ : ∃ A, (KB.take i).map (· ^^^ (92 : UInt8)) = A := ⟨_, rfl⟩
          obtain ⟨D, hD⟩ : ∃ D, (KB.take i).map (· ^^^ (54 : UInt8)) = D := ⟨_, rfl⟩
          rw [hA] at hT hl1 HS1
          rw [hD] at hT hl2 HS2
          clear s1 s2 hc hA hD
          rcases hcase with ⟨hh, hkc⟩ | ⟨hh, rfl⟩
          · clear hc1 hc2
            have hhz : (i : Int) < (key.size : Int) := by omega
            have hix : key[i]? = some c := by rw [← hkc]; exact getElem?_pos key i hh
            go_wp2_with (at_builtin; first | (refine Hs.appendB rfl _ _ rfl _ _ A rfl (hT.r1.below ((Below.refl w8.heap.size w8).alloc (Nat.le_refl _) _) hT.r1.lt) ⟨w8.heap.size, 0, none⟩ 1 [c1] rfl (World.news_of_block (heap_alloc_new w8 _)) (by simp; omega) ?_; intro y1 w9 g1' r9 hg9 b9; have hT9 := hT.one ((Below.refl w8.heap.size w8).alloc (Nat.le_refl _) _) r9 hg9 b9) | (refine Hs.appendB rfl _ _ rfl _ _ D rfl (hT9.r2.below ((Below.refl w9.heap.size w9).alloc (Nat.le_refl _) _) hT9.r2.lt) ⟨w9.heap.size, 0, none⟩ 1 [c2] rfl (World.news_of_block (heap_alloc_new w9 _)) (by simp; omega) ?_; intro y2 w10 g2' r10 hg10 b10; have hT10 := hT9.two ((Below.refl w9.heap.size w9).alloc (Nat.le_refl _) _) r10 hg10 b10))
            rw [← HS1.out, ← HS2.out] at hT10
            exact ⟨⟨i + 1, g1', g2', by omega, by go_num, hT10⟩, by simp [intOf]; omega⟩
          · have hhz : ¬ (i : Int) < (key.size : Int) := by omega
            obtain rfl : c1 = 92 := by rw [← hc1]; rfl
            obtain rfl : c2 = 54 := by rw [← hc2]; rfl
            go_wp2_with (at_builtin; first | (refine Hs.appendB rfl _ _ rfl _ _ A rfl (hT.r1.below ((Below.refl w8.heap.size w8).alloc (Nat.le_refl _) _) hT.r1.lt) ⟨w8.heap.size, 0, none⟩ 1 [92] rfl (World.news_of_block (heap_alloc_new w8 _)) (by simp; omega) ?_; intro y1 w9 g1' r9 hg9 b9; have hT9 := hT.one ((Below.refl w8.heap.size w8).alloc (Nat.le_refl _) _) r9 hg9 b9) | (refine Hs.appendB rfl _ _ rfl _ _ D rfl (hT9.r2.below ((Below.refl w9.heap.size w9).alloc (Nat.le_refl _) _) hT9.r2.lt) ⟨w9.heap.size, 0, none⟩ 1 [54] rfl (World.news_of_block (heap_alloc_new w9 _)) (by simp; omega) ?_; intro y2 w10 g2' r10 hg10 b10; have hT10 := hT9.two ((Below.refl w9.heap.size w9).alloc (Nat.le_refl _) _) r10 hg10 b10))
            rw [← HS1.out, ← HS2.out] at hT10
            exact ⟨⟨i + 1, g1', g2', by omega, by go_num, hT10⟩, by simp [intOf]; omega⟩
        · obtain rfl : i = 128 := by omega
          rw [List.take_of_length_le (by omega)] at hT
          clear hl1 hl2
          obtain ⟨A, hA⟩ : ∃ A, KB.map (· ^^^ (92 : UInt8)) = A := ⟨_, rfl⟩
          obtain ⟨D, hD⟩ : ∃ D, KB.map (· ^^^ (54 : UInt8)) = D := ⟨_, rfl⟩
          have lA : A.length = 128 := by rw [← hA, List.length_map, hkl]
          have lD : D.length = 128 := by rw [← hD, List.length_map, hkl]
          rw [hA, hD] at hT
          obtain ⟨I, hI⟩ : ∃ I, Hs.sum 1 (D ++ s.data.toList) = I := ⟨_, rfl⟩
          have lI : I.length ≤ 128 := by rw [← hI, Hs.sum_length]; decide
          have hmac : Hs.mac 1 key.data.toList s.data.toList = Hs.sum 1 (A ++ I) := by rw [← hI, ← hA, ← hD, ← HKB.out.1]; rfl
          have F1 := Lib.hid (fun (W : World) (T : ByteArray) (hT : T.data.toList = D ++ s.data.toList) => (by
            have hTs : T.size ≤ 1152921504606846000 := by rw [← Tx.len, hT, List.length_append, lD, Tx.len]; omega
            have := Hs.FSum_any 1 (by decide) T hTs W
            rw [hT, hI] at this
            exact this : Calls Try.prog 11 #[.int .i64 1, .string T] W fun e w' => e = .returned (.tuple #[.string (Tx.ba I), .int .i64 0]) ∧ Below W.heap.size W w'))
          have F2 := Lib.hid (fun (W : World) (T : ByteArray) (hT : T.data.toList = A ++ I) => (by
            have hTs : T.size ≤ 1152921504606846000 := by rw [← Tx.len, hT, List.length_append, lA]; omega
            have := Hs.FSum_any 1 (by decide) T hTs W
            rw [hT, ← hmac, HM.out] at this
            exact this : Calls Try.prog 11 #[.int .i64 1, .string T] W fun e w' => e = .returned (.tuple #[.string M, .int .i64 0]) ∧ Below W.heap.size W w'))
          have F3 := Lib.hid (fun (W : World) (x : ByteArray) (j : Nat) (hx : x.data.toList = key.data.toList ++ List.replicate j 0) (hj : key.size + j ≤ 128) => (by
            have hxs : x.size ≤ 1152921504606846000 := by rw [← Tx.len, hx, List.length_append, List.length_replicate, Tx.len]; omega
            have := Hs.Mac_any 1 (by decide) x s hxs hs2 W
            rw [hx, Hs.mac_noughts 1 key.data.toList s.data.toList j (by rw [Tx.len]; exact hj), HM.out] at this
            exact this : Calls Try.prog 14 #[.int .i64 1, .string x, .string s] W fun e w' => e = .returned (.tuple #[.string M, .int .i64 0]) ∧ Below W.heap.size W w'))
          have hcv1 := hT.r2.conv
          have zD : (Tx.ba D).size ≤ 128 := by rw [Hs.ba_size, lD]; decide
          have zA : (Tx.ba A).size ≤ 128 := by rw [Hs.ba_size, lA]; decide
          have zI : (Tx.ba I).size ≤ 128 := by rw [Hs.ba_size]; omega
          clear hA hD hI hmac
          go_wp2_with fail
          refine (F1.out _ _ (by simp [Tx.ba])).mono ?_
          rintro e w9 ⟨rfl, b9⟩
          have hT9 := hT.below b9
          have hcv2 := hT9.r1.conv
          clear hT hcv1 b9
          go_wp2_with fail
          refine (F2.out _ _ (by simp [Tx.ba])).mono ?_
          rintro e w10 ⟨rfl, b10⟩
          have B10 := hT9.B.trans (b10.mono hT9.B.size)
          clear hT9 hcv2 b10 zD zA zI
          go_wp2_with fail
          go_loopw [23, 24] (fun xv jv wr => ∃ (j : Nat) (x : ByteArray), xv = .string x ∧ jv = .int .i64 (j : Int) ∧ x.data.toList = key.data.toList ++ List.replicate j 0 ∧ key.size + j ≤ 128 ∧ Below w.heap.size w wr) (fun _ jv _ => 128 - (intOf jv).toNat)
          case atStart => exact ⟨0, key, rfl, rfl, by simp, by omega, B10⟩
          case round =>
          clear B10
          obtain ⟨j, x, rfl, rfl, hx, hj, B10⟩ := hrel
          obtain ⟨w11, rfl⟩ : ∃ w11, w11 = wr := ⟨_, rfl⟩
          have hxs : x.size = key.size + j := by rw [← Tx.len, hx, List.length_append, List.length_replicate, Tx.len]
          have HX := Lib.hid hx
          have hj2 : x.size < 128 → key.size + (j + 1) ≤ 128 := by omega
          have HJ2 := Lib.hid hj2
          clear hx hxs hj2
          by_cases m1 : (j : Int) < noughts
          · by_cases m2 : x.size < 128
            · have m3 : (x.size : Int) < 128 := by omega
              have HX2 := Lib.hid (show (x ++ ⟨#[0]⟩ : ByteArray).data.toList = key.data.toList ++ List.replicate (j + 1) 0 by
                rw [List.replicate_succ', ← List.append_assoc, ← HX.out]
                simp)
              go_wp2_with fail
              have hj3 := HJ2.out m2
              exact ⟨⟨j + 1, _, rfl, by go_num, HX2.out, hj3, B10⟩, by simp [intOf]; omega⟩
            · have m3 : ¬ (x.size : Int) < 128 := by omega
              go_wp2_with fail
              refine (F3.out _ _ _ HX.out hj).mono ?_
              rintro e w12 ⟨rfl, b12⟩
              have B12 := B10.trans (b12.mono B10.size)
              go_wp2_with fail
              exact ⟨⟨1 + 1, by omega, by go_num, B12⟩, by simp [intOf]⟩
          · go_wp2_with fail
            refine (F3.out _ _ _ HX.out hj).mono ?_
            rintro e w12 ⟨rfl, b12⟩
            have B12 := B10.trans (b12.mono B10.size)
            go_wp2_with fail
            exact ⟨⟨1 + 1, by omega, by go_num, B12⟩, by simp [intOf]⟩
  · obtain rfl : κ = 2 := by omega
    go_wp2_with fail
    go_ret
    exact ⟨rfl, hB⟩
theorem reads (os : Os) {H : Type} (enc : TypeId × Value → H) : ∃ places, DataW.whole enc Try.prog ((Hs.world os).forCall (fun _ _ => 0) ⟨#[], #[.string ⟨#[]⟩, .string ⟨#[]⟩, .int .i64 0], []⟩).memory Try.f8.params.toList Rows.hashKeysSpec.vars false (#[.string ⟨#[]⟩, .string ⟨#[]⟩, .int .i64 0] : Array Value).toList 8 = some ([.lit (.string []), .lit (.string []), .lit (.int .i64 0)], [], places) :=
  ⟨[], by kernel_rfl⟩
set_option maxHeartbeats 4000000 in
set_option maxRecDepth 100000 in
theorem lifted (os : Os) (started : os.Started) (H : Type) (enc : TypeId × Value → H) (F : Stop.Interp) :
    ReturnsInHanded {} Try.checked os 8 .any ((OpenSpec.ofChange Rows.hashKeysSpec).preRow enc Try.prog Try.f8 Rows.hashKeysRow.domain false Rows.hashKeysRow.laid) (((OpenSpec.ofChange Rows.hashKeysSpec).at F).post enc Try.prog Try.f8 false true false false) := by
  obtain ⟨places, hx⟩ := reads os enc
  refine returnsInHanded_of_row (C := Try.checked) (s := (OpenSpec.ofChange Rows.hashKeysSpec)) Hs.own started (by kernel_rfl) Try.func8
    (witness_row_atRef (enc := enc) (C := Try.checked) false (Hs.world os) #[.string ⟨#[]⟩, .string ⟨#[]⟩, .int .i64 0] rfl (by kernel_rfl) (by kernel_rfl) (by kernel_rfl)
      (OpenSpec.preRow_of_cond 8 hx (by kernel_rfl) (fun k hk => by cases hk) (by kernel_rfl) (Hs.laid_met os _))) ?_
  intro W base args ds gs before hval0 hW _ hk hsz hL _ _
  have hval : ∀ (j : Nat) t v, Try.f8.params[j]? = some t → args[j]? = some v → Value.okWide Try.prog W .any base t v := hval0
  have hW' := hW
  obtain ⟨p, q, hA0, hV0, rfl, _, _⟩ := hW
  have hA : DataW.TrodAll enc Try.prog W 0 (fun _ => true) true Try.f8.params.toList args.toList ds p := hA0
  rw [Try.params8] at hA hval
  obtain ⟨v0, vs0, d0, ds0, p0, q0, hargs, rfl, rfl, h0, r0⟩ := trodAll_cons hA
  obtain ⟨v1, vs1, d1, ds1, p1, q1, rfl, rfl, rfl, h1, r1⟩ := trodAll_cons r0
  obtain ⟨v2, vs2, d2, ds2, p2, q2, rfl, rfl, rfl, h2, r2⟩ := trodAll_cons r1
  obtain ⟨rfl, rfl, rfl⟩ := trodAll_nil r2
  obtain rfl : args = #[v0, v1, v2] := by cases args; simp_all
  obtain ⟨rfl, rfl⟩ := trodVars_none hV0
  obtain ⟨a, rfl, rfl, rfl, wa⟩ := open_string Try.underlying9 (hval 0 9 v0 rfl rfl) h0
  have za : a.size ≤ 140737488355328 := by
    have := sized_string hsz (j := 0) (by rw [Try.params8]; rfl) rfl
    rw [Tx.len] at this; unfold reachBytes at this; omega
  obtain ⟨b, rfl, rfl, rfl, wb⟩ := open_string Try.underlying9 (hval 1 9 v1 rfl rfl) h1
  have zb : b.size ≤ 140737488355328 := by
    have := sized_string hsz (j := 1) (by rw [Try.params8]; rfl) rfl
    rw [Tx.len] at this; unfold reachBytes at this; omega
  obtain ⟨c, rfl, rfl, rfl, wc⟩ := open_int Try.underlying3 (hval 2 3 v2 rfl rfl) h2
  clear hA0 hV0 hval0
  refine (walk a b c W za zb).mono ?_
  rintro e W' ⟨rfl, bel⟩
  have e1 : ((OpenSpec.ofChange Rows.hashKeysSpec).at F).fn H ([.lit (.string a.data.toList), .lit (.string b.data.toList), .lit (.int .i64 c)] ++ []) = { results := [.lit (.bool true)], args := [.lit (.string a.data.toList), .lit (.string b.data.toList), .lit (.int .i64 c)] } := rfl
  refine ⟨_, rfl, _, _, _, [], [], [], hW', ?_, ?_, ?_, bel.frame _, fun h => by cases h⟩
  · rw [e1]; exact trodAll_cons_mk (shut_bool Try.underlying4 _) trodAll_mk0
  · rw [e1]; exact trodAll_cons_mk (shut_string Try.underlying9 wa) (trodAll_cons_mk (shut_string Try.underlying9 wb) (trodAll_cons_mk (shut_int Try.underlying3 wc) trodAll_mk0))
  · rw [e1]; rfl

theorem said : Rows.HashKeysSaid :=
  OpenClaim.holds_of_cond 8 Try.f8 rfl rfl rfl rfl rfl rfl rfl ⟨rfl, rfl, rfl, rfl, rfl⟩ rfl rfl rfl rfl rfl (by kernel_rfl) Try.func8 (by kernel_rfl)
    (of_decide_eq_true (by kernel_rfl)) (by unfold Func.isWrapper; rw [if_neg (of_decide_eq_false (by kernel_rfl))]; exact ⟨rfl, rfl⟩)
    (fun os started H enc _ F => by rw [OpenClaim.pre_eq_preRow]; exact lifted os started H enc F)

end lwKeys
end Go.Proofs.Ytejnkchfjkhheaa
