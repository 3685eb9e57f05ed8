/- HashBuilt: a mac is what two hashes make that are written in pieces: the padded key first, whatever else is summed between. Where the input's bulk is at most 1048576. -/
import Derived.Test.YtejnkchfjkhheaaHsK
import Derived.Deep.CutRange
namespace Go.Proofs.Ytejnkchfjkhheaa
open Go.ChangeShapes Go.WideShapes Go.ChangeAt Go.ChangeMaps Go.RowKit

theorem Hs.conv_one (w : World) (c : UInt8) : (convert 38 9 (.slice (some ⟨w.heap.size, 0, none⟩) 1 1)).run Try.prog (w.alloc (.cells #[.int .u8 (c.toNat : Int)] 5)) = .ok (.string (Tx.ba [c])) (w.alloc (.cells #[.int .u8 (c.toNat : Int)] 5)) := by
  have own : Tx.Own (w.alloc (.cells #[.int .u8 (c.toNat : Int)] 5)) w.heap.size (.slice (some ⟨w.heap.size, 0, none⟩) 1 1) [c] :=
    ⟨rfl, .inr ⟨w.heap.size, 1, #[.int .u8 (c.toNat : Int)], rfl, Nat.le_refl _, heap_alloc_new _ _, Nat.le_refl _, by unfold maxLen; omega, rfl, rfl⟩⟩
  exact own.conv
namespace lwBuilt
structure Tw (w : World) (p q κ : Nat) (m o : List UInt8) (wr : World) : Prop where
  ip : Hs.Is wr p κ m
  iq : Hs.Is wr q κ o
  B : Below w.heap.size w wr
theorem Tw.below {w : World} {p q κ : Nat} {m o : List UInt8} {wr W : World} (h : Tw w p q κ m o wr) (hb : Below wr.heap.size wr W) : Tw w p q κ m o W := ⟨h.ip.below hb h.ip.lt, h.iq.below hb h.iq.lt, h.B.trans (hb.mono h.B.size)⟩
structure Pi (w : World) (p q κ g : Nat) (xv : Value) (m o E : List UInt8) (wr : World) : Prop where
  ip : Hs.Is wr p κ m
  iq : Hs.Is wr q κ o
  r : Hs.Row wr g xv E
  np : p ≠ g
  nq : q ≠ g
  lg : w.heap.size ≤ g
  B : Below w.heap.size w wr
set_option maxHeartbeats 8000000 in
set_option maxRecDepth 100000 in
theorem no (kind : Int) (h0 : kind ≠ 0) (h1 : kind ≠ 1) (key : ByteArray) (v : Value) (w : World) :
    Calls Try.prog 9 #[.int .i64 kind, .string key, v] w fun e w' => e = .returned (.bool true) ∧ Below w.heap.size w w' := by
  have DN := Lib.hid (Hs.New_no kind h0 h1)
  have t0 : (kind != 0) = true := by rw [bne_iff_ne]; exact h0
  have t1 : (kind != 1) = true := by rw [bne_iff_ne]; exact h1
  go_enter Try.func9, Try.ntmps9
  go_wp2_with fail
  refine (Hs.fixed_any _).mono ?_
  rintro e w1 ⟨rfl, b1⟩
  go_wp2_with fail
  refine (DN.out _).mono ?_
  rintro e w2 ⟨rfl, rfl⟩
  go_wp2_with fail
  refine (DN.out _).mono ?_
  rintro e w3 ⟨rfl, rfl⟩
  go_wp2_with fail
  go_ret
  exact ⟨rfl, b1⟩
set_option maxHeartbeats 8000000 in
set_option maxRecDepth 100000 in
theorem yes0 (key : ByteArray) (hk : key.size ≤ 1048576) (a : Option Addr) (n cap : Nat) (l : List ByteArray) (w : World) (hS : Hs.StrsAt w a n l) (hn : n ≤ cap) (hcm : cap ≤ 9223372036854775807) (ht : Hs.total l ≤ 1048576) :
    Calls Try.prog 9 #[.int .i64 0, .string key, .slice a n cap] w fun e w' => e = .returned (.bool true) ∧ Below w.heap.size w w' := by
  have DN := Lib.hid Hs.New0
  have CW := Lib.hid (fun (W : World) (p : Nat) (s : ByteArray) (m : List UInt8) (hW : Hs.Is W p 0 m) (hs : m.length + s.size ≤ 1152921504606846975) => Hs.Write_any W p 0 m s hW hs)
  have CS := Lib.hid (fun (W : World) (p : Nat) (m : List UInt8) (hW : Hs.Is W p 0 m) (hm : m.length ≤ 2000000) => Hs.Sum_any W p 0 m hW (by omega))
  have CF := Lib.hid (fun W => Hs.FSum_any 0 (by decide) key (by omega) W)
  obtain ⟨KB, hKB⟩ : ∃ KB, Hs.keyed 0 key.data.toList = KB := ⟨_, rfl⟩
  have hkl : KB.length = 64 := by rw [← hKB]; exact Hs.keyed_length 0 (by decide) _
  have HKB := Lib.hid hKB
  clear hKB
  go_enter Try.func9, Try.ntmps9
  go_wp2_with fail
  refine (Hs.fixed_any _).mono ?_
  rintro e w1 ⟨rfl, b1⟩
  go_wp2_with fail
  refine (DN.out _).mono ?_
  rintro e w2 ⟨p, rfl, hp, i2, b2⟩
  have B2 := b1.trans (b2.mono b1.size)
  have hwp := Nat.le_trans b1.size hp
  go_wp2_with fail
  refine (DN.out _).mono ?_
  rintro e w3 ⟨q, rfl, hq, j3, b3⟩
  have i3 := i2.below b3 i2.lt
  have B3 := B2.trans (b3.mono B2.size)
  have hwq := Nat.le_trans B2.size hq
  have hqp : q ≠ p := by have := i2.lt; omega
  have hTw : Tw w p q 0 [] [] w3 := ⟨i3, j3, B3⟩
  clear b1 b2 b3 B2 i2 i3 j3 B3 hp hq
  go_upto_if 59 with fail
  go_cut [12] from 59 to 65 (fun kv wx => ∃ kk : ByteArray, kv = .string kk ∧ kk.size ≤ 64 ∧ KB = kk.data.toList ++ List.replicate (64 - kk.size) 0 ∧ Tw w p q 0 [] [] wx)
  case first =>
    by_cases hlong : 64 < key.size
    · have hlz : (64 : Int) < (key.size : Int) := by omega
      obtain ⟨S, hS2⟩ : ∃ S, Tx.ba (Hs.sum 0 key.data.toList) = S := ⟨_, rfl⟩
      have hSl : S.data.toList = Hs.sum 0 key.data.toList := by rw [← hS2]; rfl
      have hSs : S.size ≤ 64 := by rw [← hS2, Hs.ba_size, Hs.sum_length]; decide
      have hKS : KB = S.data.toList ++ List.replicate (64 - S.size) 0 := by
        rw [← HKB.out, ← Tx.len S, hSl]
        unfold Hs.keyed
        rw [if_pos (by rw [Tx.len]; exact hlong)]
        rfl
      rw [hS2] at CF
      have HKS := Lib.hid (And.intro hSs hKS)
      clear hS2 hSl hKS hSs
      go_wp2_with fail
      refine (CF.out _).mono ?_
      rintro e w4 ⟨rfl, b4⟩
      have hT4 := hTw.below b4
      go_wp2_with fail
      go_meet
      exact ⟨S, rfl, HKS.out.1, HKS.out.2, hT4⟩
    · have hlz : ¬ (64 : Int) < (key.size : Int) := by omega
      have hKS : KB = key.data.toList ++ List.replicate (64 - key.size) 0 := by
        rw [← HKB.out, ← Tx.len key]
        unfold Hs.keyed
        rw [if_neg (by rw [Tx.len]; exact hlong)]
        rfl
      have HKS := Lib.hid hKS
      clear hKS
      go_wp2_with fail
      go_meet
      exact ⟨key, rfl, by omega, HKS.out, hTw⟩
  case rest =>
  obtain ⟨kk, rfl, hkk, hKS, hT0⟩ := hcut
  have HKS := Lib.hid hKS
  clear hKS hTw
  obtain ⟨wm, rfl⟩ : ∃ wm, wm = wc := ⟨_, rfl⟩
  go_wp2_with fail
  go_loopw [13, 14] (fun iv _ wr => ∃ i : Nat, i ≤ 64 ∧ iv = .int .i64 (i : Int) ∧ Tw w p q 0 ((KB.take i).map (· ^^^ (54 : UInt8))) ((KB.take i).map (· ^^^ (92 : UInt8))) wr) (fun iv _ _ => 64 - (intOf iv).toNat)
  case atStart => exact ⟨0, by omega, rfl, by simpa using hT0⟩
  case round =>
  clear hT0
  obtain ⟨i, hi, rfl, hT⟩ := hrel
  obtain ⟨w8, rfl⟩ : ∃ w8, w8 = wr := ⟨_, rfl⟩
  have hl1 : ((KB.take i).map (· ^^^ (54 : UInt8))).length ≤ 64 := by rw [List.length_map, List.length_take]; omega
  have hl2 : ((KB.take i).map (· ^^^ (92 : UInt8))).length ≤ 64 := by rw [List.length_map, List.length_take]; omega
  by_cases hil : i < 64
  · have hiz : (i : Int) < 64 := by omega
    obtain ⟨c, hc⟩ : ∃ c, KB[i]? = some c := ⟨_, List.getElem?_eq_getElem (by omega)⟩
    have s1 : (KB.take (i + 1)).map (· ^^^ (54 : UInt8)) = (KB.take i).map (· ^^^ (54 : UInt8)) ++ [c ^^^ 54] := by rw [List.take_add_one, hc, List.map_append]; rfl
    have s2 : (KB.take (i + 1)).map (· ^^^ (92 : UInt8)) = (KB.take i).map (· ^^^ (92 : UInt8)) ++ [c ^^^ 92] := by rw [List.take_add_one, hc, List.map_append]; rfl
    have e1 : bits .xor .u8 (c.toNat : Int) 54 = ((c ^^^ 54 : UInt8).toNat : Int) := Hs.u8_xor c 54
    have e2 : bits .xor .u8 (c.toNat : Int) 92 = ((c ^^^ 92 : UInt8).toNat : Int) := Hs.u8_xor c 92
    obtain ⟨c1, hc1⟩ : ∃ c1, c ^^^ (54 : UInt8) = c1 := ⟨_, rfl⟩
    obtain ⟨c2, hc2⟩ : ∃ c2, c ^^^ (92 : UInt8) = c2 := ⟨_, rfl⟩
    rw [hc1] at s1 e1
    rw [hc2] at s2 e2
    have HS1 := Lib.hid s1
    have HS2 := Lib.hid s2
    have hcase : (∃ hh : i < kk.size, kk[i] = c) ∨ (kk.size ≤ i ∧ c = 0) := by
      rw [HKS.out] at hc
      by_cases hh : i < kk.size
      · left
        rw [List.getElem?_append_left (by rw [Tx.len]; exact hh), List.getElem?_eq_getElem (by rw [Tx.len]; exact hh)] at hc
        refine ⟨hh, ?_⟩
        rw [← Tx.get kk i hh]
        exact Option.some.inj hc
      · right
        rw [List.getElem?_append_right (by rw [Tx.len]; omega), List.getElem?_replicate, Tx.len, if_pos (by omega)] at hc
        exact ⟨by omega, (Option.some.inj hc).symm⟩
    obtain ⟨A, hA⟩ : ∃ A, (KB.take i).map (· ^^^ (54 : UInt8)) = A := ⟨_, rfl⟩
    obtain ⟨D, hD⟩ : ∃ D, (KB.take i).map (· ^^^ (92 : UInt8)) = D := ⟨_, rfl⟩
    rw [hA] at hT hl1 HS1
    rw [hD] at hT hl2 HS2
    clear s1 s2 hc hA hD
    rcases hcase with ⟨hh, hkc⟩ | ⟨hh, rfl⟩
    · clear hc1 hc2
      have hhz : (i : Int) < (kk.size : Int) := by omega
      have hix : kk[i]? = some c := by rw [← hkc]; exact getElem?_pos kk i hh
      have v1 : (convert 38 9 (.slice (some ⟨w8.heap.size, 0, none⟩) 1 1)).run Try.prog (w8.alloc (.cells #[.int .u8 (c1.toNat : Int)] 5)) = .ok (.string (Tx.ba [c1])) (w8.alloc (.cells #[.int .u8 (c1.toNat : Int)] 5)) := Hs.conv_one w8 c1
      have bA := (Below.refl w8.heap.size w8).alloc (Nat.le_refl _) (.cells #[.int .u8 (c1.toNat : Int)] 5)
      have ip8 := hT.ip.below bA hT.ip.lt
      have iq8 := hT.iq.below bA hT.iq.lt
      have B8 := hT.B.trans (bA.mono hT.B.size)
      go_wp2_with fail
      refine (CW.out _ _ (Tx.ba [c1]) _ ip8 (by rw [Hs.ba_size]; simp only [List.length_cons, List.length_nil]; omega)).mono ?_
      rintro e w9 ⟨rfl, ip9, b9⟩
      have iq9 := iq8.but b9 hqp
      have B9 := B8.trans (b9.toBelow hwp B8.size)
      rw [Hs.ba_list, ← HS1.out] at ip9
      have v2 : (convert 38 9 (.slice (some ⟨w9.heap.size, 0, none⟩) 1 1)).run Try.prog (w9.alloc (.cells #[.int .u8 (c2.toNat : Int)] 5)) = .ok (.string (Tx.ba [c2])) (w9.alloc (.cells #[.int .u8 (c2.toNat : Int)] 5)) := Hs.conv_one w9 c2
      have bA2 := (Below.refl w9.heap.size w9).alloc (Nat.le_refl _) (.cells #[.int .u8 (c2.toNat : Int)] 5)
      have ip10 := ip9.below bA2 ip9.lt
      have iq10 := iq9.below bA2 iq9.lt
      have B10 := B9.trans (bA2.mono B9.size)
      clear ip8 iq8 B8 bA bA2 v1 b9 iq9 B9
      go_wp2_with fail
      refine (CW.out _ _ (Tx.ba [c2]) _ iq10 (by rw [Hs.ba_size]; simp only [List.length_cons, List.length_nil]; omega)).mono ?_
      rintro e w11 ⟨rfl, iq11, b11⟩
      have ip11 := ip10.but b11 hqp.symm
      have B11 := B10.trans (b11.toBelow hwq B10.size)
      rw [Hs.ba_list, ← HS2.out] at iq11
      go_wp2_with fail
      exact ⟨⟨i + 1, by omega, by go_num, ⟨ip11, iq11, B11⟩⟩, by simp [intOf]; omega⟩
    · have hhz : ¬ (i : Int) < (kk.size : Int) := by omega
      obtain rfl : c1 = 54 := by rw [← hc1]; rfl
      obtain rfl : c2 = 92 := by rw [← hc2]; rfl
      have x1 : bits .xor .u8 (0 : Int) 54 = 54 := Hs.u8_xor 0 54
      have x2 : bits .xor .u8 (0 : Int) 92 = 92 := Hs.u8_xor 0 92
      have v1 : (convert 38 9 (.slice (some ⟨w8.heap.size, 0, none⟩) 1 1)).run Try.prog (w8.alloc (.cells #[.int .u8 54] 5)) = .ok (.string (Tx.ba [54])) (w8.alloc (.cells #[.int .u8 54] 5)) := Hs.conv_one w8 54
      have bA := (Below.refl w8.heap.size w8).alloc (Nat.le_refl _) (.cells #[.int .u8 54] 5)
      have ip8 := hT.ip.below bA hT.ip.lt
      have iq8 := hT.iq.below bA hT.iq.lt
      have B8 := hT.B.trans (bA.mono hT.B.size)
      go_wp2_with fail
      refine (CW.out _ _ (Tx.ba [54]) _ ip8 (by rw [Hs.ba_size]; simp only [List.length_cons, List.length_nil]; omega)).mono ?_
      rintro e w9 ⟨rfl, ip9, b9⟩
      have iq9 := iq8.but b9 hqp
      have B9 := B8.trans (b9.toBelow hwp B8.size)
      rw [Hs.ba_list, ← HS1.out] at ip9
      have v2 : (convert 38 9 (.slice (some ⟨w9.heap.size, 0, none⟩) 1 1)).run Try.prog (w9.alloc (.cells #[.int .u8 92] 5)) = .ok (.string (Tx.ba [92])) (w9.alloc (.cells #[.int .u8 92] 5)) := Hs.conv_one w9 92
      have bA2 := (Below.refl w9.heap.size w9).alloc (Nat.le_refl _) (.cells #[.int .u8 92] 5)
      have ip10 := ip9.below bA2 ip9.lt
      have iq10 := iq9.below bA2 iq9.lt
      have B10 := B9.trans (bA2.mono B9.size)
      clear ip8 iq8 B8 bA bA2 v1 b9 iq9 B9
      go_wp2_with fail
      refine (CW.out _ _ (Tx.ba [92]) _ iq10 (by rw [Hs.ba_size]; simp only [List.length_cons, List.length_nil]; omega)).mono ?_
      rintro e w11 ⟨rfl, iq11, b11⟩
      have ip11 := ip10.but b11 hqp.symm
      have B11 := B10.trans (b11.toBelow hwq B10.size)
      rw [Hs.ba_list, ← HS2.out] at iq11
      go_wp2_with fail
      exact ⟨⟨i + 1, by omega, by go_num, ⟨ip11, iq11, B11⟩⟩, by simp [intOf]; omega⟩
  · have hge : ¬ (i : Int) < 64 := by omega
    rw [List.take_of_length_le (by omega)] at hT
    clear hl1 hl2
    obtain ⟨I0, hI0⟩ : ∃ I0, KB.map (· ^^^ (54 : UInt8)) = I0 := ⟨_, rfl⟩
    obtain ⟨O0, hO0⟩ : ∃ O0, KB.map (· ^^^ (92 : UInt8)) = O0 := ⟨_, rfl⟩
    have lI : I0.length = 64 := by rw [← hI0, List.length_map, hkl]
    have lO : O0.length = 64 := by rw [← hO0, List.length_map, hkl]
    rw [hI0, hO0] at hT
    have hmac : ∀ E, Hs.mac 0 key.data.toList E = Hs.sum 0 (O0 ++ Hs.sum 0 (I0 ++ E)) := by intro E; rw [← hI0, ← hO0, ← HKB.out]; rfl
    have HMAC := Lib.hid hmac
    clear hmac hI0 hO0 HKS
    have CZ := Lib.hid (fun (W : World) (E : List UInt8) (hW : Hs.Is W p 0 (I0 ++ E)) => by have := Hs.Size_any W p 0 _ hW; rw [List.length_append, lI] at this; exact (show Calls Try.prog 19 #[.pointer (some ⟨p, 0, none⟩)] W fun e w' => e = .returned (.int .i64 (64 + (E.length : Int))) ∧ w' = W from this.mono fun _ _ h => ⟨by rw [h.1]; congr 2, h.2⟩))
    have CM := Lib.hid (fun (W : World) (E : List UInt8) (hE : E.length ≤ 1048576) => (by
      have := Hs.Mac_any 0 (by decide) key (Tx.ba E) (by omega) (by rw [Hs.ba_size]; omega) W
      rw [Hs.ba_list, HMAC.out] at this
      exact this : Calls Try.prog 14 #[.int .i64 0, .string key, .string (Tx.ba E)] W fun e w' => e = .returned (.tuple #[.string (Tx.ba (Hs.sum 0 (O0 ++ Hs.sum 0 (I0 ++ E)))), .int .i64 0]) ∧ Below W.heap.size W w'))
    go_wp2_with fail
    have bA : Below w8.heap.size w8 (w8.alloc (.cells #[] 5)) := (Below.refl _ _).alloc (Nat.le_refl _) _
    have hP : Pi w p q 0 w8.heap.size (.slice (some ⟨w8.heap.size, 0, none⟩) 0 0) (I0 ++ []) O0 [] (w8.alloc (.cells #[] 5)) :=
      ⟨by rw [List.append_nil]; exact hT.ip.below bA hT.ip.lt, hT.iq.below bA hT.iq.lt, Hs.Row.nil w8, Nat.ne_of_lt hT.ip.lt, Nat.ne_of_lt hT.iq.lt, hT.B.size, hT.B.trans (bA.mono hT.B.size)⟩
    clear bA hT
    generalize w8.heap.size = z1 at hP ⊢
    generalize w8.alloc (.cells #[] 5) = w9 at hP ⊢
    go_loopw [15, 16] (fun xv jv wr => ∃ (j : Nat) (E : List UInt8) (g : Nat), j ≤ n ∧ jv = .int .i64 (j : Int) ∧ E.length ≤ Hs.total (l.take j) ∧ Pi w p q 0 g xv (I0 ++ E) O0 E wr) (fun _ jv _ => n - (intOf jv).toNat)
    case atStart => exact ⟨0, [], z1, by omega, rfl, by simp, hP⟩
    case round =>
    clear hP
    obtain ⟨j, E, g, hj, rfl, hE, hP⟩ := hrel
    obtain ⟨w10, rfl⟩ : ∃ w10, w10 = wr := ⟨_, rfl⟩
    have htk := Hs.total_le l j
    by_cases hlt : j < n
    · have hkz : (j : Int) < (n : Int) := by omega
      obtain ⟨s, hs⟩ : ∃ s, l[j]? = some s := ⟨_, List.getElem?_eq_getElem (by rw [hS.len]; exact hlt)⟩
      have hts := Hs.total_take l j s hs
      have htl := Hs.total_le l (j + 1)
      obtain ⟨b0, off0, rfl, hb0, hc00⟩ := hS.cell j s hs
      have hc0 := (hP.B.cell (p := ⟨b0, off0 + j, none⟩) hb0).trans hc00
      obtain ⟨F, hF⟩ : ∃ F, E ++ s.data.toList = F := ⟨_, rfl⟩
      have lF : F.length ≤ Hs.total (l.take (j + 1)) := by rw [hts, ← hF, List.length_append, Tx.len]; omega
      have hEb : E.length ≤ 1048576 := by omega
      have hesb : E.length + s.size ≤ 1048576 := by omega
      have hFb : F.length ≤ 1048576 := by omega
      have lIE : (I0 ++ E).length ≤ 1048576 + 64 := by rw [List.length_append]; omega
      have HLF := Lib.hid lF
      clear hts htl htk hE lF
      go_wp2_with fail
      refine (CW.out _ _ s _ hP.ip (by omega)).mono ?_
      rintro e w11 ⟨rfl, ip11, b11⟩
      rw [List.append_assoc, hF] at ip11
      have iq11 := hP.iq.but b11 hqp
      have r11 := hP.r.but b11 hP.np.symm
      have B11 := hP.B.trans (b11.toBelow hwp hP.B.size)
      have hc11 := (B11.cell (p := ⟨b0, off0 + j, none⟩) hb0).trans hc00
      clear hc0
      go_wp2_with (at_builtin; refine Hs.appendS rfl _ _ rfl _ _ E rfl r11 s rfl (by omega) ?_; intro y w12 g' r12 hg' b12; rw [hF] at r12; obtain ⟨cap2, rfl⟩ := r12.len)
      have B12 := B11.trans (b12.toBelow hP.lg B11.size)
      have ip12 := ip11.but b12 hP.np
      have iq12 := iq11.but b12 hP.nq
      have hgl : w.heap.size ≤ g' ∧ p ≠ g' ∧ q ≠ g' := by
        rcases hg' with rfl | rfl
        · exact ⟨hP.lg, hP.np, hP.nq⟩
        · exact ⟨B11.size, Nat.ne_of_lt ip11.lt, Nat.ne_of_lt iq11.lt⟩
      clear ip11 iq11 r11 B11 b11 b12 hc11
      refine (CZ.out _ _ ip12).mono ?_
      rintro e w13 ⟨rfl, rfl⟩
      go_wp2_with fail
      exact ⟨⟨j + 1, F, g', by omega, by go_num, HLF.out, ⟨ip12, iq12, r12, hgl.2.1, hgl.2.2, hgl.1, B12⟩⟩, by simp [intOf]; omega⟩
    · obtain rfl : j = n := by omega
      have hEb : E.length ≤ 1048576 := by omega
      obtain ⟨IS, hIS⟩ : ∃ IS, Hs.sum 0 (I0 ++ E) = IS := ⟨_, rfl⟩
      have lIS : IS.length ≤ 64 := by rw [← hIS, Hs.sum_length]; decide
      have CM1 := Lib.hid (fun W => by have := CM.out W E hEb; rw [hIS] at this; exact this)
      have CS1 := Lib.hid (fun W hW => by have := CS.out W p (I0 ++ E) hW (by rw [List.length_append]; omega); rw [hIS] at this; exact this)
      clear hIS
      go_wp2_with fail
      refine (CS1.out _ hP.ip).mono ?_
      rintro e w11 ⟨rfl, b11⟩
      have iq11 := hP.iq.below b11 hP.iq.lt
      have r11 := hP.r.below b11 hP.r.lt
      have B11 := hP.B.trans (b11.mono hP.B.size)
      go_wp2_with fail
      refine (CW.out _ _ (Tx.ba IS) _ iq11 (by rw [Hs.ba_size]; omega)).mono ?_
      rintro e w12 ⟨rfl, iq12, b12⟩
      have r12 := r11.but b12 hP.nq.symm
      have B12 := B11.trans (b12.toBelow hwq B11.size)
      have hcv := r12.conv
      rw [Hs.ba_list] at iq12
      clear iq11 r11 B11 b11 b12
      go_wp2_with fail
      refine (CM1.out _).mono ?_
      rintro e w13 ⟨rfl, b13⟩
      have iq13 := iq12.below b13 iq12.lt
      have B13 := B12.trans (b13.mono B12.size)
      clear hcv
      go_wp2_with fail
      refine (CS.out _ _ _ iq13 (by rw [List.length_append]; omega)).mono ?_
      rintro e w14 ⟨rfl, b14⟩
      have B14 := B13.trans (b14.mono B13.size)
      go_wp2_with fail
      go_ret
      exact ⟨rfl, B14⟩
set_option maxHeartbeats 8000000 in
set_option maxRecDepth 100000 in
theorem yes1 (key : ByteArray) (hk : key.size ≤ 1048576) (a : Option Addr) (n cap : Nat) (l : List ByteArray) (w : World) (hS : Hs.StrsAt w a n l) (hn : n ≤ cap) (hcm : cap ≤ 9223372036854775807) (ht : Hs.total l ≤ 1048576) :
    Calls Try.prog 9 #[.int .i64 1, .string key, .slice a n cap] w fun e w' => e = .returned (.bool true) ∧ Below w.heap.size w w' := by
  have DN := Lib.hid Hs.New1
  have CW := Lib.hid (fun (W : World) (p : Nat) (s : ByteArray) (m : List UInt8) (hW : Hs.Is W p 1 m) (hs : m.length + s.size ≤ 1152921504606846975) => Hs.Write_any W p 1 m s hW hs)
  have CS := Lib.hid (fun (W : World) (p : Nat) (m : List UInt8) (hW : Hs.Is W p 1 m) (hm : m.length ≤ 2000000) => Hs.Sum_any W p 1 m hW (by omega))
  have CF := Lib.hid (fun W => Hs.FSum_any 1 (by decide) key (by omega) W)
  obtain ⟨KB, hKB⟩ : ∃ KB, Hs.keyed 1 key.data.toList = KB := ⟨_, rfl⟩
  have hkl : KB.length = 128 := by rw [← hKB]; exact Hs.keyed_length 1 (by decide) _
  have HKB := Lib.hid hKB
  clear hKB
  go_enter Try.func9, Try.ntmps9
  go_wp2_with fail
  refine (Hs.fixed_any _).mono ?_
  rintro e w1 ⟨rfl, b1⟩
  go_wp2_with fail
  refine (DN.out _).mono ?_
  rintro e w2 ⟨p, rfl, hp, i2, b2⟩
  have B2 := b1.trans (b2.mono b1.size)
  have hwp := Nat.le_trans b1.size hp
  go_wp2_with fail
  refine (DN.out _).mono ?_
  rintro e w3 ⟨q, rfl, hq, j3, b3⟩
  have i3 := i2.below b3 i2.lt
  have B3 := B2.trans (b3.mono B2.size)
  have hwq := Nat.le_trans B2.size hq
  have hqp : q ≠ p := by have := i2.lt; omega
  have hTw : Tw w p q 1 [] [] w3 := ⟨i3, j3, B3⟩
  clear b1 b2 b3 B2 i2 i3 j3 B3 hp hq
  go_upto_if 59 with fail
  go_cut [12] from 59 to 65 (fun kv wx => ∃ kk : ByteArray, kv = .string kk ∧ kk.size ≤ 128 ∧ KB = kk.data.toList ++ List.replicate (128 - kk.size) 0 ∧ Tw w p q 1 [] [] wx)
  case first =>
    by_cases hlong : 128 < key.size
    · have hlz : (128 : Int) < (key.size : Int) := by omega
      obtain ⟨S, hS2⟩ : ∃ S, Tx.ba (Hs.sum 1 key.data.toList) = S := ⟨_, rfl⟩
      have hSl : S.data.toList = Hs.sum 1 key.data.toList := by rw [← hS2]; rfl
      have hSs : S.size ≤ 128 := by rw [← hS2, Hs.ba_size, Hs.sum_length]; decide
      have hKS : KB = S.data.toList ++ List.replicate (128 - S.size) 0 := by
        rw [← HKB.out, ← Tx.len S, hSl]
        unfold Hs.keyed
        rw [if_pos (by rw [Tx.len]; exact hlong)]
        rfl
      rw [hS2] at CF
      have HKS := Lib.hid (And.intro hSs hKS)
      clear hS2 hSl hKS hSs
      go_wp2_with fail
      refine (CF.out _).mono ?_
      rintro e w4 ⟨rfl, b4⟩
      have hT4 := hTw.below b4
      go_wp2_with fail
      go_meet
      exact ⟨S, rfl, HKS.out.1, HKS.out.2, hT4⟩
    · have hlz : ¬ (128 : Int) < (key.size : Int) := by omega
      have hKS : KB = key.data.toList ++ List.replicate (128 - key.size) 0 := by
        rw [← HKB.out, ← Tx.len key]
        unfold Hs.keyed
        rw [if_neg (by rw [Tx.len]; exact hlong)]
        rfl
      have HKS := Lib.hid hKS
      clear hKS
      go_wp2_with fail
      go_meet
      exact ⟨key, rfl, by omega, HKS.out, hTw⟩
  case rest =>
  obtain ⟨kk, rfl, hkk, hKS, hT0⟩ := hcut
  have HKS := Lib.hid hKS
  clear hKS hTw
  obtain ⟨wm, rfl⟩ : ∃ wm, wm = wc := ⟨_, rfl⟩
  go_wp2_with fail
  go_loopw [13, 14] (fun iv _ wr => ∃ i : Nat, i ≤ 128 ∧ iv = .int .i64 (i : Int) ∧ Tw w p q 1 ((KB.take i).map (· ^^^ (54 : UInt8))) ((KB.take i).map (· ^^^ (92 : UInt8))) wr) (fun iv _ _ => 128 - (intOf iv).toNat)
  case atStart => exact ⟨0, by omega, rfl, by simpa using hT0⟩
  case round =>
  clear hT0
  obtain ⟨i, hi, rfl, hT⟩ := hrel
  obtain ⟨w8, rfl⟩ : ∃ w8, w8 = wr := ⟨_, rfl⟩
  have hl1 : ((KB.take i).map (· ^^^ (54 : UInt8))).length ≤ 128 := by rw [List.length_map, List.length_take]; omega
  have hl2 : ((KB.take i).map (· ^^^ (92 : UInt8))).length ≤ 128 := by rw [List.length_map, List.length_take]; omega
  by_cases hil : i < 128
  · have hiz : (i : Int) < 128 := by omega
    obtain ⟨c, hc⟩ : ∃ c, KB[i]? = some c := ⟨_, List.getElem?_eq_getElem (by omega)⟩
    have s1 : (KB.take (i + 1)).map (· ^^^ (54 : UInt8)) = (KB.take i).map (· ^^^ (54 : UInt8)) ++ [c ^^^ 54] := by rw [List.take_add_one, hc, List.map_append]; rfl
    have s2 : (KB.take (i + 1)).map (· ^^^ (92 : UInt8)) = (KB.take i).map (· ^^^ (92 : UInt8)) ++ [c ^^^ 92] := by rw [List.take_add_one, hc, List.map_append]; rfl
    have e1 : bits .xor .u8 (c.toNat : Int) 54 = ((c ^^^ 54 : UInt8).toNat : Int) := Hs.u8_xor c 54
    have e2 : bits .xor .u8 (c.toNat : Int) 92 = ((c ^^^ 92 : UInt8).toNat : Int) := Hs.u8_xor c 92
    obtain ⟨c1, hc1⟩ : ∃ c1, c ^^^ (54 : UInt8) = c1 := ⟨_, rfl⟩
    obtain ⟨c2, hc2⟩ : ∃ c2, c ^^^ (92 : UInt8) = c2 := ⟨_, rfl⟩
    rw [hc1] at s1 e1
    rw [hc2] at s2 e2
    have HS1 := Lib.hid s1
    have HS2 := Lib.hid s2
    have hcase : (∃ hh : i < kk.size, kk[i] = c) ∨ (kk.size ≤ i ∧ c = 0) := by
      rw [HKS.out] at hc
      by_cases hh : i < kk.size
      · left
        rw [List.getElem?_append_left (by rw [Tx.len]; exact hh), List.getElem?_eq_getElem (by rw [Tx.len]; exact hh)] at hc
        refine ⟨hh, ?_⟩
        rw [← Tx.get kk i hh]
        exact Option.some.inj hc
      · right
        rw [List.getElem?_append_right (by rw [Tx.len]; omega), List.getElem?_replicate, Tx.len, if_pos (by omega)] at hc
        exact ⟨by omega, (Option.some.inj hc).symm⟩
    obtain ⟨A, hA⟩ : ∃ A, (KB.take i).map (· ^^^ (54 : UInt8)) = A := ⟨_, rfl⟩
    obtain ⟨D, hD⟩ : ∃ D, (KB.take i).map (· ^^^ (92 : UInt8)) = D := ⟨_, rfl⟩
    rw [hA] at hT hl1 HS1
    rw [hD] at hT hl2 HS2
    clear s1 s2 hc hA hD
    rcases hcase with ⟨hh, hkc⟩ | ⟨hh, rfl⟩
    · clear hc1 hc2
      have hhz : (i : Int) < (kk.size : Int) := by omega
      have hix : kk[i]? = some c := by rw [← hkc]; exact getElem?_pos kk i hh
      have v1 : (convert 38 9 (.slice (some ⟨w8.heap.size, 0, none⟩) 1 1)).run Try.prog (w8.alloc (.cells #[.int .u8 (c1.toNat : Int)] 5)) = .ok (.string (Tx.ba [c1])) (w8.alloc (.cells #[.int .u8 (c1.toNat : Int)] 5)) := Hs.conv_one w8 c1
      have bA := (Below.refl w8.heap.size w8).alloc (Nat.le_refl _) (.cells #[.int .u8 (c1.toNat : Int)] 5)
      have ip8 := hT.ip.below bA hT.ip.lt
      have iq8 := hT.iq.below bA hT.iq.lt
      have B8 := hT.B.trans (bA.mono hT.B.size)
      go_wp2_with fail
      refine (CW.out _ _ (Tx.ba [c1]) _ ip8 (by rw [Hs.ba_size]; simp only [List.length_cons, List.length_nil]; omega)).mono ?_
      rintro e w9 ⟨rfl, ip9, b9⟩
      have iq9 := iq8.but b9 hqp
      have B9 := B8.trans (b9.toBelow hwp B8.size)
      rw [Hs.ba_list, ← HS1.out] at ip9
      have v2 : (convert 38 9 (.slice (some ⟨w9.heap.size, 0, none⟩) 1 1)).run Try.prog (w9.alloc (.cells #[.int .u8 (c2.toNat : Int)] 5)) = .ok (.string (Tx.ba [c2])) (w9.alloc (.cells #[.int .u8 (c2.toNat : Int)] 5)) := Hs.conv_one w9 c2
      have bA2 := (Below.refl w9.heap.size w9).alloc (Nat.le_refl _) (.cells #[.int .u8 (c2.toNat : Int)] 5)
      have ip10 := ip9.below bA2 ip9.lt
      have iq10 := iq9.below bA2 iq9.lt
      have B10 := B9.trans (bA2.mono B9.size)
      clear ip8 iq8 B8 bA bA2 v1 b9 iq9 B9
      go_wp2_with fail
      refine (CW.out _ _ (Tx.ba [c2]) _ iq10 (by rw [Hs.ba_size]; simp only [List.length_cons, List.length_nil]; omega)).mono ?_
      rintro e w11 ⟨rfl, iq11, b11⟩
      have ip11 := ip10.but b11 hqp.symm
      have B11 := B10.trans (b11.toBelow hwq B10.size)
      rw [Hs.ba_list, ← HS2.out] at iq11
      go_wp2_with fail
      exact ⟨⟨i + 1, by omega, by go_num, ⟨ip11, iq11, B11⟩⟩, by simp [intOf]; omega⟩
    · have hhz : ¬ (i : Int) < (kk.size : Int) := by omega
      obtain rfl : c1 = 54 := by rw [← hc1]; rfl
      obtain rfl : c2 = 92 := by rw [← hc2]; rfl
      have x1 : bits .xor .u8 (0 : Int) 54 = 54 := Hs.u8_xor 0 54
      have x2 : bits .xor .u8 (0 : Int) 92 = 92 := Hs.u8_xor 0 92
      have v1 : (convert 38 9 (.slice (some ⟨w8.heap.size, 0, none⟩) 1 1)).run Try.prog (w8.alloc (.cells #[.int .u8 54] 5)) = .ok (.string (Tx.ba [54])) (w8.alloc (.cells #[.int .u8 54] 5)) := Hs.conv_one w8 54
      have bA := (Below.refl w8.heap.size w8).alloc (Nat.le_refl _) (.cells #[.int .u8 54] 5)
      have ip8 := hT.ip.below bA hT.ip.lt
      have iq8 := hT.iq.below bA hT.iq.lt
      have B8 := hT.B.trans (bA.mono hT.B.size)
      go_wp2_with fail
      refine (CW.out _ _ (Tx.ba [54]) _ ip8 (by rw [Hs.ba_size]; simp only [List.length_cons, List.length_nil]; omega)).mono ?_
      rintro e w9 ⟨rfl, ip9, b9⟩
      have iq9 := iq8.but b9 hqp
      have B9 := B8.trans (b9.toBelow hwp B8.size)
      rw [Hs.ba_list, ← HS1.out] at ip9
      have v2 : (convert 38 9 (.slice (some ⟨w9.heap.size, 0, none⟩) 1 1)).run Try.prog (w9.alloc (.cells #[.int .u8 92] 5)) = .ok (.string (Tx.ba [92])) (w9.alloc (.cells #[.int .u8 92] 5)) := Hs.conv_one w9 92
      have bA2 := (Below.refl w9.heap.size w9).alloc (Nat.le_refl _) (.cells #[.int .u8 92] 5)
      have ip10 := ip9.below bA2 ip9.lt
      have iq10 := iq9.below bA2 iq9.lt
      have B10 := B9.trans (bA2.mono B9.size)
      clear ip8 iq8 B8 bA bA2 v1 b9 iq9 B9
      go_wp2_with fail
      refine (CW.out _ _ (Tx.ba [92]) _ iq10 (by rw [Hs.ba_size]; simp only [List.length_cons, List.length_nil]; omega)).mono ?_
      rintro e w11 ⟨rfl, iq11, b11⟩
      have ip11 := ip10.but b11 hqp.symm
      have B11 := B10.trans (b11.toBelow hwq B10.size)
      rw [Hs.ba_list, ← HS2.out] at iq11
      go_wp2_with fail
      exact ⟨⟨i + 1, by omega, by go_num, ⟨ip11, iq11, B11⟩⟩, by simp [intOf]; omega⟩
  · have hge : ¬ (i : Int) < 128 := by omega
    rw [List.take_of_length_le (by omega)] at hT
    clear hl1 hl2
    obtain ⟨I0, hI0⟩ : ∃ I0, KB.map (· ^^^ (54 : UInt8)) = I0 := ⟨_, rfl⟩
    obtain ⟨O0, hO0⟩ : ∃ O0, KB.map (· ^^^ (92 : UInt8)) = O0 := ⟨_, rfl⟩
    have lI : I0.length = 128 := by rw [← hI0, List.length_map, hkl]
    have lO : O0.length = 128 := by rw [← hO0, List.length_map, hkl]
    rw [hI0, hO0] at hT
    have hmac : ∀ E, Hs.mac 1 key.data.toList E = Hs.sum 1 (O0 ++ Hs.sum 1 (I0 ++ E)) := by intro E; rw [← hI0, ← hO0, ← HKB.out]; rfl
    have HMAC := Lib.hid hmac
    clear hmac hI0 hO0 HKS
    have CZ := Lib.hid (fun (W : World) (E : List UInt8) (hW : Hs.Is W p 1 (I0 ++ E)) => by have := Hs.Size_any W p 1 _ hW; rw [List.length_append, lI] at this; exact (show Calls Try.prog 19 #[.pointer (some ⟨p, 0, none⟩)] W fun e w' => e = .returned (.int .i64 (128 + (E.length : Int))) ∧ w' = W from this.mono fun _ _ h => ⟨by rw [h.1]; congr 2, h.2⟩))
    have CM := Lib.hid (fun (W : World) (E : List UInt8) (hE : E.length ≤ 1048576) => (by
      have := Hs.Mac_any 1 (by decide) key (Tx.ba E) (by omega) (by rw [Hs.ba_size]; omega) W
      rw [Hs.ba_list, HMAC.out] at this
      exact this : Calls Try.prog 14 #[.int .i64 1, .string key, .string (Tx.ba E)] W fun e w' => e = .returned (.tuple #[.string (Tx.ba (Hs.sum 1 (O0 ++ Hs.sum 1 (I0 ++ E)))), .int .i64 0]) ∧ Below W.heap.size W w'))
    go_wp2_with fail
    have bA : Below w8.heap.size w8 (w8.alloc (.cells #[] 5)) := (Below.refl _ _).alloc (Nat.le_refl _) _
    have hP : Pi w p q 1 w8.heap.size (.slice (some ⟨w8.heap.size, 0, none⟩) 0 0) (I0 ++ []) O0 [] (w8.alloc (.cells #[] 5)) :=
      ⟨by rw [List.append_nil]; exact hT.ip.below bA hT.ip.lt, hT.iq.below bA hT.iq.lt, Hs.Row.nil w8, Nat.ne_of_lt hT.ip.lt, Nat.ne_of_lt hT.iq.lt, hT.B.size, hT.B.trans (bA.mono hT.B.size)⟩
    clear bA hT
    generalize w8.heap.size = z1 at hP ⊢
    generalize w8.alloc (.cells #[] 5) = w9 at hP ⊢
    go_loopw [15, 16] (fun xv jv wr => ∃ (j : Nat) (E : List UInt8) (g : Nat), j ≤ n ∧ jv = .int .i64 (j : Int) ∧ E.length ≤ Hs.total (l.take j) ∧ Pi w p q 1 g xv (I0 ++ E) O0 E wr) (fun _ jv _ => n - (intOf jv).toNat)
    case atStart => exact ⟨0, [], z1, by omega, rfl, by simp, hP⟩
    case round =>
    clear hP
    obtain ⟨j, E, g, hj, rfl, hE, hP⟩ := hrel
    obtain ⟨w10, rfl⟩ : ∃ w10, w10 = wr := ⟨_, rfl⟩
    have htk := Hs.total_le l j
    by_cases hlt : j < n
    · have hkz : (j : Int) < (n : Int) := by omega
      obtain ⟨s, hs⟩ : ∃ s, l[j]? = some s := ⟨_, List.getElem?_eq_getElem (by rw [hS.len]; exact hlt)⟩
      have hts := Hs.total_take l j s hs
      have htl := Hs.total_le l (j + 1)
      obtain ⟨b0, off0, rfl, hb0, hc00⟩ := hS.cell j s hs
      have hc0 := (hP.B.cell (p := ⟨b0, off0 + j, none⟩) hb0).trans hc00
      obtain ⟨F, hF⟩ : ∃ F, E ++ s.data.toList = F := ⟨_, rfl⟩
      have lF : F.length ≤ Hs.total (l.take (j + 1)) := by rw [hts, ← hF, List.length_append, Tx.len]; omega
      have hEb : E.length ≤ 1048576 := by omega
      have hesb : E.length + s.size ≤ 1048576 := by omega
      have hFb : F.length ≤ 1048576 := by omega
      have lIE : (I0 ++ E).length ≤ 1048576 + 128 := by rw [List.length_append]; omega
      have HLF := Lib.hid lF
      clear hts htl htk hE lF
      go_wp2_with fail
      refine (CW.out _ _ s _ hP.ip (by omega)).mono ?_
      rintro e w11 ⟨rfl, ip11, b11⟩
      rw [List.append_assoc, hF] at ip11
      have iq11 := hP.iq.but b11 hqp
      have r11 := hP.r.but b11 hP.np.symm
      have B11 := hP.B.trans (b11.toBelow hwp hP.B.size)
      have hc11 := (B11.cell (p := ⟨b0, off0 + j, none⟩) hb0).trans hc00
      clear hc0
      go_wp2_with (at_builtin; refine Hs.appendS rfl _ _ rfl _ _ E rfl r11 s rfl (by omega) ?_; intro y w12 g' r12 hg' b12; rw [hF] at r12; obtain ⟨cap2, rfl⟩ := r12.len)
      have B12 := B11.trans (b12.toBelow hP.lg B11.size)
      have ip12 := ip11.but b12 hP.np
      have iq12 := iq11.but b12 hP.nq
      have hgl : w.heap.size ≤ g' ∧ p ≠ g' ∧ q ≠ g' := by
        rcases hg' with rfl | rfl
        · exact ⟨hP.lg, hP.np, hP.nq⟩
        · exact ⟨B11.size, Nat.ne_of_lt ip11.lt, Nat.ne_of_lt iq11.lt⟩
      clear ip11 iq11 r11 B11 b11 b12 hc11
      refine (CZ.out _ _ ip12).mono ?_
      rintro e w13 ⟨rfl, rfl⟩
      go_wp2_with fail
      exact ⟨⟨j + 1, F, g', by omega, by go_num, HLF.out, ⟨ip12, iq12, r12, hgl.2.1, hgl.2.2, hgl.1, B12⟩⟩, by simp [intOf]; omega⟩
    · obtain rfl : j = n := by omega
      have hEb : E.length ≤ 1048576 := by omega
      obtain ⟨IS, hIS⟩ : ∃ IS, Hs.sum 1 (I0 ++ E) = IS := ⟨_, rfl⟩
      have lIS : IS.length ≤ 128 := by rw [← hIS, Hs.sum_length]; decide
      have CM1 := Lib.hid (fun W => by have := CM.out W E hEb; rw [hIS] at this; exact this)
      have CS1 := Lib.hid (fun W hW => by have := CS.out W p (I0 ++ E) hW (by rw [List.length_append]; omega); rw [hIS] at this; exact this)
      clear hIS
      go_wp2_with fail
      refine (CS1.out _ hP.ip).mono ?_
      rintro e w11 ⟨rfl, b11⟩
      have iq11 := hP.iq.below b11 hP.iq.lt
      have r11 := hP.r.below b11 hP.r.lt
      have B11 := hP.B.trans (b11.mono hP.B.size)
      go_wp2_with fail
      refine (CW.out _ _ (Tx.ba IS) _ iq11 (by rw [Hs.ba_size]; omega)).mono ?_
      rintro e w12 ⟨rfl, iq12, b12⟩
      have r12 := r11.but b12 hP.nq.symm
      have B12 := B11.trans (b12.toBelow hwq B11.size)
      have hcv := r12.conv
      rw [Hs.ba_list] at iq12
      clear iq11 r11 B11 b11 b12
      go_wp2_with fail
      refine (CM1.out _).mono ?_
      rintro e w13 ⟨rfl, b13⟩
      have iq13 := iq12.below b13 iq12.lt
      have B13 := B12.trans (b13.mono B12.size)
      clear hcv
      go_wp2_with fail
      refine (CS.out _ _ _ iq13 (by rw [List.length_append]; omega)).mono ?_
      rintro e w14 ⟨rfl, b14⟩
      have B14 := B13.trans (b14.mono B13.size)
      go_wp2_with fail
      go_ret
      exact ⟨rfl, B14⟩
theorem walk (kind : Int) (key : ByteArray) (a : Option Addr) (n cap : Nat) (l : List ByteArray) (w : World) (hk : key.size ≤ 1048576) (hS : Hs.StrsAt w a n l) (hn : n ≤ cap) (hcm : cap ≤ 9223372036854775807) (ht : Hs.total l ≤ 1048576) :
    Calls Try.prog 9 #[.int .i64 kind, .string key, .slice a n cap] w fun e w' => e = .returned (.bool true) ∧ Below w.heap.size w w' := by
  by_cases h0 : kind = 0
  · subst h0; exact yes0 key hk a n cap l w hS hn hcm ht
  · by_cases h1 : kind = 1
    · subst h1; exact yes1 key hk a n cap l w hS hn hcm ht
    · exact no kind h0 h1 key _ w
theorem reads (os : Os) {H : Type} (enc : TypeId × Value → H) : ∃ places, DataW.whole enc Try.prog ((Hs.world os).forCall (fun _ _ => 0) ⟨#[], #[.int .i64 0, .string ⟨#[]⟩, .slice none 0 0], []⟩).memory Try.f9.params.toList Rows.hashBuiltSpec.vars false (#[.int .i64 0, .string ⟨#[]⟩, .slice none 0 0] : Array Value).toList 8 = some ([.lit (.int .i64 0), .lit (.string []), .nil], [], places) :=
  ⟨[], by kernel_rfl⟩
set_option maxHeartbeats 4000000 in
set_option maxRecDepth 100000 in
theorem lifted (os : Os) (started : os.Started) (H : Type) (enc : TypeId × Value → H) (F : Stop.Interp) :
    ReturnsInHanded {} Try.checked os 9 .any ((Rows.OpenSpec.upto Rows.hashBuiltSpec).preRow enc Try.prog Try.f9 Rows.hashBuiltUptoRow.domain false Rows.hashBuiltUptoRow.laid) (((Rows.OpenSpec.upto Rows.hashBuiltSpec).at F).post enc Try.prog Try.f9 false true false false) := by
  obtain ⟨places, hx⟩ := reads os enc
  refine returnsInHanded_of_row (C := Try.checked) (s := (Rows.OpenSpec.upto Rows.hashBuiltSpec)) Hs.own started (by kernel_rfl) Try.func9
    (witness_row_atRef (enc := enc) (C := Try.checked) false (Hs.world os) #[.int .i64 0, .string ⟨#[]⟩, .slice none 0 0] rfl (by kernel_rfl) (by kernel_rfl) (by kernel_rfl)
      (OpenSpec.preRow_of_cond 8 hx (by kernel_rfl) (fun k hk => by cases hk; kernel_rfl) (by kernel_rfl) (Hs.laid_met os _))) ?_
  intro W base args ds gs before hval0 hW _ hk hsz hL _ _
  have hval : ∀ (j : Nat) t v, Try.f9.params[j]? = some t → args[j]? = some v → Value.okWide Try.prog W .any base t v := hval0
  have hW' := hW
  obtain ⟨p, q, hA0, hV0, rfl, _, _⟩ := hW
  have hA : DataW.TrodAll enc Try.prog W 0 (fun _ => true) true Try.f9.params.toList args.toList ds p := hA0
  rw [Try.params9] at hA hval
  obtain ⟨v0, vs0, d0, ds0, p0, q0, hargs, rfl, rfl, h0, r0⟩ := trodAll_cons hA
  obtain ⟨v1, vs1, d1, ds1, p1, q1, rfl, rfl, rfl, h1, r1⟩ := trodAll_cons r0
  obtain ⟨v2, vs2, d2, ds2, p2, q2, rfl, rfl, rfl, h2, r2⟩ := trodAll_cons r1
  obtain ⟨rfl, rfl, rfl⟩ := trodAll_nil r2
  obtain rfl : args = #[v0, v1, v2] := by cases args; simp_all
  obtain ⟨rfl, rfl⟩ := trodVars_none hV0
  obtain ⟨a, rfl, rfl, rfl, wa⟩ := open_int Try.underlying3 (hval 0 3 v0 rfl rfl) h0
  obtain ⟨b, rfl, rfl, rfl, wb⟩ := open_string Try.underlying9 (hval 1 9 v1 rfl rfl) h1
  have zb : b.size ≤ 140737488355328 := by
    have := sized_string hsz (j := 1) (by rw [Try.params9]; rfl) rfl
    rw [Tx.len] at this; unfold reachBytes at this; omega
  obtain ⟨ac, nc, capc, lc, rfl, lec, cmc, Sc, bkc, backc⟩ := Hs.open_strs (hval 2 37 v2 rfl rfl) h2
  clear hA0 hV0 hval0
  have hb := hk _ rfl
  have hb2 := of_decide_eq_true hb
  simp only [Rows.uptoBulkAll, Rows.uptoBulk, List.append_nil] at hb2
  refine (walk a b ac nc capc lc W (by have := Tx.len b; omega) Sc lec cmc (by omega)).mono ?_
  rintro e W' ⟨rfl, bel⟩
  have e1 : ((Rows.OpenSpec.upto Rows.hashBuiltSpec).at F).fn H ([.lit (.int .i64 a), .lit (.string b.data.toList), d2] ++ []) = { results := [.lit (.bool true)], args := [.lit (.int .i64 a), .lit (.string b.data.toList), d2] } := rfl
  refine ⟨_, rfl, _, _, _, [], [] ++ ([] ++ (p2 ++ ([]))), [], hW', ?_, ?_, ?_, bel.frame _, fun h => by cases h⟩
  · rw [e1]; exact trodAll_cons_mk (shut_bool Try.underlying4 _) trodAll_mk0
  · rw [e1]; exact trodAll_cons_mk (shut_int Try.underlying3 wa) (trodAll_cons_mk (shut_string Try.underlying9 wb) (trodAll_cons_mk (backc _ bel) trodAll_mk0))
  · rw [e1]; rfl

theorem said : Rows.HashBuiltUptoSaid :=
  OpenClaim.holds_of_cond 9 Try.f9 rfl rfl rfl rfl rfl rfl rfl ⟨rfl, rfl, rfl, rfl, rfl⟩ rfl rfl rfl rfl rfl (by kernel_rfl) Try.func9 (by kernel_rfl)
    (of_decide_eq_true (by kernel_rfl)) (by unfold Func.isWrapper; rw [if_neg (of_decide_eq_false (by kernel_rfl))]; exact ⟨rfl, rfl⟩)
    (fun os started H enc _ F => by rw [OpenClaim.pre_eq_preRow]; exact lifted os started H enc F)

end lwBuilt
end Go.Proofs.Ytejnkchfjkhheaa
