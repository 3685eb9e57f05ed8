/- HashPieces: what is written in pieces has the sum of it all at once, at each place, however it is cut; to ask for it changes nothing; and a clone goes its own way. Where the input's bulk is at most 1048576. -/
import Derived.Test.YtejnkchfjkhheaaHsK
namespace Go.Proofs.Ytejnkchfjkhheaa
open Go.ChangeShapes Go.WideShapes Go.ChangeAt Go.RowKit

namespace lwPieces
set_option maxHeartbeats 8000000 in
set_option maxRecDepth 100000 in
theorem no (kind : Int) (h0 : kind ≠ 0) (h1 : kind ≠ 1) (v : Value) (w : World) :
    Calls Try.prog 6 #[.int .i64 kind, v] w fun e w' => e = .returned (.bool true) ∧ Below w.heap.size w w' := by
  have DN := Lib.hid (Hs.New_no kind h0 h1)
  have t0 : (kind != 0) = true := by rw [bne_iff_ne]; exact h0
  have t1 : (kind != 1) = true := by rw [bne_iff_ne]; exact h1
  go_enter Try.func6, Try.ntmps6
  go_wp2_with fail
  refine (DN.out w).mono ?_
  rintro e w1 ⟨rfl, rfl⟩
  go_wp2_with fail
  refine (Hs.fixed_any _).mono ?_
  rintro e w2 ⟨rfl, b2⟩
  go_wp2_with fail
  go_ret
  exact ⟨rfl, b2⟩
structure Lp (w : World) (p κ g : Nat) (x7 : Value) (E : List UInt8) (wr : World) : Prop where
  i : Hs.Is wr p κ E
  r : Hs.Row wr g x7 E
  ne : p ≠ g
  lp : w.heap.size ≤ p
  lg : w.heap.size ≤ g
  B : Below w.heap.size w wr
def other : ByteArray := ⟨#[111, 116, 104, 101, 114]⟩
theorem app (E : List UInt8) (t : ByteArray) : (Tx.ba E ++ t).data.toList = E ++ t.data.toList := by simp [Tx.ba]
set_option maxHeartbeats 8000000 in
set_option maxRecDepth 100000 in
theorem yes (κ : Nat) (hκ : κ < 2) (a : Option Addr) (n cap : Nat) (l : List ByteArray) (w : World) (hS : Hs.StrsAt w a n l) (hn : n ≤ cap) (hcm : cap ≤ 9223372036854775807) (ht : Hs.total l ≤ 1048576) :
    Calls Try.prog 6 #[.int .i64 (κ : Int), .slice a n cap] w fun e w' => e = .returned (.bool true) ∧ Below w.heap.size w w' := by
  have DN := Lib.hid (Hs.New_any κ hκ)
  have CC := Lib.hid Hs.Clone_any
  have CW := Lib.hid (fun (W : World) (p : Nat) (s : ByteArray) (m : List UInt8) (hW : Hs.Is W p κ m) (hs : m.length + s.size ≤ 1152921504606846975) => Hs.Write_any W p κ m s hW hs)
  have CS := Lib.hid (fun (W : World) (p : Nat) (m : List UInt8) (hW : Hs.Is W p κ m) (hm : m.length ≤ 2000000) => Hs.Sum_any W p κ m hW (by omega))
  have CF := Lib.hid (fun (W : World) (T : ByteArray) (m : List UInt8) (hT : T.data.toList = m) (hm : m.length ≤ 2000000) => (by
    subst hT
    exact Hs.FSum_any κ hκ T (by rw [Tx.len] at hm; omega) W : Calls Try.prog 11 #[.int .i64 (κ : Int), .string T] W fun e w' => e = .returned (.tuple #[.string (Tx.ba (Hs.sum κ m)), .int .i64 0]) ∧ Below W.heap.size W w'))
  have CZ := Lib.hid Hs.Size_any
  go_enter Try.func6, Try.ntmps6
  go_wp2_with fail
  refine (DN.out w).mono ?_
  rintro e w1 ⟨p, rfl, hp, i1, b1⟩
  go_wp2_with fail
  refine (Hs.fixed_any _).mono ?_
  rintro e w3 ⟨rfl, b3⟩
  have i3 := i1.below b3 i1.lt
  have B3 := b1.trans (b3.mono b1.size)
  clear i1 b1 b3
  go_wp2_with fail
  have bA : Below w3.heap.size w3 (w3.alloc (.cells #[] 5)) := (Below.refl _ _).alloc (Nat.le_refl _) _
  have hLp : Lp w p κ w3.heap.size (.slice (some ⟨w3.heap.size, 0, none⟩) 0 0) [] (w3.alloc (.cells #[] 5)) :=
    ⟨i3.below bA i3.lt, Hs.Row.nil w3, Nat.ne_of_lt i3.lt, hp, B3.size, B3.trans (bA.mono B3.size)⟩
  clear bA i3 B3 hp
  generalize w3.heap.size = z1 at hLp ⊢
  generalize w3.alloc (.cells #[] 5) = w4 at hLp ⊢
  go_loopw [7, 8, 9] (fun x7 zv iv wr => ∃ (k : Nat) (E : List UInt8) (g : Nat) (z : Int), k ≤ n ∧ iv = .int .i64 (k : Int) ∧ zv = .int .i64 z ∧ -4000000 ≤ z ∧ z ≤ 4194304 ∧ E.length ≤ Hs.total (l.take k) ∧ Lp w p κ g x7 E wr) (fun _ _ iv _ => n - (intOf iv).toNat)
  case atStart => exact ⟨0, [], z1, 4194304, by omega, rfl, rfl, by omega, by omega, by simp, hLp⟩
  case round =>
  clear hLp
  obtain ⟨k, E, g, z, hk, rfl, rfl, hz1, hz2, hE, hL⟩ := hrel
  obtain ⟨w5, rfl⟩ : ∃ w5, w5 = wr := ⟨_, rfl⟩
  have htk := Hs.total_le l k
  by_cases hlt : k < n
  · have hkz : (k : Int) < (n : Int) := by omega
    obtain ⟨s, hs⟩ : ∃ s, l[k]? = some s := ⟨_, List.getElem?_eq_getElem (by rw [hS.len]; exact hlt)⟩
    have hts := Hs.total_take l k s hs
    have htl := Hs.total_le l (k + 1)
    obtain ⟨b0, off0, rfl, hb0, hc00⟩ := hS.cell k s hs
    have hc0 := (hL.B.cell (p := ⟨b0, off0 + k, none⟩) hb0).trans hc00
    have lE2 : (E ++ s.data.toList).length ≤ Hs.total (l.take (k + 1)) := by rw [hts, List.length_append, Tx.len]; omega
    have hEb : E.length ≤ 1048576 := by omega
    have hsb : s.size ≤ 1048576 := by omega
    have hesb : E.length + s.size ≤ 1048576 := by omega
    have HT := Lib.hid (And.intro hts (And.intro htl htk))
    clear hts htl htk hE
    by_cases hneg : z < 0
    · go_wp2_with fail
      refine (CW.out _ _ s _ hL.i (by omega)).mono ?_
      rintro e w6 ⟨rfl, i6, b6⟩
      have B6 := hL.B.trans (b6.toBelow hL.lp hL.B.size)
      have r6 := hL.r.but b6 hL.ne.symm
      have hc6 := (B6.cell (p := ⟨b0, off0 + k, none⟩) hb0).trans hc00
      clear hc0
      go_wp2_with (at_builtin; refine Hs.appendS rfl _ _ rfl _ _ E rfl r6 s rfl (by omega) ?_; intro y w7 g' r7 hg' b7)
      have B7 := B6.trans (b7.toBelow hL.lg B6.size)
      have i7 := i6.but b7 hL.ne
      have hgl : w.heap.size ≤ g' ∧ p ≠ g' := by
        rcases hg' with rfl | rfl
        · exact ⟨hL.lg, hL.ne⟩
        · exact ⟨B6.size, Nat.ne_of_lt i6.lt⟩
      go_wp2_with fail
      exact ⟨⟨k + 1, E ++ s.data.toList, g', z, by omega, by go_num, rfl, hz1, hz2, lE2, ⟨i7, r7, hgl.2, hL.lp, hgl.1, B7⟩⟩, by simp [intOf]; omega⟩
    · obtain ⟨cap1, rfl⟩ := hL.r.len
      obtain ⟨F, hF⟩ : ∃ F, E ++ s.data.toList = F := ⟨_, rfl⟩
      obtain ⟨G, hG⟩ : ∃ G, E ++ other.data.toList = G := ⟨_, rfl⟩
      have hGl : G.length ≤ 2000000 := by rw [← hG, List.length_append]; show E.length + 5 ≤ _; omega
      have hFl : F.length ≤ 1048576 := by rw [← hF, List.length_append, Tx.len]; omega
      have HG := Lib.hid (show (Tx.ba E ++ other).data.toList = G by rw [← hG]; exact app E other)
      rw [hF] at lE2
      obtain ⟨z', hz'⟩ : ∃ z', z - (2 * (E.length : Int) + (s.size : Int) + 64) = z' := ⟨_, rfl⟩
      have hzb : -4000000 ≤ z' ∧ z' ≤ 4194304 := by omega
      have hso : other.size = 5 := rfl
      unfold other at HG hso hG
      go_wp2_with fail
      refine (CC.out _ _ _ _ hL.i).mono ?_
      rintro e w6 ⟨rfl, c6, b6⟩
      obtain ⟨c, hc⟩ : ∃ c, w5.heap.size = c := ⟨_, rfl⟩
      rw [hc] at c6
      have i6 := hL.i.below b6 hL.i.lt
      have r6 := hL.r.below b6 hL.r.lt
      have B6 := hL.B.trans (b6.mono hL.B.size)
      have hwc : w.heap.size ≤ c := by rw [← hc]; exact hL.B.size
      have hpc : p ≠ c := by have := hL.i.lt; omega
      have hgc : g ≠ c := by have := hL.r.lt; omega
      go_wp2_with fail
      refine (CW.out _ _ ⟨#[111, 116, 104, 101, 114]⟩ _ c6 (by rw [hso]; omega)).mono ?_
      rintro e w7 ⟨rfl, c7, b7⟩
      rw [hG] at c7
      have i7 := i6.but b7 hpc
      have r7 := r6.but b7 hgc
      have B7 := B6.trans (b7.toBelow hwc B6.size)
      have hc7 := (B7.cell (p := ⟨b0, off0 + k, none⟩) hb0).trans hc00
      clear c6 i6 r6 B6 b6 b7 hc0
      go_wp2_with fail
      refine (CW.out _ _ s _ i7 (by omega)).mono ?_
      rintro e w8 ⟨rfl, i8, b8⟩
      rw [hF] at i8
      have c8 := c7.but b8 hpc.symm
      have r8 := r7.but b8 hL.ne.symm
      have B8 := B7.trans (b8.toBelow hL.lp B7.size)
      have hcv8 := r8.conv
      have hbE : (Tx.ba E).size ≤ 1048576 := hEb
      clear c7 i7 r7 B7 b8 hc7
      go_wp2_with fail
      refine (CF.out _ _ G HG.out hGl).mono ?_
      rintro e w9 ⟨rfl, b9⟩
      have c9 := c8.below b9 c8.lt
      have i9 := i8.below b9 i8.lt
      have r9 := r8.below b9 r8.lt
      have B9 := B8.trans (b9.mono B8.size)
      clear c8 i8 r8 B8 b9 hcv8
      go_wp2_with fail
      refine (CS.out _ _ _ c9 hGl).mono ?_
      rintro e w10 ⟨rfl, b10⟩
      have i10 := i9.below b10 i9.lt
      have r10 := r9.below b10 r9.lt
      have B10 := B9.trans (b10.mono B9.size)
      have hc10 := (B10.cell (p := ⟨b0, off0 + k, none⟩) hb0).trans hc00
      clear c9 i9 r9 B9 b10
      go_wp2_with (at_builtin; refine Hs.appendS rfl _ _ rfl _ _ E rfl r10 s rfl (by omega) ?_; intro y w11 g' r11 hg' b11; rw [hF] at r11; obtain ⟨cap2, rfl⟩ := r11.len; have hcv11 := r11.conv)
      have B11 := B10.trans (b11.toBelow hL.lg B10.size)
      have i11 := i10.but b11 hL.ne
      have hgl : w.heap.size ≤ g' ∧ p ≠ g' := by
        rcases hg' with rfl | rfl
        · exact ⟨hL.lg, hL.ne⟩
        · exact ⟨B10.size, Nat.ne_of_lt i10.lt⟩
      clear i10 r10 B10 b11 hc10
      refine (CF.out _ _ F rfl (by omega)).mono ?_
      rintro e w12 ⟨rfl, b12⟩
      have i12 := i11.below b12 i11.lt
      have r12 := r11.below b12 r11.lt
      have B12 := B11.trans (b12.mono B11.size)
      clear i11 r11 B11 b12 hcv11
      go_wp2_with fail
      refine (CS.out _ _ _ i12 (by omega)).mono ?_
      rintro e w13 ⟨rfl, b13⟩
      have i13 := i12.below b13 i12.lt
      have r13 := r12.below b13 r12.lt
      have B13 := B12.trans (b13.mono B12.size)
      clear i12 r12 B12 b13
      go_wp2_with fail
      refine (CZ.out _ _ _ _ i13).mono ?_
      rintro e w14 ⟨rfl, rfl⟩
      go_wp2_with fail
      exact ⟨⟨k + 1, F, g', z', by omega, by go_num, rfl, hzb.1, hzb.2, lE2, ⟨i13, r13, hgl.2, hL.lp, hgl.1, B13⟩⟩, by simp [intOf]; omega⟩
  · obtain rfl : k = n := by omega
    have hcv := hL.r.conv
    go_wp2_with fail
    refine (CF.out _ _ E rfl (by omega)).mono ?_
    rintro e w6 ⟨rfl, b6⟩
    have i6 := hL.i.below b6 hL.i.lt
    have B6 := hL.B.trans (b6.mono hL.B.size)
    go_wp2_with fail
    refine (CS.out _ _ _ i6 (by omega)).mono ?_
    rintro e w7 ⟨rfl, b7⟩
    have B7 := B6.trans (b7.mono B6.size)
    go_wp2_with fail
    go_ret
    exact ⟨rfl, B7⟩
theorem walk (kind : Int) (a : Option Addr) (n cap : Nat) (l : List ByteArray) (w : World) (hS : Hs.StrsAt w a n l) (hn : n ≤ cap) (hcm : cap ≤ 9223372036854775807) (ht : Hs.total l ≤ 1048576) :
    Calls Try.prog 6 #[.int .i64 kind, .slice a n cap] w fun e w' => e = .returned (.bool true) ∧ Below w.heap.size w w' := by
  by_cases h0 : kind = 0
  · subst h0; exact yes 0 (by decide) a n cap l w hS hn hcm ht
  · by_cases h1 : kind = 1
    · subst h1; exact yes 1 (by decide) a n cap l w hS hn hcm ht
    · exact no kind h0 h1 _ w
theorem reads (os : Os) {H : Type} (enc : TypeId × Value → H) : ∃ places, DataW.whole enc Try.prog ((Hs.world os).forCall (fun _ _ => 0) ⟨#[], #[.int .i64 0, .slice none 0 0], []⟩).memory Try.f6.params.toList Rows.hashPiecesSpec.vars false (#[.int .i64 0, .slice none 0 0] : Array Value).toList 8 = some ([.lit (.int .i64 0), .nil], [], places) :=
  ⟨[], by kernel_rfl⟩
set_option maxHeartbeats 4000000 in
set_option maxRecDepth 100000 in
theorem lifted (os : Os) (started : os.Started) (H : Type) (enc : TypeId × Value → H) (F : Stop.Interp) :
    ReturnsInHanded {} Try.checked os 6 .any ((Rows.OpenSpec.upto Rows.hashPiecesSpec).preRow enc Try.prog Try.f6 Rows.hashPiecesUptoRow.domain false Rows.hashPiecesUptoRow.laid) (((Rows.OpenSpec.upto Rows.hashPiecesSpec).at F).post enc Try.prog Try.f6 false true false false) := by
  obtain ⟨places, hx⟩ := reads os enc
  refine returnsInHanded_of_row (C := Try.checked) (s := (Rows.OpenSpec.upto Rows.hashPiecesSpec)) Hs.own started (by kernel_rfl) Try.func6
    (witness_row_atRef (enc := enc) (C := Try.checked) false (Hs.world os) #[.int .i64 0, .slice none 0 0] rfl (by kernel_rfl) (by kernel_rfl) (by kernel_rfl)
      (OpenSpec.preRow_of_cond 8 hx (by kernel_rfl) (fun k hk => by cases hk; kernel_rfl) (by kernel_rfl) (Hs.laid_met os _))) ?_
  intro W base args ds gs before hval0 hW _ hk hsz hL _ _
  have hval : ∀ (j : Nat) t v, Try.f6.params[j]? = some t → args[j]? = some v → Value.okWide Try.prog W .any base t v := hval0
  have hW' := hW
  obtain ⟨p, q, hA0, hV0, rfl, _, _⟩ := hW
  have hA : DataW.TrodAll enc Try.prog W 0 (fun _ => true) true Try.f6.params.toList args.toList ds p := hA0
  rw [Try.params6] at hA hval
  obtain ⟨v0, vs0, d0, ds0, p0, q0, hargs, rfl, rfl, h0, r0⟩ := trodAll_cons hA
  obtain ⟨v1, vs1, d1, ds1, p1, q1, rfl, rfl, rfl, h1, r1⟩ := trodAll_cons r0
  obtain ⟨rfl, rfl, rfl⟩ := trodAll_nil r1
  obtain rfl : args = #[v0, v1] := by cases args; simp_all
  obtain ⟨rfl, rfl⟩ := trodVars_none hV0
  obtain ⟨a, rfl, rfl, rfl, wa⟩ := open_int Try.underlying3 (hval 0 3 v0 rfl rfl) h0
  obtain ⟨ab, nb, capb, lb, rfl, leb, cmb, Sb, bkb, backb⟩ := Hs.open_strs (hval 1 37 v1 rfl rfl) h1
  clear hA0 hV0 hval0
  have hb := hk _ rfl
  have hb2 := of_decide_eq_true hb
  simp only [Rows.uptoBulkAll, Rows.uptoBulk, List.append_nil] at hb2
  refine (walk a ab nb capb lb W Sb leb cmb (by omega)).mono ?_
  rintro e W' ⟨rfl, bel⟩
  have e1 : ((Rows.OpenSpec.upto Rows.hashPiecesSpec).at F).fn H ([.lit (.int .i64 a), d1] ++ []) = { results := [.lit (.bool true)], args := [.lit (.int .i64 a), d1] } := rfl
  refine ⟨_, rfl, _, _, _, [], [] ++ (p1 ++ ([])), [], hW', ?_, ?_, ?_, bel.frame _, fun h => by cases h⟩
  · rw [e1]; exact trodAll_cons_mk (shut_bool Try.underlying4 _) trodAll_mk0
  · rw [e1]; exact trodAll_cons_mk (shut_int Try.underlying3 wa) (trodAll_cons_mk (backb _ bel) trodAll_mk0)
  · rw [e1]; rfl

theorem said : Rows.HashPiecesUptoSaid :=
  OpenClaim.holds_of_cond 6 Try.f6 rfl rfl rfl rfl rfl rfl rfl ⟨rfl, rfl, rfl, rfl, rfl⟩ rfl rfl rfl rfl rfl (by kernel_rfl) Try.func6 (by kernel_rfl)
    (of_decide_eq_true (by kernel_rfl)) (by unfold Func.isWrapper; rw [if_neg (of_decide_eq_false (by kernel_rfl))]; exact ⟨rfl, rfl⟩)
    (fun os started H enc _ F => by rw [OpenClaim.pre_eq_preRow]; exact lifted os started H enc F)

end lwPieces
end Go.Proofs.Ytejnkchfjkhheaa
