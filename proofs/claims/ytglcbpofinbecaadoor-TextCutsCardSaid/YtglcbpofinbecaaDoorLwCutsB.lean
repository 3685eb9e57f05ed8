/- TextCuts: cut ahead of a byte below 128. -/
import Derived.Test.YtglcbpofinbecaaDoorLwCutsO
namespace Go.Proofs.YtglcbpofinbecaaDoor
open Go.ChangeShapes Go.WideShapes Go.ChangeAt Go.RowKit
namespace lwCuts

set_option maxHeartbeats 8000000 in
set_option maxRecDepth 100000 in
theorem at_low (s : ByteArray) (n : Nat) (w : World) (h : Tx.Ok w) (hs : s.size ≤ 140737488355328) (hv : (Tx.runes s.data.toList).isSome = true) (hn : n ≤ s.size) (hlt : n < s.size) (h1 : (s[n].toNat : Int) < 128) :
    Calls Tryd.prog 10 #[.string s, .int .i64 (n : Int)] w fun e w' => e = .returned (.bool true) ∧ Below w.heap.size w w' := by
  have HK := Lib.hid h
  have h3 := h.size
  have cf := Lib.hid (Tx.fixed_any w h)
  clear h
  have cv := fun W (hW : Tx.Ok W) => Tx.Utf8_any s W (by omega) hW.2
  rw [hv] at cv
  have CV := Lib.hid cv
  clear cv
  have hnz : (n : Int) ≤ (s.size : Int) := by omega
  have hl : n < s.data.toList.length := by rw [Tx.len]; exact hlt
  have hg : s.data.toList[n] = s[n] := rfl
  have hi := Tx.cut_iff s.data.toList n hv (by rw [Tx.len]; exact hn) True (by
    constructor
    · intro _; exact Or.inr ⟨hl, by rw [hg]; unfold Tx.Begins; omega⟩
    · intro _; trivial)
  have hi1 : (Tx.runes (s.data.toList.take n)).isSome = true := by simpa using hi.1
  have hi2 : (Tx.runes (s.data.toList.drop n)).isSome = true := by simpa using hi.2
  have te : ((n : Int) == (s.size : Int)) = false := by rw [beq_eq_false_iff_ne]; omega
  have tl : (n : Int) < (s.size : Int) := by omega
  clear hi hg hl
  have cb := both s n true hs hi1 hi2
  obtain ⟨t1, ht1⟩ : ∃ t, s.extract 0 n = t := ⟨_, rfl⟩
  obtain ⟨t2, ht2⟩ : ∃ t, s.extract n s.size = t := ⟨_, rfl⟩
  rw [ht1, ht2] at cb
  have CB := Lib.hid cb
  clear cb hv hi1 hi2
  go_enter Tryd.func10, Tryd.ntmps10
  go_wp2_with fail
  refine cf.out.mono ?_
  rintro e w1 ⟨rfl, b1⟩
  go_wp2_with fail
  refine (CV.out _ (HK.out.below b1 h3)).mono ?_
  rintro e w2 ⟨rfl, b2⟩
  have S2 := Tx.Since.then b2 (Tx.Since.then b1 (Tx.Since.start HK.out))
  clear b1 b2
  go_wp2_with fail
  go_region_held3 (fun w' => Tx.Since w w') ((first | with_reducible assumption | exact Tx.Since.drew S2 | exact Tx.Since.then (by with_reducible assumption) (by with_reducible assumption))) ((with_reducible refine Calls.mono (CB.out _ (by first | exact Or.inl rfl | exact Or.inr rfl) _ (Tx.Since.ok (w0 := w) (by with_reducible assumption))) ?_; rintro e w3 ⟨rfl, b3⟩))
  all_goals
    go_wp2
    go_ret
    exact ⟨rfl, (Tx.Since.below (by with_reducible assumption))⟩

end lwCuts
end Go.Proofs.YtglcbpofinbecaaDoor
