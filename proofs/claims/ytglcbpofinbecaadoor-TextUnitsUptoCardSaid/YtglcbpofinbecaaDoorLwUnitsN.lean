/- TextUnits: the walks where s is no UTF-8. -/
import Derived.Test.YtglcbpofinbecaaDoorUniS
import Derived.Test.YtglcbpofinbecaaDoorFixed
import Derived.Test.YtglcbpofinbecaaDoorStr
namespace Go.Proofs.YtglcbpofinbecaaDoor
open Go.ChangeShapes Go.WideShapes Go.ChangeAt Go.RowKit
namespace lwUnits
set_option maxHeartbeats 8000000 in
set_option maxRecDepth 100000 in
theorem walk_N_13 (s t : ByteArray) (v : Value) (l : List Int) (w : World) (h : Tx.Ok w) (hs : s.size ≤ 4194304) (_ht : t.size ≤ 4194304) (hl : l.length ≤ 4194304) (hv : Tx.Ints w w.heap.size v l) (hn : Tx.unitsL s.data.toList = none) (hu : (Tx.runes s.data.toList).isSome = false) (he : Tx.readU l = .error 13) :
    Calls Tryd.prog 6 #[.string s, .string t, v] w fun e w' => e = .returned (.bool true) ∧ Below w.heap.size w w' := by
  have S0 := Tx.Since.start h
  have V0 := Tx.Held.mk hv
  clear h hv
  have CF := Lib.hid (fun (W : World) (hW : Tx.Ok W) => Tx.fixed_any W hW)
  have C1 := Lib.hid (fun (W : World) (hW : Tx.Ok W) => Tx.Units_none s hn (by omega) W hW)
  have C2 := Lib.hid (fun (W : World) (hW : Tx.Ok W) => Tx.Utf8_b s false hu (by omega) W hW)
  have D6 := Lib.hid (fun (W : World) (hW : Tx.Ok W) (hx : Tx.Held W v l) => Tx.FromUnits_err v l _ he (by omega) W hW hx.out)
  clear hn hu hl he hs _ht
  go_enter Tryd.func6, Tryd.ntmps6
  go_wp2_with fail
  refine (C1.out w S0.ok).mono ?_
  rintro e w1 ⟨rfl, b1⟩
  have S1 := Tx.Since.then b1 S0
  have V1 := V0.since b1
  clear b1
  clear S0 V0
  go_wp2_with fail
  refine (CF.out w1 S1.ok).mono ?_
  rintro e w2 ⟨rfl, b2⟩
  have S2 := Tx.Since.then b2 S1
  have V2 := V1.since b2
  clear b2
  clear S1 V1
  go_wp2_with fail
  refine (C2.out w2 S2.ok).mono ?_
  rintro e w3 ⟨rfl, b3⟩
  have S3 := Tx.Since.then b3 S2
  have V3 := V2.since b3
  clear b3
  clear S2 V2
  go_wp2_with fail
  refine (D6.out w3 S3.ok V3).mono ?_
  rintro e w4 ⟨rfl, b4⟩
  have S4 := Tx.Since.then b4 S3
  have V4 := V3.since b4
  clear b4
  clear S3 V3
  go_wp2_with fail
  go_ret
  exact ⟨rfl, S4.below⟩

set_option maxHeartbeats 8000000 in
set_option maxRecDepth 100000 in
theorem walk_N_14 (s t : ByteArray) (v : Value) (l : List Int) (w : World) (h : Tx.Ok w) (hs : s.size ≤ 4194304) (_ht : t.size ≤ 4194304) (hl : l.length ≤ 4194304) (hv : Tx.Ints w w.heap.size v l) (hn : Tx.unitsL s.data.toList = none) (hu : (Tx.runes s.data.toList).isSome = false) (he : Tx.readU l = .error 14) :
    Calls Tryd.prog 6 #[.string s, .string t, v] w fun e w' => e = .returned (.bool true) ∧ Below w.heap.size w w' := by
  have S0 := Tx.Since.start h
  have V0 := Tx.Held.mk hv
  clear h hv
  have CF := Lib.hid (fun (W : World) (hW : Tx.Ok W) => Tx.fixed_any W hW)
  have C1 := Lib.hid (fun (W : World) (hW : Tx.Ok W) => Tx.Units_none s hn (by omega) W hW)
  have C2 := Lib.hid (fun (W : World) (hW : Tx.Ok W) => Tx.Utf8_b s false hu (by omega) W hW)
  have D6 := Lib.hid (fun (W : World) (hW : Tx.Ok W) (hx : Tx.Held W v l) => Tx.FromUnits_err v l _ he (by omega) W hW hx.out)
  clear hn hu hl he hs _ht
  go_enter Tryd.func6, Tryd.ntmps6
  go_wp2_with fail
  refine (C1.out w S0.ok).mono ?_
  rintro e w1 ⟨rfl, b1⟩
  have S1 := Tx.Since.then b1 S0
  have V1 := V0.since b1
  clear b1
  clear S0 V0
  go_wp2_with fail
  refine (CF.out w1 S1.ok).mono ?_
  rintro e w2 ⟨rfl, b2⟩
  have S2 := Tx.Since.then b2 S1
  have V2 := V1.since b2
  clear b2
  clear S1 V1
  go_wp2_with fail
  refine (C2.out w2 S2.ok).mono ?_
  rintro e w3 ⟨rfl, b3⟩
  have S3 := Tx.Since.then b3 S2
  have V3 := V2.since b3
  clear b3
  clear S2 V2
  go_wp2_with fail
  refine (D6.out w3 S3.ok V3).mono ?_
  rintro e w4 ⟨rfl, b4⟩
  have S4 := Tx.Since.then b4 S3
  have V4 := V3.since b4
  clear b4
  clear S3 V3
  go_wp2_with fail
  go_ret
  exact ⟨rfl, S4.below⟩

set_option maxHeartbeats 8000000 in
set_option maxRecDepth 100000 in
theorem walk_N_K (s t : ByteArray) (v : Value) (l : List Int) (w : World) (h : Tx.Ok w) (hs : s.size ≤ 4194304) (_ht : t.size ≤ 4194304) (hl : l.length ≤ 4194304) (hv : Tx.Ints w w.heap.size v l) (hn : Tx.unitsL s.data.toList = none) (hu : (Tx.runes s.data.toList).isSome = false) (ru : List Nat) (hru : ∀ r ∈ ru, Tx.Rune r) (he : Tx.readU l = .ok ru) (hlu : l = Tx.cu ru) :
    Calls Tryd.prog 6 #[.string s, .string t, v] w fun e w' => e = .returned (.bool true) ∧ Below w.heap.size w w' := by
  have S0 := Tx.Since.start h
  have V0 := Tx.Held.mk hv
  clear h hv
  have CF := Lib.hid (fun (W : World) (hW : Tx.Ok W) => Tx.fixed_any W hW)
  have C1 := Lib.hid (fun (W : World) (hW : Tx.Ok W) => Tx.Units_none s hn (by omega) W hW)
  have C2 := Lib.hid (fun (W : World) (hW : Tx.Ok W) => Tx.Utf8_b s false hu (by omega) W hW)
  have D6 := Lib.hid (fun (W : World) (hW : Tx.Ok W) (hx : Tx.Held W v l) => Tx.FromUnits_ok v l ru he (by omega) W hW hx.out)
  have hq1 : (Tx.ba (Tx.flat ru)).size ≤ 8796093022208 := by have := Tx.flat_le ru; have := congrArg List.length hlu; rw [Tx.ba_size]; omega
  have C7 := Lib.hid (fun (W : World) (hW : Tx.Ok W) => Tx.Units_some (Tx.ba (Tx.flat ru)) _ (Tx.units_ba ru hru) hq1 W hW)
  have C8 := Lib.hid (fun (W : World) (hW : Tx.Ok W) => Tx.Utf8_b (Tx.ba (Tx.flat ru)) true (Tx.runes_ba ru hru) (by omega) W hW)
  have CE := Lib.hid (fun (x : Value) (W : World) (h1 : Tx.Held W x (Tx.cu ru)) (h2 : Tx.Held W v l) => Tx.same_any x v _ _ W h1.out h2.out)
  have hce : decide (Tx.cu ru = l) = true := by rw [hlu]; exact decide_eq_true rfl
  clear hn hu hl he hs _ht hru hq1 hlu
  go_enter Tryd.func6, Tryd.ntmps6
  go_wp2_with fail
  refine (C1.out w S0.ok).mono ?_
  rintro e w1 ⟨rfl, b1⟩
  have S1 := Tx.Since.then b1 S0
  have V1 := V0.since b1
  clear b1
  clear S0 V0
  go_wp2_with fail
  refine (CF.out w1 S1.ok).mono ?_
  rintro e w2 ⟨rfl, b2⟩
  have S2 := Tx.Since.then b2 S1
  have V2 := V1.since b2
  clear b2
  clear S1 V1
  go_wp2_with fail
  refine (C2.out w2 S2.ok).mono ?_
  rintro e w3 ⟨rfl, b3⟩
  have S3 := Tx.Since.then b3 S2
  have V3 := V2.since b3
  clear b3
  clear S2 V2
  go_wp2_with fail
  refine (D6.out w3 S3.ok V3).mono ?_
  rintro e w4 ⟨rfl, b4⟩
  have S4 := Tx.Since.then b4 S3
  have V4 := V3.since b4
  clear b4
  clear S3 V3
  go_wp2_with fail
  refine (C7.out w4 S4.ok).mono ?_
  rintro e w5 ⟨vx, rfl, o5, b5⟩
  have S5 := Tx.Since.then b5 S4
  have V5 := V4.since b5
  have X5 := Tx.Held.own o5
  clear b5 o5
  clear S4 V4
  go_wp2_with fail
  refine (CE.out vx w5 X5 V5).mono ?_
  rintro e w6 ⟨rfl, b6⟩
  have S6 := Tx.Since.then b6 S5
  have V6 := V5.since b6
  have X6 := X5.since b6
  clear b6
  clear S5 V5 X5
  rw [hce]
  go_wp2_with fail
  refine (C8.out w6 S6.ok).mono ?_
  rintro e w7 ⟨rfl, b7⟩
  have S7 := Tx.Since.then b7 S6
  have V7 := V6.since b7
  have X7 := X6.since b7
  clear b7
  clear S6 V6 X6
  go_wp2_with fail
  go_ret
  exact ⟨rfl, S7.below⟩

end lwUnits
end Go.Proofs.YtglcbpofinbecaaDoor
