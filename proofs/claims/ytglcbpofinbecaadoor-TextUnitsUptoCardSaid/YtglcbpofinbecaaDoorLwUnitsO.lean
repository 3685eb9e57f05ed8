/- TextUnits: the walks where s is UTF-8 and t is not. -/
import Derived.Test.YtglcbpofinbecaaDoorUniS
import Derived.Test.YtglcbpofinbecaaDoorFixed
import Derived.Test.YtglcbpofinbecaaDoorStr
namespace Go.Proofs.YtglcbpofinbecaaDoor
open Go.ChangeShapes Go.WideShapes Go.ChangeAt Go.RowKit
namespace lwUnits
set_option maxHeartbeats 8000000 in
set_option maxRecDepth 100000 in
theorem walk_O_13 (s t : ByteArray) (v : Value) (l : List Int) (w : World) (h : Tx.Ok w) (hs : s.size ≤ 4194304) (ht : t.size ≤ 4194304) (hl : l.length ≤ 4194304) (hv : Tx.Ints w w.heap.size v l) (rs : List Nat) (hr : ∀ r ∈ rs, Tx.Rune r) (hf : s.data.toList = Tx.flat rs) (hn : Tx.unitsL s.data.toList = some (Tx.cu rs)) (hu : (Tx.runes s.data.toList).isSome = true) (hm : Tx.unitsL t.data.toList = none) (he : Tx.readU l = .error 13) :
    Calls Tryd.prog 6 #[.string s, .string t, v] w fun e w' => e = .returned (.bool true) ∧ Below w.heap.size w w' := by
  have S0 := Tx.Since.start h
  have V0 := Tx.Held.mk hv
  clear h hv
  have CF := Lib.hid (fun (W : World) (hW : Tx.Ok W) => Tx.fixed_any W hW)
  have C1 := Lib.hid (fun (W : World) (hW : Tx.Ok W) => Tx.Units_some s _ hn (by omega) W hW)
  have C2 := Lib.hid (fun (W : World) (hW : Tx.Ok W) => Tx.Utf8_b s true hu (by omega) W hW)
  have hsz := Tx.flat_size hf
  have hcl := Tx.cu_len rs
  have hba : Tx.ba (Tx.flat rs) = s := by rw [← hf]; exact Tx.ba_data s
  have sst : (s ++ t).size = s.size + t.size := ByteArray.size_append
  have hun := Tx.units_append s t rs hr hf
  rw [hm] at hun
  have C3 := Lib.hid (fun (x : Value) (W : World) (hW : Tx.Ok W) (hx : Tx.Held W x (Tx.cu rs)) => hba ▸ Tx.FromUnits_ok x _ rs (Tx.readU_units' rs hr) (by omega) W hW hx.out)
  have C4 := Lib.hid (fun (W : World) (hW : Tx.Ok W) => Tx.Units_none t hm (by omega) W hW)
  have C5 := Lib.hid (fun (W : World) (hW : Tx.Ok W) => Tx.Units_none (s ++ t) hun (by omega) W hW)
  have D6 := Lib.hid (fun (W : World) (hW : Tx.Ok W) (hx : Tx.Held W v l) => Tx.FromUnits_err v l _ he (by omega) W hW hx.out)
  clear hr hf hn hu hm hsz hcl hba sst hun hl he
  go_enter Tryd.func6, Tryd.ntmps6
  go_wp2_with fail
  refine (C1.out w S0.ok).mono ?_
  rintro e w1 ⟨va, rfl, o1, b1⟩
  have S1 := Tx.Since.then b1 S0
  have V1 := V0.since b1
  have A1 := Tx.Held.own o1
  clear b1 o1
  clear S0 V0
  go_wp2_with fail
  refine (CF.out w1 S1.ok).mono ?_
  rintro e w2 ⟨rfl, b2⟩
  have S2 := Tx.Since.then b2 S1
  have V2 := V1.since b2
  have A2 := A1.since b2
  clear b2
  clear S1 V1 A1
  go_wp2_with fail
  refine (C2.out w2 S2.ok).mono ?_
  rintro e w3 ⟨rfl, b3⟩
  have S3 := Tx.Since.then b3 S2
  have V3 := V2.since b3
  have A3 := A2.since b3
  clear b3
  clear S2 V2 A2
  go_wp2_with fail
  refine (C3.out va w3 S3.ok A3).mono ?_
  rintro e w4 ⟨rfl, b4⟩
  have S4 := Tx.Since.then b4 S3
  have V4 := V3.since b4
  have A4 := A3.since b4
  clear b4
  clear S3 V3 A3
  go_wp2_with fail
  refine (C4.out w4 S4.ok).mono ?_
  rintro e w5 ⟨rfl, b5⟩
  have S5 := Tx.Since.then b5 S4
  have V5 := V4.since b5
  have A5 := A4.since b5
  clear b5
  clear S4 V4 A4
  go_wp2_with fail
  refine (C5.out w5 S5.ok).mono ?_
  rintro e w6 ⟨rfl, b6⟩
  have S6 := Tx.Since.then b6 S5
  have V6 := V5.since b6
  have A6 := A5.since b6
  clear b6
  clear S5 V5 A5
  go_wp2_with fail
  refine (D6.out w6 S6.ok V6).mono ?_
  rintro e w7 ⟨rfl, b7⟩
  have S7 := Tx.Since.then b7 S6
  have V7 := V6.since b7
  have A7 := A6.since b7
  clear b7
  clear S6 V6 A6
  go_wp2_with fail
  go_ret
  exact ⟨rfl, S7.below⟩

set_option maxHeartbeats 8000000 in
set_option maxRecDepth 100000 in
theorem walk_O_14 (s t : ByteArray) (v : Value) (l : List Int) (w : World) (h : Tx.Ok w) (hs : s.size ≤ 4194304) (ht : t.size ≤ 4194304) (hl : l.length ≤ 4194304) (hv : Tx.Ints w w.heap.size v l) (rs : List Nat) (hr : ∀ r ∈ rs, Tx.Rune r) (hf : s.data.toList = Tx.flat rs) (hn : Tx.unitsL s.data.toList = some (Tx.cu rs)) (hu : (Tx.runes s.data.toList).isSome = true) (hm : Tx.unitsL t.data.toList = none) (he : Tx.readU l = .error 14) :
    Calls Tryd.prog 6 #[.string s, .string t, v] w fun e w' => e = .returned (.bool true) ∧ Below w.heap.size w w' := by
  have S0 := Tx.Since.start h
  have V0 := Tx.Held.mk hv
  clear h hv
  have CF := Lib.hid (fun (W : World) (hW : Tx.Ok W) => Tx.fixed_any W hW)
  have C1 := Lib.hid (fun (W : World) (hW : Tx.Ok W) => Tx.Units_some s _ hn (by omega) W hW)
  have C2 := Lib.hid (fun (W : World) (hW : Tx.Ok W) => Tx.Utf8_b s true hu (by omega) W hW)
  have hsz := Tx.flat_size hf
  have hcl := Tx.cu_len rs
  have hba : Tx.ba (Tx.flat rs) = s := by rw [← hf]; exact Tx.ba_data s
  have sst : (s ++ t).size = s.size + t.size := ByteArray.size_append
  have hun := Tx.units_append s t rs hr hf
  rw [hm] at hun
  have C3 := Lib.hid (fun (x : Value) (W : World) (hW : Tx.Ok W) (hx : Tx.Held W x (Tx.cu rs)) => hba ▸ Tx.FromUnits_ok x _ rs (Tx.readU_units' rs hr) (by omega) W hW hx.out)
  have C4 := Lib.hid (fun (W : World) (hW : Tx.Ok W) => Tx.Units_none t hm (by omega) W hW)
  have C5 := Lib.hid (fun (W : World) (hW : Tx.Ok W) => Tx.Units_none (s ++ t) hun (by omega) W hW)
  have D6 := Lib.hid (fun (W : World) (hW : Tx.Ok W) (hx : Tx.Held W v l) => Tx.FromUnits_err v l _ he (by omega) W hW hx.out)
  clear hr hf hn hu hm hsz hcl hba sst hun hl he
  go_enter Tryd.func6, Tryd.ntmps6
  go_wp2_with fail
  refine (C1.out w S0.ok).mono ?_
  rintro e w1 ⟨va, rfl, o1, b1⟩
  have S1 := Tx.Since.then b1 S0
  have V1 := V0.since b1
  have A1 := Tx.Held.own o1
  clear b1 o1
  clear S0 V0
  go_wp2_with fail
  refine (CF.out w1 S1.ok).mono ?_
  rintro e w2 ⟨rfl, b2⟩
  have S2 := Tx.Since.then b2 S1
  have V2 := V1.since b2
  have A2 := A1.since b2
  clear b2
  clear S1 V1 A1
  go_wp2_with fail
  refine (C2.out w2 S2.ok).mono ?_
  rintro e w3 ⟨rfl, b3⟩
  have S3 := Tx.Since.then b3 S2
  have V3 := V2.since b3
  have A3 := A2.since b3
  clear b3
  clear S2 V2 A2
  go_wp2_with fail
  refine (C3.out va w3 S3.ok A3).mono ?_
  rintro e w4 ⟨rfl, b4⟩
  have S4 := Tx.Since.then b4 S3
  have V4 := V3.since b4
  have A4 := A3.since b4
  clear b4
  clear S3 V3 A3
  go_wp2_with fail
  refine (C4.out w4 S4.ok).mono ?_
  rintro e w5 ⟨rfl, b5⟩
  have S5 := Tx.Since.then b5 S4
  have V5 := V4.since b5
  have A5 := A4.since b5
  clear b5
  clear S4 V4 A4
  go_wp2_with fail
  refine (C5.out w5 S5.ok).mono ?_
  rintro e w6 ⟨rfl, b6⟩
  have S6 := Tx.Since.then b6 S5
  have V6 := V5.since b6
  have A6 := A5.since b6
  clear b6
  clear S5 V5 A5
  go_wp2_with fail
  refine (D6.out w6 S6.ok V6).mono ?_
  rintro e w7 ⟨rfl, b7⟩
  have S7 := Tx.Since.then b7 S6
  have V7 := V6.since b7
  have A7 := A6.since b7
  clear b7
  clear S6 V6 A6
  go_wp2_with fail
  go_ret
  exact ⟨rfl, S7.below⟩

set_option maxHeartbeats 8000000 in
set_option maxRecDepth 100000 in
theorem walk_O_K (s t : ByteArray) (v : Value) (l : List Int) (w : World) (h : Tx.Ok w) (hs : s.size ≤ 4194304) (ht : t.size ≤ 4194304) (hl : l.length ≤ 4194304) (hv : Tx.Ints w w.heap.size v l) (rs : List Nat) (hr : ∀ r ∈ rs, Tx.Rune r) (hf : s.data.toList = Tx.flat rs) (hn : Tx.unitsL s.data.toList = some (Tx.cu rs)) (hu : (Tx.runes s.data.toList).isSome = true) (hm : Tx.unitsL t.data.toList = none) (ru : List Nat) (hru : ∀ r ∈ ru, Tx.Rune r) (he : Tx.readU l = .ok ru) (hlu : l = Tx.cu ru) :
    Calls Tryd.prog 6 #[.string s, .string t, v] w fun e w' => e = .returned (.bool true) ∧ Below w.heap.size w w' := by
  have S0 := Tx.Since.start h
  have V0 := Tx.Held.mk hv
  clear h hv
  have CF := Lib.hid (fun (W : World) (hW : Tx.Ok W) => Tx.fixed_any W hW)
  have C1 := Lib.hid (fun (W : World) (hW : Tx.Ok W) => Tx.Units_some s _ hn (by omega) W hW)
  have C2 := Lib.hid (fun (W : World) (hW : Tx.Ok W) => Tx.Utf8_b s true hu (by omega) W hW)
  have hsz := Tx.flat_size hf
  have hcl := Tx.cu_len rs
  have hba : Tx.ba (Tx.flat rs) = s := by rw [← hf]; exact Tx.ba_data s
  have sst : (s ++ t).size = s.size + t.size := ByteArray.size_append
  have hun := Tx.units_append s t rs hr hf
  rw [hm] at hun
  have C3 := Lib.hid (fun (x : Value) (W : World) (hW : Tx.Ok W) (hx : Tx.Held W x (Tx.cu rs)) => hba ▸ Tx.FromUnits_ok x _ rs (Tx.readU_units' rs hr) (by omega) W hW hx.out)
  have C4 := Lib.hid (fun (W : World) (hW : Tx.Ok W) => Tx.Units_none t hm (by omega) W hW)
  have C5 := Lib.hid (fun (W : World) (hW : Tx.Ok W) => Tx.Units_none (s ++ t) hun (by omega) W hW)
  have D6 := Lib.hid (fun (W : World) (hW : Tx.Ok W) (hx : Tx.Held W v l) => Tx.FromUnits_ok v l ru he (by omega) W hW hx.out)
  have hq1 : (Tx.ba (Tx.flat ru)).size ≤ 8796093022208 := by have := Tx.flat_le ru; have := congrArg List.length hlu; rw [Tx.ba_size]; omega
  have C7 := Lib.hid (fun (W : World) (hW : Tx.Ok W) => Tx.Units_some (Tx.ba (Tx.flat ru)) _ (Tx.units_ba ru hru) hq1 W hW)
  have C8 := Lib.hid (fun (W : World) (hW : Tx.Ok W) => Tx.Utf8_b (Tx.ba (Tx.flat ru)) true (Tx.runes_ba ru hru) (by omega) W hW)
  have CE := Lib.hid (fun (x : Value) (W : World) (h1 : Tx.Held W x (Tx.cu ru)) (h2 : Tx.Held W v l) => Tx.same_any x v _ _ W h1.out h2.out)
  have hce : decide (Tx.cu ru = l) = true := by rw [hlu]; exact decide_eq_true rfl
  clear hr hf hn hu hm hsz hcl hba sst hun hl he hru hq1 hlu
  go_enter Tryd.func6, Tryd.ntmps6
  go_wp2_with fail
  refine (C1.out w S0.ok).mono ?_
  rintro e w1 ⟨va, rfl, o1, b1⟩
  have S1 := Tx.Since.then b1 S0
  have V1 := V0.since b1
  have A1 := Tx.Held.own o1
  clear b1 o1
  clear S0 V0
  go_wp2_with fail
  refine (CF.out w1 S1.ok).mono ?_
  rintro e w2 ⟨rfl, b2⟩
  have S2 := Tx.Since.then b2 S1
  have V2 := V1.since b2
  have A2 := A1.since b2
  clear b2
  clear S1 V1 A1
  go_wp2_with fail
  refine (C2.out w2 S2.ok).mono ?_
  rintro e w3 ⟨rfl, b3⟩
  have S3 := Tx.Since.then b3 S2
  have V3 := V2.since b3
  have A3 := A2.since b3
  clear b3
  clear S2 V2 A2
  go_wp2_with fail
  refine (C3.out va w3 S3.ok A3).mono ?_
  rintro e w4 ⟨rfl, b4⟩
  have S4 := Tx.Since.then b4 S3
  have V4 := V3.since b4
  have A4 := A3.since b4
  clear b4
  clear S3 V3 A3
  go_wp2_with fail
  refine (C4.out w4 S4.ok).mono ?_
  rintro e w5 ⟨rfl, b5⟩
  have S5 := Tx.Since.then b5 S4
  have V5 := V4.since b5
  have A5 := A4.since b5
  clear b5
  clear S4 V4 A4
  go_wp2_with fail
  refine (C5.out w5 S5.ok).mono ?_
  rintro e w6 ⟨rfl, b6⟩
  have S6 := Tx.Since.then b6 S5
  have V6 := V5.since b6
  have A6 := A5.since b6
  clear b6
  clear S5 V5 A5
  go_wp2_with fail
  refine (D6.out w6 S6.ok V6).mono ?_
  rintro e w7 ⟨rfl, b7⟩
  have S7 := Tx.Since.then b7 S6
  have V7 := V6.since b7
  have A7 := A6.since b7
  clear b7
  clear S6 V6 A6
  go_wp2_with fail
  refine (C7.out w7 S7.ok).mono ?_
  rintro e w8 ⟨vx, rfl, o8, b8⟩
  have S8 := Tx.Since.then b8 S7
  have V8 := V7.since b8
  have A8 := A7.since b8
  have X8 := Tx.Held.own o8
  clear b8 o8
  clear S7 V7 A7
  go_wp2_with fail
  refine (CE.out vx w8 X8 V8).mono ?_
  rintro e w9 ⟨rfl, b9⟩
  have S9 := Tx.Since.then b9 S8
  have V9 := V8.since b9
  have A9 := A8.since b9
  have X9 := X8.since b9
  clear b9
  clear S8 V8 A8 X8
  rw [hce]
  go_wp2_with fail
  refine (C8.out w9 S9.ok).mono ?_
  rintro e w10 ⟨rfl, b10⟩
  have S10 := Tx.Since.then b10 S9
  have V10 := V9.since b10
  have A10 := A9.since b10
  have X10 := X9.since b10
  clear b10
  clear S9 V9 A9 X9
  go_wp2_with fail
  go_ret
  exact ⟨rfl, S10.below⟩

end lwUnits
end Go.Proofs.YtglcbpofinbecaaDoor
