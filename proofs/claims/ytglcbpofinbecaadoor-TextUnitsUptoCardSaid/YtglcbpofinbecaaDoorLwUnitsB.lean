/- TextUnits: the walks where s and t are UTF-8. -/
import Derived.Test.YtglcbpofinbecaaDoorUniS
import Derived.Test.YtglcbpofinbecaaDoorFixed
import Derived.Test.YtglcbpofinbecaaDoorStr
namespace Go.Proofs.YtglcbpofinbecaaDoor
open Go.ChangeShapes Go.WideShapes Go.ChangeAt Go.RowKit
namespace lwUnits
set_option maxHeartbeats 8000000 in
set_option maxRecDepth 100000 in
theorem walk_B_13 (s t : ByteArray) (v : Value) (l : List Int) (w : World) (h : Tx.Ok w) (hs : s.size ≤ 4194304) (ht : t.size ≤ 4194304) (hl : l.length ≤ 4194304) (hv : Tx.Ints w w.heap.size v l) (rs : List Nat) (hr : ∀ r ∈ rs, Tx.Rune r) (hf : s.data.toList = Tx.flat rs) (hn : Tx.unitsL s.data.toList = some (Tx.cu rs)) (hu : (Tx.runes s.data.toList).isSome = true) (rt : List Nat) (hft : t.data.toList = Tx.flat rt) (hm : Tx.unitsL t.data.toList = some (Tx.cu rt)) (he : Tx.readU l = .error 13) :
    Calls Tryd.prog 6 #[.string s, .string t, v] w fun e w' => e = .returned (.bool true) ∧ Below w.heap.size w w' := by
  have S0 := Tx.Since.start h
  have V0 := Tx.Held.mk hv
  clear h hv
  have CF := Lib.hid (fun (W : World) (hW : Tx.Ok W) => Tx.fixed_any W hW)
  have C1 := Lib.hid (fun (W : World) (hW : Tx.Ok W) => Tx.Units_some s _ hn (by omega) W hW)
  have C2 := Lib.hid (fun (W : World) (hW : Tx.Ok W) => Tx.Utf8_b s true hu (by omega) W hW)
  have hsz := Tx.flat_size hf
  have hcl := Tx.cu_len rs
  have hba : Tx.ba (Tx.flat rs) = s := by rw [← hf]; exact Tx.ba_data s
  have sst : (s ++ t).size = s.size + t.size := ByteArray.size_append
  have hun := Tx.units_append s t rs hr hf
  rw [hm] at hun
  have C3 := Lib.hid (fun (x : Value) (W : World) (hW : Tx.Ok W) (hx : Tx.Held W x (Tx.cu rs)) => hba ▸ Tx.FromUnits_ok x _ rs (Tx.readU_units' rs hr) (by omega) W hW hx.out)
  have htz := Tx.flat_size hft
  have hct := Tx.cu_len rt
  have C4 := Lib.hid (fun (W : World) (hW : Tx.Ok W) => Tx.Units_some t _ hm (by omega) W hW)
  have C5 := Lib.hid (fun (W : World) (hW : Tx.Ok W) => Tx.Units_some (s ++ t) _ hun (by omega) W hW)
  have hll : ([] : List Int).length + (Tx.cu rs).length ≤ 17592186044416 := by simp; omega
  have hll2 : ([] ++ Tx.cu rs : List Int).length + (Tx.cu rt).length ≤ 17592186044416 := by simp; omega
  have hcs : decide (Tx.cu rs ++ Tx.cu rt = [] ++ Tx.cu rs ++ Tx.cu rt) = true := by simp
  have CS := Lib.hid (fun (x y : Value) (W : World) (h1 : Tx.Held W x (Tx.cu rs ++ Tx.cu rt)) (h2 : Tx.Held W y ([] ++ Tx.cu rs ++ Tx.cu rt)) => Tx.same_any x y _ _ W h1.out h2.out)
  have D6 := Lib.hid (fun (W : World) (hW : Tx.Ok W) (hx : Tx.Held W v l) => Tx.FromUnits_err v l _ he (by omega) W hW hx.out)
  clear hr hf hn hu hm hft hsz hcl hba sst hun htz hct hl he
  go_enter Tryd.func6, Tryd.ntmps6
  go_wp2_with fail
  refine (C1.out w S0.ok).mono ?_
  rintro e w1 ⟨va, rfl, o1, b1⟩
  have S1 := Tx.Since.then b1 S0
  have V1 := V0.since b1
  have A1 := Tx.Held.own o1
  clear b1 o1
  clear S0 V0
  go_wp2_with fail
  refine (CF.out w1 S1.ok).mono ?_
  rintro e w2 ⟨rfl, b2⟩
  have S2 := Tx.Since.then b2 S1
  have V2 := V1.since b2
  have A2 := A1.since b2
  clear b2
  clear S1 V1 A1
  go_wp2_with fail
  refine (C2.out w2 S2.ok).mono ?_
  rintro e w3 ⟨rfl, b3⟩
  have S3 := Tx.Since.then b3 S2
  have V3 := V2.since b3
  have A3 := A2.since b3
  clear b3
  clear S2 V2 A2
  go_wp2_with fail
  refine (C3.out va w3 S3.ok A3).mono ?_
  rintro e w4 ⟨rfl, b4⟩
  have S4 := Tx.Since.then b4 S3
  have V4 := V3.since b4
  have A4 := A3.since b4
  clear b4
  clear S3 V3 A3
  go_wp2_with fail
  refine (C4.out w4 S4.ok).mono ?_
  rintro e w5 ⟨vb, rfl, o5, b5⟩
  have S5 := Tx.Since.then b5 S4
  have V5 := V4.since b5
  have A5 := A4.since b5
  have B5 := Tx.Held.own o5
  clear b5 o5
  clear S4 V4 A4
  go_wp2_with fail
  refine (C5.out w5 S5.ok).mono ?_
  rintro e w6 ⟨vc, rfl, o6, b6⟩
  have S6 := Tx.Since.then b6 S5
  have V6 := V5.since b6
  have A6 := A5.since b6
  have B6 := B5.since b6
  have C6 := Tx.Held.own o6
  clear b6 o6
  clear S5 V5 A5 B5
  go_wp2_with (first | (at_builtin; refine Tx.appendI_held rfl _ _ rfl w6.heap.size _ [] rfl (Tx.OwnI.empty w6 _ (Nat.le_refl _)) _ _ rfl (A6.alloc _) hll (by simp) ?_; intro x7 w7 o7 b7 z7) | (at_builtin; refine Tx.appendI_held rfl _ _ rfl w6.heap.size _ _ rfl o7 _ _ rfl (B6.since (((Below.refl _ _).alloc (Nat.le_refl _) _).trans b7)).out hll2 z7 ?_; intro x8 w8 o8 b8 z8))
  have b9 := Tx.build_below _ b7 b8
  have D8 := Tx.Held.own o8
  have S8 := Tx.Since.then b9 S6
  have V8 := V6.since b9
  have C8' := C6.since b9
  clear o7 o8 b7 b8 b9 z7 z8 S6 V6 C6 A6 B6
  refine (CS.out vc x8 w8 C8' D8).mono ?_
  rintro e w9 ⟨rfl, b9⟩
  rw [hcs]
  have S9 := Tx.Since.then b9 S8
  have V9 := V8.since b9
  clear b9 S8 V8 C8' D8
  go_wp2_with fail
  refine (D6.out w9 S9.ok V9).mono ?_
  rintro e w10 ⟨rfl, b10⟩
  have S10 := Tx.Since.then b10 S9
  have V10 := V9.since b10
  clear b10
  clear S9 V9
  go_wp2_with fail
  go_ret
  exact ⟨rfl, S10.below⟩

set_option maxHeartbeats 8000000 in
set_option maxRecDepth 100000 in
theorem walk_B_14 (s t : ByteArray) (v : Value) (l : List Int) (w : World) (h : Tx.Ok w) (hs : s.size ≤ 4194304) (ht : t.size ≤ 4194304) (hl : l.length ≤ 4194304) (hv : Tx.Ints w w.heap.size v l) (rs : List Nat) (hr : ∀ r ∈ rs, Tx.Rune r) (hf : s.data.toList = Tx.flat rs) (hn : Tx.unitsL s.data.toList = some (Tx.cu rs)) (hu : (Tx.runes s.data.toList).isSome = true) (rt : List Nat) (hft : t.data.toList = Tx.flat rt) (hm : Tx.unitsL t.data.toList = some (Tx.cu rt)) (he : Tx.readU l = .error 14) :
    Calls Tryd.prog 6 #[.string s, .string t, v] w fun e w' => e = .returned (.bool true) ∧ Below w.heap.size w w' := by
  have S0 := Tx.Since.start h
  have V0 := Tx.Held.mk hv
  clear h hv
  have CF := Lib.hid (fun (W : World) (hW : Tx.Ok W) => Tx.fixed_any W hW)
  have C1 := Lib.hid (fun (W : World) (hW : Tx.Ok W) => Tx.Units_some s _ hn (by omega) W hW)
  have C2 := Lib.hid (fun (W : World) (hW : Tx.Ok W) => Tx.Utf8_b s true hu (by omega) W hW)
  have hsz := Tx.flat_size hf
  have hcl := Tx.cu_len rs
  have hba : Tx.ba (Tx.flat rs) = s := by rw [← hf]; exact Tx.ba_data s
  have sst : (s ++ t).size = s.size + t.size := ByteArray.size_append
  have hun := Tx.units_append s t rs hr hf
  rw [hm] at hun
  have C3 := Lib.hid (fun (x : Value) (W : World) (hW : Tx.Ok W) (hx : Tx.Held W x (Tx.cu rs)) => hba ▸ Tx.FromUnits_ok x _ rs (Tx.readU_units' rs hr) (by omega) W hW hx.out)
  have htz := Tx.flat_size hft
  have hct := Tx.cu_len rt
  have C4 := Lib.hid (fun (W : World) (hW : Tx.Ok W) => Tx.Units_some t _ hm (by omega) W hW)
  have C5 := Lib.hid (fun (W : World) (hW : Tx.Ok W) => Tx.Units_some (s ++ t) _ hun (by omega) W hW)
  have hll : ([] : List Int).length + (Tx.cu rs).length ≤ 17592186044416 := by simp; omega
  have hll2 : ([] ++ Tx.cu rs : List Int).length + (Tx.cu rt).length ≤ 17592186044416 := by simp; omega
  have hcs : decide (Tx.cu rs ++ Tx.cu rt = [] ++ Tx.cu rs ++ Tx.cu rt) = true := by simp
  have CS := Lib.hid (fun (x y : Value) (W : World) (h1 : Tx.Held W x (Tx.cu rs ++ Tx.cu rt)) (h2 : Tx.Held W y ([] ++ Tx.cu rs ++ Tx.cu rt)) => Tx.same_any x y _ _ W h1.out h2.out)
  have D6 := Lib.hid (fun (W : World) (hW : Tx.Ok W) (hx : Tx.Held W v l) => Tx.FromUnits_err v l _ he (by omega) W hW hx.out)
  clear hr hf hn hu hm hft hsz hcl hba sst hun htz hct hl he
  go_enter Tryd.func6, Tryd.ntmps6
  go_wp2_with fail
  refine (C1.out w S0.ok).mono ?_
  rintro e w1 ⟨va, rfl, o1, b1⟩
  have S1 := Tx.Since.then b1 S0
  have V1 := V0.since b1
  have A1 := Tx.Held.own o1
  clear b1 o1
  clear S0 V0
  go_wp2_with fail
  refine (CF.out w1 S1.ok).mono ?_
  rintro e w2 ⟨rfl, b2⟩
  have S2 := Tx.Since.then b2 S1
  have V2 := V1.since b2
  have A2 := A1.since b2
  clear b2
  clear S1 V1 A1
  go_wp2_with fail
  refine (C2.out w2 S2.ok).mono ?_
  rintro e w3 ⟨rfl, b3⟩
  have S3 := Tx.Since.then b3 S2
  have V3 := V2.since b3
  have A3 := A2.since b3
  clear b3
  clear S2 V2 A2
  go_wp2_with fail
  refine (C3.out va w3 S3.ok A3).mono ?_
  rintro e w4 ⟨rfl, b4⟩
  have S4 := Tx.Since.then b4 S3
  have V4 := V3.since b4
  have A4 := A3.since b4
  clear b4
  clear S3 V3 A3
  go_wp2_with fail
  refine (C4.out w4 S4.ok).mono ?_
  rintro e w5 ⟨vb, rfl, o5, b5⟩
  have S5 := Tx.Since.then b5 S4
  have V5 := V4.since b5
  have A5 := A4.since b5
  have B5 := Tx.Held.own o5
  clear b5 o5
  clear S4 V4 A4
  go_wp2_with fail
  refine (C5.out w5 S5.ok).mono ?_
  rintro e w6 ⟨vc, rfl, o6, b6⟩
  have S6 := Tx.Since.then b6 S5
  have V6 := V5.since b6
  have A6 := A5.since b6
  have B6 := B5.since b6
  have C6 := Tx.Held.own o6
  clear b6 o6
  clear S5 V5 A5 B5
  go_wp2_with (first | (at_builtin; refine Tx.appendI_held rfl _ _ rfl w6.heap.size _ [] rfl (Tx.OwnI.empty w6 _ (Nat.le_refl _)) _ _ rfl (A6.alloc _) hll (by simp) ?_; intro x7 w7 o7 b7 z7) | (at_builtin; refine Tx.appendI_held rfl _ _ rfl w6.heap.size _ _ rfl o7 _ _ rfl (B6.since (((Below.refl _ _).alloc (Nat.le_refl _) _).trans b7)).out hll2 z7 ?_; intro x8 w8 o8 b8 z8))
  have b9 := Tx.build_below _ b7 b8
  have D8 := Tx.Held.own o8
  have S8 := Tx.Since.then b9 S6
  have V8 := V6.since b9
  have C8' := C6.since b9
  clear o7 o8 b7 b8 b9 z7 z8 S6 V6 C6 A6 B6
  refine (CS.out vc x8 w8 C8' D8).mono ?_
  rintro e w9 ⟨rfl, b9⟩
  rw [hcs]
  have S9 := Tx.Since.then b9 S8
  have V9 := V8.since b9
  clear b9 S8 V8 C8' D8
  go_wp2_with fail
  refine (D6.out w9 S9.ok V9).mono ?_
  rintro e w10 ⟨rfl, b10⟩
  have S10 := Tx.Since.then b10 S9
  have V10 := V9.since b10
  clear b10
  clear S9 V9
  go_wp2_with fail
  go_ret
  exact ⟨rfl, S10.below⟩

set_option maxHeartbeats 8000000 in
set_option maxRecDepth 100000 in
theorem walk_B_K (s t : ByteArray) (v : Value) (l : List Int) (w : World) (h : Tx.Ok w) (hs : s.size ≤ 4194304) (ht : t.size ≤ 4194304) (hl : l.length ≤ 4194304) (hv : Tx.Ints w w.heap.size v l) (rs : List Nat) (hr : ∀ r ∈ rs, Tx.Rune r) (hf : s.data.toList = Tx.flat rs) (hn : Tx.unitsL s.data.toList = some (Tx.cu rs)) (hu : (Tx.runes s.data.toList).isSome = true) (rt : List Nat) (hft : t.data.toList = Tx.flat rt) (hm : Tx.unitsL t.data.toList = some (Tx.cu rt)) (ru : List Nat) (hru : ∀ r ∈ ru, Tx.Rune r) (he : Tx.readU l = .ok ru) (hlu : l = Tx.cu ru) :
    Calls Tryd.prog 6 #[.string s, .string t, v] w fun e w' => e = .returned (.bool true) ∧ Below w.heap.size w w' := by
  have S0 := Tx.Since.start h
  have V0 := Tx.Held.mk hv
  clear h hv
  have CF := Lib.hid (fun (W : World) (hW : Tx.Ok W) => Tx.fixed_any W hW)
  have C1 := Lib.hid (fun (W : World) (hW : Tx.Ok W) => Tx.Units_some s _ hn (by omega) W hW)
  have C2 := Lib.hid (fun (W : World) (hW : Tx.Ok W) => Tx.Utf8_b s true hu (by omega) W hW)
  have hsz := Tx.flat_size hf
  have hcl := Tx.cu_len rs
  have hba : Tx.ba (Tx.flat rs) = s := by rw [← hf]; exact Tx.ba_data s
  have sst : (s ++ t).size = s.size + t.size := ByteArray.size_append
  have hun := Tx.units_append s t rs hr hf
  rw [hm] at hun
  have C3 := Lib.hid (fun (x : Value) (W : World) (hW : Tx.Ok W) (hx : Tx.Held W x (Tx.cu rs)) => hba ▸ Tx.FromUnits_ok x _ rs (Tx.readU_units' rs hr) (by omega) W hW hx.out)
  have htz := Tx.flat_size hft
  have hct := Tx.cu_len rt
  have C4 := Lib.hid (fun (W : World) (hW : Tx.Ok W) => Tx.Units_some t _ hm (by omega) W hW)
  have C5 := Lib.hid (fun (W : World) (hW : Tx.Ok W) => Tx.Units_some (s ++ t) _ hun (by omega) W hW)
  have hll : ([] : List Int).length + (Tx.cu rs).length ≤ 17592186044416 := by simp; omega
  have hll2 : ([] ++ Tx.cu rs : List Int).length + (Tx.cu rt).length ≤ 17592186044416 := by simp; omega
  have hcs : decide (Tx.cu rs ++ Tx.cu rt = [] ++ Tx.cu rs ++ Tx.cu rt) = true := by simp
  have CS := Lib.hid (fun (x y : Value) (W : World) (h1 : Tx.Held W x (Tx.cu rs ++ Tx.cu rt)) (h2 : Tx.Held W y ([] ++ Tx.cu rs ++ Tx.cu rt)) => Tx.same_any x y _ _ W h1.out h2.out)
  have D6 := Lib.hid (fun (W : World) (hW : Tx.Ok W) (hx : Tx.Held W v l) => Tx.FromUnits_ok v l ru he (by omega) W hW hx.out)
  have hq1 : (Tx.ba (Tx.flat ru)).size ≤ 8796093022208 := by have := Tx.flat_le ru; have := congrArg List.length hlu; rw [Tx.ba_size]; omega
  have C7 := Lib.hid (fun (W : World) (hW : Tx.Ok W) => Tx.Units_some (Tx.ba (Tx.flat ru)) _ (Tx.units_ba ru hru) hq1 W hW)
  have C8 := Lib.hid (fun (W : World) (hW : Tx.Ok W) => Tx.Utf8_b (Tx.ba (Tx.flat ru)) true (Tx.runes_ba ru hru) (by omega) W hW)
  have CE := Lib.hid (fun (x : Value) (W : World) (h1 : Tx.Held W x (Tx.cu ru)) (h2 : Tx.Held W v l) => Tx.same_any x v _ _ W h1.out h2.out)
  have hce : decide (Tx.cu ru = l) = true := by rw [hlu]; exact decide_eq_true rfl
  clear hr hf hn hu hm hft hsz hcl hba sst hun htz hct hl he hru hq1 hlu
  go_enter Tryd.func6, Tryd.ntmps6
  go_wp2_with fail
  refine (C1.out w S0.ok).mono ?_
  rintro e w1 ⟨va, rfl, o1, b1⟩
  have S1 := Tx.Since.then b1 S0
  have V1 := V0.since b1
  have A1 := Tx.Held.own o1
  clear b1 o1
  clear S0 V0
  go_wp2_with fail
  refine (CF.out w1 S1.ok).mono ?_
  rintro e w2 ⟨rfl, b2⟩
  have S2 := Tx.Since.then b2 S1
  have V2 := V1.since b2
  have A2 := A1.since b2
  clear b2
  clear S1 V1 A1
  go_wp2_with fail
  refine (C2.out w2 S2.ok).mono ?_
  rintro e w3 ⟨rfl, b3⟩
  have S3 := Tx.Since.then b3 S2
  have V3 := V2.since b3
  have A3 := A2.since b3
  clear b3
  clear S2 V2 A2
  go_wp2_with fail
  refine (C3.out va w3 S3.ok A3).mono ?_
  rintro e w4 ⟨rfl, b4⟩
  have S4 := Tx.Since.then b4 S3
  have V4 := V3.since b4
  have A4 := A3.since b4
  clear b4
  clear S3 V3 A3
  go_wp2_with fail
  refine (C4.out w4 S4.ok).mono ?_
  rintro e w5 ⟨vb, rfl, o5, b5⟩
  have S5 := Tx.Since.then b5 S4
  have V5 := V4.since b5
  have A5 := A4.since b5
  have B5 := Tx.Held.own o5
  clear b5 o5
  clear S4 V4 A4
  go_wp2_with fail
  refine (C5.out w5 S5.ok).mono ?_
  rintro e w6 ⟨vc, rfl, o6, b6⟩
  have S6 := Tx.Since.then b6 S5
  have V6 := V5.since b6
  have A6 := A5.since b6
  have B6 := B5.since b6
  have C6 := Tx.Held.own o6
  clear b6 o6
  clear S5 V5 A5 B5
  go_wp2_with (first | (at_builtin; refine Tx.appendI_held rfl _ _ rfl w6.heap.size _ [] rfl (Tx.OwnI.empty w6 _ (Nat.le_refl _)) _ _ rfl (A6.alloc _) hll (by simp) ?_; intro x7 w7 o7 b7 z7) | (at_builtin; refine Tx.appendI_held rfl _ _ rfl w6.heap.size _ _ rfl o7 _ _ rfl (B6.since (((Below.refl _ _).alloc (Nat.le_refl _) _).trans b7)).out hll2 z7 ?_; intro x8 w8 o8 b8 z8))
  have b9 := Tx.build_below _ b7 b8
  have D8 := Tx.Held.own o8
  have S8 := Tx.Since.then b9 S6
  have V8 := V6.since b9
  have C8' := C6.since b9
  clear o7 o8 b7 b8 b9 z7 z8 S6 V6 C6 A6 B6
  refine (CS.out vc x8 w8 C8' D8).mono ?_
  rintro e w9 ⟨rfl, b9⟩
  rw [hcs]
  have S9 := Tx.Since.then b9 S8
  have V9 := V8.since b9
  clear b9 S8 V8 C8' D8
  go_wp2_with fail
  refine (D6.out w9 S9.ok V9).mono ?_
  rintro e w10 ⟨rfl, b10⟩
  have S10 := Tx.Since.then b10 S9
  have V10 := V9.since b10
  clear b10
  clear S9 V9
  go_wp2_with fail
  refine (C7.out w10 S10.ok).mono ?_
  rintro e w11 ⟨vx, rfl, o11, b11⟩
  have S11 := Tx.Since.then b11 S10
  have V11 := V10.since b11
  have X11 := Tx.Held.own o11
  clear b11 o11
  clear S10 V10
  go_wp2_with fail
  refine (CE.out vx w11 X11 V11).mono ?_
  rintro e w12 ⟨rfl, b12⟩
  have S12 := Tx.Since.then b12 S11
  have V12 := V11.since b12
  have X12 := X11.since b12
  clear b12
  clear S11 V11 X11
  rw [hce]
  go_wp2_with fail
  refine (C8.out w12 S12.ok).mono ?_
  rintro e w13 ⟨rfl, b13⟩
  have S13 := Tx.Since.then b13 S12
  have V13 := V12.since b13
  have X13 := X12.since b13
  clear b13
  clear S12 V12 X12
  go_wp2_with fail
  go_ret
  exact ⟨rfl, S13.below⟩

end lwUnits
end Go.Proofs.YtglcbpofinbecaaDoor
