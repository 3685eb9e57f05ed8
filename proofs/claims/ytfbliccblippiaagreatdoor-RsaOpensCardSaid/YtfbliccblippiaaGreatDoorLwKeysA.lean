/- RsaKeys, the walk. -/
import Derived.Test.YtfbliccblippiaaGreatDoorRsK
import Derived.Lib.SmallJoins
namespace Go.Proofs.YtfbliccblippiaaGreatDoor
open Go.RowKit
/-- What holds of the world while a law asks of a key in its box. -/
structure Rs.LawS (w : World) (p : Nat) (n e : ByteArray) (W : World) : Prop where
  ok : Rs.Ok W
  c0 : W.cell? ⟨p, 0, none⟩ = some (.string n)
  c1 : W.cell? ⟨p, 1, none⟩ = some (.string e)
  bel : Below w.heap.size w W
theorem Rs.LawS.below {w W W' : World} {p : Nat} {n e : ByteArray} (h : Rs.LawS w p n e W) (hb : Below W.heap.size W W') : Rs.LawS w p n e W' :=
  ⟨h.ok.below hb, (hb.cell (p := ⟨p, 0, none⟩) (World.block_lt_of_cell? W _ h.c0)).trans h.c0, (hb.cell (p := ⟨p, 1, none⟩) (World.block_lt_of_cell? W _ h.c1)).trans h.c1, h.bel.trans (hb.mono h.bel.size)⟩
theorem Rs.LawS.start (w : World) (ok : Rs.Ok w) (n e : ByteArray) : Rs.LawS w w.heap.size n e (w.alloc (Obj.cells #[.string n, .string e] 23)) :=
  ⟨ok.below ((Below.refl _ _).alloc (Nat.le_refl _) _), by simp, by simp, (Below.refl _ _).alloc (Nat.le_refl _) _⟩
theorem Rs.odd_size (a : ByteArray) (l m : Nat) (h : Rs.odd a l m) (hm : m ≤ 16000) : a.size ≤ 2000 := by
  have h1 := Nt.ts_size a
  rw [h.2.2.1] at h1
  rw [h1]
  unfold Nt.by
  have := h.2.1
  omega
theorem Rs.long_bad (n e : ByteArray) (h : 4000 < n.size ∨ 4000 < e.size) : Rs.bad n e := fun hg => by
  have h1 := Rs.odd_size n _ _ hg.1 (by decide)
  have h2 := Rs.odd_size e _ _ hg.2 (by decide)
  omega
theorem Rs.RCheck_any (w : World) (n e : ByteArray) (hn : n.size ≤ 4000) (he : e.size ≤ 4000) :
    Calls Tryz.prog 14 #[.agg #[.string n, .string e]] w fun r w' => r = .returned (.bool (decide (¬ Rs.bad n e))) ∧ Below w.heap.size w w' := by
  have key : ∀ b : Bool, (b = true ↔ (Rs.odd n 512 2048 ∧ Rs.odd e 2 32)) → decide (¬ Rs.bad n e) = b := fun b hb => by
    have : (¬ Rs.bad n e) ↔ (Rs.odd n 512 2048 ∧ Rs.odd e 2 32) := by unfold Rs.bad; exact Decidable.not_not
    cases b
    · exact decide_eq_false (fun h => by have := hb.2 (this.1 h); cases this)
    · exact decide_eq_true (this.2 (hb.1 rfl))
  have no : (¬ (Rs.odd n 512 2048 ∧ Rs.odd e 2 32)) → decide (¬ Rs.bad n e) = false := fun h => key false ⟨fun h2 => (by cases h2), fun h2 => absurd h2 h⟩
  by_cases c1 : Nt.ts n = n
  case neg => rw [no (fun h => c1 h.1.2.2.1)]; exact Rs.RCheck_1 w n e _ _ _ _ hn he rfl rfl rfl rfl c1
  by_cases c2 : Nt.ts e = e
  case neg => rw [no (fun h => c2 h.2.2.2.1)]; exact Rs.RCheck_2 w n e _ _ _ _ hn he rfl rfl rfl rfl c1 c2
  by_cases c3 : Nt.nv n % 2 = 1
  case neg => rw [no (fun h => c3 h.1.2.2.2)]; exact Rs.RCheck_3 w n e _ _ _ _ hn he rfl rfl rfl rfl c1 c2 (by omega)
  by_cases c4 : Nt.nv e % 2 = 1
  case neg => rw [no (fun h => c4 h.2.2.2.2)]; exact Rs.RCheck_4 w n e _ _ _ _ hn he rfl rfl rfl rfl c1 c2 c3 (by omega)
  by_cases c5 : 512 ≤ Nt.dig (Nt.nv n)
  case neg => rw [no (fun h => c5 h.1.1)]; exact Rs.RCheck_5 w n e _ _ _ _ hn he rfl rfl rfl rfl c1 c2 c3 c4 c5
  by_cases c6 : Nt.dig (Nt.nv n) ≤ 2048
  case neg => rw [no (fun h => c6 h.1.2.1)]; exact Rs.RCheck_6 w n e _ _ _ _ hn he rfl rfl rfl rfl c1 c2 c3 c4 c5 c6
  by_cases c7 : 3 ≤ Nt.nv e
  case neg =>
    rw [no (fun h => by
      have h1 : Nt.nv e = 1 := by omega
      have h2 := h.2.1
      rw [h1] at h2
      exact absurd h2 (by decide))]
    exact Rs.RCheck_7 w n e _ _ _ _ hn he rfl rfl rfl rfl c1 c2 c3 c4 c5 c6 c7
  by_cases c8 : Nt.dig (Nt.nv e) ≤ 32
  case neg => rw [no (fun h => c8 h.2.2.1)]; exact Rs.RCheck_8 w n e _ _ _ _ hn he rfl rfl rfl rfl c1 c2 c3 c4 c5 c6 c7 c8
  have c9 : 2 ≤ Nt.dig (Nt.nv e) := by
    have h1 := Nt.dig_lt (Nt.nv e)
    refine Nat.le_of_not_lt fun h2 => ?_
    have h3 : (2 : Nat) ^ Nt.dig (Nt.nv e) ≤ 2 ^ 1 := Nat.pow_le_pow_right (by decide) (by omega)
    omega
  rw [key true ⟨fun _ => ⟨⟨c5, c6, c1, c3⟩, c9, c8, c2, c4⟩, fun _ => rfl⟩]
  exact Rs.RCheck_0 w n e _ _ _ _ hn he rfl rfl rfl rfl c1 c2 c3 c4 c5 c6 c7 c8
namespace lwKeys
set_option maxHeartbeats 2000000 in
set_option maxRecDepth 100000 in
theorem longN (n e : ByteArray) (w : World) (ok : Rs.Ok w) (hC : ∀ W, Rs.Ok W → Calls Tryz.prog 12 #[.agg #[.string n, .string e]] W fun r w' => r = .returned (.int .i64 40) ∧ Below W.heap.size W w') (h : 4000 < n.size) :
    Calls Tryz.prog 3 #[.agg #[.string n, .string e]] w fun e w' => e = .returned (.bool true) ∧ Below w.heap.size w w' := by
  have z1 : (4000 : Int) < (n.size : Int) := by omega
  have HK := Lib.hid hC
  have HS := Lib.hid (Rs.LawS.start w ok n e)
  clear hC ok
  go_enter Tryz.func3, Tryz.ntmps3
  go_wp2_with fail
  have S0 := HS.out
  clear HS
  revert S0
  generalize w.alloc (Obj.cells #[.string n, .string e] 23) = w1
  intro S0
  go_at_call 12
  refine Calls.mono (HK.out _ S0.ok) ?_
  rintro r w2 ⟨rfl, hb⟩
  have S2 := S0.below hb
  have c0 := S2.c0
  have c1 := S2.c1
  have H2 := Lib.hid S2
  clear hb S0 S2
  go_wp2_with fail
  go_at_call 13
  refine Calls.mono (Rs.fixed_any w2 H2.out.ok) ?_
  rintro r w9 ⟨rfl, hb⟩
  have H9 := Lib.hid (H2.out.bel.trans (hb.mono H2.out.bel.size))
  clear hb
  go_wp2_with fail
  go_ret
  exact ⟨rfl, H9.out⟩
set_option maxHeartbeats 2000000 in
set_option maxRecDepth 100000 in
theorem longE (n e : ByteArray) (w : World) (ok : Rs.Ok w) (hC : ∀ W, Rs.Ok W → Calls Tryz.prog 12 #[.agg #[.string n, .string e]] W fun r w' => r = .returned (.int .i64 40) ∧ Below W.heap.size W w') (h1 : n.size ≤ 4000) (h : 4000 < e.size) :
    Calls Tryz.prog 3 #[.agg #[.string n, .string e]] w fun e w' => e = .returned (.bool true) ∧ Below w.heap.size w w' := by
  have z1 : ¬ (4000 : Int) < (n.size : Int) := by omega
  have z2 : (4000 : Int) < (e.size : Int) := by omega
  have HK := Lib.hid hC
  have HS := Lib.hid (Rs.LawS.start w ok n e)
  clear hC ok
  go_enter Tryz.func3, Tryz.ntmps3
  go_wp2_with fail
  have S0 := HS.out
  clear HS
  revert S0
  generalize w.alloc (Obj.cells #[.string n, .string e] 23) = w1
  intro S0
  go_at_call 12
  refine Calls.mono (HK.out _ S0.ok) ?_
  rintro r w2 ⟨rfl, hb⟩
  have S2 := S0.below hb
  have c0 := S2.c0
  have c1 := S2.c1
  have H2 := Lib.hid S2
  clear hb S0 S2
  go_wp2_with fail
  go_at_call 13
  refine Calls.mono (Rs.fixed_any w2 H2.out.ok) ?_
  rintro r w9 ⟨rfl, hb⟩
  have H9 := Lib.hid (H2.out.bel.trans (hb.mono H2.out.bel.size))
  clear hb
  go_wp2_with fail
  go_ret
  exact ⟨rfl, H9.out⟩
set_option maxHeartbeats 2000000 in
set_option maxRecDepth 100000 in
theorem good (n e : ByteArray) (w : World) (ok : Rs.Ok w) (hC : ∀ W, Rs.Ok W → Calls Tryz.prog 12 #[.agg #[.string n, .string e]] W fun r w' => r = .returned (.int .i64 0) ∧ Below W.heap.size W w') (hn : n.size ≤ 4000) (he : e.size ≤ 4000)
    (hR : ∀ W, Calls Tryz.prog 14 #[.agg #[.string n, .string e]] W fun r w' => r = .returned (.bool true) ∧ Below W.heap.size W w') :
    Calls Tryz.prog 3 #[.agg #[.string n, .string e]] w fun e w' => e = .returned (.bool true) ∧ Below w.heap.size w w' := by
  have z1 : ¬ (4000 : Int) < (n.size : Int) := by omega
  have z2 : ¬ (4000 : Int) < (e.size : Int) := by omega
  have HR := Lib.hid hR
  clear hR
  have HK := Lib.hid hC
  have HS := Lib.hid (Rs.LawS.start w ok n e)
  clear hC ok
  go_enter Tryz.func3, Tryz.ntmps3
  go_wp2_with fail
  have S0 := HS.out
  clear HS
  revert S0
  generalize w.alloc (Obj.cells #[.string n, .string e] 23) = w1
  intro S0
  go_at_call 12
  refine Calls.mono (HK.out _ S0.ok) ?_
  rintro r w2 ⟨rfl, hb⟩
  have S2 := S0.below hb
  have c0 := S2.c0
  have c1 := S2.c1
  have H2 := Lib.hid S2
  clear hb S0 S2
  go_wp2_with fail
  go_at_call 14
  refine Calls.mono (HR.out _) ?_
  rintro r w3 ⟨rfl, hb⟩
  have H3 := Lib.hid (H2.out.below hb)
  clear hb c0 c1
  go_wp2_with fail
  go_at_call 13
  refine Calls.mono (Rs.fixed_any w3 H3.out.ok) ?_
  rintro r w9 ⟨rfl, hb⟩
  have H9 := Lib.hid (H3.out.bel.trans (hb.mono H3.out.bel.size))
  clear hb
  go_wp2_with fail
  go_ret
  exact ⟨rfl, H9.out⟩
set_option maxHeartbeats 2000000 in
set_option maxRecDepth 100000 in
theorem notkey (n e : ByteArray) (w : World) (ok : Rs.Ok w) (hC : ∀ W, Rs.Ok W → Calls Tryz.prog 12 #[.agg #[.string n, .string e]] W fun r w' => r = .returned (.int .i64 40) ∧ Below W.heap.size W w') (hn : n.size ≤ 4000) (he : e.size ≤ 4000)
    (hR : ∀ W, Calls Tryz.prog 14 #[.agg #[.string n, .string e]] W fun r w' => r = .returned (.bool false) ∧ Below W.heap.size W w') :
    Calls Tryz.prog 3 #[.agg #[.string n, .string e]] w fun e w' => e = .returned (.bool true) ∧ Below w.heap.size w w' := by
  have z1 : ¬ (4000 : Int) < (n.size : Int) := by omega
  have z2 : ¬ (4000 : Int) < (e.size : Int) := by omega
  have HR := Lib.hid hR
  clear hR
  have HK := Lib.hid hC
  have HS := Lib.hid (Rs.LawS.start w ok n e)
  clear hC ok
  go_enter Tryz.func3, Tryz.ntmps3
  go_wp2_with fail
  have S0 := HS.out
  clear HS
  revert S0
  generalize w.alloc (Obj.cells #[.string n, .string e] 23) = w1
  intro S0
  go_at_call 12
  refine Calls.mono (HK.out _ S0.ok) ?_
  rintro r w2 ⟨rfl, hb⟩
  have S2 := S0.below hb
  have c0 := S2.c0
  have c1 := S2.c1
  have H2 := Lib.hid S2
  clear hb S0 S2
  go_wp2_with fail
  go_at_call 14
  refine Calls.mono (HR.out _) ?_
  rintro r w3 ⟨rfl, hb⟩
  have H3 := Lib.hid (H2.out.below hb)
  clear hb c0 c1
  go_wp2_with fail
  go_at_call 13
  refine Calls.mono (Rs.fixed_any w3 H3.out.ok) ?_
  rintro r w9 ⟨rfl, hb⟩
  have H9 := Lib.hid (H3.out.bel.trans (hb.mono H3.out.bel.size))
  clear hb
  go_wp2_with fail
  go_ret
  exact ⟨rfl, H9.out⟩
theorem walk (n e : ByteArray) (w : World) (ok : Rs.Ok w) (zn : n.size ≤ 140737488355328) (ze : e.size ≤ 140737488355328) :
    Calls Tryz.prog 3 #[.agg #[.string n, .string e]] w fun e w' => e = .returned (.bool true) ∧ Below w.heap.size w w' := by
  have hC := fun W hW => Rs.Check_any W hW n e (by omega) (by omega)
  unfold Rs.key at hC
  by_cases h1 : 4000 < n.size
  · rw [if_pos (Rs.long_bad n e (.inl h1))] at hC
    exact longN n e w ok hC h1
  by_cases h2 : 4000 < e.size
  · rw [if_pos (Rs.long_bad n e (.inr h2))] at hC
    exact longE n e w ok hC (by omega) h2
  have hR := fun W => Rs.RCheck_any W n e (by omega) (by omega)
  by_cases hb : Rs.bad n e
  · rw [if_pos hb] at hC
    rw [decide_eq_false (fun h => h hb)] at hR
    exact notkey n e w ok hC (by omega) (by omega) hR
  · rw [if_neg hb] at hC
    rw [decide_eq_true hb] at hR
    exact good n e w ok hC (by omega) (by omega) hR
end lwKeys
theorem Rs.cellsK : Tryz.prog.cellsOf 23 = 2 := by kernel_rfl
set_option maxRecDepth 100000 in
/-- A key, opened and shut. -/
theorem Rs.open_key {H : Type} {enc : TypeId × Value → H} {W : World} {v : Value} {d : DataW H} {ps : List MemPlace} (hval : Value.okWide Tryz.prog W .any 0 23 v)
    (h : DataW.Trod enc Tryz.prog W 0 (fun _ => true) true 23 v d ps) :
    ∃ s0 s1 : ByteArray, v = .agg #[.string s0, .string s1] ∧ d = .agg [.lit (.string s0.data.toList), .lit (.string s1.data.toList)] ∧ ps = [] ∧ s0.size ≤ maxLen ∧ s1.size ≤ maxLen := by
  obtain ⟨c0, c1, y0, y1, m, rfl, rfl, rfl, hy0, hy1⟩ := Go.Joins.open_agg2 Tryz.underlying23 (by kernel_rfl) Rs.cellsK hval h
  obtain ⟨s0, e0, rfl, z0⟩ := DataW.trod_string Tryz.underlying9 hy0
  obtain ⟨s1, e1, rfl, z1⟩ := DataW.trod_string Tryz.underlying9 hy1
  simp only [List.cons.injEq, and_true] at e0 e1
  subst e0 e1
  exact ⟨s0, s1, rfl, rfl, rfl, z0, z1⟩
set_option maxRecDepth 100000 in
theorem Rs.shut_key {H : Type} {enc : TypeId × Value → H} {W : World} {spare : Nat → Bool} (s0 s1 : ByteArray) (z0 : s0.size ≤ maxLen) (z1 : s1.size ≤ maxLen) :
    DataW.Trod enc Tryz.prog W 0 spare true 23 (.agg #[.string s0, .string s1]) (.agg [.lit (.string s0.data.toList), .lit (.string s1.data.toList)]) [] :=
  Go.Joins.shut_agg2 (y0 := (.lit (.string s0.data.toList), [])) (y1 := (.lit (.string s1.data.toList), [])) Tryz.underlying23 (by kernel_rfl) Rs.cellsK ⟨1, by simp [DataW.trod, Tryz.underlying9, z0]⟩ ⟨1, by simp [DataW.trod, Tryz.underlying9, z1]⟩
theorem Rs.weights_key {H : Type} (a b : List UInt8) : DataW.weights Tryz.prog 23 (.agg [.lit (.string a), .lit (.string b)] : DataW H) = [a.length, b.length] := by
  simp [DataW.weights, DataW.weightsEach, Tryz.underlying23]
theorem Rs.weights_key0 {H : Type} (a b : List UInt8) : a.length ∈ DataW.weights Tryz.prog 23 (.agg [.lit (.string a), .lit (.string b)] : DataW H) := by rw [Rs.weights_key]; simp
theorem Rs.weights_key1 {H : Type} (a b : List UInt8) : b.length ∈ DataW.weights Tryz.prog 23 (.agg [.lit (.string a), .lit (.string b)] : DataW H) := by rw [Rs.weights_key]; simp
end Go.Proofs.YtfbliccblippiaaGreatDoor
