/- Numbers that are turned: the program's turned and turns. -/
import Derived.Test.YtelfhdihkeafnaaProg
import Derived.WalkKit
import Derived.ProofKit
import Derived.Below
import Derived.Handy
import Derived.Lib.Hide
import Derived.WalkLawsBesides
import Derived.WalkSpells
import Derived.Deep.QuietTactic
import Derived.BigQuiet
import Derived.Laws.BitsAllLaws
import Derived.Laws.Bits64b
namespace Go.Proofs.Ytelfhdihkeafnaa
open Go.RowKit

/-- x, of n bits, turned right by k. -/
def Hs.ror (n x k : Nat) : Nat := x / 2 ^ k ||| x * 2 ^ (n - k) % 2 ^ n
theorem Hs.ror_lt (n x k : Nat) (hx : x < 2 ^ n) : Hs.ror n x k < 2 ^ n :=
  Nat.or_lt_two_pow (Nat.lt_of_le_of_lt (Nat.div_le_self _ _) hx) (Nat.mod_lt _ (Nat.two_pow_pos n))
def Hs.turns (n x a b c : Nat) : Nat := Hs.ror n x a ^^^ Hs.ror n x b ^^^ Hs.ror n x c
theorem Hs.turns_lt (n x a b c : Nat) (hx : x < 2 ^ n) : Hs.turns n x a b c < 2 ^ n :=
  Nat.xor_lt_two_pow (Nat.xor_lt_two_pow (Hs.ror_lt n x a hx) (Hs.ror_lt n x b hx)) (Hs.ror_lt n x c hx)

theorem Hs.ror_eq32 (x k : Nat) (hx : x < 4294967296) : bits .or .u32 ((x : Int) / 2 ^ k) ((x : Int) * 2 ^ (32 - k) % 4294967296) = (Hs.ror 32 x k : Nat) := by
  have e1 : (x : Int) / 2 ^ k = ((x / 2 ^ k : Nat) : Int) := by simp
  have e2 : (x : Int) * 2 ^ (32 - k) % 4294967296 = ((x * 2 ^ (32 - k) % 2 ^ 32 : Nat) : Int) := by simp
  have h1 : x / 2 ^ k < 4294967296 := Nat.lt_of_le_of_lt (Nat.div_le_self _ _) hx
  have h2 : x * 2 ^ (32 - k) % 2 ^ 32 < 4294967296 := Nat.mod_lt _ (by decide)
  rw [e1, e2, u32_or_nat _ _ h1 h2]
  rfl
set_option maxHeartbeats 4000000 in
set_option maxRecDepth 100000 in
theorem Hs.turned32 (x k : Nat) (hx : x < 4294967296) (hk : k ≤ 32) (w : World) :
    Calls Try.prog 46 #[.int .u32 (x : Int), .int .u64 (k : Int), .int .u64 32] w fun e w' => e = .returned (.int .u32 (Hs.ror 32 x k : Nat)) ∧ w' = w := by
  have e1 : IntKind.u64.wrap (32 - (k : Int)) = ((32 - k : Nat) : Int) := by rw [IntWalk.u64_in _ (by omega)]; omega
  have h1 : 0 ≤ (k : Int) := by omega
  have h2 : (k : Int) ≤ 32 := by omega
  have h3 : 0 ≤ ((32 - k : Nat) : Int) := by omega
  have h4 : ((32 - k : Nat) : Int) ≤ 32 := by omega
  have hr := Hs.ror_eq32 x k hx
  have HR := Lib.hid hr
  clear hr
  go_enter Try.func46, Try.ntmps46
  go_wp2
  go_ret
  exact ⟨congrArg (fun z => Ending.returned (.int .u32 z)) HR.out, rfl⟩
theorem Hs.xor3_32 (x a b c : Nat) (hx : x < 4294967296) : bits .xor .u32 (bits .xor .u32 (Hs.ror 32 x a : Nat) (Hs.ror 32 x b : Nat)) (Hs.ror 32 x c : Nat) = (Hs.turns 32 x a b c : Nat) := by
  rw [u32_xor_nat _ _ (Hs.ror_lt 32 x a hx) (Hs.ror_lt 32 x b hx), u32_xor_nat _ _ (Nat.xor_lt_two_pow (n := 32) (Hs.ror_lt 32 x a hx) (Hs.ror_lt 32 x b hx)) (Hs.ror_lt 32 x c hx)]
  rfl
set_option maxHeartbeats 4000000 in
set_option maxRecDepth 100000 in
theorem Hs.turns32 (x a b c : Nat) (hx : x < 4294967296) (ha : a ≤ 32) (hb : b ≤ 32) (hc : c ≤ 32) (w : World) :
    Calls Try.prog 43 #[.int .u32 (x : Int), .agg #[.int .u64 (a : Int), .int .u64 (b : Int), .int .u64 (c : Int)], .int .u64 32] w fun e w' => e = .returned (.int .u32 (Hs.turns 32 x a b c : Nat)) ∧ Below w.heap.size w w' := by
  have C1 := Lib.hid (fun w => Hs.turned32 x a hx ha w)
  have C2 := Lib.hid (fun w => Hs.turned32 x b hx hb w)
  have C3 := Lib.hid (fun w => Hs.turned32 x c hx hc w)
  have HX := Lib.hid (Hs.xor3_32 x a b c hx)
  go_enter Try.func43, Try.ntmps43
  go_wp2_with fail
  go_quiet (first | (go_at_call 46; with_reducible exact Calls.quiet_of_same (C1.out _)) | (go_at_call 46; with_reducible exact Calls.quiet_of_same (C2.out _)) | (go_at_call 46; with_reducible exact Calls.quiet_of_same (C3.out _)))
  go_wp2
  go_ret
  refine ⟨congrArg (fun z => Ending.returned (.int .u32 z)) HX.out, ?_⟩
  exact below_drewN ((Below.refl _ _).alloc (Nat.le_refl _) _) nq

theorem Hs.ror_eq64 (x k : Nat) (hx : x < 18446744073709551616) : bits .or .u64 ((x : Int) / 2 ^ k) ((x : Int) * 2 ^ (64 - k) % 18446744073709551616) = (Hs.ror 64 x k : Nat) := by
  have e1 : (x : Int) / 2 ^ k = ((x / 2 ^ k : Nat) : Int) := by simp
  have e2 : (x : Int) * 2 ^ (64 - k) % 18446744073709551616 = ((x * 2 ^ (64 - k) % 2 ^ 64 : Nat) : Int) := by simp
  have h1 : x / 2 ^ k < 18446744073709551616 := Nat.lt_of_le_of_lt (Nat.div_le_self _ _) hx
  have h2 : x * 2 ^ (64 - k) % 2 ^ 64 < 18446744073709551616 := Nat.mod_lt _ (by decide)
  rw [e1, e2, u64_or_nat _ _ h1 h2]
  rfl
set_option maxHeartbeats 4000000 in
set_option maxRecDepth 100000 in
theorem Hs.turned64 (x k : Nat) (hx : x < 18446744073709551616) (hk : k ≤ 64) (w : World) :
    Calls Try.prog 47 #[.int .u64 (x : Int), .int .u64 (k : Int), .int .u64 64] w fun e w' => e = .returned (.int .u64 (Hs.ror 64 x k : Nat)) ∧ w' = w := by
  have e1 : IntKind.u64.wrap (64 - (k : Int)) = ((64 - k : Nat) : Int) := by rw [IntWalk.u64_in _ (by omega)]; omega
  have h1 : 0 ≤ (k : Int) := by omega
  have h2 : (k : Int) ≤ 64 := by omega
  have h3 : 0 ≤ ((64 - k : Nat) : Int) := by omega
  have h4 : ((64 - k : Nat) : Int) ≤ 64 := by omega
  have hr := Hs.ror_eq64 x k hx
  have HR := Lib.hid hr
  clear hr
  go_enter Try.func47, Try.ntmps47
  go_wp2
  go_ret
  exact ⟨congrArg (fun z => Ending.returned (.int .u64 z)) HR.out, rfl⟩
theorem Hs.xor3_64 (x a b c : Nat) (hx : x < 18446744073709551616) : bits .xor .u64 (bits .xor .u64 (Hs.ror 64 x a : Nat) (Hs.ror 64 x b : Nat)) (Hs.ror 64 x c : Nat) = (Hs.turns 64 x a b c : Nat) := by
  rw [u64_xor_nat _ _ (Hs.ror_lt 64 x a hx) (Hs.ror_lt 64 x b hx), u64_xor_nat _ _ (Nat.xor_lt_two_pow (n := 64) (Hs.ror_lt 64 x a hx) (Hs.ror_lt 64 x b hx)) (Hs.ror_lt 64 x c hx)]
  rfl
set_option maxHeartbeats 4000000 in
set_option maxRecDepth 100000 in
theorem Hs.turns64 (x a b c : Nat) (hx : x < 18446744073709551616) (ha : a ≤ 64) (hb : b ≤ 64) (hc : c ≤ 64) (w : World) :
    Calls Try.prog 45 #[.int .u64 (x : Int), .agg #[.int .u64 (a : Int), .int .u64 (b : Int), .int .u64 (c : Int)], .int .u64 64] w fun e w' => e = .returned (.int .u64 (Hs.turns 64 x a b c : Nat)) ∧ Below w.heap.size w w' := by
  have C1 := Lib.hid (fun w => Hs.turned64 x a hx ha w)
  have C2 := Lib.hid (fun w => Hs.turned64 x b hx hb w)
  have C3 := Lib.hid (fun w => Hs.turned64 x c hx hc w)
  have HX := Lib.hid (Hs.xor3_64 x a b c hx)
  go_enter Try.func45, Try.ntmps45
  go_wp2_with fail
  go_quiet (first | (go_at_call 47; with_reducible exact Calls.quiet_of_same (C1.out _)) | (go_at_call 47; with_reducible exact Calls.quiet_of_same (C2.out _)) | (go_at_call 47; with_reducible exact Calls.quiet_of_same (C3.out _)))
  go_wp2
  go_ret
  refine ⟨congrArg (fun z => Ending.returned (.int .u64 z)) HX.out, ?_⟩
  exact below_drewN ((Below.refl _ _).alloc (Nat.le_refl _) _) nq
end Go.Proofs.Ytelfhdihkeafnaa
