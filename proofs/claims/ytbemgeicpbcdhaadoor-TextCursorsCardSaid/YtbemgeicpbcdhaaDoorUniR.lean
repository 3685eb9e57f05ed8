/- FromUnits: isLow, readRune. -/
import Derived.Test.YtbemgeicpbcdhaaDoorKitI
import Derived.Test.YtbemgeicpbcdhaaDoorAs
import Derived.Test.YtbemgeicpbcdhaaDoorUniM
import Derived.Test.YtbemgeicpbcdhaaDoorShelf
import Derived.Deep.QuietTactic
import Derived.BigQuiet
namespace Go.Proofs.YtbemgeicpbcdhaaDoor
open Go.RowKit

set_option maxHeartbeats 4000000 in
set_option maxRecDepth 100000 in
theorem Tx.isLow_yes (u : Int) (h0 : 56320 ≤ u) (h1 : u ≤ 57343) (w : World) : Calls Tryd.prog 43 #[.int .i64 u] w fun e w' => e = .returned (.bool true) ∧ w = w' := by
  go_enter Tryd.func43, Tryd.ntmps43
  go_wp2
  go_ret
  exact ⟨rfl, rfl⟩
set_option maxHeartbeats 4000000 in
set_option maxRecDepth 100000 in
theorem Tx.isLow_no (u : Int) (h : u < 56320 ∨ 57343 < u) (w : World) : Calls Tryd.prog 43 #[.int .i64 u] w fun e w' => e = .returned (.bool false) ∧ w = w' := by
  rcases h with h | h
  · go_enter Tryd.func43, Tryd.ntmps43
    go_wp2
    go_ret
    exact ⟨rfl, rfl⟩
  · have h2 : 56320 ≤ u := by omega
    have hb : decide (u ≤ 57343) = false := by simp; omega
    go_enter Tryd.func43, Tryd.ntmps43
    go_wp2
    go_ret
    exact ⟨rfl, rfl⟩

/-- readRune's refusal. -/
def Tx.RRno (c : Int) (w : World) (e : Ending) (w' : World) : Prop := e = .returned (.tuple #[.int .i64 0, .int .i64 0, .iface 69 (.agg #[.int .i64 c])]) ∧ w = w'

set_option maxHeartbeats 4000000 in
set_option maxRecDepth 100000 in
theorem Tx.rr_bad {b off n cap : Nat} {u : Int} {w : World} (hn : 1 ≤ n) (c0 : w.cell? ⟨b, off, none⟩ = some (.int .i64 u)) (h : u < 0 ∨ 65536 ≤ u) :
    Calls Tryd.prog 34 #[.slice (some ⟨b, off, none⟩) n cap] w (Tx.RRno 13 w) := by
  have hnz : (0 : Int) < (n : Int) := by omega
  rcases h with h | h
  · go_enter Tryd.func34, Tryd.ntmps34
    go_wp2
    go_ret3
    exact ⟨rfl, rfl⟩
  · have h2 : ¬ u < 0 := by omega
    go_enter Tryd.func34, Tryd.ntmps34
    go_wp2
    go_ret3
    exact ⟨rfl, rfl⟩

set_option maxHeartbeats 4000000 in
set_option maxRecDepth 100000 in
theorem Tx.rr_one {b off n cap : Nat} {u : Int} {w : World} (hn : 1 ≤ n) (c0 : w.cell? ⟨b, off, none⟩ = some (.int .i64 u)) (h0 : 0 ≤ u) (h1 : u < 65536) (h : u < 55296 ∨ 57343 < u) :
    Calls Tryd.prog 34 #[.slice (some ⟨b, off, none⟩) n cap] w fun e w' => e = .returned (.tuple #[.int .i64 u, .int .i64 1, .nilIface]) ∧ w = w' := by
  have hnz : (0 : Int) < (n : Int) := by omega
  rcases h with h | h
  · go_enter Tryd.func34, Tryd.ntmps34
    go_wp2
    go_ret3
    exact ⟨rfl, rfl⟩
  · have h2 : ¬ u < 55296 := by omega
    go_enter Tryd.func34, Tryd.ntmps34
    go_wp2
    go_ret3
    exact ⟨rfl, rfl⟩

set_option maxHeartbeats 4000000 in
set_option maxRecDepth 100000 in
theorem Tx.rr_low {b off n cap : Nat} {u : Int} {w : World} (hn : 1 ≤ n) (c0 : w.cell? ⟨b, off, none⟩ = some (.int .i64 u)) (h0 : 56320 ≤ u) (h1 : u ≤ 57343) :
    Calls Tryd.prog 34 #[.slice (some ⟨b, off, none⟩) n cap] w (Tx.RRno 14 w) := by
  have hnz : (0 : Int) < (n : Int) := by omega
  go_enter Tryd.func34, Tryd.ntmps34
  go_wp2
  go_ret3
  exact ⟨rfl, rfl⟩

set_option maxHeartbeats 4000000 in
set_option maxRecDepth 100000 in
theorem Tx.rr_alone {b off cap : Nat} {u : Int} {w : World} (c0 : w.cell? ⟨b, off, none⟩ = some (.int .i64 u)) (h0 : 55296 ≤ u) (h1 : u < 56320) :
    Calls Tryd.prog 34 #[.slice (some ⟨b, off, none⟩) 1 cap] w (Tx.RRno 14 w) := by
  go_enter Tryd.func34, Tryd.ntmps34
  go_wp2
  go_ret3
  exact ⟨rfl, rfl⟩

set_option maxHeartbeats 4000000 in
set_option maxRecDepth 100000 in
theorem Tx.rr_nopair {b off n cap : Nat} {u v : Int} {w : World} (hn : 2 ≤ n) (c0 : w.cell? ⟨b, off, none⟩ = some (.int .i64 u)) (c1 : w.cell? ⟨b, off + 1, none⟩ = some (.int .i64 v)) (h0 : 55296 ≤ u) (h1 : u < 56320) (h2 : v < 56320 ∨ 57343 < v) :
    Calls Tryd.prog 34 #[.slice (some ⟨b, off, none⟩) n cap] w (Tx.RRno 14 w) := by
  have hnz : (0 : Int) < (n : Int) := by omega
  have hn1 : (1 : Int) < (n : Int) := by omega
  have hne : ((n : Int) == 1) = false := by rw [beq_eq_false_iff_ne]; omega
  have cl := Tx.isLow_no v h2 w
  have CL := Lib.hid cl
  clear cl h2
  go_enter Tryd.func34, Tryd.ntmps34
  go_wp2_with fail
  refine CL.out.mono ?_
  rintro e w1 ⟨rfl, rfl⟩
  go_wp2_with fail
  go_ret3
  exact ⟨rfl, rfl⟩

set_option maxHeartbeats 4000000 in
set_option maxRecDepth 100000 in
theorem Tx.rr_two {b off n cap : Nat} {u v : Int} {w : World} (hn : 2 ≤ n) (c0 : w.cell? ⟨b, off, none⟩ = some (.int .i64 u)) (c1 : w.cell? ⟨b, off + 1, none⟩ = some (.int .i64 v)) (h0 : 55296 ≤ u) (h1 : u < 56320) (h2 : 56320 ≤ v) (h3 : v ≤ 57343) :
    Calls Tryd.prog 34 #[.slice (some ⟨b, off, none⟩) n cap] w fun e w' => e = .returned (.tuple #[.int .i64 (65536 + (u - 55296) * 1024 + v - 56320), .int .i64 2, .nilIface]) ∧ w = w' := by
  have hnz : (0 : Int) < (n : Int) := by omega
  have hn1 : (1 : Int) < (n : Int) := by omega
  have hne : ((n : Int) == 1) = false := by rw [beq_eq_false_iff_ne]; omega
  have cl := Tx.isLow_yes v h2 h3 w
  have CL := Lib.hid cl
  clear cl
  go_enter Tryd.func34, Tryd.ntmps34
  go_wp2_with fail
  refine CL.out.mono ?_
  rintro e w1 ⟨rfl, rfl⟩
  go_wp2_with fail
  go_ret3
  exact ⟨rfl, rfl⟩
end Go.Proofs.YtbemgeicpbcdhaaDoor
