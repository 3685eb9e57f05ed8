/- Cursors: what they hold, and their calls. -/
import Derived.Test.YtbemgeicpbcdhaaDoorKit
import Derived.Test.YtbemgeicpbcdhaaDoorAs
import Derived.Test.YtbemgeicpbcdhaaDoorShelf
import Derived.Test.YtbemgeicpbcdhaaDoorB64W
import Derived.Deep.QuietTactic
import Derived.BigQuiet
namespace Go.Proofs.YtbemgeicpbcdhaaDoor
open Go.RowKit

/-- Block b is a cursor over s that stands at k. -/
def Tx.Cur (w : World) (b : Nat) (s : ByteArray) (k : Nat) : Prop := w.heap[b]? = some (.cells #[.string s, .int .i64 (k : Int)] 46 (0, 0)) ∧ k ≤ s.size
theorem Tx.Cur.c0 {w : World} {b : Nat} {s : ByteArray} {k : Nat} (h : Tx.Cur w b s k) : w.cell? ⟨b, 0, none⟩ = some (.string s) := by simp [World.cell?, h.1]
theorem Tx.Cur.c1 {w : World} {b : Nat} {s : ByteArray} {k : Nat} (h : Tx.Cur w b s k) : w.cell? ⟨b, 1, none⟩ = some (.int .i64 (k : Int)) := by simp [World.cell?, h.1]
theorem Tx.Cur.f1 {w : World} {b : Nat} {s : ByteArray} {k : Nat} (h : Tx.Cur w b s k) : w.frozen? ⟨b, 1, none⟩ = false := by simp [World.frozen?, h.1]
theorem Tx.Cur.lt {w : World} {b : Nat} {s : ByteArray} {k : Nat} (h : Tx.Cur w b s k) : b < w.heap.size := (Array.getElem?_eq_some_iff.1 h.1).1
theorem Tx.Cur.grown {w w' : World} {b : Nat} {s : ByteArray} {k : Nat} {row : Option Nat} (h : Tx.Cur w b s k) (hg : w.grownBy w' row) (hne : some b ≠ row) : Tx.Cur w' b s k := ⟨(hg.block b h.lt hne).trans h.1, h.2⟩
theorem Tx.Cur.below {w w' : World} {b B : Nat} {s : ByteArray} {k : Nat} (h : Tx.Cur w b s k) (hg : Below B w w') (hB : b < B) : Tx.Cur w' b s k := ⟨(hg.block b hB).trans h.1, h.2⟩
theorem Tx.Cur.set {w : World} {b : Nat} {s : ByteArray} {k : Nat} (h : Tx.Cur w b s k) (k' : Nat) (hk : k' ≤ s.size) : Tx.Cur (w.setCell ⟨b, 1, none⟩ (.int .i64 (k' : Int))) b s k' := by
  refine ⟨?_, hk⟩
  simp [World.setCell, Array.getElem?_modify, h.1]
theorem Tx.below_grown {w w' : World} (h : Below w.heap.size w w') (row : Option Nat) : w.grownBy w' row := ⟨h.os, h.tape, h.output, h.size, fun k hk _ => h.block k hk⟩
theorem Tx.grown_trans {w w1 w2 : World} {row : Option Nat} (h : w.grownBy w1 row) (h2 : w1.grownBy w2 row) : w.grownBy w2 row :=
  ⟨h2.os.trans h.os, h2.tape.trans h.tape, h2.output.trans h.output, Nat.le_trans h.size h2.size, fun k hk hne => (h2.block k (Nat.lt_of_lt_of_le hk h.size) hne).trans (h.block k hk hne)⟩
theorem Tx.grown_set (w : World) (b o : Nat) (v : Value) : w.grownBy (w.setCell ⟨b, o, none⟩ v) (some b) :=
  ⟨rfl, rfl, rfl, by simp [World.setCell], fun k _ hne => Below.heap_setCell _ _ _ _ (by intro h; subst h; exact hne rfl)⟩
theorem Tx.drewN_below (w : World) : ∀ n, Below w.heap.size w (w.drewN n) := below_drewN (Below.refl _ _)
theorem Tx.Cur.drewN {w : World} {b : Nat} {s : ByteArray} {k : Nat} (h : Tx.Cur w b s k) (n : Nat) : Tx.Cur (w.drewN n) b s k := h.below (Tx.drewN_below w n) h.lt

set_option maxHeartbeats 4000000 in
set_option maxRecDepth 100000 in
theorem Tx.Open_any (s : ByteArray) (w : World) : Calls Tryd.prog 4 #[.string s] w fun e w' => e = .returned (.pointer (some ⟨w.heap.size, 0, none⟩)) ∧ Tx.Cur w' w.heap.size s 0 ∧ Below w.heap.size w w' := by
  go_enter Tryd.func4, Tryd.ntmps4
  go_wp2
  go_ret
  refine ⟨rfl, ⟨?_, Nat.zero_le _⟩, ?_⟩
  · exact heap_alloc_new w _
  · go_grown

set_option maxHeartbeats 4000000 in
set_option maxRecDepth 100000 in
theorem Tx.At_any {b : Nat} {s : ByteArray} {k : Nat} {w : World} (h : Tx.Cur w b s k) : Calls Tryd.prog 13 #[.pointer (some ⟨b, 0, none⟩)] w fun e w' => e = .returned (.int .i64 (k : Int)) ∧ w = w' := by
  have c1 := h.c1
  go_enter Tryd.func13, Tryd.ntmps13
  go_wp2
  go_ret
  exact ⟨rfl, rfl⟩

set_option maxHeartbeats 4000000 in
set_option maxRecDepth 100000 in
theorem Tx.Left_any {b : Nat} {s : ByteArray} {k L : Nat} {w : World} (h : Tx.Cur w b s k) (hs : s.size ≤ 9223372036854775807) (hL : k + L = s.size) : Calls Tryd.prog 14 #[.pointer (some ⟨b, 0, none⟩)] w fun e w' => e = .returned (.int .i64 (L : Int)) ∧ ∃ n, w' = w.drewN n := by
  have c0 := h.c0
  have c1 := h.c1
  have e : (L : Int) = (s.size : Int) - k := by omega
  rw [e]
  clear e hL
  have hk := h.2
  go_enter Tryd.func14, Tryd.ntmps14
  go_wp2_with fail
  go_quiet (fail)
  go_wp2
  go_ret
  exact ⟨rfl, nq, rfl⟩

/-- A refusal: nothing that lay has turned. -/
def Tx.Refused (c : Int) (w : World) (e : Ending) (w' : World) : Prop := ∃ n x, e = .returned (.tuple #[.string (Tx.ba []), x]) ∧ As.Chain c n x ∧ Below w.heap.size w w'

set_option maxHeartbeats 4000000 in
set_option maxRecDepth 100000 in
theorem Tx.take_neg {b : Nat} {s : ByteArray} {k : Nat} {w : World} (h : Tx.Cur w b s k) (n : Int) (hn : n < 0) :
    Calls Tryd.prog 21 #[.pointer (some ⟨b, 0, none⟩), .int .i64 n] w (Tx.Refused 16 w) := by
  have c1 := h.c1
  go_enter Tryd.func21, Tryd.ntmps21
  go_wp2_with fail
  go_quiet (fail)
  go_wp2
  go_ret2
  exact ⟨_, _, rfl, .placed _ .fault, Tx.drewN_below w nq⟩

set_option maxHeartbeats 4000000 in
set_option maxRecDepth 100000 in
theorem Tx.take_end {b : Nat} {s : ByteArray} {k L : Nat} {w : World} (h : Tx.Cur w b s k) (hs : s.size ≤ 9223372036854775807) (hL : k + L = s.size) (n : Int) (h0 : 0 ≤ n) (hn : (L : Int) < n) :
    Calls Tryd.prog 21 #[.pointer (some ⟨b, 0, none⟩), .int .i64 n] w (Tx.Refused 15 w) := by
  have cl := Tx.Left_any h hs hL
  have HC := Lib.hid h
  clear h hL
  have h1 : ¬ n < 0 := by omega
  go_enter Tryd.func21, Tryd.ntmps21
  go_wp2_with fail
  refine cl.mono ?_
  rintro e w1 ⟨rfl, q1, hw⟩
  have hc : Tx.Cur w1 b s k := by rw [hw]; exact HC.out.drewN q1
  have hb1 : Below w.heap.size w w1 := by rw [hw]; exact Tx.drewN_below w q1
  clear hw
  have c1 := hc.c1
  go_wp2_with fail
  go_quiet (fail)
  go_wp2
  go_ret2
  exact ⟨_, _, rfl, .placed _ .fault, below_drewN hb1 nq⟩

set_option maxHeartbeats 4000000 in
set_option maxRecDepth 100000 in
theorem Tx.take_ok {b : Nat} {s : ByteArray} {k L : Nat} {w : World} (h : Tx.Cur w b s k) (hs : s.size ≤ 9223372036854775807) (hL : k + L = s.size) (n : Nat) (hn : n ≤ L) :
    Calls Tryd.prog 21 #[.pointer (some ⟨b, 0, none⟩), .int .i64 (n : Int)] w fun e w' => e = .returned (.tuple #[.string (s.extract k (k + n)), .nilIface]) ∧ Tx.Cur w' b s (k + n) ∧ w.grownBy w' (some b) := by
  have cl := Tx.Left_any h hs hL
  have HC := Lib.hid h
  have h2 : (k : Int) + (n : Int) ≤ (s.size : Int) := by omega
  have h3 : k + n ≤ s.size := by omega
  have h4 : ¬ (L : Int) < (n : Int) := by omega
  have x2 : 0 ≤ (k : Int) + (n : Int) := by omega
  have x3 : ((k : Int) + (n : Int)).toNat = k + n := by omega
  clear h hL
  go_enter Tryd.func21, Tryd.ntmps21
  go_wp2_with fail
  refine cl.mono ?_
  rintro e w1 ⟨rfl, q1, hw⟩
  have hc : Tx.Cur w1 b s k := by rw [hw]; exact HC.out.drewN q1
  have hb1 : Below w.heap.size w w1 := by rw [hw]; exact Tx.drewN_below w q1
  clear hw
  have HC1 := Lib.hid hc
  have c0 := hc.c0
  have c1 := hc.c1
  have f1 := hc.f1
  have x1 : IntKind.i64.wrap ((k : Int) + (n : Int)) = (k : Int) + (n : Int) := IntWalk.i64_in _ (by omega)
  clear hc
  go_wp2_with fail
  go_quiet (fail)
  go_wp2
  go_ret2
  refine ⟨rfl, ?_, Tx.grown_trans (Tx.below_grown (below_drewN hb1 nq) _) (Tx.grown_set _ _ _ _)⟩
  have := (HC1.out.drewN nq).set (k + n) h3
  rw [Int.natCast_add] at this
  exact this

theorem Tx.ext_drop (s : ByteArray) (k : Nat) : (s.extract k s.size).data.toList = s.data.toList.drop k := by
  rw [Tx.ext_list, List.take_of_length_le (by simp)]
theorem Tx.index_call (s : ByteArray) (k : Nat) (c : UInt8) (x : Int) (h : Lib.indexByte (s.data.toList.drop k) c = x) (w : World) :
    Calls Tryd.prog 30 #[.string (s.extract k s.size), .int .u8 (c.toNat : Int)] w fun e w' => e = .returned (.int .i64 x) ∧ w' = w := by
  have := Tryd.strings_IndexByte (s.extract k s.size) (c.toNat : Int) w
  rw [Tx.ext_drop, show ((c.toNat : Int).toNat).toUInt8 = c by simp, h] at this
  exact this

set_option maxHeartbeats 4000000 in
set_option maxRecDepth 100000 in
theorem Tx.until_none {b : Nat} {s : ByteArray} {k : Nat} {w : World} (h : Tx.Cur w b s k) (_hs : s.size ≤ 9223372036854775807) (c : UInt8) (hx : Lib.indexByte (s.data.toList.drop k) c = -1) :
    Calls Tryd.prog 23 #[.pointer (some ⟨b, 0, none⟩), .int .u8 (c.toNat : Int)] w (Tx.Refused 17 w) := by
  have ci := fun w => Tx.index_call s k c _ hx w
  have c0 := h.c0
  have c1 := h.c1
  have hk : (k : Int) ≤ (s.size : Int) := by have := h.2; omega
  have HC := Lib.hid h
  clear h hx
  go_enter Tryd.func23, Tryd.ntmps23
  go_wp2_with fail
  go_quiet ((go_at_call 30; exact Calls.quiet_of_same (ci _)))
  obtain ⟨w1, hw⟩ : ∃ w1, w1 = w.drewN nq := ⟨_, rfl⟩
  have hc : Tx.Cur w1 b s k := by rw [hw]; exact HC.out.drewN nq
  have hb1 : Below w.heap.size w w1 := by rw [hw]; exact Tx.drewN_below w nq
  rw [← hw]
  clear hw c0 c1 ci
  have c1 := hc.c1
  go_wp2_with fail
  go_quiet (fail)
  go_wp2
  go_ret2
  exact ⟨_, _, rfl, .placed _ .fault, below_drewN hb1 _⟩

set_option maxHeartbeats 4000000 in
set_option maxRecDepth 100000 in
theorem Tx.until_some {b : Nat} {s : ByteArray} {k : Nat} {w : World} (h : Tx.Cur w b s k) (_hs : s.size ≤ 9223372036854775807) (c : UInt8) (o : Nat) (ho : k + o < s.size) (hx : Lib.indexByte (s.data.toList.drop k) c = (o : Int)) :
    Calls Tryd.prog 23 #[.pointer (some ⟨b, 0, none⟩), .int .u8 (c.toNat : Int)] w fun e w' => e = .returned (.tuple #[.string (s.extract k (k + o)), .nilIface]) ∧ Tx.Cur w' b s (k + (o + 1)) ∧ w.grownBy w' (some b) := by
  have ci := fun w => Tx.index_call s k c _ hx w
  have c0 := h.c0
  have c1 := h.c1
  have hk : (k : Int) ≤ (s.size : Int) := by have := h.2; omega
  have h2 : (k : Int) + (o : Int) ≤ (s.size : Int) := by omega
  have h4 : ¬ (o : Int) < 0 := by omega
  have x2 : 0 ≤ (k : Int) + (o : Int) := by omega
  have x3 : ((k : Int) + (o : Int)).toNat = k + o := by omega
  have h3 : k + (o + 1) ≤ s.size := by omega
  have HC := Lib.hid h
  clear h hx
  go_enter Tryd.func23, Tryd.ntmps23
  go_wp2_with fail
  go_quiet ((go_at_call 30; exact Calls.quiet_of_same (ci _)))
  obtain ⟨w1, hw⟩ : ∃ w1, w1 = w.drewN nq := ⟨_, rfl⟩
  have hc : Tx.Cur w1 b s k := by rw [hw]; exact HC.out.drewN nq
  have hb1 : Below w.heap.size w w1 := by rw [hw]; exact Tx.drewN_below w nq
  rw [← hw]
  clear hw c0 c1 ci
  have HC1 := Lib.hid hc
  have c0 := hc.c0
  have c1 := hc.c1
  have f1 := hc.f1
  have x1 : IntKind.i64.wrap ((k : Int) + (o : Int)) = (k : Int) + (o : Int) := IntWalk.i64_in _ (by omega)
  clear hc
  go_wp2_with fail
  go_quiet (fail)
  go_wp2
  go_ret2
  refine ⟨rfl, ?_, Tx.grown_trans (Tx.below_grown (below_drewN hb1 _) _) (Tx.grown_set _ _ _ _)⟩
  have := fun q => (HC1.out.drewN q).set (k + (o + 1)) h3
  simp only [Int.natCast_add] at this
  exact this _
end Go.Proofs.YtbemgeicpbcdhaaDoor
