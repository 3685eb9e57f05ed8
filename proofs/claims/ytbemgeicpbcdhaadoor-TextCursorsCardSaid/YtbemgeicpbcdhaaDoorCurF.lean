/- Cursors: the faces. -/
import Derived.Test.YtbemgeicpbcdhaaDoorCur
namespace Go.Proofs.YtbemgeicpbcdhaaDoor
open Go.RowKit

theorem Tx.get1 (c : UInt8) : ({ data := #[c] } : ByteArray)[0]'(by simp [ByteArray.size]) = c := rfl
/-- A face's refusal. -/
def Tx.RefusedV (z : Value) (c : Int) (w : World) (e : Ending) (w' : World) : Prop := e = .returned (.tuple #[z, .int .i64 c]) ∧ Below w.heap.size w w'

set_option maxHeartbeats 4000000 in
set_option maxRecDepth 100000 in
theorem Tx.Take_no {b : Nat} {n c : Int} {w : World} (h : Calls Tryd.prog 21 #[.pointer (some ⟨b, 0, none⟩), .int .i64 n] w (Tx.Refused c w)) (hg : As.ErrVar w) :
    Calls Tryd.prog 8 #[.pointer (some ⟨b, 0, none⟩), .int .i64 n] w (Tx.RefusedV (.string (Tx.ba [])) c w) := by
  have h3 := hg.size
  have HG := Lib.hid hg
  have H := Lib.hid h
  clear hg h
  go_enter Tryd.func8, Tryd.ntmps8
  go_wp2_with fail
  refine H.out.mono ?_
  rintro e w1 ⟨m, x, rfl, hx, hb⟩
  have ct := As.told_err c m x hx
  have HG1 := Lib.hid (HG.out.below hb h3)
  go_wp2_with fail
  refine (ct _ HG1.out).mono ?_
  rintro e w2 ⟨rfl, hb2⟩
  go_wp2_with fail
  go_ret2
  exact ⟨rfl, hb.trans (hb2.mono hb.size)⟩

set_option maxHeartbeats 4000000 in
set_option maxRecDepth 100000 in
theorem Tx.Take_ok {b : Nat} {s : ByteArray} {k L : Nat} {w : World} (h : Tx.Cur w b s k) (hs : s.size ≤ 9223372036854775807) (hL : k + L = s.size) (n : Nat) (hn : n ≤ L) :
    Calls Tryd.prog 8 #[.pointer (some ⟨b, 0, none⟩), .int .i64 (n : Int)] w fun e w' => e = .returned (.tuple #[.string (s.extract k (k + n)), .int .i64 0]) ∧ Tx.Cur w' b s (k + n) ∧ w.grownBy w' (some b) := by
  have H := Lib.hid (Tx.take_ok h hs hL n hn)
  clear h hL
  go_enter Tryd.func8, Tryd.ntmps8
  go_wp2_with fail
  refine H.out.mono ?_
  rintro e w1 ⟨rfl, hc, hg⟩
  have ct := As.told_nil
  go_wp2_with fail
  refine (ct _).mono ?_
  rintro e w2 ⟨rfl, rfl⟩
  go_wp2_with fail
  go_ret2
  exact ⟨rfl, hc, hg⟩

set_option maxHeartbeats 4000000 in
set_option maxRecDepth 100000 in
theorem Tx.Byte_no {b : Nat} {c : Int} {w : World} (h : Calls Tryd.prog 21 #[.pointer (some ⟨b, 0, none⟩), .int .i64 1] w (Tx.Refused c w)) (hg : As.ErrVar w) :
    Calls Tryd.prog 6 #[.pointer (some ⟨b, 0, none⟩)] w (Tx.RefusedV (.int .u8 0) c w) := by
  have h3 := hg.size
  have HG := Lib.hid hg
  have H := Lib.hid h
  clear hg h
  go_enter Tryd.func6, Tryd.ntmps6
  go_wp2_with fail
  refine H.out.mono ?_
  rintro e w1 ⟨m, x, rfl, hx, hb⟩
  have ct := As.told_err c m x hx
  obtain ⟨T, xv, rfl⟩ := hx.iface
  have HG1 := Lib.hid (HG.out.below hb h3)
  go_wp2_with fail
  refine (ct _ HG1.out).mono ?_
  rintro e w2 ⟨rfl, hb2⟩
  go_wp2_with fail
  go_ret2
  exact ⟨rfl, hb.trans (hb2.mono hb.size)⟩

set_option maxHeartbeats 4000000 in
set_option maxRecDepth 100000 in
theorem Tx.Byte_ok {b : Nat} {s : ByteArray} {k : Nat} {w : World} (h : Tx.Cur w b s k) (hs : s.size ≤ 9223372036854775807) (hk : k < s.size) :
    Calls Tryd.prog 6 #[.pointer (some ⟨b, 0, none⟩)] w fun e w' => e = .returned (.tuple #[.int .u8 (s[k].toNat : Int), .int .i64 0]) ∧ Tx.Cur w' b s (k + 1) ∧ w.grownBy w' (some b) := by
  have H := Lib.hid (Tx.take_ok h hs (by omega : k + (s.size - k) = s.size) 1 (by omega))
  have hx := Tx.ext1 s k hk
  rw [hx] at H
  have i0 := Tx.get1 s[k]
  clear h hx
  go_enter Tryd.func6, Tryd.ntmps6
  go_wp2_with fail
  refine H.out.mono ?_
  rintro e w1 ⟨rfl, hc, hg⟩
  go_wp2_with fail
  go_ret2
  exact ⟨rfl, hc, hg⟩

set_option maxHeartbeats 4000000 in
set_option maxRecDepth 100000 in
theorem Tx.Within_no {b : Nat} {n c : Int} {w : World} (h : Calls Tryd.prog 21 #[.pointer (some ⟨b, 0, none⟩), .int .i64 n] w (Tx.Refused c w)) (hg : As.ErrVar w) :
    Calls Tryd.prog 11 #[.pointer (some ⟨b, 0, none⟩), .int .i64 n] w (Tx.RefusedV (.pointer none) c w) := by
  have h3 := hg.size
  have HG := Lib.hid hg
  have H := Lib.hid h
  clear hg h
  go_enter Tryd.func11, Tryd.ntmps11
  go_wp2_with fail
  refine H.out.mono ?_
  rintro e w1 ⟨m, x, rfl, hx, hb⟩
  have ct := As.told_err c m x hx
  obtain ⟨T, xv, rfl⟩ := hx.iface
  have HG1 := Lib.hid (HG.out.below hb h3)
  go_wp2_with fail
  refine (ct _ HG1.out).mono ?_
  rintro e w2 ⟨rfl, hb2⟩
  go_wp2_with fail
  go_ret2
  exact ⟨rfl, hb.trans (hb2.mono hb.size)⟩

set_option maxHeartbeats 4000000 in
set_option maxRecDepth 100000 in
theorem Tx.Within_ok {b : Nat} {s : ByteArray} {k L : Nat} {w : World} (h : Tx.Cur w b s k) (hs : s.size ≤ 9223372036854775807) (hL : k + L = s.size) (n : Nat) (hn : n ≤ L) :
    Calls Tryd.prog 11 #[.pointer (some ⟨b, 0, none⟩), .int .i64 (n : Int)] w fun e w' => ∃ d, e = .returned (.tuple #[.pointer (some ⟨d, 0, none⟩), .int .i64 0]) ∧ w.heap.size ≤ d ∧ Tx.Cur w' d (s.extract k (k + n)) 0 ∧ Tx.Cur w' b s (k + n) ∧ w.grownBy w' (some b) := by
  have H := Lib.hid (Tx.take_ok h hs hL n hn)
  clear h hL
  go_enter Tryd.func11, Tryd.ntmps11
  go_wp2_with fail
  refine H.out.mono ?_
  rintro e w1 ⟨rfl, hc, hg⟩
  have co := Tx.Open_any (s.extract k (k + n)) w1
  have HO := Lib.hid co
  clear co
  go_wp2_with fail
  refine HO.out.mono ?_
  rintro e w2 ⟨rfl, hc2, hb2⟩
  go_wp2_with fail
  go_ret2
  exact ⟨_, rfl, hg.size, hc2, hc.below hb2 hc.lt, Tx.grown_trans hg (Tx.below_grown hb2 _)⟩

set_option maxHeartbeats 4000000 in
set_option maxRecDepth 100000 in
theorem Tx.Until_no {b : Nat} {c : Int} {v : Value} {w : World} (h : Calls Tryd.prog 23 #[.pointer (some ⟨b, 0, none⟩), v] w (Tx.Refused c w)) (hg : As.ErrVar w) :
    Calls Tryd.prog 9 #[.pointer (some ⟨b, 0, none⟩), v] w (Tx.RefusedV (.string (Tx.ba [])) c w) := by
  have h3 := hg.size
  have HG := Lib.hid hg
  have H := Lib.hid h
  clear hg h
  go_enter Tryd.func9, Tryd.ntmps9
  go_wp2_with fail
  refine H.out.mono ?_
  rintro e w1 ⟨m, x, rfl, hx, hb⟩
  have ct := As.told_err c m x hx
  have HG1 := Lib.hid (HG.out.below hb h3)
  go_wp2_with fail
  refine (ct _ HG1.out).mono ?_
  rintro e w2 ⟨rfl, hb2⟩
  go_wp2_with fail
  go_ret2
  exact ⟨rfl, hb.trans (hb2.mono hb.size)⟩

set_option maxHeartbeats 4000000 in
set_option maxRecDepth 100000 in
theorem Tx.Until_ok {b : Nat} {s : ByteArray} {k : Nat} {w : World} (h : Tx.Cur w b s k) (hs : s.size ≤ 9223372036854775807) (c : UInt8) (o : Nat) (ho : k + o < s.size) (hx : Lib.indexByte (s.data.toList.drop k) c = (o : Int)) :
    Calls Tryd.prog 9 #[.pointer (some ⟨b, 0, none⟩), .int .u8 (c.toNat : Int)] w fun e w' => e = .returned (.tuple #[.string (s.extract k (k + o)), .int .i64 0]) ∧ Tx.Cur w' b s (k + (o + 1)) ∧ w.grownBy w' (some b) := by
  have H := Lib.hid (Tx.until_some h hs c o ho hx)
  clear h hx
  go_enter Tryd.func9, Tryd.ntmps9
  go_wp2_with fail
  refine H.out.mono ?_
  rintro e w1 ⟨rfl, hc, hg⟩
  have ct := As.told_nil
  go_wp2_with fail
  refine (ct _).mono ?_
  rintro e w2 ⟨rfl, rfl⟩
  go_wp2_with fail
  go_ret2
  exact ⟨rfl, hc, hg⟩

set_option maxHeartbeats 4000000 in
set_option maxRecDepth 100000 in
theorem Tx.Clone_any {b : Nat} {s : ByteArray} {k : Nat} {w : World} (h : Tx.Cur w b s k) :
    Calls Tryd.prog 12 #[.pointer (some ⟨b, 0, none⟩)] w fun e w' => ∃ d, e = .returned (.pointer (some ⟨d, 0, none⟩)) ∧ w.heap.size ≤ d ∧ Tx.Cur w' d s k ∧ Below w.heap.size w w' := by
  have c0 := h.c0
  have c1 := h.c1
  have hk := h.2
  clear h
  go_enter Tryd.func12, Tryd.ntmps12
  go_wp2
  go_ret
  exact ⟨_, rfl, Nat.le_refl _, ⟨heap_alloc_new w _, hk⟩, (Below.refl _ _).alloc (Nat.le_refl _) _⟩
end Go.Proofs.YtbemgeicpbcdhaaDoor
