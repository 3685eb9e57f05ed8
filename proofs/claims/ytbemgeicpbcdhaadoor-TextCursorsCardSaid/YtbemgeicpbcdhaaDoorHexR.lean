/- Base sixteen: readHex, FromHex. -/
import Derived.Test.YtbemgeicpbcdhaaDoorHex
namespace Go.Proofs.YtbemgeicpbcdhaaDoor
open Go.RowKit

/-- What a reader of bytes answers: the bytes, in a row of its own, or an error that comes to c. -/
def Tx.BytesOr (c : Int) (r : Option (List UInt8)) (w : World) (e : Ending) (w' : World) : Prop :=
  Below w.heap.size w w' ∧ match r with
    | some b => ∃ v, e = .returned (.tuple #[v, .nilIface]) ∧ Tx.Own w' w.heap.size v b
    | none => ∃ n x, e = .returned (.tuple #[.slice none 0 0, x]) ∧ As.Chain c n x
theorem Tx.BytesOr.mk_some {c : Int} {r : Option (List UInt8)} {w w' : World} {b : List UInt8} {v : Value} (hr : r = some b) (hb : Below w.heap.size w w') (hv : Tx.Own w' w.heap.size v b) : Tx.BytesOr c r w (.returned (.tuple #[v, .nilIface])) w' := by
  subst hr; exact ⟨hb, v, rfl, hv⟩
theorem Tx.BytesOr.mk_none {c : Int} {r : Option (List UInt8)} {w w' : World} {n : Nat} {x : Value} (hr : r = none) (hb : Below w.heap.size w w') (hx : As.Chain c n x) : Tx.BytesOr c r w (.returned (.tuple #[.slice none 0 0, x])) w' := by
  subst hr; exact ⟨hb, n, x, rfl, hx⟩

/-- The answer of FromHex and FromBase64. -/
def Tx.bytesAns (c : Int) : Option (List UInt8) → Value
  | some b => .tuple #[.string (Tx.ba b), .int .i64 0]
  | none => .tuple #[.string (Tx.ba []), .int .i64 c]
theorem Tx.conv_nil (w : World) : (convert 38 9 (.slice none 0 0)).run Tryd.prog w = .ok (.string (Tx.ba [])) w := (Tx.Own.nil w 0).conv

end Go.Proofs.YtbemgeicpbcdhaaDoor
