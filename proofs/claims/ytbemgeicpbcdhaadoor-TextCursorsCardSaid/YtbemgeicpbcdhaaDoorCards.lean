/-
  DERIVED. GIVEN WITH THE SEED: THE CARDS: each row of YtbemgeicpbcdhaaDoorRows.lean that lists a variable, with what it lists TIED to the program's text (the seventh form; the later family's looks); each row that meets fmt, with fmt's text TOLD by the authors' own Lean function (tested against real Go, not proved from fmt's source: count such statements apart). THE CARD IS WHAT COUNTS. Prove the row's statement (the work); the ties are given (YtbemgeicpbcdhaaDoorTie.lean); close each card by the builder's one call (the guide's Derived/Test/ToyasCard.lean, 'card_holds'). Laid BY PROGRAM, IN A SANDBOX (cutbox-door.mjs). By AI agents, Wed Nov 11 2026. No macro, syntax, notation, axiom, sorry.
-/
import Derived.Test.YtbemgeicpbcdhaaDoorRows
import GoSem.ClaimSeven
namespace Go.Proofs.YtbemgeicpbcdhaaDoor
namespace Rows

/-- THE TIED CARD OF 'ostiarylaw01.TextCursors'. -/
def textCursorsCard : Claim7 := { stood := { row := textCursorsRow, standIns := [], harness := (true, "20ab73fc6fbbf755d1ecb966e5092f6e8adcd5e99de74fba24f1ce43b5d7fc80"), looks := true }, kinds := [], alts := [], laidByText := true, laidKinds := [.data, .handle, .pinned], laidTests := true, laidLooks := .later }
def TextCursorsCardSaid : Prop := Claim7.holds Tryd.pinned (.plain (OpenSpec.ofChange textCursorsSpec)) textCursorsCard

/-- THE SECOND FORM's CARD OF 'ostiarylaw01.TextCursors'. -/
def textCursorsUptoCard : Claim7 := { stood := { row := textCursorsUptoRow, standIns := [], harness := (true, "20ab73fc6fbbf755d1ecb966e5092f6e8adcd5e99de74fba24f1ce43b5d7fc80"), looks := true }, kinds := [], alts := [], laidByText := true, laidKinds := [.data, .handle, .pinned], laidTests := true, laidLooks := .later }
def TextCursorsUptoCardSaid : Prop := Claim7.holds Tryd.pinned (.plain (OpenSpec.upto textCursorsSpec)) textCursorsUptoCard
end Rows
end Go.Proofs.YtbemgeicpbcdhaaDoor
