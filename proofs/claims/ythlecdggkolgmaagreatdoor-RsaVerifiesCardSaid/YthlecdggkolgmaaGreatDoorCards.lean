/-
  DERIVED. GIVEN WITH THE SEED: THE CARDS: each row of YthlecdggkolgmaaGreatDoorRows.lean that lists a variable, with what it lists TIED to the program's text (the seventh form; the later family's looks); each row that meets fmt, with fmt's text TOLD by the authors' own Lean function (tested against real Go, not proved from fmt's source: count such statements apart). THE CARD IS WHAT COUNTS. Prove the row's statement (the work); the ties are given (YthlecdggkolgmaaGreatDoorTie.lean); close each card by the builder's one call (the guide's Derived/Test/ToyasCard.lean, 'card_holds'). Laid BY PROGRAM, IN A SANDBOX (cutbox-door.mjs). By AI agents, Wed Nov 11 2026. No macro, syntax, notation, axiom, sorry.
-/
import Derived.Test.YthlecdggkolgmaaGreatDoorRows
import GoSem.ClaimSeven
namespace Go.Proofs.YthlecdggkolgmaaGreatDoor
namespace Rows

/-- THE TIED CARD OF 'ostiarylaw04.RsaFits'. -/
def rsaFitsCard : Claim7 := { stood := { row := rsaFitsRow, standIns := [], harness := (true, "faea88044a038cf0b6e8e01a9e0ee4dbe02e27755d5e8183870f0394cad9de49"), looks := true }, kinds := [], alts := [], laidByText := true, laidKinds := [.data, .sentinel, .sentinel, .sentinel, .sentinel, .sentinel, .sentinel, .sentinel, .sentinel, .sentinel, .pinned], laidTests := true, laidLooks := .later }
def RsaFitsCardSaid : Prop := Claim7.holds Tryz.pinned (.plain (OpenSpec.ofChange rsaFitsSpec)) rsaFitsCard

/-- THE TIED CARD OF 'ostiarylaw04.RsaVerifies'. -/
def rsaVerifiesCard : Claim7 := { stood := { row := rsaVerifiesRow, standIns := [], harness := (true, "faea88044a038cf0b6e8e01a9e0ee4dbe02e27755d5e8183870f0394cad9de49"), looks := true }, kinds := [], alts := [], laidByText := true, laidKinds := [.data, .sentinel, .sentinel, .sentinel, .sentinel, .sentinel, .sentinel, .sentinel, .sentinel, .sentinel, .sentinel, .pinned], laidTests := true, laidLooks := .later }
def RsaVerifiesCardSaid : Prop := Claim7.holds Tryz.pinned (.plain (OpenSpec.ofChange rsaVerifiesSpec)) rsaVerifiesCard

/-- THE SECOND FORM's CARD OF 'ostiarylaw04.RsaFits'. -/
def rsaFitsUptoCard : Claim7 := { stood := { row := rsaFitsUptoRow, standIns := [], harness := (true, "faea88044a038cf0b6e8e01a9e0ee4dbe02e27755d5e8183870f0394cad9de49"), looks := true }, kinds := [], alts := [], laidByText := true, laidKinds := [.data, .sentinel, .sentinel, .sentinel, .sentinel, .sentinel, .sentinel, .sentinel, .sentinel, .sentinel, .pinned], laidTests := true, laidLooks := .later }
def RsaFitsUptoCardSaid : Prop := Claim7.holds Tryz.pinned (.plain (OpenSpec.upto rsaFitsSpec)) rsaFitsUptoCard

/-- THE SECOND FORM's CARD OF 'ostiarylaw04.RsaVerifies'. -/
def rsaVerifiesUptoCard : Claim7 := { stood := { row := rsaVerifiesUptoRow, standIns := [], harness := (true, "faea88044a038cf0b6e8e01a9e0ee4dbe02e27755d5e8183870f0394cad9de49"), looks := true }, kinds := [], alts := [], laidByText := true, laidKinds := [.data, .sentinel, .sentinel, .sentinel, .sentinel, .sentinel, .sentinel, .sentinel, .sentinel, .sentinel, .sentinel, .pinned], laidTests := true, laidLooks := .later }
def RsaVerifiesUptoCardSaid : Prop := Claim7.holds Tryz.pinned (.plain (OpenSpec.upto rsaVerifiesSpec)) rsaVerifiesUptoCard
end Rows
end Go.Proofs.YthlecdggkolgmaaGreatDoor
