/-
  DERIVED. GIVEN WITH THE SEED: THE CARDS: each row of YtfbliccblippiaaGreatDoorRows.lean that lists a variable, with what it lists TIED to the program's text (the seventh form; the later family's looks); each row that meets fmt, with fmt's text TOLD by the authors' own Lean function (tested against real Go, not proved from fmt's source: count such statements apart). THE CARD IS WHAT COUNTS. Prove the row's statement (the work); the ties are given (YtfbliccblippiaaGreatDoorTie.lean); close each card by the builder's one call (the guide's Derived/Test/ToyasCard.lean, 'card_holds'). Laid BY PROGRAM, IN A SANDBOX (cutbox-door.mjs). By AI agents, Wed Nov 11 2026. No macro, syntax, notation, axiom, sorry.
-/
import Derived.Test.YtfbliccblippiaaGreatDoorRows
import GoSem.ClaimSeven
namespace Go.Proofs.YtfbliccblippiaaGreatDoor
namespace Rows

/-- THE TIED CARD OF 'ostiarylaw04.RsaKeys'. -/
def rsaKeysCard : Claim7 := { stood := { row := rsaKeysRow, standIns := [], harness := (true, "64a0dd3adfd18de136e4cf62b7273771a984f4fd8508c66d441cdb8e6a50077d"), looks := true }, kinds := [], alts := [], laidByText := true, laidKinds := [.data, .sentinel, .sentinel, .sentinel, .sentinel, .sentinel, .sentinel, .sentinel, .sentinel, .sentinel, .pinned], laidTests := true, laidLooks := .later }
def RsaKeysCardSaid : Prop := Claim7.holds Tryz.pinned (.plain (OpenSpec.ofChange rsaKeysSpec)) rsaKeysCard

/-- THE TIED CARD OF 'ostiarylaw04.RsaOpens'. -/
def rsaOpensCard : Claim7 := { stood := { row := rsaOpensRow, standIns := [], harness := (true, "64a0dd3adfd18de136e4cf62b7273771a984f4fd8508c66d441cdb8e6a50077d"), looks := true }, kinds := [], alts := [], laidByText := true, laidKinds := [.data, .sentinel, .sentinel, .sentinel, .sentinel, .sentinel, .sentinel, .sentinel, .sentinel, .sentinel, .pinned], laidTests := true, laidLooks := .later }
def RsaOpensCardSaid : Prop := Claim7.holds Tryz.pinned (.plain (OpenSpec.ofChange rsaOpensSpec)) rsaOpensCard

/-- THE TIED CARD OF 'ostiarylaw04.RsaBlocks'. -/
def rsaBlocksCard : Claim7 := { stood := { row := rsaBlocksRow, standIns := [], harness := (true, "64a0dd3adfd18de136e4cf62b7273771a984f4fd8508c66d441cdb8e6a50077d"), looks := true }, kinds := [], alts := [], laidByText := true, laidKinds := [.data, .sentinel, .sentinel, .sentinel, .sentinel, .sentinel, .sentinel, .sentinel, .sentinel, .sentinel, .pinned], laidTests := true, laidLooks := .later }
def RsaBlocksCardSaid : Prop := Claim7.holds Tryz.pinned (.plain (OpenSpec.ofChange rsaBlocksSpec)) rsaBlocksCard

/-- THE TIED CARD OF 'ostiarylaw04.RsaFits'. -/
def rsaFitsCard : Claim7 := { stood := { row := rsaFitsRow, standIns := [], harness := (true, "64a0dd3adfd18de136e4cf62b7273771a984f4fd8508c66d441cdb8e6a50077d"), looks := true }, kinds := [], alts := [], laidByText := true, laidKinds := [.data, .sentinel, .sentinel, .sentinel, .sentinel, .sentinel, .sentinel, .sentinel, .sentinel, .sentinel, .pinned], laidTests := true, laidLooks := .later }
def RsaFitsCardSaid : Prop := Claim7.holds Tryz.pinned (.plain (OpenSpec.ofChange rsaFitsSpec)) rsaFitsCard

/-- THE TIED CARD OF 'ostiarylaw04.RsaVerifies'. -/
def rsaVerifiesCard : Claim7 := { stood := { row := rsaVerifiesRow, standIns := [], harness := (true, "64a0dd3adfd18de136e4cf62b7273771a984f4fd8508c66d441cdb8e6a50077d"), looks := true }, kinds := [], alts := [], laidByText := true, laidKinds := [.data, .sentinel, .sentinel, .sentinel, .sentinel, .sentinel, .sentinel, .sentinel, .sentinel, .sentinel, .sentinel, .pinned], laidTests := true, laidLooks := .later }
def RsaVerifiesCardSaid : Prop := Claim7.holds Tryz.pinned (.plain (OpenSpec.ofChange rsaVerifiesSpec)) rsaVerifiesCard

/-- THE TIED CARD OF 'ostiarylaw04.RsaOnce'. -/
def rsaOnceCard : Claim7 := { stood := { row := rsaOnceRow, standIns := [], harness := (true, "64a0dd3adfd18de136e4cf62b7273771a984f4fd8508c66d441cdb8e6a50077d"), looks := true }, kinds := [], alts := [], laidByText := true, laidKinds := [.data, .sentinel, .sentinel, .sentinel, .sentinel, .sentinel, .sentinel, .sentinel, .sentinel, .sentinel, .sentinel, .pinned], laidTests := true, laidLooks := .later }
def RsaOnceCardSaid : Prop := Claim7.holds Tryz.pinned (.plain (OpenSpec.ofChange rsaOnceSpec)) rsaOnceCard

/-- THE TIED CARD OF 'ostiarylaw04.RsaPss'. -/
def rsaPssCard : Claim7 := { stood := { row := rsaPssRow, standIns := [], harness := (true, "64a0dd3adfd18de136e4cf62b7273771a984f4fd8508c66d441cdb8e6a50077d"), looks := true }, kinds := [], alts := [], laidByText := true, laidKinds := [.data, .sentinel, .sentinel, .sentinel, .sentinel, .sentinel, .sentinel, .sentinel, .sentinel, .sentinel, .sentinel, .pinned], laidTests := true, laidLooks := .later }
def RsaPssCardSaid : Prop := Claim7.holds Tryz.pinned (.plain (OpenSpec.ofChange rsaPssSpec)) rsaPssCard

/-- THE TIED CARD OF 'ostiarylaw04.RsaRound'. -/
def rsaRoundCard : Claim7 := { stood := { row := rsaRoundRow, standIns := [], harness := (true, "64a0dd3adfd18de136e4cf62b7273771a984f4fd8508c66d441cdb8e6a50077d"), looks := true }, kinds := [], alts := [], laidByText := true, laidKinds := [.data, .sentinel, .sentinel, .sentinel, .sentinel, .sentinel, .sentinel, .sentinel, .sentinel, .sentinel, .pinned], laidTests := true, laidLooks := .later }
def RsaRoundCardSaid : Prop := Claim7.holds Tryz.pinned (.plain (OpenSpec.ofChange rsaRoundSpec)) rsaRoundCard

/-- THE TIED CARD OF 'ostiarylaw04.RsaMasks'. -/
def rsaMasksCard : Claim7 := { stood := { row := rsaMasksRow, standIns := [], harness := (true, "64a0dd3adfd18de136e4cf62b7273771a984f4fd8508c66d441cdb8e6a50077d"), looks := true }, kinds := [], alts := [], laidByText := true, laidKinds := [.data, .sentinel, .sentinel, .sentinel, .sentinel, .sentinel, .sentinel, .sentinel, .sentinel, .sentinel, .pinned], laidTests := true, laidLooks := .later }
def RsaMasksCardSaid : Prop := Claim7.holds Tryz.pinned (.plain (OpenSpec.ofChange rsaMasksSpec)) rsaMasksCard

/-- THE SECOND FORM's CARD OF 'ostiarylaw04.RsaKeys'. -/
def rsaKeysUptoCard : Claim7 := { stood := { row := rsaKeysUptoRow, standIns := [], harness := (true, "64a0dd3adfd18de136e4cf62b7273771a984f4fd8508c66d441cdb8e6a50077d"), looks := true }, kinds := [], alts := [], laidByText := true, laidKinds := [.data, .sentinel, .sentinel, .sentinel, .sentinel, .sentinel, .sentinel, .sentinel, .sentinel, .sentinel, .pinned], laidTests := true, laidLooks := .later }
def RsaKeysUptoCardSaid : Prop := Claim7.holds Tryz.pinned (.plain (OpenSpec.upto rsaKeysSpec)) rsaKeysUptoCard

/-- THE SECOND FORM's CARD OF 'ostiarylaw04.RsaOpens'. -/
def rsaOpensUptoCard : Claim7 := { stood := { row := rsaOpensUptoRow, standIns := [], harness := (true, "64a0dd3adfd18de136e4cf62b7273771a984f4fd8508c66d441cdb8e6a50077d"), looks := true }, kinds := [], alts := [], laidByText := true, laidKinds := [.data, .sentinel, .sentinel, .sentinel, .sentinel, .sentinel, .sentinel, .sentinel, .sentinel, .sentinel, .pinned], laidTests := true, laidLooks := .later }
def RsaOpensUptoCardSaid : Prop := Claim7.holds Tryz.pinned (.plain (OpenSpec.upto rsaOpensSpec)) rsaOpensUptoCard

/-- THE SECOND FORM's CARD OF 'ostiarylaw04.RsaBlocks'. -/
def rsaBlocksUptoCard : Claim7 := { stood := { row := rsaBlocksUptoRow, standIns := [], harness := (true, "64a0dd3adfd18de136e4cf62b7273771a984f4fd8508c66d441cdb8e6a50077d"), looks := true }, kinds := [], alts := [], laidByText := true, laidKinds := [.data, .sentinel, .sentinel, .sentinel, .sentinel, .sentinel, .sentinel, .sentinel, .sentinel, .sentinel, .pinned], laidTests := true, laidLooks := .later }
def RsaBlocksUptoCardSaid : Prop := Claim7.holds Tryz.pinned (.plain (OpenSpec.upto rsaBlocksSpec)) rsaBlocksUptoCard

/-- THE SECOND FORM's CARD OF 'ostiarylaw04.RsaFits'. -/
def rsaFitsUptoCard : Claim7 := { stood := { row := rsaFitsUptoRow, standIns := [], harness := (true, "64a0dd3adfd18de136e4cf62b7273771a984f4fd8508c66d441cdb8e6a50077d"), looks := true }, kinds := [], alts := [], laidByText := true, laidKinds := [.data, .sentinel, .sentinel, .sentinel, .sentinel, .sentinel, .sentinel, .sentinel, .sentinel, .sentinel, .pinned], laidTests := true, laidLooks := .later }
def RsaFitsUptoCardSaid : Prop := Claim7.holds Tryz.pinned (.plain (OpenSpec.upto rsaFitsSpec)) rsaFitsUptoCard

/-- THE SECOND FORM's CARD OF 'ostiarylaw04.RsaVerifies'. -/
def rsaVerifiesUptoCard : Claim7 := { stood := { row := rsaVerifiesUptoRow, standIns := [], harness := (true, "64a0dd3adfd18de136e4cf62b7273771a984f4fd8508c66d441cdb8e6a50077d"), looks := true }, kinds := [], alts := [], laidByText := true, laidKinds := [.data, .sentinel, .sentinel, .sentinel, .sentinel, .sentinel, .sentinel, .sentinel, .sentinel, .sentinel, .sentinel, .pinned], laidTests := true, laidLooks := .later }
def RsaVerifiesUptoCardSaid : Prop := Claim7.holds Tryz.pinned (.plain (OpenSpec.upto rsaVerifiesSpec)) rsaVerifiesUptoCard

/-- THE SECOND FORM's CARD OF 'ostiarylaw04.RsaOnce'. -/
def rsaOnceUptoCard : Claim7 := { stood := { row := rsaOnceUptoRow, standIns := [], harness := (true, "64a0dd3adfd18de136e4cf62b7273771a984f4fd8508c66d441cdb8e6a50077d"), looks := true }, kinds := [], alts := [], laidByText := true, laidKinds := [.data, .sentinel, .sentinel, .sentinel, .sentinel, .sentinel, .sentinel, .sentinel, .sentinel, .sentinel, .sentinel, .pinned], laidTests := true, laidLooks := .later }
def RsaOnceUptoCardSaid : Prop := Claim7.holds Tryz.pinned (.plain (OpenSpec.upto rsaOnceSpec)) rsaOnceUptoCard

/-- THE SECOND FORM's CARD OF 'ostiarylaw04.RsaPss'. -/
def rsaPssUptoCard : Claim7 := { stood := { row := rsaPssUptoRow, standIns := [], harness := (true, "64a0dd3adfd18de136e4cf62b7273771a984f4fd8508c66d441cdb8e6a50077d"), looks := true }, kinds := [], alts := [], laidByText := true, laidKinds := [.data, .sentinel, .sentinel, .sentinel, .sentinel, .sentinel, .sentinel, .sentinel, .sentinel, .sentinel, .sentinel, .pinned], laidTests := true, laidLooks := .later }
def RsaPssUptoCardSaid : Prop := Claim7.holds Tryz.pinned (.plain (OpenSpec.upto rsaPssSpec)) rsaPssUptoCard

/-- THE SECOND FORM's CARD OF 'ostiarylaw04.RsaRound'. -/
def rsaRoundUptoCard : Claim7 := { stood := { row := rsaRoundUptoRow, standIns := [], harness := (true, "64a0dd3adfd18de136e4cf62b7273771a984f4fd8508c66d441cdb8e6a50077d"), looks := true }, kinds := [], alts := [], laidByText := true, laidKinds := [.data, .sentinel, .sentinel, .sentinel, .sentinel, .sentinel, .sentinel, .sentinel, .sentinel, .sentinel, .pinned], laidTests := true, laidLooks := .later }
def RsaRoundUptoCardSaid : Prop := Claim7.holds Tryz.pinned (.plain (OpenSpec.upto rsaRoundSpec)) rsaRoundUptoCard

/-- THE SECOND FORM's CARD OF 'ostiarylaw04.RsaMasks'. -/
def rsaMasksUptoCard : Claim7 := { stood := { row := rsaMasksUptoRow, standIns := [], harness := (true, "64a0dd3adfd18de136e4cf62b7273771a984f4fd8508c66d441cdb8e6a50077d"), looks := true }, kinds := [], alts := [], laidByText := true, laidKinds := [.data, .sentinel, .sentinel, .sentinel, .sentinel, .sentinel, .sentinel, .sentinel, .sentinel, .sentinel, .pinned], laidTests := true, laidLooks := .later }
def RsaMasksUptoCardSaid : Prop := Claim7.holds Tryz.pinned (.plain (OpenSpec.upto rsaMasksSpec)) rsaMasksUptoCard
end Rows
end Go.Proofs.YtfbliccblippiaaGreatDoor
