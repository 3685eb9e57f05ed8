/-
  DERIVED. GIVEN WITH THE SEED: THE CARDS: each row of YtccbnpondlncpaaGreatDoorRows.lean that lists a variable, with what it lists TIED to the program's text (the seventh form; the later family's looks); each row that meets fmt, with fmt's text TOLD by the authors' own Lean function (tested against real Go, not proved from fmt's source: count such statements apart). THE CARD IS WHAT COUNTS. Prove the row's statement (the work); the ties are given (YtccbnpondlncpaaGreatDoorTie.lean); close each card by the builder's one call (the guide's Derived/Test/ToyasCard.lean, 'card_holds'). Laid BY PROGRAM, IN A SANDBOX (cutbox-door.mjs). By AI agents, Wed Nov 11 2026. No macro, syntax, notation, axiom, sorry.
-/
import Derived.Test.YtccbnpondlncpaaGreatDoorRows
import GoSem.ClaimSeven
namespace Go.Proofs.YtccbnpondlncpaaGreatDoor
namespace Rows

/-- THE TIED CARD OF 'ostiarylaw03.NatSums'. -/
def natSumsCard : Claim7 := { stood := { row := natSumsRow, standIns := [], harness := (true, "b8c2953ac521cf7d9c8e18c29051c1d81a97f46e584bedcd313d7795423ff7f5"), looks := true }, kinds := [], alts := [], laidByText := true, laidKinds := [.data, .sentinel, .sentinel, .sentinel, .sentinel, .sentinel, .sentinel, .pinned], laidTests := true, laidLooks := .later }
def NatSumsCardSaid : Prop := Claim7.holds Tryz.pinned (.plain (OpenSpec.ofChange natSumsSpec)) natSumsCard

/-- THE TIED CARD OF 'ostiarylaw03.NatForms'. -/
def natFormsCard : Claim7 := { stood := { row := natFormsRow, standIns := [], harness := (true, "b8c2953ac521cf7d9c8e18c29051c1d81a97f46e584bedcd313d7795423ff7f5"), looks := true }, kinds := [], alts := [], laidByText := true, laidKinds := [.data, .sentinel, .sentinel, .sentinel, .sentinel, .sentinel, .sentinel, .pinned], laidTests := true, laidLooks := .later }
def NatFormsCardSaid : Prop := Claim7.holds Tryz.pinned (.plain (OpenSpec.ofChange natFormsSpec)) natFormsCard

/-- THE TIED CARD OF 'ostiarylaw03.NatPowers'. -/
def natPowersCard : Claim7 := { stood := { row := natPowersRow, standIns := [], harness := (true, "b8c2953ac521cf7d9c8e18c29051c1d81a97f46e584bedcd313d7795423ff7f5"), looks := true }, kinds := [], alts := [], laidByText := true, laidKinds := [.data, .sentinel, .sentinel, .sentinel, .sentinel, .sentinel, .sentinel, .pinned], laidTests := true, laidLooks := .later }
def NatPowersCardSaid : Prop := Claim7.holds Tryz.pinned (.plain (OpenSpec.ofChange natPowersSpec)) natPowersCard

/-- THE TIED CARD OF 'ostiarylaw03.NatInverses'. -/
def natInversesCard : Claim7 := { stood := { row := natInversesRow, standIns := [], harness := (true, "b8c2953ac521cf7d9c8e18c29051c1d81a97f46e584bedcd313d7795423ff7f5"), looks := true }, kinds := [], alts := [], laidByText := true, laidKinds := [.data, .sentinel, .sentinel, .sentinel, .sentinel, .sentinel, .sentinel, .pinned], laidTests := true, laidLooks := .later }
def NatInversesCardSaid : Prop := Claim7.holds Tryz.pinned (.plain (OpenSpec.ofChange natInversesSpec)) natInversesCard

/-- THE TIED CARD OF 'ostiarylaw03.NatMonts'. -/
def natMontsCard : Claim7 := { stood := { row := natMontsRow, standIns := [], harness := (true, "b8c2953ac521cf7d9c8e18c29051c1d81a97f46e584bedcd313d7795423ff7f5"), looks := true }, kinds := [], alts := [], laidByText := true, laidKinds := [.data, .sentinel, .sentinel, .sentinel, .sentinel, .sentinel, .sentinel, .pinned], laidTests := true, laidLooks := .later }
def NatMontsCardSaid : Prop := Claim7.holds Tryz.pinned (.plain (OpenSpec.ofChange natMontsSpec)) natMontsCard

/-- THE SECOND FORM's CARD OF 'ostiarylaw03.NatSums'. -/
def natSumsUptoCard : Claim7 := { stood := { row := natSumsUptoRow, standIns := [], harness := (true, "b8c2953ac521cf7d9c8e18c29051c1d81a97f46e584bedcd313d7795423ff7f5"), looks := true }, kinds := [], alts := [], laidByText := true, laidKinds := [.data, .sentinel, .sentinel, .sentinel, .sentinel, .sentinel, .sentinel, .pinned], laidTests := true, laidLooks := .later }
def NatSumsUptoCardSaid : Prop := Claim7.holds Tryz.pinned (.plain (OpenSpec.upto natSumsSpec)) natSumsUptoCard

/-- THE SECOND FORM's CARD OF 'ostiarylaw03.NatForms'. -/
def natFormsUptoCard : Claim7 := { stood := { row := natFormsUptoRow, standIns := [], harness := (true, "b8c2953ac521cf7d9c8e18c29051c1d81a97f46e584bedcd313d7795423ff7f5"), looks := true }, kinds := [], alts := [], laidByText := true, laidKinds := [.data, .sentinel, .sentinel, .sentinel, .sentinel, .sentinel, .sentinel, .pinned], laidTests := true, laidLooks := .later }
def NatFormsUptoCardSaid : Prop := Claim7.holds Tryz.pinned (.plain (OpenSpec.upto natFormsSpec)) natFormsUptoCard

/-- THE SECOND FORM's CARD OF 'ostiarylaw03.NatPowers'. -/
def natPowersUptoCard : Claim7 := { stood := { row := natPowersUptoRow, standIns := [], harness := (true, "b8c2953ac521cf7d9c8e18c29051c1d81a97f46e584bedcd313d7795423ff7f5"), looks := true }, kinds := [], alts := [], laidByText := true, laidKinds := [.data, .sentinel, .sentinel, .sentinel, .sentinel, .sentinel, .sentinel, .pinned], laidTests := true, laidLooks := .later }
def NatPowersUptoCardSaid : Prop := Claim7.holds Tryz.pinned (.plain (OpenSpec.upto natPowersSpec)) natPowersUptoCard

/-- THE SECOND FORM's CARD OF 'ostiarylaw03.NatInverses'. -/
def natInversesUptoCard : Claim7 := { stood := { row := natInversesUptoRow, standIns := [], harness := (true, "b8c2953ac521cf7d9c8e18c29051c1d81a97f46e584bedcd313d7795423ff7f5"), looks := true }, kinds := [], alts := [], laidByText := true, laidKinds := [.data, .sentinel, .sentinel, .sentinel, .sentinel, .sentinel, .sentinel, .pinned], laidTests := true, laidLooks := .later }
def NatInversesUptoCardSaid : Prop := Claim7.holds Tryz.pinned (.plain (OpenSpec.upto natInversesSpec)) natInversesUptoCard

/-- THE SECOND FORM's CARD OF 'ostiarylaw03.NatMonts'. -/
def natMontsUptoCard : Claim7 := { stood := { row := natMontsUptoRow, standIns := [], harness := (true, "b8c2953ac521cf7d9c8e18c29051c1d81a97f46e584bedcd313d7795423ff7f5"), looks := true }, kinds := [], alts := [], laidByText := true, laidKinds := [.data, .sentinel, .sentinel, .sentinel, .sentinel, .sentinel, .sentinel, .pinned], laidTests := true, laidLooks := .later }
def NatMontsUptoCardSaid : Prop := Claim7.holds Tryz.pinned (.plain (OpenSpec.upto natMontsSpec)) natMontsUptoCard
end Rows
end Go.Proofs.YtccbnpondlncpaaGreatDoor
