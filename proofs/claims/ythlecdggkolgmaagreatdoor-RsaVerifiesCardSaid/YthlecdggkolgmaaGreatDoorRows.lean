/-
  NARROWER THAN 'FOR EVERY INPUT', by the rows' own cells (each row's printed sentence says how): RsaFits: laid · RsaVerifies: laid.
  DERIVED. THE GIVEN ROWS OF THIS SEAT. 2 by the template 'for every input the law returns true; each argument reads behind the call as it read before'; 0 by the template 'total and deterministic' (their statements: YthlecdggkolgmaaGreatDoorTotals.lean).
  GIVEN WITH THE SEED: the statements are not yours to turn. If you find one false, say at which input.
  Laid BY PROGRAM, IN A SANDBOX (cutbox-rows.mjs): the forced cells as the released guide's own fill.sh prints them over the translation d8751274921fc377… (all of the seat's roots in one cut). By AI agents, Wed Nov 11 2026. No macro, syntax, notation, axiom, sorry.
-/
import Derived.Test.YthlecdggkolgmaaGreatDoorChecked
import GoSem.PinnedTables
import GoSem.Claim
import GoSem.ClaimJoined
import GoSem.ClaimMapViews
import Derived.JoinedTies
import Derived.KernelRfl
namespace Go.Proofs.YthlecdggkolgmaaGreatDoor
/- THE CELL 'sum', in the pinned program and in every row, IS THE sha256 OF THE DUMP (.gsa) THAT YthlecdggkolgmaaGreatDoorProg.lean LOADS. Nothing in Lean hashes anything: it is a label: what it is worth is what the hold of that sum in a sandbox is worth. -/
noncomputable def Tryz.pinned : Pinned := { name := "ythlecdggkolgmaagreatdoor", sum := "d8751274921fc377b36d354455206bdd6e2038ca730ad8c6a5ee4454e0ff11e7", checked := Tryz.checked }
namespace Rows
def none {H : Type} : Left H := { results := [], args := [] }

/- WHAT THE LISTED PACKAGE-LEVEL VARIABLES READ AS WHEN THE CALL BEGINS. Each datum BY PROGRAM (the guide's laid-datum.mjs) off the statement by which the dump's own 'gosem.cut.vars' lays the variable. In a bare row this is a premise. The card (YthlecdggkolgmaaGreatDoorCards.lean) ties it to the program's text. -/
def laid_unicode_utf8_acceptRanges {H : Type} : DataW H := .agg [.agg [.lit (.int .u8 128), .lit (.int .u8 191)], .agg [.lit (.int .u8 160), .lit (.int .u8 191)], .agg [.lit (.int .u8 128), .lit (.int .u8 159)], .agg [.lit (.int .u8 144), .lit (.int .u8 191)], .agg [.lit (.int .u8 128), .lit (.int .u8 143)], .agg [.lit (.int .u8 0), .lit (.int .u8 0)], .agg [.lit (.int .u8 0), .lit (.int .u8 0)], .agg [.lit (.int .u8 0), .lit (.int .u8 0)], .agg [.lit (.int .u8 0), .lit (.int .u8 0)], .agg [.lit (.int .u8 0), .lit (.int .u8 0)], .agg [.lit (.int .u8 0), .lit (.int .u8 0)], .agg [.lit (.int .u8 0), .lit (.int .u8 0)], .agg [.lit (.int .u8 0), .lit (.int .u8 0)], .agg [.lit (.int .u8 0), .lit (.int .u8 0)], .agg [.lit (.int .u8 0), .lit (.int .u8 0)], .agg [.lit (.int .u8 0), .lit (.int .u8 0)]]
def laid_ostiary_nat_errLong {H : Type} : DataW H := .iface "*errors.errorString" (.ptr (.agg [.lit (.string [110, 97, 116, 58, 32, 97, 32, 110, 117, 109, 98, 101, 114, 32, 111, 102, 32, 116, 111, 111, 32, 109, 97, 110, 121, 32, 98, 121, 116, 101, 115])]))
def laid_ostiary_nat_errZero {H : Type} : DataW H := .iface "*errors.errorString" (.ptr (.agg [.lit (.string [110, 97, 116, 58, 32, 100, 105, 118, 105, 115, 105, 111, 110, 32, 98, 121, 32, 48])]))
def laid_ostiary_nat_errBelow {H : Type} : DataW H := .iface "*errors.errorString" (.ptr (.agg [.lit (.string [110, 97, 116, 58, 32, 97, 32, 100, 105, 102, 102, 101, 114, 101, 110, 99, 101, 32, 98, 101, 108, 111, 119, 32, 48])]))
def laid_ostiary_nat_errNone {H : Type} : DataW H := .iface "*errors.errorString" (.ptr (.agg [.lit (.string [110, 97, 116, 58, 32, 110, 111, 32, 105, 110, 118, 101, 114, 115, 101])]))
def laid_ostiary_nat_errEven {H : Type} : DataW H := .iface "*errors.errorString" (.ptr (.agg [.lit (.string [110, 97, 116, 58, 32, 97, 110, 32, 101, 118, 101, 110, 32, 109, 111, 100, 117, 108, 117, 115])]))
def laid_ostiary_nat_errWide {H : Type} : DataW H := .iface "*errors.errorString" (.ptr (.agg [.lit (.string [110, 97, 116, 58, 32, 105, 116, 32, 100, 111, 101, 115, 32, 110, 111, 116, 32, 102, 105, 116, 32, 105, 110, 116, 111, 32, 115, 111, 32, 109, 97, 110, 121, 32, 98, 121, 116, 101, 115])]))
def laid_ostiary_rsa_errKey {H : Type} : DataW H := .iface "*errors.errorString" (.ptr (.agg [.lit (.string [114, 115, 97, 58, 32, 110, 111, 32, 107, 101, 121])]))
def laid_ostiary_rsa_errSize {H : Type} : DataW H := .iface "*errors.errorString" (.ptr (.agg [.lit (.string [114, 115, 97, 58, 32, 97, 32, 115, 105, 103, 110, 97, 116, 117, 114, 101, 32, 111, 102, 32, 97, 110, 111, 116, 104, 101, 114, 32, 115, 105, 122, 101, 44, 32, 111, 114, 32, 116, 111, 111, 32, 103, 114, 101, 97, 116])]))
def laid_ostiary_rsa_errBlock {H : Type} : DataW H := .iface "*errors.errorString" (.ptr (.agg [.lit (.string [114, 115, 97, 58, 32, 116, 104, 101, 32, 98, 108, 111, 99, 107, 32, 100, 111, 101, 115, 32, 110, 111, 116, 32, 102, 105, 116])]))
/-- One of Go's own tables, pinned by name: the form's constant. -/
def laid_unicode_utf8_first : DataW Unit := Go.Pinned.utf8First
def laid_ostiary_rsa_errScheme {H : Type} : DataW H := .iface "*errors.errorString" (.ptr (.agg [.lit (.string [114, 115, 97, 58, 32, 110, 111, 32, 115, 117, 99, 104, 32, 115, 99, 104, 101, 109, 101])]))

/-- 'ostiarylaw04.RsaFits': WHATEVER THE INPUT: true; the input reads as it did. -/
def rsaFitsSpec : ChangeSpec := { name := "rsaFits", fn := fun _ => fun
  | [d1, d2, d3] => { results := [.lit (.bool true)], args := [d1, d2, d3] }
  | _ => none }
def rsaFitsRow : OpenClaim := { program := "ythlecdggkolgmaagreatdoor", sum := "d8751274921fc377b36d354455206bdd6e2038ca730ad8c6a5ee4454e0ff11e7", func := "ostiary/ostiarylaw04.RsaFits", spec := "rsaFits", inPlace := ["internal/abi.NoEscape", "internal/bytealg.MakeNoZero", "internal/reflectlite.TypeOf", "internal/bytealg.IndexByteString", "internal/bytealg.IndexString", "internal/bytealg.abigen_runtime_cmpstring"], unfollowed := true, recurses := true, named := ["ostiary/rsa.errBlock", "ostiary/rsa.errKey", "ostiary/rsa.errSize", "unicode/utf8.first", "unicode/utf8.acceptRanges", "ostiary/nat.errLong", "ostiary/nat.errZero", "ostiary/nat.errBelow", "ostiary/nat.errNone", "ostiary/nat.errEven", "ostiary/nat.errWide", "internal/bytealg.MaxLen"], apart := false, laid := [("unicode/utf8.acceptRanges", laid_unicode_utf8_acceptRanges), ("ostiary/nat.errLong", laid_ostiary_nat_errLong), ("ostiary/nat.errZero", laid_ostiary_nat_errZero), ("ostiary/nat.errBelow", laid_ostiary_nat_errBelow), ("ostiary/nat.errNone", laid_ostiary_nat_errNone), ("ostiary/nat.errEven", laid_ostiary_nat_errEven), ("ostiary/nat.errWide", laid_ostiary_nat_errWide), ("ostiary/rsa.errKey", laid_ostiary_rsa_errKey), ("ostiary/rsa.errSize", laid_ostiary_rsa_errSize), ("ostiary/rsa.errBlock", laid_ostiary_rsa_errBlock), ("unicode/utf8.first", laid_unicode_utf8_first)] }
def RsaFitsSaid : Prop := rsaFitsRow.holds Tryz.pinned (OpenSpec.ofChange rsaFitsSpec)

/-- ITS FALSE NEIGHBOUR: 'it returns false'. Refute it at one input. -/
def rsaFitsWrong : ChangeSpec := { name := "rsaFits", fn := fun _ => fun
  | [d1, d2, d3] => { results := [.lit (.bool false)], args := [d1, d2, d3] }
  | _ => none }
def RsaFitsWrongFalsely : Prop := rsaFitsRow.holds Tryz.pinned (OpenSpec.ofChange rsaFitsWrong)

/-- 'ostiarylaw04.RsaVerifies': WHATEVER THE INPUT: true; the input reads as it did. -/
def rsaVerifiesSpec : ChangeSpec := { name := "rsaVerifies", fn := fun _ => fun
  | [d1, d2] => { results := [.lit (.bool true)], args := [d1, d2] }
  | _ => none }
def rsaVerifiesRow : OpenClaim := { program := "ythlecdggkolgmaagreatdoor", sum := "d8751274921fc377b36d354455206bdd6e2038ca730ad8c6a5ee4454e0ff11e7", func := "ostiary/ostiarylaw04.RsaVerifies", spec := "rsaVerifies", inPlace := ["internal/abi.NoEscape", "internal/bytealg.MakeNoZero", "internal/bytealg.IndexByteString", "internal/bytealg.IndexString", "internal/reflectlite.TypeOf", "internal/bytealg.abigen_runtime_cmpstring"], unfollowed := true, recurses := true, named := ["ostiary/rsa.errScheme", "ostiary/rsa.errBlock", "unicode/utf8.first", "unicode/utf8.acceptRanges", "ostiary/nat.errWide", "ostiary/nat.errLong", "ostiary/nat.errZero", "ostiary/nat.errBelow", "ostiary/nat.errNone", "ostiary/nat.errEven", "ostiary/rsa.errSize", "ostiary/rsa.errKey", "internal/bytealg.MaxLen"], apart := false, laid := [("unicode/utf8.acceptRanges", laid_unicode_utf8_acceptRanges), ("ostiary/nat.errLong", laid_ostiary_nat_errLong), ("ostiary/nat.errZero", laid_ostiary_nat_errZero), ("ostiary/nat.errBelow", laid_ostiary_nat_errBelow), ("ostiary/nat.errNone", laid_ostiary_nat_errNone), ("ostiary/nat.errEven", laid_ostiary_nat_errEven), ("ostiary/nat.errWide", laid_ostiary_nat_errWide), ("ostiary/rsa.errKey", laid_ostiary_rsa_errKey), ("ostiary/rsa.errSize", laid_ostiary_rsa_errSize), ("ostiary/rsa.errBlock", laid_ostiary_rsa_errBlock), ("ostiary/rsa.errScheme", laid_ostiary_rsa_errScheme), ("unicode/utf8.first", laid_unicode_utf8_first)] }
def RsaVerifiesSaid : Prop := rsaVerifiesRow.holds Tryz.pinned (OpenSpec.ofChange rsaVerifiesSpec)

/-- ITS FALSE NEIGHBOUR: 'it returns false'. Refute it at one input. -/
def rsaVerifiesWrong : ChangeSpec := { name := "rsaVerifies", fn := fun _ => fun
  | [d1, d2] => { results := [.lit (.bool false)], args := [d1, d2] }
  | _ => none }
def RsaVerifiesWrongFalsely : Prop := rsaVerifiesRow.holds Tryz.pinned (OpenSpec.ofChange rsaVerifiesWrong)

/- THE SECOND FORM. 'bulk': how many values and letters a reading holds, each counted each time it is reached (what is shared counts as often as it is met; a slice's spare places count too). A statement '..UptoSaid' is the law's where the arguments, and the package variables that the reading takes, are together of bulk at most 1048576: NARROWER than '..Said'. Prove '..Said' where nothing that the law and all that it calls make is longer than what came in: it says more and counts as full. Else prove '..UptoSaid'. A law counts once. -/
mutual
def uptoBulk {H : Type} : DataW H → Nat
  | .lit (.string bytes) => bytes.length + 1
  | .lit _ => 1
  | .nil => 1
  | .ptr d => uptoBulk d + 1
  | .slice elems spare => uptoBulkAll elems + uptoBulkAll spare + 1
  | .agg parts => uptoBulkAll parts + 1
  | .iface _ d => uptoBulk d + 1
  | .map entries => uptoBulkEntries entries + 1
  | .held _ => 1
def uptoBulkAll {H : Type} : List (DataW H) → Nat
  | [] => 0
  | d :: r => uptoBulk d + uptoBulkAll r
def uptoBulkEntries {H : Type} : List (Lit × DataW H) → Nat
  | [] => 0
  | x :: r => uptoBulkEntry x + uptoBulkEntries r
def uptoBulkEntry {H : Type} : Lit × DataW H → Nat
  | (.string bytes, d) => bytes.length + uptoBulk d + 1
  | (_, d) => uptoBulk d + 1
 end
def uptoSmall : (H : Type) → List (DataW H) → Bool := fun _ ds => decide (uptoBulkAll ds ≤ 1048576)
def OpenSpec.upto (s : _root_.Go.ChangeSpec) : _root_.Go.OpenSpec := { _root_.Go.OpenSpec.ofChange s with cond := some uptoSmall }

/-- 'ostiarylaw04.RsaFits', WHERE WHAT IT READS IS OF BULK AT MOST 1048576: true; the input reads as it did. -/
def rsaFitsUptoRow : OpenClaim := { program := "ythlecdggkolgmaagreatdoor", sum := "d8751274921fc377b36d354455206bdd6e2038ca730ad8c6a5ee4454e0ff11e7", func := "ostiary/ostiarylaw04.RsaFits", spec := "rsaFits", inPlace := ["internal/abi.NoEscape", "internal/bytealg.MakeNoZero", "internal/reflectlite.TypeOf", "internal/bytealg.IndexByteString", "internal/bytealg.IndexString", "internal/bytealg.abigen_runtime_cmpstring"], unfollowed := true, recurses := true, named := ["ostiary/rsa.errBlock", "ostiary/rsa.errKey", "ostiary/rsa.errSize", "unicode/utf8.first", "unicode/utf8.acceptRanges", "ostiary/nat.errLong", "ostiary/nat.errZero", "ostiary/nat.errBelow", "ostiary/nat.errNone", "ostiary/nat.errEven", "ostiary/nat.errWide", "internal/bytealg.MaxLen"], apart := false, laid := [("unicode/utf8.acceptRanges", laid_unicode_utf8_acceptRanges), ("ostiary/nat.errLong", laid_ostiary_nat_errLong), ("ostiary/nat.errZero", laid_ostiary_nat_errZero), ("ostiary/nat.errBelow", laid_ostiary_nat_errBelow), ("ostiary/nat.errNone", laid_ostiary_nat_errNone), ("ostiary/nat.errEven", laid_ostiary_nat_errEven), ("ostiary/nat.errWide", laid_ostiary_nat_errWide), ("ostiary/rsa.errKey", laid_ostiary_rsa_errKey), ("ostiary/rsa.errSize", laid_ostiary_rsa_errSize), ("ostiary/rsa.errBlock", laid_ostiary_rsa_errBlock), ("unicode/utf8.first", laid_unicode_utf8_first)], narrowed := true }
def RsaFitsUptoSaid : Prop := rsaFitsUptoRow.holds Tryz.pinned (OpenSpec.upto rsaFitsSpec)

/-- 'ostiarylaw04.RsaVerifies', WHERE WHAT IT READS IS OF BULK AT MOST 1048576: true; the input reads as it did. -/
def rsaVerifiesUptoRow : OpenClaim := { program := "ythlecdggkolgmaagreatdoor", sum := "d8751274921fc377b36d354455206bdd6e2038ca730ad8c6a5ee4454e0ff11e7", func := "ostiary/ostiarylaw04.RsaVerifies", spec := "rsaVerifies", inPlace := ["internal/abi.NoEscape", "internal/bytealg.MakeNoZero", "internal/bytealg.IndexByteString", "internal/bytealg.IndexString", "internal/reflectlite.TypeOf", "internal/bytealg.abigen_runtime_cmpstring"], unfollowed := true, recurses := true, named := ["ostiary/rsa.errScheme", "ostiary/rsa.errBlock", "unicode/utf8.first", "unicode/utf8.acceptRanges", "ostiary/nat.errWide", "ostiary/nat.errLong", "ostiary/nat.errZero", "ostiary/nat.errBelow", "ostiary/nat.errNone", "ostiary/nat.errEven", "ostiary/rsa.errSize", "ostiary/rsa.errKey", "internal/bytealg.MaxLen"], apart := false, laid := [("unicode/utf8.acceptRanges", laid_unicode_utf8_acceptRanges), ("ostiary/nat.errLong", laid_ostiary_nat_errLong), ("ostiary/nat.errZero", laid_ostiary_nat_errZero), ("ostiary/nat.errBelow", laid_ostiary_nat_errBelow), ("ostiary/nat.errNone", laid_ostiary_nat_errNone), ("ostiary/nat.errEven", laid_ostiary_nat_errEven), ("ostiary/nat.errWide", laid_ostiary_nat_errWide), ("ostiary/rsa.errKey", laid_ostiary_rsa_errKey), ("ostiary/rsa.errSize", laid_ostiary_rsa_errSize), ("ostiary/rsa.errBlock", laid_ostiary_rsa_errBlock), ("ostiary/rsa.errScheme", laid_ostiary_rsa_errScheme), ("unicode/utf8.first", laid_unicode_utf8_first)], narrowed := true }
def RsaVerifiesUptoSaid : Prop := rsaVerifiesUptoRow.holds Tryz.pinned (OpenSpec.upto rsaVerifiesSpec)

end Rows
end Go.Proofs.YthlecdggkolgmaaGreatDoor
