/-
  NARROWER THAN 'FOR EVERY INPUT', by the rows' own cells (each row's printed sentence says how): RsaKeys: laid · RsaOpens: laid · RsaBlocks: laid · RsaFits: laid · RsaVerifies: laid · RsaOnce: laid · RsaPss: laid · RsaRound: laid · RsaMasks: laid.
  DERIVED. THE GIVEN ROWS OF THIS SEAT. 9 by the template 'for every input the law returns true; each argument reads behind the call as it read before'; 0 by the template 'total and deterministic' (their statements: YtfbliccblippiaaGreatDoorTotals.lean).
  GIVEN WITH THE SEED: the statements are not yours to turn. If you find one false, say at which input.
  Laid BY PROGRAM, IN A SANDBOX (cutbox-rows.mjs): the forced cells as the released guide's own fill.sh prints them over the translation 64c8ba6d5b968e2c… (all of the seat's roots in one cut). By AI agents, Wed Nov 11 2026. No macro, syntax, notation, axiom, sorry.
-/
import Derived.Test.YtfbliccblippiaaGreatDoorChecked
import GoSem.PinnedTables
import GoSem.Claim
import GoSem.ClaimJoined
import GoSem.ClaimMapViews
import Derived.JoinedTies
import Derived.KernelRfl
namespace Go.Proofs.YtfbliccblippiaaGreatDoor
/- THE CELL 'sum', in the pinned program and in every row, IS THE sha256 OF THE DUMP (.gsa) THAT YtfbliccblippiaaGreatDoorProg.lean LOADS. Nothing in Lean hashes anything: it is a label: what it is worth is what the hold of that sum in a sandbox is worth. -/
noncomputable def Tryz.pinned : Pinned := { name := "ytfbliccblippiaagreatdoor", sum := "64c8ba6d5b968e2c6a1c7c53e193bc610923a32368bde6b1270fb2f01fe089fd", checked := Tryz.checked }
namespace Rows
def none {H : Type} : Left H := { results := [], args := [] }

/- WHAT THE LISTED PACKAGE-LEVEL VARIABLES READ AS WHEN THE CALL BEGINS. Each datum BY PROGRAM (the guide's laid-datum.mjs) off the statement by which the dump's own 'gosem.cut.vars' lays the variable. In a bare row this is a premise. The card (YtfbliccblippiaaGreatDoorCards.lean) ties it to the program's text. -/
def laid_unicode_utf8_acceptRanges {H : Type} : DataW H := .agg [.agg [.lit (.int .u8 128), .lit (.int .u8 191)], .agg [.lit (.int .u8 160), .lit (.int .u8 191)], .agg [.lit (.int .u8 128), .lit (.int .u8 159)], .agg [.lit (.int .u8 144), .lit (.int .u8 191)], .agg [.lit (.int .u8 128), .lit (.int .u8 143)], .agg [.lit (.int .u8 0), .lit (.int .u8 0)], .agg [.lit (.int .u8 0), .lit (.int .u8 0)], .agg [.lit (.int .u8 0), .lit (.int .u8 0)], .agg [.lit (.int .u8 0), .lit (.int .u8 0)], .agg [.lit (.int .u8 0), .lit (.int .u8 0)], .agg [.lit (.int .u8 0), .lit (.int .u8 0)], .agg [.lit (.int .u8 0), .lit (.int .u8 0)], .agg [.lit (.int .u8 0), .lit (.int .u8 0)], .agg [.lit (.int .u8 0), .lit (.int .u8 0)], .agg [.lit (.int .u8 0), .lit (.int .u8 0)], .agg [.lit (.int .u8 0), .lit (.int .u8 0)]]
def laid_ostiary_nat_errLong {H : Type} : DataW H := .iface "*errors.errorString" (.ptr (.agg [.lit (.string [110, 97, 116, 58, 32, 97, 32, 110, 117, 109, 98, 101, 114, 32, 111, 102, 32, 116, 111, 111, 32, 109, 97, 110, 121, 32, 98, 121, 116, 101, 115])]))
def laid_ostiary_nat_errZero {H : Type} : DataW H := .iface "*errors.errorString" (.ptr (.agg [.lit (.string [110, 97, 116, 58, 32, 100, 105, 118, 105, 115, 105, 111, 110, 32, 98, 121, 32, 48])]))
def laid_ostiary_nat_errBelow {H : Type} : DataW H := .iface "*errors.errorString" (.ptr (.agg [.lit (.string [110, 97, 116, 58, 32, 97, 32, 100, 105, 102, 102, 101, 114, 101, 110, 99, 101, 32, 98, 101, 108, 111, 119, 32, 48])]))
def laid_ostiary_nat_errNone {H : Type} : DataW H := .iface "*errors.errorString" (.ptr (.agg [.lit (.string [110, 97, 116, 58, 32, 110, 111, 32, 105, 110, 118, 101, 114, 115, 101])]))
def laid_ostiary_nat_errEven {H : Type} : DataW H := .iface "*errors.errorString" (.ptr (.agg [.lit (.string [110, 97, 116, 58, 32, 97, 110, 32, 101, 118, 101, 110, 32, 109, 111, 100, 117, 108, 117, 115])]))
def laid_ostiary_nat_errWide {H : Type} : DataW H := .iface "*errors.errorString" (.ptr (.agg [.lit (.string [110, 97, 116, 58, 32, 105, 116, 32, 100, 111, 101, 115, 32, 110, 111, 116, 32, 102, 105, 116, 32, 105, 110, 116, 111, 32, 115, 111, 32, 109, 97, 110, 121, 32, 98, 121, 116, 101, 115])]))
def laid_ostiary_rsa_errKey {H : Type} : DataW H := .iface "*errors.errorString" (.ptr (.agg [.lit (.string [114, 115, 97, 58, 32, 110, 111, 32, 107, 101, 121])]))
def laid_ostiary_rsa_errSize {H : Type} : DataW H := .iface "*errors.errorString" (.ptr (.agg [.lit (.string [114, 115, 97, 58, 32, 97, 32, 115, 105, 103, 110, 97, 116, 117, 114, 101, 32, 111, 102, 32, 97, 110, 111, 116, 104, 101, 114, 32, 115, 105, 122, 101, 44, 32, 111, 114, 32, 116, 111, 111, 32, 103, 114, 101, 97, 116])]))
def laid_ostiary_rsa_errBlock {H : Type} : DataW H := .iface "*errors.errorString" (.ptr (.agg [.lit (.string [114, 115, 97, 58, 32, 116, 104, 101, 32, 98, 108, 111, 99, 107, 32, 100, 111, 101, 115, 32, 110, 111, 116, 32, 102, 105, 116])]))
/-- One of Go's own tables, pinned by name: the form's constant. -/
def laid_unicode_utf8_first : DataW Unit := Go.Pinned.utf8First
def laid_ostiary_rsa_errScheme {H : Type} : DataW H := .iface "*errors.errorString" (.ptr (.agg [.lit (.string [114, 115, 97, 58, 32, 110, 111, 32, 115, 117, 99, 104, 32, 115, 99, 104, 101, 109, 101])]))

/-- 'ostiarylaw04.RsaKeys': WHATEVER THE INPUT: true; the input reads as it did. -/
def rsaKeysSpec : ChangeSpec := { name := "rsaKeys", fn := fun _ => fun
  | [d] => { results := [.lit (.bool true)], args := [d] }
  | _ => none }
def rsaKeysRow : OpenClaim := { program := "ytfbliccblippiaagreatdoor", sum := "64c8ba6d5b968e2c6a1c7c53e193bc610923a32368bde6b1270fb2f01fe089fd", func := "ostiary/ostiarylaw04.RsaKeys", spec := "rsaKeys", inPlace := ["internal/bytealg.IndexByteString", "internal/bytealg.IndexString", "internal/reflectlite.TypeOf", "internal/abi.NoEscape", "internal/bytealg.MakeNoZero", "internal/bytealg.abigen_runtime_cmpstring"], unfollowed := true, recurses := true, named := ["ostiary/rsa.errKey", "unicode/utf8.first", "unicode/utf8.acceptRanges", "ostiary/rsa.errSize", "ostiary/rsa.errBlock", "ostiary/nat.errLong", "ostiary/nat.errZero", "ostiary/nat.errBelow", "ostiary/nat.errNone", "ostiary/nat.errEven", "ostiary/nat.errWide", "internal/bytealg.MaxLen"], apart := false, laid := [("unicode/utf8.acceptRanges", laid_unicode_utf8_acceptRanges), ("ostiary/nat.errLong", laid_ostiary_nat_errLong), ("ostiary/nat.errZero", laid_ostiary_nat_errZero), ("ostiary/nat.errBelow", laid_ostiary_nat_errBelow), ("ostiary/nat.errNone", laid_ostiary_nat_errNone), ("ostiary/nat.errEven", laid_ostiary_nat_errEven), ("ostiary/nat.errWide", laid_ostiary_nat_errWide), ("ostiary/rsa.errKey", laid_ostiary_rsa_errKey), ("ostiary/rsa.errSize", laid_ostiary_rsa_errSize), ("ostiary/rsa.errBlock", laid_ostiary_rsa_errBlock), ("unicode/utf8.first", laid_unicode_utf8_first)] }
def RsaKeysSaid : Prop := rsaKeysRow.holds Tryz.pinned (OpenSpec.ofChange rsaKeysSpec)

/-- ITS FALSE NEIGHBOUR: 'it returns false'. Refute it at one input. -/
def rsaKeysWrong : ChangeSpec := { name := "rsaKeys", fn := fun _ => fun
  | [d] => { results := [.lit (.bool false)], args := [d] }
  | _ => none }
def RsaKeysWrongFalsely : Prop := rsaKeysRow.holds Tryz.pinned (OpenSpec.ofChange rsaKeysWrong)

/-- 'ostiarylaw04.RsaOpens': WHATEVER THE INPUT: true; the input reads as it did. -/
def rsaOpensSpec : ChangeSpec := { name := "rsaOpens", fn := fun _ => fun
  | [d1, d2] => { results := [.lit (.bool true)], args := [d1, d2] }
  | _ => none }
def rsaOpensRow : OpenClaim := { program := "ytfbliccblippiaagreatdoor", sum := "64c8ba6d5b968e2c6a1c7c53e193bc610923a32368bde6b1270fb2f01fe089fd", func := "ostiary/ostiarylaw04.RsaOpens", spec := "rsaOpens", inPlace := ["internal/bytealg.IndexByteString", "internal/bytealg.IndexString", "internal/bytealg.abigen_runtime_cmpstring", "internal/reflectlite.TypeOf", "internal/abi.NoEscape", "internal/bytealg.MakeNoZero"], unfollowed := true, recurses := true, named := ["ostiary/rsa.errSize", "ostiary/rsa.errKey", "unicode/utf8.first", "unicode/utf8.acceptRanges", "ostiary/nat.errLong", "ostiary/nat.errZero", "ostiary/nat.errBelow", "ostiary/nat.errNone", "ostiary/nat.errEven", "ostiary/nat.errWide", "ostiary/rsa.errBlock", "internal/bytealg.MaxLen"], apart := false, laid := [("unicode/utf8.acceptRanges", laid_unicode_utf8_acceptRanges), ("ostiary/nat.errLong", laid_ostiary_nat_errLong), ("ostiary/nat.errZero", laid_ostiary_nat_errZero), ("ostiary/nat.errBelow", laid_ostiary_nat_errBelow), ("ostiary/nat.errNone", laid_ostiary_nat_errNone), ("ostiary/nat.errEven", laid_ostiary_nat_errEven), ("ostiary/nat.errWide", laid_ostiary_nat_errWide), ("ostiary/rsa.errKey", laid_ostiary_rsa_errKey), ("ostiary/rsa.errSize", laid_ostiary_rsa_errSize), ("ostiary/rsa.errBlock", laid_ostiary_rsa_errBlock), ("unicode/utf8.first", laid_unicode_utf8_first)] }
def RsaOpensSaid : Prop := rsaOpensRow.holds Tryz.pinned (OpenSpec.ofChange rsaOpensSpec)

/-- ITS FALSE NEIGHBOUR: 'it returns false'. Refute it at one input. -/
def rsaOpensWrong : ChangeSpec := { name := "rsaOpens", fn := fun _ => fun
  | [d1, d2] => { results := [.lit (.bool false)], args := [d1, d2] }
  | _ => none }
def RsaOpensWrongFalsely : Prop := rsaOpensRow.holds Tryz.pinned (OpenSpec.ofChange rsaOpensWrong)

/-- 'ostiarylaw04.RsaBlocks': WHATEVER THE INPUT: true; the input reads as it did. -/
def rsaBlocksSpec : ChangeSpec := { name := "rsaBlocks", fn := fun _ => fun
  | [d1, d2] => { results := [.lit (.bool true)], args := [d1, d2] }
  | _ => none }
def rsaBlocksRow : OpenClaim := { program := "ytfbliccblippiaagreatdoor", sum := "64c8ba6d5b968e2c6a1c7c53e193bc610923a32368bde6b1270fb2f01fe089fd", func := "ostiary/ostiarylaw04.RsaBlocks", spec := "rsaBlocks", inPlace := ["internal/abi.NoEscape", "internal/bytealg.MakeNoZero", "internal/reflectlite.TypeOf", "internal/bytealg.IndexByteString", "internal/bytealg.IndexString", "internal/bytealg.abigen_runtime_cmpstring"], unfollowed := true, recurses := true, named := ["ostiary/rsa.errBlock", "ostiary/rsa.errKey", "ostiary/rsa.errSize", "unicode/utf8.first", "unicode/utf8.acceptRanges", "ostiary/nat.errLong", "ostiary/nat.errZero", "ostiary/nat.errBelow", "ostiary/nat.errNone", "ostiary/nat.errEven", "ostiary/nat.errWide", "internal/bytealg.MaxLen"], apart := false, laid := [("unicode/utf8.acceptRanges", laid_unicode_utf8_acceptRanges), ("ostiary/nat.errLong", laid_ostiary_nat_errLong), ("ostiary/nat.errZero", laid_ostiary_nat_errZero), ("ostiary/nat.errBelow", laid_ostiary_nat_errBelow), ("ostiary/nat.errNone", laid_ostiary_nat_errNone), ("ostiary/nat.errEven", laid_ostiary_nat_errEven), ("ostiary/nat.errWide", laid_ostiary_nat_errWide), ("ostiary/rsa.errKey", laid_ostiary_rsa_errKey), ("ostiary/rsa.errSize", laid_ostiary_rsa_errSize), ("ostiary/rsa.errBlock", laid_ostiary_rsa_errBlock), ("unicode/utf8.first", laid_unicode_utf8_first)] }
def RsaBlocksSaid : Prop := rsaBlocksRow.holds Tryz.pinned (OpenSpec.ofChange rsaBlocksSpec)

/-- ITS FALSE NEIGHBOUR: 'it returns false'. Refute it at one input. -/
def rsaBlocksWrong : ChangeSpec := { name := "rsaBlocks", fn := fun _ => fun
  | [d1, d2] => { results := [.lit (.bool false)], args := [d1, d2] }
  | _ => none }
def RsaBlocksWrongFalsely : Prop := rsaBlocksRow.holds Tryz.pinned (OpenSpec.ofChange rsaBlocksWrong)

/-- 'ostiarylaw04.RsaFits': WHATEVER THE INPUT: true; the input reads as it did. -/
def rsaFitsSpec : ChangeSpec := { name := "rsaFits", fn := fun _ => fun
  | [d1, d2, d3] => { results := [.lit (.bool true)], args := [d1, d2, d3] }
  | _ => none }
def rsaFitsRow : OpenClaim := { program := "ytfbliccblippiaagreatdoor", sum := "64c8ba6d5b968e2c6a1c7c53e193bc610923a32368bde6b1270fb2f01fe089fd", func := "ostiary/ostiarylaw04.RsaFits", spec := "rsaFits", inPlace := ["internal/abi.NoEscape", "internal/bytealg.MakeNoZero", "internal/reflectlite.TypeOf", "internal/bytealg.IndexByteString", "internal/bytealg.IndexString", "internal/bytealg.abigen_runtime_cmpstring"], unfollowed := true, recurses := true, named := ["ostiary/rsa.errBlock", "ostiary/rsa.errKey", "ostiary/rsa.errSize", "unicode/utf8.first", "unicode/utf8.acceptRanges", "ostiary/nat.errLong", "ostiary/nat.errZero", "ostiary/nat.errBelow", "ostiary/nat.errNone", "ostiary/nat.errEven", "ostiary/nat.errWide", "internal/bytealg.MaxLen"], apart := false, laid := [("unicode/utf8.acceptRanges", laid_unicode_utf8_acceptRanges), ("ostiary/nat.errLong", laid_ostiary_nat_errLong), ("ostiary/nat.errZero", laid_ostiary_nat_errZero), ("ostiary/nat.errBelow", laid_ostiary_nat_errBelow), ("ostiary/nat.errNone", laid_ostiary_nat_errNone), ("ostiary/nat.errEven", laid_ostiary_nat_errEven), ("ostiary/nat.errWide", laid_ostiary_nat_errWide), ("ostiary/rsa.errKey", laid_ostiary_rsa_errKey), ("ostiary/rsa.errSize", laid_ostiary_rsa_errSize), ("ostiary/rsa.errBlock", laid_ostiary_rsa_errBlock), ("unicode/utf8.first", laid_unicode_utf8_first)] }
def RsaFitsSaid : Prop := rsaFitsRow.holds Tryz.pinned (OpenSpec.ofChange rsaFitsSpec)

/-- ITS FALSE NEIGHBOUR: 'it returns false'. Refute it at one input. -/
def rsaFitsWrong : ChangeSpec := { name := "rsaFits", fn := fun _ => fun
  | [d1, d2, d3] => { results := [.lit (.bool false)], args := [d1, d2, d3] }
  | _ => none }
def RsaFitsWrongFalsely : Prop := rsaFitsRow.holds Tryz.pinned (OpenSpec.ofChange rsaFitsWrong)

/-- 'ostiarylaw04.RsaVerifies': WHATEVER THE INPUT: true; the input reads as it did. -/
def rsaVerifiesSpec : ChangeSpec := { name := "rsaVerifies", fn := fun _ => fun
  | [d1, d2] => { results := [.lit (.bool true)], args := [d1, d2] }
  | _ => none }
def rsaVerifiesRow : OpenClaim := { program := "ytfbliccblippiaagreatdoor", sum := "64c8ba6d5b968e2c6a1c7c53e193bc610923a32368bde6b1270fb2f01fe089fd", func := "ostiary/ostiarylaw04.RsaVerifies", spec := "rsaVerifies", inPlace := ["internal/abi.NoEscape", "internal/bytealg.MakeNoZero", "internal/bytealg.IndexByteString", "internal/bytealg.IndexString", "internal/reflectlite.TypeOf", "internal/bytealg.abigen_runtime_cmpstring"], unfollowed := true, recurses := true, named := ["ostiary/rsa.errScheme", "ostiary/rsa.errBlock", "unicode/utf8.first", "unicode/utf8.acceptRanges", "ostiary/nat.errWide", "ostiary/nat.errLong", "ostiary/nat.errZero", "ostiary/nat.errBelow", "ostiary/nat.errNone", "ostiary/nat.errEven", "ostiary/rsa.errSize", "ostiary/rsa.errKey", "internal/bytealg.MaxLen"], apart := false, laid := [("unicode/utf8.acceptRanges", laid_unicode_utf8_acceptRanges), ("ostiary/nat.errLong", laid_ostiary_nat_errLong), ("ostiary/nat.errZero", laid_ostiary_nat_errZero), ("ostiary/nat.errBelow", laid_ostiary_nat_errBelow), ("ostiary/nat.errNone", laid_ostiary_nat_errNone), ("ostiary/nat.errEven", laid_ostiary_nat_errEven), ("ostiary/nat.errWide", laid_ostiary_nat_errWide), ("ostiary/rsa.errKey", laid_ostiary_rsa_errKey), ("ostiary/rsa.errSize", laid_ostiary_rsa_errSize), ("ostiary/rsa.errBlock", laid_ostiary_rsa_errBlock), ("ostiary/rsa.errScheme", laid_ostiary_rsa_errScheme), ("unicode/utf8.first", laid_unicode_utf8_first)] }
def RsaVerifiesSaid : Prop := rsaVerifiesRow.holds Tryz.pinned (OpenSpec.ofChange rsaVerifiesSpec)

/-- ITS FALSE NEIGHBOUR: 'it returns false'. Refute it at one input. -/
def rsaVerifiesWrong : ChangeSpec := { name := "rsaVerifies", fn := fun _ => fun
  | [d1, d2] => { results := [.lit (.bool false)], args := [d1, d2] }
  | _ => none }
def RsaVerifiesWrongFalsely : Prop := rsaVerifiesRow.holds Tryz.pinned (OpenSpec.ofChange rsaVerifiesWrong)

/-- 'ostiarylaw04.RsaOnce': WHATEVER THE INPUT: true; the input reads as it did. -/
def rsaOnceSpec : ChangeSpec := { name := "rsaOnce", fn := fun _ => fun
  | [d1, d2, d3] => { results := [.lit (.bool true)], args := [d1, d2, d3] }
  | _ => none }
def rsaOnceRow : OpenClaim := { program := "ytfbliccblippiaagreatdoor", sum := "64c8ba6d5b968e2c6a1c7c53e193bc610923a32368bde6b1270fb2f01fe089fd", func := "ostiary/ostiarylaw04.RsaOnce", spec := "rsaOnce", inPlace := ["internal/abi.NoEscape", "internal/bytealg.MakeNoZero", "internal/reflectlite.TypeOf", "internal/bytealg.IndexByteString", "internal/bytealg.IndexString", "internal/bytealg.abigen_runtime_cmpstring"], unfollowed := true, recurses := true, named := ["ostiary/rsa.errBlock", "ostiary/rsa.errKey", "ostiary/rsa.errSize", "ostiary/nat.errLong", "ostiary/nat.errZero", "ostiary/nat.errBelow", "ostiary/nat.errNone", "ostiary/nat.errEven", "ostiary/nat.errWide", "unicode/utf8.first", "unicode/utf8.acceptRanges", "ostiary/rsa.errScheme", "internal/bytealg.MaxLen"], apart := false, laid := [("unicode/utf8.acceptRanges", laid_unicode_utf8_acceptRanges), ("ostiary/nat.errLong", laid_ostiary_nat_errLong), ("ostiary/nat.errZero", laid_ostiary_nat_errZero), ("ostiary/nat.errBelow", laid_ostiary_nat_errBelow), ("ostiary/nat.errNone", laid_ostiary_nat_errNone), ("ostiary/nat.errEven", laid_ostiary_nat_errEven), ("ostiary/nat.errWide", laid_ostiary_nat_errWide), ("ostiary/rsa.errKey", laid_ostiary_rsa_errKey), ("ostiary/rsa.errSize", laid_ostiary_rsa_errSize), ("ostiary/rsa.errBlock", laid_ostiary_rsa_errBlock), ("ostiary/rsa.errScheme", laid_ostiary_rsa_errScheme), ("unicode/utf8.first", laid_unicode_utf8_first)] }
def RsaOnceSaid : Prop := rsaOnceRow.holds Tryz.pinned (OpenSpec.ofChange rsaOnceSpec)

/-- ITS FALSE NEIGHBOUR: 'it returns false'. Refute it at one input. -/
def rsaOnceWrong : ChangeSpec := { name := "rsaOnce", fn := fun _ => fun
  | [d1, d2, d3] => { results := [.lit (.bool false)], args := [d1, d2, d3] }
  | _ => none }
def RsaOnceWrongFalsely : Prop := rsaOnceRow.holds Tryz.pinned (OpenSpec.ofChange rsaOnceWrong)

/-- 'ostiarylaw04.RsaPss': WHATEVER THE INPUT: true; the input reads as it did. -/
def rsaPssSpec : ChangeSpec := { name := "rsaPss", fn := fun _ => fun
  | [d1, d2, d3] => { results := [.lit (.bool true)], args := [d1, d2, d3] }
  | _ => none }
def rsaPssRow : OpenClaim := { program := "ytfbliccblippiaagreatdoor", sum := "64c8ba6d5b968e2c6a1c7c53e193bc610923a32368bde6b1270fb2f01fe089fd", func := "ostiary/ostiarylaw04.RsaPss", spec := "rsaPss", inPlace := ["internal/bytealg.IndexByteString", "internal/bytealg.IndexString", "internal/abi.NoEscape", "internal/bytealg.MakeNoZero", "internal/reflectlite.TypeOf", "internal/bytealg.abigen_runtime_cmpstring"], unfollowed := true, recurses := true, named := ["unicode/utf8.first", "unicode/utf8.acceptRanges", "ostiary/rsa.errBlock", "ostiary/rsa.errKey", "ostiary/rsa.errSize", "ostiary/nat.errLong", "ostiary/nat.errZero", "ostiary/nat.errBelow", "ostiary/nat.errNone", "ostiary/nat.errEven", "ostiary/nat.errWide", "ostiary/rsa.errScheme", "internal/bytealg.MaxLen"], apart := false, laid := [("unicode/utf8.acceptRanges", laid_unicode_utf8_acceptRanges), ("ostiary/nat.errLong", laid_ostiary_nat_errLong), ("ostiary/nat.errZero", laid_ostiary_nat_errZero), ("ostiary/nat.errBelow", laid_ostiary_nat_errBelow), ("ostiary/nat.errNone", laid_ostiary_nat_errNone), ("ostiary/nat.errEven", laid_ostiary_nat_errEven), ("ostiary/nat.errWide", laid_ostiary_nat_errWide), ("ostiary/rsa.errKey", laid_ostiary_rsa_errKey), ("ostiary/rsa.errSize", laid_ostiary_rsa_errSize), ("ostiary/rsa.errBlock", laid_ostiary_rsa_errBlock), ("ostiary/rsa.errScheme", laid_ostiary_rsa_errScheme), ("unicode/utf8.first", laid_unicode_utf8_first)] }
def RsaPssSaid : Prop := rsaPssRow.holds Tryz.pinned (OpenSpec.ofChange rsaPssSpec)

/-- ITS FALSE NEIGHBOUR: 'it returns false'. Refute it at one input. -/
def rsaPssWrong : ChangeSpec := { name := "rsaPss", fn := fun _ => fun
  | [d1, d2, d3] => { results := [.lit (.bool false)], args := [d1, d2, d3] }
  | _ => none }
def RsaPssWrongFalsely : Prop := rsaPssRow.holds Tryz.pinned (OpenSpec.ofChange rsaPssWrong)

/-- 'ostiarylaw04.RsaRound': WHATEVER THE INPUT: true; the input reads as it did. -/
def rsaRoundSpec : ChangeSpec := { name := "rsaRound", fn := fun _ => fun
  | [d1, d2] => { results := [.lit (.bool true)], args := [d1, d2] }
  | _ => none }
def rsaRoundRow : OpenClaim := { program := "ytfbliccblippiaagreatdoor", sum := "64c8ba6d5b968e2c6a1c7c53e193bc610923a32368bde6b1270fb2f01fe089fd", func := "ostiary/ostiarylaw04.RsaRound", spec := "rsaRound", inPlace := ["internal/abi.NoEscape", "internal/bytealg.MakeNoZero", "internal/reflectlite.TypeOf", "internal/bytealg.IndexByteString", "internal/bytealg.IndexString", "internal/bytealg.abigen_runtime_cmpstring"], unfollowed := true, recurses := true, named := ["ostiary/rsa.errBlock", "ostiary/rsa.errKey", "ostiary/rsa.errSize", "unicode/utf8.first", "unicode/utf8.acceptRanges", "ostiary/nat.errLong", "ostiary/nat.errZero", "ostiary/nat.errBelow", "ostiary/nat.errNone", "ostiary/nat.errEven", "ostiary/nat.errWide", "internal/bytealg.MaxLen"], apart := false, laid := [("unicode/utf8.acceptRanges", laid_unicode_utf8_acceptRanges), ("ostiary/nat.errLong", laid_ostiary_nat_errLong), ("ostiary/nat.errZero", laid_ostiary_nat_errZero), ("ostiary/nat.errBelow", laid_ostiary_nat_errBelow), ("ostiary/nat.errNone", laid_ostiary_nat_errNone), ("ostiary/nat.errEven", laid_ostiary_nat_errEven), ("ostiary/nat.errWide", laid_ostiary_nat_errWide), ("ostiary/rsa.errKey", laid_ostiary_rsa_errKey), ("ostiary/rsa.errSize", laid_ostiary_rsa_errSize), ("ostiary/rsa.errBlock", laid_ostiary_rsa_errBlock), ("unicode/utf8.first", laid_unicode_utf8_first)] }
def RsaRoundSaid : Prop := rsaRoundRow.holds Tryz.pinned (OpenSpec.ofChange rsaRoundSpec)

/-- ITS FALSE NEIGHBOUR: 'it returns false'. Refute it at one input. -/
def rsaRoundWrong : ChangeSpec := { name := "rsaRound", fn := fun _ => fun
  | [d1, d2] => { results := [.lit (.bool false)], args := [d1, d2] }
  | _ => none }
def RsaRoundWrongFalsely : Prop := rsaRoundRow.holds Tryz.pinned (OpenSpec.ofChange rsaRoundWrong)

/-- 'ostiarylaw04.RsaMasks': WHATEVER THE INPUT: true; the input reads as it did. -/
def rsaMasksSpec : ChangeSpec := { name := "rsaMasks", fn := fun _ => fun
  | [d1, d2, d3] => { results := [.lit (.bool true)], args := [d1, d2, d3] }
  | _ => none }
def rsaMasksRow : OpenClaim := { program := "ytfbliccblippiaagreatdoor", sum := "64c8ba6d5b968e2c6a1c7c53e193bc610923a32368bde6b1270fb2f01fe089fd", func := "ostiary/ostiarylaw04.RsaMasks", spec := "rsaMasks", inPlace := ["internal/abi.NoEscape", "internal/bytealg.MakeNoZero", "internal/reflectlite.TypeOf", "internal/bytealg.IndexByteString", "internal/bytealg.IndexString", "internal/bytealg.abigen_runtime_cmpstring"], unfollowed := true, recurses := true, named := ["ostiary/rsa.errBlock", "ostiary/rsa.errKey", "ostiary/rsa.errSize", "unicode/utf8.first", "unicode/utf8.acceptRanges", "ostiary/nat.errLong", "ostiary/nat.errZero", "ostiary/nat.errBelow", "ostiary/nat.errNone", "ostiary/nat.errEven", "ostiary/nat.errWide", "internal/bytealg.MaxLen"], apart := false, laid := [("unicode/utf8.acceptRanges", laid_unicode_utf8_acceptRanges), ("ostiary/nat.errLong", laid_ostiary_nat_errLong), ("ostiary/nat.errZero", laid_ostiary_nat_errZero), ("ostiary/nat.errBelow", laid_ostiary_nat_errBelow), ("ostiary/nat.errNone", laid_ostiary_nat_errNone), ("ostiary/nat.errEven", laid_ostiary_nat_errEven), ("ostiary/nat.errWide", laid_ostiary_nat_errWide), ("ostiary/rsa.errKey", laid_ostiary_rsa_errKey), ("ostiary/rsa.errSize", laid_ostiary_rsa_errSize), ("ostiary/rsa.errBlock", laid_ostiary_rsa_errBlock), ("unicode/utf8.first", laid_unicode_utf8_first)] }
def RsaMasksSaid : Prop := rsaMasksRow.holds Tryz.pinned (OpenSpec.ofChange rsaMasksSpec)

/-- ITS FALSE NEIGHBOUR: 'it returns false'. Refute it at one input. -/
def rsaMasksWrong : ChangeSpec := { name := "rsaMasks", fn := fun _ => fun
  | [d1, d2, d3] => { results := [.lit (.bool false)], args := [d1, d2, d3] }
  | _ => none }
def RsaMasksWrongFalsely : Prop := rsaMasksRow.holds Tryz.pinned (OpenSpec.ofChange rsaMasksWrong)

/- THE SECOND FORM. 'bulk': how many values and letters a reading holds, each counted each time it is reached (what is shared counts as often as it is met; a slice's spare places count too). A statement '..UptoSaid' is the law's where the arguments, and the package variables that the reading takes, are together of bulk at most 1048576: NARROWER than '..Said'. Prove '..Said' where nothing that the law and all that it calls make is longer than what came in: it says more and counts as full. Else prove '..UptoSaid'. A law counts once. -/
mutual
def uptoBulk {H : Type} : DataW H → Nat
  | .lit (.string bytes) => bytes.length + 1
  | .lit _ => 1
  | .nil => 1
  | .ptr d => uptoBulk d + 1
  | .slice elems spare => uptoBulkAll elems + uptoBulkAll spare + 1
  | .agg parts => uptoBulkAll parts + 1
  | .iface _ d => uptoBulk d + 1
  | .map entries => uptoBulkEntries entries + 1
  | .held _ => 1
def uptoBulkAll {H : Type} : List (DataW H) → Nat
  | [] => 0
  | d :: r => uptoBulk d + uptoBulkAll r
def uptoBulkEntries {H : Type} : List (Lit × DataW H) → Nat
  | [] => 0
  | x :: r => uptoBulkEntry x + uptoBulkEntries r
def uptoBulkEntry {H : Type} : Lit × DataW H → Nat
  | (.string bytes, d) => bytes.length + uptoBulk d + 1
  | (_, d) => uptoBulk d + 1
 end
def uptoSmall : (H : Type) → List (DataW H) → Bool := fun _ ds => decide (uptoBulkAll ds ≤ 1048576)
def OpenSpec.upto (s : _root_.Go.ChangeSpec) : _root_.Go.OpenSpec := { _root_.Go.OpenSpec.ofChange s with cond := some uptoSmall }

/-- 'ostiarylaw04.RsaKeys', WHERE WHAT IT READS IS OF BULK AT MOST 1048576: true; the input reads as it did. -/
def rsaKeysUptoRow : OpenClaim := { program := "ytfbliccblippiaagreatdoor", sum := "64c8ba6d5b968e2c6a1c7c53e193bc610923a32368bde6b1270fb2f01fe089fd", func := "ostiary/ostiarylaw04.RsaKeys", spec := "rsaKeys", inPlace := ["internal/bytealg.IndexByteString", "internal/bytealg.IndexString", "internal/reflectlite.TypeOf", "internal/abi.NoEscape", "internal/bytealg.MakeNoZero", "internal/bytealg.abigen_runtime_cmpstring"], unfollowed := true, recurses := true, named := ["ostiary/rsa.errKey", "unicode/utf8.first", "unicode/utf8.acceptRanges", "ostiary/rsa.errSize", "ostiary/rsa.errBlock", "ostiary/nat.errLong", "ostiary/nat.errZero", "ostiary/nat.errBelow", "ostiary/nat.errNone", "ostiary/nat.errEven", "ostiary/nat.errWide", "internal/bytealg.MaxLen"], apart := false, laid := [("unicode/utf8.acceptRanges", laid_unicode_utf8_acceptRanges), ("ostiary/nat.errLong", laid_ostiary_nat_errLong), ("ostiary/nat.errZero", laid_ostiary_nat_errZero), ("ostiary/nat.errBelow", laid_ostiary_nat_errBelow), ("ostiary/nat.errNone", laid_ostiary_nat_errNone), ("ostiary/nat.errEven", laid_ostiary_nat_errEven), ("ostiary/nat.errWide", laid_ostiary_nat_errWide), ("ostiary/rsa.errKey", laid_ostiary_rsa_errKey), ("ostiary/rsa.errSize", laid_ostiary_rsa_errSize), ("ostiary/rsa.errBlock", laid_ostiary_rsa_errBlock), ("unicode/utf8.first", laid_unicode_utf8_first)], narrowed := true }
def RsaKeysUptoSaid : Prop := rsaKeysUptoRow.holds Tryz.pinned (OpenSpec.upto rsaKeysSpec)

/-- 'ostiarylaw04.RsaOpens', WHERE WHAT IT READS IS OF BULK AT MOST 1048576: true; the input reads as it did. -/
def rsaOpensUptoRow : OpenClaim := { program := "ytfbliccblippiaagreatdoor", sum := "64c8ba6d5b968e2c6a1c7c53e193bc610923a32368bde6b1270fb2f01fe089fd", func := "ostiary/ostiarylaw04.RsaOpens", spec := "rsaOpens", inPlace := ["internal/bytealg.IndexByteString", "internal/bytealg.IndexString", "internal/bytealg.abigen_runtime_cmpstring", "internal/reflectlite.TypeOf", "internal/abi.NoEscape", "internal/bytealg.MakeNoZero"], unfollowed := true, recurses := true, named := ["ostiary/rsa.errSize", "ostiary/rsa.errKey", "unicode/utf8.first", "unicode/utf8.acceptRanges", "ostiary/nat.errLong", "ostiary/nat.errZero", "ostiary/nat.errBelow", "ostiary/nat.errNone", "ostiary/nat.errEven", "ostiary/nat.errWide", "ostiary/rsa.errBlock", "internal/bytealg.MaxLen"], apart := false, laid := [("unicode/utf8.acceptRanges", laid_unicode_utf8_acceptRanges), ("ostiary/nat.errLong", laid_ostiary_nat_errLong), ("ostiary/nat.errZero", laid_ostiary_nat_errZero), ("ostiary/nat.errBelow", laid_ostiary_nat_errBelow), ("ostiary/nat.errNone", laid_ostiary_nat_errNone), ("ostiary/nat.errEven", laid_ostiary_nat_errEven), ("ostiary/nat.errWide", laid_ostiary_nat_errWide), ("ostiary/rsa.errKey", laid_ostiary_rsa_errKey), ("ostiary/rsa.errSize", laid_ostiary_rsa_errSize), ("ostiary/rsa.errBlock", laid_ostiary_rsa_errBlock), ("unicode/utf8.first", laid_unicode_utf8_first)], narrowed := true }
def RsaOpensUptoSaid : Prop := rsaOpensUptoRow.holds Tryz.pinned (OpenSpec.upto rsaOpensSpec)

/-- 'ostiarylaw04.RsaBlocks', WHERE WHAT IT READS IS OF BULK AT MOST 1048576: true; the input reads as it did. -/
def rsaBlocksUptoRow : OpenClaim := { program := "ytfbliccblippiaagreatdoor", sum := "64c8ba6d5b968e2c6a1c7c53e193bc610923a32368bde6b1270fb2f01fe089fd", func := "ostiary/ostiarylaw04.RsaBlocks", spec := "rsaBlocks", inPlace := ["internal/abi.NoEscape", "internal/bytealg.MakeNoZero", "internal/reflectlite.TypeOf", "internal/bytealg.IndexByteString", "internal/bytealg.IndexString", "internal/bytealg.abigen_runtime_cmpstring"], unfollowed := true, recurses := true, named := ["ostiary/rsa.errBlock", "ostiary/rsa.errKey", "ostiary/rsa.errSize", "unicode/utf8.first", "unicode/utf8.acceptRanges", "ostiary/nat.errLong", "ostiary/nat.errZero", "ostiary/nat.errBelow", "ostiary/nat.errNone", "ostiary/nat.errEven", "ostiary/nat.errWide", "internal/bytealg.MaxLen"], apart := false, laid := [("unicode/utf8.acceptRanges", laid_unicode_utf8_acceptRanges), ("ostiary/nat.errLong", laid_ostiary_nat_errLong), ("ostiary/nat.errZero", laid_ostiary_nat_errZero), ("ostiary/nat.errBelow", laid_ostiary_nat_errBelow), ("ostiary/nat.errNone", laid_ostiary_nat_errNone), ("ostiary/nat.errEven", laid_ostiary_nat_errEven), ("ostiary/nat.errWide", laid_ostiary_nat_errWide), ("ostiary/rsa.errKey", laid_ostiary_rsa_errKey), ("ostiary/rsa.errSize", laid_ostiary_rsa_errSize), ("ostiary/rsa.errBlock", laid_ostiary_rsa_errBlock), ("unicode/utf8.first", laid_unicode_utf8_first)], narrowed := true }
def RsaBlocksUptoSaid : Prop := rsaBlocksUptoRow.holds Tryz.pinned (OpenSpec.upto rsaBlocksSpec)

/-- 'ostiarylaw04.RsaFits', WHERE WHAT IT READS IS OF BULK AT MOST 1048576: true; the input reads as it did. -/
def rsaFitsUptoRow : OpenClaim := { program := "ytfbliccblippiaagreatdoor", sum := "64c8ba6d5b968e2c6a1c7c53e193bc610923a32368bde6b1270fb2f01fe089fd", func := "ostiary/ostiarylaw04.RsaFits", spec := "rsaFits", inPlace := ["internal/abi.NoEscape", "internal/bytealg.MakeNoZero", "internal/reflectlite.TypeOf", "internal/bytealg.IndexByteString", "internal/bytealg.IndexString", "internal/bytealg.abigen_runtime_cmpstring"], unfollowed := true, recurses := true, named := ["ostiary/rsa.errBlock", "ostiary/rsa.errKey", "ostiary/rsa.errSize", "unicode/utf8.first", "unicode/utf8.acceptRanges", "ostiary/nat.errLong", "ostiary/nat.errZero", "ostiary/nat.errBelow", "ostiary/nat.errNone", "ostiary/nat.errEven", "ostiary/nat.errWide", "internal/bytealg.MaxLen"], apart := false, laid := [("unicode/utf8.acceptRanges", laid_unicode_utf8_acceptRanges), ("ostiary/nat.errLong", laid_ostiary_nat_errLong), ("ostiary/nat.errZero", laid_ostiary_nat_errZero), ("ostiary/nat.errBelow", laid_ostiary_nat_errBelow), ("ostiary/nat.errNone", laid_ostiary_nat_errNone), ("ostiary/nat.errEven", laid_ostiary_nat_errEven), ("ostiary/nat.errWide", laid_ostiary_nat_errWide), ("ostiary/rsa.errKey", laid_ostiary_rsa_errKey), ("ostiary/rsa.errSize", laid_ostiary_rsa_errSize), ("ostiary/rsa.errBlock", laid_ostiary_rsa_errBlock), ("unicode/utf8.first", laid_unicode_utf8_first)], narrowed := true }
def RsaFitsUptoSaid : Prop := rsaFitsUptoRow.holds Tryz.pinned (OpenSpec.upto rsaFitsSpec)

/-- 'ostiarylaw04.RsaVerifies', WHERE WHAT IT READS IS OF BULK AT MOST 1048576: true; the input reads as it did. -/
def rsaVerifiesUptoRow : OpenClaim := { program := "ytfbliccblippiaagreatdoor", sum := "64c8ba6d5b968e2c6a1c7c53e193bc610923a32368bde6b1270fb2f01fe089fd", func := "ostiary/ostiarylaw04.RsaVerifies", spec := "rsaVerifies", inPlace := ["internal/abi.NoEscape", "internal/bytealg.MakeNoZero", "internal/bytealg.IndexByteString", "internal/bytealg.IndexString", "internal/reflectlite.TypeOf", "internal/bytealg.abigen_runtime_cmpstring"], unfollowed := true, recurses := true, named := ["ostiary/rsa.errScheme", "ostiary/rsa.errBlock", "unicode/utf8.first", "unicode/utf8.acceptRanges", "ostiary/nat.errWide", "ostiary/nat.errLong", "ostiary/nat.errZero", "ostiary/nat.errBelow", "ostiary/nat.errNone", "ostiary/nat.errEven", "ostiary/rsa.errSize", "ostiary/rsa.errKey", "internal/bytealg.MaxLen"], apart := false, laid := [("unicode/utf8.acceptRanges", laid_unicode_utf8_acceptRanges), ("ostiary/nat.errLong", laid_ostiary_nat_errLong), ("ostiary/nat.errZero", laid_ostiary_nat_errZero), ("ostiary/nat.errBelow", laid_ostiary_nat_errBelow), ("ostiary/nat.errNone", laid_ostiary_nat_errNone), ("ostiary/nat.errEven", laid_ostiary_nat_errEven), ("ostiary/nat.errWide", laid_ostiary_nat_errWide), ("ostiary/rsa.errKey", laid_ostiary_rsa_errKey), ("ostiary/rsa.errSize", laid_ostiary_rsa_errSize), ("ostiary/rsa.errBlock", laid_ostiary_rsa_errBlock), ("ostiary/rsa.errScheme", laid_ostiary_rsa_errScheme), ("unicode/utf8.first", laid_unicode_utf8_first)], narrowed := true }
def RsaVerifiesUptoSaid : Prop := rsaVerifiesUptoRow.holds Tryz.pinned (OpenSpec.upto rsaVerifiesSpec)

/-- 'ostiarylaw04.RsaOnce', WHERE WHAT IT READS IS OF BULK AT MOST 1048576: true; the input reads as it did. -/
def rsaOnceUptoRow : OpenClaim := { program := "ytfbliccblippiaagreatdoor", sum := "64c8ba6d5b968e2c6a1c7c53e193bc610923a32368bde6b1270fb2f01fe089fd", func := "ostiary/ostiarylaw04.RsaOnce", spec := "rsaOnce", inPlace := ["internal/abi.NoEscape", "internal/bytealg.MakeNoZero", "internal/reflectlite.TypeOf", "internal/bytealg.IndexByteString", "internal/bytealg.IndexString", "internal/bytealg.abigen_runtime_cmpstring"], unfollowed := true, recurses := true, named := ["ostiary/rsa.errBlock", "ostiary/rsa.errKey", "ostiary/rsa.errSize", "ostiary/nat.errLong", "ostiary/nat.errZero", "ostiary/nat.errBelow", "ostiary/nat.errNone", "ostiary/nat.errEven", "ostiary/nat.errWide", "unicode/utf8.first", "unicode/utf8.acceptRanges", "ostiary/rsa.errScheme", "internal/bytealg.MaxLen"], apart := false, laid := [("unicode/utf8.acceptRanges", laid_unicode_utf8_acceptRanges), ("ostiary/nat.errLong", laid_ostiary_nat_errLong), ("ostiary/nat.errZero", laid_ostiary_nat_errZero), ("ostiary/nat.errBelow", laid_ostiary_nat_errBelow), ("ostiary/nat.errNone", laid_ostiary_nat_errNone), ("ostiary/nat.errEven", laid_ostiary_nat_errEven), ("ostiary/nat.errWide", laid_ostiary_nat_errWide), ("ostiary/rsa.errKey", laid_ostiary_rsa_errKey), ("ostiary/rsa.errSize", laid_ostiary_rsa_errSize), ("ostiary/rsa.errBlock", laid_ostiary_rsa_errBlock), ("ostiary/rsa.errScheme", laid_ostiary_rsa_errScheme), ("unicode/utf8.first", laid_unicode_utf8_first)], narrowed := true }
def RsaOnceUptoSaid : Prop := rsaOnceUptoRow.holds Tryz.pinned (OpenSpec.upto rsaOnceSpec)

/-- 'ostiarylaw04.RsaPss', WHERE WHAT IT READS IS OF BULK AT MOST 1048576: true; the input reads as it did. -/
def rsaPssUptoRow : OpenClaim := { program := "ytfbliccblippiaagreatdoor", sum := "64c8ba6d5b968e2c6a1c7c53e193bc610923a32368bde6b1270fb2f01fe089fd", func := "ostiary/ostiarylaw04.RsaPss", spec := "rsaPss", inPlace := ["internal/bytealg.IndexByteString", "internal/bytealg.IndexString", "internal/abi.NoEscape", "internal/bytealg.MakeNoZero", "internal/reflectlite.TypeOf", "internal/bytealg.abigen_runtime_cmpstring"], unfollowed := true, recurses := true, named := ["unicode/utf8.first", "unicode/utf8.acceptRanges", "ostiary/rsa.errBlock", "ostiary/rsa.errKey", "ostiary/rsa.errSize", "ostiary/nat.errLong", "ostiary/nat.errZero", "ostiary/nat.errBelow", "ostiary/nat.errNone", "ostiary/nat.errEven", "ostiary/nat.errWide", "ostiary/rsa.errScheme", "internal/bytealg.MaxLen"], apart := false, laid := [("unicode/utf8.acceptRanges", laid_unicode_utf8_acceptRanges), ("ostiary/nat.errLong", laid_ostiary_nat_errLong), ("ostiary/nat.errZero", laid_ostiary_nat_errZero), ("ostiary/nat.errBelow", laid_ostiary_nat_errBelow), ("ostiary/nat.errNone", laid_ostiary_nat_errNone), ("ostiary/nat.errEven", laid_ostiary_nat_errEven), ("ostiary/nat.errWide", laid_ostiary_nat_errWide), ("ostiary/rsa.errKey", laid_ostiary_rsa_errKey), ("ostiary/rsa.errSize", laid_ostiary_rsa_errSize), ("ostiary/rsa.errBlock", laid_ostiary_rsa_errBlock), ("ostiary/rsa.errScheme", laid_ostiary_rsa_errScheme), ("unicode/utf8.first", laid_unicode_utf8_first)], narrowed := true }
def RsaPssUptoSaid : Prop := rsaPssUptoRow.holds Tryz.pinned (OpenSpec.upto rsaPssSpec)

/-- 'ostiarylaw04.RsaRound', WHERE WHAT IT READS IS OF BULK AT MOST 1048576: true; the input reads as it did. -/
def rsaRoundUptoRow : OpenClaim := { program := "ytfbliccblippiaagreatdoor", sum := "64c8ba6d5b968e2c6a1c7c53e193bc610923a32368bde6b1270fb2f01fe089fd", func := "ostiary/ostiarylaw04.RsaRound", spec := "rsaRound", inPlace := ["internal/abi.NoEscape", "internal/bytealg.MakeNoZero", "internal/reflectlite.TypeOf", "internal/bytealg.IndexByteString", "internal/bytealg.IndexString", "internal/bytealg.abigen_runtime_cmpstring"], unfollowed := true, recurses := true, named := ["ostiary/rsa.errBlock", "ostiary/rsa.errKey", "ostiary/rsa.errSize", "unicode/utf8.first", "unicode/utf8.acceptRanges", "ostiary/nat.errLong", "ostiary/nat.errZero", "ostiary/nat.errBelow", "ostiary/nat.errNone", "ostiary/nat.errEven", "ostiary/nat.errWide", "internal/bytealg.MaxLen"], apart := false, laid := [("unicode/utf8.acceptRanges", laid_unicode_utf8_acceptRanges), ("ostiary/nat.errLong", laid_ostiary_nat_errLong), ("ostiary/nat.errZero", laid_ostiary_nat_errZero), ("ostiary/nat.errBelow", laid_ostiary_nat_errBelow), ("ostiary/nat.errNone", laid_ostiary_nat_errNone), ("ostiary/nat.errEven", laid_ostiary_nat_errEven), ("ostiary/nat.errWide", laid_ostiary_nat_errWide), ("ostiary/rsa.errKey", laid_ostiary_rsa_errKey), ("ostiary/rsa.errSize", laid_ostiary_rsa_errSize), ("ostiary/rsa.errBlock", laid_ostiary_rsa_errBlock), ("unicode/utf8.first", laid_unicode_utf8_first)], narrowed := true }
def RsaRoundUptoSaid : Prop := rsaRoundUptoRow.holds Tryz.pinned (OpenSpec.upto rsaRoundSpec)

/-- 'ostiarylaw04.RsaMasks', WHERE WHAT IT READS IS OF BULK AT MOST 1048576: true; the input reads as it did. -/
def rsaMasksUptoRow : OpenClaim := { program := "ytfbliccblippiaagreatdoor", sum := "64c8ba6d5b968e2c6a1c7c53e193bc610923a32368bde6b1270fb2f01fe089fd", func := "ostiary/ostiarylaw04.RsaMasks", spec := "rsaMasks", inPlace := ["internal/abi.NoEscape", "internal/bytealg.MakeNoZero", "internal/reflectlite.TypeOf", "internal/bytealg.IndexByteString", "internal/bytealg.IndexString", "internal/bytealg.abigen_runtime_cmpstring"], unfollowed := true, recurses := true, named := ["ostiary/rsa.errBlock", "ostiary/rsa.errKey", "ostiary/rsa.errSize", "unicode/utf8.first", "unicode/utf8.acceptRanges", "ostiary/nat.errLong", "ostiary/nat.errZero", "ostiary/nat.errBelow", "ostiary/nat.errNone", "ostiary/nat.errEven", "ostiary/nat.errWide", "internal/bytealg.MaxLen"], apart := false, laid := [("unicode/utf8.acceptRanges", laid_unicode_utf8_acceptRanges), ("ostiary/nat.errLong", laid_ostiary_nat_errLong), ("ostiary/nat.errZero", laid_ostiary_nat_errZero), ("ostiary/nat.errBelow", laid_ostiary_nat_errBelow), ("ostiary/nat.errNone", laid_ostiary_nat_errNone), ("ostiary/nat.errEven", laid_ostiary_nat_errEven), ("ostiary/nat.errWide", laid_ostiary_nat_errWide), ("ostiary/rsa.errKey", laid_ostiary_rsa_errKey), ("ostiary/rsa.errSize", laid_ostiary_rsa_errSize), ("ostiary/rsa.errBlock", laid_ostiary_rsa_errBlock), ("unicode/utf8.first", laid_unicode_utf8_first)], narrowed := true }
def RsaMasksUptoSaid : Prop := rsaMasksUptoRow.holds Tryz.pinned (OpenSpec.upto rsaMasksSpec)

end Rows
end Go.Proofs.YtfbliccblippiaaGreatDoor
