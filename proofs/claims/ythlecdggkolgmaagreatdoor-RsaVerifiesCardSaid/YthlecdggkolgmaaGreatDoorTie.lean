/-
  DERIVED. GIVEN WITH THE SEED: THE PROGRAM's TIES (one call each: nine closed facts by the kernel) AND EACH ROW's TIE, after the 31st guide's Derived/Test/Toyas{Tie, Card}.lean. No idea stands in it: it is a product of the set-up. Laid BY PROGRAM, IN A SANDBOX (cutbox-door.mjs). By AI agents, Wed Nov 11 2026. No macro, syntax, notation, axiom, sorry.
-/
import Derived.Test.YthlecdggkolgmaaGreatDoorRows
import Derived.LaidByTextLater
import Derived.SevenTiedAt
import Derived.LaidSub
import Derived.LaidOnce
namespace Go.Proofs.YthlecdggkolgmaaGreatDoor
open Go
set_option maxRecDepth 100000
theorem seatTie1 : Tryz.prog.laidByTextLater [("unicode/utf8.acceptRanges", Rows.laid_unicode_utf8_acceptRanges), ("ostiary/nat.errLong", Rows.laid_ostiary_nat_errLong), ("ostiary/nat.errZero", Rows.laid_ostiary_nat_errZero), ("ostiary/nat.errBelow", Rows.laid_ostiary_nat_errBelow), ("ostiary/nat.errNone", Rows.laid_ostiary_nat_errNone), ("ostiary/nat.errEven", Rows.laid_ostiary_nat_errEven), ("ostiary/nat.errWide", Rows.laid_ostiary_nat_errWide), ("ostiary/rsa.errKey", Rows.laid_ostiary_rsa_errKey), ("ostiary/rsa.errSize", Rows.laid_ostiary_rsa_errSize), ("ostiary/rsa.errBlock", Rows.laid_ostiary_rsa_errBlock), ("ostiary/rsa.errScheme", Rows.laid_ostiary_rsa_errScheme)] [.data, .sentinel, .sentinel, .sentinel, .sentinel, .sentinel, .sentinel, .sentinel, .sentinel, .sentinel, .sentinel] true :=
  Program.laidByTextLater_by_one 209 8 33 (by kernel_rfl) (by kernel_rfl) (by kernel_rfl) (by kernel_rfl) (by kernel_rfl) (by kernel_rfl) (fun _ _ => by kernel_rfl)
theorem pin_laid_unicode_utf8_first : Tryz.pinned.checked.prog.pinnedFits "unicode/utf8.first" = true := by kernel_rfl
theorem noOwnUnsafe : Tryz.pinned.checked.prog.headLifts.contains "ownunsafe" = false := by kernel_rfl
theorem fits1 : Tryz.pinned.checked.prog.listedFits [("unicode/utf8.acceptRanges", Rows.laid_unicode_utf8_acceptRanges), ("ostiary/nat.errLong", Rows.laid_ostiary_nat_errLong), ("ostiary/nat.errZero", Rows.laid_ostiary_nat_errZero), ("ostiary/nat.errBelow", Rows.laid_ostiary_nat_errBelow), ("ostiary/nat.errNone", Rows.laid_ostiary_nat_errNone), ("ostiary/nat.errEven", Rows.laid_ostiary_nat_errEven), ("ostiary/nat.errWide", Rows.laid_ostiary_nat_errWide), ("ostiary/rsa.errKey", Rows.laid_ostiary_rsa_errKey), ("ostiary/rsa.errSize", Rows.laid_ostiary_rsa_errSize), ("ostiary/rsa.errBlock", Rows.laid_ostiary_rsa_errBlock), ("unicode/utf8.first", Rows.laid_unicode_utf8_first)] = true := by
  unfold Program.listedFits
  rw [noOwnUnsafe]
  kernel_rfl
theorem tie : Tryz.prog.laidByTextLater [("unicode/utf8.acceptRanges", Rows.laid_unicode_utf8_acceptRanges), ("ostiary/nat.errLong", Rows.laid_ostiary_nat_errLong), ("ostiary/nat.errZero", Rows.laid_ostiary_nat_errZero), ("ostiary/nat.errBelow", Rows.laid_ostiary_nat_errBelow), ("ostiary/nat.errNone", Rows.laid_ostiary_nat_errNone), ("ostiary/nat.errEven", Rows.laid_ostiary_nat_errEven), ("ostiary/nat.errWide", Rows.laid_ostiary_nat_errWide), ("ostiary/rsa.errKey", Rows.laid_ostiary_rsa_errKey), ("ostiary/rsa.errSize", Rows.laid_ostiary_rsa_errSize), ("ostiary/rsa.errBlock", Rows.laid_ostiary_rsa_errBlock)] [.data, .sentinel, .sentinel, .sentinel, .sentinel, .sentinel, .sentinel, .sentinel, .sentinel, .sentinel] true :=
  Program.laidByTextLater.sub seatTie1 ["unicode/utf8.acceptRanges", "ostiary/nat.errLong", "ostiary/nat.errZero", "ostiary/nat.errBelow", "ostiary/nat.errNone", "ostiary/nat.errEven", "ostiary/nat.errWide", "ostiary/rsa.errKey", "ostiary/rsa.errSize", "ostiary/rsa.errBlock"] (by kernel_rfl) (by kernel_rfl)
theorem rsaFits_row_tie : Rows.rsaFitsRow.laidByTextAt .later Tryz.pinned [.data, .sentinel, .sentinel, .sentinel, .sentinel, .sentinel, .sentinel, .sentinel, .sentinel, .sentinel, .pinned] true :=
  OpenClaim.laidByTextAt_pinned rfl rfl tie rfl rfl rfl rfl (fun y hy _e => by
    simp only [Rows.rsaFitsRow, List.zip_cons_cons, List.zip_nil_right, List.mem_cons, List.mem_nil_iff, or_false] at hy
    rcases hy with rfl | rfl | rfl | rfl | rfl | rfl | rfl | rfl | rfl | rfl | rfl
    · cases _e
    · cases _e
    · cases _e
    · cases _e
    · cases _e
    · cases _e
    · cases _e
    · cases _e
    · cases _e
    · cases _e
    · exact ⟨pin_laid_unicode_utf8_first, by kernel_rfl⟩) fits1
theorem fits2 : Tryz.pinned.checked.prog.listedFits [("unicode/utf8.acceptRanges", Rows.laid_unicode_utf8_acceptRanges), ("ostiary/nat.errLong", Rows.laid_ostiary_nat_errLong), ("ostiary/nat.errZero", Rows.laid_ostiary_nat_errZero), ("ostiary/nat.errBelow", Rows.laid_ostiary_nat_errBelow), ("ostiary/nat.errNone", Rows.laid_ostiary_nat_errNone), ("ostiary/nat.errEven", Rows.laid_ostiary_nat_errEven), ("ostiary/nat.errWide", Rows.laid_ostiary_nat_errWide), ("ostiary/rsa.errKey", Rows.laid_ostiary_rsa_errKey), ("ostiary/rsa.errSize", Rows.laid_ostiary_rsa_errSize), ("ostiary/rsa.errBlock", Rows.laid_ostiary_rsa_errBlock), ("ostiary/rsa.errScheme", Rows.laid_ostiary_rsa_errScheme), ("unicode/utf8.first", Rows.laid_unicode_utf8_first)] = true := by
  unfold Program.listedFits
  rw [noOwnUnsafe]
  kernel_rfl
theorem tie2 : Tryz.prog.laidByTextLater [("unicode/utf8.acceptRanges", Rows.laid_unicode_utf8_acceptRanges), ("ostiary/nat.errLong", Rows.laid_ostiary_nat_errLong), ("ostiary/nat.errZero", Rows.laid_ostiary_nat_errZero), ("ostiary/nat.errBelow", Rows.laid_ostiary_nat_errBelow), ("ostiary/nat.errNone", Rows.laid_ostiary_nat_errNone), ("ostiary/nat.errEven", Rows.laid_ostiary_nat_errEven), ("ostiary/nat.errWide", Rows.laid_ostiary_nat_errWide), ("ostiary/rsa.errKey", Rows.laid_ostiary_rsa_errKey), ("ostiary/rsa.errSize", Rows.laid_ostiary_rsa_errSize), ("ostiary/rsa.errBlock", Rows.laid_ostiary_rsa_errBlock), ("ostiary/rsa.errScheme", Rows.laid_ostiary_rsa_errScheme)] [.data, .sentinel, .sentinel, .sentinel, .sentinel, .sentinel, .sentinel, .sentinel, .sentinel, .sentinel, .sentinel] true :=
  Program.laidByTextLater.sub seatTie1 ["unicode/utf8.acceptRanges", "ostiary/nat.errLong", "ostiary/nat.errZero", "ostiary/nat.errBelow", "ostiary/nat.errNone", "ostiary/nat.errEven", "ostiary/nat.errWide", "ostiary/rsa.errKey", "ostiary/rsa.errSize", "ostiary/rsa.errBlock", "ostiary/rsa.errScheme"] (by kernel_rfl) (by kernel_rfl)
theorem rsaVerifies_row_tie : Rows.rsaVerifiesRow.laidByTextAt .later Tryz.pinned [.data, .sentinel, .sentinel, .sentinel, .sentinel, .sentinel, .sentinel, .sentinel, .sentinel, .sentinel, .sentinel, .pinned] true :=
  OpenClaim.laidByTextAt_pinned rfl rfl tie2 rfl rfl rfl rfl (fun y hy _e => by
    simp only [Rows.rsaVerifiesRow, List.zip_cons_cons, List.zip_nil_right, List.mem_cons, List.mem_nil_iff, or_false] at hy
    rcases hy with rfl | rfl | rfl | rfl | rfl | rfl | rfl | rfl | rfl | rfl | rfl | rfl
    · cases _e
    · cases _e
    · cases _e
    · cases _e
    · cases _e
    · cases _e
    · cases _e
    · cases _e
    · cases _e
    · cases _e
    · cases _e
    · exact ⟨pin_laid_unicode_utf8_first, by kernel_rfl⟩) fits2
theorem rsaFitsUpto_row_tie : Rows.rsaFitsUptoRow.laidByTextAt .later Tryz.pinned [.data, .sentinel, .sentinel, .sentinel, .sentinel, .sentinel, .sentinel, .sentinel, .sentinel, .sentinel, .pinned] true :=
  OpenClaim.laidByTextAt_pinned rfl rfl tie rfl rfl rfl rfl (fun y hy _e => by
    simp only [Rows.rsaFitsUptoRow, List.zip_cons_cons, List.zip_nil_right, List.mem_cons, List.mem_nil_iff, or_false] at hy
    rcases hy with rfl | rfl | rfl | rfl | rfl | rfl | rfl | rfl | rfl | rfl | rfl
    · cases _e
    · cases _e
    · cases _e
    · cases _e
    · cases _e
    · cases _e
    · cases _e
    · cases _e
    · cases _e
    · cases _e
    · exact ⟨pin_laid_unicode_utf8_first, by kernel_rfl⟩) fits1
theorem rsaVerifiesUpto_row_tie : Rows.rsaVerifiesUptoRow.laidByTextAt .later Tryz.pinned [.data, .sentinel, .sentinel, .sentinel, .sentinel, .sentinel, .sentinel, .sentinel, .sentinel, .sentinel, .sentinel, .pinned] true :=
  OpenClaim.laidByTextAt_pinned rfl rfl tie2 rfl rfl rfl rfl (fun y hy _e => by
    simp only [Rows.rsaVerifiesUptoRow, List.zip_cons_cons, List.zip_nil_right, List.mem_cons, List.mem_nil_iff, or_false] at hy
    rcases hy with rfl | rfl | rfl | rfl | rfl | rfl | rfl | rfl | rfl | rfl | rfl | rfl
    · cases _e
    · cases _e
    · cases _e
    · cases _e
    · cases _e
    · cases _e
    · cases _e
    · cases _e
    · cases _e
    · cases _e
    · cases _e
    · exact ⟨pin_laid_unicode_utf8_first, by kernel_rfl⟩) fits2
end Go.Proofs.YthlecdggkolgmaaGreatDoor
