/-
  NARROWER THAN 'FOR EVERY INPUT', by the rows' own cells (each row's printed sentence says how): ClosureStar: laid · ClosureSums: laid · ClosureFixed: laid · ClosureMoved: laid · ClosureFinite: laid · ClosureWalks: laid · ClosureTotals: laid · ClosureKnown: laid.
  DERIVED. THE GIVEN ROWS OF THIS SEAT. 8 by the template 'for every input the law returns true; each argument reads behind the call as it read before'; 0 by the template 'total and deterministic' (their statements: YtaogepcaoogpgaaGreatDoorTotals.lean).
  GIVEN WITH THE SEED: the statements are not yours to turn. If you find one false, say at which input.
  Laid BY PROGRAM, IN A SANDBOX (cutbox-rows.mjs): the forced cells as the released guide's own fill.sh prints them over the translation 01aaa486f8332b8f… (all of the seat's roots in one cut). By AI agents, Wed Nov 11 2026. No macro, syntax, notation, axiom, sorry.
-/
import Derived.Test.YtaogepcaoogpgaaGreatDoorChecked
import GoSem.PinnedTables
import GoSem.Claim
import GoSem.ClaimJoined
import GoSem.ClaimMapViews
import Derived.JoinedTies
import Derived.KernelRfl
namespace Go.Proofs.YtaogepcaoogpgaaGreatDoor
/- THE CELL 'sum', in the pinned program and in every row, IS THE sha256 OF THE DUMP (.gsa) THAT YtaogepcaoogpgaaGreatDoorProg.lean LOADS. Nothing in Lean hashes anything: it is a label: what it is worth is what the hold of that sum in a sandbox is worth. -/
noncomputable def Tryz.pinned : Pinned := { name := "ytaogepcaoogpgaagreatdoor", sum := "01aaa486f8332b8fc6edb98218c2d05815195965e5dad3ab1cc712b7aa3d2a46", checked := Tryz.checked }
namespace Rows
def none {H : Type} : Left H := { results := [], args := [] }

/- WHAT THE LISTED PACKAGE-LEVEL VARIABLES READ AS WHEN THE CALL BEGINS. Each datum BY PROGRAM (the guide's laid-datum.mjs) off the statement by which the dump's own 'gosem.cut.vars' lays the variable. In a bare row this is a premise. The card (YtaogepcaoogpgaaGreatDoorCards.lean) ties it to the program's text. -/
def laid_unicode_utf8_acceptRanges {H : Type} : DataW H := .agg [.agg [.lit (.int .u8 128), .lit (.int .u8 191)], .agg [.lit (.int .u8 160), .lit (.int .u8 191)], .agg [.lit (.int .u8 128), .lit (.int .u8 159)], .agg [.lit (.int .u8 144), .lit (.int .u8 191)], .agg [.lit (.int .u8 128), .lit (.int .u8 143)], .agg [.lit (.int .u8 0), .lit (.int .u8 0)], .agg [.lit (.int .u8 0), .lit (.int .u8 0)], .agg [.lit (.int .u8 0), .lit (.int .u8 0)], .agg [.lit (.int .u8 0), .lit (.int .u8 0)], .agg [.lit (.int .u8 0), .lit (.int .u8 0)], .agg [.lit (.int .u8 0), .lit (.int .u8 0)], .agg [.lit (.int .u8 0), .lit (.int .u8 0)], .agg [.lit (.int .u8 0), .lit (.int .u8 0)], .agg [.lit (.int .u8 0), .lit (.int .u8 0)], .agg [.lit (.int .u8 0), .lit (.int .u8 0)], .agg [.lit (.int .u8 0), .lit (.int .u8 0)]]
/-- One of Go's own tables, pinned by name: the form's constant. -/
def laid_unicode_utf8_first : DataW Unit := Go.Pinned.utf8First

/-- 'abugidalaw07.ClosureStar': WHATEVER THE INPUT: true; the input reads as it did. -/
def closureStarSpec : ChangeSpec := { name := "closureStar", fn := fun _ => fun
  | [d1, d2] => { results := [.lit (.bool true)], args := [d1, d2] }
  | _ => none }
def closureStarRow : OpenClaim := { program := "ytaogepcaoogpgaagreatdoor", sum := "01aaa486f8332b8fc6edb98218c2d05815195965e5dad3ab1cc712b7aa3d2a46", func := "abugida/abugidalaw07.ClosureStar", spec := "closureStar", inPlace := ["internal/bytealg.IndexByteString", "internal/bytealg.IndexString", "math/bits.Add64", "internal/bytealg.abigen_runtime_cmpstring", "internal/abi.NoEscape", "internal/bytealg.MakeNoZero", "slices.overlaps[[]string]"], unfollowed := true, recurses := true, named := ["internal/bytealg.MaxLen", "math/bits.divideError", "math/bits.overflowError", "unicode/utf8.first", "unicode/utf8.acceptRanges"], apart := false, laid := [("unicode/utf8.acceptRanges", laid_unicode_utf8_acceptRanges), ("unicode/utf8.first", laid_unicode_utf8_first)] }
def ClosureStarSaid : Prop := closureStarRow.holds Tryz.pinned (OpenSpec.ofChange closureStarSpec)

/-- ITS FALSE NEIGHBOUR: 'it returns false'. Refute it at one input. -/
def closureStarWrong : ChangeSpec := { name := "closureStar", fn := fun _ => fun
  | [d1, d2] => { results := [.lit (.bool false)], args := [d1, d2] }
  | _ => none }
def ClosureStarWrongFalsely : Prop := closureStarRow.holds Tryz.pinned (OpenSpec.ofChange closureStarWrong)

/-- 'abugidalaw07.ClosureSums': WHATEVER THE INPUT: true; the input reads as it did. -/
def closureSumsSpec : ChangeSpec := { name := "closureSums", fn := fun _ => fun
  | [d] => { results := [.lit (.bool true)], args := [d] }
  | _ => none }
def closureSumsRow : OpenClaim := { program := "ytaogepcaoogpgaagreatdoor", sum := "01aaa486f8332b8fc6edb98218c2d05815195965e5dad3ab1cc712b7aa3d2a46", func := "abugida/abugidalaw07.ClosureSums", spec := "closureSums", inPlace := ["internal/bytealg.IndexByteString", "internal/bytealg.IndexString", "math/bits.Add64", "internal/bytealg.abigen_runtime_cmpstring", "internal/abi.NoEscape", "internal/bytealg.MakeNoZero", "slices.overlaps[[]string]"], unfollowed := true, recurses := true, named := ["internal/bytealg.MaxLen", "math/bits.divideError", "math/bits.overflowError", "unicode/utf8.first", "unicode/utf8.acceptRanges"], apart := false, laid := [("unicode/utf8.acceptRanges", laid_unicode_utf8_acceptRanges), ("unicode/utf8.first", laid_unicode_utf8_first)] }
def ClosureSumsSaid : Prop := closureSumsRow.holds Tryz.pinned (OpenSpec.ofChange closureSumsSpec)

/-- ITS FALSE NEIGHBOUR: 'it returns false'. Refute it at one input. -/
def closureSumsWrong : ChangeSpec := { name := "closureSums", fn := fun _ => fun
  | [d] => { results := [.lit (.bool false)], args := [d] }
  | _ => none }
def ClosureSumsWrongFalsely : Prop := closureSumsRow.holds Tryz.pinned (OpenSpec.ofChange closureSumsWrong)

/-- 'abugidalaw07.ClosureFixed': WHATEVER THE INPUT: true; the input reads as it did. -/
def closureFixedSpec : ChangeSpec := { name := "closureFixed", fn := fun _ => fun
  | [d1, d2] => { results := [.lit (.bool true)], args := [d1, d2] }
  | _ => none }
def closureFixedRow : OpenClaim := { program := "ytaogepcaoogpgaagreatdoor", sum := "01aaa486f8332b8fc6edb98218c2d05815195965e5dad3ab1cc712b7aa3d2a46", func := "abugida/abugidalaw07.ClosureFixed", spec := "closureFixed", inPlace := ["internal/bytealg.IndexByteString", "internal/bytealg.IndexString", "math/bits.Add64", "internal/bytealg.abigen_runtime_cmpstring", "internal/abi.NoEscape", "internal/bytealg.MakeNoZero", "slices.overlaps[[]string]"], unfollowed := true, recurses := true, named := ["internal/bytealg.MaxLen", "math/bits.divideError", "math/bits.overflowError", "unicode/utf8.first", "unicode/utf8.acceptRanges"], apart := false, laid := [("unicode/utf8.acceptRanges", laid_unicode_utf8_acceptRanges), ("unicode/utf8.first", laid_unicode_utf8_first)] }
def ClosureFixedSaid : Prop := closureFixedRow.holds Tryz.pinned (OpenSpec.ofChange closureFixedSpec)

/-- ITS FALSE NEIGHBOUR: 'it returns false'. Refute it at one input. -/
def closureFixedWrong : ChangeSpec := { name := "closureFixed", fn := fun _ => fun
  | [d1, d2] => { results := [.lit (.bool false)], args := [d1, d2] }
  | _ => none }
def ClosureFixedWrongFalsely : Prop := closureFixedRow.holds Tryz.pinned (OpenSpec.ofChange closureFixedWrong)

/-- 'abugidalaw07.ClosureMoved': WHATEVER THE INPUT: true; the input reads as it did. -/
def closureMovedSpec : ChangeSpec := { name := "closureMoved", fn := fun _ => fun
  | [d1, d2, d3, d4] => { results := [.lit (.bool true)], args := [d1, d2, d3, d4] }
  | _ => none }
def closureMovedRow : OpenClaim := { program := "ytaogepcaoogpgaagreatdoor", sum := "01aaa486f8332b8fc6edb98218c2d05815195965e5dad3ab1cc712b7aa3d2a46", func := "abugida/abugidalaw07.ClosureMoved", spec := "closureMoved", inPlace := ["internal/bytealg.IndexByteString", "internal/bytealg.IndexString", "math/bits.Add64", "internal/bytealg.abigen_runtime_cmpstring", "internal/abi.NoEscape", "internal/bytealg.MakeNoZero", "slices.overlaps[[]string]"], unfollowed := true, recurses := true, named := ["internal/bytealg.MaxLen", "math/bits.divideError", "math/bits.overflowError", "unicode/utf8.first", "unicode/utf8.acceptRanges"], apart := false, laid := [("unicode/utf8.acceptRanges", laid_unicode_utf8_acceptRanges), ("unicode/utf8.first", laid_unicode_utf8_first)] }
def ClosureMovedSaid : Prop := closureMovedRow.holds Tryz.pinned (OpenSpec.ofChange closureMovedSpec)

/-- ITS FALSE NEIGHBOUR: 'it returns false'. Refute it at one input. -/
def closureMovedWrong : ChangeSpec := { name := "closureMoved", fn := fun _ => fun
  | [d1, d2, d3, d4] => { results := [.lit (.bool false)], args := [d1, d2, d3, d4] }
  | _ => none }
def ClosureMovedWrongFalsely : Prop := closureMovedRow.holds Tryz.pinned (OpenSpec.ofChange closureMovedWrong)

/-- 'abugidalaw07.ClosureFinite': WHATEVER THE INPUT: true; the input reads as it did. -/
def closureFiniteSpec : ChangeSpec := { name := "closureFinite", fn := fun _ => fun
  | [d1, d2] => { results := [.lit (.bool true)], args := [d1, d2] }
  | _ => none }
def closureFiniteRow : OpenClaim := { program := "ytaogepcaoogpgaagreatdoor", sum := "01aaa486f8332b8fc6edb98218c2d05815195965e5dad3ab1cc712b7aa3d2a46", func := "abugida/abugidalaw07.ClosureFinite", spec := "closureFinite", inPlace := ["internal/bytealg.IndexByteString", "internal/bytealg.IndexString", "math/bits.Add64", "internal/bytealg.abigen_runtime_cmpstring", "internal/abi.NoEscape", "internal/bytealg.MakeNoZero", "slices.overlaps[[]string]"], unfollowed := true, recurses := true, named := ["internal/bytealg.MaxLen", "math/bits.divideError", "math/bits.overflowError", "unicode/utf8.first", "unicode/utf8.acceptRanges"], apart := false, laid := [("unicode/utf8.acceptRanges", laid_unicode_utf8_acceptRanges), ("unicode/utf8.first", laid_unicode_utf8_first)] }
def ClosureFiniteSaid : Prop := closureFiniteRow.holds Tryz.pinned (OpenSpec.ofChange closureFiniteSpec)

/-- ITS FALSE NEIGHBOUR: 'it returns false'. Refute it at one input. -/
def closureFiniteWrong : ChangeSpec := { name := "closureFinite", fn := fun _ => fun
  | [d1, d2] => { results := [.lit (.bool false)], args := [d1, d2] }
  | _ => none }
def ClosureFiniteWrongFalsely : Prop := closureFiniteRow.holds Tryz.pinned (OpenSpec.ofChange closureFiniteWrong)

/-- 'abugidalaw07.ClosureWalks': WHATEVER THE INPUT: true; the input reads as it did. -/
def closureWalksSpec : ChangeSpec := { name := "closureWalks", fn := fun _ => fun
  | [d1, d2, d3] => { results := [.lit (.bool true)], args := [d1, d2, d3] }
  | _ => none }
def closureWalksRow : OpenClaim := { program := "ytaogepcaoogpgaagreatdoor", sum := "01aaa486f8332b8fc6edb98218c2d05815195965e5dad3ab1cc712b7aa3d2a46", func := "abugida/abugidalaw07.ClosureWalks", spec := "closureWalks", inPlace := ["internal/bytealg.IndexByteString", "internal/bytealg.IndexString", "math/bits.Add64", "internal/bytealg.abigen_runtime_cmpstring", "internal/abi.NoEscape", "internal/bytealg.MakeNoZero", "slices.overlaps[[]string]"], unfollowed := true, recurses := true, named := ["internal/bytealg.MaxLen", "math/bits.divideError", "math/bits.overflowError", "unicode/utf8.first", "unicode/utf8.acceptRanges"], apart := false, laid := [("unicode/utf8.acceptRanges", laid_unicode_utf8_acceptRanges), ("unicode/utf8.first", laid_unicode_utf8_first)] }
def ClosureWalksSaid : Prop := closureWalksRow.holds Tryz.pinned (OpenSpec.ofChange closureWalksSpec)

/-- ITS FALSE NEIGHBOUR: 'it returns false'. Refute it at one input. -/
def closureWalksWrong : ChangeSpec := { name := "closureWalks", fn := fun _ => fun
  | [d1, d2, d3] => { results := [.lit (.bool false)], args := [d1, d2, d3] }
  | _ => none }
def ClosureWalksWrongFalsely : Prop := closureWalksRow.holds Tryz.pinned (OpenSpec.ofChange closureWalksWrong)

/-- 'abugidalaw07.ClosureTotals': WHATEVER THE INPUT: true; the input reads as it did. -/
def closureTotalsSpec : ChangeSpec := { name := "closureTotals", fn := fun _ => fun
  | [d] => { results := [.lit (.bool true)], args := [d] }
  | _ => none }
def closureTotalsRow : OpenClaim := { program := "ytaogepcaoogpgaagreatdoor", sum := "01aaa486f8332b8fc6edb98218c2d05815195965e5dad3ab1cc712b7aa3d2a46", func := "abugida/abugidalaw07.ClosureTotals", spec := "closureTotals", inPlace := ["internal/bytealg.IndexByteString", "internal/bytealg.IndexString", "math/bits.Add64", "internal/bytealg.abigen_runtime_cmpstring", "internal/abi.NoEscape", "internal/bytealg.MakeNoZero", "slices.overlaps[[]string]"], unfollowed := true, recurses := true, named := ["internal/bytealg.MaxLen", "math/bits.divideError", "math/bits.overflowError", "unicode/utf8.first", "unicode/utf8.acceptRanges"], apart := false, laid := [("unicode/utf8.acceptRanges", laid_unicode_utf8_acceptRanges), ("unicode/utf8.first", laid_unicode_utf8_first)] }
def ClosureTotalsSaid : Prop := closureTotalsRow.holds Tryz.pinned (OpenSpec.ofChange closureTotalsSpec)

/-- ITS FALSE NEIGHBOUR: 'it returns false'. Refute it at one input. -/
def closureTotalsWrong : ChangeSpec := { name := "closureTotals", fn := fun _ => fun
  | [d] => { results := [.lit (.bool false)], args := [d] }
  | _ => none }
def ClosureTotalsWrongFalsely : Prop := closureTotalsRow.holds Tryz.pinned (OpenSpec.ofChange closureTotalsWrong)

/-- 'abugidalaw07.ClosureKnown': WHATEVER THE INPUT: true; the input reads as it did. -/
def closureKnownSpec : ChangeSpec := { name := "closureKnown", fn := fun _ => fun
  | [] => { results := [.lit (.bool true)], args := [] }
  | _ => none }
def closureKnownRow : OpenClaim := { program := "ytaogepcaoogpgaagreatdoor", sum := "01aaa486f8332b8fc6edb98218c2d05815195965e5dad3ab1cc712b7aa3d2a46", func := "abugida/abugidalaw07.ClosureKnown", spec := "closureKnown", inPlace := ["internal/bytealg.IndexByteString", "internal/bytealg.IndexString", "math/bits.Add64", "internal/bytealg.abigen_runtime_cmpstring", "internal/abi.NoEscape", "internal/bytealg.MakeNoZero", "slices.overlaps[[]string]"], unfollowed := true, recurses := true, named := ["internal/bytealg.MaxLen", "math/bits.divideError", "math/bits.overflowError", "unicode/utf8.first", "unicode/utf8.acceptRanges"], apart := false, laid := [("unicode/utf8.acceptRanges", laid_unicode_utf8_acceptRanges), ("unicode/utf8.first", laid_unicode_utf8_first)] }
def ClosureKnownSaid : Prop := closureKnownRow.holds Tryz.pinned (OpenSpec.ofChange closureKnownSpec)

/-- ITS FALSE NEIGHBOUR: 'it returns false'. Refute it at one input. -/
def closureKnownWrong : ChangeSpec := { name := "closureKnown", fn := fun _ => fun
  | [] => { results := [.lit (.bool false)], args := [] }
  | _ => none }
def ClosureKnownWrongFalsely : Prop := closureKnownRow.holds Tryz.pinned (OpenSpec.ofChange closureKnownWrong)

/- THE SECOND FORM. 'bulk': how many values and letters a reading holds, each counted each time it is reached (what is shared counts as often as it is met; a slice's spare places count too). A statement '..UptoSaid' is the law's where the arguments, and the package variables that the reading takes, are together of bulk at most 1048576: NARROWER than '..Said'. Prove '..Said' where nothing that the law and all that it calls make is longer than what came in: it says more and counts as full. Else prove '..UptoSaid'. A law counts once. -/
mutual
def uptoBulk {H : Type} : DataW H → Nat
  | .lit (.string bytes) => bytes.length + 1
  | .lit _ => 1
  | .nil => 1
  | .ptr d => uptoBulk d + 1
  | .slice elems spare => uptoBulkAll elems + uptoBulkAll spare + 1
  | .agg parts => uptoBulkAll parts + 1
  | .iface _ d => uptoBulk d + 1
  | .map entries => uptoBulkEntries entries + 1
  | .held _ => 1
def uptoBulkAll {H : Type} : List (DataW H) → Nat
  | [] => 0
  | d :: r => uptoBulk d + uptoBulkAll r
def uptoBulkEntries {H : Type} : List (Lit × DataW H) → Nat
  | [] => 0
  | x :: r => uptoBulkEntry x + uptoBulkEntries r
def uptoBulkEntry {H : Type} : Lit × DataW H → Nat
  | (.string bytes, d) => bytes.length + uptoBulk d + 1
  | (_, d) => uptoBulk d + 1
 end
def uptoSmall : (H : Type) → List (DataW H) → Bool := fun _ ds => decide (uptoBulkAll ds ≤ 1048576)
def OpenSpec.upto (s : _root_.Go.ChangeSpec) : _root_.Go.OpenSpec := { _root_.Go.OpenSpec.ofChange s with cond := some uptoSmall }

/-- 'abugidalaw07.ClosureStar', WHERE WHAT IT READS IS OF BULK AT MOST 1048576: true; the input reads as it did. -/
def closureStarUptoRow : OpenClaim := { program := "ytaogepcaoogpgaagreatdoor", sum := "01aaa486f8332b8fc6edb98218c2d05815195965e5dad3ab1cc712b7aa3d2a46", func := "abugida/abugidalaw07.ClosureStar", spec := "closureStar", inPlace := ["internal/bytealg.IndexByteString", "internal/bytealg.IndexString", "math/bits.Add64", "internal/bytealg.abigen_runtime_cmpstring", "internal/abi.NoEscape", "internal/bytealg.MakeNoZero", "slices.overlaps[[]string]"], unfollowed := true, recurses := true, named := ["internal/bytealg.MaxLen", "math/bits.divideError", "math/bits.overflowError", "unicode/utf8.first", "unicode/utf8.acceptRanges"], apart := false, laid := [("unicode/utf8.acceptRanges", laid_unicode_utf8_acceptRanges), ("unicode/utf8.first", laid_unicode_utf8_first)], narrowed := true }
def ClosureStarUptoSaid : Prop := closureStarUptoRow.holds Tryz.pinned (OpenSpec.upto closureStarSpec)

/-- 'abugidalaw07.ClosureSums', WHERE WHAT IT READS IS OF BULK AT MOST 1048576: true; the input reads as it did. -/
def closureSumsUptoRow : OpenClaim := { program := "ytaogepcaoogpgaagreatdoor", sum := "01aaa486f8332b8fc6edb98218c2d05815195965e5dad3ab1cc712b7aa3d2a46", func := "abugida/abugidalaw07.ClosureSums", spec := "closureSums", inPlace := ["internal/bytealg.IndexByteString", "internal/bytealg.IndexString", "math/bits.Add64", "internal/bytealg.abigen_runtime_cmpstring", "internal/abi.NoEscape", "internal/bytealg.MakeNoZero", "slices.overlaps[[]string]"], unfollowed := true, recurses := true, named := ["internal/bytealg.MaxLen", "math/bits.divideError", "math/bits.overflowError", "unicode/utf8.first", "unicode/utf8.acceptRanges"], apart := false, laid := [("unicode/utf8.acceptRanges", laid_unicode_utf8_acceptRanges), ("unicode/utf8.first", laid_unicode_utf8_first)], narrowed := true }
def ClosureSumsUptoSaid : Prop := closureSumsUptoRow.holds Tryz.pinned (OpenSpec.upto closureSumsSpec)

/-- 'abugidalaw07.ClosureFixed', WHERE WHAT IT READS IS OF BULK AT MOST 1048576: true; the input reads as it did. -/
def closureFixedUptoRow : OpenClaim := { program := "ytaogepcaoogpgaagreatdoor", sum := "01aaa486f8332b8fc6edb98218c2d05815195965e5dad3ab1cc712b7aa3d2a46", func := "abugida/abugidalaw07.ClosureFixed", spec := "closureFixed", inPlace := ["internal/bytealg.IndexByteString", "internal/bytealg.IndexString", "math/bits.Add64", "internal/bytealg.abigen_runtime_cmpstring", "internal/abi.NoEscape", "internal/bytealg.MakeNoZero", "slices.overlaps[[]string]"], unfollowed := true, recurses := true, named := ["internal/bytealg.MaxLen", "math/bits.divideError", "math/bits.overflowError", "unicode/utf8.first", "unicode/utf8.acceptRanges"], apart := false, laid := [("unicode/utf8.acceptRanges", laid_unicode_utf8_acceptRanges), ("unicode/utf8.first", laid_unicode_utf8_first)], narrowed := true }
def ClosureFixedUptoSaid : Prop := closureFixedUptoRow.holds Tryz.pinned (OpenSpec.upto closureFixedSpec)

/-- 'abugidalaw07.ClosureMoved', WHERE WHAT IT READS IS OF BULK AT MOST 1048576: true; the input reads as it did. -/
def closureMovedUptoRow : OpenClaim := { program := "ytaogepcaoogpgaagreatdoor", sum := "01aaa486f8332b8fc6edb98218c2d05815195965e5dad3ab1cc712b7aa3d2a46", func := "abugida/abugidalaw07.ClosureMoved", spec := "closureMoved", inPlace := ["internal/bytealg.IndexByteString", "internal/bytealg.IndexString", "math/bits.Add64", "internal/bytealg.abigen_runtime_cmpstring", "internal/abi.NoEscape", "internal/bytealg.MakeNoZero", "slices.overlaps[[]string]"], unfollowed := true, recurses := true, named := ["internal/bytealg.MaxLen", "math/bits.divideError", "math/bits.overflowError", "unicode/utf8.first", "unicode/utf8.acceptRanges"], apart := false, laid := [("unicode/utf8.acceptRanges", laid_unicode_utf8_acceptRanges), ("unicode/utf8.first", laid_unicode_utf8_first)], narrowed := true }
def ClosureMovedUptoSaid : Prop := closureMovedUptoRow.holds Tryz.pinned (OpenSpec.upto closureMovedSpec)

/-- 'abugidalaw07.ClosureFinite', WHERE WHAT IT READS IS OF BULK AT MOST 1048576: true; the input reads as it did. -/
def closureFiniteUptoRow : OpenClaim := { program := "ytaogepcaoogpgaagreatdoor", sum := "01aaa486f8332b8fc6edb98218c2d05815195965e5dad3ab1cc712b7aa3d2a46", func := "abugida/abugidalaw07.ClosureFinite", spec := "closureFinite", inPlace := ["internal/bytealg.IndexByteString", "internal/bytealg.IndexString", "math/bits.Add64", "internal/bytealg.abigen_runtime_cmpstring", "internal/abi.NoEscape", "internal/bytealg.MakeNoZero", "slices.overlaps[[]string]"], unfollowed := true, recurses := true, named := ["internal/bytealg.MaxLen", "math/bits.divideError", "math/bits.overflowError", "unicode/utf8.first", "unicode/utf8.acceptRanges"], apart := false, laid := [("unicode/utf8.acceptRanges", laid_unicode_utf8_acceptRanges), ("unicode/utf8.first", laid_unicode_utf8_first)], narrowed := true }
def ClosureFiniteUptoSaid : Prop := closureFiniteUptoRow.holds Tryz.pinned (OpenSpec.upto closureFiniteSpec)

/-- 'abugidalaw07.ClosureWalks', WHERE WHAT IT READS IS OF BULK AT MOST 1048576: true; the input reads as it did. -/
def closureWalksUptoRow : OpenClaim := { program := "ytaogepcaoogpgaagreatdoor", sum := "01aaa486f8332b8fc6edb98218c2d05815195965e5dad3ab1cc712b7aa3d2a46", func := "abugida/abugidalaw07.ClosureWalks", spec := "closureWalks", inPlace := ["internal/bytealg.IndexByteString", "internal/bytealg.IndexString", "math/bits.Add64", "internal/bytealg.abigen_runtime_cmpstring", "internal/abi.NoEscape", "internal/bytealg.MakeNoZero", "slices.overlaps[[]string]"], unfollowed := true, recurses := true, named := ["internal/bytealg.MaxLen", "math/bits.divideError", "math/bits.overflowError", "unicode/utf8.first", "unicode/utf8.acceptRanges"], apart := false, laid := [("unicode/utf8.acceptRanges", laid_unicode_utf8_acceptRanges), ("unicode/utf8.first", laid_unicode_utf8_first)], narrowed := true }
def ClosureWalksUptoSaid : Prop := closureWalksUptoRow.holds Tryz.pinned (OpenSpec.upto closureWalksSpec)

/-- 'abugidalaw07.ClosureTotals', WHERE WHAT IT READS IS OF BULK AT MOST 1048576: true; the input reads as it did. -/
def closureTotalsUptoRow : OpenClaim := { program := "ytaogepcaoogpgaagreatdoor", sum := "01aaa486f8332b8fc6edb98218c2d05815195965e5dad3ab1cc712b7aa3d2a46", func := "abugida/abugidalaw07.ClosureTotals", spec := "closureTotals", inPlace := ["internal/bytealg.IndexByteString", "internal/bytealg.IndexString", "math/bits.Add64", "internal/bytealg.abigen_runtime_cmpstring", "internal/abi.NoEscape", "internal/bytealg.MakeNoZero", "slices.overlaps[[]string]"], unfollowed := true, recurses := true, named := ["internal/bytealg.MaxLen", "math/bits.divideError", "math/bits.overflowError", "unicode/utf8.first", "unicode/utf8.acceptRanges"], apart := false, laid := [("unicode/utf8.acceptRanges", laid_unicode_utf8_acceptRanges), ("unicode/utf8.first", laid_unicode_utf8_first)], narrowed := true }
def ClosureTotalsUptoSaid : Prop := closureTotalsUptoRow.holds Tryz.pinned (OpenSpec.upto closureTotalsSpec)

/-- 'abugidalaw07.ClosureKnown', WHERE WHAT IT READS IS OF BULK AT MOST 1048576: true; the input reads as it did. -/
def closureKnownUptoRow : OpenClaim := { program := "ytaogepcaoogpgaagreatdoor", sum := "01aaa486f8332b8fc6edb98218c2d05815195965e5dad3ab1cc712b7aa3d2a46", func := "abugida/abugidalaw07.ClosureKnown", spec := "closureKnown", inPlace := ["internal/bytealg.IndexByteString", "internal/bytealg.IndexString", "math/bits.Add64", "internal/bytealg.abigen_runtime_cmpstring", "internal/abi.NoEscape", "internal/bytealg.MakeNoZero", "slices.overlaps[[]string]"], unfollowed := true, recurses := true, named := ["internal/bytealg.MaxLen", "math/bits.divideError", "math/bits.overflowError", "unicode/utf8.first", "unicode/utf8.acceptRanges"], apart := false, laid := [("unicode/utf8.acceptRanges", laid_unicode_utf8_acceptRanges), ("unicode/utf8.first", laid_unicode_utf8_first)], narrowed := true }
def ClosureKnownUptoSaid : Prop := closureKnownUptoRow.holds Tryz.pinned (OpenSpec.upto closureKnownSpec)

end Rows
end Go.Proofs.YtaogepcaoogpgaaGreatDoor
