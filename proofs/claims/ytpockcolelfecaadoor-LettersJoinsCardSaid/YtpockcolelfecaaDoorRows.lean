/-
  NARROWER THAN 'FOR EVERY INPUT', by the rows' own cells (each row's printed sentence says how): LettersExamples: laid · LettersSplits: laid · LettersJoins: laid · LettersChanges: laid · LettersCase: laid · LettersQuotes: laid · LettersUnquotes: laid · LettersUnits: laid · LettersOrder: laid.
  DERIVED. THE GIVEN ROWS OF THIS SEAT. 9 by the template 'for every input the law returns true; each argument reads behind the call as it read before'; 0 by the template 'total and deterministic' (their statements: YtpockcolelfecaaDoorTotals.lean).
  GIVEN WITH THE SEED: the statements are not yours to turn. If you find one false, say at which input.
  Laid BY PROGRAM, IN A SANDBOX (cutbox-rows.mjs): the forced cells as the released guide's own fill.sh prints them over the translation ad43867f1e1d0f4e… (all of the seat's roots in one cut). By AI agents, Wed Nov 11 2026. No macro, syntax, notation, axiom, sorry.
-/
import Derived.Test.YtpockcolelfecaaDoorChecked
import GoSem.PinnedTables
import GoSem.Claim
import GoSem.ClaimJoined
import GoSem.ClaimMapViews
import Derived.JoinedTies
import Derived.KernelRfl
namespace Go.Proofs.YtpockcolelfecaaDoor
/- THE CELL 'sum', in the pinned program and in every row, IS THE sha256 OF THE DUMP (.gsa) THAT YtpockcolelfecaaDoorProg.lean LOADS. Nothing in Lean hashes anything: it is a label: what it is worth is what the hold of that sum in a sandbox is worth. -/
noncomputable def Tryd.pinned : Pinned := { name := "ytpockcolelfecaadoor", sum := "ad43867f1e1d0f4ed46a29c9464960e0bd7a068574160a23a225f0314dea29cf", checked := Tryd.checked }
namespace Rows
def none {H : Type} : Left H := { results := [], args := [] }

/- WHAT THE LISTED PACKAGE-LEVEL VARIABLES READ AS WHEN THE CALL BEGINS. Each datum BY PROGRAM (the guide's laid-datum.mjs) off the statement by which the dump's own 'gosem.cut.vars' lays the variable. In a bare row this is a premise. The card (YtpockcolelfecaaDoorCards.lean) ties it to the program's text. -/
def laid_unicode_utf8_acceptRanges {H : Type} : DataW H := .agg [.agg [.lit (.int .u8 128), .lit (.int .u8 191)], .agg [.lit (.int .u8 160), .lit (.int .u8 191)], .agg [.lit (.int .u8 128), .lit (.int .u8 159)], .agg [.lit (.int .u8 144), .lit (.int .u8 191)], .agg [.lit (.int .u8 128), .lit (.int .u8 143)], .agg [.lit (.int .u8 0), .lit (.int .u8 0)], .agg [.lit (.int .u8 0), .lit (.int .u8 0)], .agg [.lit (.int .u8 0), .lit (.int .u8 0)], .agg [.lit (.int .u8 0), .lit (.int .u8 0)], .agg [.lit (.int .u8 0), .lit (.int .u8 0)], .agg [.lit (.int .u8 0), .lit (.int .u8 0)], .agg [.lit (.int .u8 0), .lit (.int .u8 0)], .agg [.lit (.int .u8 0), .lit (.int .u8 0)], .agg [.lit (.int .u8 0), .lit (.int .u8 0)], .agg [.lit (.int .u8 0), .lit (.int .u8 0)], .agg [.lit (.int .u8 0), .lit (.int .u8 0)]]
def laid_abugida_letters_spans {H : Type} : DataW H := .agg [.agg [.lit (.int .i32 97), .lit (.int .i32 122), .lit (.int .i64 1)], .agg [.lit (.int .i32 181), .lit (.int .i32 181), .lit (.int .i64 1)], .agg [.lit (.int .i32 223), .lit (.int .i32 246), .lit (.int .i64 1)], .agg [.lit (.int .i32 248), .lit (.int .i32 255), .lit (.int .i64 1)], .agg [.lit (.int .i32 65), .lit (.int .i32 90), .lit (.int .i64 2)], .agg [.lit (.int .i32 192), .lit (.int .i32 214), .lit (.int .i64 2)], .agg [.lit (.int .i32 216), .lit (.int .i32 222), .lit (.int .i64 2)], .agg [.lit (.int .i32 48), .lit (.int .i32 57), .lit (.int .i64 3)], .agg [.lit (.int .i32 9), .lit (.int .i32 13), .lit (.int .i64 4)], .agg [.lit (.int .i32 32), .lit (.int .i32 32), .lit (.int .i64 4)], .agg [.lit (.int .i32 160), .lit (.int .i32 160), .lit (.int .i64 4)], .agg [.lit (.int .i32 33), .lit (.int .i32 126), .lit (.int .i64 5)]]
/-- One of Go's own tables, pinned by name: the form's constant. -/
def laid_unicode_utf8_first : DataW Unit := Go.Pinned.utf8First

/-- 'abugidalaw01.LettersExamples': WHATEVER THE INPUT: true; the input reads as it did. -/
def lettersExamplesSpec : ChangeSpec := { name := "lettersExamples", fn := fun _ => fun
  | [] => { results := [.lit (.bool true)], args := [] }
  | _ => none }
def lettersExamplesRow : OpenClaim := { program := "ytpockcolelfecaadoor", sum := "ad43867f1e1d0f4ed46a29c9464960e0bd7a068574160a23a225f0314dea29cf", func := "abugida/abugidalaw01.LettersExamples", spec := "lettersExamples", inPlace := ["internal/abi.NoEscape", "internal/bytealg.IndexByteString", "internal/bytealg.abigen_runtime_cmpstring"], unfollowed := true, recurses := true, named := ["unicode/utf8.first", "unicode/utf8.acceptRanges", "abugida/letters.spans"], apart := false, laid := [("unicode/utf8.acceptRanges", laid_unicode_utf8_acceptRanges), ("abugida/letters.spans", laid_abugida_letters_spans), ("unicode/utf8.first", laid_unicode_utf8_first)] }
def LettersExamplesSaid : Prop := lettersExamplesRow.holds Tryd.pinned (OpenSpec.ofChange lettersExamplesSpec)

/-- ITS FALSE NEIGHBOUR: 'it returns false'. Refute it at one input. -/
def lettersExamplesWrong : ChangeSpec := { name := "lettersExamples", fn := fun _ => fun
  | [] => { results := [.lit (.bool false)], args := [] }
  | _ => none }
def LettersExamplesWrongFalsely : Prop := lettersExamplesRow.holds Tryd.pinned (OpenSpec.ofChange lettersExamplesWrong)

/-- 'abugidalaw01.LettersSplits': WHATEVER THE INPUT: true; the input reads as it did. -/
def lettersSplitsSpec : ChangeSpec := { name := "lettersSplits", fn := fun _ => fun
  | [d] => { results := [.lit (.bool true)], args := [d] }
  | _ => none }
def lettersSplitsRow : OpenClaim := { program := "ytpockcolelfecaadoor", sum := "ad43867f1e1d0f4ed46a29c9464960e0bd7a068574160a23a225f0314dea29cf", func := "abugida/abugidalaw01.LettersSplits", spec := "lettersSplits", inPlace := ["internal/abi.NoEscape", "internal/bytealg.IndexByteString", "internal/bytealg.abigen_runtime_cmpstring"], unfollowed := true, recurses := true, named := ["abugida/letters.spans", "unicode/utf8.first", "unicode/utf8.acceptRanges"], apart := false, laid := [("unicode/utf8.acceptRanges", laid_unicode_utf8_acceptRanges), ("abugida/letters.spans", laid_abugida_letters_spans), ("unicode/utf8.first", laid_unicode_utf8_first)] }
def LettersSplitsSaid : Prop := lettersSplitsRow.holds Tryd.pinned (OpenSpec.ofChange lettersSplitsSpec)

/-- ITS FALSE NEIGHBOUR: 'it returns false'. Refute it at one input. -/
def lettersSplitsWrong : ChangeSpec := { name := "lettersSplits", fn := fun _ => fun
  | [d] => { results := [.lit (.bool false)], args := [d] }
  | _ => none }
def LettersSplitsWrongFalsely : Prop := lettersSplitsRow.holds Tryd.pinned (OpenSpec.ofChange lettersSplitsWrong)

/-- 'abugidalaw01.LettersJoins': WHATEVER THE INPUT: true; the input reads as it did. -/
def lettersJoinsSpec : ChangeSpec := { name := "lettersJoins", fn := fun _ => fun
  | [d] => { results := [.lit (.bool true)], args := [d] }
  | _ => none }
def lettersJoinsRow : OpenClaim := { program := "ytpockcolelfecaadoor", sum := "ad43867f1e1d0f4ed46a29c9464960e0bd7a068574160a23a225f0314dea29cf", func := "abugida/abugidalaw01.LettersJoins", spec := "lettersJoins", inPlace := ["internal/abi.NoEscape", "internal/bytealg.IndexByteString", "internal/bytealg.abigen_runtime_cmpstring"], unfollowed := true, recurses := true, named := ["abugida/letters.spans", "unicode/utf8.first", "unicode/utf8.acceptRanges"], apart := false, laid := [("unicode/utf8.acceptRanges", laid_unicode_utf8_acceptRanges), ("abugida/letters.spans", laid_abugida_letters_spans), ("unicode/utf8.first", laid_unicode_utf8_first)] }
def LettersJoinsSaid : Prop := lettersJoinsRow.holds Tryd.pinned (OpenSpec.ofChange lettersJoinsSpec)

/-- ITS FALSE NEIGHBOUR: 'it returns false'. Refute it at one input. -/
def lettersJoinsWrong : ChangeSpec := { name := "lettersJoins", fn := fun _ => fun
  | [d] => { results := [.lit (.bool false)], args := [d] }
  | _ => none }
def LettersJoinsWrongFalsely : Prop := lettersJoinsRow.holds Tryd.pinned (OpenSpec.ofChange lettersJoinsWrong)

/-- 'abugidalaw01.LettersChanges': WHATEVER THE INPUT: true; the input reads as it did. -/
def lettersChangesSpec : ChangeSpec := { name := "lettersChanges", fn := fun _ => fun
  | [d] => { results := [.lit (.bool true)], args := [d] }
  | _ => none }
def lettersChangesRow : OpenClaim := { program := "ytpockcolelfecaadoor", sum := "ad43867f1e1d0f4ed46a29c9464960e0bd7a068574160a23a225f0314dea29cf", func := "abugida/abugidalaw01.LettersChanges", spec := "lettersChanges", inPlace := ["internal/abi.NoEscape", "internal/bytealg.IndexByteString", "internal/bytealg.abigen_runtime_cmpstring"], unfollowed := true, recurses := true, named := ["abugida/letters.spans", "unicode/utf8.first", "unicode/utf8.acceptRanges"], apart := false, laid := [("unicode/utf8.acceptRanges", laid_unicode_utf8_acceptRanges), ("abugida/letters.spans", laid_abugida_letters_spans), ("unicode/utf8.first", laid_unicode_utf8_first)] }
def LettersChangesSaid : Prop := lettersChangesRow.holds Tryd.pinned (OpenSpec.ofChange lettersChangesSpec)

/-- ITS FALSE NEIGHBOUR: 'it returns false'. Refute it at one input. -/
def lettersChangesWrong : ChangeSpec := { name := "lettersChanges", fn := fun _ => fun
  | [d] => { results := [.lit (.bool false)], args := [d] }
  | _ => none }
def LettersChangesWrongFalsely : Prop := lettersChangesRow.holds Tryd.pinned (OpenSpec.ofChange lettersChangesWrong)

/-- 'abugidalaw01.LettersCase': WHATEVER THE INPUT: true; the input reads as it did. -/
def lettersCaseSpec : ChangeSpec := { name := "lettersCase", fn := fun _ => fun
  | [d] => { results := [.lit (.bool true)], args := [d] }
  | _ => none }
def lettersCaseRow : OpenClaim := { program := "ytpockcolelfecaadoor", sum := "ad43867f1e1d0f4ed46a29c9464960e0bd7a068574160a23a225f0314dea29cf", func := "abugida/abugidalaw01.LettersCase", spec := "lettersCase", inPlace := ["internal/abi.NoEscape", "internal/bytealg.IndexByteString", "internal/bytealg.abigen_runtime_cmpstring"], unfollowed := true, recurses := true, named := ["abugida/letters.spans", "unicode/utf8.first", "unicode/utf8.acceptRanges"], apart := false, laid := [("unicode/utf8.acceptRanges", laid_unicode_utf8_acceptRanges), ("abugida/letters.spans", laid_abugida_letters_spans), ("unicode/utf8.first", laid_unicode_utf8_first)] }
def LettersCaseSaid : Prop := lettersCaseRow.holds Tryd.pinned (OpenSpec.ofChange lettersCaseSpec)

/-- ITS FALSE NEIGHBOUR: 'it returns false'. Refute it at one input. -/
def lettersCaseWrong : ChangeSpec := { name := "lettersCase", fn := fun _ => fun
  | [d] => { results := [.lit (.bool false)], args := [d] }
  | _ => none }
def LettersCaseWrongFalsely : Prop := lettersCaseRow.holds Tryd.pinned (OpenSpec.ofChange lettersCaseWrong)

/-- 'abugidalaw01.LettersQuotes': WHATEVER THE INPUT: true; the input reads as it did. -/
def lettersQuotesSpec : ChangeSpec := { name := "lettersQuotes", fn := fun _ => fun
  | [d] => { results := [.lit (.bool true)], args := [d] }
  | _ => none }
def lettersQuotesRow : OpenClaim := { program := "ytpockcolelfecaadoor", sum := "ad43867f1e1d0f4ed46a29c9464960e0bd7a068574160a23a225f0314dea29cf", func := "abugida/abugidalaw01.LettersQuotes", spec := "lettersQuotes", inPlace := ["internal/abi.NoEscape", "internal/bytealg.IndexByteString", "internal/bytealg.abigen_runtime_cmpstring"], unfollowed := true, recurses := true, named := ["abugida/letters.spans", "unicode/utf8.first", "unicode/utf8.acceptRanges"], apart := false, laid := [("unicode/utf8.acceptRanges", laid_unicode_utf8_acceptRanges), ("abugida/letters.spans", laid_abugida_letters_spans), ("unicode/utf8.first", laid_unicode_utf8_first)] }
def LettersQuotesSaid : Prop := lettersQuotesRow.holds Tryd.pinned (OpenSpec.ofChange lettersQuotesSpec)

/-- ITS FALSE NEIGHBOUR: 'it returns false'. Refute it at one input. -/
def lettersQuotesWrong : ChangeSpec := { name := "lettersQuotes", fn := fun _ => fun
  | [d] => { results := [.lit (.bool false)], args := [d] }
  | _ => none }
def LettersQuotesWrongFalsely : Prop := lettersQuotesRow.holds Tryd.pinned (OpenSpec.ofChange lettersQuotesWrong)

/-- 'abugidalaw01.LettersUnquotes': WHATEVER THE INPUT: true; the input reads as it did. -/
def lettersUnquotesSpec : ChangeSpec := { name := "lettersUnquotes", fn := fun _ => fun
  | [d] => { results := [.lit (.bool true)], args := [d] }
  | _ => none }
def lettersUnquotesRow : OpenClaim := { program := "ytpockcolelfecaadoor", sum := "ad43867f1e1d0f4ed46a29c9464960e0bd7a068574160a23a225f0314dea29cf", func := "abugida/abugidalaw01.LettersUnquotes", spec := "lettersUnquotes", inPlace := ["internal/abi.NoEscape", "internal/bytealg.IndexByteString", "internal/bytealg.abigen_runtime_cmpstring"], unfollowed := true, recurses := true, named := ["abugida/letters.spans", "unicode/utf8.first", "unicode/utf8.acceptRanges"], apart := false, laid := [("unicode/utf8.acceptRanges", laid_unicode_utf8_acceptRanges), ("abugida/letters.spans", laid_abugida_letters_spans), ("unicode/utf8.first", laid_unicode_utf8_first)] }
def LettersUnquotesSaid : Prop := lettersUnquotesRow.holds Tryd.pinned (OpenSpec.ofChange lettersUnquotesSpec)

/-- ITS FALSE NEIGHBOUR: 'it returns false'. Refute it at one input. -/
def lettersUnquotesWrong : ChangeSpec := { name := "lettersUnquotes", fn := fun _ => fun
  | [d] => { results := [.lit (.bool false)], args := [d] }
  | _ => none }
def LettersUnquotesWrongFalsely : Prop := lettersUnquotesRow.holds Tryd.pinned (OpenSpec.ofChange lettersUnquotesWrong)

/-- 'abugidalaw01.LettersUnits': WHATEVER THE INPUT: true; the input reads as it did. -/
def lettersUnitsSpec : ChangeSpec := { name := "lettersUnits", fn := fun _ => fun
  | [d] => { results := [.lit (.bool true)], args := [d] }
  | _ => none }
def lettersUnitsRow : OpenClaim := { program := "ytpockcolelfecaadoor", sum := "ad43867f1e1d0f4ed46a29c9464960e0bd7a068574160a23a225f0314dea29cf", func := "abugida/abugidalaw01.LettersUnits", spec := "lettersUnits", inPlace := ["internal/abi.NoEscape", "internal/bytealg.IndexByteString", "internal/bytealg.abigen_runtime_cmpstring"], unfollowed := true, recurses := true, named := ["abugida/letters.spans", "unicode/utf8.first", "unicode/utf8.acceptRanges"], apart := false, laid := [("unicode/utf8.acceptRanges", laid_unicode_utf8_acceptRanges), ("abugida/letters.spans", laid_abugida_letters_spans), ("unicode/utf8.first", laid_unicode_utf8_first)] }
def LettersUnitsSaid : Prop := lettersUnitsRow.holds Tryd.pinned (OpenSpec.ofChange lettersUnitsSpec)

/-- ITS FALSE NEIGHBOUR: 'it returns false'. Refute it at one input. -/
def lettersUnitsWrong : ChangeSpec := { name := "lettersUnits", fn := fun _ => fun
  | [d] => { results := [.lit (.bool false)], args := [d] }
  | _ => none }
def LettersUnitsWrongFalsely : Prop := lettersUnitsRow.holds Tryd.pinned (OpenSpec.ofChange lettersUnitsWrong)

/-- 'abugidalaw01.LettersOrder': WHATEVER THE INPUT: true; the input reads as it did. -/
def lettersOrderSpec : ChangeSpec := { name := "lettersOrder", fn := fun _ => fun
  | [d1, d2, d3] => { results := [.lit (.bool true)], args := [d1, d2, d3] }
  | _ => none }
def lettersOrderRow : OpenClaim := { program := "ytpockcolelfecaadoor", sum := "ad43867f1e1d0f4ed46a29c9464960e0bd7a068574160a23a225f0314dea29cf", func := "abugida/abugidalaw01.LettersOrder", spec := "lettersOrder", inPlace := ["internal/abi.NoEscape", "internal/bytealg.IndexByteString", "internal/bytealg.abigen_runtime_cmpstring"], unfollowed := true, recurses := true, named := ["abugida/letters.spans", "unicode/utf8.first", "unicode/utf8.acceptRanges"], apart := false, laid := [("unicode/utf8.acceptRanges", laid_unicode_utf8_acceptRanges), ("abugida/letters.spans", laid_abugida_letters_spans), ("unicode/utf8.first", laid_unicode_utf8_first)] }
def LettersOrderSaid : Prop := lettersOrderRow.holds Tryd.pinned (OpenSpec.ofChange lettersOrderSpec)

/-- ITS FALSE NEIGHBOUR: 'it returns false'. Refute it at one input. -/
def lettersOrderWrong : ChangeSpec := { name := "lettersOrder", fn := fun _ => fun
  | [d1, d2, d3] => { results := [.lit (.bool false)], args := [d1, d2, d3] }
  | _ => none }
def LettersOrderWrongFalsely : Prop := lettersOrderRow.holds Tryd.pinned (OpenSpec.ofChange lettersOrderWrong)

/- THE SECOND FORM. 'bulk': how many values and letters a reading holds, each counted each time it is reached (what is shared counts as often as it is met; a slice's spare places count too). A statement '..UptoSaid' is the law's where the arguments, and the package variables that the reading takes, are together of bulk at most 1048576: NARROWER than '..Said'. Prove '..Said' where nothing that the law and all that it calls make is longer than what came in: it says more and counts as full. Else prove '..UptoSaid'. A law counts once. -/
mutual
def uptoBulk {H : Type} : DataW H → Nat
  | .lit (.string bytes) => bytes.length + 1
  | .lit _ => 1
  | .nil => 1
  | .ptr d => uptoBulk d + 1
  | .slice elems spare => uptoBulkAll elems + uptoBulkAll spare + 1
  | .agg parts => uptoBulkAll parts + 1
  | .iface _ d => uptoBulk d + 1
  | .map entries => uptoBulkEntries entries + 1
  | .held _ => 1
def uptoBulkAll {H : Type} : List (DataW H) → Nat
  | [] => 0
  | d :: r => uptoBulk d + uptoBulkAll r
def uptoBulkEntries {H : Type} : List (Lit × DataW H) → Nat
  | [] => 0
  | x :: r => uptoBulkEntry x + uptoBulkEntries r
def uptoBulkEntry {H : Type} : Lit × DataW H → Nat
  | (.string bytes, d) => bytes.length + uptoBulk d + 1
  | (_, d) => uptoBulk d + 1
 end
def uptoSmall : (H : Type) → List (DataW H) → Bool := fun _ ds => decide (uptoBulkAll ds ≤ 1048576)
def OpenSpec.upto (s : _root_.Go.ChangeSpec) : _root_.Go.OpenSpec := { _root_.Go.OpenSpec.ofChange s with cond := some uptoSmall }

/-- 'abugidalaw01.LettersExamples', WHERE WHAT IT READS IS OF BULK AT MOST 1048576: true; the input reads as it did. -/
def lettersExamplesUptoRow : OpenClaim := { program := "ytpockcolelfecaadoor", sum := "ad43867f1e1d0f4ed46a29c9464960e0bd7a068574160a23a225f0314dea29cf", func := "abugida/abugidalaw01.LettersExamples", spec := "lettersExamples", inPlace := ["internal/abi.NoEscape", "internal/bytealg.IndexByteString", "internal/bytealg.abigen_runtime_cmpstring"], unfollowed := true, recurses := true, named := ["unicode/utf8.first", "unicode/utf8.acceptRanges", "abugida/letters.spans"], apart := false, laid := [("unicode/utf8.acceptRanges", laid_unicode_utf8_acceptRanges), ("abugida/letters.spans", laid_abugida_letters_spans), ("unicode/utf8.first", laid_unicode_utf8_first)], narrowed := true }
def LettersExamplesUptoSaid : Prop := lettersExamplesUptoRow.holds Tryd.pinned (OpenSpec.upto lettersExamplesSpec)

/-- 'abugidalaw01.LettersSplits', WHERE WHAT IT READS IS OF BULK AT MOST 1048576: true; the input reads as it did. -/
def lettersSplitsUptoRow : OpenClaim := { program := "ytpockcolelfecaadoor", sum := "ad43867f1e1d0f4ed46a29c9464960e0bd7a068574160a23a225f0314dea29cf", func := "abugida/abugidalaw01.LettersSplits", spec := "lettersSplits", inPlace := ["internal/abi.NoEscape", "internal/bytealg.IndexByteString", "internal/bytealg.abigen_runtime_cmpstring"], unfollowed := true, recurses := true, named := ["abugida/letters.spans", "unicode/utf8.first", "unicode/utf8.acceptRanges"], apart := false, laid := [("unicode/utf8.acceptRanges", laid_unicode_utf8_acceptRanges), ("abugida/letters.spans", laid_abugida_letters_spans), ("unicode/utf8.first", laid_unicode_utf8_first)], narrowed := true }
def LettersSplitsUptoSaid : Prop := lettersSplitsUptoRow.holds Tryd.pinned (OpenSpec.upto lettersSplitsSpec)

/-- 'abugidalaw01.LettersJoins', WHERE WHAT IT READS IS OF BULK AT MOST 1048576: true; the input reads as it did. -/
def lettersJoinsUptoRow : OpenClaim := { program := "ytpockcolelfecaadoor", sum := "ad43867f1e1d0f4ed46a29c9464960e0bd7a068574160a23a225f0314dea29cf", func := "abugida/abugidalaw01.LettersJoins", spec := "lettersJoins", inPlace := ["internal/abi.NoEscape", "internal/bytealg.IndexByteString", "internal/bytealg.abigen_runtime_cmpstring"], unfollowed := true, recurses := true, named := ["abugida/letters.spans", "unicode/utf8.first", "unicode/utf8.acceptRanges"], apart := false, laid := [("unicode/utf8.acceptRanges", laid_unicode_utf8_acceptRanges), ("abugida/letters.spans", laid_abugida_letters_spans), ("unicode/utf8.first", laid_unicode_utf8_first)], narrowed := true }
def LettersJoinsUptoSaid : Prop := lettersJoinsUptoRow.holds Tryd.pinned (OpenSpec.upto lettersJoinsSpec)

/-- 'abugidalaw01.LettersChanges', WHERE WHAT IT READS IS OF BULK AT MOST 1048576: true; the input reads as it did. -/
def lettersChangesUptoRow : OpenClaim := { program := "ytpockcolelfecaadoor", sum := "ad43867f1e1d0f4ed46a29c9464960e0bd7a068574160a23a225f0314dea29cf", func := "abugida/abugidalaw01.LettersChanges", spec := "lettersChanges", inPlace := ["internal/abi.NoEscape", "internal/bytealg.IndexByteString", "internal/bytealg.abigen_runtime_cmpstring"], unfollowed := true, recurses := true, named := ["abugida/letters.spans", "unicode/utf8.first", "unicode/utf8.acceptRanges"], apart := false, laid := [("unicode/utf8.acceptRanges", laid_unicode_utf8_acceptRanges), ("abugida/letters.spans", laid_abugida_letters_spans), ("unicode/utf8.first", laid_unicode_utf8_first)], narrowed := true }
def LettersChangesUptoSaid : Prop := lettersChangesUptoRow.holds Tryd.pinned (OpenSpec.upto lettersChangesSpec)

/-- 'abugidalaw01.LettersCase', WHERE WHAT IT READS IS OF BULK AT MOST 1048576: true; the input reads as it did. -/
def lettersCaseUptoRow : OpenClaim := { program := "ytpockcolelfecaadoor", sum := "ad43867f1e1d0f4ed46a29c9464960e0bd7a068574160a23a225f0314dea29cf", func := "abugida/abugidalaw01.LettersCase", spec := "lettersCase", inPlace := ["internal/abi.NoEscape", "internal/bytealg.IndexByteString", "internal/bytealg.abigen_runtime_cmpstring"], unfollowed := true, recurses := true, named := ["abugida/letters.spans", "unicode/utf8.first", "unicode/utf8.acceptRanges"], apart := false, laid := [("unicode/utf8.acceptRanges", laid_unicode_utf8_acceptRanges), ("abugida/letters.spans", laid_abugida_letters_spans), ("unicode/utf8.first", laid_unicode_utf8_first)], narrowed := true }
def LettersCaseUptoSaid : Prop := lettersCaseUptoRow.holds Tryd.pinned (OpenSpec.upto lettersCaseSpec)

/-- 'abugidalaw01.LettersQuotes', WHERE WHAT IT READS IS OF BULK AT MOST 1048576: true; the input reads as it did. -/
def lettersQuotesUptoRow : OpenClaim := { program := "ytpockcolelfecaadoor", sum := "ad43867f1e1d0f4ed46a29c9464960e0bd7a068574160a23a225f0314dea29cf", func := "abugida/abugidalaw01.LettersQuotes", spec := "lettersQuotes", inPlace := ["internal/abi.NoEscape", "internal/bytealg.IndexByteString", "internal/bytealg.abigen_runtime_cmpstring"], unfollowed := true, recurses := true, named := ["abugida/letters.spans", "unicode/utf8.first", "unicode/utf8.acceptRanges"], apart := false, laid := [("unicode/utf8.acceptRanges", laid_unicode_utf8_acceptRanges), ("abugida/letters.spans", laid_abugida_letters_spans), ("unicode/utf8.first", laid_unicode_utf8_first)], narrowed := true }
def LettersQuotesUptoSaid : Prop := lettersQuotesUptoRow.holds Tryd.pinned (OpenSpec.upto lettersQuotesSpec)

/-- 'abugidalaw01.LettersUnquotes', WHERE WHAT IT READS IS OF BULK AT MOST 1048576: true; the input reads as it did. -/
def lettersUnquotesUptoRow : OpenClaim := { program := "ytpockcolelfecaadoor", sum := "ad43867f1e1d0f4ed46a29c9464960e0bd7a068574160a23a225f0314dea29cf", func := "abugida/abugidalaw01.LettersUnquotes", spec := "lettersUnquotes", inPlace := ["internal/abi.NoEscape", "internal/bytealg.IndexByteString", "internal/bytealg.abigen_runtime_cmpstring"], unfollowed := true, recurses := true, named := ["abugida/letters.spans", "unicode/utf8.first", "unicode/utf8.acceptRanges"], apart := false, laid := [("unicode/utf8.acceptRanges", laid_unicode_utf8_acceptRanges), ("abugida/letters.spans", laid_abugida_letters_spans), ("unicode/utf8.first", laid_unicode_utf8_first)], narrowed := true }
def LettersUnquotesUptoSaid : Prop := lettersUnquotesUptoRow.holds Tryd.pinned (OpenSpec.upto lettersUnquotesSpec)

/-- 'abugidalaw01.LettersUnits', WHERE WHAT IT READS IS OF BULK AT MOST 1048576: true; the input reads as it did. -/
def lettersUnitsUptoRow : OpenClaim := { program := "ytpockcolelfecaadoor", sum := "ad43867f1e1d0f4ed46a29c9464960e0bd7a068574160a23a225f0314dea29cf", func := "abugida/abugidalaw01.LettersUnits", spec := "lettersUnits", inPlace := ["internal/abi.NoEscape", "internal/bytealg.IndexByteString", "internal/bytealg.abigen_runtime_cmpstring"], unfollowed := true, recurses := true, named := ["abugida/letters.spans", "unicode/utf8.first", "unicode/utf8.acceptRanges"], apart := false, laid := [("unicode/utf8.acceptRanges", laid_unicode_utf8_acceptRanges), ("abugida/letters.spans", laid_abugida_letters_spans), ("unicode/utf8.first", laid_unicode_utf8_first)], narrowed := true }
def LettersUnitsUptoSaid : Prop := lettersUnitsUptoRow.holds Tryd.pinned (OpenSpec.upto lettersUnitsSpec)

/-- 'abugidalaw01.LettersOrder', WHERE WHAT IT READS IS OF BULK AT MOST 1048576: true; the input reads as it did. -/
def lettersOrderUptoRow : OpenClaim := { program := "ytpockcolelfecaadoor", sum := "ad43867f1e1d0f4ed46a29c9464960e0bd7a068574160a23a225f0314dea29cf", func := "abugida/abugidalaw01.LettersOrder", spec := "lettersOrder", inPlace := ["internal/abi.NoEscape", "internal/bytealg.IndexByteString", "internal/bytealg.abigen_runtime_cmpstring"], unfollowed := true, recurses := true, named := ["abugida/letters.spans", "unicode/utf8.first", "unicode/utf8.acceptRanges"], apart := false, laid := [("unicode/utf8.acceptRanges", laid_unicode_utf8_acceptRanges), ("abugida/letters.spans", laid_abugida_letters_spans), ("unicode/utf8.first", laid_unicode_utf8_first)], narrowed := true }
def LettersOrderUptoSaid : Prop := lettersOrderUptoRow.holds Tryd.pinned (OpenSpec.upto lettersOrderSpec)

end Rows
end Go.Proofs.YtpockcolelfecaaDoor
