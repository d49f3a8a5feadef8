/-
  NARROWER THAN 'FOR EVERY INPUT', by the rows' own cells (each row's printed sentence says how): BuildWords: laid · BuildLetters: laid · BuildUnions: laid · BuildConcats: laid · BuildStars: laid · BuildRepeats: laid · BuildScales: laid · BuildLaws: laid · BuildExamples: laid.
  DERIVED. THE GIVEN ROWS OF THIS SEAT. 9 by the template 'for every input the law returns true; each argument reads behind the call as it read before'; 0 by the template 'total and deterministic' (their statements: YtadgpgofcjpnjaaGreatDoorTotals.lean).
  GIVEN WITH THE SEED: the statements are not yours to turn. If you find one false, say at which input.
  Laid BY PROGRAM, IN A SANDBOX (cutbox-rows.mjs): the forced cells as the released guide's own fill.sh prints them over the translation b81360159ce489f0… (all of the seat's roots in one cut). By AI agents, Wed Nov 11 2026. No macro, syntax, notation, axiom, sorry.
-/
import Derived.Test.YtadgpgofcjpnjaaGreatDoorChecked
import GoSem.PinnedTables
import GoSem.Claim
import GoSem.ClaimJoined
import GoSem.ClaimMapViews
import Derived.JoinedTies
import Derived.KernelRfl
namespace Go.Proofs.YtadgpgofcjpnjaaGreatDoor
/- THE CELL 'sum', in the pinned program and in every row, IS THE sha256 OF THE DUMP (.gsa) THAT YtadgpgofcjpnjaaGreatDoorProg.lean LOADS. Nothing in Lean hashes anything: it is a label: what it is worth is what the hold of that sum in a sandbox is worth. -/
noncomputable def Tryz.pinned : Pinned := { name := "ytadgpgofcjpnjaagreatdoor", sum := "b81360159ce489f0bf4fb22a39a21e6c25a5ec05a9f18155a0cd64aa78424339", checked := Tryz.checked }
namespace Rows
def none {H : Type} : Left H := { results := [], args := [] }

/- WHAT THE LISTED PACKAGE-LEVEL VARIABLES READ AS WHEN THE CALL BEGINS. Each datum BY PROGRAM (the guide's laid-datum.mjs) off the statement by which the dump's own 'gosem.cut.vars' lays the variable. In a bare row this is a premise. The card (YtadgpgofcjpnjaaGreatDoorCards.lean) ties it to the program's text. -/
def laid_unicode_utf8_acceptRanges {H : Type} : DataW H := .agg [.agg [.lit (.int .u8 128), .lit (.int .u8 191)], .agg [.lit (.int .u8 160), .lit (.int .u8 191)], .agg [.lit (.int .u8 128), .lit (.int .u8 159)], .agg [.lit (.int .u8 144), .lit (.int .u8 191)], .agg [.lit (.int .u8 128), .lit (.int .u8 143)], .agg [.lit (.int .u8 0), .lit (.int .u8 0)], .agg [.lit (.int .u8 0), .lit (.int .u8 0)], .agg [.lit (.int .u8 0), .lit (.int .u8 0)], .agg [.lit (.int .u8 0), .lit (.int .u8 0)], .agg [.lit (.int .u8 0), .lit (.int .u8 0)], .agg [.lit (.int .u8 0), .lit (.int .u8 0)], .agg [.lit (.int .u8 0), .lit (.int .u8 0)], .agg [.lit (.int .u8 0), .lit (.int .u8 0)], .agg [.lit (.int .u8 0), .lit (.int .u8 0)], .agg [.lit (.int .u8 0), .lit (.int .u8 0)], .agg [.lit (.int .u8 0), .lit (.int .u8 0)]]
/-- One of Go's own tables, pinned by name: the form's constant. -/
def laid_unicode_utf8_first : DataW Unit := Go.Pinned.utf8First

/-- 'abugidalaw09.BuildWords': WHATEVER THE INPUT: true; the input reads as it did. -/
def buildWordsSpec : ChangeSpec := { name := "buildWords", fn := fun _ => fun
  | [d1, d2, d3, d4] => { results := [.lit (.bool true)], args := [d1, d2, d3, d4] }
  | _ => none }
def buildWordsRow : OpenClaim := { program := "ytadgpgofcjpnjaagreatdoor", sum := "b81360159ce489f0bf4fb22a39a21e6c25a5ec05a9f18155a0cd64aa78424339", func := "abugida/abugidalaw09.BuildWords", spec := "buildWords", inPlace := ["internal/bytealg.IndexByteString", "internal/bytealg.IndexString", "math/bits.Add64", "internal/bytealg.abigen_runtime_cmpstring"], unfollowed := true, recurses := true, named := ["internal/bytealg.MaxLen", "math/bits.divideError", "math/bits.overflowError", "unicode/utf8.first", "unicode/utf8.acceptRanges"], apart := false, laid := [("unicode/utf8.acceptRanges", laid_unicode_utf8_acceptRanges), ("unicode/utf8.first", laid_unicode_utf8_first)] }
def BuildWordsSaid : Prop := buildWordsRow.holds Tryz.pinned (OpenSpec.ofChange buildWordsSpec)

/-- ITS FALSE NEIGHBOUR: 'it returns false'. Refute it at one input. -/
def buildWordsWrong : ChangeSpec := { name := "buildWords", fn := fun _ => fun
  | [d1, d2, d3, d4] => { results := [.lit (.bool false)], args := [d1, d2, d3, d4] }
  | _ => none }
def BuildWordsWrongFalsely : Prop := buildWordsRow.holds Tryz.pinned (OpenSpec.ofChange buildWordsWrong)

/-- 'abugidalaw09.BuildLetters': WHATEVER THE INPUT: true; the input reads as it did. -/
def buildLettersSpec : ChangeSpec := { name := "buildLetters", fn := fun _ => fun
  | [d1, d2, d3, d4] => { results := [.lit (.bool true)], args := [d1, d2, d3, d4] }
  | _ => none }
def buildLettersRow : OpenClaim := { program := "ytadgpgofcjpnjaagreatdoor", sum := "b81360159ce489f0bf4fb22a39a21e6c25a5ec05a9f18155a0cd64aa78424339", func := "abugida/abugidalaw09.BuildLetters", spec := "buildLetters", inPlace := ["internal/bytealg.IndexByteString", "internal/bytealg.IndexString", "math/bits.Add64", "internal/bytealg.abigen_runtime_cmpstring"], unfollowed := true, recurses := true, named := ["internal/bytealg.MaxLen", "math/bits.divideError", "math/bits.overflowError", "unicode/utf8.first", "unicode/utf8.acceptRanges"], apart := false, laid := [("unicode/utf8.acceptRanges", laid_unicode_utf8_acceptRanges), ("unicode/utf8.first", laid_unicode_utf8_first)] }
def BuildLettersSaid : Prop := buildLettersRow.holds Tryz.pinned (OpenSpec.ofChange buildLettersSpec)

/-- ITS FALSE NEIGHBOUR: 'it returns false'. Refute it at one input. -/
def buildLettersWrong : ChangeSpec := { name := "buildLetters", fn := fun _ => fun
  | [d1, d2, d3, d4] => { results := [.lit (.bool false)], args := [d1, d2, d3, d4] }
  | _ => none }
def BuildLettersWrongFalsely : Prop := buildLettersRow.holds Tryz.pinned (OpenSpec.ofChange buildLettersWrong)

/-- 'abugidalaw09.BuildUnions': WHATEVER THE INPUT: true; the input reads as it did. -/
def buildUnionsSpec : ChangeSpec := { name := "buildUnions", fn := fun _ => fun
  | [d1, d2, d3, d4] => { results := [.lit (.bool true)], args := [d1, d2, d3, d4] }
  | _ => none }
def buildUnionsRow : OpenClaim := { program := "ytadgpgofcjpnjaagreatdoor", sum := "b81360159ce489f0bf4fb22a39a21e6c25a5ec05a9f18155a0cd64aa78424339", func := "abugida/abugidalaw09.BuildUnions", spec := "buildUnions", inPlace := ["internal/bytealg.IndexByteString", "internal/bytealg.IndexString", "math/bits.Add64", "internal/bytealg.abigen_runtime_cmpstring"], unfollowed := true, recurses := true, named := ["internal/bytealg.MaxLen", "math/bits.divideError", "math/bits.overflowError", "unicode/utf8.first", "unicode/utf8.acceptRanges"], apart := false, laid := [("unicode/utf8.acceptRanges", laid_unicode_utf8_acceptRanges), ("unicode/utf8.first", laid_unicode_utf8_first)] }
def BuildUnionsSaid : Prop := buildUnionsRow.holds Tryz.pinned (OpenSpec.ofChange buildUnionsSpec)

/-- ITS FALSE NEIGHBOUR: 'it returns false'. Refute it at one input. -/
def buildUnionsWrong : ChangeSpec := { name := "buildUnions", fn := fun _ => fun
  | [d1, d2, d3, d4] => { results := [.lit (.bool false)], args := [d1, d2, d3, d4] }
  | _ => none }
def BuildUnionsWrongFalsely : Prop := buildUnionsRow.holds Tryz.pinned (OpenSpec.ofChange buildUnionsWrong)

/-- 'abugidalaw09.BuildConcats': WHATEVER THE INPUT: true; the input reads as it did. -/
def buildConcatsSpec : ChangeSpec := { name := "buildConcats", fn := fun _ => fun
  | [d1, d2, d3, d4] => { results := [.lit (.bool true)], args := [d1, d2, d3, d4] }
  | _ => none }
def buildConcatsRow : OpenClaim := { program := "ytadgpgofcjpnjaagreatdoor", sum := "b81360159ce489f0bf4fb22a39a21e6c25a5ec05a9f18155a0cd64aa78424339", func := "abugida/abugidalaw09.BuildConcats", spec := "buildConcats", inPlace := ["internal/bytealg.IndexByteString", "internal/bytealg.IndexString", "math/bits.Add64", "internal/bytealg.abigen_runtime_cmpstring"], unfollowed := true, recurses := true, named := ["internal/bytealg.MaxLen", "math/bits.divideError", "math/bits.overflowError", "unicode/utf8.first", "unicode/utf8.acceptRanges"], apart := false, laid := [("unicode/utf8.acceptRanges", laid_unicode_utf8_acceptRanges), ("unicode/utf8.first", laid_unicode_utf8_first)] }
def BuildConcatsSaid : Prop := buildConcatsRow.holds Tryz.pinned (OpenSpec.ofChange buildConcatsSpec)

/-- ITS FALSE NEIGHBOUR: 'it returns false'. Refute it at one input. -/
def buildConcatsWrong : ChangeSpec := { name := "buildConcats", fn := fun _ => fun
  | [d1, d2, d3, d4] => { results := [.lit (.bool false)], args := [d1, d2, d3, d4] }
  | _ => none }
def BuildConcatsWrongFalsely : Prop := buildConcatsRow.holds Tryz.pinned (OpenSpec.ofChange buildConcatsWrong)

/-- 'abugidalaw09.BuildStars': WHATEVER THE INPUT: true; the input reads as it did. -/
def buildStarsSpec : ChangeSpec := { name := "buildStars", fn := fun _ => fun
  | [d1, d2, d3] => { results := [.lit (.bool true)], args := [d1, d2, d3] }
  | _ => none }
def buildStarsRow : OpenClaim := { program := "ytadgpgofcjpnjaagreatdoor", sum := "b81360159ce489f0bf4fb22a39a21e6c25a5ec05a9f18155a0cd64aa78424339", func := "abugida/abugidalaw09.BuildStars", spec := "buildStars", inPlace := ["internal/bytealg.IndexByteString", "internal/bytealg.IndexString", "math/bits.Add64", "internal/bytealg.abigen_runtime_cmpstring"], unfollowed := true, recurses := true, named := ["internal/bytealg.MaxLen", "math/bits.divideError", "math/bits.overflowError", "unicode/utf8.first", "unicode/utf8.acceptRanges"], apart := false, laid := [("unicode/utf8.acceptRanges", laid_unicode_utf8_acceptRanges), ("unicode/utf8.first", laid_unicode_utf8_first)] }
def BuildStarsSaid : Prop := buildStarsRow.holds Tryz.pinned (OpenSpec.ofChange buildStarsSpec)

/-- ITS FALSE NEIGHBOUR: 'it returns false'. Refute it at one input. -/
def buildStarsWrong : ChangeSpec := { name := "buildStars", fn := fun _ => fun
  | [d1, d2, d3] => { results := [.lit (.bool false)], args := [d1, d2, d3] }
  | _ => none }
def BuildStarsWrongFalsely : Prop := buildStarsRow.holds Tryz.pinned (OpenSpec.ofChange buildStarsWrong)

/-- 'abugidalaw09.BuildRepeats': WHATEVER THE INPUT: true; the input reads as it did. -/
def buildRepeatsSpec : ChangeSpec := { name := "buildRepeats", fn := fun _ => fun
  | [d1, d2, d3, d4, d5] => { results := [.lit (.bool true)], args := [d1, d2, d3, d4, d5] }
  | _ => none }
def buildRepeatsRow : OpenClaim := { program := "ytadgpgofcjpnjaagreatdoor", sum := "b81360159ce489f0bf4fb22a39a21e6c25a5ec05a9f18155a0cd64aa78424339", func := "abugida/abugidalaw09.BuildRepeats", spec := "buildRepeats", inPlace := ["internal/bytealg.IndexByteString", "internal/bytealg.IndexString", "math/bits.Add64", "internal/bytealg.abigen_runtime_cmpstring"], unfollowed := true, recurses := true, named := ["internal/bytealg.MaxLen", "math/bits.divideError", "math/bits.overflowError", "unicode/utf8.first", "unicode/utf8.acceptRanges"], apart := false, laid := [("unicode/utf8.acceptRanges", laid_unicode_utf8_acceptRanges), ("unicode/utf8.first", laid_unicode_utf8_first)] }
def BuildRepeatsSaid : Prop := buildRepeatsRow.holds Tryz.pinned (OpenSpec.ofChange buildRepeatsSpec)

/-- ITS FALSE NEIGHBOUR: 'it returns false'. Refute it at one input. -/
def buildRepeatsWrong : ChangeSpec := { name := "buildRepeats", fn := fun _ => fun
  | [d1, d2, d3, d4, d5] => { results := [.lit (.bool false)], args := [d1, d2, d3, d4, d5] }
  | _ => none }
def BuildRepeatsWrongFalsely : Prop := buildRepeatsRow.holds Tryz.pinned (OpenSpec.ofChange buildRepeatsWrong)

/-- 'abugidalaw09.BuildScales': WHATEVER THE INPUT: true; the input reads as it did. -/
def buildScalesSpec : ChangeSpec := { name := "buildScales", fn := fun _ => fun
  | [d1, d2, d3, d4] => { results := [.lit (.bool true)], args := [d1, d2, d3, d4] }
  | _ => none }
def buildScalesRow : OpenClaim := { program := "ytadgpgofcjpnjaagreatdoor", sum := "b81360159ce489f0bf4fb22a39a21e6c25a5ec05a9f18155a0cd64aa78424339", func := "abugida/abugidalaw09.BuildScales", spec := "buildScales", inPlace := ["internal/bytealg.IndexByteString", "internal/bytealg.IndexString", "math/bits.Add64", "internal/bytealg.abigen_runtime_cmpstring"], unfollowed := true, recurses := true, named := ["internal/bytealg.MaxLen", "math/bits.divideError", "math/bits.overflowError", "unicode/utf8.first", "unicode/utf8.acceptRanges"], apart := false, laid := [("unicode/utf8.acceptRanges", laid_unicode_utf8_acceptRanges), ("unicode/utf8.first", laid_unicode_utf8_first)] }
def BuildScalesSaid : Prop := buildScalesRow.holds Tryz.pinned (OpenSpec.ofChange buildScalesSpec)

/-- ITS FALSE NEIGHBOUR: 'it returns false'. Refute it at one input. -/
def buildScalesWrong : ChangeSpec := { name := "buildScales", fn := fun _ => fun
  | [d1, d2, d3, d4] => { results := [.lit (.bool false)], args := [d1, d2, d3, d4] }
  | _ => none }
def BuildScalesWrongFalsely : Prop := buildScalesRow.holds Tryz.pinned (OpenSpec.ofChange buildScalesWrong)

/-- 'abugidalaw09.BuildLaws': WHATEVER THE INPUT: true; the input reads as it did. -/
def buildLawsSpec : ChangeSpec := { name := "buildLaws", fn := fun _ => fun
  | [d1, d2, d3, d4, d5] => { results := [.lit (.bool true)], args := [d1, d2, d3, d4, d5] }
  | _ => none }
def buildLawsRow : OpenClaim := { program := "ytadgpgofcjpnjaagreatdoor", sum := "b81360159ce489f0bf4fb22a39a21e6c25a5ec05a9f18155a0cd64aa78424339", func := "abugida/abugidalaw09.BuildLaws", spec := "buildLaws", inPlace := ["internal/bytealg.IndexByteString", "internal/bytealg.IndexString", "math/bits.Add64", "internal/bytealg.abigen_runtime_cmpstring"], unfollowed := true, recurses := true, named := ["internal/bytealg.MaxLen", "math/bits.divideError", "math/bits.overflowError", "unicode/utf8.first", "unicode/utf8.acceptRanges"], apart := false, laid := [("unicode/utf8.acceptRanges", laid_unicode_utf8_acceptRanges), ("unicode/utf8.first", laid_unicode_utf8_first)] }
def BuildLawsSaid : Prop := buildLawsRow.holds Tryz.pinned (OpenSpec.ofChange buildLawsSpec)

/-- ITS FALSE NEIGHBOUR: 'it returns false'. Refute it at one input. -/
def buildLawsWrong : ChangeSpec := { name := "buildLaws", fn := fun _ => fun
  | [d1, d2, d3, d4, d5] => { results := [.lit (.bool false)], args := [d1, d2, d3, d4, d5] }
  | _ => none }
def BuildLawsWrongFalsely : Prop := buildLawsRow.holds Tryz.pinned (OpenSpec.ofChange buildLawsWrong)

/-- 'abugidalaw09.BuildExamples': WHATEVER THE INPUT: true; the input reads as it did. -/
def buildExamplesSpec : ChangeSpec := { name := "buildExamples", fn := fun _ => fun
  | [] => { results := [.lit (.bool true)], args := [] }
  | _ => none }
def buildExamplesRow : OpenClaim := { program := "ytadgpgofcjpnjaagreatdoor", sum := "b81360159ce489f0bf4fb22a39a21e6c25a5ec05a9f18155a0cd64aa78424339", func := "abugida/abugidalaw09.BuildExamples", spec := "buildExamples", inPlace := ["internal/bytealg.IndexByteString", "internal/bytealg.IndexString", "math/bits.Add64", "internal/bytealg.abigen_runtime_cmpstring"], unfollowed := true, recurses := true, named := ["internal/bytealg.MaxLen", "math/bits.divideError", "math/bits.overflowError", "unicode/utf8.first", "unicode/utf8.acceptRanges"], apart := false, laid := [("unicode/utf8.acceptRanges", laid_unicode_utf8_acceptRanges), ("unicode/utf8.first", laid_unicode_utf8_first)] }
def BuildExamplesSaid : Prop := buildExamplesRow.holds Tryz.pinned (OpenSpec.ofChange buildExamplesSpec)

/-- ITS FALSE NEIGHBOUR: 'it returns false'. Refute it at one input. -/
def buildExamplesWrong : ChangeSpec := { name := "buildExamples", fn := fun _ => fun
  | [] => { results := [.lit (.bool false)], args := [] }
  | _ => none }
def BuildExamplesWrongFalsely : Prop := buildExamplesRow.holds Tryz.pinned (OpenSpec.ofChange buildExamplesWrong)

/- THE SECOND FORM. 'bulk': how many values and letters a reading holds, each counted each time it is reached (what is shared counts as often as it is met; a slice's spare places count too). A statement '..UptoSaid' is the law's where the arguments, and the package variables that the reading takes, are together of bulk at most 1048576: NARROWER than '..Said'. Prove '..Said' where nothing that the law and all that it calls make is longer than what came in: it says more and counts as full. Else prove '..UptoSaid'. A law counts once. -/
mutual
def uptoBulk {H : Type} : DataW H → Nat
  | .lit (.string bytes) => bytes.length + 1
  | .lit _ => 1
  | .nil => 1
  | .ptr d => uptoBulk d + 1
  | .slice elems spare => uptoBulkAll elems + uptoBulkAll spare + 1
  | .agg parts => uptoBulkAll parts + 1
  | .iface _ d => uptoBulk d + 1
  | .map entries => uptoBulkEntries entries + 1
  | .held _ => 1
def uptoBulkAll {H : Type} : List (DataW H) → Nat
  | [] => 0
  | d :: r => uptoBulk d + uptoBulkAll r
def uptoBulkEntries {H : Type} : List (Lit × DataW H) → Nat
  | [] => 0
  | x :: r => uptoBulkEntry x + uptoBulkEntries r
def uptoBulkEntry {H : Type} : Lit × DataW H → Nat
  | (.string bytes, d) => bytes.length + uptoBulk d + 1
  | (_, d) => uptoBulk d + 1
 end
def uptoSmall : (H : Type) → List (DataW H) → Bool := fun _ ds => decide (uptoBulkAll ds ≤ 1048576)
def OpenSpec.upto (s : _root_.Go.ChangeSpec) : _root_.Go.OpenSpec := { _root_.Go.OpenSpec.ofChange s with cond := some uptoSmall }

/-- 'abugidalaw09.BuildWords', WHERE WHAT IT READS IS OF BULK AT MOST 1048576: true; the input reads as it did. -/
def buildWordsUptoRow : OpenClaim := { program := "ytadgpgofcjpnjaagreatdoor", sum := "b81360159ce489f0bf4fb22a39a21e6c25a5ec05a9f18155a0cd64aa78424339", func := "abugida/abugidalaw09.BuildWords", spec := "buildWords", inPlace := ["internal/bytealg.IndexByteString", "internal/bytealg.IndexString", "math/bits.Add64", "internal/bytealg.abigen_runtime_cmpstring"], unfollowed := true, recurses := true, named := ["internal/bytealg.MaxLen", "math/bits.divideError", "math/bits.overflowError", "unicode/utf8.first", "unicode/utf8.acceptRanges"], apart := false, laid := [("unicode/utf8.acceptRanges", laid_unicode_utf8_acceptRanges), ("unicode/utf8.first", laid_unicode_utf8_first)], narrowed := true }
def BuildWordsUptoSaid : Prop := buildWordsUptoRow.holds Tryz.pinned (OpenSpec.upto buildWordsSpec)

/-- 'abugidalaw09.BuildLetters', WHERE WHAT IT READS IS OF BULK AT MOST 1048576: true; the input reads as it did. -/
def buildLettersUptoRow : OpenClaim := { program := "ytadgpgofcjpnjaagreatdoor", sum := "b81360159ce489f0bf4fb22a39a21e6c25a5ec05a9f18155a0cd64aa78424339", func := "abugida/abugidalaw09.BuildLetters", spec := "buildLetters", inPlace := ["internal/bytealg.IndexByteString", "internal/bytealg.IndexString", "math/bits.Add64", "internal/bytealg.abigen_runtime_cmpstring"], unfollowed := true, recurses := true, named := ["internal/bytealg.MaxLen", "math/bits.divideError", "math/bits.overflowError", "unicode/utf8.first", "unicode/utf8.acceptRanges"], apart := false, laid := [("unicode/utf8.acceptRanges", laid_unicode_utf8_acceptRanges), ("unicode/utf8.first", laid_unicode_utf8_first)], narrowed := true }
def BuildLettersUptoSaid : Prop := buildLettersUptoRow.holds Tryz.pinned (OpenSpec.upto buildLettersSpec)

/-- 'abugidalaw09.BuildUnions', WHERE WHAT IT READS IS OF BULK AT MOST 1048576: true; the input reads as it did. -/
def buildUnionsUptoRow : OpenClaim := { program := "ytadgpgofcjpnjaagreatdoor", sum := "b81360159ce489f0bf4fb22a39a21e6c25a5ec05a9f18155a0cd64aa78424339", func := "abugida/abugidalaw09.BuildUnions", spec := "buildUnions", inPlace := ["internal/bytealg.IndexByteString", "internal/bytealg.IndexString", "math/bits.Add64", "internal/bytealg.abigen_runtime_cmpstring"], unfollowed := true, recurses := true, named := ["internal/bytealg.MaxLen", "math/bits.divideError", "math/bits.overflowError", "unicode/utf8.first", "unicode/utf8.acceptRanges"], apart := false, laid := [("unicode/utf8.acceptRanges", laid_unicode_utf8_acceptRanges), ("unicode/utf8.first", laid_unicode_utf8_first)], narrowed := true }
def BuildUnionsUptoSaid : Prop := buildUnionsUptoRow.holds Tryz.pinned (OpenSpec.upto buildUnionsSpec)

/-- 'abugidalaw09.BuildConcats', WHERE WHAT IT READS IS OF BULK AT MOST 1048576: true; the input reads as it did. -/
def buildConcatsUptoRow : OpenClaim := { program := "ytadgpgofcjpnjaagreatdoor", sum := "b81360159ce489f0bf4fb22a39a21e6c25a5ec05a9f18155a0cd64aa78424339", func := "abugida/abugidalaw09.BuildConcats", spec := "buildConcats", inPlace := ["internal/bytealg.IndexByteString", "internal/bytealg.IndexString", "math/bits.Add64", "internal/bytealg.abigen_runtime_cmpstring"], unfollowed := true, recurses := true, named := ["internal/bytealg.MaxLen", "math/bits.divideError", "math/bits.overflowError", "unicode/utf8.first", "unicode/utf8.acceptRanges"], apart := false, laid := [("unicode/utf8.acceptRanges", laid_unicode_utf8_acceptRanges), ("unicode/utf8.first", laid_unicode_utf8_first)], narrowed := true }
def BuildConcatsUptoSaid : Prop := buildConcatsUptoRow.holds Tryz.pinned (OpenSpec.upto buildConcatsSpec)

/-- 'abugidalaw09.BuildStars', WHERE WHAT IT READS IS OF BULK AT MOST 1048576: true; the input reads as it did. -/
def buildStarsUptoRow : OpenClaim := { program := "ytadgpgofcjpnjaagreatdoor", sum := "b81360159ce489f0bf4fb22a39a21e6c25a5ec05a9f18155a0cd64aa78424339", func := "abugida/abugidalaw09.BuildStars", spec := "buildStars", inPlace := ["internal/bytealg.IndexByteString", "internal/bytealg.IndexString", "math/bits.Add64", "internal/bytealg.abigen_runtime_cmpstring"], unfollowed := true, recurses := true, named := ["internal/bytealg.MaxLen", "math/bits.divideError", "math/bits.overflowError", "unicode/utf8.first", "unicode/utf8.acceptRanges"], apart := false, laid := [("unicode/utf8.acceptRanges", laid_unicode_utf8_acceptRanges), ("unicode/utf8.first", laid_unicode_utf8_first)], narrowed := true }
def BuildStarsUptoSaid : Prop := buildStarsUptoRow.holds Tryz.pinned (OpenSpec.upto buildStarsSpec)

/-- 'abugidalaw09.BuildRepeats', WHERE WHAT IT READS IS OF BULK AT MOST 1048576: true; the input reads as it did. -/
def buildRepeatsUptoRow : OpenClaim := { program := "ytadgpgofcjpnjaagreatdoor", sum := "b81360159ce489f0bf4fb22a39a21e6c25a5ec05a9f18155a0cd64aa78424339", func := "abugida/abugidalaw09.BuildRepeats", spec := "buildRepeats", inPlace := ["internal/bytealg.IndexByteString", "internal/bytealg.IndexString", "math/bits.Add64", "internal/bytealg.abigen_runtime_cmpstring"], unfollowed := true, recurses := true, named := ["internal/bytealg.MaxLen", "math/bits.divideError", "math/bits.overflowError", "unicode/utf8.first", "unicode/utf8.acceptRanges"], apart := false, laid := [("unicode/utf8.acceptRanges", laid_unicode_utf8_acceptRanges), ("unicode/utf8.first", laid_unicode_utf8_first)], narrowed := true }
def BuildRepeatsUptoSaid : Prop := buildRepeatsUptoRow.holds Tryz.pinned (OpenSpec.upto buildRepeatsSpec)

/-- 'abugidalaw09.BuildScales', WHERE WHAT IT READS IS OF BULK AT MOST 1048576: true; the input reads as it did. -/
def buildScalesUptoRow : OpenClaim := { program := "ytadgpgofcjpnjaagreatdoor", sum := "b81360159ce489f0bf4fb22a39a21e6c25a5ec05a9f18155a0cd64aa78424339", func := "abugida/abugidalaw09.BuildScales", spec := "buildScales", inPlace := ["internal/bytealg.IndexByteString", "internal/bytealg.IndexString", "math/bits.Add64", "internal/bytealg.abigen_runtime_cmpstring"], unfollowed := true, recurses := true, named := ["internal/bytealg.MaxLen", "math/bits.divideError", "math/bits.overflowError", "unicode/utf8.first", "unicode/utf8.acceptRanges"], apart := false, laid := [("unicode/utf8.acceptRanges", laid_unicode_utf8_acceptRanges), ("unicode/utf8.first", laid_unicode_utf8_first)], narrowed := true }
def BuildScalesUptoSaid : Prop := buildScalesUptoRow.holds Tryz.pinned (OpenSpec.upto buildScalesSpec)

/-- 'abugidalaw09.BuildLaws', WHERE WHAT IT READS IS OF BULK AT MOST 1048576: true; the input reads as it did. -/
def buildLawsUptoRow : OpenClaim := { program := "ytadgpgofcjpnjaagreatdoor", sum := "b81360159ce489f0bf4fb22a39a21e6c25a5ec05a9f18155a0cd64aa78424339", func := "abugida/abugidalaw09.BuildLaws", spec := "buildLaws", inPlace := ["internal/bytealg.IndexByteString", "internal/bytealg.IndexString", "math/bits.Add64", "internal/bytealg.abigen_runtime_cmpstring"], unfollowed := true, recurses := true, named := ["internal/bytealg.MaxLen", "math/bits.divideError", "math/bits.overflowError", "unicode/utf8.first", "unicode/utf8.acceptRanges"], apart := false, laid := [("unicode/utf8.acceptRanges", laid_unicode_utf8_acceptRanges), ("unicode/utf8.first", laid_unicode_utf8_first)], narrowed := true }
def BuildLawsUptoSaid : Prop := buildLawsUptoRow.holds Tryz.pinned (OpenSpec.upto buildLawsSpec)

/-- 'abugidalaw09.BuildExamples', WHERE WHAT IT READS IS OF BULK AT MOST 1048576: true; the input reads as it did. -/
def buildExamplesUptoRow : OpenClaim := { program := "ytadgpgofcjpnjaagreatdoor", sum := "b81360159ce489f0bf4fb22a39a21e6c25a5ec05a9f18155a0cd64aa78424339", func := "abugida/abugidalaw09.BuildExamples", spec := "buildExamples", inPlace := ["internal/bytealg.IndexByteString", "internal/bytealg.IndexString", "math/bits.Add64", "internal/bytealg.abigen_runtime_cmpstring"], unfollowed := true, recurses := true, named := ["internal/bytealg.MaxLen", "math/bits.divideError", "math/bits.overflowError", "unicode/utf8.first", "unicode/utf8.acceptRanges"], apart := false, laid := [("unicode/utf8.acceptRanges", laid_unicode_utf8_acceptRanges), ("unicode/utf8.first", laid_unicode_utf8_first)], narrowed := true }
def BuildExamplesUptoSaid : Prop := buildExamplesUptoRow.holds Tryz.pinned (OpenSpec.upto buildExamplesSpec)

end Rows
end Go.Proofs.YtadgpgofcjpnjaaGreatDoor
