/-
  NARROWER THAN 'FOR EVERY INPUT', by the rows' own cells (each row's printed sentence says how): MachineExamples: laid · MachineValid: laid · MachineTrims: laid · MachineTrimmed: laid · MachineRenumbered: laid.
  DERIVED. THE GIVEN ROWS OF THIS SEAT. 5 by the template 'for every input the law returns true; each argument reads behind the call as it read before'; 0 by the template 'total and deterministic' (their statements: YtbmonhnojkiapaaGreatDoorTotals.lean).
  GIVEN WITH THE SEED: the statements are not yours to turn. If you find one false, say at which input.
  Laid BY PROGRAM, IN A SANDBOX (cutbox-rows.mjs): the forced cells as the released guide's own fill.sh prints them over the translation 058976d2963ec44c… (all of the seat's roots in one cut). By AI agents, Wed Nov 11 2026. No macro, syntax, notation, axiom, sorry.
-/
import Derived.Test.YtbmonhnojkiapaaGreatDoorChecked
import GoSem.PinnedTables
import GoSem.Claim
import GoSem.ClaimJoined
import GoSem.ClaimMapViews
import Derived.JoinedTies
import Derived.KernelRfl
namespace Go.Proofs.YtbmonhnojkiapaaGreatDoor
/- THE CELL 'sum', in the pinned program and in every row, IS THE sha256 OF THE DUMP (.gsa) THAT YtbmonhnojkiapaaGreatDoorProg.lean LOADS. Nothing in Lean hashes anything: it is a label: what it is worth is what the hold of that sum in a sandbox is worth. -/
noncomputable def Tryz.pinned : Pinned := { name := "ytbmonhnojkiapaagreatdoor", sum := "058976d2963ec44c2a93c16f2f56c1faeed1ffe1da75f9623b6b005b4a3e9398", checked := Tryz.checked }
namespace Rows
def none {H : Type} : Left H := { results := [], args := [] }

/- WHAT THE LISTED PACKAGE-LEVEL VARIABLES READ AS WHEN THE CALL BEGINS. Each datum BY PROGRAM (the guide's laid-datum.mjs) off the statement by which the dump's own 'gosem.cut.vars' lays the variable. In a bare row this is a premise. The card (YtbmonhnojkiapaaGreatDoorCards.lean) ties it to the program's text. -/
def laid_unicode_utf8_acceptRanges {H : Type} : DataW H := .agg [.agg [.lit (.int .u8 128), .lit (.int .u8 191)], .agg [.lit (.int .u8 160), .lit (.int .u8 191)], .agg [.lit (.int .u8 128), .lit (.int .u8 159)], .agg [.lit (.int .u8 144), .lit (.int .u8 191)], .agg [.lit (.int .u8 128), .lit (.int .u8 143)], .agg [.lit (.int .u8 0), .lit (.int .u8 0)], .agg [.lit (.int .u8 0), .lit (.int .u8 0)], .agg [.lit (.int .u8 0), .lit (.int .u8 0)], .agg [.lit (.int .u8 0), .lit (.int .u8 0)], .agg [.lit (.int .u8 0), .lit (.int .u8 0)], .agg [.lit (.int .u8 0), .lit (.int .u8 0)], .agg [.lit (.int .u8 0), .lit (.int .u8 0)], .agg [.lit (.int .u8 0), .lit (.int .u8 0)], .agg [.lit (.int .u8 0), .lit (.int .u8 0)], .agg [.lit (.int .u8 0), .lit (.int .u8 0)], .agg [.lit (.int .u8 0), .lit (.int .u8 0)]]
/-- One of Go's own tables, pinned by name: the form's constant. -/
def laid_unicode_utf8_first : DataW Unit := Go.Pinned.utf8First

/-- 'abugidalaw06.MachineExamples': WHATEVER THE INPUT: true; the input reads as it did. -/
def machineExamplesSpec : ChangeSpec := { name := "machineExamples", fn := fun _ => fun
  | [] => { results := [.lit (.bool true)], args := [] }
  | _ => none }
def machineExamplesRow : OpenClaim := { program := "ytbmonhnojkiapaagreatdoor", sum := "058976d2963ec44c2a93c16f2f56c1faeed1ffe1da75f9623b6b005b4a3e9398", func := "abugida/abugidalaw06.MachineExamples", spec := "machineExamples", inPlace := ["internal/bytealg.IndexByteString", "internal/bytealg.IndexString", "math/bits.Add64", "internal/bytealg.abigen_runtime_cmpstring"], unfollowed := true, recurses := true, named := ["internal/bytealg.MaxLen", "math/bits.divideError", "math/bits.overflowError", "unicode/utf8.first", "unicode/utf8.acceptRanges"], apart := false, laid := [("unicode/utf8.acceptRanges", laid_unicode_utf8_acceptRanges), ("unicode/utf8.first", laid_unicode_utf8_first)] }
def MachineExamplesSaid : Prop := machineExamplesRow.holds Tryz.pinned (OpenSpec.ofChange machineExamplesSpec)

/-- ITS FALSE NEIGHBOUR: 'it returns false'. Refute it at one input. -/
def machineExamplesWrong : ChangeSpec := { name := "machineExamples", fn := fun _ => fun
  | [] => { results := [.lit (.bool false)], args := [] }
  | _ => none }
def MachineExamplesWrongFalsely : Prop := machineExamplesRow.holds Tryz.pinned (OpenSpec.ofChange machineExamplesWrong)

/-- 'abugidalaw06.MachineValid': WHATEVER THE INPUT: true; the input reads as it did. -/
def machineValidSpec : ChangeSpec := { name := "machineValid", fn := fun _ => fun
  | [d] => { results := [.lit (.bool true)], args := [d] }
  | _ => none }
def machineValidRow : OpenClaim := { program := "ytbmonhnojkiapaagreatdoor", sum := "058976d2963ec44c2a93c16f2f56c1faeed1ffe1da75f9623b6b005b4a3e9398", func := "abugida/abugidalaw06.MachineValid", spec := "machineValid", inPlace := ["internal/bytealg.IndexByteString", "internal/bytealg.IndexString", "math/bits.Add64", "internal/bytealg.abigen_runtime_cmpstring"], unfollowed := true, recurses := true, named := ["internal/bytealg.MaxLen", "math/bits.divideError", "math/bits.overflowError", "unicode/utf8.first", "unicode/utf8.acceptRanges"], apart := false, laid := [("unicode/utf8.acceptRanges", laid_unicode_utf8_acceptRanges), ("unicode/utf8.first", laid_unicode_utf8_first)] }
def MachineValidSaid : Prop := machineValidRow.holds Tryz.pinned (OpenSpec.ofChange machineValidSpec)

/-- ITS FALSE NEIGHBOUR: 'it returns false'. Refute it at one input. -/
def machineValidWrong : ChangeSpec := { name := "machineValid", fn := fun _ => fun
  | [d] => { results := [.lit (.bool false)], args := [d] }
  | _ => none }
def MachineValidWrongFalsely : Prop := machineValidRow.holds Tryz.pinned (OpenSpec.ofChange machineValidWrong)

/-- 'abugidalaw06.MachineTrims': WHATEVER THE INPUT: true; the input reads as it did. -/
def machineTrimsSpec : ChangeSpec := { name := "machineTrims", fn := fun _ => fun
  | [d1, d2] => { results := [.lit (.bool true)], args := [d1, d2] }
  | _ => none }
def machineTrimsRow : OpenClaim := { program := "ytbmonhnojkiapaagreatdoor", sum := "058976d2963ec44c2a93c16f2f56c1faeed1ffe1da75f9623b6b005b4a3e9398", func := "abugida/abugidalaw06.MachineTrims", spec := "machineTrims", inPlace := ["internal/bytealg.IndexByteString", "internal/bytealg.IndexString", "math/bits.Add64", "internal/bytealg.abigen_runtime_cmpstring"], unfollowed := true, recurses := true, named := ["internal/bytealg.MaxLen", "math/bits.divideError", "math/bits.overflowError", "unicode/utf8.first", "unicode/utf8.acceptRanges"], apart := false, laid := [("unicode/utf8.acceptRanges", laid_unicode_utf8_acceptRanges), ("unicode/utf8.first", laid_unicode_utf8_first)] }
def MachineTrimsSaid : Prop := machineTrimsRow.holds Tryz.pinned (OpenSpec.ofChange machineTrimsSpec)

/-- ITS FALSE NEIGHBOUR: 'it returns false'. Refute it at one input. -/
def machineTrimsWrong : ChangeSpec := { name := "machineTrims", fn := fun _ => fun
  | [d1, d2] => { results := [.lit (.bool false)], args := [d1, d2] }
  | _ => none }
def MachineTrimsWrongFalsely : Prop := machineTrimsRow.holds Tryz.pinned (OpenSpec.ofChange machineTrimsWrong)

/-- 'abugidalaw06.MachineTrimmed': WHATEVER THE INPUT: true; the input reads as it did. -/
def machineTrimmedSpec : ChangeSpec := { name := "machineTrimmed", fn := fun _ => fun
  | [d] => { results := [.lit (.bool true)], args := [d] }
  | _ => none }
def machineTrimmedRow : OpenClaim := { program := "ytbmonhnojkiapaagreatdoor", sum := "058976d2963ec44c2a93c16f2f56c1faeed1ffe1da75f9623b6b005b4a3e9398", func := "abugida/abugidalaw06.MachineTrimmed", spec := "machineTrimmed", inPlace := ["internal/bytealg.IndexByteString", "internal/bytealg.IndexString", "math/bits.Add64", "internal/bytealg.abigen_runtime_cmpstring"], unfollowed := true, recurses := true, named := ["internal/bytealg.MaxLen", "math/bits.divideError", "math/bits.overflowError", "unicode/utf8.first", "unicode/utf8.acceptRanges"], apart := false, laid := [("unicode/utf8.acceptRanges", laid_unicode_utf8_acceptRanges), ("unicode/utf8.first", laid_unicode_utf8_first)] }
def MachineTrimmedSaid : Prop := machineTrimmedRow.holds Tryz.pinned (OpenSpec.ofChange machineTrimmedSpec)

/-- ITS FALSE NEIGHBOUR: 'it returns false'. Refute it at one input. -/
def machineTrimmedWrong : ChangeSpec := { name := "machineTrimmed", fn := fun _ => fun
  | [d] => { results := [.lit (.bool false)], args := [d] }
  | _ => none }
def MachineTrimmedWrongFalsely : Prop := machineTrimmedRow.holds Tryz.pinned (OpenSpec.ofChange machineTrimmedWrong)

/-- 'abugidalaw06.MachineRenumbered': WHATEVER THE INPUT: true; the input reads as it did. -/
def machineRenumberedSpec : ChangeSpec := { name := "machineRenumbered", fn := fun _ => fun
  | [d1, d2] => { results := [.lit (.bool true)], args := [d1, d2] }
  | _ => none }
def machineRenumberedRow : OpenClaim := { program := "ytbmonhnojkiapaagreatdoor", sum := "058976d2963ec44c2a93c16f2f56c1faeed1ffe1da75f9623b6b005b4a3e9398", func := "abugida/abugidalaw06.MachineRenumbered", spec := "machineRenumbered", inPlace := ["internal/bytealg.IndexByteString", "internal/bytealg.IndexString", "math/bits.Add64", "internal/bytealg.abigen_runtime_cmpstring"], unfollowed := true, recurses := true, named := ["internal/bytealg.MaxLen", "math/bits.divideError", "math/bits.overflowError", "unicode/utf8.first", "unicode/utf8.acceptRanges"], apart := false, laid := [("unicode/utf8.acceptRanges", laid_unicode_utf8_acceptRanges), ("unicode/utf8.first", laid_unicode_utf8_first)] }
def MachineRenumberedSaid : Prop := machineRenumberedRow.holds Tryz.pinned (OpenSpec.ofChange machineRenumberedSpec)

/-- ITS FALSE NEIGHBOUR: 'it returns false'. Refute it at one input. -/
def machineRenumberedWrong : ChangeSpec := { name := "machineRenumbered", fn := fun _ => fun
  | [d1, d2] => { results := [.lit (.bool false)], args := [d1, d2] }
  | _ => none }
def MachineRenumberedWrongFalsely : Prop := machineRenumberedRow.holds Tryz.pinned (OpenSpec.ofChange machineRenumberedWrong)

/- THE SECOND FORM. 'bulk': how many values and letters a reading holds, each counted each time it is reached (what is shared counts as often as it is met; a slice's spare places count too). A statement '..UptoSaid' is the law's where the arguments, and the package variables that the reading takes, are together of bulk at most 1048576: NARROWER than '..Said'. Prove '..Said' where nothing that the law and all that it calls make is longer than what came in: it says more and counts as full. Else prove '..UptoSaid'. A law counts once. -/
mutual
def uptoBulk {H : Type} : DataW H → Nat
  | .lit (.string bytes) => bytes.length + 1
  | .lit _ => 1
  | .nil => 1
  | .ptr d => uptoBulk d + 1
  | .slice elems spare => uptoBulkAll elems + uptoBulkAll spare + 1
  | .agg parts => uptoBulkAll parts + 1
  | .iface _ d => uptoBulk d + 1
  | .map entries => uptoBulkEntries entries + 1
  | .held _ => 1
def uptoBulkAll {H : Type} : List (DataW H) → Nat
  | [] => 0
  | d :: r => uptoBulk d + uptoBulkAll r
def uptoBulkEntries {H : Type} : List (Lit × DataW H) → Nat
  | [] => 0
  | x :: r => uptoBulkEntry x + uptoBulkEntries r
def uptoBulkEntry {H : Type} : Lit × DataW H → Nat
  | (.string bytes, d) => bytes.length + uptoBulk d + 1
  | (_, d) => uptoBulk d + 1
 end
def uptoSmall : (H : Type) → List (DataW H) → Bool := fun _ ds => decide (uptoBulkAll ds ≤ 1048576)
def OpenSpec.upto (s : _root_.Go.ChangeSpec) : _root_.Go.OpenSpec := { _root_.Go.OpenSpec.ofChange s with cond := some uptoSmall }

/-- 'abugidalaw06.MachineExamples', WHERE WHAT IT READS IS OF BULK AT MOST 1048576: true; the input reads as it did. -/
def machineExamplesUptoRow : OpenClaim := { program := "ytbmonhnojkiapaagreatdoor", sum := "058976d2963ec44c2a93c16f2f56c1faeed1ffe1da75f9623b6b005b4a3e9398", func := "abugida/abugidalaw06.MachineExamples", spec := "machineExamples", inPlace := ["internal/bytealg.IndexByteString", "internal/bytealg.IndexString", "math/bits.Add64", "internal/bytealg.abigen_runtime_cmpstring"], unfollowed := true, recurses := true, named := ["internal/bytealg.MaxLen", "math/bits.divideError", "math/bits.overflowError", "unicode/utf8.first", "unicode/utf8.acceptRanges"], apart := false, laid := [("unicode/utf8.acceptRanges", laid_unicode_utf8_acceptRanges), ("unicode/utf8.first", laid_unicode_utf8_first)], narrowed := true }
def MachineExamplesUptoSaid : Prop := machineExamplesUptoRow.holds Tryz.pinned (OpenSpec.upto machineExamplesSpec)

/-- 'abugidalaw06.MachineValid', WHERE WHAT IT READS IS OF BULK AT MOST 1048576: true; the input reads as it did. -/
def machineValidUptoRow : OpenClaim := { program := "ytbmonhnojkiapaagreatdoor", sum := "058976d2963ec44c2a93c16f2f56c1faeed1ffe1da75f9623b6b005b4a3e9398", func := "abugida/abugidalaw06.MachineValid", spec := "machineValid", inPlace := ["internal/bytealg.IndexByteString", "internal/bytealg.IndexString", "math/bits.Add64", "internal/bytealg.abigen_runtime_cmpstring"], unfollowed := true, recurses := true, named := ["internal/bytealg.MaxLen", "math/bits.divideError", "math/bits.overflowError", "unicode/utf8.first", "unicode/utf8.acceptRanges"], apart := false, laid := [("unicode/utf8.acceptRanges", laid_unicode_utf8_acceptRanges), ("unicode/utf8.first", laid_unicode_utf8_first)], narrowed := true }
def MachineValidUptoSaid : Prop := machineValidUptoRow.holds Tryz.pinned (OpenSpec.upto machineValidSpec)

/-- 'abugidalaw06.MachineTrims', WHERE WHAT IT READS IS OF BULK AT MOST 1048576: true; the input reads as it did. -/
def machineTrimsUptoRow : OpenClaim := { program := "ytbmonhnojkiapaagreatdoor", sum := "058976d2963ec44c2a93c16f2f56c1faeed1ffe1da75f9623b6b005b4a3e9398", func := "abugida/abugidalaw06.MachineTrims", spec := "machineTrims", inPlace := ["internal/bytealg.IndexByteString", "internal/bytealg.IndexString", "math/bits.Add64", "internal/bytealg.abigen_runtime_cmpstring"], unfollowed := true, recurses := true, named := ["internal/bytealg.MaxLen", "math/bits.divideError", "math/bits.overflowError", "unicode/utf8.first", "unicode/utf8.acceptRanges"], apart := false, laid := [("unicode/utf8.acceptRanges", laid_unicode_utf8_acceptRanges), ("unicode/utf8.first", laid_unicode_utf8_first)], narrowed := true }
def MachineTrimsUptoSaid : Prop := machineTrimsUptoRow.holds Tryz.pinned (OpenSpec.upto machineTrimsSpec)

/-- 'abugidalaw06.MachineTrimmed', WHERE WHAT IT READS IS OF BULK AT MOST 1048576: true; the input reads as it did. -/
def machineTrimmedUptoRow : OpenClaim := { program := "ytbmonhnojkiapaagreatdoor", sum := "058976d2963ec44c2a93c16f2f56c1faeed1ffe1da75f9623b6b005b4a3e9398", func := "abugida/abugidalaw06.MachineTrimmed", spec := "machineTrimmed", inPlace := ["internal/bytealg.IndexByteString", "internal/bytealg.IndexString", "math/bits.Add64", "internal/bytealg.abigen_runtime_cmpstring"], unfollowed := true, recurses := true, named := ["internal/bytealg.MaxLen", "math/bits.divideError", "math/bits.overflowError", "unicode/utf8.first", "unicode/utf8.acceptRanges"], apart := false, laid := [("unicode/utf8.acceptRanges", laid_unicode_utf8_acceptRanges), ("unicode/utf8.first", laid_unicode_utf8_first)], narrowed := true }
def MachineTrimmedUptoSaid : Prop := machineTrimmedUptoRow.holds Tryz.pinned (OpenSpec.upto machineTrimmedSpec)

/-- 'abugidalaw06.MachineRenumbered', WHERE WHAT IT READS IS OF BULK AT MOST 1048576: true; the input reads as it did. -/
def machineRenumberedUptoRow : OpenClaim := { program := "ytbmonhnojkiapaagreatdoor", sum := "058976d2963ec44c2a93c16f2f56c1faeed1ffe1da75f9623b6b005b4a3e9398", func := "abugida/abugidalaw06.MachineRenumbered", spec := "machineRenumbered", inPlace := ["internal/bytealg.IndexByteString", "internal/bytealg.IndexString", "math/bits.Add64", "internal/bytealg.abigen_runtime_cmpstring"], unfollowed := true, recurses := true, named := ["internal/bytealg.MaxLen", "math/bits.divideError", "math/bits.overflowError", "unicode/utf8.first", "unicode/utf8.acceptRanges"], apart := false, laid := [("unicode/utf8.acceptRanges", laid_unicode_utf8_acceptRanges), ("unicode/utf8.first", laid_unicode_utf8_first)], narrowed := true }
def MachineRenumberedUptoSaid : Prop := machineRenumberedUptoRow.holds Tryz.pinned (OpenSpec.upto machineRenumberedSpec)

end Rows
end Go.Proofs.YtbmonhnojkiapaaGreatDoor
