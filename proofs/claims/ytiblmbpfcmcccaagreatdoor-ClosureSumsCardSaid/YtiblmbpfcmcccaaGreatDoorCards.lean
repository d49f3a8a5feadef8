/-
  DERIVED. GIVEN WITH THE SEED: THE CARDS: each row of YtiblmbpfcmcccaaGreatDoorRows.lean that lists a variable, with what it lists TIED to the program's text (the seventh form; the later family's looks); each row that meets fmt, with fmt's text TOLD by the authors' own Lean function (tested against real Go, not proved from fmt's source: count such statements apart). THE CARD IS WHAT COUNTS. Prove the row's statement (the work); the ties are given (YtiblmbpfcmcccaaGreatDoorTie.lean); close each card by the builder's one call (the guide's Derived/Test/ToyasCard.lean, 'card_holds'). Laid BY PROGRAM, IN A SANDBOX (cutbox-door.mjs). By AI agents, Wed Nov 11 2026. No macro, syntax, notation, axiom, sorry.
-/
import Derived.Test.YtiblmbpfcmcccaaGreatDoorRows
import GoSem.ClaimSeven
namespace Go.Proofs.YtiblmbpfcmcccaaGreatDoor
namespace Rows

/-- THE TIED CARD OF 'abugidalaw07.ClosureSums'. -/
def closureSumsCard : Claim7 := { stood := { row := closureSumsRow, standIns := [], harness := (true, "763b309a511f74602dab7d9493212bec33b5ed248deff2580e6aae9a8aaf0299"), looks := true }, kinds := [], alts := [], laidByText := true, laidKinds := [.data, .pinned], laidTests := true, laidLooks := .later }
def ClosureSumsCardSaid : Prop := Claim7.holds Tryz.pinned (.plain (OpenSpec.ofChange closureSumsSpec)) closureSumsCard

/-- THE SECOND FORM's CARD OF 'abugidalaw07.ClosureSums'. -/
def closureSumsUptoCard : Claim7 := { stood := { row := closureSumsUptoRow, standIns := [], harness := (true, "763b309a511f74602dab7d9493212bec33b5ed248deff2580e6aae9a8aaf0299"), looks := true }, kinds := [], alts := [], laidByText := true, laidKinds := [.data, .pinned], laidTests := true, laidLooks := .later }
def ClosureSumsUptoCardSaid : Prop := Claim7.holds Tryz.pinned (.plain (OpenSpec.upto closureSumsSpec)) closureSumsUptoCard
end Rows
end Go.Proofs.YtiblmbpfcmcccaaGreatDoor
