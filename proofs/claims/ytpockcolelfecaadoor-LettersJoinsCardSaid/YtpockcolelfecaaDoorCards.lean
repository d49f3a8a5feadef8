/-
  DERIVED. GIVEN WITH THE SEED: THE CARDS: each row of YtpockcolelfecaaDoorRows.lean that lists a variable, with what it lists TIED to the program's text (the seventh form; the later family's looks); each row that meets fmt, with fmt's text TOLD by the authors' own Lean function (tested against real Go, not proved from fmt's source: count such statements apart). THE CARD IS WHAT COUNTS. Prove the row's statement (the work); the ties are given (YtpockcolelfecaaDoorTie.lean); close each card by the builder's one call (the guide's Derived/Test/ToyasCard.lean, 'card_holds'). Laid BY PROGRAM, IN A SANDBOX (cutbox-door.mjs). By AI agents, Wed Nov 11 2026. No macro, syntax, notation, axiom, sorry.
-/
import Derived.Test.YtpockcolelfecaaDoorRows
import GoSem.ClaimSeven
namespace Go.Proofs.YtpockcolelfecaaDoor
namespace Rows

/-- THE TIED CARD OF 'abugidalaw01.LettersExamples'. -/
def lettersExamplesCard : Claim7 := { stood := { row := lettersExamplesRow, standIns := [], harness := (true, "ec4a12343dd75d68b7e4e54b06148b65ffa7444a20b3540df38d75bd7a4e1cc7"), looks := false }, kinds := [], alts := [], laidByText := true, laidKinds := [.data, .data, .pinned], laidTests := true, laidLooks := .later }
def LettersExamplesCardSaid : Prop := Claim7.holds Tryd.pinned (.plain (OpenSpec.ofChange lettersExamplesSpec)) lettersExamplesCard

/-- THE TIED CARD OF 'abugidalaw01.LettersSplits'. -/
def lettersSplitsCard : Claim7 := { stood := { row := lettersSplitsRow, standIns := [], harness := (true, "ec4a12343dd75d68b7e4e54b06148b65ffa7444a20b3540df38d75bd7a4e1cc7"), looks := false }, kinds := [], alts := [], laidByText := true, laidKinds := [.data, .data, .pinned], laidTests := true, laidLooks := .later }
def LettersSplitsCardSaid : Prop := Claim7.holds Tryd.pinned (.plain (OpenSpec.ofChange lettersSplitsSpec)) lettersSplitsCard

/-- THE TIED CARD OF 'abugidalaw01.LettersJoins'. -/
def lettersJoinsCard : Claim7 := { stood := { row := lettersJoinsRow, standIns := [], harness := (true, "ec4a12343dd75d68b7e4e54b06148b65ffa7444a20b3540df38d75bd7a4e1cc7"), looks := false }, kinds := [], alts := [], laidByText := true, laidKinds := [.data, .data, .pinned], laidTests := true, laidLooks := .later }
def LettersJoinsCardSaid : Prop := Claim7.holds Tryd.pinned (.plain (OpenSpec.ofChange lettersJoinsSpec)) lettersJoinsCard

/-- THE TIED CARD OF 'abugidalaw01.LettersChanges'. -/
def lettersChangesCard : Claim7 := { stood := { row := lettersChangesRow, standIns := [], harness := (true, "ec4a12343dd75d68b7e4e54b06148b65ffa7444a20b3540df38d75bd7a4e1cc7"), looks := false }, kinds := [], alts := [], laidByText := true, laidKinds := [.data, .data, .pinned], laidTests := true, laidLooks := .later }
def LettersChangesCardSaid : Prop := Claim7.holds Tryd.pinned (.plain (OpenSpec.ofChange lettersChangesSpec)) lettersChangesCard

/-- THE TIED CARD OF 'abugidalaw01.LettersCase'. -/
def lettersCaseCard : Claim7 := { stood := { row := lettersCaseRow, standIns := [], harness := (true, "ec4a12343dd75d68b7e4e54b06148b65ffa7444a20b3540df38d75bd7a4e1cc7"), looks := false }, kinds := [], alts := [], laidByText := true, laidKinds := [.data, .data, .pinned], laidTests := true, laidLooks := .later }
def LettersCaseCardSaid : Prop := Claim7.holds Tryd.pinned (.plain (OpenSpec.ofChange lettersCaseSpec)) lettersCaseCard

/-- THE TIED CARD OF 'abugidalaw01.LettersQuotes'. -/
def lettersQuotesCard : Claim7 := { stood := { row := lettersQuotesRow, standIns := [], harness := (true, "ec4a12343dd75d68b7e4e54b06148b65ffa7444a20b3540df38d75bd7a4e1cc7"), looks := false }, kinds := [], alts := [], laidByText := true, laidKinds := [.data, .data, .pinned], laidTests := true, laidLooks := .later }
def LettersQuotesCardSaid : Prop := Claim7.holds Tryd.pinned (.plain (OpenSpec.ofChange lettersQuotesSpec)) lettersQuotesCard

/-- THE TIED CARD OF 'abugidalaw01.LettersUnquotes'. -/
def lettersUnquotesCard : Claim7 := { stood := { row := lettersUnquotesRow, standIns := [], harness := (true, "ec4a12343dd75d68b7e4e54b06148b65ffa7444a20b3540df38d75bd7a4e1cc7"), looks := false }, kinds := [], alts := [], laidByText := true, laidKinds := [.data, .data, .pinned], laidTests := true, laidLooks := .later }
def LettersUnquotesCardSaid : Prop := Claim7.holds Tryd.pinned (.plain (OpenSpec.ofChange lettersUnquotesSpec)) lettersUnquotesCard

/-- THE TIED CARD OF 'abugidalaw01.LettersUnits'. -/
def lettersUnitsCard : Claim7 := { stood := { row := lettersUnitsRow, standIns := [], harness := (true, "ec4a12343dd75d68b7e4e54b06148b65ffa7444a20b3540df38d75bd7a4e1cc7"), looks := false }, kinds := [], alts := [], laidByText := true, laidKinds := [.data, .data, .pinned], laidTests := true, laidLooks := .later }
def LettersUnitsCardSaid : Prop := Claim7.holds Tryd.pinned (.plain (OpenSpec.ofChange lettersUnitsSpec)) lettersUnitsCard

/-- THE TIED CARD OF 'abugidalaw01.LettersOrder'. -/
def lettersOrderCard : Claim7 := { stood := { row := lettersOrderRow, standIns := [], harness := (true, "ec4a12343dd75d68b7e4e54b06148b65ffa7444a20b3540df38d75bd7a4e1cc7"), looks := false }, kinds := [], alts := [], laidByText := true, laidKinds := [.data, .data, .pinned], laidTests := true, laidLooks := .later }
def LettersOrderCardSaid : Prop := Claim7.holds Tryd.pinned (.plain (OpenSpec.ofChange lettersOrderSpec)) lettersOrderCard

/-- THE SECOND FORM's CARD OF 'abugidalaw01.LettersExamples'. -/
def lettersExamplesUptoCard : Claim7 := { stood := { row := lettersExamplesUptoRow, standIns := [], harness := (true, "ec4a12343dd75d68b7e4e54b06148b65ffa7444a20b3540df38d75bd7a4e1cc7"), looks := false }, kinds := [], alts := [], laidByText := true, laidKinds := [.data, .data, .pinned], laidTests := true, laidLooks := .later }
def LettersExamplesUptoCardSaid : Prop := Claim7.holds Tryd.pinned (.plain (OpenSpec.upto lettersExamplesSpec)) lettersExamplesUptoCard

/-- THE SECOND FORM's CARD OF 'abugidalaw01.LettersSplits'. -/
def lettersSplitsUptoCard : Claim7 := { stood := { row := lettersSplitsUptoRow, standIns := [], harness := (true, "ec4a12343dd75d68b7e4e54b06148b65ffa7444a20b3540df38d75bd7a4e1cc7"), looks := false }, kinds := [], alts := [], laidByText := true, laidKinds := [.data, .data, .pinned], laidTests := true, laidLooks := .later }
def LettersSplitsUptoCardSaid : Prop := Claim7.holds Tryd.pinned (.plain (OpenSpec.upto lettersSplitsSpec)) lettersSplitsUptoCard

/-- THE SECOND FORM's CARD OF 'abugidalaw01.LettersJoins'. -/
def lettersJoinsUptoCard : Claim7 := { stood := { row := lettersJoinsUptoRow, standIns := [], harness := (true, "ec4a12343dd75d68b7e4e54b06148b65ffa7444a20b3540df38d75bd7a4e1cc7"), looks := false }, kinds := [], alts := [], laidByText := true, laidKinds := [.data, .data, .pinned], laidTests := true, laidLooks := .later }
def LettersJoinsUptoCardSaid : Prop := Claim7.holds Tryd.pinned (.plain (OpenSpec.upto lettersJoinsSpec)) lettersJoinsUptoCard

/-- THE SECOND FORM's CARD OF 'abugidalaw01.LettersChanges'. -/
def lettersChangesUptoCard : Claim7 := { stood := { row := lettersChangesUptoRow, standIns := [], harness := (true, "ec4a12343dd75d68b7e4e54b06148b65ffa7444a20b3540df38d75bd7a4e1cc7"), looks := false }, kinds := [], alts := [], laidByText := true, laidKinds := [.data, .data, .pinned], laidTests := true, laidLooks := .later }
def LettersChangesUptoCardSaid : Prop := Claim7.holds Tryd.pinned (.plain (OpenSpec.upto lettersChangesSpec)) lettersChangesUptoCard

/-- THE SECOND FORM's CARD OF 'abugidalaw01.LettersCase'. -/
def lettersCaseUptoCard : Claim7 := { stood := { row := lettersCaseUptoRow, standIns := [], harness := (true, "ec4a12343dd75d68b7e4e54b06148b65ffa7444a20b3540df38d75bd7a4e1cc7"), looks := false }, kinds := [], alts := [], laidByText := true, laidKinds := [.data, .data, .pinned], laidTests := true, laidLooks := .later }
def LettersCaseUptoCardSaid : Prop := Claim7.holds Tryd.pinned (.plain (OpenSpec.upto lettersCaseSpec)) lettersCaseUptoCard

/-- THE SECOND FORM's CARD OF 'abugidalaw01.LettersQuotes'. -/
def lettersQuotesUptoCard : Claim7 := { stood := { row := lettersQuotesUptoRow, standIns := [], harness := (true, "ec4a12343dd75d68b7e4e54b06148b65ffa7444a20b3540df38d75bd7a4e1cc7"), looks := false }, kinds := [], alts := [], laidByText := true, laidKinds := [.data, .data, .pinned], laidTests := true, laidLooks := .later }
def LettersQuotesUptoCardSaid : Prop := Claim7.holds Tryd.pinned (.plain (OpenSpec.upto lettersQuotesSpec)) lettersQuotesUptoCard

/-- THE SECOND FORM's CARD OF 'abugidalaw01.LettersUnquotes'. -/
def lettersUnquotesUptoCard : Claim7 := { stood := { row := lettersUnquotesUptoRow, standIns := [], harness := (true, "ec4a12343dd75d68b7e4e54b06148b65ffa7444a20b3540df38d75bd7a4e1cc7"), looks := false }, kinds := [], alts := [], laidByText := true, laidKinds := [.data, .data, .pinned], laidTests := true, laidLooks := .later }
def LettersUnquotesUptoCardSaid : Prop := Claim7.holds Tryd.pinned (.plain (OpenSpec.upto lettersUnquotesSpec)) lettersUnquotesUptoCard

/-- THE SECOND FORM's CARD OF 'abugidalaw01.LettersUnits'. -/
def lettersUnitsUptoCard : Claim7 := { stood := { row := lettersUnitsUptoRow, standIns := [], harness := (true, "ec4a12343dd75d68b7e4e54b06148b65ffa7444a20b3540df38d75bd7a4e1cc7"), looks := false }, kinds := [], alts := [], laidByText := true, laidKinds := [.data, .data, .pinned], laidTests := true, laidLooks := .later }
def LettersUnitsUptoCardSaid : Prop := Claim7.holds Tryd.pinned (.plain (OpenSpec.upto lettersUnitsSpec)) lettersUnitsUptoCard

/-- THE SECOND FORM's CARD OF 'abugidalaw01.LettersOrder'. -/
def lettersOrderUptoCard : Claim7 := { stood := { row := lettersOrderUptoRow, standIns := [], harness := (true, "ec4a12343dd75d68b7e4e54b06148b65ffa7444a20b3540df38d75bd7a4e1cc7"), looks := false }, kinds := [], alts := [], laidByText := true, laidKinds := [.data, .data, .pinned], laidTests := true, laidLooks := .later }
def LettersOrderUptoCardSaid : Prop := Claim7.holds Tryd.pinned (.plain (OpenSpec.upto lettersOrderSpec)) lettersOrderUptoCard
end Rows
end Go.Proofs.YtpockcolelfecaaDoor
