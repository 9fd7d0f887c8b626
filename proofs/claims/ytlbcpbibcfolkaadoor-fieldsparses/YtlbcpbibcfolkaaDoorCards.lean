/-
  DERIVED. GIVEN WITH THE SEED: THE CARDS: each row of YtlbcpbibcfolkaaDoorRows.lean that lists a variable, with what it lists TIED to the program's text (the seventh form; the later family's looks); each row that meets fmt, with fmt's text TOLD by the authors' own Lean function (tested against real Go, not proved from fmt's source: count such statements apart). THE CARD IS WHAT COUNTS. Prove the row's statement (the work); the ties are given (YtlbcpbibcfolkaaDoorTie.lean); close each card by the builder's one call (the guide's Derived/Test/ToyasCard.lean, 'card_holds'). Laid BY PROGRAM, IN A SANDBOX (cutbox-door.mjs). By AI agents, Wed Nov 11 2026. No macro, syntax, notation, axiom, sorry.
-/
import Derived.Test.YtlbcpbibcfolkaaDoorRows
import GoSem.ClaimSeven
namespace Go.Proofs.YtlbcpbibcfolkaaDoor
namespace Rows

/-- THE TIED CARD OF 'ingotlaw22.FieldsEscapes'. -/
def fieldsEscapesCard : Claim7 := { stood := { row := fieldsEscapesRow, standIns := [], harness := (true, "3943f308a848c1656b12445553b421f6e86dce8264f6574e73784a9c0f7983fb"), looks := true }, kinds := [], alts := [], laidByText := true, laidKinds := [.handle], laidTests := true, laidLooks := .later }
def FieldsEscapesCardSaid : Prop := Claim7.holds Tryd.pinned (.plain (OpenSpec.ofChange fieldsEscapesSpec)) fieldsEscapesCard

/-- THE TIED CARD OF 'ingotlaw22.FieldsPrints'. -/
def fieldsPrintsCard : Claim7 := { stood := { row := fieldsPrintsRow, standIns := [], harness := (true, "3943f308a848c1656b12445553b421f6e86dce8264f6574e73784a9c0f7983fb"), looks := true }, kinds := [], alts := [], laidByText := true, laidKinds := [.handle], laidTests := true, laidLooks := .later }
def FieldsPrintsCardSaid : Prop := Claim7.holds Tryd.pinned (.plain (OpenSpec.ofChange fieldsPrintsSpec)) fieldsPrintsCard

/-- THE TIED CARD OF 'ingotlaw22.FieldsParses'. -/
def fieldsParsesCard : Claim7 := { stood := { row := fieldsParsesRow, standIns := [], harness := (true, "3943f308a848c1656b12445553b421f6e86dce8264f6574e73784a9c0f7983fb"), looks := true }, kinds := [], alts := [], laidByText := true, laidKinds := [.handle], laidTests := true, laidLooks := .later }
def FieldsParsesCardSaid : Prop := Claim7.holds Tryd.pinned (.plain (OpenSpec.ofChange fieldsParsesSpec)) fieldsParsesCard

/-- THE TIED CARD OF 'ingotlaw22.FieldsBack'. -/
def fieldsBackCard : Claim7 := { stood := { row := fieldsBackRow, standIns := [], harness := (true, "3943f308a848c1656b12445553b421f6e86dce8264f6574e73784a9c0f7983fb"), looks := true }, kinds := [], alts := [], laidByText := true, laidKinds := [.handle], laidTests := true, laidLooks := .later }
def FieldsBackCardSaid : Prop := Claim7.holds Tryd.pinned (.plain (OpenSpec.ofChange fieldsBackSpec)) fieldsBackCard

/-- THE TIED CARD OF 'ingotlaw22.FieldsPlain'. -/
def fieldsPlainCard : Claim7 := { stood := { row := fieldsPlainRow, standIns := [], harness := (true, "3943f308a848c1656b12445553b421f6e86dce8264f6574e73784a9c0f7983fb"), looks := true }, kinds := [], alts := [], laidByText := true, laidKinds := [.handle], laidTests := true, laidLooks := .later }
def FieldsPlainCardSaid : Prop := Claim7.holds Tryd.pinned (.plain (OpenSpec.ofChange fieldsPlainSpec)) fieldsPlainCard

/-- THE TIED CARD OF 'ingotlaw22.FieldsGets'. -/
def fieldsGetsCard : Claim7 := { stood := { row := fieldsGetsRow, standIns := [], harness := (true, "3943f308a848c1656b12445553b421f6e86dce8264f6574e73784a9c0f7983fb"), looks := true }, kinds := [], alts := [], laidByText := true, laidKinds := [.handle], laidTests := true, laidLooks := .later }
def FieldsGetsCardSaid : Prop := Claim7.holds Tryd.pinned (.plain (OpenSpec.ofChange fieldsGetsSpec)) fieldsGetsCard

/-- THE SECOND FORM's CARD OF 'ingotlaw22.FieldsEscapes'. -/
def fieldsEscapesUptoCard : Claim7 := { stood := { row := fieldsEscapesUptoRow, standIns := [], harness := (true, "3943f308a848c1656b12445553b421f6e86dce8264f6574e73784a9c0f7983fb"), looks := true }, kinds := [], alts := [], laidByText := true, laidKinds := [.handle], laidTests := true, laidLooks := .later }
def FieldsEscapesUptoCardSaid : Prop := Claim7.holds Tryd.pinned (.plain (OpenSpec.upto fieldsEscapesSpec)) fieldsEscapesUptoCard

/-- THE SECOND FORM's CARD OF 'ingotlaw22.FieldsPrints'. -/
def fieldsPrintsUptoCard : Claim7 := { stood := { row := fieldsPrintsUptoRow, standIns := [], harness := (true, "3943f308a848c1656b12445553b421f6e86dce8264f6574e73784a9c0f7983fb"), looks := true }, kinds := [], alts := [], laidByText := true, laidKinds := [.handle], laidTests := true, laidLooks := .later }
def FieldsPrintsUptoCardSaid : Prop := Claim7.holds Tryd.pinned (.plain (OpenSpec.upto fieldsPrintsSpec)) fieldsPrintsUptoCard

/-- THE SECOND FORM's CARD OF 'ingotlaw22.FieldsParses'. -/
def fieldsParsesUptoCard : Claim7 := { stood := { row := fieldsParsesUptoRow, standIns := [], harness := (true, "3943f308a848c1656b12445553b421f6e86dce8264f6574e73784a9c0f7983fb"), looks := true }, kinds := [], alts := [], laidByText := true, laidKinds := [.handle], laidTests := true, laidLooks := .later }
def FieldsParsesUptoCardSaid : Prop := Claim7.holds Tryd.pinned (.plain (OpenSpec.upto fieldsParsesSpec)) fieldsParsesUptoCard

/-- THE SECOND FORM's CARD OF 'ingotlaw22.FieldsBack'. -/
def fieldsBackUptoCard : Claim7 := { stood := { row := fieldsBackUptoRow, standIns := [], harness := (true, "3943f308a848c1656b12445553b421f6e86dce8264f6574e73784a9c0f7983fb"), looks := true }, kinds := [], alts := [], laidByText := true, laidKinds := [.handle], laidTests := true, laidLooks := .later }
def FieldsBackUptoCardSaid : Prop := Claim7.holds Tryd.pinned (.plain (OpenSpec.upto fieldsBackSpec)) fieldsBackUptoCard

/-- THE SECOND FORM's CARD OF 'ingotlaw22.FieldsPlain'. -/
def fieldsPlainUptoCard : Claim7 := { stood := { row := fieldsPlainUptoRow, standIns := [], harness := (true, "3943f308a848c1656b12445553b421f6e86dce8264f6574e73784a9c0f7983fb"), looks := true }, kinds := [], alts := [], laidByText := true, laidKinds := [.handle], laidTests := true, laidLooks := .later }
def FieldsPlainUptoCardSaid : Prop := Claim7.holds Tryd.pinned (.plain (OpenSpec.upto fieldsPlainSpec)) fieldsPlainUptoCard

/-- THE SECOND FORM's CARD OF 'ingotlaw22.FieldsGets'. -/
def fieldsGetsUptoCard : Claim7 := { stood := { row := fieldsGetsUptoRow, standIns := [], harness := (true, "3943f308a848c1656b12445553b421f6e86dce8264f6574e73784a9c0f7983fb"), looks := true }, kinds := [], alts := [], laidByText := true, laidKinds := [.handle], laidTests := true, laidLooks := .later }
def FieldsGetsUptoCardSaid : Prop := Claim7.holds Tryd.pinned (.plain (OpenSpec.upto fieldsGetsSpec)) fieldsGetsUptoCard
end Rows
end Go.Proofs.YtlbcpbibcfolkaaDoor
