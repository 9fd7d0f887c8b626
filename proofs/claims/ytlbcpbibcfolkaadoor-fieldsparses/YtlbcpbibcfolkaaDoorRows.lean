/-
  NARROWER THAN 'FOR EVERY INPUT', by the rows' own cells (each row's printed sentence says how): FieldsEscapes: laid · FieldsPrints: laid · FieldsParses: laid · FieldsBack: laid · FieldsPlain: laid · FieldsGets: laid.
  DERIVED. THE GIVEN ROWS OF THIS SEAT. 6 by the template 'for every input the law returns true; each argument reads behind the call as it read before'; 0 by the template 'total and deterministic' (their statements: YtlbcpbibcfolkaaDoorTotals.lean).
  GIVEN WITH THE SEED: the statements are not yours to turn. If you find one false, say at which input.
  Laid BY PROGRAM, IN A SANDBOX (cutbox-rows.mjs): the forced cells as the released guide's own fill.sh prints them over the translation fe296aef7bdd20ce… (all of the seat's roots in one cut). By AI agents, Wed Nov 11 2026. No macro, syntax, notation, axiom, sorry.
-/
import Derived.Test.YtlbcpbibcfolkaaDoorChecked
import GoSem.Claim
import GoSem.ClaimJoined
import GoSem.ClaimMapViews
import Derived.JoinedTies
import Derived.KernelRfl
namespace Go.Proofs.YtlbcpbibcfolkaaDoor
/- THE CELL 'sum', in the pinned program and in every row, IS THE sha256 OF THE DUMP (.gsa) THAT YtlbcpbibcfolkaaDoorProg.lean LOADS. Nothing in Lean hashes anything: it is a label: what it is worth is what the hold of that sum in a sandbox is worth. -/
noncomputable def Tryd.pinned : Pinned := { name := "ytlbcpbibcfolkaadoor", sum := "fe296aef7bdd20ce944d41c1eb78ae044b7278493faa551cd57ef31dd16bfb86", checked := Tryd.checked }
namespace Rows
def none {H : Type} : Left H := { results := [], args := [] }

/- WHAT THE LISTED PACKAGE-LEVEL VARIABLES READ AS WHEN THE CALL BEGINS. Each datum BY PROGRAM (the guide's laid-datum.mjs) off the statement by which the dump's own 'gosem.cut.vars' lays the variable. In a bare row this is a premise. The card (YtlbcpbibcfolkaaDoorCards.lean) ties it to the program's text. -/
def laid_errors_errorType {H : Type} : DataW H := .iface "internal/reflectlite.rtype" (.agg [.ptr (.lit (.string [101, 114, 114, 111, 114]))])

/-- 'ingotlaw22.FieldsEscapes': WHATEVER THE INPUT: true; the input reads as it did. -/
def fieldsEscapesSpec : ChangeSpec := { name := "fieldsEscapes", fn := fun _ => fun
  | [d] => { results := [.lit (.bool true)], args := [d] }
  | _ => none }
def fieldsEscapesRow : OpenClaim := { program := "ytlbcpbibcfolkaadoor", sum := "fe296aef7bdd20ce944d41c1eb78ae044b7278493faa551cd57ef31dd16bfb86", func := "ingot/ingotlaw22.FieldsEscapes", spec := "fieldsEscapes", inPlace := ["internal/reflectlite.ValueOf", "(internal/reflectlite.Value).Type", "(internal/reflectlite.Value).IsNil", "internal/reflectlite.TypeOf", "(internal/reflectlite.Value).Elem", "(internal/reflectlite.Value).Set", "internal/bytealg.IndexByteString"], unfollowed := true, recurses := true, named := ["errors.errorType"], apart := false, laid := [("errors.errorType", laid_errors_errorType)] }
def FieldsEscapesSaid : Prop := fieldsEscapesRow.holds Tryd.pinned (OpenSpec.ofChange fieldsEscapesSpec)

/-- ITS FALSE NEIGHBOUR: 'it returns false'. Refute it at one input. -/
def fieldsEscapesWrong : ChangeSpec := { name := "fieldsEscapes", fn := fun _ => fun
  | [d] => { results := [.lit (.bool false)], args := [d] }
  | _ => none }
def FieldsEscapesWrongFalsely : Prop := fieldsEscapesRow.holds Tryd.pinned (OpenSpec.ofChange fieldsEscapesWrong)

/-- 'ingotlaw22.FieldsPrints': WHATEVER THE INPUT: true; the input reads as it did. -/
def fieldsPrintsSpec : ChangeSpec := { name := "fieldsPrints", fn := fun _ => fun
  | [d] => { results := [.lit (.bool true)], args := [d] }
  | _ => none }
def fieldsPrintsRow : OpenClaim := { program := "ytlbcpbibcfolkaadoor", sum := "fe296aef7bdd20ce944d41c1eb78ae044b7278493faa551cd57ef31dd16bfb86", func := "ingot/ingotlaw22.FieldsPrints", spec := "fieldsPrints", inPlace := ["internal/reflectlite.ValueOf", "(internal/reflectlite.Value).Type", "(internal/reflectlite.Value).IsNil", "internal/reflectlite.TypeOf", "(internal/reflectlite.Value).Elem", "(internal/reflectlite.Value).Set", "internal/bytealg.IndexByteString"], unfollowed := true, recurses := true, named := ["errors.errorType"], apart := false, laid := [("errors.errorType", laid_errors_errorType)] }
def FieldsPrintsSaid : Prop := fieldsPrintsRow.holds Tryd.pinned (OpenSpec.ofChange fieldsPrintsSpec)

/-- ITS FALSE NEIGHBOUR: 'it returns false'. Refute it at one input. -/
def fieldsPrintsWrong : ChangeSpec := { name := "fieldsPrints", fn := fun _ => fun
  | [d] => { results := [.lit (.bool false)], args := [d] }
  | _ => none }
def FieldsPrintsWrongFalsely : Prop := fieldsPrintsRow.holds Tryd.pinned (OpenSpec.ofChange fieldsPrintsWrong)

/-- 'ingotlaw22.FieldsParses': WHATEVER THE INPUT: true; the input reads as it did. -/
def fieldsParsesSpec : ChangeSpec := { name := "fieldsParses", fn := fun _ => fun
  | [d] => { results := [.lit (.bool true)], args := [d] }
  | _ => none }
def fieldsParsesRow : OpenClaim := { program := "ytlbcpbibcfolkaadoor", sum := "fe296aef7bdd20ce944d41c1eb78ae044b7278493faa551cd57ef31dd16bfb86", func := "ingot/ingotlaw22.FieldsParses", spec := "fieldsParses", inPlace := ["internal/reflectlite.ValueOf", "(internal/reflectlite.Value).Type", "(internal/reflectlite.Value).IsNil", "internal/reflectlite.TypeOf", "(internal/reflectlite.Value).Elem", "(internal/reflectlite.Value).Set", "internal/bytealg.IndexByteString"], unfollowed := true, recurses := true, named := ["errors.errorType"], apart := false, laid := [("errors.errorType", laid_errors_errorType)] }
def FieldsParsesSaid : Prop := fieldsParsesRow.holds Tryd.pinned (OpenSpec.ofChange fieldsParsesSpec)

/-- ITS FALSE NEIGHBOUR: 'it returns false'. Refute it at one input. -/
def fieldsParsesWrong : ChangeSpec := { name := "fieldsParses", fn := fun _ => fun
  | [d] => { results := [.lit (.bool false)], args := [d] }
  | _ => none }
def FieldsParsesWrongFalsely : Prop := fieldsParsesRow.holds Tryd.pinned (OpenSpec.ofChange fieldsParsesWrong)

/-- 'ingotlaw22.FieldsBack': WHATEVER THE INPUT: true; the input reads as it did. -/
def fieldsBackSpec : ChangeSpec := { name := "fieldsBack", fn := fun _ => fun
  | [d1, d2] => { results := [.lit (.bool true)], args := [d1, d2] }
  | _ => none }
def fieldsBackRow : OpenClaim := { program := "ytlbcpbibcfolkaadoor", sum := "fe296aef7bdd20ce944d41c1eb78ae044b7278493faa551cd57ef31dd16bfb86", func := "ingot/ingotlaw22.FieldsBack", spec := "fieldsBack", inPlace := ["internal/reflectlite.ValueOf", "(internal/reflectlite.Value).Type", "(internal/reflectlite.Value).IsNil", "internal/reflectlite.TypeOf", "(internal/reflectlite.Value).Elem", "(internal/reflectlite.Value).Set", "internal/bytealg.IndexByteString"], unfollowed := true, recurses := true, named := ["errors.errorType"], apart := false, laid := [("errors.errorType", laid_errors_errorType)] }
def FieldsBackSaid : Prop := fieldsBackRow.holds Tryd.pinned (OpenSpec.ofChange fieldsBackSpec)

/-- ITS FALSE NEIGHBOUR: 'it returns false'. Refute it at one input. -/
def fieldsBackWrong : ChangeSpec := { name := "fieldsBack", fn := fun _ => fun
  | [d1, d2] => { results := [.lit (.bool false)], args := [d1, d2] }
  | _ => none }
def FieldsBackWrongFalsely : Prop := fieldsBackRow.holds Tryd.pinned (OpenSpec.ofChange fieldsBackWrong)

/-- 'ingotlaw22.FieldsPlain': WHATEVER THE INPUT: true; the input reads as it did. -/
def fieldsPlainSpec : ChangeSpec := { name := "fieldsPlain", fn := fun _ => fun
  | [d1, d2] => { results := [.lit (.bool true)], args := [d1, d2] }
  | _ => none }
def fieldsPlainRow : OpenClaim := { program := "ytlbcpbibcfolkaadoor", sum := "fe296aef7bdd20ce944d41c1eb78ae044b7278493faa551cd57ef31dd16bfb86", func := "ingot/ingotlaw22.FieldsPlain", spec := "fieldsPlain", inPlace := ["internal/reflectlite.ValueOf", "(internal/reflectlite.Value).Type", "(internal/reflectlite.Value).IsNil", "internal/reflectlite.TypeOf", "(internal/reflectlite.Value).Elem", "(internal/reflectlite.Value).Set", "internal/bytealg.IndexByteString"], unfollowed := true, recurses := true, named := ["errors.errorType"], apart := false, laid := [("errors.errorType", laid_errors_errorType)] }
def FieldsPlainSaid : Prop := fieldsPlainRow.holds Tryd.pinned (OpenSpec.ofChange fieldsPlainSpec)

/-- ITS FALSE NEIGHBOUR: 'it returns false'. Refute it at one input. -/
def fieldsPlainWrong : ChangeSpec := { name := "fieldsPlain", fn := fun _ => fun
  | [d1, d2] => { results := [.lit (.bool false)], args := [d1, d2] }
  | _ => none }
def FieldsPlainWrongFalsely : Prop := fieldsPlainRow.holds Tryd.pinned (OpenSpec.ofChange fieldsPlainWrong)

/-- 'ingotlaw22.FieldsGets': WHATEVER THE INPUT: true; the input reads as it did. -/
def fieldsGetsSpec : ChangeSpec := { name := "fieldsGets", fn := fun _ => fun
  | [d1, d2, d3] => { results := [.lit (.bool true)], args := [d1, d2, d3] }
  | _ => none }
def fieldsGetsRow : OpenClaim := { program := "ytlbcpbibcfolkaadoor", sum := "fe296aef7bdd20ce944d41c1eb78ae044b7278493faa551cd57ef31dd16bfb86", func := "ingot/ingotlaw22.FieldsGets", spec := "fieldsGets", inPlace := ["internal/reflectlite.ValueOf", "(internal/reflectlite.Value).Type", "(internal/reflectlite.Value).IsNil", "internal/reflectlite.TypeOf", "(internal/reflectlite.Value).Elem", "(internal/reflectlite.Value).Set", "internal/bytealg.IndexByteString"], unfollowed := true, recurses := true, named := ["errors.errorType"], apart := false, laid := [("errors.errorType", laid_errors_errorType)] }
def FieldsGetsSaid : Prop := fieldsGetsRow.holds Tryd.pinned (OpenSpec.ofChange fieldsGetsSpec)

/-- ITS FALSE NEIGHBOUR: 'it returns false'. Refute it at one input. -/
def fieldsGetsWrong : ChangeSpec := { name := "fieldsGets", fn := fun _ => fun
  | [d1, d2, d3] => { results := [.lit (.bool false)], args := [d1, d2, d3] }
  | _ => none }
def FieldsGetsWrongFalsely : Prop := fieldsGetsRow.holds Tryd.pinned (OpenSpec.ofChange fieldsGetsWrong)

/- THE SECOND FORM. 'bulk': how many values and letters a reading holds, each counted each time it is reached (what is shared counts as often as it is met; a slice's spare places count too). A statement '..UptoSaid' is the law's where the arguments, and the package variables that the reading takes, are together of bulk at most 1048576: NARROWER than '..Said'. Prove '..Said' where nothing that the law and all that it calls make is longer than what came in: it says more and counts as full. Else prove '..UptoSaid'. A law counts once. -/
mutual
def uptoBulk {H : Type} : DataW H → Nat
  | .lit (.string bytes) => bytes.length + 1
  | .lit _ => 1
  | .nil => 1
  | .ptr d => uptoBulk d + 1
  | .slice elems spare => uptoBulkAll elems + uptoBulkAll spare + 1
  | .agg parts => uptoBulkAll parts + 1
  | .iface _ d => uptoBulk d + 1
  | .map entries => uptoBulkEntries entries + 1
  | .held _ => 1
def uptoBulkAll {H : Type} : List (DataW H) → Nat
  | [] => 0
  | d :: r => uptoBulk d + uptoBulkAll r
def uptoBulkEntries {H : Type} : List (Lit × DataW H) → Nat
  | [] => 0
  | x :: r => uptoBulkEntry x + uptoBulkEntries r
def uptoBulkEntry {H : Type} : Lit × DataW H → Nat
  | (.string bytes, d) => bytes.length + uptoBulk d + 1
  | (_, d) => uptoBulk d + 1
 end
def uptoSmall : (H : Type) → List (DataW H) → Bool := fun _ ds => decide (uptoBulkAll ds ≤ 1048576)
def OpenSpec.upto (s : _root_.Go.ChangeSpec) : _root_.Go.OpenSpec := { _root_.Go.OpenSpec.ofChange s with cond := some uptoSmall }

/-- 'ingotlaw22.FieldsEscapes', WHERE WHAT IT READS IS OF BULK AT MOST 1048576: true; the input reads as it did. -/
def fieldsEscapesUptoRow : OpenClaim := { program := "ytlbcpbibcfolkaadoor", sum := "fe296aef7bdd20ce944d41c1eb78ae044b7278493faa551cd57ef31dd16bfb86", func := "ingot/ingotlaw22.FieldsEscapes", spec := "fieldsEscapes", inPlace := ["internal/reflectlite.ValueOf", "(internal/reflectlite.Value).Type", "(internal/reflectlite.Value).IsNil", "internal/reflectlite.TypeOf", "(internal/reflectlite.Value).Elem", "(internal/reflectlite.Value).Set", "internal/bytealg.IndexByteString"], unfollowed := true, recurses := true, named := ["errors.errorType"], apart := false, laid := [("errors.errorType", laid_errors_errorType)], narrowed := true }
def FieldsEscapesUptoSaid : Prop := fieldsEscapesUptoRow.holds Tryd.pinned (OpenSpec.upto fieldsEscapesSpec)

/-- 'ingotlaw22.FieldsPrints', WHERE WHAT IT READS IS OF BULK AT MOST 1048576: true; the input reads as it did. -/
def fieldsPrintsUptoRow : OpenClaim := { program := "ytlbcpbibcfolkaadoor", sum := "fe296aef7bdd20ce944d41c1eb78ae044b7278493faa551cd57ef31dd16bfb86", func := "ingot/ingotlaw22.FieldsPrints", spec := "fieldsPrints", inPlace := ["internal/reflectlite.ValueOf", "(internal/reflectlite.Value).Type", "(internal/reflectlite.Value).IsNil", "internal/reflectlite.TypeOf", "(internal/reflectlite.Value).Elem", "(internal/reflectlite.Value).Set", "internal/bytealg.IndexByteString"], unfollowed := true, recurses := true, named := ["errors.errorType"], apart := false, laid := [("errors.errorType", laid_errors_errorType)], narrowed := true }
def FieldsPrintsUptoSaid : Prop := fieldsPrintsUptoRow.holds Tryd.pinned (OpenSpec.upto fieldsPrintsSpec)

/-- 'ingotlaw22.FieldsParses', WHERE WHAT IT READS IS OF BULK AT MOST 1048576: true; the input reads as it did. -/
def fieldsParsesUptoRow : OpenClaim := { program := "ytlbcpbibcfolkaadoor", sum := "fe296aef7bdd20ce944d41c1eb78ae044b7278493faa551cd57ef31dd16bfb86", func := "ingot/ingotlaw22.FieldsParses", spec := "fieldsParses", inPlace := ["internal/reflectlite.ValueOf", "(internal/reflectlite.Value).Type", "(internal/reflectlite.Value).IsNil", "internal/reflectlite.TypeOf", "(internal/reflectlite.Value).Elem", "(internal/reflectlite.Value).Set", "internal/bytealg.IndexByteString"], unfollowed := true, recurses := true, named := ["errors.errorType"], apart := false, laid := [("errors.errorType", laid_errors_errorType)], narrowed := true }
def FieldsParsesUptoSaid : Prop := fieldsParsesUptoRow.holds Tryd.pinned (OpenSpec.upto fieldsParsesSpec)

/-- 'ingotlaw22.FieldsBack', WHERE WHAT IT READS IS OF BULK AT MOST 1048576: true; the input reads as it did. -/
def fieldsBackUptoRow : OpenClaim := { program := "ytlbcpbibcfolkaadoor", sum := "fe296aef7bdd20ce944d41c1eb78ae044b7278493faa551cd57ef31dd16bfb86", func := "ingot/ingotlaw22.FieldsBack", spec := "fieldsBack", inPlace := ["internal/reflectlite.ValueOf", "(internal/reflectlite.Value).Type", "(internal/reflectlite.Value).IsNil", "internal/reflectlite.TypeOf", "(internal/reflectlite.Value).Elem", "(internal/reflectlite.Value).Set", "internal/bytealg.IndexByteString"], unfollowed := true, recurses := true, named := ["errors.errorType"], apart := false, laid := [("errors.errorType", laid_errors_errorType)], narrowed := true }
def FieldsBackUptoSaid : Prop := fieldsBackUptoRow.holds Tryd.pinned (OpenSpec.upto fieldsBackSpec)

/-- 'ingotlaw22.FieldsPlain', WHERE WHAT IT READS IS OF BULK AT MOST 1048576: true; the input reads as it did. -/
def fieldsPlainUptoRow : OpenClaim := { program := "ytlbcpbibcfolkaadoor", sum := "fe296aef7bdd20ce944d41c1eb78ae044b7278493faa551cd57ef31dd16bfb86", func := "ingot/ingotlaw22.FieldsPlain", spec := "fieldsPlain", inPlace := ["internal/reflectlite.ValueOf", "(internal/reflectlite.Value).Type", "(internal/reflectlite.Value).IsNil", "internal/reflectlite.TypeOf", "(internal/reflectlite.Value).Elem", "(internal/reflectlite.Value).Set", "internal/bytealg.IndexByteString"], unfollowed := true, recurses := true, named := ["errors.errorType"], apart := false, laid := [("errors.errorType", laid_errors_errorType)], narrowed := true }
def FieldsPlainUptoSaid : Prop := fieldsPlainUptoRow.holds Tryd.pinned (OpenSpec.upto fieldsPlainSpec)

/-- 'ingotlaw22.FieldsGets', WHERE WHAT IT READS IS OF BULK AT MOST 1048576: true; the input reads as it did. -/
def fieldsGetsUptoRow : OpenClaim := { program := "ytlbcpbibcfolkaadoor", sum := "fe296aef7bdd20ce944d41c1eb78ae044b7278493faa551cd57ef31dd16bfb86", func := "ingot/ingotlaw22.FieldsGets", spec := "fieldsGets", inPlace := ["internal/reflectlite.ValueOf", "(internal/reflectlite.Value).Type", "(internal/reflectlite.Value).IsNil", "internal/reflectlite.TypeOf", "(internal/reflectlite.Value).Elem", "(internal/reflectlite.Value).Set", "internal/bytealg.IndexByteString"], unfollowed := true, recurses := true, named := ["errors.errorType"], apart := false, laid := [("errors.errorType", laid_errors_errorType)], narrowed := true }
def FieldsGetsUptoSaid : Prop := fieldsGetsUptoRow.holds Tryd.pinned (OpenSpec.upto fieldsGetsSpec)

end Rows
end Go.Proofs.YtlbcpbibcfolkaaDoor
