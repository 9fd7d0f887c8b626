/-
  No cell of these rows narrows 'for every input' (looked for: loops, veiled, ifaces, maps, wideKeys, modest, calm, conditions, laid).
  DERIVED. THE GIVEN ROWS OF THIS SEAT. 6 by the template 'for every input the law returns true; each argument reads behind the call as it read before'; 0 by the template 'total and deterministic' (their statements: YtngkajeghmogmaaTotals.lean).
  GIVEN WITH THE SEED: the statements are not yours to turn. If you find one false, say at which input.
  Laid BY PROGRAM, IN A SANDBOX (cutbox-rows.mjs): the forced cells as the released guide's own fill.sh prints them over the translation 65af6014c6b2c99d… (all of the seat's roots in one cut). By AI agents, Wed Nov 11 2026. No macro, syntax, notation, axiom, sorry.
-/
import Derived.Test.YtngkajeghmogmaaChecked
import GoSem.Claim
import GoSem.ClaimJoined
import GoSem.ClaimMapViews
import Derived.JoinedTies
import Derived.KernelRfl
namespace Go.Proofs.Ytngkajeghmogmaa
/- THE CELL 'sum', in the pinned program and in every row, IS THE sha256 OF THE DUMP (.gsa) THAT YtngkajeghmogmaaProg.lean LOADS. Nothing in Lean hashes anything: it is a label: what it is worth is what the hold of that sum in a sandbox is worth. -/
noncomputable def Try.pinned : Pinned := { name := "ytngkajeghmogmaa", sum := "65af6014c6b2c99dacfb5a6fcda974bee86d41ecd8eafb502902941bdf9f076c", checked := Try.checked }
namespace Rows
def none {H : Type} : Left H := { results := [], args := [] }

/-- 'ingotlaw17.AclDecides': WHATEVER THE INPUT: true; the input reads as it did. -/
def aclDecidesSpec : ChangeSpec := { name := "aclDecides", fn := fun _ => fun
  | [d1, d2] => { results := [.lit (.bool true)], args := [d1, d2] }
  | _ => none }
def aclDecidesRow : OpenClaim := { program := "ytngkajeghmogmaa", sum := "65af6014c6b2c99dacfb5a6fcda974bee86d41ecd8eafb502902941bdf9f076c", func := "ingot/ingotlaw17.AclDecides", spec := "aclDecides", inPlace := ["internal/bytealg.IndexByteString", "internal/bytealg.IndexString"], unfollowed := true, recurses := true, named := ["internal/bytealg.MaxLen"], apart := false }
def AclDecidesSaid : Prop := aclDecidesRow.holds Try.pinned (OpenSpec.ofChange aclDecidesSpec)

/-- ITS FALSE NEIGHBOUR: 'it returns false'. Refute it at one input. -/
def aclDecidesWrong : ChangeSpec := { name := "aclDecides", fn := fun _ => fun
  | [d1, d2] => { results := [.lit (.bool false)], args := [d1, d2] }
  | _ => none }
def AclDecidesWrongFalsely : Prop := aclDecidesRow.holds Try.pinned (OpenSpec.ofChange aclDecidesWrong)

/-- 'ingotlaw17.AclMonotone': WHATEVER THE INPUT: true; the input reads as it did. -/
def aclMonotoneSpec : ChangeSpec := { name := "aclMonotone", fn := fun _ => fun
  | [d1, d2, d3] => { results := [.lit (.bool true)], args := [d1, d2, d3] }
  | _ => none }
def aclMonotoneRow : OpenClaim := { program := "ytngkajeghmogmaa", sum := "65af6014c6b2c99dacfb5a6fcda974bee86d41ecd8eafb502902941bdf9f076c", func := "ingot/ingotlaw17.AclMonotone", spec := "aclMonotone", inPlace := ["internal/bytealg.IndexByteString", "internal/bytealg.IndexString"], unfollowed := true, recurses := true, named := ["internal/bytealg.MaxLen"], apart := false }
def AclMonotoneSaid : Prop := aclMonotoneRow.holds Try.pinned (OpenSpec.ofChange aclMonotoneSpec)

/-- ITS FALSE NEIGHBOUR: 'it returns false'. Refute it at one input. -/
def aclMonotoneWrong : ChangeSpec := { name := "aclMonotone", fn := fun _ => fun
  | [d1, d2, d3] => { results := [.lit (.bool false)], args := [d1, d2, d3] }
  | _ => none }
def AclMonotoneWrongFalsely : Prop := aclMonotoneRow.holds Try.pinned (OpenSpec.ofChange aclMonotoneWrong)

/-- 'ingotlaw17.AclOrder': WHATEVER THE INPUT: true; the input reads as it did. -/
def aclOrderSpec : ChangeSpec := { name := "aclOrder", fn := fun _ => fun
  | [d1, d2, d3] => { results := [.lit (.bool true)], args := [d1, d2, d3] }
  | _ => none }
def aclOrderRow : OpenClaim := { program := "ytngkajeghmogmaa", sum := "65af6014c6b2c99dacfb5a6fcda974bee86d41ecd8eafb502902941bdf9f076c", func := "ingot/ingotlaw17.AclOrder", spec := "aclOrder", inPlace := ["internal/bytealg.IndexByteString", "internal/bytealg.IndexString"], unfollowed := true, recurses := true, named := ["internal/bytealg.MaxLen"], apart := false }
def AclOrderSaid : Prop := aclOrderRow.holds Try.pinned (OpenSpec.ofChange aclOrderSpec)

/-- ITS FALSE NEIGHBOUR: 'it returns false'. Refute it at one input. -/
def aclOrderWrong : ChangeSpec := { name := "aclOrder", fn := fun _ => fun
  | [d1, d2, d3] => { results := [.lit (.bool false)], args := [d1, d2, d3] }
  | _ => none }
def AclOrderWrongFalsely : Prop := aclOrderRow.holds Try.pinned (OpenSpec.ofChange aclOrderWrong)

/-- 'ingotlaw17.AclApart': WHATEVER THE INPUT: true; the input reads as it did. -/
def aclApartSpec : ChangeSpec := { name := "aclApart", fn := fun _ => fun
  | [d1, d2, d3] => { results := [.lit (.bool true)], args := [d1, d2, d3] }
  | _ => none }
def aclApartRow : OpenClaim := { program := "ytngkajeghmogmaa", sum := "65af6014c6b2c99dacfb5a6fcda974bee86d41ecd8eafb502902941bdf9f076c", func := "ingot/ingotlaw17.AclApart", spec := "aclApart", inPlace := ["internal/bytealg.IndexByteString", "internal/bytealg.IndexString"], unfollowed := true, recurses := true, named := ["internal/bytealg.MaxLen"], apart := false }
def AclApartSaid : Prop := aclApartRow.holds Try.pinned (OpenSpec.ofChange aclApartSpec)

/-- ITS FALSE NEIGHBOUR: 'it returns false'. Refute it at one input. -/
def aclApartWrong : ChangeSpec := { name := "aclApart", fn := fun _ => fun
  | [d1, d2, d3] => { results := [.lit (.bool false)], args := [d1, d2, d3] }
  | _ => none }
def AclApartWrongFalsely : Prop := aclApartRow.holds Try.pinned (OpenSpec.ofChange aclApartWrong)

/-- 'ingotlaw17.AclNearest': WHATEVER THE INPUT: true; the input reads as it did. -/
def aclNearestSpec : ChangeSpec := { name := "aclNearest", fn := fun _ => fun
  | [d1, d2, d3] => { results := [.lit (.bool true)], args := [d1, d2, d3] }
  | _ => none }
def aclNearestRow : OpenClaim := { program := "ytngkajeghmogmaa", sum := "65af6014c6b2c99dacfb5a6fcda974bee86d41ecd8eafb502902941bdf9f076c", func := "ingot/ingotlaw17.AclNearest", spec := "aclNearest", inPlace := ["internal/bytealg.IndexByteString", "internal/bytealg.IndexString"], unfollowed := true, recurses := true, named := ["internal/bytealg.MaxLen"], apart := false }
def AclNearestSaid : Prop := aclNearestRow.holds Try.pinned (OpenSpec.ofChange aclNearestSpec)

/-- ITS FALSE NEIGHBOUR: 'it returns false'. Refute it at one input. -/
def aclNearestWrong : ChangeSpec := { name := "aclNearest", fn := fun _ => fun
  | [d1, d2, d3] => { results := [.lit (.bool false)], args := [d1, d2, d3] }
  | _ => none }
def AclNearestWrongFalsely : Prop := aclNearestRow.holds Try.pinned (OpenSpec.ofChange aclNearestWrong)

/-- 'ingotlaw17.AclFilters': WHATEVER THE INPUT: true; the input reads as it did. -/
def aclFiltersSpec : ChangeSpec := { name := "aclFilters", fn := fun _ => fun
  | [d1, d2, d3] => { results := [.lit (.bool true)], args := [d1, d2, d3] }
  | _ => none }
def aclFiltersRow : OpenClaim := { program := "ytngkajeghmogmaa", sum := "65af6014c6b2c99dacfb5a6fcda974bee86d41ecd8eafb502902941bdf9f076c", func := "ingot/ingotlaw17.AclFilters", spec := "aclFilters", inPlace := ["internal/bytealg.IndexByteString", "internal/bytealg.IndexString"], unfollowed := true, recurses := true, named := ["internal/bytealg.MaxLen"], apart := false }
def AclFiltersSaid : Prop := aclFiltersRow.holds Try.pinned (OpenSpec.ofChange aclFiltersSpec)

/-- ITS FALSE NEIGHBOUR: 'it returns false'. Refute it at one input. -/
def aclFiltersWrong : ChangeSpec := { name := "aclFilters", fn := fun _ => fun
  | [d1, d2, d3] => { results := [.lit (.bool false)], args := [d1, d2, d3] }
  | _ => none }
def AclFiltersWrongFalsely : Prop := aclFiltersRow.holds Try.pinned (OpenSpec.ofChange aclFiltersWrong)

/- THE SECOND FORM. 'bulk': how many values and letters a reading holds, each counted each time it is reached (what is shared counts as often as it is met; a slice's spare places count too). A statement '..UptoSaid' is the law's where the arguments, and the package variables that the reading takes, are together of bulk at most 1048576: NARROWER than '..Said'. Prove '..Said' where nothing that the law and all that it calls make is longer than what came in: it says more and counts as full. Else prove '..UptoSaid'. A law counts once. -/
mutual
def uptoBulk {H : Type} : DataW H → Nat
  | .lit (.string bytes) => bytes.length + 1
  | .lit _ => 1
  | .nil => 1
  | .ptr d => uptoBulk d + 1
  | .slice elems spare => uptoBulkAll elems + uptoBulkAll spare + 1
  | .agg parts => uptoBulkAll parts + 1
  | .iface _ d => uptoBulk d + 1
  | .map entries => uptoBulkEntries entries + 1
  | .held _ => 1
def uptoBulkAll {H : Type} : List (DataW H) → Nat
  | [] => 0
  | d :: r => uptoBulk d + uptoBulkAll r
def uptoBulkEntries {H : Type} : List (Lit × DataW H) → Nat
  | [] => 0
  | x :: r => uptoBulkEntry x + uptoBulkEntries r
def uptoBulkEntry {H : Type} : Lit × DataW H → Nat
  | (.string bytes, d) => bytes.length + uptoBulk d + 1
  | (_, d) => uptoBulk d + 1
 end
def uptoSmall : (H : Type) → List (DataW H) → Bool := fun _ ds => decide (uptoBulkAll ds ≤ 1048576)
def OpenSpec.upto (s : _root_.Go.ChangeSpec) : _root_.Go.OpenSpec := { _root_.Go.OpenSpec.ofChange s with cond := some uptoSmall }

/-- 'ingotlaw17.AclDecides', WHERE WHAT IT READS IS OF BULK AT MOST 1048576: true; the input reads as it did. -/
def aclDecidesUptoRow : OpenClaim := { program := "ytngkajeghmogmaa", sum := "65af6014c6b2c99dacfb5a6fcda974bee86d41ecd8eafb502902941bdf9f076c", func := "ingot/ingotlaw17.AclDecides", spec := "aclDecides", inPlace := ["internal/bytealg.IndexByteString", "internal/bytealg.IndexString"], unfollowed := true, recurses := true, named := ["internal/bytealg.MaxLen"], apart := false, narrowed := true }
def AclDecidesUptoSaid : Prop := aclDecidesUptoRow.holds Try.pinned (OpenSpec.upto aclDecidesSpec)

/-- 'ingotlaw17.AclMonotone', WHERE WHAT IT READS IS OF BULK AT MOST 1048576: true; the input reads as it did. -/
def aclMonotoneUptoRow : OpenClaim := { program := "ytngkajeghmogmaa", sum := "65af6014c6b2c99dacfb5a6fcda974bee86d41ecd8eafb502902941bdf9f076c", func := "ingot/ingotlaw17.AclMonotone", spec := "aclMonotone", inPlace := ["internal/bytealg.IndexByteString", "internal/bytealg.IndexString"], unfollowed := true, recurses := true, named := ["internal/bytealg.MaxLen"], apart := false, narrowed := true }
def AclMonotoneUptoSaid : Prop := aclMonotoneUptoRow.holds Try.pinned (OpenSpec.upto aclMonotoneSpec)

/-- 'ingotlaw17.AclOrder', WHERE WHAT IT READS IS OF BULK AT MOST 1048576: true; the input reads as it did. -/
def aclOrderUptoRow : OpenClaim := { program := "ytngkajeghmogmaa", sum := "65af6014c6b2c99dacfb5a6fcda974bee86d41ecd8eafb502902941bdf9f076c", func := "ingot/ingotlaw17.AclOrder", spec := "aclOrder", inPlace := ["internal/bytealg.IndexByteString", "internal/bytealg.IndexString"], unfollowed := true, recurses := true, named := ["internal/bytealg.MaxLen"], apart := false, narrowed := true }
def AclOrderUptoSaid : Prop := aclOrderUptoRow.holds Try.pinned (OpenSpec.upto aclOrderSpec)

/-- 'ingotlaw17.AclApart', WHERE WHAT IT READS IS OF BULK AT MOST 1048576: true; the input reads as it did. -/
def aclApartUptoRow : OpenClaim := { program := "ytngkajeghmogmaa", sum := "65af6014c6b2c99dacfb5a6fcda974bee86d41ecd8eafb502902941bdf9f076c", func := "ingot/ingotlaw17.AclApart", spec := "aclApart", inPlace := ["internal/bytealg.IndexByteString", "internal/bytealg.IndexString"], unfollowed := true, recurses := true, named := ["internal/bytealg.MaxLen"], apart := false, narrowed := true }
def AclApartUptoSaid : Prop := aclApartUptoRow.holds Try.pinned (OpenSpec.upto aclApartSpec)

/-- 'ingotlaw17.AclNearest', WHERE WHAT IT READS IS OF BULK AT MOST 1048576: true; the input reads as it did. -/
def aclNearestUptoRow : OpenClaim := { program := "ytngkajeghmogmaa", sum := "65af6014c6b2c99dacfb5a6fcda974bee86d41ecd8eafb502902941bdf9f076c", func := "ingot/ingotlaw17.AclNearest", spec := "aclNearest", inPlace := ["internal/bytealg.IndexByteString", "internal/bytealg.IndexString"], unfollowed := true, recurses := true, named := ["internal/bytealg.MaxLen"], apart := false, narrowed := true }
def AclNearestUptoSaid : Prop := aclNearestUptoRow.holds Try.pinned (OpenSpec.upto aclNearestSpec)

/-- 'ingotlaw17.AclFilters', WHERE WHAT IT READS IS OF BULK AT MOST 1048576: true; the input reads as it did. -/
def aclFiltersUptoRow : OpenClaim := { program := "ytngkajeghmogmaa", sum := "65af6014c6b2c99dacfb5a6fcda974bee86d41ecd8eafb502902941bdf9f076c", func := "ingot/ingotlaw17.AclFilters", spec := "aclFilters", inPlace := ["internal/bytealg.IndexByteString", "internal/bytealg.IndexString"], unfollowed := true, recurses := true, named := ["internal/bytealg.MaxLen"], apart := false, narrowed := true }
def AclFiltersUptoSaid : Prop := aclFiltersUptoRow.holds Try.pinned (OpenSpec.upto aclFiltersSpec)

end Rows
end Go.Proofs.Ytngkajeghmogmaa
