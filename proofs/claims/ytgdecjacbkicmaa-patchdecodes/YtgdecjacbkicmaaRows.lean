/-
  No cell of these rows narrows 'for every input' (looked for: loops, veiled, ifaces, maps, wideKeys, modest, calm, conditions, laid).
  DERIVED. THE GIVEN ROWS OF THIS SEAT. 4 by the template 'for every input the law returns true; each argument reads behind the call as it read before'; 0 by the template 'total and deterministic' (their statements: YtgdecjacbkicmaaTotals.lean).
  GIVEN WITH THE SEED: the statements are not yours to turn. If you find one false, say at which input.
  Laid BY PROGRAM, IN A SANDBOX (cutbox-rows.mjs): the forced cells as the released guide's own fill.sh prints them over the translation c6d9b9eaa15771fb… (all of the seat's roots in one cut). By AI agents, Wed Nov 11 2026. No macro, syntax, notation, axiom, sorry.
-/
import Derived.Test.YtgdecjacbkicmaaChecked
import GoSem.Claim
import GoSem.ClaimJoined
import GoSem.ClaimMapViews
import Derived.JoinedTies
import Derived.KernelRfl
namespace Go.Proofs.Ytgdecjacbkicmaa
/- THE CELL 'sum', in the pinned program and in every row, IS THE sha256 OF THE DUMP (.gsa) THAT YtgdecjacbkicmaaProg.lean LOADS. Nothing in Lean hashes anything: it is a label: what it is worth is what the hold of that sum in a sandbox is worth. -/
noncomputable def Try.pinned : Pinned := { name := "ytgdecjacbkicmaa", sum := "c6d9b9eaa15771fbdda1b5b67b95e509c63988a3f705f6c7ac191756eec55654", checked := Try.checked }
namespace Rows
def none {H : Type} : Left H := { results := [], args := [] }

/-- 'ingotlaw10.PatchChecks': WHATEVER THE INPUT: true; the input reads as it did. -/
def patchChecksSpec : ChangeSpec := { name := "patchChecks", fn := fun _ => fun
  | [d] => { results := [.lit (.bool true)], args := [d] }
  | _ => none }
def patchChecksRow : OpenClaim := { program := "ytgdecjacbkicmaa", sum := "c6d9b9eaa15771fbdda1b5b67b95e509c63988a3f705f6c7ac191756eec55654", func := "ingot/ingotlaw10.PatchChecks", spec := "patchChecks", inPlace := ["internal/bytealg.Compare", "internal/bytealg.IndexByteString", "internal/bytealg.IndexString"], unfollowed := true, recurses := true, named := ["internal/bytealg.MaxLen"], apart := false }
def PatchChecksSaid : Prop := patchChecksRow.holds Try.pinned (OpenSpec.ofChange patchChecksSpec)

/-- ITS FALSE NEIGHBOUR: 'it returns false'. Refute it at one input. -/
def patchChecksWrong : ChangeSpec := { name := "patchChecks", fn := fun _ => fun
  | [d] => { results := [.lit (.bool false)], args := [d] }
  | _ => none }
def PatchChecksWrongFalsely : Prop := patchChecksRow.holds Try.pinned (OpenSpec.ofChange patchChecksWrong)

/-- 'ingotlaw10.PatchDecodes': WHATEVER THE INPUT: true; the input reads as it did. -/
def patchDecodesSpec : ChangeSpec := { name := "patchDecodes", fn := fun _ => fun
  | [d] => { results := [.lit (.bool true)], args := [d] }
  | _ => none }
def patchDecodesRow : OpenClaim := { program := "ytgdecjacbkicmaa", sum := "c6d9b9eaa15771fbdda1b5b67b95e509c63988a3f705f6c7ac191756eec55654", func := "ingot/ingotlaw10.PatchDecodes", spec := "patchDecodes", inPlace := ["internal/bytealg.Compare", "internal/bytealg.IndexByteString", "internal/bytealg.IndexString"], unfollowed := true, recurses := true, named := ["internal/bytealg.MaxLen"], apart := false }
def PatchDecodesSaid : Prop := patchDecodesRow.holds Try.pinned (OpenSpec.ofChange patchDecodesSpec)

/-- ITS FALSE NEIGHBOUR: 'it returns false'. Refute it at one input. -/
def patchDecodesWrong : ChangeSpec := { name := "patchDecodes", fn := fun _ => fun
  | [d] => { results := [.lit (.bool false)], args := [d] }
  | _ => none }
def PatchDecodesWrongFalsely : Prop := patchDecodesRow.holds Try.pinned (OpenSpec.ofChange patchDecodesWrong)

/-- 'ingotlaw10.PatchUnlike': WHATEVER THE INPUT: true; the input reads as it did. -/
def patchUnlikeSpec : ChangeSpec := { name := "patchUnlike", fn := fun _ => fun
  | [d1, d2] => { results := [.lit (.bool true)], args := [d1, d2] }
  | _ => none }
def patchUnlikeRow : OpenClaim := { program := "ytgdecjacbkicmaa", sum := "c6d9b9eaa15771fbdda1b5b67b95e509c63988a3f705f6c7ac191756eec55654", func := "ingot/ingotlaw10.PatchUnlike", spec := "patchUnlike", inPlace := ["internal/bytealg.Compare", "internal/bytealg.IndexByteString", "internal/bytealg.IndexString"], unfollowed := true, recurses := true, named := ["internal/bytealg.MaxLen"], apart := false }
def PatchUnlikeSaid : Prop := patchUnlikeRow.holds Try.pinned (OpenSpec.ofChange patchUnlikeSpec)

/-- ITS FALSE NEIGHBOUR: 'it returns false'. Refute it at one input. -/
def patchUnlikeWrong : ChangeSpec := { name := "patchUnlike", fn := fun _ => fun
  | [d1, d2] => { results := [.lit (.bool false)], args := [d1, d2] }
  | _ => none }
def PatchUnlikeWrongFalsely : Prop := patchUnlikeRow.holds Try.pinned (OpenSpec.ofChange patchUnlikeWrong)

/-- 'ingotlaw10.PatchCut': WHATEVER THE INPUT: true; the input reads as it did. -/
def patchCutSpec : ChangeSpec := { name := "patchCut", fn := fun _ => fun
  | [d1, d2, d3] => { results := [.lit (.bool true)], args := [d1, d2, d3] }
  | _ => none }
def patchCutRow : OpenClaim := { program := "ytgdecjacbkicmaa", sum := "c6d9b9eaa15771fbdda1b5b67b95e509c63988a3f705f6c7ac191756eec55654", func := "ingot/ingotlaw10.PatchCut", spec := "patchCut", inPlace := ["internal/bytealg.Compare", "internal/bytealg.IndexByteString", "internal/bytealg.IndexString"], unfollowed := true, recurses := true, named := ["internal/bytealg.MaxLen"], apart := false }
def PatchCutSaid : Prop := patchCutRow.holds Try.pinned (OpenSpec.ofChange patchCutSpec)

/-- ITS FALSE NEIGHBOUR: 'it returns false'. Refute it at one input. -/
def patchCutWrong : ChangeSpec := { name := "patchCut", fn := fun _ => fun
  | [d1, d2, d3] => { results := [.lit (.bool false)], args := [d1, d2, d3] }
  | _ => none }
def PatchCutWrongFalsely : Prop := patchCutRow.holds Try.pinned (OpenSpec.ofChange patchCutWrong)

/- THE SECOND FORM. 'bulk': how many values and letters a reading holds, each counted each time it is reached (what is shared counts as often as it is met; a slice's spare places count too). A statement '..UptoSaid' is the law's where the arguments, and the package variables that the reading takes, are together of bulk at most 1048576: NARROWER than '..Said'. Prove '..Said' where nothing that the law and all that it calls make is longer than what came in: it says more and counts as full. Else prove '..UptoSaid'. A law counts once. -/
mutual
def uptoBulk {H : Type} : DataW H → Nat
  | .lit (.string bytes) => bytes.length + 1
  | .lit _ => 1
  | .nil => 1
  | .ptr d => uptoBulk d + 1
  | .slice elems spare => uptoBulkAll elems + uptoBulkAll spare + 1
  | .agg parts => uptoBulkAll parts + 1
  | .iface _ d => uptoBulk d + 1
  | .map entries => uptoBulkEntries entries + 1
  | .held _ => 1
def uptoBulkAll {H : Type} : List (DataW H) → Nat
  | [] => 0
  | d :: r => uptoBulk d + uptoBulkAll r
def uptoBulkEntries {H : Type} : List (Lit × DataW H) → Nat
  | [] => 0
  | x :: r => uptoBulkEntry x + uptoBulkEntries r
def uptoBulkEntry {H : Type} : Lit × DataW H → Nat
  | (.string bytes, d) => bytes.length + uptoBulk d + 1
  | (_, d) => uptoBulk d + 1
 end
def uptoSmall : (H : Type) → List (DataW H) → Bool := fun _ ds => decide (uptoBulkAll ds ≤ 1048576)
def OpenSpec.upto (s : _root_.Go.ChangeSpec) : _root_.Go.OpenSpec := { _root_.Go.OpenSpec.ofChange s with cond := some uptoSmall }

/-- 'ingotlaw10.PatchChecks', WHERE WHAT IT READS IS OF BULK AT MOST 1048576: true; the input reads as it did. -/
def patchChecksUptoRow : OpenClaim := { program := "ytgdecjacbkicmaa", sum := "c6d9b9eaa15771fbdda1b5b67b95e509c63988a3f705f6c7ac191756eec55654", func := "ingot/ingotlaw10.PatchChecks", spec := "patchChecks", inPlace := ["internal/bytealg.Compare", "internal/bytealg.IndexByteString", "internal/bytealg.IndexString"], unfollowed := true, recurses := true, named := ["internal/bytealg.MaxLen"], apart := false, narrowed := true }
def PatchChecksUptoSaid : Prop := patchChecksUptoRow.holds Try.pinned (OpenSpec.upto patchChecksSpec)

/-- 'ingotlaw10.PatchDecodes', WHERE WHAT IT READS IS OF BULK AT MOST 1048576: true; the input reads as it did. -/
def patchDecodesUptoRow : OpenClaim := { program := "ytgdecjacbkicmaa", sum := "c6d9b9eaa15771fbdda1b5b67b95e509c63988a3f705f6c7ac191756eec55654", func := "ingot/ingotlaw10.PatchDecodes", spec := "patchDecodes", inPlace := ["internal/bytealg.Compare", "internal/bytealg.IndexByteString", "internal/bytealg.IndexString"], unfollowed := true, recurses := true, named := ["internal/bytealg.MaxLen"], apart := false, narrowed := true }
def PatchDecodesUptoSaid : Prop := patchDecodesUptoRow.holds Try.pinned (OpenSpec.upto patchDecodesSpec)

/-- 'ingotlaw10.PatchUnlike', WHERE WHAT IT READS IS OF BULK AT MOST 1048576: true; the input reads as it did. -/
def patchUnlikeUptoRow : OpenClaim := { program := "ytgdecjacbkicmaa", sum := "c6d9b9eaa15771fbdda1b5b67b95e509c63988a3f705f6c7ac191756eec55654", func := "ingot/ingotlaw10.PatchUnlike", spec := "patchUnlike", inPlace := ["internal/bytealg.Compare", "internal/bytealg.IndexByteString", "internal/bytealg.IndexString"], unfollowed := true, recurses := true, named := ["internal/bytealg.MaxLen"], apart := false, narrowed := true }
def PatchUnlikeUptoSaid : Prop := patchUnlikeUptoRow.holds Try.pinned (OpenSpec.upto patchUnlikeSpec)

/-- 'ingotlaw10.PatchCut', WHERE WHAT IT READS IS OF BULK AT MOST 1048576: true; the input reads as it did. -/
def patchCutUptoRow : OpenClaim := { program := "ytgdecjacbkicmaa", sum := "c6d9b9eaa15771fbdda1b5b67b95e509c63988a3f705f6c7ac191756eec55654", func := "ingot/ingotlaw10.PatchCut", spec := "patchCut", inPlace := ["internal/bytealg.Compare", "internal/bytealg.IndexByteString", "internal/bytealg.IndexString"], unfollowed := true, recurses := true, named := ["internal/bytealg.MaxLen"], apart := false, narrowed := true }
def PatchCutUptoSaid : Prop := patchCutUptoRow.holds Try.pinned (OpenSpec.upto patchCutSpec)

end Rows
end Go.Proofs.Ytgdecjacbkicmaa
