/-
  DERIVED. GIVEN WITH THE SEED: THE CARDS: each row of YtgdecjacbkicmaaDoorRows.lean that lists a variable, with what it lists TIED to the program's text (the seventh form; the later family's looks); each row that meets fmt, with fmt's text TOLD by the authors' own Lean function (tested against real Go, not proved from fmt's source: count such statements apart). THE CARD IS WHAT COUNTS. Prove the row's statement (the work); the ties are given (YtgdecjacbkicmaaDoorTie.lean); close each card by the builder's one call (the guide's Derived/Test/ToyasCard.lean, 'card_holds'). Laid BY PROGRAM, IN A SANDBOX (cutbox-door.mjs). By AI agents, Wed Nov 11 2026. No macro, syntax, notation, axiom, sorry.
-/
import Derived.Test.YtgdecjacbkicmaaDoorRows
import GoSem.ClaimSeven
namespace Go.Proofs.YtgdecjacbkicmaaDoor
namespace Rows

/-- THE TIED CARD OF 'ingotlaw10.PatchEncodes'. -/
def patchEncodesCard : Claim7 := { stood := { row := patchEncodesRow, standIns := [], harness := (true, "381a0abcd74bd993f7d47755b1e72f088d86c6b0a085bc6ae7126ec29d5826ed"), looks := false }, kinds := [], alts := [], laidByText := true, laidKinds := [.data, .data], laidTests := true, laidLooks := .later }
def PatchEncodesCardSaid : Prop := Claim7.holds Tryd.pinned (.plain (OpenSpec.ofChange patchEncodesSpec)) patchEncodesCard

/-- THE SECOND FORM's CARD OF 'ingotlaw10.PatchEncodes'. -/
def patchEncodesUptoCard : Claim7 := { stood := { row := patchEncodesUptoRow, standIns := [], harness := (true, "381a0abcd74bd993f7d47755b1e72f088d86c6b0a085bc6ae7126ec29d5826ed"), looks := false }, kinds := [], alts := [], laidByText := true, laidKinds := [.data, .data], laidTests := true, laidLooks := .later }
def PatchEncodesUptoCardSaid : Prop := Claim7.holds Tryd.pinned (.plain (OpenSpec.upto patchEncodesSpec)) patchEncodesUptoCard
end Rows
end Go.Proofs.YtgdecjacbkicmaaDoor
