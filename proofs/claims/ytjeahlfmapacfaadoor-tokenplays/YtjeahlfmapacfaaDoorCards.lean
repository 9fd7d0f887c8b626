/-
  DERIVED. GIVEN WITH THE SEED: THE CARDS: each row of YtjeahlfmapacfaaDoorRows.lean that lists a variable, with what it lists TIED to the program's text (the seventh form; the later family's looks); each row that meets fmt, with fmt's text TOLD by the authors' own Lean function (tested against real Go, not proved from fmt's source: count such statements apart). THE CARD IS WHAT COUNTS. Prove the row's statement (the work); the ties are given (YtjeahlfmapacfaaDoorTie.lean); close each card by the builder's one call (the guide's Derived/Test/ToyasCard.lean, 'card_holds'). Laid BY PROGRAM, IN A SANDBOX (cutbox-door.mjs). By AI agents, Wed Nov 11 2026. No macro, syntax, notation, axiom, sorry.
-/
import Derived.Test.YtjeahlfmapacfaaDoorRows
import GoSem.ClaimSeven
namespace Go.Proofs.YtjeahlfmapacfaaDoor
namespace Rows

/-- THE TIED CARD OF 'ingotlaw16.TokenPlays'. -/
def tokenPlaysCard : Claim7 := { stood := { row := tokenPlaysRow, standIns := [], harness := (true, "2f2a56d902690d4fa598ba1b5c402879cb86409375482b9580c4c00134b531ba"), looks := false }, kinds := [], alts := [], laidByText := true, laidKinds := [.data, .data, .data, .data, .data], laidTests := true, laidLooks := .later }
def TokenPlaysCardSaid : Prop := Claim7.holds Tryd.pinned (.plain (OpenSpec.ofChange tokenPlaysSpec)) tokenPlaysCard

/-- THE TIED CARD OF 'ingotlaw16.TokenTaken'. -/
def tokenTakenCard : Claim7 := { stood := { row := tokenTakenRow, standIns := [], harness := (true, "2f2a56d902690d4fa598ba1b5c402879cb86409375482b9580c4c00134b531ba"), looks := false }, kinds := [], alts := [], laidByText := true, laidKinds := [.data, .data, .data, .data, .data], laidTests := true, laidLooks := .later }
def TokenTakenCardSaid : Prop := Claim7.holds Tryd.pinned (.plain (OpenSpec.ofChange tokenTakenSpec)) tokenTakenCard

/-- THE TIED CARD OF 'ingotlaw16.TokenNone'. -/
def tokenNoneCard : Claim7 := { stood := { row := tokenNoneRow, standIns := [], harness := (true, "2f2a56d902690d4fa598ba1b5c402879cb86409375482b9580c4c00134b531ba"), looks := false }, kinds := [], alts := [], laidByText := true, laidKinds := [.data, .data, .data, .data, .data], laidTests := true, laidLooks := .later }
def TokenNoneCardSaid : Prop := Claim7.holds Tryd.pinned (.plain (OpenSpec.ofChange tokenNoneSpec)) tokenNoneCard

/-- THE TIED CARD OF 'ingotlaw16.TokenUnlike'. -/
def tokenUnlikeCard : Claim7 := { stood := { row := tokenUnlikeRow, standIns := [], harness := (true, "2f2a56d902690d4fa598ba1b5c402879cb86409375482b9580c4c00134b531ba"), looks := false }, kinds := [], alts := [], laidByText := true, laidKinds := [.data, .data, .data, .data, .data], laidTests := true, laidLooks := .later }
def TokenUnlikeCardSaid : Prop := Claim7.holds Tryd.pinned (.plain (OpenSpec.ofChange tokenUnlikeSpec)) tokenUnlikeCard

/-- THE TIED CARD OF 'ingotlaw16.TokenNobody'. -/
def tokenNobodyCard : Claim7 := { stood := { row := tokenNobodyRow, standIns := [], harness := (true, "2f2a56d902690d4fa598ba1b5c402879cb86409375482b9580c4c00134b531ba"), looks := false }, kinds := [], alts := [], laidByText := true, laidKinds := [.data, .data, .data, .data, .data], laidTests := true, laidLooks := .later }
def TokenNobodyCardSaid : Prop := Claim7.holds Tryd.pinned (.plain (OpenSpec.ofChange tokenNobodySpec)) tokenNobodyCard

/-- THE SECOND FORM's CARD OF 'ingotlaw16.TokenPlays'. -/
def tokenPlaysUptoCard : Claim7 := { stood := { row := tokenPlaysUptoRow, standIns := [], harness := (true, "2f2a56d902690d4fa598ba1b5c402879cb86409375482b9580c4c00134b531ba"), looks := false }, kinds := [], alts := [], laidByText := true, laidKinds := [.data, .data, .data, .data, .data], laidTests := true, laidLooks := .later }
def TokenPlaysUptoCardSaid : Prop := Claim7.holds Tryd.pinned (.plain (OpenSpec.upto tokenPlaysSpec)) tokenPlaysUptoCard

/-- THE SECOND FORM's CARD OF 'ingotlaw16.TokenTaken'. -/
def tokenTakenUptoCard : Claim7 := { stood := { row := tokenTakenUptoRow, standIns := [], harness := (true, "2f2a56d902690d4fa598ba1b5c402879cb86409375482b9580c4c00134b531ba"), looks := false }, kinds := [], alts := [], laidByText := true, laidKinds := [.data, .data, .data, .data, .data], laidTests := true, laidLooks := .later }
def TokenTakenUptoCardSaid : Prop := Claim7.holds Tryd.pinned (.plain (OpenSpec.upto tokenTakenSpec)) tokenTakenUptoCard

/-- THE SECOND FORM's CARD OF 'ingotlaw16.TokenNone'. -/
def tokenNoneUptoCard : Claim7 := { stood := { row := tokenNoneUptoRow, standIns := [], harness := (true, "2f2a56d902690d4fa598ba1b5c402879cb86409375482b9580c4c00134b531ba"), looks := false }, kinds := [], alts := [], laidByText := true, laidKinds := [.data, .data, .data, .data, .data], laidTests := true, laidLooks := .later }
def TokenNoneUptoCardSaid : Prop := Claim7.holds Tryd.pinned (.plain (OpenSpec.upto tokenNoneSpec)) tokenNoneUptoCard

/-- THE SECOND FORM's CARD OF 'ingotlaw16.TokenUnlike'. -/
def tokenUnlikeUptoCard : Claim7 := { stood := { row := tokenUnlikeUptoRow, standIns := [], harness := (true, "2f2a56d902690d4fa598ba1b5c402879cb86409375482b9580c4c00134b531ba"), looks := false }, kinds := [], alts := [], laidByText := true, laidKinds := [.data, .data, .data, .data, .data], laidTests := true, laidLooks := .later }
def TokenUnlikeUptoCardSaid : Prop := Claim7.holds Tryd.pinned (.plain (OpenSpec.upto tokenUnlikeSpec)) tokenUnlikeUptoCard

/-- THE SECOND FORM's CARD OF 'ingotlaw16.TokenNobody'. -/
def tokenNobodyUptoCard : Claim7 := { stood := { row := tokenNobodyUptoRow, standIns := [], harness := (true, "2f2a56d902690d4fa598ba1b5c402879cb86409375482b9580c4c00134b531ba"), looks := false }, kinds := [], alts := [], laidByText := true, laidKinds := [.data, .data, .data, .data, .data], laidTests := true, laidLooks := .later }
def TokenNobodyUptoCardSaid : Prop := Claim7.holds Tryd.pinned (.plain (OpenSpec.upto tokenNobodySpec)) tokenNobodyUptoCard
end Rows
end Go.Proofs.YtjeahlfmapacfaaDoor
