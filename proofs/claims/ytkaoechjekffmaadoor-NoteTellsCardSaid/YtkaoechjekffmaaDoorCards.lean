/-
  DERIVED. GIVEN WITH THE SEED: THE CARDS: each row of YtkaoechjekffmaaDoorRows.lean that lists a variable, with what it lists TIED to the program's text (the seventh form; the later family's looks); each row that meets fmt, with fmt's text TOLD by the authors' own Lean function (tested against real Go, not proved from fmt's source: count such statements apart). THE CARD IS WHAT COUNTS. Prove the row's statement (the work); the ties are given (YtkaoechjekffmaaDoorTie.lean); close each card by the builder's one call (the guide's Derived/Test/ToyasCard.lean, 'card_holds'). Laid BY PROGRAM, IN A SANDBOX (cutbox-door.mjs). By AI agents, Wed Nov 11 2026. No macro, syntax, notation, axiom, sorry.
-/
import Derived.Test.YtkaoechjekffmaaDoorRows
import GoSem.ClaimSeven
namespace Go.Proofs.YtkaoechjekffmaaDoor
namespace Rows

/-- THE TIED CARD OF 'jotterlaw18.NoteTells'. -/
def noteTellsCard : Claim7 := { stood := { row := noteTellsRow, standIns := [], harness := (true, "3d661f6fb5cae9b773498bc01a8633803764cc7d3ca67bef99f51b3f24306ede"), looks := false }, kinds := [], alts := [], laidByText := true, laidKinds := [.data, .pinned], laidTests := true, laidLooks := .later }
def NoteTellsCardSaid : Prop := Claim7.holds Tryd.pinned (.plain (OpenSpec.ofChange noteTellsSpec)) noteTellsCard

/-- THE TIED CARD OF 'jotterlaw18.NoteScript'. -/
def noteScriptCard : Claim7 := { stood := { row := noteScriptRow, standIns := [], harness := (true, "3d661f6fb5cae9b773498bc01a8633803764cc7d3ca67bef99f51b3f24306ede"), looks := false }, kinds := [], alts := [], laidByText := true, laidKinds := [.data, .pinned], laidTests := true, laidLooks := .later }
def NoteScriptCardSaid : Prop := Claim7.holds Tryd.pinned (.plain (OpenSpec.ofChange noteScriptSpec)) noteScriptCard

/-- THE TIED CARD OF 'jotterlaw18.NoteTags'. -/
def noteTagsCard : Claim7 := { stood := { row := noteTagsRow, standIns := [], harness := (true, "3d661f6fb5cae9b773498bc01a8633803764cc7d3ca67bef99f51b3f24306ede"), looks := false }, kinds := [], alts := [], laidByText := true, laidKinds := [.data, .pinned], laidTests := true, laidLooks := .later }
def NoteTagsCardSaid : Prop := Claim7.holds Tryd.pinned (.plain (OpenSpec.ofChange noteTagsSpec)) noteTagsCard

/-- THE TIED CARD OF 'jotterlaw18.NoteSheets'. -/
def noteSheetsCard : Claim7 := { stood := { row := noteSheetsRow, standIns := [], harness := (true, "3d661f6fb5cae9b773498bc01a8633803764cc7d3ca67bef99f51b3f24306ede"), looks := false }, kinds := [], alts := [], laidByText := true, laidKinds := [.data, .pinned], laidTests := true, laidLooks := .later }
def NoteSheetsCardSaid : Prop := Claim7.holds Tryd.pinned (.plain (OpenSpec.ofChange noteSheetsSpec)) noteSheetsCard

/-- THE TIED CARD OF 'jotterlaw18.NoteShifts'. -/
def noteShiftsCard : Claim7 := { stood := { row := noteShiftsRow, standIns := [], harness := (true, "3d661f6fb5cae9b773498bc01a8633803764cc7d3ca67bef99f51b3f24306ede"), looks := false }, kinds := [], alts := [], laidByText := true, laidKinds := [.data, .pinned], laidTests := true, laidLooks := .later }
def NoteShiftsCardSaid : Prop := Claim7.holds Tryd.pinned (.plain (OpenSpec.ofChange noteShiftsSpec)) noteShiftsCard

/-- THE SECOND FORM's CARD OF 'jotterlaw18.NoteTells'. -/
def noteTellsUptoCard : Claim7 := { stood := { row := noteTellsUptoRow, standIns := [], harness := (true, "3d661f6fb5cae9b773498bc01a8633803764cc7d3ca67bef99f51b3f24306ede"), looks := false }, kinds := [], alts := [], laidByText := true, laidKinds := [.data, .pinned], laidTests := true, laidLooks := .later }
def NoteTellsUptoCardSaid : Prop := Claim7.holds Tryd.pinned (.plain (OpenSpec.upto noteTellsSpec)) noteTellsUptoCard

/-- THE SECOND FORM's CARD OF 'jotterlaw18.NoteScript'. -/
def noteScriptUptoCard : Claim7 := { stood := { row := noteScriptUptoRow, standIns := [], harness := (true, "3d661f6fb5cae9b773498bc01a8633803764cc7d3ca67bef99f51b3f24306ede"), looks := false }, kinds := [], alts := [], laidByText := true, laidKinds := [.data, .pinned], laidTests := true, laidLooks := .later }
def NoteScriptUptoCardSaid : Prop := Claim7.holds Tryd.pinned (.plain (OpenSpec.upto noteScriptSpec)) noteScriptUptoCard

/-- THE SECOND FORM's CARD OF 'jotterlaw18.NoteTags'. -/
def noteTagsUptoCard : Claim7 := { stood := { row := noteTagsUptoRow, standIns := [], harness := (true, "3d661f6fb5cae9b773498bc01a8633803764cc7d3ca67bef99f51b3f24306ede"), looks := false }, kinds := [], alts := [], laidByText := true, laidKinds := [.data, .pinned], laidTests := true, laidLooks := .later }
def NoteTagsUptoCardSaid : Prop := Claim7.holds Tryd.pinned (.plain (OpenSpec.upto noteTagsSpec)) noteTagsUptoCard

/-- THE SECOND FORM's CARD OF 'jotterlaw18.NoteSheets'. -/
def noteSheetsUptoCard : Claim7 := { stood := { row := noteSheetsUptoRow, standIns := [], harness := (true, "3d661f6fb5cae9b773498bc01a8633803764cc7d3ca67bef99f51b3f24306ede"), looks := false }, kinds := [], alts := [], laidByText := true, laidKinds := [.data, .pinned], laidTests := true, laidLooks := .later }
def NoteSheetsUptoCardSaid : Prop := Claim7.holds Tryd.pinned (.plain (OpenSpec.upto noteSheetsSpec)) noteSheetsUptoCard

/-- THE SECOND FORM's CARD OF 'jotterlaw18.NoteShifts'. -/
def noteShiftsUptoCard : Claim7 := { stood := { row := noteShiftsUptoRow, standIns := [], harness := (true, "3d661f6fb5cae9b773498bc01a8633803764cc7d3ca67bef99f51b3f24306ede"), looks := false }, kinds := [], alts := [], laidByText := true, laidKinds := [.data, .pinned], laidTests := true, laidLooks := .later }
def NoteShiftsUptoCardSaid : Prop := Claim7.holds Tryd.pinned (.plain (OpenSpec.upto noteShiftsSpec)) noteShiftsUptoCard
end Rows
end Go.Proofs.YtkaoechjekffmaaDoor
