/-
  DERIVED. GIVEN WITH THE SEED: THE CARDS: each row of YtokhapafpjejaaaDoorRows.lean that lists a variable, with what it lists TIED to the program's text (the seventh form; the later family's looks); each row that meets fmt, with fmt's text TOLD by the authors' own Lean function (tested against real Go, not proved from fmt's source: count such statements apart). THE CARD IS WHAT COUNTS. Prove the row's statement (the work); the ties are given (YtokhapafpjejaaaDoorTie.lean); close each card by the builder's one call (the guide's Derived/Test/ToyasCard.lean, 'card_holds'). Laid BY PROGRAM, IN A SANDBOX (cutbox-door.mjs). By AI agents, Wed Nov 11 2026. No macro, syntax, notation, axiom, sorry.
-/
import Derived.Test.YtokhapafpjejaaaDoorRows
import GoSem.ClaimSeven
namespace Go.Proofs.YtokhapafpjejaaaDoor
namespace Rows

/-- THE TIED CARD OF 'jotterlaw17.ShelfBack'. -/
def shelfBackCard : Claim7 := { stood := { row := shelfBackRow, standIns := [], harness := (true, "a1a8c432e2669b35e05e8f4d3f82007d69dd3160c0d2cb6f25699851804d10d7"), looks := false }, kinds := [], alts := [], laidByText := true, laidKinds := [.data, .pinned], laidTests := true, laidLooks := .later }
def ShelfBackCardSaid : Prop := Claim7.holds Tryd.pinned (.plain (OpenSpec.ofChange shelfBackSpec)) shelfBackCard

/-- THE TIED CARD OF 'jotterlaw17.ShelfLists'. -/
def shelfListsCard : Claim7 := { stood := { row := shelfListsRow, standIns := [], harness := (true, "a1a8c432e2669b35e05e8f4d3f82007d69dd3160c0d2cb6f25699851804d10d7"), looks := false }, kinds := [], alts := [], laidByText := true, laidKinds := [.data, .pinned], laidTests := true, laidLooks := .later }
def ShelfListsCardSaid : Prop := Claim7.holds Tryd.pinned (.plain (OpenSpec.ofChange shelfListsSpec)) shelfListsCard

/-- THE TIED CARD OF 'jotterlaw17.ShelfDrops'. -/
def shelfDropsCard : Claim7 := { stood := { row := shelfDropsRow, standIns := [], harness := (true, "a1a8c432e2669b35e05e8f4d3f82007d69dd3160c0d2cb6f25699851804d10d7"), looks := false }, kinds := [], alts := [], laidByText := true, laidKinds := [.data, .pinned], laidTests := true, laidLooks := .later }
def ShelfDropsCardSaid : Prop := Claim7.holds Tryd.pinned (.plain (OpenSpec.ofChange shelfDropsSpec)) shelfDropsCard

/-- THE SECOND FORM's CARD OF 'jotterlaw17.ShelfBack'. -/
def shelfBackUptoCard : Claim7 := { stood := { row := shelfBackUptoRow, standIns := [], harness := (true, "a1a8c432e2669b35e05e8f4d3f82007d69dd3160c0d2cb6f25699851804d10d7"), looks := false }, kinds := [], alts := [], laidByText := true, laidKinds := [.data, .pinned], laidTests := true, laidLooks := .later }
def ShelfBackUptoCardSaid : Prop := Claim7.holds Tryd.pinned (.plain (OpenSpec.upto shelfBackSpec)) shelfBackUptoCard

/-- THE SECOND FORM's CARD OF 'jotterlaw17.ShelfLists'. -/
def shelfListsUptoCard : Claim7 := { stood := { row := shelfListsUptoRow, standIns := [], harness := (true, "a1a8c432e2669b35e05e8f4d3f82007d69dd3160c0d2cb6f25699851804d10d7"), looks := false }, kinds := [], alts := [], laidByText := true, laidKinds := [.data, .pinned], laidTests := true, laidLooks := .later }
def ShelfListsUptoCardSaid : Prop := Claim7.holds Tryd.pinned (.plain (OpenSpec.upto shelfListsSpec)) shelfListsUptoCard

/-- THE SECOND FORM's CARD OF 'jotterlaw17.ShelfDrops'. -/
def shelfDropsUptoCard : Claim7 := { stood := { row := shelfDropsUptoRow, standIns := [], harness := (true, "a1a8c432e2669b35e05e8f4d3f82007d69dd3160c0d2cb6f25699851804d10d7"), looks := false }, kinds := [], alts := [], laidByText := true, laidKinds := [.data, .pinned], laidTests := true, laidLooks := .later }
def ShelfDropsUptoCardSaid : Prop := Claim7.holds Tryd.pinned (.plain (OpenSpec.upto shelfDropsSpec)) shelfDropsUptoCard
end Rows
end Go.Proofs.YtokhapafpjejaaaDoor
