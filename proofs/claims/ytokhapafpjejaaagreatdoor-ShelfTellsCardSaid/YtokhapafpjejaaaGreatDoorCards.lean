/-
  DERIVED. GIVEN WITH THE SEED: THE CARDS: each row of YtokhapafpjejaaaGreatDoorRows.lean that lists a variable, with what it lists TIED to the program's text (the seventh form; the later family's looks); each row that meets fmt, with fmt's text TOLD by the authors' own Lean function (tested against real Go, not proved from fmt's source: count such statements apart). THE CARD IS WHAT COUNTS. Prove the row's statement (the work); the ties are given (YtokhapafpjejaaaGreatDoorTie.lean); close each card by the builder's one call (the guide's Derived/Test/ToyasCard.lean, 'card_holds'). Laid BY PROGRAM, IN A SANDBOX (cutbox-door.mjs). By AI agents, Wed Nov 11 2026. No macro, syntax, notation, axiom, sorry.
-/
import Derived.Test.YtokhapafpjejaaaGreatDoorRows
import GoSem.ClaimSeven
namespace Go.Proofs.YtokhapafpjejaaaGreatDoor
namespace Rows

/-- THE TIED CARD OF 'jotterlaw17.ShelfTells'. -/
def shelfTellsCard : Claim7 := { stood := { row := shelfTellsRow, standIns := [], harness := (true, "787f7246ed38d217ca143c226426dba0ee86f2bb2e9d880effe93197db7fca5f"), looks := false }, kinds := [], alts := [], laidByText := true, laidKinds := [.data, .pinned], laidTests := true, laidLooks := .later }
def ShelfTellsCardSaid : Prop := Claim7.holds Tryz.pinned (.plain (OpenSpec.ofChange shelfTellsSpec)) shelfTellsCard

/-- THE TIED CARD OF 'jotterlaw17.ShelfScript'. -/
def shelfScriptCard : Claim7 := { stood := { row := shelfScriptRow, standIns := [], harness := (true, "787f7246ed38d217ca143c226426dba0ee86f2bb2e9d880effe93197db7fca5f"), looks := false }, kinds := [], alts := [], laidByText := true, laidKinds := [.data, .pinned], laidTests := true, laidLooks := .later }
def ShelfScriptCardSaid : Prop := Claim7.holds Tryz.pinned (.plain (OpenSpec.ofChange shelfScriptSpec)) shelfScriptCard

/-- THE SECOND FORM's CARD OF 'jotterlaw17.ShelfTells'. -/
def shelfTellsUptoCard : Claim7 := { stood := { row := shelfTellsUptoRow, standIns := [], harness := (true, "787f7246ed38d217ca143c226426dba0ee86f2bb2e9d880effe93197db7fca5f"), looks := false }, kinds := [], alts := [], laidByText := true, laidKinds := [.data, .pinned], laidTests := true, laidLooks := .later }
def ShelfTellsUptoCardSaid : Prop := Claim7.holds Tryz.pinned (.plain (OpenSpec.upto shelfTellsSpec)) shelfTellsUptoCard

/-- THE SECOND FORM's CARD OF 'jotterlaw17.ShelfScript'. -/
def shelfScriptUptoCard : Claim7 := { stood := { row := shelfScriptUptoRow, standIns := [], harness := (true, "787f7246ed38d217ca143c226426dba0ee86f2bb2e9d880effe93197db7fca5f"), looks := false }, kinds := [], alts := [], laidByText := true, laidKinds := [.data, .pinned], laidTests := true, laidLooks := .later }
def ShelfScriptUptoCardSaid : Prop := Claim7.holds Tryz.pinned (.plain (OpenSpec.upto shelfScriptSpec)) shelfScriptUptoCard
end Rows
end Go.Proofs.YtokhapafpjejaaaGreatDoor
