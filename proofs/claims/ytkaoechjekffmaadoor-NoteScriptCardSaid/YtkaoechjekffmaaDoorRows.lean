/-
  NARROWER THAN 'FOR EVERY INPUT', by the rows' own cells (each row's printed sentence says how): NoteTells: laid · NoteScript: laid · NoteTags: laid · NoteSheets: laid · NoteShifts: laid.
  DERIVED. THE GIVEN ROWS OF THIS SEAT. 5 by the template 'for every input the law returns true; each argument reads behind the call as it read before'; 0 by the template 'total and deterministic' (their statements: YtkaoechjekffmaaDoorTotals.lean).
  GIVEN WITH THE SEED: the statements are not yours to turn. If you find one false, say at which input.
  Laid BY PROGRAM, IN A SANDBOX (cutbox-rows.mjs): the forced cells as the released guide's own fill.sh prints them over the translation b7ecb5efae7e574c… (all of the seat's roots in one cut). By AI agents, Wed Nov 11 2026. No macro, syntax, notation, axiom, sorry.
-/
import Derived.Test.YtkaoechjekffmaaDoorChecked
import GoSem.PinnedTables
import GoSem.Claim
import GoSem.ClaimJoined
import GoSem.ClaimMapViews
import Derived.JoinedTies
import Derived.KernelRfl
namespace Go.Proofs.YtkaoechjekffmaaDoor
/- THE CELL 'sum', in the pinned program and in every row, IS THE sha256 OF THE DUMP (.gsa) THAT YtkaoechjekffmaaDoorProg.lean LOADS. Nothing in Lean hashes anything: it is a label: what it is worth is what the hold of that sum in a sandbox is worth. -/
noncomputable def Tryd.pinned : Pinned := { name := "ytkaoechjekffmaadoor", sum := "b7ecb5efae7e574c7da9749572f802cea8b08c358c080adcb0145d15457bf7a2", checked := Tryd.checked }
namespace Rows
def none {H : Type} : Left H := { results := [], args := [] }

/- WHAT THE LISTED PACKAGE-LEVEL VARIABLES READ AS WHEN THE CALL BEGINS. Each datum BY PROGRAM (the guide's laid-datum.mjs) off the statement by which the dump's own 'gosem.cut.vars' lays the variable. In a bare row this is a premise. The card (YtkaoechjekffmaaDoorCards.lean) ties it to the program's text. -/
def laid_unicode_utf8_acceptRanges {H : Type} : DataW H := .agg [.agg [.lit (.int .u8 128), .lit (.int .u8 191)], .agg [.lit (.int .u8 160), .lit (.int .u8 191)], .agg [.lit (.int .u8 128), .lit (.int .u8 159)], .agg [.lit (.int .u8 144), .lit (.int .u8 191)], .agg [.lit (.int .u8 128), .lit (.int .u8 143)], .agg [.lit (.int .u8 0), .lit (.int .u8 0)], .agg [.lit (.int .u8 0), .lit (.int .u8 0)], .agg [.lit (.int .u8 0), .lit (.int .u8 0)], .agg [.lit (.int .u8 0), .lit (.int .u8 0)], .agg [.lit (.int .u8 0), .lit (.int .u8 0)], .agg [.lit (.int .u8 0), .lit (.int .u8 0)], .agg [.lit (.int .u8 0), .lit (.int .u8 0)], .agg [.lit (.int .u8 0), .lit (.int .u8 0)], .agg [.lit (.int .u8 0), .lit (.int .u8 0)], .agg [.lit (.int .u8 0), .lit (.int .u8 0)], .agg [.lit (.int .u8 0), .lit (.int .u8 0)]]
/-- One of Go's own tables, pinned by name: the form's constant. -/
def laid_unicode_utf8_first : DataW Unit := Go.Pinned.utf8First

/-- 'jotterlaw18.NoteTells': WHATEVER THE INPUT: true; the input reads as it did. -/
def noteTellsSpec : ChangeSpec := { name := "noteTells", fn := fun _ => fun
  | [d1, d2] => { results := [.lit (.bool true)], args := [d1, d2] }
  | _ => none }
def noteTellsRow : OpenClaim := { program := "ytkaoechjekffmaadoor", sum := "b7ecb5efae7e574c7da9749572f802cea8b08c358c080adcb0145d15457bf7a2", func := "jotter/jotterlaw18.NoteTells", spec := "noteTells", inPlace := ["slices.overlaps[string]"], unfollowed := true, recurses := true, named := ["unicode/utf8.first", "unicode/utf8.acceptRanges"], apart := false, laid := [("unicode/utf8.acceptRanges", laid_unicode_utf8_acceptRanges), ("unicode/utf8.first", laid_unicode_utf8_first)] }
def NoteTellsSaid : Prop := noteTellsRow.holds Tryd.pinned (OpenSpec.ofChange noteTellsSpec)

/-- ITS FALSE NEIGHBOUR: 'it returns false'. Refute it at one input. -/
def noteTellsWrong : ChangeSpec := { name := "noteTells", fn := fun _ => fun
  | [d1, d2] => { results := [.lit (.bool false)], args := [d1, d2] }
  | _ => none }
def NoteTellsWrongFalsely : Prop := noteTellsRow.holds Tryd.pinned (OpenSpec.ofChange noteTellsWrong)

/-- 'jotterlaw18.NoteScript': WHATEVER THE INPUT: true; the input reads as it did. -/
def noteScriptSpec : ChangeSpec := { name := "noteScript", fn := fun _ => fun
  | [d1, d2] => { results := [.lit (.bool true)], args := [d1, d2] }
  | _ => none }
def noteScriptRow : OpenClaim := { program := "ytkaoechjekffmaadoor", sum := "b7ecb5efae7e574c7da9749572f802cea8b08c358c080adcb0145d15457bf7a2", func := "jotter/jotterlaw18.NoteScript", spec := "noteScript", inPlace := ["slices.overlaps[string]"], unfollowed := true, recurses := true, named := ["unicode/utf8.first", "unicode/utf8.acceptRanges"], apart := false, laid := [("unicode/utf8.acceptRanges", laid_unicode_utf8_acceptRanges), ("unicode/utf8.first", laid_unicode_utf8_first)] }
def NoteScriptSaid : Prop := noteScriptRow.holds Tryd.pinned (OpenSpec.ofChange noteScriptSpec)

/-- ITS FALSE NEIGHBOUR: 'it returns false'. Refute it at one input. -/
def noteScriptWrong : ChangeSpec := { name := "noteScript", fn := fun _ => fun
  | [d1, d2] => { results := [.lit (.bool false)], args := [d1, d2] }
  | _ => none }
def NoteScriptWrongFalsely : Prop := noteScriptRow.holds Tryd.pinned (OpenSpec.ofChange noteScriptWrong)

/-- 'jotterlaw18.NoteTags': WHATEVER THE INPUT: true; the input reads as it did. -/
def noteTagsSpec : ChangeSpec := { name := "noteTags", fn := fun _ => fun
  | [d1, d2, d3] => { results := [.lit (.bool true)], args := [d1, d2, d3] }
  | _ => none }
def noteTagsRow : OpenClaim := { program := "ytkaoechjekffmaadoor", sum := "b7ecb5efae7e574c7da9749572f802cea8b08c358c080adcb0145d15457bf7a2", func := "jotter/jotterlaw18.NoteTags", spec := "noteTags", inPlace := ["slices.overlaps[string]"], unfollowed := true, recurses := true, named := ["unicode/utf8.first", "unicode/utf8.acceptRanges"], apart := false, laid := [("unicode/utf8.acceptRanges", laid_unicode_utf8_acceptRanges), ("unicode/utf8.first", laid_unicode_utf8_first)] }
def NoteTagsSaid : Prop := noteTagsRow.holds Tryd.pinned (OpenSpec.ofChange noteTagsSpec)

/-- ITS FALSE NEIGHBOUR: 'it returns false'. Refute it at one input. -/
def noteTagsWrong : ChangeSpec := { name := "noteTags", fn := fun _ => fun
  | [d1, d2, d3] => { results := [.lit (.bool false)], args := [d1, d2, d3] }
  | _ => none }
def NoteTagsWrongFalsely : Prop := noteTagsRow.holds Tryd.pinned (OpenSpec.ofChange noteTagsWrong)

/-- 'jotterlaw18.NoteSheets': WHATEVER THE INPUT: true; the input reads as it did. -/
def noteSheetsSpec : ChangeSpec := { name := "noteSheets", fn := fun _ => fun
  | [d1, d2] => { results := [.lit (.bool true)], args := [d1, d2] }
  | _ => none }
def noteSheetsRow : OpenClaim := { program := "ytkaoechjekffmaadoor", sum := "b7ecb5efae7e574c7da9749572f802cea8b08c358c080adcb0145d15457bf7a2", func := "jotter/jotterlaw18.NoteSheets", spec := "noteSheets", inPlace := ["slices.overlaps[string]"], unfollowed := true, recurses := true, named := ["unicode/utf8.first", "unicode/utf8.acceptRanges"], apart := false, laid := [("unicode/utf8.acceptRanges", laid_unicode_utf8_acceptRanges), ("unicode/utf8.first", laid_unicode_utf8_first)] }
def NoteSheetsSaid : Prop := noteSheetsRow.holds Tryd.pinned (OpenSpec.ofChange noteSheetsSpec)

/-- ITS FALSE NEIGHBOUR: 'it returns false'. Refute it at one input. -/
def noteSheetsWrong : ChangeSpec := { name := "noteSheets", fn := fun _ => fun
  | [d1, d2] => { results := [.lit (.bool false)], args := [d1, d2] }
  | _ => none }
def NoteSheetsWrongFalsely : Prop := noteSheetsRow.holds Tryd.pinned (OpenSpec.ofChange noteSheetsWrong)

/-- 'jotterlaw18.NoteShifts': WHATEVER THE INPUT: true; the input reads as it did. -/
def noteShiftsSpec : ChangeSpec := { name := "noteShifts", fn := fun _ => fun
  | [d1, d2, d3] => { results := [.lit (.bool true)], args := [d1, d2, d3] }
  | _ => none }
def noteShiftsRow : OpenClaim := { program := "ytkaoechjekffmaadoor", sum := "b7ecb5efae7e574c7da9749572f802cea8b08c358c080adcb0145d15457bf7a2", func := "jotter/jotterlaw18.NoteShifts", spec := "noteShifts", inPlace := ["slices.overlaps[string]"], unfollowed := true, recurses := true, named := ["unicode/utf8.first", "unicode/utf8.acceptRanges"], apart := false, laid := [("unicode/utf8.acceptRanges", laid_unicode_utf8_acceptRanges), ("unicode/utf8.first", laid_unicode_utf8_first)] }
def NoteShiftsSaid : Prop := noteShiftsRow.holds Tryd.pinned (OpenSpec.ofChange noteShiftsSpec)

/-- ITS FALSE NEIGHBOUR: 'it returns false'. Refute it at one input. -/
def noteShiftsWrong : ChangeSpec := { name := "noteShifts", fn := fun _ => fun
  | [d1, d2, d3] => { results := [.lit (.bool false)], args := [d1, d2, d3] }
  | _ => none }
def NoteShiftsWrongFalsely : Prop := noteShiftsRow.holds Tryd.pinned (OpenSpec.ofChange noteShiftsWrong)

/- THE SECOND FORM. 'bulk': how many values and letters a reading holds, each counted each time it is reached (what is shared counts as often as it is met; a slice's spare places count too). A statement '..UptoSaid' is the law's where the arguments, and the package variables that the reading takes, are together of bulk at most 1048576: NARROWER than '..Said'. Prove '..Said' where nothing that the law and all that it calls make is longer than what came in: it says more and counts as full. Else prove '..UptoSaid'. A law counts once. -/
mutual
def uptoBulk {H : Type} : DataW H → Nat
  | .lit (.string bytes) => bytes.length + 1
  | .lit _ => 1
  | .nil => 1
  | .ptr d => uptoBulk d + 1
  | .slice elems spare => uptoBulkAll elems + uptoBulkAll spare + 1
  | .agg parts => uptoBulkAll parts + 1
  | .iface _ d => uptoBulk d + 1
  | .map entries => uptoBulkEntries entries + 1
  | .held _ => 1
def uptoBulkAll {H : Type} : List (DataW H) → Nat
  | [] => 0
  | d :: r => uptoBulk d + uptoBulkAll r
def uptoBulkEntries {H : Type} : List (Lit × DataW H) → Nat
  | [] => 0
  | x :: r => uptoBulkEntry x + uptoBulkEntries r
def uptoBulkEntry {H : Type} : Lit × DataW H → Nat
  | (.string bytes, d) => bytes.length + uptoBulk d + 1
  | (_, d) => uptoBulk d + 1
 end
def uptoSmall : (H : Type) → List (DataW H) → Bool := fun _ ds => decide (uptoBulkAll ds ≤ 1048576)
def OpenSpec.upto (s : _root_.Go.ChangeSpec) : _root_.Go.OpenSpec := { _root_.Go.OpenSpec.ofChange s with cond := some uptoSmall }

/-- 'jotterlaw18.NoteTells', WHERE WHAT IT READS IS OF BULK AT MOST 1048576: true; the input reads as it did. -/
def noteTellsUptoRow : OpenClaim := { program := "ytkaoechjekffmaadoor", sum := "b7ecb5efae7e574c7da9749572f802cea8b08c358c080adcb0145d15457bf7a2", func := "jotter/jotterlaw18.NoteTells", spec := "noteTells", inPlace := ["slices.overlaps[string]"], unfollowed := true, recurses := true, named := ["unicode/utf8.first", "unicode/utf8.acceptRanges"], apart := false, laid := [("unicode/utf8.acceptRanges", laid_unicode_utf8_acceptRanges), ("unicode/utf8.first", laid_unicode_utf8_first)], narrowed := true }
def NoteTellsUptoSaid : Prop := noteTellsUptoRow.holds Tryd.pinned (OpenSpec.upto noteTellsSpec)

/-- 'jotterlaw18.NoteScript', WHERE WHAT IT READS IS OF BULK AT MOST 1048576: true; the input reads as it did. -/
def noteScriptUptoRow : OpenClaim := { program := "ytkaoechjekffmaadoor", sum := "b7ecb5efae7e574c7da9749572f802cea8b08c358c080adcb0145d15457bf7a2", func := "jotter/jotterlaw18.NoteScript", spec := "noteScript", inPlace := ["slices.overlaps[string]"], unfollowed := true, recurses := true, named := ["unicode/utf8.first", "unicode/utf8.acceptRanges"], apart := false, laid := [("unicode/utf8.acceptRanges", laid_unicode_utf8_acceptRanges), ("unicode/utf8.first", laid_unicode_utf8_first)], narrowed := true }
def NoteScriptUptoSaid : Prop := noteScriptUptoRow.holds Tryd.pinned (OpenSpec.upto noteScriptSpec)

/-- 'jotterlaw18.NoteTags', WHERE WHAT IT READS IS OF BULK AT MOST 1048576: true; the input reads as it did. -/
def noteTagsUptoRow : OpenClaim := { program := "ytkaoechjekffmaadoor", sum := "b7ecb5efae7e574c7da9749572f802cea8b08c358c080adcb0145d15457bf7a2", func := "jotter/jotterlaw18.NoteTags", spec := "noteTags", inPlace := ["slices.overlaps[string]"], unfollowed := true, recurses := true, named := ["unicode/utf8.first", "unicode/utf8.acceptRanges"], apart := false, laid := [("unicode/utf8.acceptRanges", laid_unicode_utf8_acceptRanges), ("unicode/utf8.first", laid_unicode_utf8_first)], narrowed := true }
def NoteTagsUptoSaid : Prop := noteTagsUptoRow.holds Tryd.pinned (OpenSpec.upto noteTagsSpec)

/-- 'jotterlaw18.NoteSheets', WHERE WHAT IT READS IS OF BULK AT MOST 1048576: true; the input reads as it did. -/
def noteSheetsUptoRow : OpenClaim := { program := "ytkaoechjekffmaadoor", sum := "b7ecb5efae7e574c7da9749572f802cea8b08c358c080adcb0145d15457bf7a2", func := "jotter/jotterlaw18.NoteSheets", spec := "noteSheets", inPlace := ["slices.overlaps[string]"], unfollowed := true, recurses := true, named := ["unicode/utf8.first", "unicode/utf8.acceptRanges"], apart := false, laid := [("unicode/utf8.acceptRanges", laid_unicode_utf8_acceptRanges), ("unicode/utf8.first", laid_unicode_utf8_first)], narrowed := true }
def NoteSheetsUptoSaid : Prop := noteSheetsUptoRow.holds Tryd.pinned (OpenSpec.upto noteSheetsSpec)

/-- 'jotterlaw18.NoteShifts', WHERE WHAT IT READS IS OF BULK AT MOST 1048576: true; the input reads as it did. -/
def noteShiftsUptoRow : OpenClaim := { program := "ytkaoechjekffmaadoor", sum := "b7ecb5efae7e574c7da9749572f802cea8b08c358c080adcb0145d15457bf7a2", func := "jotter/jotterlaw18.NoteShifts", spec := "noteShifts", inPlace := ["slices.overlaps[string]"], unfollowed := true, recurses := true, named := ["unicode/utf8.first", "unicode/utf8.acceptRanges"], apart := false, laid := [("unicode/utf8.acceptRanges", laid_unicode_utf8_acceptRanges), ("unicode/utf8.first", laid_unicode_utf8_first)], narrowed := true }
def NoteShiftsUptoSaid : Prop := noteShiftsUptoRow.holds Tryd.pinned (OpenSpec.upto noteShiftsSpec)

end Rows
end Go.Proofs.YtkaoechjekffmaaDoor
