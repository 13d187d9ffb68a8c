/-
  No cell of these rows narrows 'for every input' (looked for: loops, veiled, ifaces, maps, wideKeys, modest, calm, conditions, laid).
  DERIVED. THE GIVEN ROWS OF THIS SEAT. 6 by the template 'for every input the law returns true; each argument reads behind the call as it read before'; 0 by the template 'total and deterministic' (their statements: YtjmochkhdapmiaaTotals.lean).
  GIVEN WITH THE SEED: the statements are not yours to turn. If you find one false, say at which input.
  Laid BY PROGRAM, IN A SANDBOX (cutbox-rows.mjs): the forced cells as the released guide's own fill.sh prints them over the translation b78d6e495ce98792… (all of the seat's roots in one cut). By AI agents, Wed Nov 11 2026. No macro, syntax, notation, axiom, sorry.
-/
import Derived.Test.YtjmochkhdapmiaaChecked
import GoSem.Claim
import GoSem.ClaimJoined
import GoSem.ClaimMapViews
import Derived.JoinedTies
import Derived.KernelRfl
namespace Go.Proofs.Ytjmochkhdapmiaa
/- THE CELL 'sum', in the pinned program and in every row, IS THE sha256 OF THE DUMP (.gsa) THAT YtjmochkhdapmiaaProg.lean LOADS. Nothing in Lean hashes anything: it is a label: what it is worth is what the hold of that sum in a sandbox is worth. -/
noncomputable def Try.pinned : Pinned := { name := "ytjmochkhdapmiaa", sum := "b78d6e495ce98792631a2fa89ccc1e6abe8f1a9dfcec85ce9f13a3e1599b1d86", checked := Try.checked }
namespace Rows
def none {H : Type} : Left H := { results := [], args := [] }

/-- 'jotterlaw8.TagLays': WHATEVER THE INPUT: true; the input reads as it did. -/
def tagLaysSpec : ChangeSpec := { name := "tagLays", fn := fun _ => fun
  | [d1, d2] => { results := [.lit (.bool true)], args := [d1, d2] }
  | _ => none }
def tagLaysRow : OpenClaim := { program := "ytjmochkhdapmiaa", sum := "b78d6e495ce98792631a2fa89ccc1e6abe8f1a9dfcec85ce9f13a3e1599b1d86", func := "jotter/jotterlaw8.TagLays", spec := "tagLays", apart := false }
def TagLaysSaid : Prop := tagLaysRow.holds Try.pinned (OpenSpec.ofChange tagLaysSpec)

/-- ITS FALSE NEIGHBOUR: 'it returns false'. Refute it at one input. -/
def tagLaysWrong : ChangeSpec := { name := "tagLays", fn := fun _ => fun
  | [d1, d2] => { results := [.lit (.bool false)], args := [d1, d2] }
  | _ => none }
def TagLaysWrongFalsely : Prop := tagLaysRow.holds Try.pinned (OpenSpec.ofChange tagLaysWrong)

/-- 'jotterlaw8.TagReads': WHATEVER THE INPUT: true; the input reads as it did. -/
def tagReadsSpec : ChangeSpec := { name := "tagReads", fn := fun _ => fun
  | [d] => { results := [.lit (.bool true)], args := [d] }
  | _ => none }
def tagReadsRow : OpenClaim := { program := "ytjmochkhdapmiaa", sum := "b78d6e495ce98792631a2fa89ccc1e6abe8f1a9dfcec85ce9f13a3e1599b1d86", func := "jotter/jotterlaw8.TagReads", spec := "tagReads", apart := false }
def TagReadsSaid : Prop := tagReadsRow.holds Try.pinned (OpenSpec.ofChange tagReadsSpec)

/-- ITS FALSE NEIGHBOUR: 'it returns false'. Refute it at one input. -/
def tagReadsWrong : ChangeSpec := { name := "tagReads", fn := fun _ => fun
  | [d] => { results := [.lit (.bool false)], args := [d] }
  | _ => none }
def TagReadsWrongFalsely : Prop := tagReadsRow.holds Try.pinned (OpenSpec.ofChange tagReadsWrong)

/-- 'jotterlaw8.TagTorn': WHATEVER THE INPUT: true; the input reads as it did. -/
def tagTornSpec : ChangeSpec := { name := "tagTorn", fn := fun _ => fun
  | [d1, d2, d3, d4] => { results := [.lit (.bool true)], args := [d1, d2, d3, d4] }
  | _ => none }
def tagTornRow : OpenClaim := { program := "ytjmochkhdapmiaa", sum := "b78d6e495ce98792631a2fa89ccc1e6abe8f1a9dfcec85ce9f13a3e1599b1d86", func := "jotter/jotterlaw8.TagTorn", spec := "tagTorn", apart := false }
def TagTornSaid : Prop := tagTornRow.holds Try.pinned (OpenSpec.ofChange tagTornSpec)

/-- ITS FALSE NEIGHBOUR: 'it returns false'. Refute it at one input. -/
def tagTornWrong : ChangeSpec := { name := "tagTorn", fn := fun _ => fun
  | [d1, d2, d3, d4] => { results := [.lit (.bool false)], args := [d1, d2, d3, d4] }
  | _ => none }
def TagTornWrongFalsely : Prop := tagTornRow.holds Try.pinned (OpenSpec.ofChange tagTornWrong)

/-- 'jotterlaw8.TagBack': WHATEVER THE INPUT: true; the input reads as it did. -/
def tagBackSpec : ChangeSpec := { name := "tagBack", fn := fun _ => fun
  | [d1, d2, d3] => { results := [.lit (.bool true)], args := [d1, d2, d3] }
  | _ => none }
def tagBackRow : OpenClaim := { program := "ytjmochkhdapmiaa", sum := "b78d6e495ce98792631a2fa89ccc1e6abe8f1a9dfcec85ce9f13a3e1599b1d86", func := "jotter/jotterlaw8.TagBack", spec := "tagBack", apart := false }
def TagBackSaid : Prop := tagBackRow.holds Try.pinned (OpenSpec.ofChange tagBackSpec)

/-- ITS FALSE NEIGHBOUR: 'it returns false'. Refute it at one input. -/
def tagBackWrong : ChangeSpec := { name := "tagBack", fn := fun _ => fun
  | [d1, d2, d3] => { results := [.lit (.bool false)], args := [d1, d2, d3] }
  | _ => none }
def TagBackWrongFalsely : Prop := tagBackRow.holds Try.pinned (OpenSpec.ofChange tagBackWrong)

/-- 'jotterlaw8.TagUnlike': WHATEVER THE INPUT: true; the input reads as it did. -/
def tagUnlikeSpec : ChangeSpec := { name := "tagUnlike", fn := fun _ => fun
  | [d1, d2, d3, d4] => { results := [.lit (.bool true)], args := [d1, d2, d3, d4] }
  | _ => none }
def tagUnlikeRow : OpenClaim := { program := "ytjmochkhdapmiaa", sum := "b78d6e495ce98792631a2fa89ccc1e6abe8f1a9dfcec85ce9f13a3e1599b1d86", func := "jotter/jotterlaw8.TagUnlike", spec := "tagUnlike", apart := false }
def TagUnlikeSaid : Prop := tagUnlikeRow.holds Try.pinned (OpenSpec.ofChange tagUnlikeSpec)

/-- ITS FALSE NEIGHBOUR: 'it returns false'. Refute it at one input. -/
def tagUnlikeWrong : ChangeSpec := { name := "tagUnlike", fn := fun _ => fun
  | [d1, d2, d3, d4] => { results := [.lit (.bool false)], args := [d1, d2, d3, d4] }
  | _ => none }
def TagUnlikeWrongFalsely : Prop := tagUnlikeRow.holds Try.pinned (OpenSpec.ofChange tagUnlikeWrong)

/-- 'jotterlaw8.TagLengths': WHATEVER THE INPUT: true; the input reads as it did. -/
def tagLengthsSpec : ChangeSpec := { name := "tagLengths", fn := fun _ => fun
  | [d1, d2] => { results := [.lit (.bool true)], args := [d1, d2] }
  | _ => none }
def tagLengthsRow : OpenClaim := { program := "ytjmochkhdapmiaa", sum := "b78d6e495ce98792631a2fa89ccc1e6abe8f1a9dfcec85ce9f13a3e1599b1d86", func := "jotter/jotterlaw8.TagLengths", spec := "tagLengths", apart := false }
def TagLengthsSaid : Prop := tagLengthsRow.holds Try.pinned (OpenSpec.ofChange tagLengthsSpec)

/-- ITS FALSE NEIGHBOUR: 'it returns false'. Refute it at one input. -/
def tagLengthsWrong : ChangeSpec := { name := "tagLengths", fn := fun _ => fun
  | [d1, d2] => { results := [.lit (.bool false)], args := [d1, d2] }
  | _ => none }
def TagLengthsWrongFalsely : Prop := tagLengthsRow.holds Try.pinned (OpenSpec.ofChange tagLengthsWrong)

/- THE SECOND FORM. 'bulk': how many values and letters a reading holds, each counted each time it is reached (what is shared counts as often as it is met; a slice's spare places count too). A statement '..UptoSaid' is the law's where the arguments, and the package variables that the reading takes, are together of bulk at most 1048576: NARROWER than '..Said'. Prove '..Said' where nothing that the law and all that it calls make is longer than what came in: it says more and counts as full. Else prove '..UptoSaid'. A law counts once. -/
mutual
def uptoBulk {H : Type} : DataW H → Nat
  | .lit (.string bytes) => bytes.length + 1
  | .lit _ => 1
  | .nil => 1
  | .ptr d => uptoBulk d + 1
  | .slice elems spare => uptoBulkAll elems + uptoBulkAll spare + 1
  | .agg parts => uptoBulkAll parts + 1
  | .iface _ d => uptoBulk d + 1
  | .map entries => uptoBulkEntries entries + 1
  | .held _ => 1
def uptoBulkAll {H : Type} : List (DataW H) → Nat
  | [] => 0
  | d :: r => uptoBulk d + uptoBulkAll r
def uptoBulkEntries {H : Type} : List (Lit × DataW H) → Nat
  | [] => 0
  | x :: r => uptoBulkEntry x + uptoBulkEntries r
def uptoBulkEntry {H : Type} : Lit × DataW H → Nat
  | (.string bytes, d) => bytes.length + uptoBulk d + 1
  | (_, d) => uptoBulk d + 1
 end
def uptoSmall : (H : Type) → List (DataW H) → Bool := fun _ ds => decide (uptoBulkAll ds ≤ 1048576)
def OpenSpec.upto (s : _root_.Go.ChangeSpec) : _root_.Go.OpenSpec := { _root_.Go.OpenSpec.ofChange s with cond := some uptoSmall }

/-- 'jotterlaw8.TagLays', WHERE WHAT IT READS IS OF BULK AT MOST 1048576: true; the input reads as it did. -/
def tagLaysUptoRow : OpenClaim := { program := "ytjmochkhdapmiaa", sum := "b78d6e495ce98792631a2fa89ccc1e6abe8f1a9dfcec85ce9f13a3e1599b1d86", func := "jotter/jotterlaw8.TagLays", spec := "tagLays", apart := false, narrowed := true }
def TagLaysUptoSaid : Prop := tagLaysUptoRow.holds Try.pinned (OpenSpec.upto tagLaysSpec)

/-- 'jotterlaw8.TagReads', WHERE WHAT IT READS IS OF BULK AT MOST 1048576: true; the input reads as it did. -/
def tagReadsUptoRow : OpenClaim := { program := "ytjmochkhdapmiaa", sum := "b78d6e495ce98792631a2fa89ccc1e6abe8f1a9dfcec85ce9f13a3e1599b1d86", func := "jotter/jotterlaw8.TagReads", spec := "tagReads", apart := false, narrowed := true }
def TagReadsUptoSaid : Prop := tagReadsUptoRow.holds Try.pinned (OpenSpec.upto tagReadsSpec)

/-- 'jotterlaw8.TagTorn', WHERE WHAT IT READS IS OF BULK AT MOST 1048576: true; the input reads as it did. -/
def tagTornUptoRow : OpenClaim := { program := "ytjmochkhdapmiaa", sum := "b78d6e495ce98792631a2fa89ccc1e6abe8f1a9dfcec85ce9f13a3e1599b1d86", func := "jotter/jotterlaw8.TagTorn", spec := "tagTorn", apart := false, narrowed := true }
def TagTornUptoSaid : Prop := tagTornUptoRow.holds Try.pinned (OpenSpec.upto tagTornSpec)

/-- 'jotterlaw8.TagBack', WHERE WHAT IT READS IS OF BULK AT MOST 1048576: true; the input reads as it did. -/
def tagBackUptoRow : OpenClaim := { program := "ytjmochkhdapmiaa", sum := "b78d6e495ce98792631a2fa89ccc1e6abe8f1a9dfcec85ce9f13a3e1599b1d86", func := "jotter/jotterlaw8.TagBack", spec := "tagBack", apart := false, narrowed := true }
def TagBackUptoSaid : Prop := tagBackUptoRow.holds Try.pinned (OpenSpec.upto tagBackSpec)

/-- 'jotterlaw8.TagUnlike', WHERE WHAT IT READS IS OF BULK AT MOST 1048576: true; the input reads as it did. -/
def tagUnlikeUptoRow : OpenClaim := { program := "ytjmochkhdapmiaa", sum := "b78d6e495ce98792631a2fa89ccc1e6abe8f1a9dfcec85ce9f13a3e1599b1d86", func := "jotter/jotterlaw8.TagUnlike", spec := "tagUnlike", apart := false, narrowed := true }
def TagUnlikeUptoSaid : Prop := tagUnlikeUptoRow.holds Try.pinned (OpenSpec.upto tagUnlikeSpec)

/-- 'jotterlaw8.TagLengths', WHERE WHAT IT READS IS OF BULK AT MOST 1048576: true; the input reads as it did. -/
def tagLengthsUptoRow : OpenClaim := { program := "ytjmochkhdapmiaa", sum := "b78d6e495ce98792631a2fa89ccc1e6abe8f1a9dfcec85ce9f13a3e1599b1d86", func := "jotter/jotterlaw8.TagLengths", spec := "tagLengths", apart := false, narrowed := true }
def TagLengthsUptoSaid : Prop := tagLengthsUptoRow.holds Try.pinned (OpenSpec.upto tagLengthsSpec)

end Rows
end Go.Proofs.Ytjmochkhdapmiaa
