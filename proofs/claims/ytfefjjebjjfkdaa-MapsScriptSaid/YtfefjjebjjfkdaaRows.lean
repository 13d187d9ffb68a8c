/-
  No cell of these rows narrows 'for every input' (looked for: loops, veiled, ifaces, maps, wideKeys, modest, calm, conditions, laid).
  DERIVED. THE GIVEN ROWS OF THIS SEAT. 3 by the template 'for every input the law returns true; each argument reads behind the call as it read before'; 0 by the template 'total and deterministic' (their statements: YtfefjjebjjfkdaaTotals.lean).
  GIVEN WITH THE SEED: the statements are not yours to turn. If you find one false, say at which input.
  Laid BY PROGRAM, IN A SANDBOX (cutbox-rows.mjs): the forced cells as the released guide's own fill.sh prints them over the translation d6ba409acf3ebaab… (all of the seat's roots in one cut). By AI agents, Wed Nov 11 2026. No macro, syntax, notation, axiom, sorry.
-/
import Derived.Test.YtfefjjebjjfkdaaChecked
import GoSem.Claim
import GoSem.ClaimJoined
import GoSem.ClaimMapViews
import Derived.JoinedTies
import Derived.KernelRfl
namespace Go.Proofs.Ytfefjjebjjfkdaa
/- THE CELL 'sum', in the pinned program and in every row, IS THE sha256 OF THE DUMP (.gsa) THAT YtfefjjebjjfkdaaProg.lean LOADS. Nothing in Lean hashes anything: it is a label: what it is worth is what the hold of that sum in a sandbox is worth. -/
noncomputable def Try.pinned : Pinned := { name := "ytfefjjebjjfkdaa", sum := "d6ba409acf3ebaab8f983f8bc19f4657f2725155e7f07737b91ff69084f23ad8", checked := Try.checked }
namespace Rows
def none {H : Type} : Left H := { results := [], args := [] }

/-- 'jotterlaw13.MapsScript': WHATEVER THE INPUT: true; the input reads as it did. -/
def mapsScriptSpec : ChangeSpec := { name := "mapsScript", fn := fun _ => fun
  | [d1, d2] => { results := [.lit (.bool true)], args := [d1, d2] }
  | _ => none }
def mapsScriptRow : OpenClaim := { program := "ytfefjjebjjfkdaa", sum := "d6ba409acf3ebaab8f983f8bc19f4657f2725155e7f07737b91ff69084f23ad8", func := "jotter/jotterlaw13.MapsScript", spec := "mapsScript", apart := false }
def MapsScriptSaid : Prop := mapsScriptRow.holds Try.pinned (OpenSpec.ofChange mapsScriptSpec)

/-- ITS FALSE NEIGHBOUR: 'it returns false'. Refute it at one input. -/
def mapsScriptWrong : ChangeSpec := { name := "mapsScript", fn := fun _ => fun
  | [d1, d2] => { results := [.lit (.bool false)], args := [d1, d2] }
  | _ => none }
def MapsScriptWrongFalsely : Prop := mapsScriptRow.holds Try.pinned (OpenSpec.ofChange mapsScriptWrong)

/-- 'jotterlaw13.MapsTurn': WHATEVER THE INPUT: true; the input reads as it did. -/
def mapsTurnSpec : ChangeSpec := { name := "mapsTurn", fn := fun _ => fun
  | [d1, d2] => { results := [.lit (.bool true)], args := [d1, d2] }
  | _ => none }
def mapsTurnRow : OpenClaim := { program := "ytfefjjebjjfkdaa", sum := "d6ba409acf3ebaab8f983f8bc19f4657f2725155e7f07737b91ff69084f23ad8", func := "jotter/jotterlaw13.MapsTurn", spec := "mapsTurn", apart := false }
def MapsTurnSaid : Prop := mapsTurnRow.holds Try.pinned (OpenSpec.ofChange mapsTurnSpec)

/-- ITS FALSE NEIGHBOUR: 'it returns false'. Refute it at one input. -/
def mapsTurnWrong : ChangeSpec := { name := "mapsTurn", fn := fun _ => fun
  | [d1, d2] => { results := [.lit (.bool false)], args := [d1, d2] }
  | _ => none }
def MapsTurnWrongFalsely : Prop := mapsTurnRow.holds Try.pinned (OpenSpec.ofChange mapsTurnWrong)

/-- 'jotterlaw13.MapsNone': WHATEVER THE INPUT: true; the input reads as it did. -/
def mapsNoneSpec : ChangeSpec := { name := "mapsNone", fn := fun _ => fun
  | [d] => { results := [.lit (.bool true)], args := [d] }
  | _ => none }
def mapsNoneRow : OpenClaim := { program := "ytfefjjebjjfkdaa", sum := "d6ba409acf3ebaab8f983f8bc19f4657f2725155e7f07737b91ff69084f23ad8", func := "jotter/jotterlaw13.MapsNone", spec := "mapsNone", apart := false }
def MapsNoneSaid : Prop := mapsNoneRow.holds Try.pinned (OpenSpec.ofChange mapsNoneSpec)

/-- ITS FALSE NEIGHBOUR: 'it returns false'. Refute it at one input. -/
def mapsNoneWrong : ChangeSpec := { name := "mapsNone", fn := fun _ => fun
  | [d] => { results := [.lit (.bool false)], args := [d] }
  | _ => none }
def MapsNoneWrongFalsely : Prop := mapsNoneRow.holds Try.pinned (OpenSpec.ofChange mapsNoneWrong)

/- THE SECOND FORM. 'bulk': how many values and letters a reading holds, each counted each time it is reached (what is shared counts as often as it is met; a slice's spare places count too). A statement '..UptoSaid' is the law's where the arguments, and the package variables that the reading takes, are together of bulk at most 1048576: NARROWER than '..Said'. Prove '..Said' where nothing that the law and all that it calls make is longer than what came in: it says more and counts as full. Else prove '..UptoSaid'. A law counts once. -/
mutual
def uptoBulk {H : Type} : DataW H → Nat
  | .lit (.string bytes) => bytes.length + 1
  | .lit _ => 1
  | .nil => 1
  | .ptr d => uptoBulk d + 1
  | .slice elems spare => uptoBulkAll elems + uptoBulkAll spare + 1
  | .agg parts => uptoBulkAll parts + 1
  | .iface _ d => uptoBulk d + 1
  | .map entries => uptoBulkEntries entries + 1
  | .held _ => 1
def uptoBulkAll {H : Type} : List (DataW H) → Nat
  | [] => 0
  | d :: r => uptoBulk d + uptoBulkAll r
def uptoBulkEntries {H : Type} : List (Lit × DataW H) → Nat
  | [] => 0
  | x :: r => uptoBulkEntry x + uptoBulkEntries r
def uptoBulkEntry {H : Type} : Lit × DataW H → Nat
  | (.string bytes, d) => bytes.length + uptoBulk d + 1
  | (_, d) => uptoBulk d + 1
 end
def uptoSmall : (H : Type) → List (DataW H) → Bool := fun _ ds => decide (uptoBulkAll ds ≤ 1048576)
def OpenSpec.upto (s : _root_.Go.ChangeSpec) : _root_.Go.OpenSpec := { _root_.Go.OpenSpec.ofChange s with cond := some uptoSmall }

/-- 'jotterlaw13.MapsScript', WHERE WHAT IT READS IS OF BULK AT MOST 1048576: true; the input reads as it did. -/
def mapsScriptUptoRow : OpenClaim := { program := "ytfefjjebjjfkdaa", sum := "d6ba409acf3ebaab8f983f8bc19f4657f2725155e7f07737b91ff69084f23ad8", func := "jotter/jotterlaw13.MapsScript", spec := "mapsScript", apart := false, narrowed := true }
def MapsScriptUptoSaid : Prop := mapsScriptUptoRow.holds Try.pinned (OpenSpec.upto mapsScriptSpec)

/-- 'jotterlaw13.MapsTurn', WHERE WHAT IT READS IS OF BULK AT MOST 1048576: true; the input reads as it did. -/
def mapsTurnUptoRow : OpenClaim := { program := "ytfefjjebjjfkdaa", sum := "d6ba409acf3ebaab8f983f8bc19f4657f2725155e7f07737b91ff69084f23ad8", func := "jotter/jotterlaw13.MapsTurn", spec := "mapsTurn", apart := false, narrowed := true }
def MapsTurnUptoSaid : Prop := mapsTurnUptoRow.holds Try.pinned (OpenSpec.upto mapsTurnSpec)

/-- 'jotterlaw13.MapsNone', WHERE WHAT IT READS IS OF BULK AT MOST 1048576: true; the input reads as it did. -/
def mapsNoneUptoRow : OpenClaim := { program := "ytfefjjebjjfkdaa", sum := "d6ba409acf3ebaab8f983f8bc19f4657f2725155e7f07737b91ff69084f23ad8", func := "jotter/jotterlaw13.MapsNone", spec := "mapsNone", apart := false, narrowed := true }
def MapsNoneUptoSaid : Prop := mapsNoneUptoRow.holds Try.pinned (OpenSpec.upto mapsNoneSpec)

end Rows
end Go.Proofs.Ytfefjjebjjfkdaa
