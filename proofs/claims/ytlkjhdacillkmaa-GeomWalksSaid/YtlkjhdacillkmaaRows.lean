/-
  No cell of these rows narrows 'for every input' (looked for: loops, veiled, ifaces, maps, wideKeys, modest, calm, conditions, laid).
  DERIVED. THE GIVEN ROWS OF THIS SEAT. 5 by the template 'for every input the law returns true; each argument reads behind the call as it read before'; 0 by the template 'total and deterministic' (their statements: YtlkjhdacillkmaaTotals.lean).
  GIVEN WITH THE SEED: the statements are not yours to turn. If you find one false, say at which input.
  Laid BY PROGRAM, IN A SANDBOX (cutbox-rows.mjs): the forced cells as the released guide's own fill.sh prints them over the translation adb7f6fa0b026e31… (all of the seat's roots in one cut). By AI agents, Wed Nov 11 2026. No macro, syntax, notation, axiom, sorry.
-/
import Derived.Test.YtlkjhdacillkmaaChecked
import GoSem.Claim
import GoSem.ClaimJoined
import GoSem.ClaimMapViews
import Derived.JoinedTies
import Derived.KernelRfl
namespace Go.Proofs.Ytlkjhdacillkmaa
/- THE CELL 'sum', in the pinned program and in every row, IS THE sha256 OF THE DUMP (.gsa) THAT YtlkjhdacillkmaaProg.lean LOADS. Nothing in Lean hashes anything: it is a label: what it is worth is what the hold of that sum in a sandbox is worth. -/
noncomputable def Try.pinned : Pinned := { name := "ytlkjhdacillkmaa", sum := "adb7f6fa0b026e31ccf41ccd7321d820a292ec3b40b35d2ab0b82acd4e6364b8", checked := Try.checked }
namespace Rows
def none {H : Type} : Left H := { results := [], args := [] }

/-- 'jotterlaw5.GeomTells': WHATEVER THE INPUT: true; the input reads as it did. -/
def geomTellsSpec : ChangeSpec := { name := "geomTells", fn := fun _ => fun
  | [d1, d2] => { results := [.lit (.bool true)], args := [d1, d2] }
  | _ => none }
def geomTellsRow : OpenClaim := { program := "ytlkjhdacillkmaa", sum := "adb7f6fa0b026e31ccf41ccd7321d820a292ec3b40b35d2ab0b82acd4e6364b8", func := "jotter/jotterlaw5.GeomTells", spec := "geomTells", apart := false }
def GeomTellsSaid : Prop := geomTellsRow.holds Try.pinned (OpenSpec.ofChange geomTellsSpec)

/-- ITS FALSE NEIGHBOUR: 'it returns false'. Refute it at one input. -/
def geomTellsWrong : ChangeSpec := { name := "geomTells", fn := fun _ => fun
  | [d1, d2] => { results := [.lit (.bool false)], args := [d1, d2] }
  | _ => none }
def GeomTellsWrongFalsely : Prop := geomTellsRow.holds Try.pinned (OpenSpec.ofChange geomTellsWrong)

/-- 'jotterlaw5.GeomWalks': WHATEVER THE INPUT: true; the input reads as it did. -/
def geomWalksSpec : ChangeSpec := { name := "geomWalks", fn := fun _ => fun
  | [d] => { results := [.lit (.bool true)], args := [d] }
  | _ => none }
def geomWalksRow : OpenClaim := { program := "ytlkjhdacillkmaa", sum := "adb7f6fa0b026e31ccf41ccd7321d820a292ec3b40b35d2ab0b82acd4e6364b8", func := "jotter/jotterlaw5.GeomWalks", spec := "geomWalks", apart := false }
def GeomWalksSaid : Prop := geomWalksRow.holds Try.pinned (OpenSpec.ofChange geomWalksSpec)

/-- ITS FALSE NEIGHBOUR: 'it returns false'. Refute it at one input. -/
def geomWalksWrong : ChangeSpec := { name := "geomWalks", fn := fun _ => fun
  | [d] => { results := [.lit (.bool false)], args := [d] }
  | _ => none }
def GeomWalksWrongFalsely : Prop := geomWalksRow.holds Try.pinned (OpenSpec.ofChange geomWalksWrong)

/-- 'jotterlaw5.GeomGrows': WHATEVER THE INPUT: true; the input reads as it did. -/
def geomGrowsSpec : ChangeSpec := { name := "geomGrows", fn := fun _ => fun
  | [d] => { results := [.lit (.bool true)], args := [d] }
  | _ => none }
def geomGrowsRow : OpenClaim := { program := "ytlkjhdacillkmaa", sum := "adb7f6fa0b026e31ccf41ccd7321d820a292ec3b40b35d2ab0b82acd4e6364b8", func := "jotter/jotterlaw5.GeomGrows", spec := "geomGrows", apart := false }
def GeomGrowsSaid : Prop := geomGrowsRow.holds Try.pinned (OpenSpec.ofChange geomGrowsSpec)

/-- ITS FALSE NEIGHBOUR: 'it returns false'. Refute it at one input. -/
def geomGrowsWrong : ChangeSpec := { name := "geomGrows", fn := fun _ => fun
  | [d] => { results := [.lit (.bool false)], args := [d] }
  | _ => none }
def GeomGrowsWrongFalsely : Prop := geomGrowsRow.holds Try.pinned (OpenSpec.ofChange geomGrowsWrong)

/-- 'jotterlaw5.GeomLow': WHATEVER THE INPUT: true; the input reads as it did. -/
def geomLowSpec : ChangeSpec := { name := "geomLow", fn := fun _ => fun
  | [d1, d2, d3] => { results := [.lit (.bool true)], args := [d1, d2, d3] }
  | _ => none }
def geomLowRow : OpenClaim := { program := "ytlkjhdacillkmaa", sum := "adb7f6fa0b026e31ccf41ccd7321d820a292ec3b40b35d2ab0b82acd4e6364b8", func := "jotter/jotterlaw5.GeomLow", spec := "geomLow", apart := false }
def GeomLowSaid : Prop := geomLowRow.holds Try.pinned (OpenSpec.ofChange geomLowSpec)

/-- ITS FALSE NEIGHBOUR: 'it returns false'. Refute it at one input. -/
def geomLowWrong : ChangeSpec := { name := "geomLow", fn := fun _ => fun
  | [d1, d2, d3] => { results := [.lit (.bool false)], args := [d1, d2, d3] }
  | _ => none }
def GeomLowWrongFalsely : Prop := geomLowRow.holds Try.pinned (OpenSpec.ofChange geomLowWrong)

/-- 'jotterlaw5.GeomNumbers': WHATEVER THE INPUT: true; the input reads as it did. -/
def geomNumbersSpec : ChangeSpec := { name := "geomNumbers", fn := fun _ => fun
  | [d1, d2, d3] => { results := [.lit (.bool true)], args := [d1, d2, d3] }
  | _ => none }
def geomNumbersRow : OpenClaim := { program := "ytlkjhdacillkmaa", sum := "adb7f6fa0b026e31ccf41ccd7321d820a292ec3b40b35d2ab0b82acd4e6364b8", func := "jotter/jotterlaw5.GeomNumbers", spec := "geomNumbers", apart := false }
def GeomNumbersSaid : Prop := geomNumbersRow.holds Try.pinned (OpenSpec.ofChange geomNumbersSpec)

/-- ITS FALSE NEIGHBOUR: 'it returns false'. Refute it at one input. -/
def geomNumbersWrong : ChangeSpec := { name := "geomNumbers", fn := fun _ => fun
  | [d1, d2, d3] => { results := [.lit (.bool false)], args := [d1, d2, d3] }
  | _ => none }
def GeomNumbersWrongFalsely : Prop := geomNumbersRow.holds Try.pinned (OpenSpec.ofChange geomNumbersWrong)

/- THE SECOND FORM. 'bulk': how many values and letters a reading holds, each counted each time it is reached (what is shared counts as often as it is met; a slice's spare places count too). A statement '..UptoSaid' is the law's where the arguments, and the package variables that the reading takes, are together of bulk at most 1048576: NARROWER than '..Said'. Prove '..Said' where nothing that the law and all that it calls make is longer than what came in: it says more and counts as full. Else prove '..UptoSaid'. A law counts once. -/
mutual
def uptoBulk {H : Type} : DataW H → Nat
  | .lit (.string bytes) => bytes.length + 1
  | .lit _ => 1
  | .nil => 1
  | .ptr d => uptoBulk d + 1
  | .slice elems spare => uptoBulkAll elems + uptoBulkAll spare + 1
  | .agg parts => uptoBulkAll parts + 1
  | .iface _ d => uptoBulk d + 1
  | .map entries => uptoBulkEntries entries + 1
  | .held _ => 1
def uptoBulkAll {H : Type} : List (DataW H) → Nat
  | [] => 0
  | d :: r => uptoBulk d + uptoBulkAll r
def uptoBulkEntries {H : Type} : List (Lit × DataW H) → Nat
  | [] => 0
  | x :: r => uptoBulkEntry x + uptoBulkEntries r
def uptoBulkEntry {H : Type} : Lit × DataW H → Nat
  | (.string bytes, d) => bytes.length + uptoBulk d + 1
  | (_, d) => uptoBulk d + 1
 end
def uptoSmall : (H : Type) → List (DataW H) → Bool := fun _ ds => decide (uptoBulkAll ds ≤ 1048576)
def OpenSpec.upto (s : _root_.Go.ChangeSpec) : _root_.Go.OpenSpec := { _root_.Go.OpenSpec.ofChange s with cond := some uptoSmall }

/-- 'jotterlaw5.GeomTells', WHERE WHAT IT READS IS OF BULK AT MOST 1048576: true; the input reads as it did. -/
def geomTellsUptoRow : OpenClaim := { program := "ytlkjhdacillkmaa", sum := "adb7f6fa0b026e31ccf41ccd7321d820a292ec3b40b35d2ab0b82acd4e6364b8", func := "jotter/jotterlaw5.GeomTells", spec := "geomTells", apart := false, narrowed := true }
def GeomTellsUptoSaid : Prop := geomTellsUptoRow.holds Try.pinned (OpenSpec.upto geomTellsSpec)

/-- 'jotterlaw5.GeomWalks', WHERE WHAT IT READS IS OF BULK AT MOST 1048576: true; the input reads as it did. -/
def geomWalksUptoRow : OpenClaim := { program := "ytlkjhdacillkmaa", sum := "adb7f6fa0b026e31ccf41ccd7321d820a292ec3b40b35d2ab0b82acd4e6364b8", func := "jotter/jotterlaw5.GeomWalks", spec := "geomWalks", apart := false, narrowed := true }
def GeomWalksUptoSaid : Prop := geomWalksUptoRow.holds Try.pinned (OpenSpec.upto geomWalksSpec)

/-- 'jotterlaw5.GeomGrows', WHERE WHAT IT READS IS OF BULK AT MOST 1048576: true; the input reads as it did. -/
def geomGrowsUptoRow : OpenClaim := { program := "ytlkjhdacillkmaa", sum := "adb7f6fa0b026e31ccf41ccd7321d820a292ec3b40b35d2ab0b82acd4e6364b8", func := "jotter/jotterlaw5.GeomGrows", spec := "geomGrows", apart := false, narrowed := true }
def GeomGrowsUptoSaid : Prop := geomGrowsUptoRow.holds Try.pinned (OpenSpec.upto geomGrowsSpec)

/-- 'jotterlaw5.GeomLow', WHERE WHAT IT READS IS OF BULK AT MOST 1048576: true; the input reads as it did. -/
def geomLowUptoRow : OpenClaim := { program := "ytlkjhdacillkmaa", sum := "adb7f6fa0b026e31ccf41ccd7321d820a292ec3b40b35d2ab0b82acd4e6364b8", func := "jotter/jotterlaw5.GeomLow", spec := "geomLow", apart := false, narrowed := true }
def GeomLowUptoSaid : Prop := geomLowUptoRow.holds Try.pinned (OpenSpec.upto geomLowSpec)

/-- 'jotterlaw5.GeomNumbers', WHERE WHAT IT READS IS OF BULK AT MOST 1048576: true; the input reads as it did. -/
def geomNumbersUptoRow : OpenClaim := { program := "ytlkjhdacillkmaa", sum := "adb7f6fa0b026e31ccf41ccd7321d820a292ec3b40b35d2ab0b82acd4e6364b8", func := "jotter/jotterlaw5.GeomNumbers", spec := "geomNumbers", apart := false, narrowed := true }
def GeomNumbersUptoSaid : Prop := geomNumbersUptoRow.holds Try.pinned (OpenSpec.upto geomNumbersSpec)

end Rows
end Go.Proofs.Ytlkjhdacillkmaa
