/-
  No cell of these rows narrows 'for every input' (looked for: loops, veiled, ifaces, maps, wideKeys, modest, calm, conditions, laid).
  DERIVED. THE GIVEN ROWS OF THIS SEAT. 3 by the template 'for every input the law returns true; each argument reads behind the call as it read before'; 0 by the template 'total and deterministic' (their statements: YtcpniplfkillbaaTotals.lean).
  GIVEN WITH THE SEED: the statements are not yours to turn. If you find one false, say at which input.
  Laid BY PROGRAM, IN A SANDBOX (cutbox-rows.mjs): the forced cells as the released guide's own fill.sh prints them over the translation 1885fccf56205c93… (all of the seat's roots in one cut). By AI agents, Wed Nov 11 2026. No macro, syntax, notation, axiom, sorry.
-/
import Derived.Test.YtcpniplfkillbaaChecked
import GoSem.Claim
import GoSem.ClaimJoined
import GoSem.ClaimMapViews
import Derived.JoinedTies
import Derived.KernelRfl
namespace Go.Proofs.Ytcpniplfkillbaa
/- THE CELL 'sum', in the pinned program and in every row, IS THE sha256 OF THE DUMP (.gsa) THAT YtcpniplfkillbaaProg.lean LOADS. Nothing in Lean hashes anything: it is a label: what it is worth is what the hold of that sum in a sandbox is worth. -/
noncomputable def Try.pinned : Pinned := { name := "ytcpniplfkillbaa", sum := "1885fccf56205c939087a3143cc919f8ccc47f1ffbc5a7d2a8abde57564ffde2", checked := Try.checked }
namespace Rows
def none {H : Type} : Left H := { results := [], args := [] }

/-- 'jotterlaw9.LeafTells': WHATEVER THE INPUT: true; the input reads as it did. -/
def leafTellsSpec : ChangeSpec := { name := "leafTells", fn := fun _ => fun
  | [d1, d2, d3, d4, d5] => { results := [.lit (.bool true)], args := [d1, d2, d3, d4, d5] }
  | _ => none }
def leafTellsRow : OpenClaim := { program := "ytcpniplfkillbaa", sum := "1885fccf56205c939087a3143cc919f8ccc47f1ffbc5a7d2a8abde57564ffde2", func := "jotter/jotterlaw9.LeafTells", spec := "leafTells", inPlace := ["internal/bytealg.MakeNoZero"], unfollowed := true, recurses := true, apart := false }
def LeafTellsSaid : Prop := leafTellsRow.holds Try.pinned (OpenSpec.ofChange leafTellsSpec)

/-- ITS FALSE NEIGHBOUR: 'it returns false'. Refute it at one input. -/
def leafTellsWrong : ChangeSpec := { name := "leafTells", fn := fun _ => fun
  | [d1, d2, d3, d4, d5] => { results := [.lit (.bool false)], args := [d1, d2, d3, d4, d5] }
  | _ => none }
def LeafTellsWrongFalsely : Prop := leafTellsRow.holds Try.pinned (OpenSpec.ofChange leafTellsWrong)

/-- 'jotterlaw9.LeafCounts': WHATEVER THE INPUT: true; the input reads as it did. -/
def leafCountsSpec : ChangeSpec := { name := "leafCounts", fn := fun _ => fun
  | [d1, d2, d3] => { results := [.lit (.bool true)], args := [d1, d2, d3] }
  | _ => none }
def leafCountsRow : OpenClaim := { program := "ytcpniplfkillbaa", sum := "1885fccf56205c939087a3143cc919f8ccc47f1ffbc5a7d2a8abde57564ffde2", func := "jotter/jotterlaw9.LeafCounts", spec := "leafCounts", inPlace := ["internal/bytealg.MakeNoZero"], unfollowed := true, recurses := true, apart := false }
def LeafCountsSaid : Prop := leafCountsRow.holds Try.pinned (OpenSpec.ofChange leafCountsSpec)

/-- ITS FALSE NEIGHBOUR: 'it returns false'. Refute it at one input. -/
def leafCountsWrong : ChangeSpec := { name := "leafCounts", fn := fun _ => fun
  | [d1, d2, d3] => { results := [.lit (.bool false)], args := [d1, d2, d3] }
  | _ => none }
def LeafCountsWrongFalsely : Prop := leafCountsRow.holds Try.pinned (OpenSpec.ofChange leafCountsWrong)

/-- 'jotterlaw9.LeafErases': WHATEVER THE INPUT: true; the input reads as it did. -/
def leafErasesSpec : ChangeSpec := { name := "leafErases", fn := fun _ => fun
  | [d1, d2, d3] => { results := [.lit (.bool true)], args := [d1, d2, d3] }
  | _ => none }
def leafErasesRow : OpenClaim := { program := "ytcpniplfkillbaa", sum := "1885fccf56205c939087a3143cc919f8ccc47f1ffbc5a7d2a8abde57564ffde2", func := "jotter/jotterlaw9.LeafErases", spec := "leafErases", inPlace := ["internal/bytealg.MakeNoZero"], unfollowed := true, recurses := true, apart := false }
def LeafErasesSaid : Prop := leafErasesRow.holds Try.pinned (OpenSpec.ofChange leafErasesSpec)

/-- ITS FALSE NEIGHBOUR: 'it returns false'. Refute it at one input. -/
def leafErasesWrong : ChangeSpec := { name := "leafErases", fn := fun _ => fun
  | [d1, d2, d3] => { results := [.lit (.bool false)], args := [d1, d2, d3] }
  | _ => none }
def LeafErasesWrongFalsely : Prop := leafErasesRow.holds Try.pinned (OpenSpec.ofChange leafErasesWrong)

/- THE SECOND FORM. 'bulk': how many values and letters a reading holds, each counted each time it is reached (what is shared counts as often as it is met; a slice's spare places count too). A statement '..UptoSaid' is the law's where the arguments, and the package variables that the reading takes, are together of bulk at most 1048576: NARROWER than '..Said'. Prove '..Said' where nothing that the law and all that it calls make is longer than what came in: it says more and counts as full. Else prove '..UptoSaid'. A law counts once. -/
mutual
def uptoBulk {H : Type} : DataW H → Nat
  | .lit (.string bytes) => bytes.length + 1
  | .lit _ => 1
  | .nil => 1
  | .ptr d => uptoBulk d + 1
  | .slice elems spare => uptoBulkAll elems + uptoBulkAll spare + 1
  | .agg parts => uptoBulkAll parts + 1
  | .iface _ d => uptoBulk d + 1
  | .map entries => uptoBulkEntries entries + 1
  | .held _ => 1
def uptoBulkAll {H : Type} : List (DataW H) → Nat
  | [] => 0
  | d :: r => uptoBulk d + uptoBulkAll r
def uptoBulkEntries {H : Type} : List (Lit × DataW H) → Nat
  | [] => 0
  | x :: r => uptoBulkEntry x + uptoBulkEntries r
def uptoBulkEntry {H : Type} : Lit × DataW H → Nat
  | (.string bytes, d) => bytes.length + uptoBulk d + 1
  | (_, d) => uptoBulk d + 1
 end
def uptoSmall : (H : Type) → List (DataW H) → Bool := fun _ ds => decide (uptoBulkAll ds ≤ 1048576)
def OpenSpec.upto (s : _root_.Go.ChangeSpec) : _root_.Go.OpenSpec := { _root_.Go.OpenSpec.ofChange s with cond := some uptoSmall }

/-- 'jotterlaw9.LeafTells', WHERE WHAT IT READS IS OF BULK AT MOST 1048576: true; the input reads as it did. -/
def leafTellsUptoRow : OpenClaim := { program := "ytcpniplfkillbaa", sum := "1885fccf56205c939087a3143cc919f8ccc47f1ffbc5a7d2a8abde57564ffde2", func := "jotter/jotterlaw9.LeafTells", spec := "leafTells", inPlace := ["internal/bytealg.MakeNoZero"], unfollowed := true, recurses := true, apart := false, narrowed := true }
def LeafTellsUptoSaid : Prop := leafTellsUptoRow.holds Try.pinned (OpenSpec.upto leafTellsSpec)

/-- 'jotterlaw9.LeafCounts', WHERE WHAT IT READS IS OF BULK AT MOST 1048576: true; the input reads as it did. -/
def leafCountsUptoRow : OpenClaim := { program := "ytcpniplfkillbaa", sum := "1885fccf56205c939087a3143cc919f8ccc47f1ffbc5a7d2a8abde57564ffde2", func := "jotter/jotterlaw9.LeafCounts", spec := "leafCounts", inPlace := ["internal/bytealg.MakeNoZero"], unfollowed := true, recurses := true, apart := false, narrowed := true }
def LeafCountsUptoSaid : Prop := leafCountsUptoRow.holds Try.pinned (OpenSpec.upto leafCountsSpec)

/-- 'jotterlaw9.LeafErases', WHERE WHAT IT READS IS OF BULK AT MOST 1048576: true; the input reads as it did. -/
def leafErasesUptoRow : OpenClaim := { program := "ytcpniplfkillbaa", sum := "1885fccf56205c939087a3143cc919f8ccc47f1ffbc5a7d2a8abde57564ffde2", func := "jotter/jotterlaw9.LeafErases", spec := "leafErases", inPlace := ["internal/bytealg.MakeNoZero"], unfollowed := true, recurses := true, apart := false, narrowed := true }
def LeafErasesUptoSaid : Prop := leafErasesUptoRow.holds Try.pinned (OpenSpec.upto leafErasesSpec)

end Rows
end Go.Proofs.Ytcpniplfkillbaa
