/-
  No cell of these rows narrows 'for every input' (looked for: loops, veiled, ifaces, maps, wideKeys, modest, calm, conditions, laid).
  DERIVED. THE GIVEN ROWS OF THIS SEAT. 5 by the template 'for every input the law returns true; each argument reads behind the call as it read before'; 0 by the template 'total and deterministic' (their statements: YtofeijlejljbdaaTotals.lean).
  GIVEN WITH THE SEED: the statements are not yours to turn. If you find one false, say at which input.
  Laid BY PROGRAM, IN A SANDBOX (cutbox-rows.mjs): the forced cells as the released guide's own fill.sh prints them over the translation 9e097982bc5aafab… (all of the seat's roots in one cut). By AI agents, Wed Nov 11 2026. No macro, syntax, notation, axiom, sorry.
-/
import Derived.Test.YtofeijlejljbdaaChecked
import GoSem.Claim
import GoSem.ClaimJoined
import GoSem.ClaimMapViews
import Derived.JoinedTies
import Derived.KernelRfl
namespace Go.Proofs.Ytofeijlejljbdaa
/- THE CELL 'sum', in the pinned program and in every row, IS THE sha256 OF THE DUMP (.gsa) THAT YtofeijlejljbdaaProg.lean LOADS. Nothing in Lean hashes anything: it is a label: what it is worth is what the hold of that sum in a sandbox is worth. -/
noncomputable def Try.pinned : Pinned := { name := "ytofeijlejljbdaa", sum := "9e097982bc5aafabce311df9f4b18a5760bb88c3322e3251fcf919e35129ecdd", checked := Try.checked }
namespace Rows
def none {H : Type} : Left H := { results := [], args := [] }

/-- 'jotterlaw10.RankOrder': WHATEVER THE INPUT: true; the input reads as it did. -/
def rankOrderSpec : ChangeSpec := { name := "rankOrder", fn := fun _ => fun
  | [d1, d2] => { results := [.lit (.bool true)], args := [d1, d2] }
  | _ => none }
def rankOrderRow : OpenClaim := { program := "ytofeijlejljbdaa", sum := "9e097982bc5aafabce311df9f4b18a5760bb88c3322e3251fcf919e35129ecdd", func := "jotter/jotterlaw10.RankOrder", spec := "rankOrder", unfollowed := true, recurses := true, apart := false }
def RankOrderSaid : Prop := rankOrderRow.holds Try.pinned (OpenSpec.ofChange rankOrderSpec)

/-- ITS FALSE NEIGHBOUR: 'it returns false'. Refute it at one input. -/
def rankOrderWrong : ChangeSpec := { name := "rankOrder", fn := fun _ => fun
  | [d1, d2] => { results := [.lit (.bool false)], args := [d1, d2] }
  | _ => none }
def RankOrderWrongFalsely : Prop := rankOrderRow.holds Try.pinned (OpenSpec.ofChange rankOrderWrong)

/-- 'jotterlaw10.RankCopies': WHATEVER THE INPUT: true; the input reads as it did. -/
def rankCopiesSpec : ChangeSpec := { name := "rankCopies", fn := fun _ => fun
  | [d1, d2, d3] => { results := [.lit (.bool true)], args := [d1, d2, d3] }
  | _ => none }
def rankCopiesRow : OpenClaim := { program := "ytofeijlejljbdaa", sum := "9e097982bc5aafabce311df9f4b18a5760bb88c3322e3251fcf919e35129ecdd", func := "jotter/jotterlaw10.RankCopies", spec := "rankCopies", unfollowed := true, recurses := true, apart := false }
def RankCopiesSaid : Prop := rankCopiesRow.holds Try.pinned (OpenSpec.ofChange rankCopiesSpec)

/-- ITS FALSE NEIGHBOUR: 'it returns false'. Refute it at one input. -/
def rankCopiesWrong : ChangeSpec := { name := "rankCopies", fn := fun _ => fun
  | [d1, d2, d3] => { results := [.lit (.bool false)], args := [d1, d2, d3] }
  | _ => none }
def RankCopiesWrongFalsely : Prop := rankCopiesRow.holds Try.pinned (OpenSpec.ofChange rankCopiesWrong)

/-- 'jotterlaw10.RankCommits': WHATEVER THE INPUT: true; the input reads as it did. -/
def rankCommitsSpec : ChangeSpec := { name := "rankCommits", fn := fun _ => fun
  | [d1, d2, d3] => { results := [.lit (.bool true)], args := [d1, d2, d3] }
  | _ => none }
def rankCommitsRow : OpenClaim := { program := "ytofeijlejljbdaa", sum := "9e097982bc5aafabce311df9f4b18a5760bb88c3322e3251fcf919e35129ecdd", func := "jotter/jotterlaw10.RankCommits", spec := "rankCommits", unfollowed := true, recurses := true, apart := false }
def RankCommitsSaid : Prop := rankCommitsRow.holds Try.pinned (OpenSpec.ofChange rankCommitsSpec)

/-- ITS FALSE NEIGHBOUR: 'it returns false'. Refute it at one input. -/
def rankCommitsWrong : ChangeSpec := { name := "rankCommits", fn := fun _ => fun
  | [d1, d2, d3] => { results := [.lit (.bool false)], args := [d1, d2, d3] }
  | _ => none }
def RankCommitsWrongFalsely : Prop := rankCommitsRow.holds Try.pinned (OpenSpec.ofChange rankCommitsWrong)

/-- 'jotterlaw10.RankNone': WHATEVER THE INPUT: true; the input reads as it did. -/
def rankNoneSpec : ChangeSpec := { name := "rankNone", fn := fun _ => fun
  | [d] => { results := [.lit (.bool true)], args := [d] }
  | _ => none }
def rankNoneRow : OpenClaim := { program := "ytofeijlejljbdaa", sum := "9e097982bc5aafabce311df9f4b18a5760bb88c3322e3251fcf919e35129ecdd", func := "jotter/jotterlaw10.RankNone", spec := "rankNone", unfollowed := true, recurses := true, apart := false }
def RankNoneSaid : Prop := rankNoneRow.holds Try.pinned (OpenSpec.ofChange rankNoneSpec)

/-- ITS FALSE NEIGHBOUR: 'it returns false'. Refute it at one input. -/
def rankNoneWrong : ChangeSpec := { name := "rankNone", fn := fun _ => fun
  | [d] => { results := [.lit (.bool false)], args := [d] }
  | _ => none }
def RankNoneWrongFalsely : Prop := rankNoneRow.holds Try.pinned (OpenSpec.ofChange rankNoneWrong)

/-- 'jotterlaw10.RankTrims': WHATEVER THE INPUT: true; the input reads as it did. -/
def rankTrimsSpec : ChangeSpec := { name := "rankTrims", fn := fun _ => fun
  | [d1, d2] => { results := [.lit (.bool true)], args := [d1, d2] }
  | _ => none }
def rankTrimsRow : OpenClaim := { program := "ytofeijlejljbdaa", sum := "9e097982bc5aafabce311df9f4b18a5760bb88c3322e3251fcf919e35129ecdd", func := "jotter/jotterlaw10.RankTrims", spec := "rankTrims", unfollowed := true, recurses := true, apart := false }
def RankTrimsSaid : Prop := rankTrimsRow.holds Try.pinned (OpenSpec.ofChange rankTrimsSpec)

/-- ITS FALSE NEIGHBOUR: 'it returns false'. Refute it at one input. -/
def rankTrimsWrong : ChangeSpec := { name := "rankTrims", fn := fun _ => fun
  | [d1, d2] => { results := [.lit (.bool false)], args := [d1, d2] }
  | _ => none }
def RankTrimsWrongFalsely : Prop := rankTrimsRow.holds Try.pinned (OpenSpec.ofChange rankTrimsWrong)

/- THE SECOND FORM. 'bulk': how many values and letters a reading holds, each counted each time it is reached (what is shared counts as often as it is met; a slice's spare places count too). A statement '..UptoSaid' is the law's where the arguments, and the package variables that the reading takes, are together of bulk at most 1048576: NARROWER than '..Said'. Prove '..Said' where nothing that the law and all that it calls make is longer than what came in: it says more and counts as full. Else prove '..UptoSaid'. A law counts once. -/
mutual
def uptoBulk {H : Type} : DataW H → Nat
  | .lit (.string bytes) => bytes.length + 1
  | .lit _ => 1
  | .nil => 1
  | .ptr d => uptoBulk d + 1
  | .slice elems spare => uptoBulkAll elems + uptoBulkAll spare + 1
  | .agg parts => uptoBulkAll parts + 1
  | .iface _ d => uptoBulk d + 1
  | .map entries => uptoBulkEntries entries + 1
  | .held _ => 1
def uptoBulkAll {H : Type} : List (DataW H) → Nat
  | [] => 0
  | d :: r => uptoBulk d + uptoBulkAll r
def uptoBulkEntries {H : Type} : List (Lit × DataW H) → Nat
  | [] => 0
  | x :: r => uptoBulkEntry x + uptoBulkEntries r
def uptoBulkEntry {H : Type} : Lit × DataW H → Nat
  | (.string bytes, d) => bytes.length + uptoBulk d + 1
  | (_, d) => uptoBulk d + 1
 end
def uptoSmall : (H : Type) → List (DataW H) → Bool := fun _ ds => decide (uptoBulkAll ds ≤ 1048576)
def OpenSpec.upto (s : _root_.Go.ChangeSpec) : _root_.Go.OpenSpec := { _root_.Go.OpenSpec.ofChange s with cond := some uptoSmall }

/-- 'jotterlaw10.RankOrder', WHERE WHAT IT READS IS OF BULK AT MOST 1048576: true; the input reads as it did. -/
def rankOrderUptoRow : OpenClaim := { program := "ytofeijlejljbdaa", sum := "9e097982bc5aafabce311df9f4b18a5760bb88c3322e3251fcf919e35129ecdd", func := "jotter/jotterlaw10.RankOrder", spec := "rankOrder", unfollowed := true, recurses := true, apart := false, narrowed := true }
def RankOrderUptoSaid : Prop := rankOrderUptoRow.holds Try.pinned (OpenSpec.upto rankOrderSpec)

/-- 'jotterlaw10.RankCopies', WHERE WHAT IT READS IS OF BULK AT MOST 1048576: true; the input reads as it did. -/
def rankCopiesUptoRow : OpenClaim := { program := "ytofeijlejljbdaa", sum := "9e097982bc5aafabce311df9f4b18a5760bb88c3322e3251fcf919e35129ecdd", func := "jotter/jotterlaw10.RankCopies", spec := "rankCopies", unfollowed := true, recurses := true, apart := false, narrowed := true }
def RankCopiesUptoSaid : Prop := rankCopiesUptoRow.holds Try.pinned (OpenSpec.upto rankCopiesSpec)

/-- 'jotterlaw10.RankCommits', WHERE WHAT IT READS IS OF BULK AT MOST 1048576: true; the input reads as it did. -/
def rankCommitsUptoRow : OpenClaim := { program := "ytofeijlejljbdaa", sum := "9e097982bc5aafabce311df9f4b18a5760bb88c3322e3251fcf919e35129ecdd", func := "jotter/jotterlaw10.RankCommits", spec := "rankCommits", unfollowed := true, recurses := true, apart := false, narrowed := true }
def RankCommitsUptoSaid : Prop := rankCommitsUptoRow.holds Try.pinned (OpenSpec.upto rankCommitsSpec)

/-- 'jotterlaw10.RankNone', WHERE WHAT IT READS IS OF BULK AT MOST 1048576: true; the input reads as it did. -/
def rankNoneUptoRow : OpenClaim := { program := "ytofeijlejljbdaa", sum := "9e097982bc5aafabce311df9f4b18a5760bb88c3322e3251fcf919e35129ecdd", func := "jotter/jotterlaw10.RankNone", spec := "rankNone", unfollowed := true, recurses := true, apart := false, narrowed := true }
def RankNoneUptoSaid : Prop := rankNoneUptoRow.holds Try.pinned (OpenSpec.upto rankNoneSpec)

/-- 'jotterlaw10.RankTrims', WHERE WHAT IT READS IS OF BULK AT MOST 1048576: true; the input reads as it did. -/
def rankTrimsUptoRow : OpenClaim := { program := "ytofeijlejljbdaa", sum := "9e097982bc5aafabce311df9f4b18a5760bb88c3322e3251fcf919e35129ecdd", func := "jotter/jotterlaw10.RankTrims", spec := "rankTrims", unfollowed := true, recurses := true, apart := false, narrowed := true }
def RankTrimsUptoSaid : Prop := rankTrimsUptoRow.holds Try.pinned (OpenSpec.upto rankTrimsSpec)

end Rows
end Go.Proofs.Ytofeijlejljbdaa
