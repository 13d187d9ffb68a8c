/- tag.Read: what it reads, by contracts. -/
import Derived.Test.YtmnfikfncbppfaaTagD
import Derived.Test.YtmnfikfncbppfaaApp
import Derived.Test.YtmnfikfncbppfaaLendB
import Derived.Test.YtmnfikfncbppfaaSl2
import Derived.Deep.RegionHeld3
import Derived.Deep.DrawnRows
import Derived.Deep.DeepCutAuto
namespace Go.Proofs.Ytmnfikfncbppfaa
open Go.ChangeShapes Go.WideShapes Go.ChangeAt Go.RowKit
attribute [local go_sem ↓] Go.wp_at_zero Go.wp_at_succ
set_option linter.unusedSimpArgs false
set_option linter.unusedVariables false

/-- What a raw page reads as: 0 erased, 1 valid, 2 torn. -/
def readSt (bs : List Nat) : Nat :=
  if 40 ≤ bs.length ∧ bs.length ≤ 80 then
    (if blankB bs = true then 0 else if tagB (tK (bs.drop (bs.length - 16))) (tP (bs.drop (bs.length - 16))) (tS (bs.drop (bs.length - 16))) (tE (bs.drop (bs.length - 16))) = true ∧ soundB bs (bs.length - 16) = true then 1 else 2) else 2

/-- A block of four cells that is written whole. -/
def st4 (w : World) (g : Nat) (u0 u1 u2 u3 : Value) : World := (((w.setCell ⟨g, 0, none⟩ u0).setCell ⟨g, 1, none⟩ u1).setCell ⟨g, 2, none⟩ u2).setCell ⟨g, 3, none⟩ u3
theorem st4_blk {wx : World} {g : Nat} {T : TypeId} {a b c d : Value} (h : Blk wx g T #[a, b, c, d]) (u0 u1 u2 u3 : Value) : Blk (st4 wx g u0 u1 u2 u3) g T #[u0, u1, u2, u3] := by
  have := (((h.set_ 0 u0).set_ 1 u1).set_ 2 u2).set_ 3 u3
  simpa [st4] using this
theorem st4_below {B g : Nat} {w wx : World} (h : Below B w wx) (hg : B ≤ g) (u0 u1 u2 u3 : Value) : Below B w (st4 wx g u0 u1 u2 u3) :=
  (((h.setCell (p := ⟨g, 0, none⟩) hg u0).setCell (p := ⟨g, 1, none⟩) hg u1).setCell (p := ⟨g, 2, none⟩) hg u2).setCell (p := ⟨g, 3, none⟩) hg u3
theorem st4_far {wx : World} {g g1 : Nat} {T : TypeId} {cs : Array Value} (h : Blk wx g1 T cs) (hne : g1 ≠ g) (u0 u1 u2 u3 : Value) : Blk (st4 wx g u0 u1 u2 u3) g1 T cs :=
  (((h.far (p := ⟨g, 0, none⟩) hne u0).far (p := ⟨g, 1, none⟩) hne u1).far (p := ⟨g, 2, none⟩) hne u2).far (p := ⟨g, 3, none⟩) hne u3
theorem st4_own {wx : World} {base g : Nat} {e : TypeId} {size n : Nat} {v : Value} {xs : List Value} (h : wx.ownsRow base e size v n xs) (hg : g < base) (u0 u1 u2 u3 : Value) : (st4 wx g u0 u1 u2 u3).ownsRow base e size v n xs :=
  ownsRow_setCell_below (a := ⟨g, 3, none⟩) (ownsRow_setCell_below (a := ⟨g, 2, none⟩) (ownsRow_setCell_below (a := ⟨g, 1, none⟩) (ownsRow_setCell_below (a := ⟨g, 0, none⟩) h hg u0) hg u1) hg u2) hg u3
theorem st4_keep {w wx : World} {g1 : Nat} {T : TypeId} {a b c d : Value} (hB : Below w.heap.size w wx) (hT : Blk wx g1 T #[a, b, c, d]) (hne : g1 ≠ w.heap.size) (u0 u1 u2 u3 : Value) :
    Below w.heap.size w (st4 wx w.heap.size u0 u1 u2 u3) ∧ (st4 wx w.heap.size u0 u1 u2 u3).cell? ⟨g1, 0, none⟩ = some a ∧ (st4 wx w.heap.size u0 u1 u2 u3).cell? ⟨g1, 1, none⟩ = some b ∧ (st4 wx w.heap.size u0 u1 u2 u3).cell? ⟨g1, 2, none⟩ = some c ∧ (st4 wx w.heap.size u0 u1 u2 u3).cell? ⟨g1, 3, none⟩ = some d := by
  have h := st4_far hT hne u0 u1 u2 u3
  exact ⟨st4_below hB (Nat.le_refl _) _ _ _ _, h.cell_ 0, h.cell_ 1, h.cell_ 2, h.cell_ 3⟩
theorem sl_take {w : World} {B : Nat} {A : Option Addr} {vs : List Value} (h : Sl w B A vs) (n : Nat) : Sl w B A (vs.take n) := by
  rcases h with h | ⟨b, off, e, hlt, hc⟩
  · exact Or.inl (by simp [h])
  · refine Or.inr ⟨b, off, e, hlt, fun k f hv => hc k f ?_⟩
    rw [List.getElem?_take] at hv
    split at hv
    · exact hv
    · cases hv
end Go.Proofs.Ytmnfikfncbppfaa
