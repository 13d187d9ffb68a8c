/- Contracts of package geom: what it tells of a geometry that may be, and of others. -/
import Derived.Test.YtplniojeaodjiaaGeomB
import Derived.Test.YtplniojeaodjiaaSl
namespace Go.Proofs.Ytplniojeaodjiaa
open Go.ChangeShapes Go.WideShapes Go.ChangeAt Go.RowKit

/-- What a call tells of a geometry: f, if it may be; else 0. -/
def ifMay (a b c d e f : Int) : Int := if mayB a b c d e = true then f else 0

theorem ifMay_yes {a b c d e : Int} (f : Int) (h : mayB a b c d e = true) : ifMay a b c d e f = f := by simp [ifMay, h]
theorem ifMay_no {a b c d e : Int} (f : Int) (h : mayB a b c d e = false) : ifMay a b c d e f = 0 := by simp [ifMay, h]

theorem below1n {w w1 : World} {o : Obj} (hb : Below (w.heap.size + 1) (w.alloc o) w1) : Below w.heap.size w w1 :=
  ((Below.refl _ _).alloc (Nat.le_refl _) _).trans (hb.mono (by simp))

theorem mul_bd {x y lo hi l2 h2 : Int} (a1 : lo ≤ x) (a2 : x ≤ hi) (b1 : l2 ≤ y) (b2 : y ≤ h2) (p : 0 ≤ lo) (q : 0 ≤ l2) : lo * l2 ≤ x * y ∧ x * y ≤ hi * h2 := by
  have h5 : x * y ≤ hi * y := Int.mul_le_mul_of_nonneg_right a2 (by omega)
  have h6 : hi * y ≤ hi * h2 := Int.mul_le_mul_of_nonneg_left b2 (by omega)
  have h7 : lo * l2 ≤ lo * y := Int.mul_le_mul_of_nonneg_left b1 p
  have h8 : lo * y ≤ x * y := Int.mul_le_mul_of_nonneg_right a1 (by omega)
  omega

end Go.Proofs.Ytplniojeaodjiaa
