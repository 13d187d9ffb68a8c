/- Contracts of package geom: what it tells of a geometry that may be, and of others. -/
import Derived.Test.YtfefjjebjjfkdaaGeomB
import Derived.Test.YtfefjjebjjfkdaaSl
namespace Go.Proofs.Ytfefjjebjjfkdaa
open Go.ChangeShapes Go.WideShapes Go.ChangeAt Go.RowKit

/-- What a call tells of a geometry: f, if it may be; else 0. -/
def ifMay (a b c d e f : Int) : Int := if mayB a b c d e = true then f else 0

theorem ifMay_yes {a b c d e : Int} (f : Int) (h : mayB a b c d e = true) : ifMay a b c d e f = f := by simp [ifMay, h]
theorem ifMay_no {a b c d e : Int} (f : Int) (h : mayB a b c d e = false) : ifMay a b c d e f = 0 := by simp [ifMay, h]

theorem below1n {w w1 : World} {o : Obj} (hb : Below (w.heap.size + 1) (w.alloc o) w1) : Below w.heap.size w w1 :=
  ((Below.refl _ _).alloc (Nat.le_refl _) _).trans (hb.mono (by simp))

theorem mul_bd {x y lo hi l2 h2 : Int} (a1 : lo ≤ x) (a2 : x ≤ hi) (b1 : l2 ≤ y) (b2 : y ≤ h2) (p : 0 ≤ lo) (q : 0 ≤ l2) : lo * l2 ≤ x * y ∧ x * y ≤ hi * h2 := by
  have h5 : x * y ≤ hi * y := Int.mul_le_mul_of_nonneg_right a2 (by omega)
  have h6 : hi * y ≤ hi * h2 := Int.mul_le_mul_of_nonneg_left b2 (by omega)
  have h7 : lo * l2 ≤ lo * y := Int.mul_le_mul_of_nonneg_left b1 p
  have h8 : lo * y ≤ x * y := Int.mul_le_mul_of_nonneg_right a1 (by omega)
  omega

theorem Logical_any (a b c d e : Int) (w : World) :
    Calls Try.prog 27 #[.agg #[.int .i64 a, .int .i64 b, .int .i64 c, .int .i64 d, .int .i64 e]] w fun e' w' => e' = .returned (.int .i64 (ifMay a b c d e (logicalI a b d))) ∧ Below w.heap.size w w' := by
  cases hm : mayB a b c d e
  · rw [ifMay_no _ hm]
    have Hm := Lib.hid hm
    clear hm
    go_enter Try.func27, Try.ntmps27
    go_wp2_with (go_at_call 25; refine (may_any _ _ _ _ _ _).mono ?_; rw [Hm.out]; rintro e' w1 ⟨rfl, hb1⟩)
    go_ret
    exact ⟨rfl, below1 hb1⟩
  · rw [ifMay_yes _ hm]
    obtain ⟨k1, k2, k3, k4, _, _, k5, k6, _⟩ := may_bd hm
    have Hm := Lib.hid hm
    clear hm
    go_enter Try.func27, Try.ntmps27
    go_wp2_with (first | (go_at_call 25; refine (may_any _ _ _ _ _ _).mono ?_; rw [Hm.out]; rintro e' w1 ⟨rfl, hb1⟩; obtain ⟨hc1, hf1⟩ := bcell hb1) | (go_at_call 37; refine (logical_any _ _ _ _ _ _ k1 k2 k3 k4 k5 k6).mono ?_; rintro e' w2 ⟨rfl, hb2⟩))
    go_ret
    exact ⟨rfl, (below1 hb1).trans (hb2.mono (by have := hb1.size; simp at this; omega))⟩

end Go.Proofs.Ytfefjjebjjfkdaa
