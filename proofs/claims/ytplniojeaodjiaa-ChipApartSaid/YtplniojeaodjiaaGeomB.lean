/- Contracts of package geom: logical, May and what leans on it. -/
import Derived.Test.YtplniojeaodjiaaGeomA
namespace Go.Proofs.Ytplniojeaodjiaa
open Go.ChangeShapes Go.WideShapes Go.ChangeAt Go.RowKit

/-- Logical's number of numbers that may be. -/
def logicalI (a b d : Int) : Int := ((a - d - 3) * b - 4) / 2

def mayB (a b c d e : Int) : Bool :=
  withinB a 8 20 && (withinB b 4 8 && (withinB c 24 64 && (withinB d 0 4 && (withinB e 2 20 && decide (4 ≤ logicalI a b d)))))

theorem within_bd {x lo hi : Int} (h : withinB x lo hi = true) : lo ≤ x ∧ x ≤ hi := by
  simpa [withinB] using h

theorem withinB_false {x lo hi : Int} (h : ¬ withinB x lo hi = true) : withinB x lo hi = false := by simpa using h

theorem may_bd {a b c d e : Int} (h : mayB a b c d e = true) :
    8 ≤ a ∧ a ≤ 20 ∧ 4 ≤ b ∧ b ≤ 8 ∧ 24 ≤ c ∧ c ≤ 64 ∧ 0 ≤ d ∧ d ≤ 4 ∧ 2 ≤ e ∧ e ≤ 20 ∧ 4 ≤ logicalI a b d := by
  simp only [mayB, withinB, Bool.and_eq_true, decide_eq_true_eq] at h
  omega

theorem prod_bd {x b : Int} (h1 : 1 ≤ x) (h2 : x ≤ 17) (h3 : 4 ≤ b) (h4 : b ≤ 8) : 4 ≤ x * b ∧ x * b ≤ 136 := by
  have h5 : x * b ≤ 17 * b := Int.mul_le_mul_of_nonneg_right h2 (by omega)
  have h6 : 1 * b ≤ x * b := Int.mul_le_mul_of_nonneg_right h1 (by omega)
  omega

theorem logical_any (a b c d e : Int) (w : World) (h1 : 8 ≤ a) (h2 : a ≤ 20) (h3 : 4 ≤ b) (h4 : b ≤ 8) (h5 : 0 ≤ d) (h6 : d ≤ 4) :
    Calls Try.prog 73 #[.agg #[.int .i64 a, .int .i64 b, .int .i64 c, .int .i64 d, .int .i64 e]] w fun e' w' => e' = .returned (.int .i64 (logicalI a b d)) ∧ Below w.heap.size w w' := by
  obtain ⟨p1, p2⟩ := prod_bd (x := a - d - 3) (b := b) (by omega) (by omega) h3 h4
  have h0 : 0 ≤ (a - d - 3) * b - 4 := by omega
  go_enter Try.func73, Try.ntmps73
  go_wp2
  go_ret
  exact ⟨rfl, (Below.refl _ _).alloc (Nat.le_refl _) _⟩

theorem may_any (a b c d e : Int) (w : World) :
    Calls Try.prog 62 #[.agg #[.int .i64 a, .int .i64 b, .int .i64 c, .int .i64 d, .int .i64 e]] w fun e' w' => e' = .returned (.bool (mayB a b c d e)) ∧ Below w.heap.size w w' := by
  go_enter Try.func62, Try.ntmps62
  go_wp2_with (go_at_call 72; refine (within_any _ _ _ _).mono ?_; rintro e w' ⟨rfl, rfl⟩)
  case isTrue =>
    have g1 : withinB a 8 20 = true := by assumption
    have g2 : withinB b 4 8 = true := by assumption
    have g3 : withinB c 24 64 = true := by assumption
    have g4 : withinB d 0 4 = true := by assumption
    have g5 : withinB e 2 20 = true := by assumption
    refine (logical_any _ _ _ _ _ _ (within_bd g1).1 (within_bd g1).2 (within_bd g2).1 (within_bd g2).2 (within_bd g4).1 (within_bd g4).2).mono ?_
    rintro e' w' ⟨rfl, hb⟩
    go_wp2
    go_ret
    refine ⟨?_, ((Below.refl _ _).alloc (Nat.le_refl _) _).trans (hb.mono (by simp))⟩
    simp [mayB, *]
  all_goals
    go_ret
    exact ⟨by simp [mayB, *], (Below.refl _ _).alloc (Nat.le_refl _) _⟩
end Go.Proofs.Ytplniojeaodjiaa
