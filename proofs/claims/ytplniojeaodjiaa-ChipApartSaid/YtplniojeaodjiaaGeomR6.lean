/- Contracts of chapter 5's own answers: they tell what package geom tells. -/
import Derived.Test.YtplniojeaodjiaaGeomB
namespace Go.Proofs.Ytplniojeaodjiaa
open Go.ChangeShapes Go.WideShapes Go.ChangeAt Go.RowKit

theorem rin_any (x lo hi : Int) (w : World) :
    Calls Try.prog 51 #[.int .i64 x, .int .i64 lo, .int .i64 hi] w fun e w' => e = .returned (.bool (withinB x lo hi)) ∧ w = w' := by
  unfold withinB
  by_cases h1 : lo ≤ x <;> by_cases h2 : x ≤ hi
  all_goals
    go_enter Try.func51, Try.ntmps51
    go_wp2
    go_ret
    exact ⟨by simp [h1, h2], rfl⟩

theorem rhalf_any (a b c d e : Int) (w : World) (h1 : 8 ≤ a) (h2 : a ≤ 20) (h3 : 4 ≤ b) (h4 : b ≤ 8) (h5 : 0 ≤ d) (h6 : d ≤ 4) :
    Calls Try.prog 52 #[.agg #[.int .i64 a, .int .i64 b, .int .i64 c, .int .i64 d, .int .i64 e]] w fun e' w' => e' = .returned (.int .i64 (logicalI a b d)) ∧ Below w.heap.size w w' := by
  obtain ⟨p1, p2⟩ := prod_bd (x := a - d - 3) (b := b) (by omega) (by omega) h3 h4
  have h0 : 0 ≤ (a - d - 3) * b - 4 := by omega
  go_enter Try.func52, Try.ntmps52
  go_wp2
  go_ret
  exact ⟨rfl, (Below.refl _ _).alloc (Nat.le_refl _) _⟩

theorem rmay_any (a b c d e : Int) (w : World) :
    Calls Try.prog 15 #[.agg #[.int .i64 a, .int .i64 b, .int .i64 c, .int .i64 d, .int .i64 e]] w fun e' w' => e' = .returned (.bool (mayB a b c d e)) ∧ Below w.heap.size w w' := by
  go_enter Try.func15, Try.ntmps15
  go_wp2_with (go_at_call 51; refine (rin_any _ _ _ _).mono ?_; rintro e w' ⟨rfl, rfl⟩)
  case isTrue =>
    have g1 : withinB a 8 20 = true := by assumption
    have g2 : withinB b 4 8 = true := by assumption
    have g3 : withinB c 24 64 = true := by assumption
    have g4 : withinB d 0 4 = true := by assumption
    have g5 : withinB e 2 20 = true := by assumption
    refine (rhalf_any _ _ _ _ _ _ (within_bd g1).1 (within_bd g1).2 (within_bd g2).1 (within_bd g2).2 (within_bd g4).1 (within_bd g4).2).mono ?_
    rintro e' w' ⟨rfl, hb⟩
    go_wp2
    go_ret
    refine ⟨?_, ((Below.refl _ _).alloc (Nat.le_refl _) _).trans (hb.mono (by simp))⟩
    simp [mayB, *]
  all_goals
    go_ret
    exact ⟨by simp [mayB, *], (Below.refl _ _).alloc (Nat.le_refl _) _⟩

end Go.Proofs.Ytplniojeaodjiaa
