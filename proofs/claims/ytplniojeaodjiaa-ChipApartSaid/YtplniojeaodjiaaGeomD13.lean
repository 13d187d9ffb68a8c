/- Contracts of package geom: places. -/
import Derived.Test.YtplniojeaodjiaaGeomC13
namespace Go.Proofs.Ytplniojeaodjiaa
open Go.ChangeShapes Go.WideShapes Go.ChangeAt Go.RowKit

def thereB (a b x y : Int) : Bool := withinB x 0 (a - 1) && withinB y 0 (b - 1)

theorem there_bd {a b x y : Int} (h : thereB a b x y = true) : 0 ≤ x ∧ x ≤ a - 1 ∧ 0 ≤ y ∧ y ≤ b - 1 := by
  simp only [thereB, withinB, Bool.and_eq_true, decide_eq_true_eq] at h
  omega

theorem there_any (a b c d e x y : Int) (w : World) (h1 : 8 ≤ a) (h2 : a ≤ 20) (h3 : 4 ≤ b) (h4 : b ≤ 8) :
    Calls Try.prog 76 #[.agg #[.int .i64 a, .int .i64 b, .int .i64 c, .int .i64 d, .int .i64 e], .agg #[.int .i64 x, .int .i64 y]] w fun e' w' => e' = .returned (.bool (thereB a b x y)) ∧ Below w.heap.size w w' := by
  go_enter Try.func76, Try.ntmps76
  go_wp2_with (go_at_call 72; refine (within_any _ _ _ _).mono ?_; rintro e w' ⟨rfl, rfl⟩)
  all_goals
    go_ret
    exact ⟨by simp [thereB, *], ((Below.refl _ _).alloc (Nat.le_refl _) _).alloc (by simp) _⟩

/-- A place's number: of a geometry that may be. -/
def numberI (a b x y : Int) : Int := if thereB a b x y = true then x * b + y else -1

theorem below2 {w w1 : World} {o o' : Obj} (hb : Below ((w.alloc o).alloc o').heap.size ((w.alloc o).alloc o') w1) : Below w.heap.size w w1 :=
  (((Below.refl _ _).alloc (Nat.le_refl _) _).alloc (by simp) _).trans (hb.mono (by simp; omega))

theorem Number_any (a b c d e x y : Int) (w : World) :
    Calls Try.prog 71 #[.agg #[.int .i64 a, .int .i64 b, .int .i64 c, .int .i64 d, .int .i64 e], .agg #[.int .i64 x, .int .i64 y]] w fun e' w' => e' = .returned (.int .i64 (ifMay a b c d e (numberI a b x y))) ∧ Below w.heap.size w w' := by
  cases hm : mayB a b c d e
  · rw [ifMay_no _ hm]
    have Hm := Lib.hid hm
    clear hm
    go_enter Try.func71, Try.ntmps71
    go_wp2_with (go_at_call 62; refine (may_any _ _ _ _ _ _).mono ?_; rw [Hm.out]; rintro e' w1 ⟨rfl, hb1⟩)
    go_ret
    exact ⟨rfl, below2 hb1⟩
  · rw [ifMay_yes _ hm]
    obtain ⟨k1, k2, k3, k4, k7, k8, k5, k6, _⟩ := may_bd hm
    have Hm := Lib.hid hm
    clear hm
    cases ht : thereB a b x y
    · have hn : numberI a b x y = -1 := by simp [numberI, ht]
      rw [hn]
      clear hn
      have Ht := Lib.hid ht
      clear ht
      go_enter Try.func71, Try.ntmps71
      go_wp2_with (first | (go_at_call 62; refine (may_any _ _ _ _ _ _).mono ?_; rw [Hm.out]; rintro e' w1 ⟨rfl, hb1⟩; obtain ⟨hc1, hf1⟩ := bcell hb1) | (go_at_call 76; refine (there_any _ _ _ _ _ _ _ _ k1 k2 k3 k4).mono ?_; rw [Ht.out]; rintro e' w2 ⟨rfl, hb2⟩))
      go_ret
      exact ⟨rfl, (below2 hb1).trans (hb2.mono (by have := hb1.size; simp at this; omega))⟩
    · have hn : numberI a b x y = x * b + y := by simp [numberI, ht]
      rw [hn]
      clear hn
      obtain ⟨t1, t2, t3, t4⟩ := there_bd ht
      obtain ⟨p1, p2⟩ := mul_bd (x := x) (y := b) (lo := 0) (hi := 19) (by omega) (by omega) k3 k4 (by omega) (by omega)
      have Ht := Lib.hid ht
      clear ht
      go_enter Try.func71, Try.ntmps71
      go_wp2_with (first | (go_at_call 62; refine (may_any _ _ _ _ _ _).mono ?_; rw [Hm.out]; rintro e' w1 ⟨rfl, hb1⟩; obtain ⟨hc1, hf1⟩ := bcell hb1; have hz1 : w.heap.size + 1 < w1.heap.size := by { have := hb1.size; simp at this; omega }; have hz0 : w.heap.size < w1.heap.size := by { omega }) | (go_at_call 76; refine (there_any _ _ _ _ _ _ _ _ k1 k2 k3 k4).mono ?_; rw [Ht.out]; rintro e' w2 ⟨rfl, hb2⟩; obtain ⟨hc2, hf2⟩ := bcell hb2))
      go_ret
      exact ⟨rfl, (below2 hb1).trans (hb2.mono (by have := hb1.size; simp at this; omega))⟩
end Go.Proofs.Ytplniojeaodjiaa
