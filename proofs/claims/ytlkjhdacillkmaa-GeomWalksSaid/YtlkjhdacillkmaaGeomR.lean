/- Contracts of chapter 5's own answers: they tell what package geom tells. -/
import Derived.Test.YtlkjhdacillkmaaGeomE
namespace Go.Proofs.Ytlkjhdacillkmaa
open Go.ChangeShapes Go.WideShapes Go.ChangeAt Go.RowKit

theorem rin_any (x lo hi : Int) (w : World) :
    Calls Try.prog 28 #[.int .i64 x, .int .i64 lo, .int .i64 hi] w fun e w' => e = .returned (.bool (withinB x lo hi)) ∧ w = w' := by
  unfold withinB
  by_cases h1 : lo ≤ x <;> by_cases h2 : x ≤ hi
  all_goals
    go_enter Try.func28, Try.ntmps28
    go_wp2
    go_ret
    exact ⟨by simp [h1, h2], rfl⟩

theorem rhalf_any (a b c d e : Int) (w : World) (h1 : 8 ≤ a) (h2 : a ≤ 20) (h3 : 4 ≤ b) (h4 : b ≤ 8) (h5 : 0 ≤ d) (h6 : d ≤ 4) :
    Calls Try.prog 29 #[.agg #[.int .i64 a, .int .i64 b, .int .i64 c, .int .i64 d, .int .i64 e]] w fun e' w' => e' = .returned (.int .i64 (logicalI a b d)) ∧ Below w.heap.size w w' := by
  obtain ⟨p1, p2⟩ := prod_bd (x := a - d - 3) (b := b) (by omega) (by omega) h3 h4
  have h0 : 0 ≤ (a - d - 3) * b - 4 := by omega
  go_enter Try.func29, Try.ntmps29
  go_wp2
  go_ret
  exact ⟨rfl, (Below.refl _ _).alloc (Nat.le_refl _) _⟩

theorem rmay_any (a b c d e : Int) (w : World) :
    Calls Try.prog 11 #[.agg #[.int .i64 a, .int .i64 b, .int .i64 c, .int .i64 d, .int .i64 e]] w fun e' w' => e' = .returned (.bool (mayB a b c d e)) ∧ Below w.heap.size w w' := by
  go_enter Try.func11, Try.ntmps11
  go_wp2_with (go_at_call 28; refine (rin_any _ _ _ _).mono ?_; rintro e w' ⟨rfl, rfl⟩)
  case isTrue =>
    have g1 : withinB a 8 20 = true := by assumption
    have g2 : withinB b 4 8 = true := by assumption
    have g3 : withinB c 24 64 = true := by assumption
    have g4 : withinB d 0 4 = true := by assumption
    have g5 : withinB e 2 20 = true := by assumption
    refine (rhalf_any _ _ _ _ _ _ (within_bd g1).1 (within_bd g1).2 (within_bd g2).1 (within_bd g2).2 (within_bd g4).1 (within_bd g4).2).mono ?_
    rintro e' w' ⟨rfl, hb⟩
    go_wp2
    go_ret
    refine ⟨?_, ((Below.refl _ _).alloc (Nat.le_refl _) _).trans (hb.mono (by simp))⟩
    simp [mayB, *]
  all_goals
    go_ret
    exact ⟨by simp [mayB, *], (Below.refl _ _).alloc (Nat.le_refl _) _⟩

theorem rRaw_any (a b c d e : Int) (w : World) :
    Calls Try.prog 15 #[.agg #[.int .i64 a, .int .i64 b, .int .i64 c, .int .i64 d, .int .i64 e]] w fun e' w' => e' = .returned (.int .i64 (ifMay a b c d e (c + 16))) ∧ Below w.heap.size w w' := by
  cases hm : mayB a b c d e
  · rw [ifMay_no _ hm]
    have Hm := Lib.hid hm
    clear hm
    go_enter Try.func15, Try.ntmps15
    go_wp2_with (go_at_call 11; refine (rmay_any _ _ _ _ _ _).mono ?_; rw [Hm.out]; rintro e' w1 ⟨rfl, hb1⟩)
    go_ret
    exact ⟨rfl, below1 hb1⟩
  · rw [ifMay_yes _ hm]
    obtain ⟨k1, k2, k3, k4, k7, k8, k5, k6, _⟩ := may_bd hm
    have Hm := Lib.hid hm
    clear hm
    go_enter Try.func15, Try.ntmps15
    go_wp2_with (go_at_call 11; refine (rmay_any _ _ _ _ _ _).mono ?_; rw [Hm.out]; rintro e' w1 ⟨rfl, hb1⟩; obtain ⟨hc1, hf1⟩ := bcell hb1)
    go_ret
    exact ⟨rfl, below1 hb1⟩

theorem rSlack_any (a b c d e : Int) (w : World) :
    Calls Try.prog 19 #[.agg #[.int .i64 a, .int .i64 b, .int .i64 c, .int .i64 d, .int .i64 e]] w fun e' w' => e' = .returned (.int .i64 (ifMay a b c d e (2 * a))) ∧ Below w.heap.size w w' := by
  cases hm : mayB a b c d e
  · rw [ifMay_no _ hm]
    have Hm := Lib.hid hm
    clear hm
    go_enter Try.func19, Try.ntmps19
    go_wp2_with (go_at_call 11; refine (rmay_any _ _ _ _ _ _).mono ?_; rw [Hm.out]; rintro e' w1 ⟨rfl, hb1⟩)
    go_ret
    exact ⟨rfl, below1 hb1⟩
  · rw [ifMay_yes _ hm]
    obtain ⟨k1, k2, k3, k4, k7, k8, k5, k6, _⟩ := may_bd hm
    have Hm := Lib.hid hm
    clear hm
    go_enter Try.func19, Try.ntmps19
    go_wp2_with (go_at_call 11; refine (rmay_any _ _ _ _ _ _).mono ?_; rw [Hm.out]; rintro e' w1 ⟨rfl, hb1⟩; obtain ⟨hc1, hf1⟩ := bcell hb1)
    go_ret
    exact ⟨rfl, below1 hb1⟩

theorem rBound_any (a b c d e : Int) (w : World) :
    Calls Try.prog 17 #[.agg #[.int .i64 a, .int .i64 b, .int .i64 c, .int .i64 d, .int .i64 e]] w fun e' w' => e' = .returned (.int .i64 (ifMay a b c d e (60 * a * a * b))) ∧ Below w.heap.size w w' := by
  cases hm : mayB a b c d e
  · rw [ifMay_no _ hm]
    have Hm := Lib.hid hm
    clear hm
    go_enter Try.func17, Try.ntmps17
    go_wp2_with (go_at_call 11; refine (rmay_any _ _ _ _ _ _).mono ?_; rw [Hm.out]; rintro e' w1 ⟨rfl, hb1⟩)
    go_ret
    exact ⟨rfl, below1 hb1⟩
  · rw [ifMay_yes _ hm]
    obtain ⟨k1, k2, k3, k4, k7, k8, k5, k6, _⟩ := may_bd hm
    obtain ⟨p1, p2⟩ := mul_bd (x := 60 * a) (lo := 480) (hi := 1200) (by omega) (by omega) k1 k2 (by omega) (by omega)
    obtain ⟨p3, p4⟩ := mul_bd (x := 60 * a * a) (lo := 3840) (hi := 24000) (by omega) (by omega) k3 k4 (by omega) (by omega)
    have Hm := Lib.hid hm
    clear hm
    go_enter Try.func17, Try.ntmps17
    go_wp2_with (go_at_call 11; refine (rmay_any _ _ _ _ _ _).mono ?_; rw [Hm.out]; rintro e' w1 ⟨rfl, hb1⟩; obtain ⟨hc1, hf1⟩ := bcell hb1)
    go_ret
    exact ⟨rfl, below1 hb1⟩

theorem rLogical_any (a b c d e : Int) (w : World) :
    Calls Try.prog 13 #[.agg #[.int .i64 a, .int .i64 b, .int .i64 c, .int .i64 d, .int .i64 e]] w fun e' w' => e' = .returned (.int .i64 (ifMay a b c d e (logicalI a b d))) ∧ Below w.heap.size w w' := by
  cases hm : mayB a b c d e
  · rw [ifMay_no _ hm]
    have Hm := Lib.hid hm
    clear hm
    go_enter Try.func13, Try.ntmps13
    go_wp2_with (go_at_call 11; refine (rmay_any _ _ _ _ _ _).mono ?_; rw [Hm.out]; rintro e' w1 ⟨rfl, hb1⟩)
    go_ret
    exact ⟨rfl, below1 hb1⟩
  · rw [ifMay_yes _ hm]
    obtain ⟨k1, k2, k3, k4, _, _, k5, k6, _⟩ := may_bd hm
    have Hm := Lib.hid hm
    clear hm
    go_enter Try.func13, Try.ntmps13
    go_wp2_with (first
      | (go_at_call 11; refine (rmay_any _ _ _ _ _ _).mono ?_; rw [Hm.out]; rintro e' w1 ⟨rfl, hb1⟩; obtain ⟨hc1, hf1⟩ := bcell hb1)
      | (go_at_call 29; refine (rhalf_any _ _ _ _ _ _ k1 k2 k3 k4 k5 k6).mono ?_; rintro e' w2 ⟨rfl, hb2⟩))
    go_ret
    exact ⟨rfl, (below1 hb1).trans (hb2.mono (by have := hb1.size; simp at this; omega))⟩

theorem rThere_any (a b c d e x y : Int) (w : World) :
    Calls Try.prog 25 #[.agg #[.int .i64 a, .int .i64 b, .int .i64 c, .int .i64 d, .int .i64 e], .agg #[.int .i64 x, .int .i64 y]] w fun e' w' => e' = .returned (.bool (mayB a b c d e && thereB a b x y)) ∧ Below w.heap.size w w' := by
  cases hm : mayB a b c d e
  · have Hm := Lib.hid hm
    clear hm
    go_enter Try.func25, Try.ntmps25
    go_wp2_with (go_at_call 11; refine (rmay_any _ _ _ _ _ _).mono ?_; rw [Hm.out]; rintro e' w1 ⟨rfl, hb1⟩)
    go_ret
    exact ⟨by simp, below2 hb1⟩
  · obtain ⟨k1, k2, k3, k4, k7, k8, k5, k6, _⟩ := may_bd hm
    have Hm := Lib.hid hm
    clear hm
    go_enter Try.func25, Try.ntmps25
    go_wp2_with (first
      | (go_at_call 11; refine (rmay_any _ _ _ _ _ _).mono ?_; rw [Hm.out]; rintro e' w1 ⟨rfl, hb1⟩; obtain ⟨hc1, hf1⟩ := bcell hb1; have hz1 : w.heap.size + 1 < w1.heap.size := by { have := hb1.size; simp at this; omega }; have hz0 : w.heap.size < w1.heap.size := by { omega })
      | (go_at_call 28; refine (rin_any _ _ _ _).mono ?_; rintro e w' ⟨rfl, rfl⟩))
    all_goals
      go_ret
      exact ⟨by simp [thereB, *], below2 hb1⟩

theorem rNumber_any (a b c d e x y : Int) (w : World) :
    Calls Try.prog 21 #[.agg #[.int .i64 a, .int .i64 b, .int .i64 c, .int .i64 d, .int .i64 e], .agg #[.int .i64 x, .int .i64 y]] w fun e' w' => e' = .returned (.int .i64 (ifMay a b c d e (numberI a b x y))) ∧ Below w.heap.size w w' := by
  cases hm : mayB a b c d e
  · rw [ifMay_no _ hm]
    have Hm := Lib.hid hm
    clear hm
    go_enter Try.func21, Try.ntmps21
    go_wp2_with (go_at_call 11; refine (rmay_any _ _ _ _ _ _).mono ?_; rw [Hm.out]; rintro e' w1 ⟨rfl, hb1⟩)
    go_ret
    exact ⟨rfl, below2 hb1⟩
  · rw [ifMay_yes _ hm]
    obtain ⟨k1, k2, k3, k4, k7, k8, k5, k6, _⟩ := may_bd hm
    have Hm := Lib.hid hm
    clear hm
    cases ht : thereB a b x y
    · have hn : numberI a b x y = -1 := by simp [numberI, ht]
      rw [hn]
      clear hn
      have Ht := Lib.hid ht
      clear ht
      go_enter Try.func21, Try.ntmps21
      go_wp2_with (first
        | (go_at_call 11; refine (rmay_any _ _ _ _ _ _).mono ?_; rw [Hm.out]; rintro e' w1 ⟨rfl, hb1⟩; obtain ⟨hc1, hf1⟩ := bcell hb1)
        | (go_at_call 25; refine (rThere_any _ _ _ _ _ _ _ _).mono ?_; rw [Hm.out, Ht.out, Bool.true_and]; rintro e' w2 ⟨rfl, hb2⟩))
      go_ret
      exact ⟨rfl, (below2 hb1).trans (hb2.mono (by have := hb1.size; simp at this; omega))⟩
    · have hn : numberI a b x y = x * b + y := by simp [numberI, ht]
      rw [hn]
      clear hn
      obtain ⟨t1, t2, t3, t4⟩ := there_bd ht
      obtain ⟨p1, p2⟩ := mul_bd (x := x) (y := b) (lo := 0) (hi := 19) (by omega) (by omega) k3 k4 (by omega) (by omega)
      have Ht := Lib.hid ht
      clear ht
      go_enter Try.func21, Try.ntmps21
      go_wp2_with (first
        | (go_at_call 11; refine (rmay_any _ _ _ _ _ _).mono ?_; rw [Hm.out]; rintro e' w1 ⟨rfl, hb1⟩; obtain ⟨hc1, hf1⟩ := bcell hb1; have hz1 : w.heap.size + 1 < w1.heap.size := by { have := hb1.size; simp at this; omega }; have hz0 : w.heap.size < w1.heap.size := by { omega })
        | (go_at_call 25; refine (rThere_any _ _ _ _ _ _ _ _).mono ?_; rw [Hm.out, Ht.out, Bool.true_and]; rintro e' w2 ⟨rfl, hb2⟩; obtain ⟨hc2, hf2⟩ := bcell hb2))
      go_ret
      exact ⟨rfl, (below2 hb1).trans (hb2.mono (by have := hb1.size; simp at this; omega))⟩

/-- The last place of all is the last of the last block. -/
theorem last_iff {a b x y : Int} (h1 : 0 ≤ x) (h2 : x ≤ a - 1) (h3 : 0 ≤ y) (h4 : y ≤ b - 1) (h5 : 1 ≤ b) : x * b + y + 1 = a * b ↔ x = a - 1 ∧ y = b - 1 := by
  constructor
  · intro h
    have hx : x = a - 1 := by
      rcases Int.lt_or_le x (a - 1) with hl | hl
      · exfalso
        have h6 : (x + 1) * b ≤ (a - 1) * b := Int.mul_le_mul_of_nonneg_right (by omega) (by omega)
        have h7 : (x + 1) * b = x * b + b := by rw [Int.add_mul, Int.one_mul]
        have h8 : (a - 1) * b = a * b - b := by rw [Int.sub_mul, Int.one_mul]
        omega
      · omega
    subst hx
    have h8 : (a - 1) * b = a * b - b := by rw [Int.sub_mul, Int.one_mul]
    exact ⟨rfl, by omega⟩
  · rintro ⟨rfl, rfl⟩
    have h8 : (a - 1) * b = a * b - b := by rw [Int.sub_mul, Int.one_mul]
    omega
end Go.Proofs.Ytlkjhdacillkmaa
