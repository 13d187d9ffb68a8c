/- GeomLow: a number of a geometry out of its bounds makes it none. -/
import Derived.Test.YtlkjhdacillkmaaGeomF
import Derived.Test.YtlkjhdacillkmaaLow
import Derived.Test.YtlkjhdacillkmaaOpen
namespace Go.Proofs.Ytlkjhdacillkmaa
open Go.ChangeShapes Go.WideShapes Go.ChangeAt Go.RowKit
attribute [local go_sem ↓] Go.wp_at_zero Go.wp_at_succ

theorem low_no (a b c d e which n : Int) (w : World) (hm : mayB a b c d e = false) :
    Calls Try.prog 6 #[.agg #[.int .i64 a, .int .i64 b, .int .i64 c, .int .i64 d, .int .i64 e], .int .i64 which, .int .i64 n] w fun e' w' => e' = .returned (.bool true) ∧ Below w.heap.size w w' := by
  have Hm := Lib.hid hm
  clear hm
  go_enter Try.func6, Try.ntmps6
  go_wp2_with (first
    | (go_at_call 10; refine (may_any _ _ _ _ _ _).mono ?_; rw [Hm.out]; rintro e' w1 ⟨rfl, hb1⟩)
    | (go_at_call 22; refine (awake_any _).mono ?_; rintro e' w2 ⟨rfl, hb2⟩))
  go_ret
  exact ⟨rfl, btr (below1 hb1) (below1 hb1).size hb2⟩


theorem within_low {x lo hi : Int} (h : ¬ (lo ≤ x ∧ x ≤ hi)) : withinB x lo hi = false := by
  simp only [withinB, Bool.and_eq_false_iff, decide_eq_false_iff_not]
  omega

set_option linter.unusedSimpArgs false in
set_option maxHeartbeats 4000000 in
theorem low_case0 (a b c d e which n m : Int) (w : World) (hm : mayB a b c d e = true) (hl : lowI which 10 = 0) (hn : lowI n 1000 = m) (h1 : 0 ≤ m) (h2 : m < 1000) :
    Calls Try.prog 6 #[.agg #[.int .i64 a, .int .i64 b, .int .i64 c, .int .i64 d, .int .i64 e], .int .i64 which, .int .i64 n] w fun e' w' => e' = .returned (.bool true) ∧ Below w.heap.size w w' := by
  obtain ⟨k1, k2, k3, k4, k5, k6, k7, k8, k9, k10, _⟩ := may_bd hm
  have Hm := Lib.hid hm
  have hb' : mayB (8 - (1 + m)) (b) (c) (d) (e) = false := by
    simp only [mayB, within_low (x := 8 - (1 + m)) (lo := 8) (hi := 20) (by omega), Bool.false_and, Bool.and_false]
  have Hb := Lib.hid hb'
  have HL := Lib.hid hl
  have HN := Lib.hid hn
  clear hm hb' hl hn
  go_enter Try.func6, Try.ntmps6
  go_wp2_with (first
    | (go_at_call 10; refine (may_any _ _ _ _ _ _).mono ?_; rw [Hm.out]; rintro e' w1 ⟨rfl, hb1⟩; obtain ⟨hc1, hf1⟩ := bcell hb1; have hz1 : w.heap.size < w1.heap.size := by { have := hb1.size; simp at this; omega })
    | (go_at_call 23; refine (low_any _ _ _ (by omega) (by omega)).mono ?_; (first | rw [HL.out] | rw [HN.out]); rintro e' w' ⟨rfl, rfl⟩)
    | (go_at_call 10; refine (may_any _ _ _ _ _ _).mono ?_; rw [Hb.out]; rintro e' w2 ⟨rfl, hb2⟩; obtain ⟨hc2, hf2⟩ := bcell hb2; have hz2 : w.heap.size < w2.heap.size := by { have := hb2.size; (try simp at this); omega })
    | (go_at_call 12; refine (Logical_any _ _ _ _ _ _).mono ?_; rw [ifMay_no _ Hb.out]; rintro e' w3 ⟨rfl, hb3⟩; obtain ⟨hc3, hf3⟩ := bcell hb3; have hz3 : w.heap.size < w3.heap.size := by { have := hb3.size; (try simp at this); omega })
    | (go_at_call 14; refine (Raw_any _ _ _ _ _ _).mono ?_; rw [ifMay_no _ Hb.out]; rintro e' w4 ⟨rfl, hb4⟩; obtain ⟨hc4, hf4⟩ := bcell hb4; have hz4 : w.heap.size < w4.heap.size := by { have := hb4.size; (try simp at this); omega })
    | (go_at_call 16; refine (Bound_any _ _ _ _ _ _).mono ?_; rw [ifMay_no _ Hb.out]; rintro e' w5 ⟨rfl, hb5⟩; obtain ⟨hc5, hf5⟩ := bcell hb5; have hz5 : w.heap.size < w5.heap.size := by { have := hb5.size; (try simp at this); omega })
    | (go_at_call 18; refine (Slack_any _ _ _ _ _ _).mono ?_; rw [ifMay_no _ Hb.out]; rintro e' w6 ⟨rfl, hb6⟩; obtain ⟨hc6, hf6⟩ := bcell hb6; have hz6 : w.heap.size < w6.heap.size := by { have := hb6.size; (try simp at this); omega })
    | (go_at_call 20; refine (Number_any _ _ _ _ _ _ _ _).mono ?_; rw [ifMay_no _ Hb.out]; rintro e' w7 ⟨rfl, hb7⟩; obtain ⟨hc7, hf7⟩ := bcell hb7; have hz7 : w.heap.size < w7.heap.size := by { have := hb7.size; (try simp at this); omega })
    | (go_at_call 22; refine (awake_any _).mono ?_; rintro e' w8 ⟨rfl, hb8⟩))
  go_ret
  have B1 := below1 hb1
  have B2 := btr (B1.setCell (p := ⟨w.heap.size, 0, none⟩) (Nat.le_refl _) _) (by simpa using B1.size) hb2
  have B3 := btr B2 B2.size hb3
  have B4 := btr B3 B3.size hb4
  have B5 := btr B4 B4.size hb5
  have B6 := btr B5 B5.size hb6
  have B7 := btr B6 B6.size hb7
  exact ⟨rfl, btr B7 B7.size hb8⟩

set_option linter.unusedSimpArgs false in
set_option maxHeartbeats 4000000 in
theorem low_case1 (a b c d e which n m : Int) (w : World) (hm : mayB a b c d e = true) (hl : lowI which 10 = 1) (hn : lowI n 1000 = m) (h1 : 0 ≤ m) (h2 : m < 1000) :
    Calls Try.prog 6 #[.agg #[.int .i64 a, .int .i64 b, .int .i64 c, .int .i64 d, .int .i64 e], .int .i64 which, .int .i64 n] w fun e' w' => e' = .returned (.bool true) ∧ Below w.heap.size w w' := by
  obtain ⟨k1, k2, k3, k4, k5, k6, k7, k8, k9, k10, _⟩ := may_bd hm
  have Hm := Lib.hid hm
  have hb' : mayB (20 + (1 + m)) (b) (c) (d) (e) = false := by
    simp only [mayB, within_low (x := 20 + (1 + m)) (lo := 8) (hi := 20) (by omega), Bool.false_and, Bool.and_false]
  have Hb := Lib.hid hb'
  have HL := Lib.hid hl
  have HN := Lib.hid hn
  clear hm hb' hl hn
  go_enter Try.func6, Try.ntmps6
  go_wp2_with (first
    | (go_at_call 10; refine (may_any _ _ _ _ _ _).mono ?_; rw [Hm.out]; rintro e' w1 ⟨rfl, hb1⟩; obtain ⟨hc1, hf1⟩ := bcell hb1; have hz1 : w.heap.size < w1.heap.size := by { have := hb1.size; simp at this; omega })
    | (go_at_call 23; refine (low_any _ _ _ (by omega) (by omega)).mono ?_; (first | rw [HL.out] | rw [HN.out]); rintro e' w' ⟨rfl, rfl⟩)
    | (go_at_call 10; refine (may_any _ _ _ _ _ _).mono ?_; rw [Hb.out]; rintro e' w2 ⟨rfl, hb2⟩; obtain ⟨hc2, hf2⟩ := bcell hb2; have hz2 : w.heap.size < w2.heap.size := by { have := hb2.size; (try simp at this); omega })
    | (go_at_call 12; refine (Logical_any _ _ _ _ _ _).mono ?_; rw [ifMay_no _ Hb.out]; rintro e' w3 ⟨rfl, hb3⟩; obtain ⟨hc3, hf3⟩ := bcell hb3; have hz3 : w.heap.size < w3.heap.size := by { have := hb3.size; (try simp at this); omega })
    | (go_at_call 14; refine (Raw_any _ _ _ _ _ _).mono ?_; rw [ifMay_no _ Hb.out]; rintro e' w4 ⟨rfl, hb4⟩; obtain ⟨hc4, hf4⟩ := bcell hb4; have hz4 : w.heap.size < w4.heap.size := by { have := hb4.size; (try simp at this); omega })
    | (go_at_call 16; refine (Bound_any _ _ _ _ _ _).mono ?_; rw [ifMay_no _ Hb.out]; rintro e' w5 ⟨rfl, hb5⟩; obtain ⟨hc5, hf5⟩ := bcell hb5; have hz5 : w.heap.size < w5.heap.size := by { have := hb5.size; (try simp at this); omega })
    | (go_at_call 18; refine (Slack_any _ _ _ _ _ _).mono ?_; rw [ifMay_no _ Hb.out]; rintro e' w6 ⟨rfl, hb6⟩; obtain ⟨hc6, hf6⟩ := bcell hb6; have hz6 : w.heap.size < w6.heap.size := by { have := hb6.size; (try simp at this); omega })
    | (go_at_call 20; refine (Number_any _ _ _ _ _ _ _ _).mono ?_; rw [ifMay_no _ Hb.out]; rintro e' w7 ⟨rfl, hb7⟩; obtain ⟨hc7, hf7⟩ := bcell hb7; have hz7 : w.heap.size < w7.heap.size := by { have := hb7.size; (try simp at this); omega })
    | (go_at_call 22; refine (awake_any _).mono ?_; rintro e' w8 ⟨rfl, hb8⟩))
  go_ret
  have B1 := below1 hb1
  have B2 := btr (B1.setCell (p := ⟨w.heap.size, 0, none⟩) (Nat.le_refl _) _) (by simpa using B1.size) hb2
  have B3 := btr B2 B2.size hb3
  have B4 := btr B3 B3.size hb4
  have B5 := btr B4 B4.size hb5
  have B6 := btr B5 B5.size hb6
  have B7 := btr B6 B6.size hb7
  exact ⟨rfl, btr B7 B7.size hb8⟩

set_option linter.unusedSimpArgs false in
set_option maxHeartbeats 4000000 in
theorem low_case2 (a b c d e which n m : Int) (w : World) (hm : mayB a b c d e = true) (hl : lowI which 10 = 2) (hn : lowI n 1000 = m) (h1 : 0 ≤ m) (h2 : m < 1000) :
    Calls Try.prog 6 #[.agg #[.int .i64 a, .int .i64 b, .int .i64 c, .int .i64 d, .int .i64 e], .int .i64 which, .int .i64 n] w fun e' w' => e' = .returned (.bool true) ∧ Below w.heap.size w w' := by
  obtain ⟨k1, k2, k3, k4, k5, k6, k7, k8, k9, k10, _⟩ := may_bd hm
  have Hm := Lib.hid hm
  have hb' : mayB (a) (4 - (1 + m)) (c) (d) (e) = false := by
    simp only [mayB, within_low (x := 4 - (1 + m)) (lo := 4) (hi := 8) (by omega), Bool.false_and, Bool.and_false]
  have Hb := Lib.hid hb'
  have HL := Lib.hid hl
  have HN := Lib.hid hn
  clear hm hb' hl hn
  go_enter Try.func6, Try.ntmps6
  go_wp2_with (first
    | (go_at_call 10; refine (may_any _ _ _ _ _ _).mono ?_; rw [Hm.out]; rintro e' w1 ⟨rfl, hb1⟩; obtain ⟨hc1, hf1⟩ := bcell hb1; have hz1 : w.heap.size < w1.heap.size := by { have := hb1.size; simp at this; omega })
    | (go_at_call 23; refine (low_any _ _ _ (by omega) (by omega)).mono ?_; (first | rw [HL.out] | rw [HN.out]); rintro e' w' ⟨rfl, rfl⟩)
    | (go_at_call 10; refine (may_any _ _ _ _ _ _).mono ?_; rw [Hb.out]; rintro e' w2 ⟨rfl, hb2⟩; obtain ⟨hc2, hf2⟩ := bcell hb2; have hz2 : w.heap.size < w2.heap.size := by { have := hb2.size; (try simp at this); omega })
    | (go_at_call 12; refine (Logical_any _ _ _ _ _ _).mono ?_; rw [ifMay_no _ Hb.out]; rintro e' w3 ⟨rfl, hb3⟩; obtain ⟨hc3, hf3⟩ := bcell hb3; have hz3 : w.heap.size < w3.heap.size := by { have := hb3.size; (try simp at this); omega })
    | (go_at_call 14; refine (Raw_any _ _ _ _ _ _).mono ?_; rw [ifMay_no _ Hb.out]; rintro e' w4 ⟨rfl, hb4⟩; obtain ⟨hc4, hf4⟩ := bcell hb4; have hz4 : w.heap.size < w4.heap.size := by { have := hb4.size; (try simp at this); omega })
    | (go_at_call 16; refine (Bound_any _ _ _ _ _ _).mono ?_; rw [ifMay_no _ Hb.out]; rintro e' w5 ⟨rfl, hb5⟩; obtain ⟨hc5, hf5⟩ := bcell hb5; have hz5 : w.heap.size < w5.heap.size := by { have := hb5.size; (try simp at this); omega })
    | (go_at_call 18; refine (Slack_any _ _ _ _ _ _).mono ?_; rw [ifMay_no _ Hb.out]; rintro e' w6 ⟨rfl, hb6⟩; obtain ⟨hc6, hf6⟩ := bcell hb6; have hz6 : w.heap.size < w6.heap.size := by { have := hb6.size; (try simp at this); omega })
    | (go_at_call 20; refine (Number_any _ _ _ _ _ _ _ _).mono ?_; rw [ifMay_no _ Hb.out]; rintro e' w7 ⟨rfl, hb7⟩; obtain ⟨hc7, hf7⟩ := bcell hb7; have hz7 : w.heap.size < w7.heap.size := by { have := hb7.size; (try simp at this); omega })
    | (go_at_call 22; refine (awake_any _).mono ?_; rintro e' w8 ⟨rfl, hb8⟩))
  go_ret
  have B1 := below1 hb1
  have B2 := btr (B1.setCell (p := ⟨w.heap.size, 1, none⟩) (Nat.le_refl _) _) (by simpa using B1.size) hb2
  have B3 := btr B2 B2.size hb3
  have B4 := btr B3 B3.size hb4
  have B5 := btr B4 B4.size hb5
  have B6 := btr B5 B5.size hb6
  have B7 := btr B6 B6.size hb7
  exact ⟨rfl, btr B7 B7.size hb8⟩

set_option linter.unusedSimpArgs false in
set_option maxHeartbeats 4000000 in
theorem low_case3 (a b c d e which n m : Int) (w : World) (hm : mayB a b c d e = true) (hl : lowI which 10 = 3) (hn : lowI n 1000 = m) (h1 : 0 ≤ m) (h2 : m < 1000) :
    Calls Try.prog 6 #[.agg #[.int .i64 a, .int .i64 b, .int .i64 c, .int .i64 d, .int .i64 e], .int .i64 which, .int .i64 n] w fun e' w' => e' = .returned (.bool true) ∧ Below w.heap.size w w' := by
  obtain ⟨k1, k2, k3, k4, k5, k6, k7, k8, k9, k10, _⟩ := may_bd hm
  have Hm := Lib.hid hm
  have hb' : mayB (a) (8 + (1 + m)) (c) (d) (e) = false := by
    simp only [mayB, within_low (x := 8 + (1 + m)) (lo := 4) (hi := 8) (by omega), Bool.false_and, Bool.and_false]
  have Hb := Lib.hid hb'
  have HL := Lib.hid hl
  have HN := Lib.hid hn
  clear hm hb' hl hn
  go_enter Try.func6, Try.ntmps6
  go_wp2_with (first
    | (go_at_call 10; refine (may_any _ _ _ _ _ _).mono ?_; rw [Hm.out]; rintro e' w1 ⟨rfl, hb1⟩; obtain ⟨hc1, hf1⟩ := bcell hb1; have hz1 : w.heap.size < w1.heap.size := by { have := hb1.size; simp at this; omega })
    | (go_at_call 23; refine (low_any _ _ _ (by omega) (by omega)).mono ?_; (first | rw [HL.out] | rw [HN.out]); rintro e' w' ⟨rfl, rfl⟩)
    | (go_at_call 10; refine (may_any _ _ _ _ _ _).mono ?_; rw [Hb.out]; rintro e' w2 ⟨rfl, hb2⟩; obtain ⟨hc2, hf2⟩ := bcell hb2; have hz2 : w.heap.size < w2.heap.size := by { have := hb2.size; (try simp at this); omega })
    | (go_at_call 12; refine (Logical_any _ _ _ _ _ _).mono ?_; rw [ifMay_no _ Hb.out]; rintro e' w3 ⟨rfl, hb3⟩; obtain ⟨hc3, hf3⟩ := bcell hb3; have hz3 : w.heap.size < w3.heap.size := by { have := hb3.size; (try simp at this); omega })
    | (go_at_call 14; refine (Raw_any _ _ _ _ _ _).mono ?_; rw [ifMay_no _ Hb.out]; rintro e' w4 ⟨rfl, hb4⟩; obtain ⟨hc4, hf4⟩ := bcell hb4; have hz4 : w.heap.size < w4.heap.size := by { have := hb4.size; (try simp at this); omega })
    | (go_at_call 16; refine (Bound_any _ _ _ _ _ _).mono ?_; rw [ifMay_no _ Hb.out]; rintro e' w5 ⟨rfl, hb5⟩; obtain ⟨hc5, hf5⟩ := bcell hb5; have hz5 : w.heap.size < w5.heap.size := by { have := hb5.size; (try simp at this); omega })
    | (go_at_call 18; refine (Slack_any _ _ _ _ _ _).mono ?_; rw [ifMay_no _ Hb.out]; rintro e' w6 ⟨rfl, hb6⟩; obtain ⟨hc6, hf6⟩ := bcell hb6; have hz6 : w.heap.size < w6.heap.size := by { have := hb6.size; (try simp at this); omega })
    | (go_at_call 20; refine (Number_any _ _ _ _ _ _ _ _).mono ?_; rw [ifMay_no _ Hb.out]; rintro e' w7 ⟨rfl, hb7⟩; obtain ⟨hc7, hf7⟩ := bcell hb7; have hz7 : w.heap.size < w7.heap.size := by { have := hb7.size; (try simp at this); omega })
    | (go_at_call 22; refine (awake_any _).mono ?_; rintro e' w8 ⟨rfl, hb8⟩))
  go_ret
  have B1 := below1 hb1
  have B2 := btr (B1.setCell (p := ⟨w.heap.size, 1, none⟩) (Nat.le_refl _) _) (by simpa using B1.size) hb2
  have B3 := btr B2 B2.size hb3
  have B4 := btr B3 B3.size hb4
  have B5 := btr B4 B4.size hb5
  have B6 := btr B5 B5.size hb6
  have B7 := btr B6 B6.size hb7
  exact ⟨rfl, btr B7 B7.size hb8⟩

set_option linter.unusedSimpArgs false in
set_option maxHeartbeats 4000000 in
theorem low_case4 (a b c d e which n m : Int) (w : World) (hm : mayB a b c d e = true) (hl : lowI which 10 = 4) (hn : lowI n 1000 = m) (h1 : 0 ≤ m) (h2 : m < 1000) :
    Calls Try.prog 6 #[.agg #[.int .i64 a, .int .i64 b, .int .i64 c, .int .i64 d, .int .i64 e], .int .i64 which, .int .i64 n] w fun e' w' => e' = .returned (.bool true) ∧ Below w.heap.size w w' := by
  obtain ⟨k1, k2, k3, k4, k5, k6, k7, k8, k9, k10, _⟩ := may_bd hm
  have Hm := Lib.hid hm
  have hb' : mayB (a) (b) (24 - (1 + m)) (d) (e) = false := by
    simp only [mayB, within_low (x := 24 - (1 + m)) (lo := 24) (hi := 64) (by omega), Bool.false_and, Bool.and_false]
  have Hb := Lib.hid hb'
  have HL := Lib.hid hl
  have HN := Lib.hid hn
  clear hm hb' hl hn
  go_enter Try.func6, Try.ntmps6
  go_wp2_with (first
    | (go_at_call 10; refine (may_any _ _ _ _ _ _).mono ?_; rw [Hm.out]; rintro e' w1 ⟨rfl, hb1⟩; obtain ⟨hc1, hf1⟩ := bcell hb1; have hz1 : w.heap.size < w1.heap.size := by { have := hb1.size; simp at this; omega })
    | (go_at_call 23; refine (low_any _ _ _ (by omega) (by omega)).mono ?_; (first | rw [HL.out] | rw [HN.out]); rintro e' w' ⟨rfl, rfl⟩)
    | (go_at_call 10; refine (may_any _ _ _ _ _ _).mono ?_; rw [Hb.out]; rintro e' w2 ⟨rfl, hb2⟩; obtain ⟨hc2, hf2⟩ := bcell hb2; have hz2 : w.heap.size < w2.heap.size := by { have := hb2.size; (try simp at this); omega })
    | (go_at_call 12; refine (Logical_any _ _ _ _ _ _).mono ?_; rw [ifMay_no _ Hb.out]; rintro e' w3 ⟨rfl, hb3⟩; obtain ⟨hc3, hf3⟩ := bcell hb3; have hz3 : w.heap.size < w3.heap.size := by { have := hb3.size; (try simp at this); omega })
    | (go_at_call 14; refine (Raw_any _ _ _ _ _ _).mono ?_; rw [ifMay_no _ Hb.out]; rintro e' w4 ⟨rfl, hb4⟩; obtain ⟨hc4, hf4⟩ := bcell hb4; have hz4 : w.heap.size < w4.heap.size := by { have := hb4.size; (try simp at this); omega })
    | (go_at_call 16; refine (Bound_any _ _ _ _ _ _).mono ?_; rw [ifMay_no _ Hb.out]; rintro e' w5 ⟨rfl, hb5⟩; obtain ⟨hc5, hf5⟩ := bcell hb5; have hz5 : w.heap.size < w5.heap.size := by { have := hb5.size; (try simp at this); omega })
    | (go_at_call 18; refine (Slack_any _ _ _ _ _ _).mono ?_; rw [ifMay_no _ Hb.out]; rintro e' w6 ⟨rfl, hb6⟩; obtain ⟨hc6, hf6⟩ := bcell hb6; have hz6 : w.heap.size < w6.heap.size := by { have := hb6.size; (try simp at this); omega })
    | (go_at_call 20; refine (Number_any _ _ _ _ _ _ _ _).mono ?_; rw [ifMay_no _ Hb.out]; rintro e' w7 ⟨rfl, hb7⟩; obtain ⟨hc7, hf7⟩ := bcell hb7; have hz7 : w.heap.size < w7.heap.size := by { have := hb7.size; (try simp at this); omega })
    | (go_at_call 22; refine (awake_any _).mono ?_; rintro e' w8 ⟨rfl, hb8⟩))
  go_ret
  have B1 := below1 hb1
  have B2 := btr (B1.setCell (p := ⟨w.heap.size, 2, none⟩) (Nat.le_refl _) _) (by simpa using B1.size) hb2
  have B3 := btr B2 B2.size hb3
  have B4 := btr B3 B3.size hb4
  have B5 := btr B4 B4.size hb5
  have B6 := btr B5 B5.size hb6
  have B7 := btr B6 B6.size hb7
  exact ⟨rfl, btr B7 B7.size hb8⟩

set_option linter.unusedSimpArgs false in
set_option maxHeartbeats 4000000 in
theorem low_case5 (a b c d e which n m : Int) (w : World) (hm : mayB a b c d e = true) (hl : lowI which 10 = 5) (hn : lowI n 1000 = m) (h1 : 0 ≤ m) (h2 : m < 1000) :
    Calls Try.prog 6 #[.agg #[.int .i64 a, .int .i64 b, .int .i64 c, .int .i64 d, .int .i64 e], .int .i64 which, .int .i64 n] w fun e' w' => e' = .returned (.bool true) ∧ Below w.heap.size w w' := by
  obtain ⟨k1, k2, k3, k4, k5, k6, k7, k8, k9, k10, _⟩ := may_bd hm
  have Hm := Lib.hid hm
  have hb' : mayB (a) (b) (64 + (1 + m)) (d) (e) = false := by
    simp only [mayB, within_low (x := 64 + (1 + m)) (lo := 24) (hi := 64) (by omega), Bool.false_and, Bool.and_false]
  have Hb := Lib.hid hb'
  have HL := Lib.hid hl
  have HN := Lib.hid hn
  clear hm hb' hl hn
  go_enter Try.func6, Try.ntmps6
  go_wp2_with (first
    | (go_at_call 10; refine (may_any _ _ _ _ _ _).mono ?_; rw [Hm.out]; rintro e' w1 ⟨rfl, hb1⟩; obtain ⟨hc1, hf1⟩ := bcell hb1; have hz1 : w.heap.size < w1.heap.size := by { have := hb1.size; simp at this; omega })
    | (go_at_call 23; refine (low_any _ _ _ (by omega) (by omega)).mono ?_; (first | rw [HL.out] | rw [HN.out]); rintro e' w' ⟨rfl, rfl⟩)
    | (go_at_call 10; refine (may_any _ _ _ _ _ _).mono ?_; rw [Hb.out]; rintro e' w2 ⟨rfl, hb2⟩; obtain ⟨hc2, hf2⟩ := bcell hb2; have hz2 : w.heap.size < w2.heap.size := by { have := hb2.size; (try simp at this); omega })
    | (go_at_call 12; refine (Logical_any _ _ _ _ _ _).mono ?_; rw [ifMay_no _ Hb.out]; rintro e' w3 ⟨rfl, hb3⟩; obtain ⟨hc3, hf3⟩ := bcell hb3; have hz3 : w.heap.size < w3.heap.size := by { have := hb3.size; (try simp at this); omega })
    | (go_at_call 14; refine (Raw_any _ _ _ _ _ _).mono ?_; rw [ifMay_no _ Hb.out]; rintro e' w4 ⟨rfl, hb4⟩; obtain ⟨hc4, hf4⟩ := bcell hb4; have hz4 : w.heap.size < w4.heap.size := by { have := hb4.size; (try simp at this); omega })
    | (go_at_call 16; refine (Bound_any _ _ _ _ _ _).mono ?_; rw [ifMay_no _ Hb.out]; rintro e' w5 ⟨rfl, hb5⟩; obtain ⟨hc5, hf5⟩ := bcell hb5; have hz5 : w.heap.size < w5.heap.size := by { have := hb5.size; (try simp at this); omega })
    | (go_at_call 18; refine (Slack_any _ _ _ _ _ _).mono ?_; rw [ifMay_no _ Hb.out]; rintro e' w6 ⟨rfl, hb6⟩; obtain ⟨hc6, hf6⟩ := bcell hb6; have hz6 : w.heap.size < w6.heap.size := by { have := hb6.size; (try simp at this); omega })
    | (go_at_call 20; refine (Number_any _ _ _ _ _ _ _ _).mono ?_; rw [ifMay_no _ Hb.out]; rintro e' w7 ⟨rfl, hb7⟩; obtain ⟨hc7, hf7⟩ := bcell hb7; have hz7 : w.heap.size < w7.heap.size := by { have := hb7.size; (try simp at this); omega })
    | (go_at_call 22; refine (awake_any _).mono ?_; rintro e' w8 ⟨rfl, hb8⟩))
  go_ret
  have B1 := below1 hb1
  have B2 := btr (B1.setCell (p := ⟨w.heap.size, 2, none⟩) (Nat.le_refl _) _) (by simpa using B1.size) hb2
  have B3 := btr B2 B2.size hb3
  have B4 := btr B3 B3.size hb4
  have B5 := btr B4 B4.size hb5
  have B6 := btr B5 B5.size hb6
  have B7 := btr B6 B6.size hb7
  exact ⟨rfl, btr B7 B7.size hb8⟩

set_option linter.unusedSimpArgs false in
set_option maxHeartbeats 4000000 in
theorem low_case6 (a b c d e which n m : Int) (w : World) (hm : mayB a b c d e = true) (hl : lowI which 10 = 6) (hn : lowI n 1000 = m) (h1 : 0 ≤ m) (h2 : m < 1000) :
    Calls Try.prog 6 #[.agg #[.int .i64 a, .int .i64 b, .int .i64 c, .int .i64 d, .int .i64 e], .int .i64 which, .int .i64 n] w fun e' w' => e' = .returned (.bool true) ∧ Below w.heap.size w w' := by
  obtain ⟨k1, k2, k3, k4, k5, k6, k7, k8, k9, k10, _⟩ := may_bd hm
  have Hm := Lib.hid hm
  have hb' : mayB (a) (b) (c) (-(1 + m)) (e) = false := by
    simp only [mayB, within_low (x := -(1 + m)) (lo := 0) (hi := 4) (by omega), Bool.false_and, Bool.and_false]
  have Hb := Lib.hid hb'
  have HL := Lib.hid hl
  have HN := Lib.hid hn
  clear hm hb' hl hn
  go_enter Try.func6, Try.ntmps6
  go_wp2_with (first
    | (go_at_call 10; refine (may_any _ _ _ _ _ _).mono ?_; rw [Hm.out]; rintro e' w1 ⟨rfl, hb1⟩; obtain ⟨hc1, hf1⟩ := bcell hb1; have hz1 : w.heap.size < w1.heap.size := by { have := hb1.size; simp at this; omega })
    | (go_at_call 23; refine (low_any _ _ _ (by omega) (by omega)).mono ?_; (first | rw [HL.out] | rw [HN.out]); rintro e' w' ⟨rfl, rfl⟩)
    | (go_at_call 10; refine (may_any _ _ _ _ _ _).mono ?_; rw [Hb.out]; rintro e' w2 ⟨rfl, hb2⟩; obtain ⟨hc2, hf2⟩ := bcell hb2; have hz2 : w.heap.size < w2.heap.size := by { have := hb2.size; (try simp at this); omega })
    | (go_at_call 12; refine (Logical_any _ _ _ _ _ _).mono ?_; rw [ifMay_no _ Hb.out]; rintro e' w3 ⟨rfl, hb3⟩; obtain ⟨hc3, hf3⟩ := bcell hb3; have hz3 : w.heap.size < w3.heap.size := by { have := hb3.size; (try simp at this); omega })
    | (go_at_call 14; refine (Raw_any _ _ _ _ _ _).mono ?_; rw [ifMay_no _ Hb.out]; rintro e' w4 ⟨rfl, hb4⟩; obtain ⟨hc4, hf4⟩ := bcell hb4; have hz4 : w.heap.size < w4.heap.size := by { have := hb4.size; (try simp at this); omega })
    | (go_at_call 16; refine (Bound_any _ _ _ _ _ _).mono ?_; rw [ifMay_no _ Hb.out]; rintro e' w5 ⟨rfl, hb5⟩; obtain ⟨hc5, hf5⟩ := bcell hb5; have hz5 : w.heap.size < w5.heap.size := by { have := hb5.size; (try simp at this); omega })
    | (go_at_call 18; refine (Slack_any _ _ _ _ _ _).mono ?_; rw [ifMay_no _ Hb.out]; rintro e' w6 ⟨rfl, hb6⟩; obtain ⟨hc6, hf6⟩ := bcell hb6; have hz6 : w.heap.size < w6.heap.size := by { have := hb6.size; (try simp at this); omega })
    | (go_at_call 20; refine (Number_any _ _ _ _ _ _ _ _).mono ?_; rw [ifMay_no _ Hb.out]; rintro e' w7 ⟨rfl, hb7⟩; obtain ⟨hc7, hf7⟩ := bcell hb7; have hz7 : w.heap.size < w7.heap.size := by { have := hb7.size; (try simp at this); omega })
    | (go_at_call 22; refine (awake_any _).mono ?_; rintro e' w8 ⟨rfl, hb8⟩))
  go_ret
  have B1 := below1 hb1
  have B2 := btr (B1.setCell (p := ⟨w.heap.size, 3, none⟩) (Nat.le_refl _) _) (by simpa using B1.size) hb2
  have B3 := btr B2 B2.size hb3
  have B4 := btr B3 B3.size hb4
  have B5 := btr B4 B4.size hb5
  have B6 := btr B5 B5.size hb6
  have B7 := btr B6 B6.size hb7
  exact ⟨rfl, btr B7 B7.size hb8⟩

set_option linter.unusedSimpArgs false in
set_option maxHeartbeats 4000000 in
theorem low_case7 (a b c d e which n m : Int) (w : World) (hm : mayB a b c d e = true) (hl : lowI which 10 = 7) (hn : lowI n 1000 = m) (h1 : 0 ≤ m) (h2 : m < 1000) :
    Calls Try.prog 6 #[.agg #[.int .i64 a, .int .i64 b, .int .i64 c, .int .i64 d, .int .i64 e], .int .i64 which, .int .i64 n] w fun e' w' => e' = .returned (.bool true) ∧ Below w.heap.size w w' := by
  obtain ⟨k1, k2, k3, k4, k5, k6, k7, k8, k9, k10, _⟩ := may_bd hm
  have Hm := Lib.hid hm
  have hb' : mayB (a) (b) (c) (4 + (1 + m)) (e) = false := by
    simp only [mayB, within_low (x := 4 + (1 + m)) (lo := 0) (hi := 4) (by omega), Bool.false_and, Bool.and_false]
  have Hb := Lib.hid hb'
  have HL := Lib.hid hl
  have HN := Lib.hid hn
  clear hm hb' hl hn
  go_enter Try.func6, Try.ntmps6
  go_wp2_with (first
    | (go_at_call 10; refine (may_any _ _ _ _ _ _).mono ?_; rw [Hm.out]; rintro e' w1 ⟨rfl, hb1⟩; obtain ⟨hc1, hf1⟩ := bcell hb1; have hz1 : w.heap.size < w1.heap.size := by { have := hb1.size; simp at this; omega })
    | (go_at_call 23; refine (low_any _ _ _ (by omega) (by omega)).mono ?_; (first | rw [HL.out] | rw [HN.out]); rintro e' w' ⟨rfl, rfl⟩)
    | (go_at_call 10; refine (may_any _ _ _ _ _ _).mono ?_; rw [Hb.out]; rintro e' w2 ⟨rfl, hb2⟩; obtain ⟨hc2, hf2⟩ := bcell hb2; have hz2 : w.heap.size < w2.heap.size := by { have := hb2.size; (try simp at this); omega })
    | (go_at_call 12; refine (Logical_any _ _ _ _ _ _).mono ?_; rw [ifMay_no _ Hb.out]; rintro e' w3 ⟨rfl, hb3⟩; obtain ⟨hc3, hf3⟩ := bcell hb3; have hz3 : w.heap.size < w3.heap.size := by { have := hb3.size; (try simp at this); omega })
    | (go_at_call 14; refine (Raw_any _ _ _ _ _ _).mono ?_; rw [ifMay_no _ Hb.out]; rintro e' w4 ⟨rfl, hb4⟩; obtain ⟨hc4, hf4⟩ := bcell hb4; have hz4 : w.heap.size < w4.heap.size := by { have := hb4.size; (try simp at this); omega })
    | (go_at_call 16; refine (Bound_any _ _ _ _ _ _).mono ?_; rw [ifMay_no _ Hb.out]; rintro e' w5 ⟨rfl, hb5⟩; obtain ⟨hc5, hf5⟩ := bcell hb5; have hz5 : w.heap.size < w5.heap.size := by { have := hb5.size; (try simp at this); omega })
    | (go_at_call 18; refine (Slack_any _ _ _ _ _ _).mono ?_; rw [ifMay_no _ Hb.out]; rintro e' w6 ⟨rfl, hb6⟩; obtain ⟨hc6, hf6⟩ := bcell hb6; have hz6 : w.heap.size < w6.heap.size := by { have := hb6.size; (try simp at this); omega })
    | (go_at_call 20; refine (Number_any _ _ _ _ _ _ _ _).mono ?_; rw [ifMay_no _ Hb.out]; rintro e' w7 ⟨rfl, hb7⟩; obtain ⟨hc7, hf7⟩ := bcell hb7; have hz7 : w.heap.size < w7.heap.size := by { have := hb7.size; (try simp at this); omega })
    | (go_at_call 22; refine (awake_any _).mono ?_; rintro e' w8 ⟨rfl, hb8⟩))
  go_ret
  have B1 := below1 hb1
  have B2 := btr (B1.setCell (p := ⟨w.heap.size, 3, none⟩) (Nat.le_refl _) _) (by simpa using B1.size) hb2
  have B3 := btr B2 B2.size hb3
  have B4 := btr B3 B3.size hb4
  have B5 := btr B4 B4.size hb5
  have B6 := btr B5 B5.size hb6
  have B7 := btr B6 B6.size hb7
  exact ⟨rfl, btr B7 B7.size hb8⟩

set_option linter.unusedSimpArgs false in
set_option maxHeartbeats 4000000 in
theorem low_case8 (a b c d e which n m : Int) (w : World) (hm : mayB a b c d e = true) (hl : lowI which 10 = 8) (hn : lowI n 1000 = m) (h1 : 0 ≤ m) (h2 : m < 1000) :
    Calls Try.prog 6 #[.agg #[.int .i64 a, .int .i64 b, .int .i64 c, .int .i64 d, .int .i64 e], .int .i64 which, .int .i64 n] w fun e' w' => e' = .returned (.bool true) ∧ Below w.heap.size w w' := by
  obtain ⟨k1, k2, k3, k4, k5, k6, k7, k8, k9, k10, _⟩ := may_bd hm
  have Hm := Lib.hid hm
  have hb' : mayB (a) (b) (c) (d) (2 - (1 + m)) = false := by
    simp only [mayB, within_low (x := 2 - (1 + m)) (lo := 2) (hi := 20) (by omega), Bool.false_and, Bool.and_false]
  have Hb := Lib.hid hb'
  have HL := Lib.hid hl
  have HN := Lib.hid hn
  clear hm hb' hl hn
  go_enter Try.func6, Try.ntmps6
  go_wp2_with (first
    | (go_at_call 10; refine (may_any _ _ _ _ _ _).mono ?_; rw [Hm.out]; rintro e' w1 ⟨rfl, hb1⟩; obtain ⟨hc1, hf1⟩ := bcell hb1; have hz1 : w.heap.size < w1.heap.size := by { have := hb1.size; simp at this; omega })
    | (go_at_call 23; refine (low_any _ _ _ (by omega) (by omega)).mono ?_; (first | rw [HL.out] | rw [HN.out]); rintro e' w' ⟨rfl, rfl⟩)
    | (go_at_call 10; refine (may_any _ _ _ _ _ _).mono ?_; rw [Hb.out]; rintro e' w2 ⟨rfl, hb2⟩; obtain ⟨hc2, hf2⟩ := bcell hb2; have hz2 : w.heap.size < w2.heap.size := by { have := hb2.size; (try simp at this); omega })
    | (go_at_call 12; refine (Logical_any _ _ _ _ _ _).mono ?_; rw [ifMay_no _ Hb.out]; rintro e' w3 ⟨rfl, hb3⟩; obtain ⟨hc3, hf3⟩ := bcell hb3; have hz3 : w.heap.size < w3.heap.size := by { have := hb3.size; (try simp at this); omega })
    | (go_at_call 14; refine (Raw_any _ _ _ _ _ _).mono ?_; rw [ifMay_no _ Hb.out]; rintro e' w4 ⟨rfl, hb4⟩; obtain ⟨hc4, hf4⟩ := bcell hb4; have hz4 : w.heap.size < w4.heap.size := by { have := hb4.size; (try simp at this); omega })
    | (go_at_call 16; refine (Bound_any _ _ _ _ _ _).mono ?_; rw [ifMay_no _ Hb.out]; rintro e' w5 ⟨rfl, hb5⟩; obtain ⟨hc5, hf5⟩ := bcell hb5; have hz5 : w.heap.size < w5.heap.size := by { have := hb5.size; (try simp at this); omega })
    | (go_at_call 18; refine (Slack_any _ _ _ _ _ _).mono ?_; rw [ifMay_no _ Hb.out]; rintro e' w6 ⟨rfl, hb6⟩; obtain ⟨hc6, hf6⟩ := bcell hb6; have hz6 : w.heap.size < w6.heap.size := by { have := hb6.size; (try simp at this); omega })
    | (go_at_call 20; refine (Number_any _ _ _ _ _ _ _ _).mono ?_; rw [ifMay_no _ Hb.out]; rintro e' w7 ⟨rfl, hb7⟩; obtain ⟨hc7, hf7⟩ := bcell hb7; have hz7 : w.heap.size < w7.heap.size := by { have := hb7.size; (try simp at this); omega })
    | (go_at_call 22; refine (awake_any _).mono ?_; rintro e' w8 ⟨rfl, hb8⟩))
  go_ret
  have B1 := below1 hb1
  have B2 := btr (B1.setCell (p := ⟨w.heap.size, 4, none⟩) (Nat.le_refl _) _) (by simpa using B1.size) hb2
  have B3 := btr B2 B2.size hb3
  have B4 := btr B3 B3.size hb4
  have B5 := btr B4 B4.size hb5
  have B6 := btr B5 B5.size hb6
  have B7 := btr B6 B6.size hb7
  exact ⟨rfl, btr B7 B7.size hb8⟩

set_option linter.unusedSimpArgs false in
set_option maxHeartbeats 4000000 in
theorem low_case9 (a b c d e which n m : Int) (w : World) (hm : mayB a b c d e = true) (hl : lowI which 10 = 9) (hn : lowI n 1000 = m) (h1 : 0 ≤ m) (h2 : m < 1000) :
    Calls Try.prog 6 #[.agg #[.int .i64 a, .int .i64 b, .int .i64 c, .int .i64 d, .int .i64 e], .int .i64 which, .int .i64 n] w fun e' w' => e' = .returned (.bool true) ∧ Below w.heap.size w w' := by
  obtain ⟨k1, k2, k3, k4, k5, k6, k7, k8, k9, k10, _⟩ := may_bd hm
  have Hm := Lib.hid hm
  have hb' : mayB (a) (b) (c) (d) (20 + (1 + m)) = false := by
    simp only [mayB, within_low (x := 20 + (1 + m)) (lo := 2) (hi := 20) (by omega), Bool.false_and, Bool.and_false]
  have Hb := Lib.hid hb'
  have HL := Lib.hid hl
  have HN := Lib.hid hn
  clear hm hb' hl hn
  go_enter Try.func6, Try.ntmps6
  go_wp2_with (first
    | (go_at_call 10; refine (may_any _ _ _ _ _ _).mono ?_; rw [Hm.out]; rintro e' w1 ⟨rfl, hb1⟩; obtain ⟨hc1, hf1⟩ := bcell hb1; have hz1 : w.heap.size < w1.heap.size := by { have := hb1.size; simp at this; omega })
    | (go_at_call 23; refine (low_any _ _ _ (by omega) (by omega)).mono ?_; (first | rw [HL.out] | rw [HN.out]); rintro e' w' ⟨rfl, rfl⟩)
    | (go_at_call 10; refine (may_any _ _ _ _ _ _).mono ?_; rw [Hb.out]; rintro e' w2 ⟨rfl, hb2⟩; obtain ⟨hc2, hf2⟩ := bcell hb2; have hz2 : w.heap.size < w2.heap.size := by { have := hb2.size; (try simp at this); omega })
    | (go_at_call 12; refine (Logical_any _ _ _ _ _ _).mono ?_; rw [ifMay_no _ Hb.out]; rintro e' w3 ⟨rfl, hb3⟩; obtain ⟨hc3, hf3⟩ := bcell hb3; have hz3 : w.heap.size < w3.heap.size := by { have := hb3.size; (try simp at this); omega })
    | (go_at_call 14; refine (Raw_any _ _ _ _ _ _).mono ?_; rw [ifMay_no _ Hb.out]; rintro e' w4 ⟨rfl, hb4⟩; obtain ⟨hc4, hf4⟩ := bcell hb4; have hz4 : w.heap.size < w4.heap.size := by { have := hb4.size; (try simp at this); omega })
    | (go_at_call 16; refine (Bound_any _ _ _ _ _ _).mono ?_; rw [ifMay_no _ Hb.out]; rintro e' w5 ⟨rfl, hb5⟩; obtain ⟨hc5, hf5⟩ := bcell hb5; have hz5 : w.heap.size < w5.heap.size := by { have := hb5.size; (try simp at this); omega })
    | (go_at_call 18; refine (Slack_any _ _ _ _ _ _).mono ?_; rw [ifMay_no _ Hb.out]; rintro e' w6 ⟨rfl, hb6⟩; obtain ⟨hc6, hf6⟩ := bcell hb6; have hz6 : w.heap.size < w6.heap.size := by { have := hb6.size; (try simp at this); omega })
    | (go_at_call 20; refine (Number_any _ _ _ _ _ _ _ _).mono ?_; rw [ifMay_no _ Hb.out]; rintro e' w7 ⟨rfl, hb7⟩; obtain ⟨hc7, hf7⟩ := bcell hb7; have hz7 : w.heap.size < w7.heap.size := by { have := hb7.size; (try simp at this); omega })
    | (go_at_call 22; refine (awake_any _).mono ?_; rintro e' w8 ⟨rfl, hb8⟩))
  go_ret
  have B1 := below1 hb1
  have B2 := btr (B1.setCell (p := ⟨w.heap.size, 4, none⟩) (Nat.le_refl _) _) (by simpa using B1.size) hb2
  have B3 := btr B2 B2.size hb3
  have B4 := btr B3 B3.size hb4
  have B5 := btr B4 B4.size hb5
  have B6 := btr B5 B5.size hb6
  have B7 := btr B6 B6.size hb7
  exact ⟨rfl, btr B7 B7.size hb8⟩

theorem low_walk (a b c d e which n : Int) (w : World) (_ : i64in a ∧ i64in b ∧ i64in c ∧ i64in d ∧ i64in e) (_ : i64in which) (_ : i64in n) :
    Calls Try.prog 6 #[.agg #[.int .i64 a, .int .i64 b, .int .i64 c, .int .i64 d, .int .i64 e], .int .i64 which, .int .i64 n] w fun e' w' => e' = .returned (.bool true) ∧ Below w.heap.size w w' := by
  cases hm : mayB a b c d e
  · exact low_no a b c d e which n w hm
  obtain ⟨h1, h2⟩ := lowI_bd n 1000 (by omega)
  obtain ⟨k1, k2⟩ := lowI_bd which 10 (by omega)
  have hk : lowI which 10 = 0 ∨ lowI which 10 = 1 ∨ lowI which 10 = 2 ∨ lowI which 10 = 3 ∨ lowI which 10 = 4 ∨ lowI which 10 = 5 ∨ lowI which 10 = 6 ∨ lowI which 10 = 7 ∨ lowI which 10 = 8 ∨ lowI which 10 = 9 := by omega
  rcases hk with hk | hk | hk | hk | hk | hk | hk | hk | hk | hk
  · exact low_case0 a b c d e which n _ w hm hk rfl h1 h2
  · exact low_case1 a b c d e which n _ w hm hk rfl h1 h2
  · exact low_case2 a b c d e which n _ w hm hk rfl h1 h2
  · exact low_case3 a b c d e which n _ w hm hk rfl h1 h2
  · exact low_case4 a b c d e which n _ w hm hk rfl h1 h2
  · exact low_case5 a b c d e which n _ w hm hk rfl h1 h2
  · exact low_case6 a b c d e which n _ w hm hk rfl h1 h2
  · exact low_case7 a b c d e which n _ w hm hk rfl h1 h2
  · exact low_case8 a b c d e which n _ w hm hk rfl h1 h2
  · exact low_case9 a b c d e which n _ w hm hk rfl h1 h2
end Go.Proofs.Ytlkjhdacillkmaa
