/- GeomTells: whatever geometry and place come in, package geom tells what chapter 5's own answer tells. -/
import Derived.Test.YtlkjhdacillkmaaGeomR2
import Derived.Test.YtlkjhdacillkmaaGeomF
namespace Go.Proofs.Ytlkjhdacillkmaa
open Go.ChangeShapes Go.WideShapes Go.ChangeAt Go.RowKit
attribute [local go_sem ↓] Go.wp_at_zero Go.wp_at_succ

set_option maxHeartbeats 8000000 in
theorem tells_walk (a b c d e x y : Int) (w : World) :
    Calls Try.prog 3 #[.agg #[.int .i64 a, .int .i64 b, .int .i64 c, .int .i64 d, .int .i64 e], .agg #[.int .i64 x, .int .i64 y]] w fun e' w' => e' = .returned (.bool true) ∧ Below w.heap.size w w' := by
  go_enter Try.func3, Try.ntmps3
  go_wp2_with (first
    | (go_at_call 8; refine (Next_any _ _ _ _ _ _ _ _).mono ?_; rintro e' w1 ⟨rfl, hb1⟩; obtain ⟨hc1, hf1⟩ := bcell hb1; have hz1 : w.heap.size + 1 < w1.heap.size := by { have := hb1.size; simp at this; omega }; have hz0 : w.heap.size < w1.heap.size := by { omega })
    | (go_at_call 9; refine (rNext_any _ _ _ _ _ _ _ _).mono ?_; rintro e' w2 ⟨rfl, hb2⟩; obtain ⟨hc2, hf2⟩ := bcell hb2; have hy2 : w1.heap.size < w2.heap.size := by { have := hb2.size; simp at this; omega }; have hy1 : w.heap.size + 1 < w2.heap.size := by { omega }; have hy0 : w.heap.size < w2.heap.size := by { omega }))
  have hB1 : Below w.heap.size w w1 := below2 hb1
  have hB2 : Below w.heap.size w w2 := (hB1.alloc hB1.size _).trans (hb2.mono (by simp; omega))
  have hz2 : w.heap.size ≤ w2.heap.size := hB2.size
  clear hb1 hb2 hf1 hf2
  go_region_held3 (fun w' => Below w.heap.size w w' ∧ (w2.alloc (.cells #[.int .i64 (nextX a b c d e x y), .int .i64 (nextY a b c d e x y)] 25)).heap.size ≤ w'.heap.size ∧ ∀ (k o : Nat), k < (w2.alloc (.cells #[.int .i64 (nextX a b c d e x y), .int .i64 (nextY a b c d e x y)] 25)).heap.size → w'.cell? ⟨k, o, none⟩ = (w2.alloc (.cells #[.int .i64 (nextX a b c d e x y), .int .i64 (nextY a b c d e x y)] 25)).cell? ⟨k, o, none⟩)
    (first | exact ⟨(hB2.alloc hz2 _).drew, by simp, by simp⟩ | exact kept_step (by assumption) hb3 | fail)
    (first
      | (go_at_call 10; refine (may_any _ _ _ _ _ _).mono ?_; rintro e' w3 ⟨rfl, hb3⟩)
      | (go_at_call 11; refine (rmay_any _ _ _ _ _ _).mono ?_; rintro e' w3 ⟨rfl, hb3⟩)
      | (go_at_call 12; refine (Logical_any _ _ _ _ _ _).mono ?_; rintro e' w3 ⟨rfl, hb3⟩)
      | (go_at_call 13; refine (rLogical_any _ _ _ _ _ _).mono ?_; rintro e' w3 ⟨rfl, hb3⟩)
      | (go_at_call 14; refine (Raw_any _ _ _ _ _ _).mono ?_; rintro e' w3 ⟨rfl, hb3⟩)
      | (go_at_call 15; refine (rRaw_any _ _ _ _ _ _).mono ?_; rintro e' w3 ⟨rfl, hb3⟩)
      | (go_at_call 16; refine (Bound_any _ _ _ _ _ _).mono ?_; rintro e' w3 ⟨rfl, hb3⟩)
      | (go_at_call 17; refine (rBound_any _ _ _ _ _ _).mono ?_; rintro e' w3 ⟨rfl, hb3⟩)
      | (go_at_call 18; refine (Slack_any _ _ _ _ _ _).mono ?_; rintro e' w3 ⟨rfl, hb3⟩)
      | (go_at_call 19; refine (rSlack_any _ _ _ _ _ _).mono ?_; rintro e' w3 ⟨rfl, hb3⟩)
      | (go_at_call 20; refine (Number_any _ _ _ _ _ _ _ _).mono ?_; rintro e' w3 ⟨rfl, hb3⟩)
      | (go_at_call 21; refine (rNumber_any _ _ _ _ _ _ _ _).mono ?_; rintro e' w3 ⟨rfl, hb3⟩)
      | (go_at_call 22; refine (awake_any _).mono ?_; rintro e' w3 ⟨rfl, hb3⟩))
  go_wp2
  go_ret
  rename_i hH
  exact ⟨rfl, hH.1⟩
end Go.Proofs.Ytlkjhdacillkmaa
