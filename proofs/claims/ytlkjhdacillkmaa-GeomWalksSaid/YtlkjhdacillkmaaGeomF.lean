/- The laws' own small calls: small, awake. -/
import Derived.Test.YtlkjhdacillkmaaGeomE
import Derived.Deep.RegionHeld3
import Derived.Deep.DrawnRows
namespace Go.Proofs.Ytlkjhdacillkmaa
open Go.ChangeShapes Go.WideShapes Go.ChangeAt Go.RowKit
attribute [local go_sem ↓] Go.wp_at_zero Go.wp_at_succ

theorem small_any (w : World) :
    Calls Try.prog 30 #[] w fun e' w' => e' = .returned (.agg #[.int .i64 8, .int .i64 4, .int .i64 32, .int .i64 0, .int .i64 2]) ∧ Below w.heap.size w w' := by
  go_enter Try.func30, Try.ntmps30
  go_wp2
  refine bodyPost_ret (v := .agg #[.int .i64 8, .int .i64 4, .int .i64 32, .int .i64 0, .int .i64 2]) (by simp [results, Try.results30, go_sem]) rfl ⟨rfl, ?_⟩
  exact (Below.refl _ _).alloc (Nat.le_refl _) _

theorem small_may : mayB 8 4 32 0 2 = true := by decide
theorem small_next : nextOk 8 4 32 0 2 1 3 = true := by decide
theorem small_nx : nextX 8 4 32 0 2 1 3 = 2 := by decide
theorem small_ny : nextY 8 4 32 0 2 1 3 = 0 := by decide
theorem small_log : ifMay 8 4 32 0 2 (logicalI 8 4 0) = 8 := by decide
theorem small_raw : ifMay 8 4 32 0 2 (32 + 16) = 48 := by decide
theorem small_num : ifMay 8 4 32 0 2 (numberI 8 4 2 0) = 8 := by decide
theorem small_num' : ifMay 8 4 32 0 2 (numberI 8 4 8 0) = -1 := by decide

theorem btr {B : Nat} {a b c : World} (h : Below B a b) (hB : B ≤ b.heap.size) (k : Below b.heap.size b c) : Below B a c := h.trans (k.mono hB)

theorem kept_step {w W w' w'' : World} (h : Below w.heap.size w w' ∧ W.heap.size ≤ w'.heap.size ∧ ∀ b o, b < W.heap.size → w'.cell? ⟨b, o, none⟩ = W.cell? ⟨b, o, none⟩) (hb : Below w'.heap.size w' w'') :
    Below w.heap.size w w'' ∧ W.heap.size ≤ w''.heap.size ∧ ∀ b o, b < W.heap.size → w''.cell? ⟨b, o, none⟩ = W.cell? ⟨b, o, none⟩ :=
  ⟨btr h.1 h.1.size hb, Nat.le_trans h.2.1 hb.size, fun b o hk => (hb.cell (p := ⟨b, o, none⟩) (Nat.lt_of_lt_of_le hk h.2.1)).trans (h.2.2 b o hk)⟩

set_option maxHeartbeats 4000000 in
theorem awake_any (w : World) :
    Calls Try.prog 22 #[] w fun e' w' => e' = .returned (.bool true) ∧ Below w.heap.size w w' := by
  go_enter Try.func22, Try.ntmps22
  go_wp2_with (first
    | (go_at_call 30; refine (small_any _).mono ?_; rintro e' w1 ⟨rfl, hb1⟩)
    | (go_at_call 8; refine (Next_any _ _ _ _ _ _ _ _).mono ?_; rw [small_next, small_nx, small_ny]; rintro e' w2 ⟨rfl, hb2⟩))
  have hB2 : Below w.heap.size w w2 := btr hb1 hb1.size hb2
  have hz2 : w.heap.size ≤ w2.heap.size := hB2.size
  clear hb1 hb2
  go_region_held3 (fun w' => Below w.heap.size w w' ∧ (w2.alloc (.cells #[.int .i64 2, .int .i64 0] 25)).heap.size ≤ w'.heap.size ∧ ∀ b o, b < (w2.alloc (.cells #[.int .i64 2, .int .i64 0] 25)).heap.size → w'.cell? ⟨b, o, none⟩ = (w2.alloc (.cells #[.int .i64 2, .int .i64 0] 25)).cell? ⟨b, o, none⟩)
    (first | exact ⟨(hB2.alloc hz2 _).drew, by simp, by simp⟩ | exact kept_step (by assumption) hb3 | exact kept_step (by assumption) hb4 | fail)
    (first
      | (go_at_call 30; refine (small_any _).mono ?_; rintro e' w3 ⟨rfl, hb3⟩)
      | (go_at_call 10; refine (may_any _ _ _ _ _ _).mono ?_; rw [small_may]; rintro e' w3 ⟨rfl, hb3⟩)
      | (go_at_call 12; refine (Logical_any _ _ _ _ _ _).mono ?_; rw [small_log]; rintro e' w3 ⟨rfl, hb3⟩)
      | (go_at_call 14; refine (Raw_any _ _ _ _ _ _).mono ?_; rw [small_raw]; rintro e' w3 ⟨rfl, hb3⟩)
      | (go_at_call 20; refine (Number_any _ _ _ _ _ _ _ _).mono ?_; (first | rw [small_num] | rw [small_num']); rintro e' w3 ⟨rfl, hb3⟩))
  go_wp2
  go_ret
  rename_i hH
  exact ⟨rfl, hH.1⟩
end Go.Proofs.Ytlkjhdacillkmaa
