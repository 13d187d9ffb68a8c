/- Chapter 5's own Next tells what package geom's tells. -/
import Derived.Test.YtlkjhdacillkmaaGeomR
namespace Go.Proofs.Ytlkjhdacillkmaa
open Go.ChangeShapes Go.WideShapes Go.ChangeAt Go.RowKit

theorem rNext_any (a b c d e x y : Int) (w : World) :
    Calls Try.prog 9 #[.agg #[.int .i64 a, .int .i64 b, .int .i64 c, .int .i64 d, .int .i64 e], .agg #[.int .i64 x, .int .i64 y]] w fun e' w' => e' = .returned (.tuple #[.agg #[.int .i64 (nextX a b c d e x y), .int .i64 (nextY a b c d e x y)], .bool (nextOk a b c d e x y)]) ∧ Below w.heap.size w w' := by
  cases hq : (mayB a b c d e && thereB a b x y)
  · have hno : nextOk a b c d e x y = false := by rw [nextOk, ← Bool.and_assoc, hq, Bool.false_and]
    simp only [nextX, nextY, hno, Bool.false_eq_true, if_false]
    have Hq := Lib.hid hq
    clear hq hno
    go_enter Try.func9, Try.ntmps9
    go_wp2_with (go_at_call 25; refine (rThere_any _ _ _ _ _ _ _ _).mono ?_; rw [Hq.out]; rintro e' w1 ⟨rfl, hb1⟩; obtain ⟨hc1, hf1⟩ := bcell hb1; have hz2 : w.heap.size + 2 < w1.heap.size := by { have := hb1.size; simp at this; omega }; have hz1 : w.heap.size + 1 < w1.heap.size := by { omega }; have hz0 : w.heap.size < w1.heap.size := by { omega })
    refine bodyPost_ret (v := .tuple #[.agg #[.int .i64 0, .int .i64 0], .bool false]) (by simp [results, Try.results9, go_sem, hc1]) rfl ⟨rfl, ?_⟩
    exact ((below3 hb1).setCell (by simp; omega) _).setCell (by simp; omega) _
  · have hq' := hq
    rw [Bool.and_eq_true] at hq'
    obtain ⟨hm, ht⟩ := hq'
    obtain ⟨k1, k2, k3, k4, k7, k8, k5, k6, _⟩ := may_bd hm
    obtain ⟨t1, t2, t3, t4⟩ := there_bd ht
    obtain ⟨p1, p2⟩ := mul_bd (x := x) (y := b) (lo := 0) (hi := 19) (by omega) (by omega) k3 k4 (by omega) (by omega)
    have hiff := last_iff (a := a) (b := b) (x := x) (y := y) t1 t2 t3 t4 (by omega)
    by_cases hl : x * b + y + 1 = a * b
    · have hno : nextOk a b c d e x y = false := by simp [nextOk, hl]
      simp only [nextX, nextY, hno, Bool.false_eq_true, if_false]
      obtain ⟨rfl, rfl⟩ := hiff.1 hl
      have e1 : (a - 1 == a - 1) = true := by simp
      have e2 : (b - 1 == b - 1) = true := by simp
      have Hq := Lib.hid hq
      clear hq hno hm ht hl hiff
      go_enter Try.func9, Try.ntmps9
      go_wp2_with (go_at_call 25; refine (rThere_any _ _ _ _ _ _ _ _).mono ?_; rw [Hq.out]; rintro e' w1 ⟨rfl, hb1⟩; obtain ⟨hc1, hf1⟩ := bcell hb1; have hz2 : w.heap.size + 2 < w1.heap.size := by { have := hb1.size; simp at this; omega }; have hz1 : w.heap.size + 1 < w1.heap.size := by { omega }; have hz0 : w.heap.size < w1.heap.size := by { omega })
      refine bodyPost_ret (v := .tuple #[.agg #[.int .i64 0, .int .i64 0], .bool false]) (by simp [results, Try.results9, go_sem, hc1]) rfl ⟨rfl, ?_⟩
      exact ((below3 hb1).setCell (by simp; omega) _).setCell (by simp; omega) _
    · have hok : nextOk a b c d e x y = true := by simp [nextOk, hm, ht, hl]
      simp only [nextX, nextY, hok, if_true]
      have hn : ¬ (x = a - 1 ∧ y = b - 1) := fun h => hl (hiff.2 h)
      have Hq := Lib.hid hq
      have Hn := Lib.hid hn
      clear hq hok hm ht hl hiff hn
      by_cases hx : x = a - 1
      · have hy : (y == b - 1) = false := by have := Hn.out; rw [beq_eq_false_iff_ne]; omega
        have hx' : (x == a - 1) = true := by simpa using hx
        clear hx
        go_enter Try.func9, Try.ntmps9
        go_wp2_with (go_at_call 25; refine (rThere_any _ _ _ _ _ _ _ _).mono ?_; rw [Hq.out]; rintro e' w1 ⟨rfl, hb1⟩; obtain ⟨hc1, hf1⟩ := bcell hb1; have hz2 : w.heap.size + 2 < w1.heap.size := by { have := hb1.size; simp at this; omega }; have hz1 : w.heap.size + 1 < w1.heap.size := by { omega }; have hz0 : w.heap.size < w1.heap.size := by { omega })
        go_region
        go_wp2
        refine bodyPost_ret (v := .tuple #[.agg #[.int .i64 ((x * b + y + 1) / b), .int .i64 ((x * b + y + 1) % b)], .bool true]) (by simp [results, Try.results9, go_sem, hc1]) rfl ⟨rfl, ?_⟩
        exact (((below3 hb1).setCell (by simp; omega) _).setCell (by simp; omega) _).drew
      · have hx' : (x == a - 1) = false := by simpa using hx
        clear hx
        go_enter Try.func9, Try.ntmps9
        go_wp2_with (go_at_call 25; refine (rThere_any _ _ _ _ _ _ _ _).mono ?_; rw [Hq.out]; rintro e' w1 ⟨rfl, hb1⟩; obtain ⟨hc1, hf1⟩ := bcell hb1; have hz2 : w.heap.size + 2 < w1.heap.size := by { have := hb1.size; simp at this; omega }; have hz1 : w.heap.size + 1 < w1.heap.size := by { omega }; have hz0 : w.heap.size < w1.heap.size := by { omega })
        go_region
        go_wp2
        refine bodyPost_ret (v := .tuple #[.agg #[.int .i64 ((x * b + y + 1) / b), .int .i64 ((x * b + y + 1) % b)], .bool true]) (by simp [results, Try.results9, go_sem, hc1]) rfl ⟨rfl, ?_⟩
        exact (((below3 hb1).setCell (by simp; omega) _).setCell (by simp; omega) _).drew
end Go.Proofs.Ytlkjhdacillkmaa
