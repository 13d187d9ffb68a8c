/- Contracts of package geom: Next. -/
import Derived.Test.YtlkjhdacillkmaaGeomD
namespace Go.Proofs.Ytlkjhdacillkmaa
open Go.ChangeShapes Go.WideShapes Go.ChangeAt Go.RowKit

theorem below3 {w w1 : World} {o o' o'' : Obj} (hb : Below (((w.alloc o).alloc o').alloc o'').heap.size (((w.alloc o).alloc o').alloc o'') w1) : Below w.heap.size w w1 :=
  ((((Below.refl _ _).alloc (Nat.le_refl _) _).alloc (by simp) _).alloc (by simp; omega) _).trans (hb.mono (by simp; omega))

theorem Next_yes (a b c d e x y : Int) (w : World) (hm : mayB a b c d e = true) (ht : thereB a b x y = true) (hl : x * b + y + 1 ≠ a * b) :
    Calls Try.prog 8 #[.agg #[.int .i64 a, .int .i64 b, .int .i64 c, .int .i64 d, .int .i64 e], .agg #[.int .i64 x, .int .i64 y]] w fun e' w' => e' = .returned (.tuple #[.agg #[.int .i64 ((x * b + y + 1) / b), .int .i64 ((x * b + y + 1) % b)], .bool true]) ∧ Below w.heap.size w w' := by
  obtain ⟨k1, k2, k3, k4, k7, k8, k5, k6, _⟩ := may_bd hm
  obtain ⟨t1, t2, t3, t4⟩ := there_bd ht
  obtain ⟨p1, p2⟩ := mul_bd (x := x) (y := b) (lo := 0) (hi := 19) (by omega) (by omega) k3 k4 (by omega) (by omega)
  obtain ⟨q1, q2⟩ := mul_bd (x := a) (y := b) k1 k2 k3 k4 (by omega) (by omega)
  have Hm := Lib.hid hm
  clear hm
  have hn : numberI a b x y = x * b + y := by simp [numberI, ht]
  have Hn := Lib.hid hn
  clear hn
  have Ht := Lib.hid ht
  clear ht
  have hl' : (x * b + y + 1 == a * b) = false := by simpa using hl
  go_enter Try.func8, Try.ntmps8
  go_wp2_with (first
    | (go_at_call 10; refine (may_any _ _ _ _ _ _).mono ?_; rw [Hm.out]; rintro e' w1 ⟨rfl, hb1⟩; obtain ⟨hc1, hf1⟩ := bcell hb1; have hz2 : w.heap.size + 2 < w1.heap.size := by { have := hb1.size; simp at this; omega }; have hz1 : w.heap.size + 1 < w1.heap.size := by { omega }; have hz0 : w.heap.size < w1.heap.size := by { omega })
    | (go_at_call 24; refine (there_any _ _ _ _ _ _ _ _ k1 k2 k3 k4).mono ?_; rw [Ht.out]; rintro e' w2 ⟨rfl, hb2⟩; obtain ⟨hc2, hf2⟩ := bcell hb2; have hy2 : w.heap.size + 2 < w2.heap.size := by { have := hb2.size; omega }; have hy1 : w.heap.size + 1 < w2.heap.size := by { omega }; have hy0 : w.heap.size < w2.heap.size := by { omega })
    | (go_at_call 20; refine (Number_any _ _ _ _ _ _ _ _).mono ?_; rw [ifMay_yes _ Hm.out, Hn.out]; rintro e' w3 ⟨rfl, hb3⟩; obtain ⟨hc3, hf3⟩ := bcell hb3; have hx2 : w.heap.size + 2 < w3.heap.size := by { have := hb3.size; omega }; have hx1 : w.heap.size + 1 < w3.heap.size := by { omega }; have hx0 : w.heap.size < w3.heap.size := by { omega }))
  go_region
  go_wp2
  refine bodyPost_ret (v := .tuple #[.agg #[.int .i64 ((x * b + y + 1) / b), .int .i64 ((x * b + y + 1) % b)], .bool true]) (by simp [results, Try.results8, go_sem, hc3, hc2, hc1, hy2, hz2]) rfl ⟨rfl, ?_⟩
  have B3 : Below w.heap.size w w3 := (below3 hb1).trans ((hb2.trans (hb3.mono hb2.size)).mono (by omega))
  exact ((B3.setCell (by simp; omega) _).setCell (by simp; omega) _).drew

/-- Is there a place behind this one? -/
def nextOk (a b c d e x y : Int) : Bool := mayB a b c d e && (thereB a b x y && decide (x * b + y + 1 ≠ a * b))
def nextX (a b c d e x y : Int) : Int := if nextOk a b c d e x y = true then (x * b + y + 1) / b else 0
def nextY (a b c d e x y : Int) : Int := if nextOk a b c d e x y = true then (x * b + y + 1) % b else 0

theorem Next_any (a b c d e x y : Int) (w : World) :
    Calls Try.prog 8 #[.agg #[.int .i64 a, .int .i64 b, .int .i64 c, .int .i64 d, .int .i64 e], .agg #[.int .i64 x, .int .i64 y]] w fun e' w' => e' = .returned (.tuple #[.agg #[.int .i64 (nextX a b c d e x y), .int .i64 (nextY a b c d e x y)], .bool (nextOk a b c d e x y)]) ∧ Below w.heap.size w w' := by
  by_cases hok : nextOk a b c d e x y = true
  · have hok' := hok
    simp only [nextOk, Bool.and_eq_true, decide_eq_true_eq] at hok'
    obtain ⟨hm, ht, hl⟩ := hok'
    simp only [nextX, nextY, hok, if_true]
    exact Next_yes a b c d e x y w hm ht hl
  · have hno : nextOk a b c d e x y = false := by simpa using hok
    simp only [nextX, nextY, hno, Bool.false_eq_true, if_false]
    cases hm : mayB a b c d e
    · have Hm := Lib.hid hm
      clear hm hok hno
      go_enter Try.func8, Try.ntmps8
      go_wp2_with (go_at_call 10; refine (may_any _ _ _ _ _ _).mono ?_; rw [Hm.out]; rintro e' w1 ⟨rfl, hb1⟩; obtain ⟨hc1, hf1⟩ := bcell hb1; have hz2 : w.heap.size + 2 < w1.heap.size := by { have := hb1.size; simp at this; omega })
      refine bodyPost_ret (v := .tuple #[.agg #[.int .i64 0, .int .i64 0], .bool false]) (by simp [results, Try.results8, go_sem, hc1]) rfl ⟨rfl, ?_⟩
      exact ((below3 hb1).setCell (by simp; omega) _).setCell (by simp; omega) _
    · obtain ⟨k1, k2, k3, k4, k7, k8, k5, k6, _⟩ := may_bd hm
      have Hm := Lib.hid hm
      clear hm
      cases ht : thereB a b x y
      · have Ht := Lib.hid ht
        clear ht hok hno
        go_enter Try.func8, Try.ntmps8
        go_wp2_with (first
          | (go_at_call 10; refine (may_any _ _ _ _ _ _).mono ?_; rw [Hm.out]; rintro e' w1 ⟨rfl, hb1⟩; obtain ⟨hc1, hf1⟩ := bcell hb1; have hz2 : w.heap.size + 2 < w1.heap.size := by { have := hb1.size; simp at this; omega }; have hz1 : w.heap.size + 1 < w1.heap.size := by { omega }; have hz0 : w.heap.size < w1.heap.size := by { omega })
          | (go_at_call 24; refine (there_any _ _ _ _ _ _ _ _ k1 k2 k3 k4).mono ?_; rw [Ht.out]; rintro e' w2 ⟨rfl, hb2⟩; obtain ⟨hc2, hf2⟩ := bcell hb2; have hy2 : w.heap.size + 2 < w2.heap.size := by { have := hb2.size; omega }))
        refine bodyPost_ret (v := .tuple #[.agg #[.int .i64 0, .int .i64 0], .bool false]) (by simp [results, Try.results8, go_sem, hc1, hc2, hz2]) rfl ⟨rfl, ?_⟩
        exact (((below3 hb1).trans (hb2.mono (by omega))).setCell (by simp; omega) _).setCell (by simp; omega) _
      · obtain ⟨t1, t2, t3, t4⟩ := there_bd ht
        obtain ⟨p1, p2⟩ := mul_bd (x := x) (y := b) (lo := 0) (hi := 19) (by omega) (by omega) k3 k4 (by omega) (by omega)
        obtain ⟨q1, q2⟩ := mul_bd (x := a) (y := b) k1 k2 k3 k4 (by omega) (by omega)
        have hl : x * b + y + 1 = a * b := by simpa [nextOk, Hm.out, ht] using hno
        have hn : numberI a b x y = x * b + y := by simp [numberI, ht]
        have Hn := Lib.hid hn
        have Ht := Lib.hid ht
        have hl' : (x * b + y + 1 == a * b) = true := by simpa using hl
        clear hn ht hok hno hl
        go_enter Try.func8, Try.ntmps8
        go_wp2_with (first
          | (go_at_call 10; refine (may_any _ _ _ _ _ _).mono ?_; rw [Hm.out]; rintro e' w1 ⟨rfl, hb1⟩; obtain ⟨hc1, hf1⟩ := bcell hb1; have hz2 : w.heap.size + 2 < w1.heap.size := by { have := hb1.size; simp at this; omega }; have hz1 : w.heap.size + 1 < w1.heap.size := by { omega }; have hz0 : w.heap.size < w1.heap.size := by { omega })
          | (go_at_call 24; refine (there_any _ _ _ _ _ _ _ _ k1 k2 k3 k4).mono ?_; rw [Ht.out]; rintro e' w2 ⟨rfl, hb2⟩; obtain ⟨hc2, hf2⟩ := bcell hb2; have hy2 : w.heap.size + 2 < w2.heap.size := by { have := hb2.size; omega }; have hy1 : w.heap.size + 1 < w2.heap.size := by { omega }; have hy0 : w.heap.size < w2.heap.size := by { omega })
          | (go_at_call 20; refine (Number_any _ _ _ _ _ _ _ _).mono ?_; rw [ifMay_yes _ Hm.out, Hn.out]; rintro e' w3 ⟨rfl, hb3⟩; obtain ⟨hc3, hf3⟩ := bcell hb3; have hx2 : w.heap.size + 2 < w3.heap.size := by { have := hb3.size; omega }; have hx1 : w.heap.size + 1 < w3.heap.size := by { omega }; have hx0 : w.heap.size < w3.heap.size := by { omega }))
        refine bodyPost_ret (v := .tuple #[.agg #[.int .i64 0, .int .i64 0], .bool false]) (by simp [results, Try.results8, go_sem, hc1, hc2, hc3, hz2, hy2]) rfl ⟨rfl, ?_⟩
        have B3 : Below w.heap.size w w3 := (below3 hb1).trans ((hb2.trans (hb3.mono hb2.size)).mono (by omega))
        exact (B3.setCell (by simp; omega) _).setCell (by simp; omega) _
end Go.Proofs.Ytlkjhdacillkmaa
