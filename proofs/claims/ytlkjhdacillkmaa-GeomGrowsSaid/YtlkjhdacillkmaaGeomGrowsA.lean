/- GeomGrows: what one block, one page, one spare block more do to the number of logical pages. -/
import Derived.Test.YtlkjhdacillkmaaGeomF
import Derived.Test.YtlkjhdacillkmaaOpen
import Derived.Deep.DeepCutAuto
namespace Go.Proofs.Ytlkjhdacillkmaa
open Go.ChangeShapes Go.WideShapes Go.ChangeAt Go.RowKit
attribute [local go_sem ↓] Go.wp_at_zero Go.wp_at_succ

def Geo5 (w : World) (g : Nat) (a b c d e : Int) : Prop := w.heap[g]? = some (.cells #[.int .i64 a, .int .i64 b, .int .i64 c, .int .i64 d, .int .i64 e] 23 (0, 0))

theorem geo_cells {w : World} {g : Nat} {a b c d e : Int} (h : Geo5 w g a b c d e) : w.cell? ⟨g, 0, none⟩ = some (.int .i64 a) ∧ w.cell? ⟨g, 1, none⟩ = some (.int .i64 b) ∧ w.cell? ⟨g, 2, none⟩ = some (.int .i64 c) ∧ w.cell? ⟨g, 3, none⟩ = some (.int .i64 d) ∧ w.cell? ⟨g, 4, none⟩ = some (.int .i64 e) := by
  unfold Geo5 at h
  simp [World.cell?, h]

theorem geo_lt {w : World} {g : Nat} {a b c d e : Int} (h : Geo5 w g a b c d e) : g < w.heap.size := by
  rcases Nat.lt_or_ge g w.heap.size with hl | hl
  · exact hl
  · unfold Geo5 at h
    rw [Array.getElem?_eq_none hl] at h
    cases h

theorem geo_free {w : World} {g : Nat} {a b c d e : Int} (h : Geo5 w g a b c d e) : ∀ i, w.frozen? ⟨g, i, none⟩ = false := by
  unfold Geo5 at h
  intro i
  simp [World.frozen?, h]

/-- Three blocks of the call's own, each a copy of the geometry. -/
def Fresh4 (w wx : World) (g3 g4 g5 : Nat) (a b c d e : Int) : Prop :=
  w.heap.size < g3 ∧ w.heap.size < g4 ∧ w.heap.size < g5 ∧ g3 ≠ g4 ∧ g3 ≠ g5 ∧ g4 ≠ g5 ∧ Geo5 wx w.heap.size a b c d e ∧ Geo5 wx g3 a b c d e ∧ Geo5 wx g4 a b c d e ∧ Geo5 wx g5 a b c d e
theorem grows_no (a b c d e : Int) (w : World) (hm : mayB a b c d e = false) :
    Calls Try.prog 5 #[.agg #[.int .i64 a, .int .i64 b, .int .i64 c, .int .i64 d, .int .i64 e]] w fun e' w' => e' = .returned (.bool true) ∧ Below w.heap.size w w' := by
  have Hm := Lib.hid hm
  clear hm
  go_enter Try.func5, Try.ntmps5
  go_wp2_with (first
    | (go_at_call 10; refine (may_any _ _ _ _ _ _).mono ?_; rw [Hm.out]; rintro e' w1 ⟨rfl, hb1⟩)
    | (go_at_call 22; refine (awake_any _).mono ?_; rintro e' w2 ⟨rfl, hb2⟩))
  go_ret
  exact ⟨rfl, btr (below1 hb1) (below1 hb1).size hb2⟩


theorem grow_a {a b d : Int} (h2 : 4 ≤ b) : logicalI a b d ≤ logicalI (a + 1) b d := by
  unfold logicalI
  have e : (a + 1 - d - 3) * b = (a - d - 3) * b + b := by
    rw [show a + 1 - d - 3 = (a - d - 3) + 1 from by omega, Int.add_mul, Int.one_mul]
  rw [e]
  omega

theorem grow_b {a b d : Int} (h1 : 8 ≤ a) (h2 : d ≤ 4) : logicalI a b d ≤ logicalI a (b + 1) d := by
  unfold logicalI
  have e : (a - d - 3) * (b + 1) = (a - d - 3) * b + (a - d - 3) := by
    rw [Int.mul_add, Int.mul_one]
  rw [e]
  omega

theorem grow_c {a b d : Int} (h2 : 4 ≤ b) : logicalI a b (d + 1) ≤ logicalI a b d := by
  unfold logicalI
  have e : (a - (d + 1) - 3) * b = (a - d - 3) * b - b := by
    rw [show a - (d + 1) - 3 = (a - d - 3) - 1 from by omega, Int.sub_mul, Int.one_mul]
  rw [e]
  omega

theorem grow_bound {a b : Int} (h1 : 8 ≤ a) (h2 : 4 ≤ b) : 60 * a * a * b < 60 * (a + 1) * (a + 1) * b := by
  have h3 : 60 * a * a < 60 * (a + 1) * (a + 1) := by
    have e : 60 * (a + 1) * (a + 1) = 60 * a * a + 120 * a + 60 := by
      rw [Int.mul_add (60 * (a + 1)), Int.mul_add 60, Int.add_mul (60 * a)]
      omega
    omega
  exact Int.mul_lt_mul_of_pos_right h3 (by omega)

theorem grow_n {x b n : Int} (h : n = (x * b - 4) / 2) : 2 * n + 4 ≤ x * b ∧ x * b < 2 * n + 6 := by
  omega

theorem fresh3 (w : World) (X : Obj) : let W := (((w.alloc X).alloc X).alloc X).drew
    W.heap[w.heap.size]? = some X ∧ W.heap[w.heap.size + 1]? = some X ∧ W.heap[w.heap.size + 1 + 1]? = some X ∧ ∀ k, k < w.heap.size → W.heap[k]? = w.heap[k]? := by
  intro W
  have e : W.heap = ((w.heap.push X).push X).push X := rfl
  rw [e]
  refine ⟨?_, ?_, ?_, fun k hk => ?_⟩
  · rw [Array.getElem?_push, if_neg (by simp; omega), Array.getElem?_push, if_neg (by simp), Array.getElem?_push, if_pos rfl]
  · rw [Array.getElem?_push, if_neg (by simp), Array.getElem?_push, if_pos (by simp)]
  · rw [Array.getElem?_push, if_pos (by simp)]
  · rw [Array.getElem?_push, Array.getElem?_push, Array.getElem?_push]
    simp only [Array.size_push]
    rw [if_neg (by omega), if_neg (by omega), if_neg (by omega)]

end Go.Proofs.Ytlkjhdacillkmaa
