/- awake of stage 1. -/
import Derived.Test.YtngemngnboblkaaFlC
namespace Go.Proofs.Ytngemngnboblkaa
open Go.ChangeShapes Go.WideShapes Go.ChangeAt Go.RowKit
set_option linter.unusedSimpArgs false
set_option linter.unusedVariables false

theorem k_3 : F (3) = 4613937818241073152 := by decide +kernel
theorem k_4 : F (4) = 4616189618054758400 := by decide +kernel
theorem k_1 : F (1) = 4607182418800017408 := by decide +kernel
theorem k_m4 : F (-4) = 13839561654909534208 := by decide +kernel
theorem k_40000 : F (40000) = 4675730371722084352 := by decide +kernel
theorem k_m1 : F (-1) = 13830554455654793216 := by decide +kernel
theorem k_2 : F (2) = 4611686018427387904 := by decide +kernel
theorem k_0 : F (0) = 0 := by decide +kernel
theorem k_5 : F (5) = 4617315517961601024 := by decide +kernel
theorem turn_a (w : World) : Calls Try.prog 9 #[.complex .f64 4613937818241073152 4616189618054758400, .complex .f64 0 4607182418800017408] w fun e' w' => e' = .returned (.tuple #[.complex .f64 13839561654909534208 4613937818241073152, .bool true]) ∧ w = w' := by
  have := turn_yes 3 4 0 1 w (by decide) (by decide) (by decide) (by decide) (by decide) (by decide)
  rw [show (3 * 0 - 4 * 1 : Int) = -4 by decide, show (3 * 1 + 4 * 0 : Int) = 3 by decide, k_3, k_4, k_0, k_1, k_m4] at this
  exact this
theorem turn_b (w : World) : Calls Try.prog 9 #[.complex .f64 4675730371722084352 0, .complex .f64 4607182418800017408 0] w fun e' w' => e' = .returned (.tuple #[.complex .f64 0 0, .bool false]) ∧ w = w' := by
  have := turn_no 40000 0 1 0 w (by unfold Sm; decide) (by unfold Sm; decide) (by decide)
  rw [k_40000, k_0, k_1] at this
  exact this
theorem may_a (w : World) : Calls Try.prog 17 #[.complex .f64 4613937818241073152 0] w fun e' w' => e' = .returned (.bool true) ∧ w = w' := by
  have := may_any 3 0 w (by unfold Sm; decide) (by unfold Sm; decide)
  rw [k_3, k_0, show (mayZ 3 && mayZ 0) = true by decide] at this
  exact this
theorem len_a (w : World) : Calls Try.prog 10 #[.complex .f64 0 0, .complex .f64 4613937818241073152 4616189618054758400] w fun e' w' => e' = .returned (.float .f64 4617315517961601024) ∧ w = w' := by
  have := len_any 0 0 3 4 w (by decide) (by decide) (by decide) (by decide)
  rw [k_3, k_0, k_4, show SQ (far 0 0 3 4) = 4617315517961601024 by decide +kernel] at this
  exact this
theorem box_a (A : Option Addr) (cap : Nat) (w : World) (hs : Sl w w.heap.size A [.complex .f64 4613937818241073152 13839561654909534208, .complex .f64 13830554455654793216 4611686018427387904]) : Calls Try.prog 14 #[.slice A 2 cap] w fun e' w' => e' = .returned (.tuple #[.complex .f64 13830554455654793216 13839561654909534208, .complex .f64 4613937818241073152 4611686018427387904, .bool true]) ∧ Below w.heap.size w w' := by
  have e : ([(3, -4), (-1, 2)] : List (Int × Int)).map cV = [.complex .f64 4613937818241073152 13839561654909534208, .complex .f64 13830554455654793216 4611686018427387904] := by
    show [cV (3, -4), cV (-1, 2)] = _
    unfold cV
    dsimp only
    rw [k_3, k_m4, k_m1, k_2]
  have hok : PtsOk [(3, -4), (-1, 2)] := by
    intro p hp
    simp only [List.mem_cons, List.not_mem_nil, or_false] at hp
    rcases hp with rfl | rfl <;> decide
  have := box_any [(3, -4), (-1, 2)] A cap w (by rw [e]; exact hs) hok (by decide) (by decide)
  have e1 : cV (loF [(3, -4), (-1, 2)] [((3 : Int), (-4 : Int)), (-1, 2)].length) = .complex .f64 13830554455654793216 13839561654909534208 := by
    show cV (-1, -4) = _
    unfold cV
    dsimp only
    rw [k_m1, k_m4]
  have e2 : cV (hiF [(3, -4), (-1, 2)] [((3 : Int), (-4 : Int)), (-1, 2)].length) = .complex .f64 4613937818241073152 4611686018427387904 := by
    show cV (3, 2) = _
    unfold cV
    dsimp only
    rw [k_3, k_2]
  rw [e1, e2] at this
  exact this
set_option maxRecDepth 100000 in
theorem awake_any (w : World) : Calls Try.prog 12 #[] w fun e' w' => e' = .returned (.bool true) ∧ Below w.heap.size w w' := by
  have o0 : (FloatKind.f64.format.order 13839561654909534208 13839561654909534208 == some .eq) = true := by decide +kernel
  have o1 : (FloatKind.f64.format.order 4613937818241073152 4613937818241073152 == some .eq) = true := by decide +kernel
  have o2 : (FloatKind.f64.format.order 13830554455654793216 13830554455654793216 == some .eq) = true := by decide +kernel
  have o3 : (FloatKind.f64.format.order 4611686018427387904 4611686018427387904 == some .eq) = true := by decide +kernel
  have o4 : (FloatKind.f64.format.order 4617315517961601024 4617315517961601024 == some .eq) = true := by decide +kernel
  have HB : Below w.heap.size w w := Below.refl _ _
  go_enter Try.func12, Try.ntmps12
  go_upto_region 3 with (first
    | (go_at_call 9; ((with_reducible refine (turn_a _).mono ?_); rintro e' wN ⟨rfl, rfl⟩; skip))
    | (go_at_call 9; ((with_reducible refine (turn_b _).mono ?_); rintro e' wN ⟨rfl, rfl⟩; skip)))
  have G := Blk.new_ w 22 #[.complex .f64 4613937818241073152 13839561654909534208, .complex .f64 13830554455654793216 4611686018427387904]
  have HBA : Below w.heap.size w (w.alloc (.cells #[.complex .f64 4613937818241073152 13839561654909534208, .complex .f64 13830554455654793216 4611686018427387904] 22)) := (Below.refl _ _).alloc (Nat.le_refl _) _
  have HSL : Sl (w.alloc (.cells #[.complex .f64 4613937818241073152 13839561654909534208, .complex .f64 13830554455654793216 4611686018427387904] 22)) (w.alloc (.cells #[.complex .f64 4613937818241073152 13839561654909534208, .complex .f64 13830554455654793216 4611686018427387904] 22)).heap.size (some ⟨w.heap.size, 0, none⟩) [.complex .f64 4613937818241073152 13839561654909534208, .complex .f64 13830554455654793216 4611686018427387904] := by
    refine Or.inr ⟨w.heap.size, 0, rfl, G.lt, fun k u hu => ?_⟩
    rw [Nat.zero_add, G.cell_ k]
    simpa using hu
  go_upto_region 4 with (first
    | (go_at_call 14; ((with_reducible refine (box_a _ _ _ HSL).mono ?_); rintro e' wN ⟨rfl, hb⟩; replace HB := btr HBA HBA.size hb)))
  go_wp2_with (first
    | (go_at_call 17; ((with_reducible refine (may_a _).mono ?_); rintro e' wN ⟨rfl, rfl⟩; skip))
    | (go_at_call 10; ((with_reducible refine (len_a _).mono ?_); rintro e' wN ⟨rfl, rfl⟩; skip)))
  go_ret
  exact ⟨rfl, HB⟩
end Go.Proofs.Ytngemngnboblkaa
