/- awake. -/
import Derived.Test.YtnbiioighjdkjaaDoorRaH
namespace Go.Proofs.YtnbiioighjdkjaaDoor
open Go.ChangeShapes Go.WideShapes Go.ChangeAt Go.RowKit
set_option linter.unusedSimpArgs false
set_option linter.unusedVariables false

theorem k_3 : F 3 = 4613937818241073152 := by decide +kernel
theorem k_2 : F 2 = 4611686018427387904 := by decide +kernel
theorem k_1 : F 1 = 4607182418800017408 := by decide +kernel
theorem sl_row {w : World} {g : Nat} {t : TypeId} {xs : List Value} (h : RowT w g t xs) : Sl w w.heap.size (some ⟨g, 0, none⟩) xs := Or.inr ⟨g, 0, rfl, h.lt, fun k v hk => by rw [Nat.zero_add]; exact h.cell_ hk⟩
theorem dots_aw (w : World) : Calls Tryd.prog 14 #[.complex .f64 0 0, .complex .f64 4613937818241073152 4607182418800017408] w fun e' w' => (∃ g c, e' = .returned (.tuple #[.slice (some ⟨g, 0, none⟩) 4 c, .bool true]) ∧ RowT w' g 35 [.complex .f64 0 0, .complex .f64 4607182418800017408 0, .complex .f64 4611686018427387904 4607182418800017408, .complex .f64 4613937818241073152 4607182418800017408] ∧ w.heap.size ≤ g) ∧ Below w.heap.size w w' := by
  have h := dots_yes 0 0 3 1 3 w (by decide) (by decide) (by decide) (by decide) (by decide) (by decide)
  have e : (dotsL (0, 0) (3, 1)).map cV = [cV (0, 0), cV (1, 0), cV (2, 1), cV (3, 1)] := by
    have : dotsL (0, 0) (3, 1) = [(0, 0), (1, 0), (2, 1), (3, 1)] := by decide +kernel
    rw [this]
    rfl
  rw [e] at h
  unfold cV at h
  dsimp only at h
  rw [k_3, k_2, k_1, show F 0 = 0 from rfl] at h
  exact h
theorem one_b (w : World) : Calls Tryd.prog 16 #[] w fun e' w' => (∃ gs gp, e' = .returned (.slice (some ⟨gs, 0, none⟩) 1 1) ∧ Blk w' gs 55 #[.int .i64 1, .int .i64 2, .slice (some ⟨gp, 0, none⟩) 1 1] ∧ RowT w' gp 35 [cV (3, 2)]) ∧ Below w.heap.size w w' := by
  have e : cV (3, 2) = .complex .f64 4613937818241073152 4611686018427387904 := by unfold cV; dsimp only; rw [k_3, k_2]
  rw [e]
  clear e
  go_enter Tryd.func16, Tryd.ntmps16
  go_wp2
  go_ret
  have hz : (w.alloc (.cells #[.complex .f64 4613937818241073152 4611686018427387904] 35)).heap.size = w.heap.size + 1 := by simp
  have hb := Blk.new_ (w.alloc (.cells #[.complex .f64 4613937818241073152 4611686018427387904] 35)) 55 #[.int .i64 1, .int .i64 2, .slice (some ⟨w.heap.size, 0, none⟩) 1 1]
  rw [hz] at hb
  exact ⟨⟨w.heap.size + 1, w.heap.size, rfl, hb, RowT.of_blk (xs := [.complex .f64 4613937818241073152 4611686018427387904]) ((Blk.new_ w 35 #[.complex .f64 4613937818241073152 4611686018427387904]).alloc_ _)⟩, ((Below.refl _ _).alloc (Nat.le_refl _) _).alloc (by simp) _⟩
theorem draw_aw (gs gp : Nat) (w : World) (hS : Blk w gs 55 #[.int .i64 1, .int .i64 2, .slice (some ⟨gp, 0, none⟩) 1 1]) (hP : RowT w gp 35 [cV (3, 2)]) : Calls Tryd.prog 15 #[.slice (some ⟨gs, 0, none⟩) 1 1, .complex .f64 0 0, .int .i64 1, .int .i64 8, .int .i64 5] w fun e' w' => (∃ gr, e' = .returned (.tuple #[.slice (some ⟨gr, 0, none⟩) 5 5, .int .i64 0]) ∧ RowT w' gr 29 awR ∧ w.heap.size ≤ gr) ∧ Below w.heap.size w w' := by
  have h := draw_1 1 2 0 0 (some ⟨gp, 0, none⟩) 1 1 gs [(3, 2)] 8 5 w hS (by decide) (by decide) rfl (by decide) (sl_row hP) (by intro p hp; simp at hp; subst hp; decide) (by decide) (by decide) (by intro p hp; simp [subP] at hp; subst hp; decide) (by decide) (by decide) (fun j hj => by omega)
  have e : rowsV (picF 8 2 (lineD ([((3 : Int), (2 : Int))].map (subP (0, 0))) (1 - 1))) 5 = awR := by kernel_rfl
  rw [e] at h
  exact h
theorem draw_err (gs gp : Nat) (w : World) (hS : Blk w gs 55 #[.int .i64 1, .int .i64 2, .slice (some ⟨gp, 0, none⟩) 1 1]) (hP : RowT w gp 35 [cV (3, 2)]) : Calls Tryd.prog 15 #[.slice (some ⟨gs, 0, none⟩) 1 1, .complex .f64 0 0, .int .i64 0, .int .i64 8, .int .i64 5] w fun e' w' => e' = .returned (.tuple #[.slice none 0 0, .int .i64 2]) ∧ Below w.heap.size w w' := by
  have hsh := sheet_yes 1 2 (some ⟨gp, 0, none⟩) 1 1 gs [(3, 2)] w hS (by decide) (by decide) rfl (by decide) (sl_row hP) (by intro p hp; simp at hp; subst hp; decide)
  have hmy : ∀ w : World, Calls Tryd.prog 24 #[.complex .f64 0 0] w fun e' w' => e' = .returned (.bool true) ∧ w = w' := fun w => may_b 0 0 true w (by unfold Sm; decide) (by unfold Sm; decide) (Lib.hid rfl)
  have HSH := Lib.hid hsh
  have HMY := Lib.hid hmy
  clear hsh hmy hS hP
  go_enter Tryd.func15, Tryd.ntmps15
  go_wp2_with (first
    | (go_at_call 27; ((with_reducible refine (HSH.out).mono ?_); rintro e' wN ⟨rfl, hb⟩; skip))
    | (go_at_call 24; ((with_reducible refine (HMY.out _).mono ?_); rintro e' wN ⟨rfl, rfl⟩; skip))
    | (go_at_call 18; ((with_reducible refine (within_b 0 64 false _ (Lib.hid rfl)).mono ?_); rintro e' wN ⟨rfl, rfl⟩; skip)))
  go_ret2
  exact ⟨rfl, hb⟩
theorem awake_any (w : World) : Calls Tryd.prog 5 #[] w fun e' w' => e' = .returned (.bool true) ∧ Below w.heap.size w w' := by
  have hB0 : Below w.heap.size w w := Below.refl _ _
  go_enter Tryd.func5, Tryd.ntmps5
  go_wp2_with (first
    | (go_at_call 14; ((with_reducible refine (dots_aw _).mono ?_); rintro e' wN ⟨⟨gd, cd, rfl, hD, hgd⟩, hb⟩; replace hB0 := btr hB0 hB0.size hb))
    | (go_at_call 16; ((with_reducible refine (one_b _).mono ?_); rintro e' wN ⟨⟨gs, gp, rfl, hS, hP⟩, hb⟩; replace hB0 := btr hB0 hB0.size hb; (try replace hD := hD.below hb); (try (replace hR := hR.below hb; clear r2 r3; have r2 := hR.cell_ (i := 2) rfl; have r3 := hR.cell_ (i := 3) rfl))))
    | (go_at_call 15; ((with_reducible refine (draw_aw gs gp _ hS hP).mono ?_); rintro e' wN ⟨⟨gr, rfl, hR, hgr⟩, hb⟩; replace hB0 := btr hB0 hB0.size hb; replace hD := hD.below hb; clear hS hP; have r2 := hR.cell_ (i := 2) rfl; have r3 := hR.cell_ (i := 3) rfl))
    | (go_at_call 15; ((with_reducible refine (draw_err gs gp _ hS hP).mono ?_); rintro e' wN ⟨rfl, hb⟩; replace hB0 := btr hB0 hB0.size hb; (try replace hD := hD.below hb); (try (replace hR := hR.below hb; clear r2 r3; have r2 := hR.cell_ (i := 2) rfl; have r3 := hR.cell_ (i := 3) rfl)); clear hS hP))
    | (go_at_call 17; ((with_reducible refine (samepts_b [(0, 0), (4607182418800017408, 0), (4611686018427387904, 4607182418800017408), (4613937818241073152, 4607182418800017408)] _ _ 4 _ _ _ rfl (by omega) ((sl_row hD).alloc_ _) (Sl.new_ _ _ [.complex .f64 0 0, .complex .f64 4607182418800017408 0, .complex .f64 4611686018427387904 4607182418800017408, .complex .f64 4613937818241073152 4607182418800017408])).mono ?_); rintro e' wN ⟨rfl, hb⟩; replace hB0 := btr (hB0.alloc hB0.size _) (Nat.le_trans hB0.size (by simp)) hb; replace hR := (hR.below ((Below.refl _ _).alloc (Nat.le_refl _) _)).below hb; clear r2 r3; have r2 := hR.cell_ (i := 2) rfl; have r3 := hR.cell_ (i := 3) rfl; clear hD))
    | (go_at_call 11; ((with_reducible refine (count_aw gr _ hR).mono ?_); rintro e' wN ⟨rfl, rfl⟩; skip))
    | (go_at_call 6; ((with_reducible refine (turn_aw gr _ hR).mono ?_); rintro e' wN ⟨⟨gt, rfl⟩, hb⟩; replace hB0 := btr hB0 hB0.size hb)))
  go_ret
  exact ⟨rfl, hB0⟩
end Go.Proofs.YtnbiioighjdkjaaDoor
