/- place, At, Drop of a map. -/
import Derived.Test.YtfefjjebjjfkdaaMapA
namespace Go.Proofs.Ytfefjjebjjfkdaa
open Go.ChangeShapes Go.WideShapes Go.ChangeAt Go.RowKit
set_option linter.unusedSimpArgs false
set_option linter.unusedVariables false

theorem place_any (m g1 g2 : Nat) (a b c d e : Int) (L N : Nat) (A W : List Int) (n : Nat) (w : World) (hM : MapW w m g1 g2 a b c d e L N A W) (hb : 1 ≤ b) (hb2 : b ≤ 100) (hn : n ≤ 10000) :
    Calls Try.prog 35 #[.pointer (some ⟨m, 0, none⟩), .int .i64 (n : Int)] w fun e' w' => e' = .returned (.agg #[.int .i64 ((n : Int) / b), .int .i64 ((n : Int) % b)]) ∧ Below w.heap.size w w' := by
  obtain ⟨c1, c2, y0, y1, y2, y3, y4, y5, y6, ya, yb, fa, fb, fm⟩ := hM.get
  have hlt := hM.lt.1
  have h8 : IntKind.i64.wrap ((n : Int) / b) = (n : Int) / b := wrapS _ (by have := Int.ediv_nonneg (a := (n : Int)) (b := b) (by omega) (by omega); omega) (by have := Int.ediv_le_self (b := b) (show 0 ≤ (n : Int) by omega); omega)
  have h0 : 0 ≤ (n : Int) := by omega
  have hnn : (n : Int) ≤ 10000 := by omega
  have h1 : (n : Int).tdiv b = (n : Int) / b := Int.tdiv_eq_ediv_of_nonneg h0
  have h2 : (n : Int).tmod b = (n : Int) % b := Int.tmod_eq_emod_of_nonneg h0
  have h3 : 0 ≤ (n : Int) / b := Int.ediv_nonneg h0 (by omega)
  have h4 : (n : Int) / b ≤ (n : Int) := Int.ediv_le_self _ h0
  have h5 : 0 ≤ (n : Int) % b := Int.emod_nonneg _ (by omega)
  have h6 : (n : Int) % b < b := Int.emod_lt_of_pos _ (by omega)
  have h7 : ¬ b = 0 := by omega
  clear y0 y2 y3 y4 y5 y6 ya yb fa fb hM
  go_enter Try.func35, Try.ntmps35
  go_upto_region 1 with fail
  refine wp_region_noPanic ?_
  refine wp_region_held_drew (S := (fun w' => w'.cell? ⟨m, 1, none⟩ = some (.int .i64 b))) (by kernel_rfl) ?_ (fun hHeld => ?_)
  · (first | exact (Below.cell (p := ⟨m, 1, none⟩) ((Below.refl w.heap.size w).alloc (Nat.le_refl _) _).drew hlt).trans y1 | exact (Below.cell (p := ⟨m, 1, none⟩) ((Below.refl w.heap.size w).alloc (Nat.le_refl _) _) hlt).trans y1 | assumption)
  refine wpAnyH_take (i := 0) (oi := { dst := some 5, op := Op.move (Operand.tmp 1), type := 3, pos := "maps.go:33", after := #[], guard := none }) (v := ?_) rfl (by kernel_rfl) (by kernel_rfl) (by kernel_rfl) (fun _ _ _ h => h) (Or.inl ⟨by rfl, ?_⟩) (by assumption) ?_
  rotate_left
  · (intro wS hSw; (try dsimp only at hSw); go_simp; (try with_reducible rfl))
  try simp only [Act.put, List.setIfInBounds_toArray, List.set_cons_zero, List.set_cons_succ]
  refine wpAnyH_take (i := 1) (oi := { dst := some 6, op := Op.move (Operand.tmp 0), type := 26, pos := "maps.go:33", after := #[], guard := none }) (v := ?_) rfl (by kernel_rfl) (by kernel_rfl) (by kernel_rfl) (fun _ _ _ h => h) (Or.inl ⟨by rfl, ?_⟩) (by assumption) ?_
  rotate_left
  · (intro wS hSw; (try dsimp only at hSw); go_simp; (try with_reducible rfl))
  try simp only [Act.put, List.setIfInBounds_toArray, List.set_cons_zero, List.set_cons_succ]
  refine wpAnyH_take (i := 2) (oi := { dst := some 7, op := Op.nilCheck (Operand.tmp 6), type := 0, pos := "maps.go:33", after := #[{ on := 1, ground := Ground.data }], guard := none }) (v := ?_) rfl (by kernel_rfl) (by kernel_rfl) (by kernel_rfl) (fun _ _ _ h => h) (Or.inl ⟨by rfl, ?_⟩) (by assumption) ?_
  rotate_left
  · (intro wS hSw; (try dsimp only at hSw); go_simp; (try with_reducible rfl))
  try simp only [Act.put, List.setIfInBounds_toArray, List.set_cons_zero, List.set_cons_succ]
  refine wpAnyH_take (i := 3) (oi := { dst := some 8, op := Op.fieldAddr 52 (Operand.tmp 7) 0, type := 0, pos := "maps.go:33", after := #[{ on := 2, ground := Ground.data }], guard := none }) (v := ?_) rfl (by kernel_rfl) (by kernel_rfl) (by kernel_rfl) (fun _ _ _ h => h) (Or.inl ⟨by rfl, ?_⟩) (by assumption) ?_
  rotate_left
  · (intro wS hSw; (try dsimp only at hSw); go_simp; (try with_reducible rfl))
  try simp only [Act.put, List.setIfInBounds_toArray, List.set_cons_zero, List.set_cons_succ]
  refine wpAnyH_take (i := 4) (oi := { dst := some 9, op := Op.fieldAddr 23 (Operand.tmp 8) 1, type := 0, pos := "maps.go:33", after := #[{ on := 3, ground := Ground.data }], guard := none }) (v := ?_) rfl (by kernel_rfl) (by kernel_rfl) (by kernel_rfl) (fun _ _ _ h => h) (Or.inl ⟨by rfl, ?_⟩) (by assumption) ?_
  rotate_left
  · (intro wS hSw; (try dsimp only at hSw); go_simp; (try with_reducible rfl))
  try simp only [Act.put, List.setIfInBounds_toArray, List.set_cons_zero, List.set_cons_succ]
  refine wpAnyH_take (i := 5) (oi := { dst := some 10, op := Op.load 3 (Operand.tmp 9), type := 3, pos := "maps.go:33", after := #[{ on := 4, ground := Ground.data }], guard := none }) (v := ?_) rfl (by kernel_rfl) (by kernel_rfl) (by kernel_rfl) (fun _ _ _ h => h) (Or.inl ⟨by rfl, ?_⟩) (by assumption) ?_
  rotate_left
  · (intro wS hSw; (try dsimp only at hSw); go_simp; (try with_reducible rfl))
  try simp only [Act.put, List.setIfInBounds_toArray, List.set_cons_zero, List.set_cons_succ]
  refine wpAnyH_take (i := 6) (oi := { dst := some 11, op := Op.binOp BinOp.quo 3 (Operand.tmp 5) (Operand.tmp 10) 3, type := 3, pos := "maps.go:33", after := #[{ on := 0, ground := Ground.data }, { on := 5, ground := Ground.data }], guard := none }) (v := ?_) rfl (by kernel_rfl) (by kernel_rfl) (by kernel_rfl) (fun _ _ _ h => h) (Or.inl ⟨by rfl, ?_⟩) (by assumption) ?_
  rotate_left
  · (intro wS hSw; (try dsimp only at hSw); go_simp; (try with_reducible rfl))
  try simp only [Act.put, List.setIfInBounds_toArray, List.set_cons_zero, List.set_cons_succ]
  refine wpAnyH_take (i := 7) (oi := { dst := some 12, op := Op.move (Operand.tmp 1), type := 3, pos := "maps.go:33", after := #[], guard := none }) (v := ?_) rfl (by kernel_rfl) (by kernel_rfl) (by kernel_rfl) (fun _ _ _ h => h) (Or.inl ⟨by rfl, ?_⟩) (by assumption) ?_
  rotate_left
  · (intro wS hSw; (try dsimp only at hSw); go_simp; (try with_reducible rfl))
  try simp only [Act.put, List.setIfInBounds_toArray, List.set_cons_zero, List.set_cons_succ]
  refine wpAnyH_take (i := 8) (oi := { dst := some 13, op := Op.move (Operand.tmp 0), type := 26, pos := "maps.go:33", after := #[], guard := none }) (v := ?_) rfl (by kernel_rfl) (by kernel_rfl) (by kernel_rfl) (fun _ _ _ h => h) (Or.inl ⟨by rfl, ?_⟩) (by assumption) ?_
  rotate_left
  · (intro wS hSw; (try dsimp only at hSw); go_simp; (try with_reducible rfl))
  try simp only [Act.put, List.setIfInBounds_toArray, List.set_cons_zero, List.set_cons_succ]
  refine wpAnyH_take (i := 9) (oi := { dst := some 14, op := Op.nilCheck (Operand.tmp 13), type := 0, pos := "maps.go:33", after := #[{ on := 8, ground := Ground.data }], guard := none }) (v := ?_) rfl (by kernel_rfl) (by kernel_rfl) (by kernel_rfl) (fun _ _ _ h => h) (Or.inl ⟨by rfl, ?_⟩) (by assumption) ?_
  rotate_left
  · (intro wS hSw; (try dsimp only at hSw); go_simp; (try with_reducible rfl))
  try simp only [Act.put, List.setIfInBounds_toArray, List.set_cons_zero, List.set_cons_succ]
  refine wpAnyH_take (i := 10) (oi := { dst := some 15, op := Op.fieldAddr 52 (Operand.tmp 14) 0, type := 0, pos := "maps.go:33", after := #[{ on := 9, ground := Ground.data }], guard := none }) (v := ?_) rfl (by kernel_rfl) (by kernel_rfl) (by kernel_rfl) (fun _ _ _ h => h) (Or.inl ⟨by rfl, ?_⟩) (by assumption) ?_
  rotate_left
  · (intro wS hSw; (try dsimp only at hSw); go_simp; (try with_reducible rfl))
  try simp only [Act.put, List.setIfInBounds_toArray, List.set_cons_zero, List.set_cons_succ]
  refine wpAnyH_take (i := 11) (oi := { dst := some 16, op := Op.fieldAddr 23 (Operand.tmp 15) 1, type := 0, pos := "maps.go:33", after := #[{ on := 10, ground := Ground.data }], guard := none }) (v := ?_) rfl (by kernel_rfl) (by kernel_rfl) (by kernel_rfl) (fun _ _ _ h => h) (Or.inl ⟨by rfl, ?_⟩) (by assumption) ?_
  rotate_left
  · (intro wS hSw; (try dsimp only at hSw); go_simp; (try with_reducible rfl))
  try simp only [Act.put, List.setIfInBounds_toArray, List.set_cons_zero, List.set_cons_succ]
  refine wpAnyH_take (i := 12) (oi := { dst := some 17, op := Op.load 3 (Operand.tmp 16), type := 3, pos := "maps.go:33", after := #[{ on := 11, ground := Ground.data }], guard := none }) (v := ?_) rfl (by kernel_rfl) (by kernel_rfl) (by kernel_rfl) (fun _ _ _ h => h) (Or.inl ⟨by rfl, ?_⟩) (by assumption) ?_
  rotate_left
  · (intro wS hSw; (try dsimp only at hSw); go_simp; (try with_reducible rfl))
  try simp only [Act.put, List.setIfInBounds_toArray, List.set_cons_zero, List.set_cons_succ]
  refine wpAnyH_take (i := 13) (oi := { dst := some 18, op := Op.binOp BinOp.rem 3 (Operand.tmp 12) (Operand.tmp 17) 3, type := 3, pos := "maps.go:33", after := #[{ on := 7, ground := Ground.data }, { on := 12, ground := Ground.data }], guard := none }) (v := ?_) rfl (by kernel_rfl) (by kernel_rfl) (by kernel_rfl) (fun _ _ _ h => h) (Or.inl ⟨by rfl, ?_⟩) (by assumption) ?_
  rotate_left
  · (intro wS hSw; (try dsimp only at hSw); go_simp; (try with_reducible rfl))
  try simp only [Act.put, List.setIfInBounds_toArray, List.set_cons_zero, List.set_cons_succ]
  refine wpAnyH_take (i := 14) (oi := { dst := some 19, op := Op.build 31 #[(0, Operand.tmp 11), (1, Operand.tmp 18)], type := 31, pos := "maps.go:33", after := #[{ on := 6, ground := Ground.data }, { on := 13, ground := Ground.data }], guard := none }) (v := ?_) rfl (by kernel_rfl) (by kernel_rfl) (by kernel_rfl) (fun _ _ _ h => h) (Or.inl ⟨by rfl, ?_⟩) (by assumption) ?_
  rotate_left
  · (intro wS hSw; (try dsimp only at hSw); go_simp; (try with_reducible rfl))
  try simp only [Act.put, List.setIfInBounds_toArray, List.set_cons_zero, List.set_cons_succ]
  refine wpAnyH_ready (rs := [15]) (by kernel_rfl) (by simp) ?_
  refine AllReadyH.cons (o := { dst := none, op := Op.store 31 (Operand.tmp 4) (Operand.tmp 19), type := 0, pos := "maps.go:33", after := #[{ on := 14, ground := Ground.data }, { on := 0, ground := Ground.phase }, { on := 1, ground := Ground.phase }, { on := 2, ground := Ground.phase }, { on := 3, ground := Ground.phase }, { on := 4, ground := Ground.phase }, { on := 5, ground := Ground.phase }, { on := 6, ground := Ground.phase }, { on := 7, ground := Ground.phase }, { on := 8, ground := Ground.phase }, { on := 9, ground := Ground.phase }, { on := 10, ground := Ground.phase }, { on := 11, ground := Ground.phase }, { on := 12, ground := Ground.phase }, { on := 13, ground := Ground.phase }, { on := 14, ground := Ground.phase }], guard := none }) rfl (fun K hK => ?_) AllReadyH.nil
  go_simp
  skip
  refine hK.out _ _ ?_ (fun hNew => ?_)
  · (first | exact (Below.cell (p := ⟨m, 1, none⟩) ((Below.refl w.heap.size w).alloc (Nat.le_refl _) _).drew hlt).trans y1 | exact (Below.cell (p := ⟨m, 1, none⟩) ((Below.refl w.heap.size w).alloc (Nat.le_refl _) _) hlt).trans y1 | assumption)
  clear hK K hHeld
  have hHeld := hNew
  clear hNew
  try simp only [Act.put, List.setIfInBounds_toArray, List.set_cons_zero, List.set_cons_succ]
  refine wpAnyH_done (by kernel_rfl) ?_ _
  refine NoPanic.normal ?_
  go_wp2_with fail
  refine bodyPost_ret (v := .agg #[.int .i64 ((n : Int) / b), .int .i64 ((n : Int) % b)]) (by simp [results, Try.results35, go_sem, h8]) rfl ⟨rfl, ?_⟩
  exact ((Below.refl _ _).alloc (Nat.le_refl _) _).drew
theorem drop_no (m g1 g2 : Nat) (a b c d e : Int) (L N : Nat) (A W : List Int) (p : Int) (w : World) (hM : MapW w m g1 g2 a b c d e L N A W) (hL : L ≤ 1000) (hh : hasB A p = false) :
    Calls Try.prog 10 #[.pointer (some ⟨m, 0, none⟩), .int .i64 p] w fun e' w' => e' = .returned (.bool false) ∧ w = w' := by
  have HH := Lib.hid hh
  clear hh
  go_enter Try.func10, Try.ntmps10
  go_wp2_with (go_at_call 31; ((with_reducible refine (has_b _ _ _ _ _ _ _ _ _ _ _ _ _ _ _ hM hL HH.out).mono ?_); rintro e' wN ⟨rfl, rfl⟩; skip))
  go_ret
  exact ⟨rfl, rfl⟩
theorem drop_yes (m g1 g2 : Nat) (a b c d e : Int) (L N : Nat) (A W : List Int) (k n : Nat) (w : World) (hM : MapW w m g1 g2 a b c d e L N A W) (hL : L ≤ 1000) (hN : N ≤ 1000) (hk : k < L) (hn : n < N) (hz : A.getD k (-1) = (n : Int)) :
    Calls Try.prog 10 #[.pointer (some ⟨m, 0, none⟩), .int .i64 (k : Int)] w fun e' w' => e' = .returned (.bool true) ∧ MapW w' m g1 g2 a b c d e L N (A.set k (-1)) (W.set n (-1)) ∧ Touch g1 g2 w w' := by
  obtain ⟨c1, c2, y0, y1, y2, y3, y4, y5, y6, ya, yb, fa, fb, fm⟩ := hM.get
  have cz := ya k hk
  rw [hz] at cz
  have cw := yb n hn
  have fw := fb n
  have n12 := hM.n12
  have n2 := hM.n2
  have k5 := (cell_far (w := w) (i := 5) (p := ⟨g2, n, none⟩) n2 (.int .i64 (-1))).trans y5
  have k6 := (cell_far (w := w) (i := 6) (p := ⟨g2, n, none⟩) n2 (.int .i64 (-1))).trans y6
  have kz := (cell_far (w := w) (i := k) (p := ⟨g2, n, none⟩) n12 (.int .i64 (-1))).trans cz
  have fz := fa k
  have HB := hM.both hk hn (-1) (-1) rfl rfl (hM.inv.drop (by rw [hM.len]; exact hk) hn hz)
  have HT := (Touch.set2 (g1 := g1) (g2 := g2) w n (.int .i64 (-1))).trans (Touch.set1 _ k (.int .i64 (-1)))
  have HH : Hid (hasB A (k : Int) = true) := Lib.hid (hasB_yes (by rw [hM.len]; exact hk) (by rw [hz]; omega))
  have i0 : (0 : Int) ≤ (k : Int) := by omega
  have j0 : (0 : Int) ≤ (n : Int) := by omega
  clear y0 y1 y2 y3 y4 ya yb fa fb hz
  go_enter Try.func10, Try.ntmps10
  go_upto_region 3 with (go_at_call 31; ((with_reducible refine (has_b _ _ _ _ _ _ _ _ _ _ _ _ _ _ _ hM hL HH.out).mono ?_); rintro e' wN ⟨rfl, rfl⟩; skip))
  refine wp_region_noPanic ?_
  refine wp_region_held_drew (S := (fun w' => w'.cell? ⟨m, 5, none⟩ = some (.slice (some ⟨g1, 0, none⟩) L c1) ∧ w'.cell? ⟨m, 6, none⟩ = some (.slice (some ⟨g2, 0, none⟩) N c2) ∧ w'.cell? ⟨g1, k, none⟩ = some (.int .i64 (n : Int)))) (by kernel_rfl) ?_ (fun hHeld => ?_)
  · (first | exact ⟨y5, y6, cz⟩ | exact ⟨k5, k6, kz⟩ | assumption)
  refine wpAnyH_take (i := 0) (oi := { dst := some 9, op := Op.move (Operand.tmp 0), type := 26, pos := "maps.go:61", after := #[], guard := none }) (v := ?_) rfl (by kernel_rfl) (by kernel_rfl) (by kernel_rfl) (fun _ _ _ h => h) (Or.inl ⟨by rfl, ?_⟩) (by assumption) ?_
  rotate_left
  · (intro wS hSw; (try dsimp only at hSw); go_simp; (try with_reducible rfl))
  try simp only [Act.put, List.setIfInBounds_toArray, List.set_cons_zero, List.set_cons_succ]
  refine wpAnyH_take (i := 1) (oi := { dst := some 10, op := Op.nilCheck (Operand.tmp 9), type := 0, pos := "maps.go:61", after := #[{ on := 0, ground := Ground.data }], guard := none }) (v := ?_) rfl (by kernel_rfl) (by kernel_rfl) (by kernel_rfl) (fun _ _ _ h => h) (Or.inl ⟨by rfl, ?_⟩) (by assumption) ?_
  rotate_left
  · (intro wS hSw; (try dsimp only at hSw); go_simp; (try with_reducible rfl))
  try simp only [Act.put, List.setIfInBounds_toArray, List.set_cons_zero, List.set_cons_succ]
  refine wpAnyH_take (i := 2) (oi := { dst := some 11, op := Op.fieldAddr 52 (Operand.tmp 10) 2, type := 0, pos := "maps.go:61", after := #[{ on := 1, ground := Ground.data }], guard := none }) (v := ?_) rfl (by kernel_rfl) (by kernel_rfl) (by kernel_rfl) (fun _ _ _ h => h) (Or.inl ⟨by rfl, ?_⟩) (by assumption) ?_
  rotate_left
  · (intro wS hSw; (try dsimp only at hSw); go_simp; (try with_reducible rfl))
  try simp only [Act.put, List.setIfInBounds_toArray, List.set_cons_zero, List.set_cons_succ]
  refine wpAnyH_take (i := 3) (oi := { dst := some 12, op := Op.load 41 (Operand.tmp 11), type := 41, pos := "maps.go:61", after := #[{ on := 2, ground := Ground.data }], guard := none }) (v := ?_) rfl (by kernel_rfl) (by kernel_rfl) (by kernel_rfl) (fun _ _ _ h => h) (Or.inl ⟨by rfl, ?_⟩) (by assumption) ?_
  rotate_left
  · (intro wS hSw; (try dsimp only at hSw); go_simp; (try with_reducible rfl))
  try simp only [Act.put, List.setIfInBounds_toArray, List.set_cons_zero, List.set_cons_succ]
  refine wpAnyH_take (i := 4) (oi := { dst := some 13, op := Op.move (Operand.tmp 0), type := 26, pos := "maps.go:61", after := #[], guard := none }) (v := ?_) rfl (by kernel_rfl) (by kernel_rfl) (by kernel_rfl) (fun _ _ _ h => h) (Or.inl ⟨by rfl, ?_⟩) (by assumption) ?_
  rotate_left
  · (intro wS hSw; (try dsimp only at hSw); go_simp; (try with_reducible rfl))
  try simp only [Act.put, List.setIfInBounds_toArray, List.set_cons_zero, List.set_cons_succ]
  refine wpAnyH_take (i := 5) (oi := { dst := some 14, op := Op.nilCheck (Operand.tmp 13), type := 0, pos := "maps.go:61", after := #[{ on := 4, ground := Ground.data }], guard := none }) (v := ?_) rfl (by kernel_rfl) (by kernel_rfl) (by kernel_rfl) (fun _ _ _ h => h) (Or.inl ⟨by rfl, ?_⟩) (by assumption) ?_
  rotate_left
  · (intro wS hSw; (try dsimp only at hSw); go_simp; (try with_reducible rfl))
  try simp only [Act.put, List.setIfInBounds_toArray, List.set_cons_zero, List.set_cons_succ]
  refine wpAnyH_take (i := 6) (oi := { dst := some 15, op := Op.fieldAddr 52 (Operand.tmp 14) 1, type := 0, pos := "maps.go:61", after := #[{ on := 5, ground := Ground.data }], guard := none }) (v := ?_) rfl (by kernel_rfl) (by kernel_rfl) (by kernel_rfl) (fun _ _ _ h => h) (Or.inl ⟨by rfl, ?_⟩) (by assumption) ?_
  rotate_left
  · (intro wS hSw; (try dsimp only at hSw); go_simp; (try with_reducible rfl))
  try simp only [Act.put, List.setIfInBounds_toArray, List.set_cons_zero, List.set_cons_succ]
  refine wpAnyH_take (i := 7) (oi := { dst := some 16, op := Op.load 41 (Operand.tmp 15), type := 41, pos := "maps.go:61", after := #[{ on := 6, ground := Ground.data }], guard := none }) (v := ?_) rfl (by kernel_rfl) (by kernel_rfl) (by kernel_rfl) (fun _ _ _ h => h) (Or.inl ⟨by rfl, ?_⟩) (by assumption) ?_
  rotate_left
  · (intro wS hSw; (try dsimp only at hSw); go_simp; (try with_reducible rfl))
  try simp only [Act.put, List.setIfInBounds_toArray, List.set_cons_zero, List.set_cons_succ]
  refine wpAnyH_take (i := 8) (oi := { dst := some 17, op := Op.move (Operand.tmp 1), type := 3, pos := "maps.go:61", after := #[], guard := none }) (v := ?_) rfl (by kernel_rfl) (by kernel_rfl) (by kernel_rfl) (fun _ _ _ h => h) (Or.inl ⟨by rfl, ?_⟩) (by assumption) ?_
  rotate_left
  · (intro wS hSw; (try dsimp only at hSw); go_simp; (try with_reducible rfl))
  try simp only [Act.put, List.setIfInBounds_toArray, List.set_cons_zero, List.set_cons_succ]
  refine wpAnyH_take (i := 9) (oi := { dst := some 18, op := Op.indexAddr 41 (Operand.tmp 16) (Operand.tmp 17), type := 0, pos := "maps.go:61", after := #[{ on := 7, ground := Ground.data }, { on := 8, ground := Ground.data }], guard := none }) (v := ?_) rfl (by kernel_rfl) (by kernel_rfl) (by kernel_rfl) (fun _ _ _ h => h) (Or.inl ⟨by rfl, ?_⟩) (by assumption) ?_
  rotate_left
  · (intro wS hSw; (try dsimp only at hSw); go_simp; (try with_reducible rfl))
  try simp only [Act.put, List.setIfInBounds_toArray, List.set_cons_zero, List.set_cons_succ]
  refine wpAnyH_take (i := 10) (oi := { dst := some 19, op := Op.load 3 (Operand.tmp 18), type := 3, pos := "maps.go:61", after := #[{ on := 9, ground := Ground.data }], guard := none }) (v := ?_) rfl (by kernel_rfl) (by kernel_rfl) (by kernel_rfl) (fun _ _ _ h => h) (Or.inl ⟨by rfl, ?_⟩) (by assumption) ?_
  rotate_left
  · (intro wS hSw; (try dsimp only at hSw); go_simp; (try with_reducible rfl))
  try simp only [Act.put, List.setIfInBounds_toArray, List.set_cons_zero, List.set_cons_succ]
  refine wpAnyH_take (i := 11) (oi := { dst := some 20, op := Op.indexAddr 41 (Operand.tmp 12) (Operand.tmp 19), type := 0, pos := "maps.go:61", after := #[{ on := 3, ground := Ground.data }, { on := 10, ground := Ground.data }, { on := 0, ground := Ground.phase }, { on := 1, ground := Ground.phase }, { on := 2, ground := Ground.phase }, { on := 3, ground := Ground.phase }, { on := 4, ground := Ground.phase }, { on := 5, ground := Ground.phase }, { on := 6, ground := Ground.phase }, { on := 7, ground := Ground.phase }, { on := 8, ground := Ground.phase }, { on := 9, ground := Ground.phase }, { on := 10, ground := Ground.phase }], guard := none }) (v := ?_) rfl (by kernel_rfl) (by kernel_rfl) (by kernel_rfl) (fun _ _ _ h => h) (Or.inl ⟨by rfl, ?_⟩) (by assumption) ?_
  rotate_left
  · (intro wS hSw; (try dsimp only at hSw); go_simp; (try with_reducible rfl))
  try simp only [Act.put, List.setIfInBounds_toArray, List.set_cons_zero, List.set_cons_succ]
  refine wpAnyH_ready (rs := [12]) (by kernel_rfl) (by simp) ?_
  refine AllReadyH.cons (o := { dst := none, op := Op.store 3 (Operand.tmp 20) (Operand.const (Value.int IntKind.i64 (-1))), type := 0, pos := "maps.go:61", after := #[{ on := 11, ground := Ground.data }, { on := 0, ground := Ground.phase }, { on := 1, ground := Ground.phase }, { on := 2, ground := Ground.phase }, { on := 3, ground := Ground.phase }, { on := 4, ground := Ground.phase }, { on := 5, ground := Ground.phase }, { on := 6, ground := Ground.phase }, { on := 7, ground := Ground.phase }, { on := 8, ground := Ground.phase }, { on := 9, ground := Ground.phase }, { on := 10, ground := Ground.phase }], guard := none }) rfl (fun K hK => ?_) AllReadyH.nil
  go_simp
  skip
  refine hK.out _ _ ?_ (fun hNew => ?_)
  · (first | exact ⟨y5, y6, cz⟩ | exact ⟨k5, k6, kz⟩ | assumption)
  clear hK K hHeld
  have hHeld := hNew
  clear hNew
  try simp only [Act.put, List.setIfInBounds_toArray, List.set_cons_zero, List.set_cons_succ]
  refine wpAnyH_done (by kernel_rfl) ?_ _
  refine NoPanic.normal ?_
  go_wp2_with fail
  go_ret
  exact ⟨rfl, HB.like rfl, HT.like rfl rfl rfl rfl⟩
theorem at_no (m g1 g2 : Nat) (a b c d e : Int) (L N : Nat) (A W : List Int) (p : Int) (w : World) (hM : MapW w m g1 g2 a b c d e L N A W) (hL : L ≤ 1000) (hh : hasB A p = false) :
    Calls Try.prog 14 #[.pointer (some ⟨m, 0, none⟩), .int .i64 p] w fun e' w' => e' = .returned (.tuple #[.agg #[.int .i64 0, .int .i64 0], .bool false]) ∧ Below w.heap.size w w' := by
  have HH := Lib.hid hh
  clear hh
  have hM := hM.below ((Below.refl _ _).alloc (Nat.le_refl _) (.cells #[.int .i64 0, .int .i64 0] 31))
  go_enter Try.func14, Try.ntmps14
  go_wp2_with (go_at_call 31; ((with_reducible refine (has_b _ _ _ _ _ _ _ _ _ _ _ _ _ _ _ hM hL HH.out).mono ?_); rintro e' wN ⟨rfl, rfl⟩; skip))
  refine bodyPost_ret (v := .tuple #[.agg #[.int .i64 0, .int .i64 0], .bool false]) (by simp [results, Try.results14, go_sem]) rfl ⟨rfl, ?_⟩
  exact (Below.refl _ _).alloc (Nat.le_refl _) _
theorem at_yes (m g1 g2 : Nat) (a b c d e : Int) (L N : Nat) (A W : List Int) (k n : Nat) (w : World) (hM : MapW w m g1 g2 a b c d e L N A W) (hL : L ≤ 1000) (hN : N ≤ 1000) (hb : 1 ≤ b) (hb2 : b ≤ 100) (hk : k < L) (hn : n < N) (hz : A.getD k (-1) = (n : Int)) :
    Calls Try.prog 14 #[.pointer (some ⟨m, 0, none⟩), .int .i64 (k : Int)] w fun e' w' => e' = .returned (.tuple #[.agg #[.int .i64 ((n : Int) / b), .int .i64 ((n : Int) % b)], .bool true]) ∧ Below w.heap.size w w' := by
  have HH : Hid (hasB A (k : Int) = true) := Lib.hid (hasB_yes (by rw [hM.len]; exact hk) (by rw [hz]; omega))
  have HB0 : Below w.heap.size w (w.alloc (.cells #[.int .i64 0, .int .i64 0] 31)) := (Below.refl _ _).alloc (Nat.le_refl _) _
  have G1 : Blk (w.alloc (.cells #[.int .i64 0, .int .i64 0] 31)) w.heap.size 31 #[.int .i64 0, .int .i64 0] := Blk.new_ _ _ _
  have hM := hM.below HB0
  obtain ⟨c1, c2, y0, y1, y2, y3, y4, y5, y6, ya, yb, fa, fb, fm⟩ := hM.get
  have cz := ya k hk
  rw [hz] at cz
  have i0 : (0 : Int) ≤ (k : Int) := by omega
  have hn' : n ≤ 10000 := by omega
  clear y0 y1 y2 y3 y4 y6 ya yb fa fb hz hn
  go_enter Try.func14, Try.ntmps14
  go_wp2_with (first
    | (go_at_call 31; ((with_reducible refine (has_b _ _ _ _ _ _ _ _ _ _ _ _ _ _ _ hM hL HH.out).mono ?_); rintro e' wN ⟨rfl, rfl⟩; skip))
    | (go_at_call 35; ((with_reducible refine (place_any _ _ _ _ _ _ _ _ _ _ _ _ n _ hM hb hb2 hn').mono ?_); rintro e' wP ⟨rfl, hb9⟩; have HB0 := btr HB0 HB0.size hb9; have G1 := G1.below hb9 G1.lt; have z0 := G1.cell_ 0; have z1 := G1.cell_ 1; have zf := G1.free; simp at z0 z1 zf)))
  refine bodyPost_ret (v := .tuple #[.agg #[.int .i64 ((n : Int) / b), .int .i64 ((n : Int) % b)], .bool true]) (by simp [results, Try.results14, go_sem, z0, z1]) rfl ⟨rfl, ?_⟩
  exact ((HB0.setCell (p := ⟨w.heap.size, 0, none⟩) (Nat.le_refl _) _).setCell (p := ⟨w.heap.size, 1, none⟩) (Nat.le_refl _) _)
end Go.Proofs.Ytfefjjebjjfkdaa
