/- Put of a map. -/
import Derived.Test.YtfefjjebjjfkdaaMapC
namespace Go.Proofs.Ytfefjjebjjfkdaa
open Go.ChangeShapes Go.WideShapes Go.ChangeAt Go.RowKit
set_option linter.unusedSimpArgs false
set_option linter.unusedVariables false

theorem put_short (m g1 g2 : Nat) (a b c d e : Int) (L N : Nat) (A W : List Int) (p x y : Int) (w : World) (hM : MapW w m g1 g2 a b c d e L N A W) (hL : L ≤ 1000) (hh : p < 0 ∨ (L : Int) ≤ p) :
    Calls Try.prog 11 #[.pointer (some ⟨m, 0, none⟩), .int .i64 p, .agg #[.int .i64 x, .int .i64 y]] w fun e' w' => e' = .returned (.bool false) ∧ Below w.heap.size w w' := by
  have HB0 : Below w.heap.size w (w.alloc (.cells #[.int .i64 x, .int .i64 y] 31)) := (Below.refl _ _).alloc (Nat.le_refl _) _
  have G1 : Blk (w.alloc (.cells #[.int .i64 x, .int .i64 y] 31)) w.heap.size 31 #[.int .i64 x, .int .i64 y] := Blk.new_ _ _ _
  have z0 : (w.alloc (.cells #[.int .i64 x, .int .i64 y] 31)).cell? ⟨w.heap.size, 0, none⟩ = some (.int .i64 x) := G1.cell_ 0
  have z1 : (w.alloc (.cells #[.int .i64 x, .int .i64 y] 31)).cell? ⟨w.heap.size, 1, none⟩ = some (.int .i64 y) := G1.cell_ 1
  have hM := hM.below HB0
  obtain ⟨c1, c2, y0, y1, y2, y3, y4, y5, y6, ya, yb, fa, fb, fm⟩ := hM.get
  clear ya yb fa fb
  rcases hh with hh | hh
  · go_enter Try.func11, Try.ntmps11
    go_wp2_with fail
    go_ret
    exact ⟨rfl, HB0⟩
  · have h0 : 0 ≤ p := by omega
    have h1 : ¬ p < (L : Int) := by omega
    go_enter Try.func11, Try.ntmps11
    go_wp2_with fail
    go_ret
    exact ⟨rfl, HB0⟩
theorem put_out (m g1 g2 : Nat) (a b c d e : Int) (L N : Nat) (A W : List Int) (k : Nat) (x y : Int) (w : World) (hM : MapW w m g1 g2 a b c d e L N A W) (HM : Hid (mayB a b c d e = true)) (hL : L ≤ 1000) (hN : N ≤ 1000) (hk : k < L) (hh : thereB a b x y = false) :
    Calls Try.prog 11 #[.pointer (some ⟨m, 0, none⟩), .int .i64 (k : Int), .agg #[.int .i64 x, .int .i64 y]] w fun e' w' => e' = .returned (.bool false) ∧ Below w.heap.size w w' := by
  have hn : Hid (numberI a b x y = -1) := Lib.hid (number_no hh)
  have i0 : (0 : Int) ≤ (k : Int) := by omega
  have i1 : (k : Int) < (L : Int) := by omega
  clear hh
  have HB0 : Below w.heap.size w (w.alloc (.cells #[.int .i64 x, .int .i64 y] 31)) := (Below.refl _ _).alloc (Nat.le_refl _) _
  have G1 : Blk (w.alloc (.cells #[.int .i64 x, .int .i64 y] 31)) w.heap.size 31 #[.int .i64 x, .int .i64 y] := Blk.new_ _ _ _
  have z0 : (w.alloc (.cells #[.int .i64 x, .int .i64 y] 31)).cell? ⟨w.heap.size, 0, none⟩ = some (.int .i64 x) := G1.cell_ 0
  have z1 : (w.alloc (.cells #[.int .i64 x, .int .i64 y] 31)).cell? ⟨w.heap.size, 1, none⟩ = some (.int .i64 y) := G1.cell_ 1
  have hM := hM.below HB0
  obtain ⟨c1, c2, y0, y1, y2, y3, y4, y5, y6, ya, yb, fa, fb, fm⟩ := hM.get
  go_enter Try.func11, Try.ntmps11
  go_upto_region 3 with fail
  refine wp_region_noPanic ?_
  refine wp_region_held_drew (S := (fun w' => w'.cell? ⟨m, 0, none⟩ = some (.int .i64 a) ∧ w'.cell? ⟨m, 1, none⟩ = some (.int .i64 b) ∧ w'.cell? ⟨m, 2, none⟩ = some (.int .i64 c) ∧ w'.cell? ⟨m, 3, none⟩ = some (.int .i64 d) ∧ w'.cell? ⟨m, 4, none⟩ = some (.int .i64 e) ∧ w'.cell? ⟨w.heap.size, 0, none⟩ = some (.int .i64 x) ∧ w'.cell? ⟨w.heap.size, 1, none⟩ = some (.int .i64 y))) (by kernel_rfl) ?_ (fun hHeld => ?_)
  · (first | exact ⟨y0, y1, y2, y3, y4, z0, z1⟩ | assumption)
  refine wpAnyH_take (i := 0) (oi := { dst := some 23, op := Op.move (Operand.tmp 0), type := 26, pos := "maps.go:46", after := #[], guard := none }) (v := ?_) rfl (by kernel_rfl) (by kernel_rfl) (by kernel_rfl) (fun _ _ _ h => h) (Or.inl ⟨by rfl, ?_⟩) (by assumption) ?_
  rotate_left
  · (intro wS hSw; (try dsimp only at hSw); go_simp; (try with_reducible rfl))
  try simp only [Act.put, List.setIfInBounds_toArray, List.set_cons_zero, List.set_cons_succ]
  refine wpAnyH_take (i := 1) (oi := { dst := some 24, op := Op.nilCheck (Operand.tmp 23), type := 0, pos := "maps.go:46", after := #[{ on := 0, ground := Ground.data }], guard := none }) (v := ?_) rfl (by kernel_rfl) (by kernel_rfl) (by kernel_rfl) (fun _ _ _ h => h) (Or.inl ⟨by rfl, ?_⟩) (by assumption) ?_
  rotate_left
  · (intro wS hSw; (try dsimp only at hSw); go_simp; (try with_reducible rfl))
  try simp only [Act.put, List.setIfInBounds_toArray, List.set_cons_zero, List.set_cons_succ]
  refine wpAnyH_take (i := 2) (oi := { dst := some 25, op := Op.fieldAddr 52 (Operand.tmp 24) 0, type := 0, pos := "maps.go:46", after := #[{ on := 1, ground := Ground.data }], guard := none }) (v := ?_) rfl (by kernel_rfl) (by kernel_rfl) (by kernel_rfl) (fun _ _ _ h => h) (Or.inl ⟨by rfl, ?_⟩) (by assumption) ?_
  rotate_left
  · (intro wS hSw; (try dsimp only at hSw); go_simp; (try with_reducible rfl))
  try simp only [Act.put, List.setIfInBounds_toArray, List.set_cons_zero, List.set_cons_succ]
  refine wpAnyH_take (i := 3) (oi := { dst := some 26, op := Op.load 23 (Operand.tmp 25), type := 23, pos := "maps.go:46", after := #[{ on := 2, ground := Ground.data }], guard := none }) (v := ?_) rfl (by kernel_rfl) (by kernel_rfl) (by kernel_rfl) (fun _ _ _ h => h) (Or.inl ⟨by rfl, ?_⟩) (by assumption) ?_
  rotate_left
  · (intro wS hSw; (try dsimp only at hSw); go_simp; (try with_reducible rfl))
  try simp only [Act.put, List.setIfInBounds_toArray, List.set_cons_zero, List.set_cons_succ]
  refine wpAnyH_take (i := 4) (oi := { dst := some 27, op := Op.load 31 (Operand.tmp 5), type := 31, pos := "maps.go:46", after := #[], guard := none }) (v := ?_) rfl (by kernel_rfl) (by kernel_rfl) (by kernel_rfl) (fun _ _ _ h => h) (Or.inl ⟨by rfl, ?_⟩) (by assumption) ?_
  rotate_left
  · (intro wS hSw; (try dsimp only at hSw); go_simp; (try with_reducible rfl))
  try simp only [Act.put, List.setIfInBounds_toArray, List.set_cons_zero, List.set_cons_succ]
  refine wpAnyH_ready (rs := [5]) (by kernel_rfl) (by simp) ?_
  refine AllReadyH.cons (o := { dst := some 28, op := Op.call { callee := Callee.value (Operand.func 32), args := #[Operand.tmp 26, Operand.tmp 27], argTypes := #[23, 31] }, type := 3, pos := "maps.go:46", after := #[{ on := 3, ground := Ground.data }, { on := 4, ground := Ground.data }], guard := none }) rfl (fun K hK => ?_) AllReadyH.nil
  go_simp
  (go_at_call 32; ((with_reducible refine (num_b _ _ _ _ _ _ _ _ _ HM hn).mono ?_); rintro e' wN ⟨rfl, hb⟩; have hb := undrew hb; have hM := hM.below hb; have HB0 := btr HB0 HB0.size hb; have G1 := G1.below hb G1.lt; clear y0 y1 y2 y3 y4 y5 y6 ya yb fa fb fm z0 z1; obtain ⟨c1, c2, y0, y1, y2, y3, y4, y5, y6, ya, yb, fa, fb, fm⟩ := hM.get; have z0 := G1.cell_ 0; have z1 := G1.cell_ 1; simp at z0 z1))
  go_wp2_with fail
  refine hK.out _ _ ?_ (fun hNew => ?_)
  · (first | exact ⟨y0, y1, y2, y3, y4, z0, z1⟩ | assumption)
  clear hK K hHeld
  have hHeld := hNew
  clear hNew
  try simp only [Act.put, List.setIfInBounds_toArray, List.set_cons_zero, List.set_cons_succ]
  refine wpAnyH_take (i := 6) (oi := { dst := some 7, op := Op.assign (Operand.tmp 28), type := 3, pos := "maps.go:46", after := #[{ on := 5, ground := Ground.data }, { on := 5, ground := Ground.chain }, { on := 0, ground := Ground.phase }, { on := 1, ground := Ground.phase }, { on := 2, ground := Ground.phase }, { on := 3, ground := Ground.phase }, { on := 4, ground := Ground.phase }, { on := 5, ground := Ground.phase }], guard := none }) (v := ?_) rfl (by kernel_rfl) (by kernel_rfl) (by kernel_rfl) (fun _ _ _ h => h) (Or.inl ⟨by rfl, ?_⟩) (by assumption) ?_
  rotate_left
  · (intro wS hSw; (try dsimp only at hSw); go_simp; (try with_reducible rfl))
  try simp only [Act.put, List.setIfInBounds_toArray, List.set_cons_zero, List.set_cons_succ]
  refine wpAnyH_done (by kernel_rfl) ?_ _
  refine NoPanic.normal ?_
  go_wp2_with fail
  go_ret
  exact ⟨rfl, HB0⟩
theorem put_taken (m g1 g2 : Nat) (a b c d e : Int) (L N : Nat) (A W : List Int) (k : Nat) (x y : Int) (n : Nat) (z : Int) (w : World) (hM : MapW w m g1 g2 a b c d e L N A W) (HM : Hid (mayB a b c d e = true)) (hL : L ≤ 1000) (hN : N ≤ 1000) (hk : k < L) (hh : thereB a b x y = true) (hxy : x * b + y = (n : Int)) (hnN : n < N) (hz : whoI A (n : Int) = z) (hz1 : z ≠ -1) (hz2 : z ≠ (k : Int)) :
    Calls Try.prog 11 #[.pointer (some ⟨m, 0, none⟩), .int .i64 (k : Int), .agg #[.int .i64 x, .int .i64 y]] w fun e' w' => e' = .returned (.bool false) ∧ Below w.heap.size w w' := by
  have hn : Hid (numberI a b x y = (n : Int)) := Lib.hid ((number_yes hh).trans hxy)
  have hzq : (z != -1) = true := by simp [hz1]
  have hzr : (z != (k : Int)) = true := by simp [hz2]
  have hwz : Hid (W.getD n (-1) = z) := Lib.hid ((hM.inv.who n hnN).trans hz)
  have i0 : (0 : Int) ≤ (k : Int) := by omega
  have i1 : (k : Int) < (L : Int) := by omega
  have j0 : (0 : Int) ≤ (n : Int) := by omega
  have j1 : (n : Int) < (N : Int) := by omega
  clear hh hxy hz
  have HB0 : Below w.heap.size w (w.alloc (.cells #[.int .i64 x, .int .i64 y] 31)) := (Below.refl _ _).alloc (Nat.le_refl _) _
  have G1 : Blk (w.alloc (.cells #[.int .i64 x, .int .i64 y] 31)) w.heap.size 31 #[.int .i64 x, .int .i64 y] := Blk.new_ _ _ _
  have z0 : (w.alloc (.cells #[.int .i64 x, .int .i64 y] 31)).cell? ⟨w.heap.size, 0, none⟩ = some (.int .i64 x) := G1.cell_ 0
  have z1 : (w.alloc (.cells #[.int .i64 x, .int .i64 y] 31)).cell? ⟨w.heap.size, 1, none⟩ = some (.int .i64 y) := G1.cell_ 1
  have hM := hM.below HB0
  obtain ⟨c1, c2, y0, y1, y2, y3, y4, y5, y6, ya, yb, fa, fb, fm⟩ := hM.get
  go_enter Try.func11, Try.ntmps11
  go_upto_region 3 with fail
  refine wp_region_noPanic ?_
  refine wp_region_held_drew (S := (fun w' => w'.cell? ⟨m, 0, none⟩ = some (.int .i64 a) ∧ w'.cell? ⟨m, 1, none⟩ = some (.int .i64 b) ∧ w'.cell? ⟨m, 2, none⟩ = some (.int .i64 c) ∧ w'.cell? ⟨m, 3, none⟩ = some (.int .i64 d) ∧ w'.cell? ⟨m, 4, none⟩ = some (.int .i64 e) ∧ w'.cell? ⟨w.heap.size, 0, none⟩ = some (.int .i64 x) ∧ w'.cell? ⟨w.heap.size, 1, none⟩ = some (.int .i64 y))) (by kernel_rfl) ?_ (fun hHeld => ?_)
  · (first | exact ⟨y0, y1, y2, y3, y4, z0, z1⟩ | assumption)
  refine wpAnyH_take (i := 0) (oi := { dst := some 23, op := Op.move (Operand.tmp 0), type := 26, pos := "maps.go:46", after := #[], guard := none }) (v := ?_) rfl (by kernel_rfl) (by kernel_rfl) (by kernel_rfl) (fun _ _ _ h => h) (Or.inl ⟨by rfl, ?_⟩) (by assumption) ?_
  rotate_left
  · (intro wS hSw; (try dsimp only at hSw); go_simp; (try with_reducible rfl))
  try simp only [Act.put, List.setIfInBounds_toArray, List.set_cons_zero, List.set_cons_succ]
  refine wpAnyH_take (i := 1) (oi := { dst := some 24, op := Op.nilCheck (Operand.tmp 23), type := 0, pos := "maps.go:46", after := #[{ on := 0, ground := Ground.data }], guard := none }) (v := ?_) rfl (by kernel_rfl) (by kernel_rfl) (by kernel_rfl) (fun _ _ _ h => h) (Or.inl ⟨by rfl, ?_⟩) (by assumption) ?_
  rotate_left
  · (intro wS hSw; (try dsimp only at hSw); go_simp; (try with_reducible rfl))
  try simp only [Act.put, List.setIfInBounds_toArray, List.set_cons_zero, List.set_cons_succ]
  refine wpAnyH_take (i := 2) (oi := { dst := some 25, op := Op.fieldAddr 52 (Operand.tmp 24) 0, type := 0, pos := "maps.go:46", after := #[{ on := 1, ground := Ground.data }], guard := none }) (v := ?_) rfl (by kernel_rfl) (by kernel_rfl) (by kernel_rfl) (fun _ _ _ h => h) (Or.inl ⟨by rfl, ?_⟩) (by assumption) ?_
  rotate_left
  · (intro wS hSw; (try dsimp only at hSw); go_simp; (try with_reducible rfl))
  try simp only [Act.put, List.setIfInBounds_toArray, List.set_cons_zero, List.set_cons_succ]
  refine wpAnyH_take (i := 3) (oi := { dst := some 26, op := Op.load 23 (Operand.tmp 25), type := 23, pos := "maps.go:46", after := #[{ on := 2, ground := Ground.data }], guard := none }) (v := ?_) rfl (by kernel_rfl) (by kernel_rfl) (by kernel_rfl) (fun _ _ _ h => h) (Or.inl ⟨by rfl, ?_⟩) (by assumption) ?_
  rotate_left
  · (intro wS hSw; (try dsimp only at hSw); go_simp; (try with_reducible rfl))
  try simp only [Act.put, List.setIfInBounds_toArray, List.set_cons_zero, List.set_cons_succ]
  refine wpAnyH_take (i := 4) (oi := { dst := some 27, op := Op.load 31 (Operand.tmp 5), type := 31, pos := "maps.go:46", after := #[], guard := none }) (v := ?_) rfl (by kernel_rfl) (by kernel_rfl) (by kernel_rfl) (fun _ _ _ h => h) (Or.inl ⟨by rfl, ?_⟩) (by assumption) ?_
  rotate_left
  · (intro wS hSw; (try dsimp only at hSw); go_simp; (try with_reducible rfl))
  try simp only [Act.put, List.setIfInBounds_toArray, List.set_cons_zero, List.set_cons_succ]
  refine wpAnyH_ready (rs := [5]) (by kernel_rfl) (by simp) ?_
  refine AllReadyH.cons (o := { dst := some 28, op := Op.call { callee := Callee.value (Operand.func 32), args := #[Operand.tmp 26, Operand.tmp 27], argTypes := #[23, 31] }, type := 3, pos := "maps.go:46", after := #[{ on := 3, ground := Ground.data }, { on := 4, ground := Ground.data }], guard := none }) rfl (fun K hK => ?_) AllReadyH.nil
  go_simp
  (go_at_call 32; ((with_reducible refine (num_b _ _ _ _ _ _ _ _ _ HM hn).mono ?_); rintro e' wN ⟨rfl, hb⟩; have hb := undrew hb; have hM := hM.below hb; have HB0 := btr HB0 HB0.size hb; have G1 := G1.below hb G1.lt; clear y0 y1 y2 y3 y4 y5 y6 ya yb fa fb fm z0 z1; obtain ⟨c1, c2, y0, y1, y2, y3, y4, y5, y6, ya, yb, fa, fb, fm⟩ := hM.get; have z0 := G1.cell_ 0; have z1 := G1.cell_ 1; simp at z0 z1))
  go_wp2_with fail
  refine hK.out _ _ ?_ (fun hNew => ?_)
  · (first | exact ⟨y0, y1, y2, y3, y4, z0, z1⟩ | assumption)
  clear hK K hHeld
  have hHeld := hNew
  clear hNew
  try simp only [Act.put, List.setIfInBounds_toArray, List.set_cons_zero, List.set_cons_succ]
  refine wpAnyH_take (i := 6) (oi := { dst := some 7, op := Op.assign (Operand.tmp 28), type := 3, pos := "maps.go:46", after := #[{ on := 5, ground := Ground.data }, { on := 5, ground := Ground.chain }, { on := 0, ground := Ground.phase }, { on := 1, ground := Ground.phase }, { on := 2, ground := Ground.phase }, { on := 3, ground := Ground.phase }, { on := 4, ground := Ground.phase }, { on := 5, ground := Ground.phase }], guard := none }) (v := ?_) rfl (by kernel_rfl) (by kernel_rfl) (by kernel_rfl) (fun _ _ _ h => h) (Or.inl ⟨by rfl, ?_⟩) (by assumption) ?_
  rotate_left
  · (intro wS hSw; (try dsimp only at hSw); go_simp; (try with_reducible rfl))
  try simp only [Act.put, List.setIfInBounds_toArray, List.set_cons_zero, List.set_cons_succ]
  refine wpAnyH_done (by kernel_rfl) ?_ _
  refine NoPanic.normal ?_
  have cw := yb n hnN
  rw [hwz.out] at cw
  clear ya yb fa
  go_wp2_with fail
  go_ret
  exact ⟨rfl, HB0⟩
theorem put_new (m g1 g2 : Nat) (a b c d e : Int) (L N : Nat) (A W : List Int) (k : Nat) (x y : Int) (n : Nat) (w : World) (hM : MapW w m g1 g2 a b c d e L N A W) (HM : Hid (mayB a b c d e = true)) (hL : L ≤ 1000) (hN : N ≤ 1000) (hk : k < L) (hh : thereB a b x y = true) (hxy : x * b + y = (n : Int)) (hnN : n < N) (hz : whoI A (n : Int) = -1) (hA : A.getD k (-1) = -1) :
    Calls Try.prog 11 #[.pointer (some ⟨m, 0, none⟩), .int .i64 (k : Int), .agg #[.int .i64 x, .int .i64 y]] w fun e' w' => e' = .returned (.bool true) ∧ MapW w' m g1 g2 a b c d e L N (A.set k (n : Int)) (W.set n (k : Int)) ∧ Touch g1 g2 w w' := by
  have hn : Hid (numberI a b x y = (n : Int)) := Lib.hid ((number_yes hh).trans hxy)
  have hwz : Hid (W.getD n (-1) = -1) := Lib.hid ((hM.inv.who n hnN).trans hz)
  have HH : Hid (hasB A (k : Int) = false) := Lib.hid (hasB_no (by rw [hM.len]; exact hk) hA)
  have HI : Hid (InvM N (A.set k (n : Int)) (W.set n (k : Int))) := Lib.hid (hM.inv.put (by rw [hM.len]; exact hk) hnN hA hz)
  have i0 : (0 : Int) ≤ (k : Int) := by omega
  have i1 : (k : Int) < (L : Int) := by omega
  have j0 : (0 : Int) ≤ (n : Int) := by omega
  have j1 : (n : Int) < (N : Int) := by omega
  clear hh hxy hz hA
  have HB0 : Below w.heap.size w (w.alloc (.cells #[.int .i64 x, .int .i64 y] 31)) := (Below.refl _ _).alloc (Nat.le_refl _) _
  have G1 : Blk (w.alloc (.cells #[.int .i64 x, .int .i64 y] 31)) w.heap.size 31 #[.int .i64 x, .int .i64 y] := Blk.new_ _ _ _
  have z0 : (w.alloc (.cells #[.int .i64 x, .int .i64 y] 31)).cell? ⟨w.heap.size, 0, none⟩ = some (.int .i64 x) := G1.cell_ 0
  have z1 : (w.alloc (.cells #[.int .i64 x, .int .i64 y] 31)).cell? ⟨w.heap.size, 1, none⟩ = some (.int .i64 y) := G1.cell_ 1
  have hM := hM.below HB0
  obtain ⟨c1, c2, y0, y1, y2, y3, y4, y5, y6, ya, yb, fa, fb, fm⟩ := hM.get
  go_enter Try.func11, Try.ntmps11
  go_upto_region 3 with fail
  refine wp_region_noPanic ?_
  refine wp_region_held_drew (S := (fun w' => w'.cell? ⟨m, 0, none⟩ = some (.int .i64 a) ∧ w'.cell? ⟨m, 1, none⟩ = some (.int .i64 b) ∧ w'.cell? ⟨m, 2, none⟩ = some (.int .i64 c) ∧ w'.cell? ⟨m, 3, none⟩ = some (.int .i64 d) ∧ w'.cell? ⟨m, 4, none⟩ = some (.int .i64 e) ∧ w'.cell? ⟨w.heap.size, 0, none⟩ = some (.int .i64 x) ∧ w'.cell? ⟨w.heap.size, 1, none⟩ = some (.int .i64 y))) (by kernel_rfl) ?_ (fun hHeld => ?_)
  · (first | exact ⟨y0, y1, y2, y3, y4, z0, z1⟩ | assumption)
  refine wpAnyH_take (i := 0) (oi := { dst := some 23, op := Op.move (Operand.tmp 0), type := 26, pos := "maps.go:46", after := #[], guard := none }) (v := ?_) rfl (by kernel_rfl) (by kernel_rfl) (by kernel_rfl) (fun _ _ _ h => h) (Or.inl ⟨by rfl, ?_⟩) (by assumption) ?_
  rotate_left
  · (intro wS hSw; (try dsimp only at hSw); go_simp; (try with_reducible rfl))
  try simp only [Act.put, List.setIfInBounds_toArray, List.set_cons_zero, List.set_cons_succ]
  refine wpAnyH_take (i := 1) (oi := { dst := some 24, op := Op.nilCheck (Operand.tmp 23), type := 0, pos := "maps.go:46", after := #[{ on := 0, ground := Ground.data }], guard := none }) (v := ?_) rfl (by kernel_rfl) (by kernel_rfl) (by kernel_rfl) (fun _ _ _ h => h) (Or.inl ⟨by rfl, ?_⟩) (by assumption) ?_
  rotate_left
  · (intro wS hSw; (try dsimp only at hSw); go_simp; (try with_reducible rfl))
  try simp only [Act.put, List.setIfInBounds_toArray, List.set_cons_zero, List.set_cons_succ]
  refine wpAnyH_take (i := 2) (oi := { dst := some 25, op := Op.fieldAddr 52 (Operand.tmp 24) 0, type := 0, pos := "maps.go:46", after := #[{ on := 1, ground := Ground.data }], guard := none }) (v := ?_) rfl (by kernel_rfl) (by kernel_rfl) (by kernel_rfl) (fun _ _ _ h => h) (Or.inl ⟨by rfl, ?_⟩) (by assumption) ?_
  rotate_left
  · (intro wS hSw; (try dsimp only at hSw); go_simp; (try with_reducible rfl))
  try simp only [Act.put, List.setIfInBounds_toArray, List.set_cons_zero, List.set_cons_succ]
  refine wpAnyH_take (i := 3) (oi := { dst := some 26, op := Op.load 23 (Operand.tmp 25), type := 23, pos := "maps.go:46", after := #[{ on := 2, ground := Ground.data }], guard := none }) (v := ?_) rfl (by kernel_rfl) (by kernel_rfl) (by kernel_rfl) (fun _ _ _ h => h) (Or.inl ⟨by rfl, ?_⟩) (by assumption) ?_
  rotate_left
  · (intro wS hSw; (try dsimp only at hSw); go_simp; (try with_reducible rfl))
  try simp only [Act.put, List.setIfInBounds_toArray, List.set_cons_zero, List.set_cons_succ]
  refine wpAnyH_take (i := 4) (oi := { dst := some 27, op := Op.load 31 (Operand.tmp 5), type := 31, pos := "maps.go:46", after := #[], guard := none }) (v := ?_) rfl (by kernel_rfl) (by kernel_rfl) (by kernel_rfl) (fun _ _ _ h => h) (Or.inl ⟨by rfl, ?_⟩) (by assumption) ?_
  rotate_left
  · (intro wS hSw; (try dsimp only at hSw); go_simp; (try with_reducible rfl))
  try simp only [Act.put, List.setIfInBounds_toArray, List.set_cons_zero, List.set_cons_succ]
  refine wpAnyH_ready (rs := [5]) (by kernel_rfl) (by simp) ?_
  refine AllReadyH.cons (o := { dst := some 28, op := Op.call { callee := Callee.value (Operand.func 32), args := #[Operand.tmp 26, Operand.tmp 27], argTypes := #[23, 31] }, type := 3, pos := "maps.go:46", after := #[{ on := 3, ground := Ground.data }, { on := 4, ground := Ground.data }], guard := none }) rfl (fun K hK => ?_) AllReadyH.nil
  go_simp
  (go_at_call 32; ((with_reducible refine (num_b _ _ _ _ _ _ _ _ _ HM hn).mono ?_); rintro e' wN ⟨rfl, hb⟩; have hb := undrew hb; have hM := hM.below hb; have HB0 := btr HB0 HB0.size hb; have G1 := G1.below hb G1.lt; clear y0 y1 y2 y3 y4 y5 y6 ya yb fa fb fm z0 z1; obtain ⟨c1, c2, y0, y1, y2, y3, y4, y5, y6, ya, yb, fa, fb, fm⟩ := hM.get; have z0 := G1.cell_ 0; have z1 := G1.cell_ 1; simp at z0 z1))
  go_wp2_with fail
  refine hK.out _ _ ?_ (fun hNew => ?_)
  · (first | exact ⟨y0, y1, y2, y3, y4, z0, z1⟩ | assumption)
  clear hK K hHeld
  have hHeld := hNew
  clear hNew
  try simp only [Act.put, List.setIfInBounds_toArray, List.set_cons_zero, List.set_cons_succ]
  refine wpAnyH_take (i := 6) (oi := { dst := some 7, op := Op.assign (Operand.tmp 28), type := 3, pos := "maps.go:46", after := #[{ on := 5, ground := Ground.data }, { on := 5, ground := Ground.chain }, { on := 0, ground := Ground.phase }, { on := 1, ground := Ground.phase }, { on := 2, ground := Ground.phase }, { on := 3, ground := Ground.phase }, { on := 4, ground := Ground.phase }, { on := 5, ground := Ground.phase }], guard := none }) (v := ?_) rfl (by kernel_rfl) (by kernel_rfl) (by kernel_rfl) (fun _ _ _ h => h) (Or.inl ⟨by rfl, ?_⟩) (by assumption) ?_
  rotate_left
  · (intro wS hSw; (try dsimp only at hSw); go_simp; (try with_reducible rfl))
  try simp only [Act.put, List.setIfInBounds_toArray, List.set_cons_zero, List.set_cons_succ]
  refine wpAnyH_done (by kernel_rfl) ?_ _
  refine NoPanic.normal ?_
  obtain ⟨wK, hwK⟩ : ∃ W : World, W = wN := ⟨_, rfl⟩
  have cw := yb n hnN
  rw [hwz.out] at cw
  have cz := ya k hk
  have fz := fa k
  have gz := fb n
  have n1 := hM.n1
  have k6 := (cell_far (w := wN) (i := 6) (p := ⟨g1, k, none⟩) n1 (.int .i64 (n : Int))).trans y6
  have kw := (cell_far (w := wN) (i := n) (p := ⟨g1, k, none⟩) (fun h => hM.n12 h.symm) (.int .i64 (n : Int))).trans cw
  have HB := hM.both' hk hnN (n : Int) (k : Int) rfl rfl HI.out
  have HT := ((Touch.of_below (g1 := g1) (g2 := g2) HB0).trans (Touch.set1 wN k (.int .i64 (n : Int)))).trans (Touch.set2 _ n (.int .i64 (k : Int)))
  clear ya yb fa fb hwK wK
  go_wp2_with (go_at_call 10; ((with_reducible refine (drop_no _ _ _ _ _ _ _ _ _ _ _ _ _ _ hM hL HH.out).mono ?_); rintro e' wD ⟨rfl, rfl⟩; skip))
  go_ret
  exact ⟨rfl, HB.like rfl, HT.like rfl rfl rfl rfl⟩
theorem put_old (m g1 g2 : Nat) (a b c d e : Int) (L N : Nat) (A W : List Int) (k : Nat) (x y : Int) (n n0 : Nat) (z : Int) (w : World) (hM : MapW w m g1 g2 a b c d e L N A W) (HM : Hid (mayB a b c d e = true)) (hL : L ≤ 1000) (hN : N ≤ 1000) (hk : k < L) (hh : thereB a b x y = true) (hxy : x * b + y = (n : Int)) (hnN : n < N) (hz : whoI A (n : Int) = z) (hz1 : z = -1 ∨ z = (k : Int)) (hn0 : n0 < N) (hA : A.getD k (-1) = (n0 : Int)) :
    Calls Try.prog 11 #[.pointer (some ⟨m, 0, none⟩), .int .i64 (k : Int), .agg #[.int .i64 x, .int .i64 y]] w fun e' w' => e' = .returned (.bool true) ∧ MapW w' m g1 g2 a b c d e L N (A.set k (n : Int)) ((W.set n0 (-1)).set n (k : Int)) ∧ Touch g1 g2 w w' := by
  have hn : Hid (numberI a b x y = (n : Int)) := Lib.hid ((number_yes hh).trans hxy)
  have hwz : Hid (W.getD n (-1) = z) := Lib.hid ((hM.inv.who n hnN).trans hz)
  have HZ0 := Lib.hid hA
  have hkA : k < A.length := by rw [hM.len]; exact hk
  have hno : whoI (A.set k (-1)) (n : Int) = -1 := by
    refine who_none fun q hq => ?_
    rw [getD_set]
    by_cases hkq : k = q
    · rw [if_pos ⟨hkq, hkA⟩]
      omega
    · rw [if_neg (fun h => hkq h.1)]
      intro hx
      have h1 := who_at hM.inv (p := q) (by simpa using hq) (n := (n : Int)) (by omega) hx
      rw [hz] at h1
      rcases hz1 with h2 | h2 <;> omega
  have HI : Hid (InvM N (A.set k (n : Int)) ((W.set n0 (-1)).set n (k : Int))) := Lib.hid (by
    have := (hM.inv.drop hkA hn0 hA).put (p := k) (n := n) (by simpa using hkA) hnN (by rw [getD_set]; simp [hkA]) hno
    rwa [set_set] at this)
  have i0 : (0 : Int) ≤ (k : Int) := by omega
  have i1 : (k : Int) < (L : Int) := by omega
  have j0 : (0 : Int) ≤ (n : Int) := by omega
  have j1 : (n : Int) < (N : Int) := by omega
  clear hh hxy hz hA hno hkA
  have HB0 : Below w.heap.size w (w.alloc (.cells #[.int .i64 x, .int .i64 y] 31)) := (Below.refl _ _).alloc (Nat.le_refl _) _
  have G1 : Blk (w.alloc (.cells #[.int .i64 x, .int .i64 y] 31)) w.heap.size 31 #[.int .i64 x, .int .i64 y] := Blk.new_ _ _ _
  have z0 : (w.alloc (.cells #[.int .i64 x, .int .i64 y] 31)).cell? ⟨w.heap.size, 0, none⟩ = some (.int .i64 x) := G1.cell_ 0
  have z1 : (w.alloc (.cells #[.int .i64 x, .int .i64 y] 31)).cell? ⟨w.heap.size, 1, none⟩ = some (.int .i64 y) := G1.cell_ 1
  have hM := hM.below HB0
  obtain ⟨c1, c2, y0, y1, y2, y3, y4, y5, y6, ya, yb, fa, fb, fm⟩ := hM.get
  rcases hz1 with rfl | rfl
  · go_enter Try.func11, Try.ntmps11
    go_upto_region 3 with fail
    refine wp_region_noPanic ?_
    refine wp_region_held_drew (S := (fun w' => w'.cell? ⟨m, 0, none⟩ = some (.int .i64 a) ∧ w'.cell? ⟨m, 1, none⟩ = some (.int .i64 b) ∧ w'.cell? ⟨m, 2, none⟩ = some (.int .i64 c) ∧ w'.cell? ⟨m, 3, none⟩ = some (.int .i64 d) ∧ w'.cell? ⟨m, 4, none⟩ = some (.int .i64 e) ∧ w'.cell? ⟨w.heap.size, 0, none⟩ = some (.int .i64 x) ∧ w'.cell? ⟨w.heap.size, 1, none⟩ = some (.int .i64 y))) (by kernel_rfl) ?_ (fun hHeld => ?_)
    · (first | exact ⟨y0, y1, y2, y3, y4, z0, z1⟩ | assumption)
    refine wpAnyH_take (i := 0) (oi := { dst := some 23, op := Op.move (Operand.tmp 0), type := 26, pos := "maps.go:46", after := #[], guard := none }) (v := ?_) rfl (by kernel_rfl) (by kernel_rfl) (by kernel_rfl) (fun _ _ _ h => h) (Or.inl ⟨by rfl, ?_⟩) (by assumption) ?_
    rotate_left
    · (intro wS hSw; (try dsimp only at hSw); go_simp; (try with_reducible rfl))
    try simp only [Act.put, List.setIfInBounds_toArray, List.set_cons_zero, List.set_cons_succ]
    refine wpAnyH_take (i := 1) (oi := { dst := some 24, op := Op.nilCheck (Operand.tmp 23), type := 0, pos := "maps.go:46", after := #[{ on := 0, ground := Ground.data }], guard := none }) (v := ?_) rfl (by kernel_rfl) (by kernel_rfl) (by kernel_rfl) (fun _ _ _ h => h) (Or.inl ⟨by rfl, ?_⟩) (by assumption) ?_
    rotate_left
    · (intro wS hSw; (try dsimp only at hSw); go_simp; (try with_reducible rfl))
    try simp only [Act.put, List.setIfInBounds_toArray, List.set_cons_zero, List.set_cons_succ]
    refine wpAnyH_take (i := 2) (oi := { dst := some 25, op := Op.fieldAddr 52 (Operand.tmp 24) 0, type := 0, pos := "maps.go:46", after := #[{ on := 1, ground := Ground.data }], guard := none }) (v := ?_) rfl (by kernel_rfl) (by kernel_rfl) (by kernel_rfl) (fun _ _ _ h => h) (Or.inl ⟨by rfl, ?_⟩) (by assumption) ?_
    rotate_left
    · (intro wS hSw; (try dsimp only at hSw); go_simp; (try with_reducible rfl))
    try simp only [Act.put, List.setIfInBounds_toArray, List.set_cons_zero, List.set_cons_succ]
    refine wpAnyH_take (i := 3) (oi := { dst := some 26, op := Op.load 23 (Operand.tmp 25), type := 23, pos := "maps.go:46", after := #[{ on := 2, ground := Ground.data }], guard := none }) (v := ?_) rfl (by kernel_rfl) (by kernel_rfl) (by kernel_rfl) (fun _ _ _ h => h) (Or.inl ⟨by rfl, ?_⟩) (by assumption) ?_
    rotate_left
    · (intro wS hSw; (try dsimp only at hSw); go_simp; (try with_reducible rfl))
    try simp only [Act.put, List.setIfInBounds_toArray, List.set_cons_zero, List.set_cons_succ]
    refine wpAnyH_take (i := 4) (oi := { dst := some 27, op := Op.load 31 (Operand.tmp 5), type := 31, pos := "maps.go:46", after := #[], guard := none }) (v := ?_) rfl (by kernel_rfl) (by kernel_rfl) (by kernel_rfl) (fun _ _ _ h => h) (Or.inl ⟨by rfl, ?_⟩) (by assumption) ?_
    rotate_left
    · (intro wS hSw; (try dsimp only at hSw); go_simp; (try with_reducible rfl))
    try simp only [Act.put, List.setIfInBounds_toArray, List.set_cons_zero, List.set_cons_succ]
    refine wpAnyH_ready (rs := [5]) (by kernel_rfl) (by simp) ?_
    refine AllReadyH.cons (o := { dst := some 28, op := Op.call { callee := Callee.value (Operand.func 32), args := #[Operand.tmp 26, Operand.tmp 27], argTypes := #[23, 31] }, type := 3, pos := "maps.go:46", after := #[{ on := 3, ground := Ground.data }, { on := 4, ground := Ground.data }], guard := none }) rfl (fun K hK => ?_) AllReadyH.nil
    go_simp
    (go_at_call 32; ((with_reducible refine (num_b _ _ _ _ _ _ _ _ _ HM hn).mono ?_); rintro e' wN ⟨rfl, hb⟩; have hb := undrew hb; have hM := hM.below hb; have HB0 := btr HB0 HB0.size hb; have G1 := G1.below hb G1.lt; clear y0 y1 y2 y3 y4 y5 y6 ya yb fa fb fm z0 z1; obtain ⟨c1, c2, y0, y1, y2, y3, y4, y5, y6, ya, yb, fa, fb, fm⟩ := hM.get; have z0 := G1.cell_ 0; have z1 := G1.cell_ 1; simp at z0 z1))
    go_wp2_with fail
    refine hK.out _ _ ?_ (fun hNew => ?_)
    · (first | exact ⟨y0, y1, y2, y3, y4, z0, z1⟩ | assumption)
    clear hK K hHeld
    have hHeld := hNew
    clear hNew
    try simp only [Act.put, List.setIfInBounds_toArray, List.set_cons_zero, List.set_cons_succ]
    refine wpAnyH_take (i := 6) (oi := { dst := some 7, op := Op.assign (Operand.tmp 28), type := 3, pos := "maps.go:46", after := #[{ on := 5, ground := Ground.data }, { on := 5, ground := Ground.chain }, { on := 0, ground := Ground.phase }, { on := 1, ground := Ground.phase }, { on := 2, ground := Ground.phase }, { on := 3, ground := Ground.phase }, { on := 4, ground := Ground.phase }, { on := 5, ground := Ground.phase }], guard := none }) (v := ?_) rfl (by kernel_rfl) (by kernel_rfl) (by kernel_rfl) (fun _ _ _ h => h) (Or.inl ⟨by rfl, ?_⟩) (by assumption) ?_
    rotate_left
    · (intro wS hSw; (try dsimp only at hSw); go_simp; (try with_reducible rfl))
    try simp only [Act.put, List.setIfInBounds_toArray, List.set_cons_zero, List.set_cons_succ]
    refine wpAnyH_done (by kernel_rfl) ?_ _
    refine NoPanic.normal ?_
    have cw := yb n hnN
    rw [hwz.out] at cw
    clear ya yb fa
    go_wp2_with (go_at_call 10; ((with_reducible refine (drop_yes _ _ _ _ _ _ _ _ _ _ _ _ k n0 _ hM hL hN hk hn0 HZ0.out).mono ?_); rintro e' wD ⟨rfl, hMD, hTD⟩; have HB := hMD.both' hk hnN (n : Int) (k : Int) (set_set _ _ _ _).symm rfl HI.out; have HT := (((Touch.of_below (g1 := g1) (g2 := g2) HB0).trans hTD).trans (Touch.set1 wD k (.int .i64 (n : Int)))).trans (Touch.set2 _ n (.int .i64 (k : Int))); clear y0 y1 y2 y3 y4 y5 y6 fb fm cw; obtain ⟨c1, c2, y0, y1, y2, y3, y4, y5, y6, ya, yb, fa, fb, fm⟩ := hMD.get; have fz := fa k; have gz := fb n; have cz := ya k hk; have cw := yb n hnN; have k6 := (cell_far (w := wD) (i := 6) (p := ⟨g1, k, none⟩) hM.n1 (.int .i64 (n : Int))).trans y6; have kw := (cell_far (w := wD) (i := n) (p := ⟨g1, k, none⟩) (fun h => hM.n12 h.symm) (.int .i64 (n : Int))).trans cw; clear ya yb fa fb))
    go_ret
    exact ⟨rfl, HB.like rfl, HT.like rfl rfl rfl rfl⟩
  · go_enter Try.func11, Try.ntmps11
    go_upto_region 3 with fail
    refine wp_region_noPanic ?_
    refine wp_region_held_drew (S := (fun w' => w'.cell? ⟨m, 0, none⟩ = some (.int .i64 a) ∧ w'.cell? ⟨m, 1, none⟩ = some (.int .i64 b) ∧ w'.cell? ⟨m, 2, none⟩ = some (.int .i64 c) ∧ w'.cell? ⟨m, 3, none⟩ = some (.int .i64 d) ∧ w'.cell? ⟨m, 4, none⟩ = some (.int .i64 e) ∧ w'.cell? ⟨w.heap.size, 0, none⟩ = some (.int .i64 x) ∧ w'.cell? ⟨w.heap.size, 1, none⟩ = some (.int .i64 y))) (by kernel_rfl) ?_ (fun hHeld => ?_)
    · (first | exact ⟨y0, y1, y2, y3, y4, z0, z1⟩ | assumption)
    refine wpAnyH_take (i := 0) (oi := { dst := some 23, op := Op.move (Operand.tmp 0), type := 26, pos := "maps.go:46", after := #[], guard := none }) (v := ?_) rfl (by kernel_rfl) (by kernel_rfl) (by kernel_rfl) (fun _ _ _ h => h) (Or.inl ⟨by rfl, ?_⟩) (by assumption) ?_
    rotate_left
    · (intro wS hSw; (try dsimp only at hSw); go_simp; (try with_reducible rfl))
    try simp only [Act.put, List.setIfInBounds_toArray, List.set_cons_zero, List.set_cons_succ]
    refine wpAnyH_take (i := 1) (oi := { dst := some 24, op := Op.nilCheck (Operand.tmp 23), type := 0, pos := "maps.go:46", after := #[{ on := 0, ground := Ground.data }], guard := none }) (v := ?_) rfl (by kernel_rfl) (by kernel_rfl) (by kernel_rfl) (fun _ _ _ h => h) (Or.inl ⟨by rfl, ?_⟩) (by assumption) ?_
    rotate_left
    · (intro wS hSw; (try dsimp only at hSw); go_simp; (try with_reducible rfl))
    try simp only [Act.put, List.setIfInBounds_toArray, List.set_cons_zero, List.set_cons_succ]
    refine wpAnyH_take (i := 2) (oi := { dst := some 25, op := Op.fieldAddr 52 (Operand.tmp 24) 0, type := 0, pos := "maps.go:46", after := #[{ on := 1, ground := Ground.data }], guard := none }) (v := ?_) rfl (by kernel_rfl) (by kernel_rfl) (by kernel_rfl) (fun _ _ _ h => h) (Or.inl ⟨by rfl, ?_⟩) (by assumption) ?_
    rotate_left
    · (intro wS hSw; (try dsimp only at hSw); go_simp; (try with_reducible rfl))
    try simp only [Act.put, List.setIfInBounds_toArray, List.set_cons_zero, List.set_cons_succ]
    refine wpAnyH_take (i := 3) (oi := { dst := some 26, op := Op.load 23 (Operand.tmp 25), type := 23, pos := "maps.go:46", after := #[{ on := 2, ground := Ground.data }], guard := none }) (v := ?_) rfl (by kernel_rfl) (by kernel_rfl) (by kernel_rfl) (fun _ _ _ h => h) (Or.inl ⟨by rfl, ?_⟩) (by assumption) ?_
    rotate_left
    · (intro wS hSw; (try dsimp only at hSw); go_simp; (try with_reducible rfl))
    try simp only [Act.put, List.setIfInBounds_toArray, List.set_cons_zero, List.set_cons_succ]
    refine wpAnyH_take (i := 4) (oi := { dst := some 27, op := Op.load 31 (Operand.tmp 5), type := 31, pos := "maps.go:46", after := #[], guard := none }) (v := ?_) rfl (by kernel_rfl) (by kernel_rfl) (by kernel_rfl) (fun _ _ _ h => h) (Or.inl ⟨by rfl, ?_⟩) (by assumption) ?_
    rotate_left
    · (intro wS hSw; (try dsimp only at hSw); go_simp; (try with_reducible rfl))
    try simp only [Act.put, List.setIfInBounds_toArray, List.set_cons_zero, List.set_cons_succ]
    refine wpAnyH_ready (rs := [5]) (by kernel_rfl) (by simp) ?_
    refine AllReadyH.cons (o := { dst := some 28, op := Op.call { callee := Callee.value (Operand.func 32), args := #[Operand.tmp 26, Operand.tmp 27], argTypes := #[23, 31] }, type := 3, pos := "maps.go:46", after := #[{ on := 3, ground := Ground.data }, { on := 4, ground := Ground.data }], guard := none }) rfl (fun K hK => ?_) AllReadyH.nil
    go_simp
    (go_at_call 32; ((with_reducible refine (num_b _ _ _ _ _ _ _ _ _ HM hn).mono ?_); rintro e' wN ⟨rfl, hb⟩; have hb := undrew hb; have hM := hM.below hb; have HB0 := btr HB0 HB0.size hb; have G1 := G1.below hb G1.lt; clear y0 y1 y2 y3 y4 y5 y6 ya yb fa fb fm z0 z1; obtain ⟨c1, c2, y0, y1, y2, y3, y4, y5, y6, ya, yb, fa, fb, fm⟩ := hM.get; have z0 := G1.cell_ 0; have z1 := G1.cell_ 1; simp at z0 z1))
    go_wp2_with fail
    refine hK.out _ _ ?_ (fun hNew => ?_)
    · (first | exact ⟨y0, y1, y2, y3, y4, z0, z1⟩ | assumption)
    clear hK K hHeld
    have hHeld := hNew
    clear hNew
    try simp only [Act.put, List.setIfInBounds_toArray, List.set_cons_zero, List.set_cons_succ]
    refine wpAnyH_take (i := 6) (oi := { dst := some 7, op := Op.assign (Operand.tmp 28), type := 3, pos := "maps.go:46", after := #[{ on := 5, ground := Ground.data }, { on := 5, ground := Ground.chain }, { on := 0, ground := Ground.phase }, { on := 1, ground := Ground.phase }, { on := 2, ground := Ground.phase }, { on := 3, ground := Ground.phase }, { on := 4, ground := Ground.phase }, { on := 5, ground := Ground.phase }], guard := none }) (v := ?_) rfl (by kernel_rfl) (by kernel_rfl) (by kernel_rfl) (fun _ _ _ h => h) (Or.inl ⟨by rfl, ?_⟩) (by assumption) ?_
    rotate_left
    · (intro wS hSw; (try dsimp only at hSw); go_simp; (try with_reducible rfl))
    try simp only [Act.put, List.setIfInBounds_toArray, List.set_cons_zero, List.set_cons_succ]
    refine wpAnyH_done (by kernel_rfl) ?_ _
    refine NoPanic.normal ?_
    have cw := yb n hnN
    rw [hwz.out] at cw
    clear ya yb fa
    go_wp2_with (go_at_call 10; ((with_reducible refine (drop_yes _ _ _ _ _ _ _ _ _ _ _ _ k n0 _ hM hL hN hk hn0 HZ0.out).mono ?_); rintro e' wD ⟨rfl, hMD, hTD⟩; have HB := hMD.both' hk hnN (n : Int) (k : Int) (set_set _ _ _ _).symm rfl HI.out; have HT := (((Touch.of_below (g1 := g1) (g2 := g2) HB0).trans hTD).trans (Touch.set1 wD k (.int .i64 (n : Int)))).trans (Touch.set2 _ n (.int .i64 (k : Int))); clear y0 y1 y2 y3 y4 y5 y6 fb fm cw; obtain ⟨c1, c2, y0, y1, y2, y3, y4, y5, y6, ya, yb, fa, fb, fm⟩ := hMD.get; have fz := fa k; have gz := fb n; have cz := ya k hk; have cw := yb n hnN; have k6 := (cell_far (w := wD) (i := 6) (p := ⟨g1, k, none⟩) hM.n1 (.int .i64 (n : Int))).trans y6; have kw := (cell_far (w := wD) (i := n) (p := ⟨g1, k, none⟩) (fun h => hM.n12 h.symm) (.int .i64 (n : Int))).trans cw; clear ya yb fa fb))
    go_ret
    exact ⟨rfl, HB.like rfl, HT.like rfl rfl rfl rfl⟩
theorem put_any (m g1 g2 : Nat) (a b c d e : Int) (L N : Nat) (A W : List Int) (p x y : Int) (w : World) (hM : MapW w m g1 g2 a b c d e L N A W) (HM : Hid (mayB a b c d e = true)) (hL : L ≤ 1000) (hN : N ≤ 1000) (hab : (N : Int) = a * b) :
    Calls Try.prog 11 #[.pointer (some ⟨m, 0, none⟩), .int .i64 p, .agg #[.int .i64 x, .int .i64 y]] w fun e' w' => e' = .returned (.bool (putB a b A p x y)) ∧ (∃ W', MapW w' m g1 g2 a b c d e L N (putL a b A p x y) W') ∧ Touch g1 g2 w w' := by
  have hstay : ∀ w', putB a b A p x y = false → Below w.heap.size w w' → (∃ W', MapW w' m g1 g2 a b c d e L N (putL a b A p x y) W') ∧ Touch g1 g2 w w' := by
    intro w' h hb
    refine ⟨⟨W, ?_⟩, Touch.of_below hb⟩
    have : putL a b A p x y = A := by simp [putL, h]
    rw [this]
    exact hM.below hb
  have hlen := hM.len
  by_cases h1 : p < 0 ∨ (L : Int) ≤ p
  · have h2 : putB a b A p x y = false := by
      unfold putB
      rcases h1 with h1 | h1
      · rw [decide_eq_false (by omega : ¬ 0 ≤ p)]
        rfl
      · rw [decide_eq_false (by omega : ¬ p < (A.length : Int)), Bool.and_false]
        rfl
    rw [h2]
    refine (put_short m g1 g2 a b c d e L N A W p x y w hM hL h1).mono ?_
    rintro e' w' ⟨rfl, hb⟩
    exact ⟨rfl, hstay w' h2 hb⟩
  obtain ⟨k, rfl⟩ : ∃ k : Nat, p = (k : Int) := ⟨p.toNat, by omega⟩
  have hk : k < L := by omega
  have hr : putB a b A (k : Int) x y = (thereB a b x y && (decide (whoI A (x * b + y) = -1) || decide (whoI A (x * b + y) = (k : Int)))) := by
    unfold putB
    rw [decide_eq_true (by omega : (0 : Int) ≤ k), decide_eq_true (by omega : (k : Int) < (A.length : Int))]
    rfl
  cases hh : thereB a b x y
  · have h2 : putB a b A (k : Int) x y = false := by rw [hr, hh]; rfl
    rw [h2]
    refine (put_out m g1 g2 a b c d e L N A W k x y w hM HM hL hN hk hh).mono ?_
    rintro e' w' ⟨rfl, hb⟩
    exact ⟨rfl, hstay w' h2 hb⟩
  have hb := may_bd HM.out
  obtain ⟨p1, p2⟩ := num_bd hh (by omega)
  obtain ⟨n, hn⟩ : ∃ n : Nat, x * b + y = (n : Int) := ⟨(x * b + y).toNat, by omega⟩
  have hnN : n < N := by omega
  rw [hh, hn] at hr
  obtain ⟨z, hz⟩ : ∃ z, whoI A (n : Int) = z := ⟨_, rfl⟩
  rw [hz] at hr
  by_cases h3 : z = -1 ∨ z = (k : Int)
  · have h2 : putB a b A (k : Int) x y = true := by
      rw [hr]
      rcases h3 with h3 | h3 <;> simp [h3]
    have hl : putL a b A (k : Int) x y = A.set k (n : Int) := by simp [putL, h2, hn]
    rw [h2, hl]
    by_cases h4 : A.getD k (-1) = -1
    · have h5 : z = -1 := by
        rcases h3 with h3 | h3
        · exact h3
        · exfalso
          rcases whoI_cases A (n : Int) with ⟨h6, _⟩ | ⟨q, hq, h6, h7⟩
          · omega
          · have : q = k := by omega
            rw [this, h4] at h7
            omega
      refine (put_new m g1 g2 a b c d e L N A W k x y n w hM HM hL hN hk hh hn hnN (by rw [hz, h5]) h4).mono ?_
      rintro e' w' ⟨rfl, hM', hT⟩
      exact ⟨rfl, ⟨_, hM'⟩, hT⟩
    · obtain ⟨n0, hn0, hA⟩ := numN hM.inv (by rw [hlen]; exact hk) h4
      refine (put_old m g1 g2 a b c d e L N A W k x y n n0 z w hM HM hL hN hk hh hn hnN hz h3 hn0 hA).mono ?_
      rintro e' w' ⟨rfl, hM', hT⟩
      exact ⟨rfl, ⟨_, hM'⟩, hT⟩
  · have h2 : putB a b A (k : Int) x y = false := by
      rw [hr]
      simp
      omega
    rw [h2]
    refine (put_taken m g1 g2 a b c d e L N A W k x y n z w hM HM hL hN hk hh hn hnN hz (by omega) (by omega)).mono ?_
    rintro e' w' ⟨rfl, hb⟩
    exact ⟨rfl, hstay w' h2 hb⟩
theorem drop_any (m g1 g2 : Nat) (a b c d e : Int) (L N : Nat) (A W : List Int) (p : Int) (w : World) (hM : MapW w m g1 g2 a b c d e L N A W) (hL : L ≤ 1000) (hN : N ≤ 1000) :
    Calls Try.prog 10 #[.pointer (some ⟨m, 0, none⟩), .int .i64 p] w fun e' w' => e' = .returned (.bool (hasB A p)) ∧ (∃ W', MapW w' m g1 g2 a b c d e L N (dropL A p) W') ∧ Touch g1 g2 w w' := by
  cases hh : hasB A p
  · have : dropL A p = A := by simp [dropL, hh]
    rw [this]
    refine (drop_no m g1 g2 a b c d e L N A W p w hM hL hh).mono ?_
    rintro e' w' ⟨rfl, rfl⟩
    exact ⟨rfl, ⟨W, hM⟩, Touch.refl _⟩
  · obtain ⟨k, rfl, hk, hz⟩ := hasB_out hh
    obtain ⟨n, hn, hA⟩ := numN hM.inv hk hz
    have : dropL A (k : Int) = A.set k (-1) := by simp [dropL, hh]
    rw [this]
    refine (drop_yes m g1 g2 a b c d e L N A W k n w hM hL hN (by rw [← hM.len]; exact hk) hn hA).mono ?_
    rintro e' w' ⟨rfl, hM', hT⟩
    exact ⟨rfl, ⟨_, hM'⟩, hT⟩
def atT (b : Int) (A : List Int) (p : Int) : Value := if hasB A p then .tuple #[.agg #[.int .i64 (A.getD p.toNat (-1) / b), .int .i64 (A.getD p.toNat (-1) % b)], .bool true] else .tuple #[.agg #[.int .i64 0, .int .i64 0], .bool false]
theorem at_any (m g1 g2 : Nat) (a b c d e : Int) (L N : Nat) (A W : List Int) (p : Int) (w : World) (hM : MapW w m g1 g2 a b c d e L N A W) (HM : Hid (mayB a b c d e = true)) (hL : L ≤ 1000) (hN : N ≤ 1000) :
    Calls Try.prog 14 #[.pointer (some ⟨m, 0, none⟩), .int .i64 p] w fun e' w' => e' = .returned (atT b A p) ∧ Below w.heap.size w w' := by
  have hb := may_bd HM.out
  cases hh : hasB A p
  · have : atT b A p = .tuple #[.agg #[.int .i64 0, .int .i64 0], .bool false] := by simp [atT, hh]
    rw [this]
    exact at_no m g1 g2 a b c d e L N A W p w hM hL hh
  · obtain ⟨k, rfl, hk, hz⟩ := hasB_out hh
    obtain ⟨n, hn, hA⟩ := numN hM.inv hk hz
    have : atT b A (k : Int) = .tuple #[.agg #[.int .i64 ((n : Int) / b), .int .i64 ((n : Int) % b)], .bool true] := by
      unfold atT
      rw [if_pos hh, Int.toNat_natCast, hA]
    rw [this]
    exact at_yes m g1 g2 a b c d e L N A W k n w hM hL hN (by omega) (by omega) (by rw [← hM.len]; exact hk) hn hA
end Go.Proofs.Ytfefjjebjjfkdaa
