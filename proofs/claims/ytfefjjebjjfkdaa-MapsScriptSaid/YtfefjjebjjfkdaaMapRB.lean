/- Chapter 13's own map: Place, Drop, Put. -/
import Derived.Test.YtfefjjebjjfkdaaMapRA
namespace Go.Proofs.Ytfefjjebjjfkdaa
open Go.ChangeShapes Go.WideShapes Go.ChangeAt Go.RowKit
set_option linter.unusedSimpArgs false
set_option linter.unusedVariables false

theorem cellA {w : World} {r i : Nat} (o : Obj) (h : r < w.heap.size) : (w.alloc o).cell? ⟨r, i, none⟩ = w.cell? ⟨r, i, none⟩ := Below.cell (p := ⟨r, i, none⟩) ((Below.refl w.heap.size w).alloc (Nat.le_refl _) o) h
theorem rplace_no (r g : Nat) (a b c d e : Int) (L N : Nat) (A W : List Int) (p : Int) (w : World) (hM : RefW w r g a b c d e L A) (hI : InvM N A W) (hL : L ≤ 1000) (hh : hasB A p = false) :
    Calls Try.prog 15 #[.pointer (some ⟨r, 0, none⟩), .int .i64 p] w fun e' w' => e' = .returned (.tuple #[.agg #[.int .i64 0, .int .i64 0], .bool false]) ∧ Below w.heap.size w w' := by
  have hM := hM.below ((Below.refl _ _).alloc (Nat.le_refl _) (.cells #[.int .i64 0, .int .i64 0] 31))
  obtain ⟨c1, y0, y1, y2, y3, y4, y5, ya, fa, fr⟩ := hM.get
  have hlen := hM.len
  have CASES : p < 0 ∨ (0 ≤ p ∧ ¬ p < (L : Int)) ∨ ∃ k : Nat, p = (k : Int) ∧ k < L ∧ A.getD k (-1) = -1 := by
    by_cases h1 : p < 0
    · exact Or.inl h1
    by_cases h2 : p < (L : Int)
    · right; right
      refine ⟨p.toNat, by omega, by omega, ?_⟩
      apply Classical.byContradiction
      intro h3
      have := hasB_yes (A := A) (k := p.toNat) (by omega) h3
      rw [Int.toNat_of_nonneg (by omega)] at this
      rw [this] at hh
      cases hh
    · exact Or.inr (Or.inl ⟨by omega, h2⟩)
  clear hh hlen
  rcases CASES with h1 | ⟨h1, h2⟩ | ⟨k, rfl, hk, hz⟩
  · clear ya fa fr hM
    go_enter Try.func15, Try.ntmps15
    go_wp2_with fail
    refine bodyPost_ret (v := .tuple #[.agg #[.int .i64 0, .int .i64 0], .bool false]) (by simp [results, Try.results15, go_sem]) rfl ⟨rfl, ?_⟩
    exact (Below.refl _ _).alloc (Nat.le_refl _) _
  · clear ya fa fr hM
    go_enter Try.func15, Try.ntmps15
    go_wp2_with fail
    refine bodyPost_ret (v := .tuple #[.agg #[.int .i64 0, .int .i64 0], .bool false]) (by simp [results, Try.results15, go_sem]) rfl ⟨rfl, ?_⟩
    exact (Below.refl _ _).alloc (Nat.le_refl _) _
  · have cz := ya k hk
    rw [hz] at cz
    have i0 : (0 : Int) ≤ (k : Int) := by omega
    have i1 : (k : Int) < (L : Int) := by omega
    clear ya fa fr hM hz
    go_enter Try.func15, Try.ntmps15
    go_wp2_with fail
    refine bodyPost_ret (v := .tuple #[.agg #[.int .i64 0, .int .i64 0], .bool false]) (by simp [results, Try.results15, go_sem]) rfl ⟨rfl, ?_⟩
    exact (Below.refl _ _).alloc (Nat.le_refl _) _
theorem rplace_yes (r g : Nat) (a b c d e : Int) (L N : Nat) (A W : List Int) (k n : Nat) (w : World) (hM : RefW w r g a b c d e L A) (hL : L ≤ 1000) (hN : N ≤ 1000) (hb : 1 ≤ b) (hb2 : b ≤ 100) (hk : k < L) (hn : n < N) (hz : A.getD k (-1) = (n : Int)) :
    Calls Try.prog 15 #[.pointer (some ⟨r, 0, none⟩), .int .i64 (k : Int)] w fun e' w' => e' = .returned (.tuple #[.agg #[.int .i64 ((n : Int) / b), .int .i64 ((n : Int) % b)], .bool true]) ∧ Below w.heap.size w w' := by
  have hl1 := hM.lt.1
  have hl2 := hM.lt.2
  have hM := hM.below ((Below.refl _ _).alloc (Nat.le_refl _) (.cells #[.int .i64 0, .int .i64 0] 31))
  obtain ⟨c1, y0, y1, y2, y3, y4, y5, ya, fa, fr⟩ := hM.get
  have cz := ya k hk
  rw [hz] at cz
  have i0 : (0 : Int) ≤ (k : Int) := by omega
  have i1 : (k : Int) < (L : Int) := by omega
  have h8 : IntKind.i64.wrap ((n : Int) / b) = (n : Int) / b := wrapS _ (by have := Int.ediv_nonneg (a := (n : Int)) (b := b) (by omega) (by omega); omega) (by have := Int.ediv_le_self (b := b) (show 0 ≤ (n : Int) by omega); omega)
  have h0 : 0 ≤ (n : Int) := by omega
  have hnn : (n : Int) ≤ 10000 := by omega
  have h1 : (n : Int).tdiv b = (n : Int) / b := Int.tdiv_eq_ediv_of_nonneg h0
  have h2 : (n : Int).tmod b = (n : Int) % b := Int.tmod_eq_emod_of_nonneg h0
  have h3 : 0 ≤ (n : Int) / b := Int.ediv_nonneg h0 (by omega)
  have h4 : (n : Int) / b ≤ (n : Int) := Int.ediv_le_self _ h0
  have h5 : 0 ≤ (n : Int) % b := Int.emod_nonneg _ (by omega)
  have h6 : (n : Int) % b < b := Int.emod_lt_of_pos _ (by omega)
  have h7 : ¬ b = 0 := by omega
  have k1 := (cellA (i := 1) (.cells #[.int .i64 ((n : Int) / b), .int .i64 ((n : Int) % b)] 31) hl1).trans ((cellA (i := 1) (.cells #[.int .i64 0, .int .i64 0] 31) hl1).symm.trans y1)
  have k5 := (cellA (i := 5) (.cells #[.int .i64 ((n : Int) / b), .int .i64 ((n : Int) % b)] 31) hl1).trans ((cellA (i := 5) (.cells #[.int .i64 0, .int .i64 0] 31) hl1).symm.trans y5)
  have kz := (cellA (i := k) (.cells #[.int .i64 ((n : Int) / b), .int .i64 ((n : Int) % b)] 31) hl2).trans ((cellA (i := k) (.cells #[.int .i64 0, .int .i64 0] 31) hl2).symm.trans cz)
  clear y0 y2 y3 y4 ya fa fr hz hM hn
  go_enter Try.func15, Try.ntmps15
  go_upto_region 3 with fail
  refine wp_region_noPanic ?_
  refine wp_region_held_drew (S := (fun w' => w'.cell? ⟨r, 1, none⟩ = some (.int .i64 b) ∧ w'.cell? ⟨r, 5, none⟩ = some (.slice (some ⟨g, 0, none⟩) L c1) ∧ w'.cell? ⟨g, k, none⟩ = some (.int .i64 (n : Int)))) (by kernel_rfl) ?_ (fun hHeld => ?_)
  · (first | exact ⟨y1, y5, cz⟩ | exact ⟨k1, k5, kz⟩ | exact ⟨k1b, k5b, kzb⟩ | assumption)
  refine wpAnyH_take (i := 0) (oi := { dst := some 28, op := Op.move (Operand.tmp 0), type := 28, pos := "ref.go:53", after := #[], guard := none }) (v := ?_) rfl (by kernel_rfl) (by kernel_rfl) (by kernel_rfl) (fun _ _ _ h => h) (Or.inl ⟨by rfl, ?_⟩) (by assumption) ?_
  rotate_left
  · (intro wS hSw; (try dsimp only at hSw); go_simp; (try with_reducible rfl))
  try simp only [Act.put, List.setIfInBounds_toArray, List.set_cons_zero, List.set_cons_succ]
  refine wpAnyH_take (i := 1) (oi := { dst := some 29, op := Op.nilCheck (Operand.tmp 28), type := 0, pos := "ref.go:53", after := #[{ on := 0, ground := Ground.data }], guard := none }) (v := ?_) rfl (by kernel_rfl) (by kernel_rfl) (by kernel_rfl) (fun _ _ _ h => h) (Or.inl ⟨by rfl, ?_⟩) (by assumption) ?_
  rotate_left
  · (intro wS hSw; (try dsimp only at hSw); go_simp; (try with_reducible rfl))
  try simp only [Act.put, List.setIfInBounds_toArray, List.set_cons_zero, List.set_cons_succ]
  refine wpAnyH_take (i := 2) (oi := { dst := some 30, op := Op.fieldAddr 54 (Operand.tmp 29) 1, type := 0, pos := "ref.go:53", after := #[{ on := 1, ground := Ground.data }], guard := none }) (v := ?_) rfl (by kernel_rfl) (by kernel_rfl) (by kernel_rfl) (fun _ _ _ h => h) (Or.inl ⟨by rfl, ?_⟩) (by assumption) ?_
  rotate_left
  · (intro wS hSw; (try dsimp only at hSw); go_simp; (try with_reducible rfl))
  try simp only [Act.put, List.setIfInBounds_toArray, List.set_cons_zero, List.set_cons_succ]
  refine wpAnyH_take (i := 3) (oi := { dst := some 31, op := Op.load 41 (Operand.tmp 30), type := 41, pos := "ref.go:53", after := #[{ on := 2, ground := Ground.data }], guard := none }) (v := ?_) rfl (by kernel_rfl) (by kernel_rfl) (by kernel_rfl) (fun _ _ _ h => h) (Or.inl ⟨by rfl, ?_⟩) (by assumption) ?_
  rotate_left
  · (intro wS hSw; (try dsimp only at hSw); go_simp; (try with_reducible rfl))
  try simp only [Act.put, List.setIfInBounds_toArray, List.set_cons_zero, List.set_cons_succ]
  refine wpAnyH_take (i := 4) (oi := { dst := some 32, op := Op.move (Operand.tmp 1), type := 3, pos := "ref.go:53", after := #[], guard := none }) (v := ?_) rfl (by kernel_rfl) (by kernel_rfl) (by kernel_rfl) (fun _ _ _ h => h) (Or.inl ⟨by rfl, ?_⟩) (by assumption) ?_
  rotate_left
  · (intro wS hSw; (try dsimp only at hSw); go_simp; (try with_reducible rfl))
  try simp only [Act.put, List.setIfInBounds_toArray, List.set_cons_zero, List.set_cons_succ]
  refine wpAnyH_take (i := 5) (oi := { dst := some 33, op := Op.indexAddr 41 (Operand.tmp 31) (Operand.tmp 32), type := 0, pos := "ref.go:53", after := #[{ on := 3, ground := Ground.data }, { on := 4, ground := Ground.data }], guard := none }) (v := ?_) rfl (by kernel_rfl) (by kernel_rfl) (by kernel_rfl) (fun _ _ _ h => h) (Or.inl ⟨by rfl, ?_⟩) (by assumption) ?_
  rotate_left
  · (intro wS hSw; (try dsimp only at hSw); go_simp; (try with_reducible rfl))
  try simp only [Act.put, List.setIfInBounds_toArray, List.set_cons_zero, List.set_cons_succ]
  refine wpAnyH_take (i := 6) (oi := { dst := some 34, op := Op.load 3 (Operand.tmp 33), type := 3, pos := "ref.go:53", after := #[{ on := 5, ground := Ground.data }], guard := none }) (v := ?_) rfl (by kernel_rfl) (by kernel_rfl) (by kernel_rfl) (fun _ _ _ h => h) (Or.inl ⟨by rfl, ?_⟩) (by assumption) ?_
  rotate_left
  · (intro wS hSw; (try dsimp only at hSw); go_simp; (try with_reducible rfl))
  try simp only [Act.put, List.setIfInBounds_toArray, List.set_cons_zero, List.set_cons_succ]
  refine wpAnyH_take (i := 7) (oi := { dst := some 35, op := Op.move (Operand.tmp 0), type := 28, pos := "ref.go:53", after := #[], guard := none }) (v := ?_) rfl (by kernel_rfl) (by kernel_rfl) (by kernel_rfl) (fun _ _ _ h => h) (Or.inl ⟨by rfl, ?_⟩) (by assumption) ?_
  rotate_left
  · (intro wS hSw; (try dsimp only at hSw); go_simp; (try with_reducible rfl))
  try simp only [Act.put, List.setIfInBounds_toArray, List.set_cons_zero, List.set_cons_succ]
  refine wpAnyH_take (i := 8) (oi := { dst := some 36, op := Op.nilCheck (Operand.tmp 35), type := 0, pos := "ref.go:53", after := #[{ on := 7, ground := Ground.data }], guard := none }) (v := ?_) rfl (by kernel_rfl) (by kernel_rfl) (by kernel_rfl) (fun _ _ _ h => h) (Or.inl ⟨by rfl, ?_⟩) (by assumption) ?_
  rotate_left
  · (intro wS hSw; (try dsimp only at hSw); go_simp; (try with_reducible rfl))
  try simp only [Act.put, List.setIfInBounds_toArray, List.set_cons_zero, List.set_cons_succ]
  refine wpAnyH_take (i := 9) (oi := { dst := some 37, op := Op.fieldAddr 54 (Operand.tmp 36) 0, type := 0, pos := "ref.go:53", after := #[{ on := 8, ground := Ground.data }], guard := none }) (v := ?_) rfl (by kernel_rfl) (by kernel_rfl) (by kernel_rfl) (fun _ _ _ h => h) (Or.inl ⟨by rfl, ?_⟩) (by assumption) ?_
  rotate_left
  · (intro wS hSw; (try dsimp only at hSw); go_simp; (try with_reducible rfl))
  try simp only [Act.put, List.setIfInBounds_toArray, List.set_cons_zero, List.set_cons_succ]
  refine wpAnyH_take (i := 10) (oi := { dst := some 38, op := Op.fieldAddr 23 (Operand.tmp 37) 1, type := 0, pos := "ref.go:53", after := #[{ on := 9, ground := Ground.data }], guard := none }) (v := ?_) rfl (by kernel_rfl) (by kernel_rfl) (by kernel_rfl) (fun _ _ _ h => h) (Or.inl ⟨by rfl, ?_⟩) (by assumption) ?_
  rotate_left
  · (intro wS hSw; (try dsimp only at hSw); go_simp; (try with_reducible rfl))
  try simp only [Act.put, List.setIfInBounds_toArray, List.set_cons_zero, List.set_cons_succ]
  refine wpAnyH_take (i := 11) (oi := { dst := some 39, op := Op.load 3 (Operand.tmp 38), type := 3, pos := "ref.go:53", after := #[{ on := 10, ground := Ground.data }], guard := none }) (v := ?_) rfl (by kernel_rfl) (by kernel_rfl) (by kernel_rfl) (fun _ _ _ h => h) (Or.inl ⟨by rfl, ?_⟩) (by assumption) ?_
  rotate_left
  · (intro wS hSw; (try dsimp only at hSw); go_simp; (try with_reducible rfl))
  try simp only [Act.put, List.setIfInBounds_toArray, List.set_cons_zero, List.set_cons_succ]
  refine wpAnyH_take (i := 12) (oi := { dst := some 40, op := Op.binOp BinOp.quo 3 (Operand.tmp 34) (Operand.tmp 39) 3, type := 3, pos := "ref.go:53", after := #[{ on := 6, ground := Ground.data }, { on := 11, ground := Ground.data }], guard := none }) (v := ?_) rfl (by kernel_rfl) (by kernel_rfl) (by kernel_rfl) (fun _ _ _ h => h) (Or.inl ⟨by rfl, ?_⟩) (by assumption) ?_
  rotate_left
  · (intro wS hSw; (try dsimp only at hSw); go_simp; (try with_reducible rfl))
  try simp only [Act.put, List.setIfInBounds_toArray, List.set_cons_zero, List.set_cons_succ]
  refine wpAnyH_take (i := 13) (oi := { dst := some 41, op := Op.move (Operand.tmp 0), type := 28, pos := "ref.go:53", after := #[], guard := none }) (v := ?_) rfl (by kernel_rfl) (by kernel_rfl) (by kernel_rfl) (fun _ _ _ h => h) (Or.inl ⟨by rfl, ?_⟩) (by assumption) ?_
  rotate_left
  · (intro wS hSw; (try dsimp only at hSw); go_simp; (try with_reducible rfl))
  try simp only [Act.put, List.setIfInBounds_toArray, List.set_cons_zero, List.set_cons_succ]
  refine wpAnyH_take (i := 14) (oi := { dst := some 42, op := Op.nilCheck (Operand.tmp 41), type := 0, pos := "ref.go:53", after := #[{ on := 13, ground := Ground.data }], guard := none }) (v := ?_) rfl (by kernel_rfl) (by kernel_rfl) (by kernel_rfl) (fun _ _ _ h => h) (Or.inl ⟨by rfl, ?_⟩) (by assumption) ?_
  rotate_left
  · (intro wS hSw; (try dsimp only at hSw); go_simp; (try with_reducible rfl))
  try simp only [Act.put, List.setIfInBounds_toArray, List.set_cons_zero, List.set_cons_succ]
  refine wpAnyH_take (i := 15) (oi := { dst := some 43, op := Op.fieldAddr 54 (Operand.tmp 42) 1, type := 0, pos := "ref.go:53", after := #[{ on := 14, ground := Ground.data }], guard := none }) (v := ?_) rfl (by kernel_rfl) (by kernel_rfl) (by kernel_rfl) (fun _ _ _ h => h) (Or.inl ⟨by rfl, ?_⟩) (by assumption) ?_
  rotate_left
  · (intro wS hSw; (try dsimp only at hSw); go_simp; (try with_reducible rfl))
  try simp only [Act.put, List.setIfInBounds_toArray, List.set_cons_zero, List.set_cons_succ]
  refine wpAnyH_take (i := 16) (oi := { dst := some 44, op := Op.load 41 (Operand.tmp 43), type := 41, pos := "ref.go:53", after := #[{ on := 15, ground := Ground.data }], guard := none }) (v := ?_) rfl (by kernel_rfl) (by kernel_rfl) (by kernel_rfl) (fun _ _ _ h => h) (Or.inl ⟨by rfl, ?_⟩) (by assumption) ?_
  rotate_left
  · (intro wS hSw; (try dsimp only at hSw); go_simp; (try with_reducible rfl))
  try simp only [Act.put, List.setIfInBounds_toArray, List.set_cons_zero, List.set_cons_succ]
  refine wpAnyH_take (i := 17) (oi := { dst := some 45, op := Op.move (Operand.tmp 1), type := 3, pos := "ref.go:53", after := #[], guard := none }) (v := ?_) rfl (by kernel_rfl) (by kernel_rfl) (by kernel_rfl) (fun _ _ _ h => h) (Or.inl ⟨by rfl, ?_⟩) (by assumption) ?_
  rotate_left
  · (intro wS hSw; (try dsimp only at hSw); go_simp; (try with_reducible rfl))
  try simp only [Act.put, List.setIfInBounds_toArray, List.set_cons_zero, List.set_cons_succ]
  refine wpAnyH_take (i := 18) (oi := { dst := some 46, op := Op.indexAddr 41 (Operand.tmp 44) (Operand.tmp 45), type := 0, pos := "ref.go:53", after := #[{ on := 16, ground := Ground.data }, { on := 17, ground := Ground.data }], guard := none }) (v := ?_) rfl (by kernel_rfl) (by kernel_rfl) (by kernel_rfl) (fun _ _ _ h => h) (Or.inl ⟨by rfl, ?_⟩) (by assumption) ?_
  rotate_left
  · (intro wS hSw; (try dsimp only at hSw); go_simp; (try with_reducible rfl))
  try simp only [Act.put, List.setIfInBounds_toArray, List.set_cons_zero, List.set_cons_succ]
  refine wpAnyH_take (i := 19) (oi := { dst := some 47, op := Op.load 3 (Operand.tmp 46), type := 3, pos := "ref.go:53", after := #[{ on := 18, ground := Ground.data }], guard := none }) (v := ?_) rfl (by kernel_rfl) (by kernel_rfl) (by kernel_rfl) (fun _ _ _ h => h) (Or.inl ⟨by rfl, ?_⟩) (by assumption) ?_
  rotate_left
  · (intro wS hSw; (try dsimp only at hSw); go_simp; (try with_reducible rfl))
  try simp only [Act.put, List.setIfInBounds_toArray, List.set_cons_zero, List.set_cons_succ]
  refine wpAnyH_take (i := 20) (oi := { dst := some 48, op := Op.move (Operand.tmp 0), type := 28, pos := "ref.go:53", after := #[], guard := none }) (v := ?_) rfl (by kernel_rfl) (by kernel_rfl) (by kernel_rfl) (fun _ _ _ h => h) (Or.inl ⟨by rfl, ?_⟩) (by assumption) ?_
  rotate_left
  · (intro wS hSw; (try dsimp only at hSw); go_simp; (try with_reducible rfl))
  try simp only [Act.put, List.setIfInBounds_toArray, List.set_cons_zero, List.set_cons_succ]
  refine wpAnyH_take (i := 21) (oi := { dst := some 49, op := Op.nilCheck (Operand.tmp 48), type := 0, pos := "ref.go:53", after := #[{ on := 20, ground := Ground.data }], guard := none }) (v := ?_) rfl (by kernel_rfl) (by kernel_rfl) (by kernel_rfl) (fun _ _ _ h => h) (Or.inl ⟨by rfl, ?_⟩) (by assumption) ?_
  rotate_left
  · (intro wS hSw; (try dsimp only at hSw); go_simp; (try with_reducible rfl))
  try simp only [Act.put, List.setIfInBounds_toArray, List.set_cons_zero, List.set_cons_succ]
  refine wpAnyH_take (i := 22) (oi := { dst := some 50, op := Op.fieldAddr 54 (Operand.tmp 49) 0, type := 0, pos := "ref.go:53", after := #[{ on := 21, ground := Ground.data }], guard := none }) (v := ?_) rfl (by kernel_rfl) (by kernel_rfl) (by kernel_rfl) (fun _ _ _ h => h) (Or.inl ⟨by rfl, ?_⟩) (by assumption) ?_
  rotate_left
  · (intro wS hSw; (try dsimp only at hSw); go_simp; (try with_reducible rfl))
  try simp only [Act.put, List.setIfInBounds_toArray, List.set_cons_zero, List.set_cons_succ]
  refine wpAnyH_take (i := 23) (oi := { dst := some 51, op := Op.fieldAddr 23 (Operand.tmp 50) 1, type := 0, pos := "ref.go:53", after := #[{ on := 22, ground := Ground.data }], guard := none }) (v := ?_) rfl (by kernel_rfl) (by kernel_rfl) (by kernel_rfl) (fun _ _ _ h => h) (Or.inl ⟨by rfl, ?_⟩) (by assumption) ?_
  rotate_left
  · (intro wS hSw; (try dsimp only at hSw); go_simp; (try with_reducible rfl))
  try simp only [Act.put, List.setIfInBounds_toArray, List.set_cons_zero, List.set_cons_succ]
  refine wpAnyH_take (i := 24) (oi := { dst := some 52, op := Op.load 3 (Operand.tmp 51), type := 3, pos := "ref.go:53", after := #[{ on := 23, ground := Ground.data }], guard := none }) (v := ?_) rfl (by kernel_rfl) (by kernel_rfl) (by kernel_rfl) (fun _ _ _ h => h) (Or.inl ⟨by rfl, ?_⟩) (by assumption) ?_
  rotate_left
  · (intro wS hSw; (try dsimp only at hSw); go_simp; (try with_reducible rfl))
  try simp only [Act.put, List.setIfInBounds_toArray, List.set_cons_zero, List.set_cons_succ]
  refine wpAnyH_take (i := 25) (oi := { dst := some 53, op := Op.binOp BinOp.rem 3 (Operand.tmp 47) (Operand.tmp 52) 3, type := 3, pos := "ref.go:53", after := #[{ on := 19, ground := Ground.data }, { on := 24, ground := Ground.data }], guard := none }) (v := ?_) rfl (by kernel_rfl) (by kernel_rfl) (by kernel_rfl) (fun _ _ _ h => h) (Or.inl ⟨by rfl, ?_⟩) (by assumption) ?_
  rotate_left
  · (intro wS hSw; (try dsimp only at hSw); go_simp; (try with_reducible rfl))
  try simp only [Act.put, List.setIfInBounds_toArray, List.set_cons_zero, List.set_cons_succ]
  refine wpAnyH_take (i := 26) (oi := { dst := some 54, op := Op.build 31 #[(0, Operand.tmp 40), (1, Operand.tmp 53)], type := 31, pos := "ref.go:53", after := #[{ on := 12, ground := Ground.data }, { on := 25, ground := Ground.data }], guard := none }) (v := ?_) rfl (by kernel_rfl) (by kernel_rfl) (by kernel_rfl) (fun _ _ _ h => h) (Or.inl ⟨by rfl, ?_⟩) (by assumption) ?_
  rotate_left
  · (intro wS hSw; (try dsimp only at hSw); go_simp; (try with_reducible rfl))
  try simp only [Act.put, List.setIfInBounds_toArray, List.set_cons_zero, List.set_cons_succ]
  refine wpAnyH_ready (rs := [27]) (by kernel_rfl) (by simp) ?_
  refine AllReadyH.cons (o := { dst := none, op := Op.store 31 (Operand.tmp 4) (Operand.tmp 54), type := 0, pos := "ref.go:53", after := #[{ on := 26, ground := Ground.data }, { on := 0, ground := Ground.phase }, { on := 1, ground := Ground.phase }, { on := 2, ground := Ground.phase }, { on := 3, ground := Ground.phase }, { on := 4, ground := Ground.phase }, { on := 5, ground := Ground.phase }, { on := 6, ground := Ground.phase }, { on := 7, ground := Ground.phase }, { on := 8, ground := Ground.phase }, { on := 9, ground := Ground.phase }, { on := 10, ground := Ground.phase }, { on := 11, ground := Ground.phase }, { on := 12, ground := Ground.phase }, { on := 13, ground := Ground.phase }, { on := 14, ground := Ground.phase }, { on := 15, ground := Ground.phase }, { on := 16, ground := Ground.phase }, { on := 17, ground := Ground.phase }, { on := 18, ground := Ground.phase }, { on := 19, ground := Ground.phase }, { on := 20, ground := Ground.phase }, { on := 21, ground := Ground.phase }, { on := 22, ground := Ground.phase }, { on := 23, ground := Ground.phase }, { on := 24, ground := Ground.phase }, { on := 25, ground := Ground.phase }, { on := 26, ground := Ground.phase }], guard := none }) rfl (fun K hK => ?_) AllReadyH.nil
  go_simp
  skip
  refine hK.out _ _ ?_ (fun hNew => ?_)
  · (first | exact ⟨y1, y5, cz⟩ | exact ⟨k1, k5, kz⟩ | exact ⟨k1b, k5b, kzb⟩ | assumption)
  clear hK K hHeld
  have hHeld := hNew
  clear hNew
  try simp only [Act.put, List.setIfInBounds_toArray, List.set_cons_zero, List.set_cons_succ]
  refine wpAnyH_take (i := 28) (oi := { dst := some 5, op := Op.assign (Operand.const (Value.bool true)), type := 4, pos := "ref.go:53", after := #[{ on := 27, ground := Ground.chain }, { on := 0, ground := Ground.phase }, { on := 1, ground := Ground.phase }, { on := 2, ground := Ground.phase }, { on := 3, ground := Ground.phase }, { on := 4, ground := Ground.phase }, { on := 5, ground := Ground.phase }, { on := 6, ground := Ground.phase }, { on := 7, ground := Ground.phase }, { on := 8, ground := Ground.phase }, { on := 9, ground := Ground.phase }, { on := 10, ground := Ground.phase }, { on := 11, ground := Ground.phase }, { on := 12, ground := Ground.phase }, { on := 13, ground := Ground.phase }, { on := 14, ground := Ground.phase }, { on := 15, ground := Ground.phase }, { on := 16, ground := Ground.phase }, { on := 17, ground := Ground.phase }, { on := 18, ground := Ground.phase }, { on := 19, ground := Ground.phase }, { on := 20, ground := Ground.phase }, { on := 21, ground := Ground.phase }, { on := 22, ground := Ground.phase }, { on := 23, ground := Ground.phase }, { on := 24, ground := Ground.phase }, { on := 25, ground := Ground.phase }, { on := 26, ground := Ground.phase }, { on := 27, ground := Ground.phase }], guard := none }) (v := ?_) rfl (by kernel_rfl) (by kernel_rfl) (by kernel_rfl) (fun _ _ _ h => h) (Or.inl ⟨by rfl, ?_⟩) (by assumption) ?_
  rotate_left
  · (intro wS hSw; (try dsimp only at hSw); go_simp; (try with_reducible rfl))
  try simp only [Act.put, List.setIfInBounds_toArray, List.set_cons_zero, List.set_cons_succ]
  refine wpAnyH_done (by kernel_rfl) ?_ _
  refine NoPanic.normal ?_
  go_wp2_with fail
  refine bodyPost_ret (v := .tuple #[.agg #[.int .i64 ((n : Int) / b), .int .i64 ((n : Int) % b)], .bool true]) (by simp [results, Try.results15, go_sem, h8]) rfl ⟨rfl, ?_⟩
  exact ((Below.refl _ _).alloc (Nat.le_refl _) _).drew
theorem rplace_any (r g : Nat) (a b c d e : Int) (L N : Nat) (A W : List Int) (p : Int) (w : World) (hM : RefW w r g a b c d e L A) (hI : InvM N A W) (HM : Hid (mayB a b c d e = true)) (hL : L ≤ 1000) (hN : N ≤ 1000) :
    Calls Try.prog 15 #[.pointer (some ⟨r, 0, none⟩), .int .i64 p] w fun e' w' => e' = .returned (atT b A p) ∧ Below w.heap.size w w' := by
  have hb := may_bd HM.out
  cases hh : hasB A p
  · have : atT b A p = .tuple #[.agg #[.int .i64 0, .int .i64 0], .bool false] := by simp [atT, hh]
    rw [this]
    exact rplace_no r g a b c d e L N A W p w hM hI hL hh
  · obtain ⟨k, rfl, hk, hz⟩ := hasB_out hh
    obtain ⟨n, hn, hA⟩ := numN hI hk hz
    have : atT b A (k : Int) = .tuple #[.agg #[.int .i64 ((n : Int) / b), .int .i64 ((n : Int) % b)], .bool true] := by
      unfold atT
      rw [if_pos hh, Int.toNat_natCast, hA]
    rw [this]
    exact rplace_yes r g a b c d e L N A W k n w hM hL hN (by omega) (by omega) (by rw [← hM.len]; exact hk) hn hA
/-- Only this block is turned. -/
structure Touch1 (g : Nat) (w w' : World) : Prop where
  size : w.heap.size ≤ w'.heap.size
  far : ∀ h, h < w.heap.size → h ≠ g → w'.heap[h]? = w.heap[h]?
  bel : ∀ B, B ≤ g → B ≤ w.heap.size → Below B w w'
theorem Touch1.of_below {g : Nat} {w w' : World} (h : Below w.heap.size w w') : Touch1 g w w' := ⟨h.size, fun k hk _ => h.block k hk, fun B _ hB => h.mono hB⟩
theorem Touch1.trans {g : Nat} {w w' w'' : World} (h : Touch1 g w w') (k : Touch1 g w' w'') : Touch1 g w w'' :=
  ⟨Nat.le_trans h.size k.size, fun x hx h1 => (k.far x (Nat.lt_of_lt_of_le hx h.size) h1).trans (h.far x hx h1), fun B h1 h3 => (h.bel B h1 h3).trans (k.bel B h1 (Nat.le_trans h3 h.size))⟩
theorem Touch1.set {g : Nat} (w : World) (i : Nat) (u : Value) : Touch1 g w (w.setCell ⟨g, i, none⟩ u) :=
  ⟨((Below.refl (0 : Nat) w).setCell (p := ⟨g, i, none⟩) (Nat.zero_le _) u).size, fun x _ h1 => Below.heap_setCell w _ u x h1, fun B h1 _ => (Below.refl B w).setCell (p := ⟨g, i, none⟩) h1 u⟩
theorem Touch1.like {g : Nat} {w w1 w2 : World} (h : Touch1 g w w1) (e1 : w2.heap = w1.heap) (e2 : w2.os = w1.os) (e3 : w2.tape = w1.tape) (e4 : w2.output = w1.output) : Touch1 g w w2 :=
  ⟨by rw [e1]; exact h.size, fun x hx h1 => by rw [e1]; exact h.far x hx h1, fun B h1 h3 => ⟨e2.trans (h.bel B h1 h3).os, e3.trans (h.bel B h1 h3).tape, e4.trans (h.bel B h1 h3).output, by rw [e1]; exact h.size, fun x hx => by rw [e1]; exact (h.bel B h1 h3).block x hx⟩⟩
theorem rdrop_any (r g : Nat) (a b c d e : Int) (L N : Nat) (A W : List Int) (p : Int) (w : World) (hM : RefW w r g a b c d e L A) (hI : InvM N A W) (HM : Hid (mayB a b c d e = true)) (hL : L ≤ 1000) (hN : N ≤ 1000) :
    Calls Try.prog 13 #[.pointer (some ⟨r, 0, none⟩), .int .i64 p] w fun e' w' => e' = .returned (.bool (hasB A p)) ∧ RefW w' r g a b c d e L (dropL A p) ∧ Touch1 g w w' := by
  have hb := may_bd HM.out
  obtain ⟨b1, b2⟩ : 1 ≤ b ∧ b ≤ 100 := by omega
  clear hb
  cases hh : hasB A p
  · have hd : dropL A p = A := by simp [dropL, hh]
    rw [hd]
    have HH := Lib.hid hh
    clear hh hd
    go_enter Try.func13, Try.ntmps13
    go_wp2_with (go_at_call 15; ((with_reducible refine (rplace_no _ _ _ _ _ _ _ _ _ _ _ _ _ hM hI hL HH.out).mono ?_); rintro e' wN ⟨rfl, hb⟩; have hM := hM.below hb))
    go_ret
    exact ⟨rfl, hM.below ((Below.refl _ _).alloc (Nat.le_refl _) _), Touch1.of_below (hb.alloc hb.size _)⟩
  · obtain ⟨k, rfl, hk, hz⟩ := hasB_out hh
    obtain ⟨n, hn, hA⟩ := numN hI hk hz
    have hd : dropL A (k : Int) = A.set k (-1) := by simp [dropL, hh]
    rw [hd]
    have hkL : k < L := by rw [← hM.len]; exact hk
    have HA := Lib.hid hA
    have i0 : (0 : Int) ≤ (k : Int) := by omega
    have i1 : (k : Int) < (L : Int) := by omega
    clear hh hd hz hA hk hI
    go_enter Try.func13, Try.ntmps13
    go_wp2_with (go_at_call 15; ((with_reducible refine (rplace_yes _ _ _ _ _ _ _ _ N _ A k n _ hM hL hN b1 b2 hkL hn HA.out).mono ?_); rintro e' wN ⟨rfl, hb⟩; have hM := hM.below hb; have hba : Below wN.heap.size wN (wN.alloc (.cells #[.int .i64 ((n : Int) / b), .int .i64 ((n : Int) % b)] 31)) := (Below.refl _ _).alloc (Nat.le_refl _) _; have hM := hM.below hba; have HB0 := btr hb hb.size hba; have HS := hM.set hkL (-1) rfl; have HT := (Touch1.of_below (g := g) HB0).trans (Touch1.set _ k (.int .i64 (-1))); obtain ⟨c1, y0, y1, y2, y3, y4, y5, ya, fa, fr⟩ := hM.get; have cz := ya k hkL; have fz := fa k; clear y0 y1 y2 y3 y4 ya fa fr))
    go_ret
    exact ⟨rfl, HS, HT⟩
end Go.Proofs.Ytfefjjebjjfkdaa
