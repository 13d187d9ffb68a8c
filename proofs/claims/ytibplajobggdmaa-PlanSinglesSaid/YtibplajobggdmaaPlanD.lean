/- plan: awake; PlanTells. -/
import Derived.Test.YtibplajobggdmaaPlanC
namespace Go.Proofs.Ytibplajobggdmaa
open Go.ChangeShapes Go.WideShapes Go.ChangeAt Go.RowKit
attribute [local go_sem ↓] Go.wp_at_zero Go.wp_at_succ
set_option linter.unusedSimpArgs false
set_option linter.unusedVariables false

theorem small_any (w : World) : Calls Try.prog 15 #[] w fun e' w' => e' = .returned (.agg #[.int .i64 8, .int .i64 4, .int .i64 32, .int .i64 0, .int .i64 2]) ∧ Below w.heap.size w w' := by
  go_enter Try.func15, Try.ntmps15
  go_wp2
  first
  | (go_ret; exact ⟨rfl, Below.refl _ _⟩)
  | exact bodyPost_ret (v := .agg #[.int .i64 8, .int .i64 4, .int .i64 32, .int .i64 0, .int .i64 2]) (by simp [results, Try.results15, go_sem]) rfl ⟨rfl, (Below.refl _ _).alloc (Nat.le_refl _) _⟩

def oneF : List Flt := [⟨3, false, 2⟩]
theorem one_any (w : World) : Calls Try.prog 16 #[] w fun e' w' => e' = .returned (.slice (some ⟨w.heap.size, 0, none⟩) oneF.length 1) ∧ SlF w' w'.heap.size (some ⟨w.heap.size, 0, none⟩) oneF ∧ Below w.heap.size w w' := by
  go_enter Try.func16, Try.ntmps16
  go_wp2
  go_ret
  refine ⟨rfl, Or.inr ⟨w.heap.size, 0, rfl, by simp, fun k f hk => ?_⟩, (Below.refl _ _).alloc (Nat.le_refl _) _⟩
  obtain ⟨hlt, rfl⟩ := List.getElem?_eq_some_iff.1 hk
  have hk0 : k = 0 := by simp [oneF] at hlt; omega
  subst hk0
  simp [oneF]

theorem aw1 : planMay 8 4 32 0 2 oneF = true := by decide
theorem aw2 : failsB oneF 3 1 = false := by decide
theorem aw3 : failsB oneF 3 2 = true := by decide
theorem aw4 : badB oneF 3 = false := by decide

set_option maxRecDepth 100000 in
set_option maxHeartbeats 4000000 in
theorem awake_any (w : World) :
    Calls Try.prog 6 #[] w fun e' w' => e' = .returned (.bool true) ∧ Below w.heap.size w w' := by
  have HB := Below.refl w.heap.size w
  have a1 := Lib.hid aw1
  have a2 := Lib.hid aw2
  have a3 := Lib.hid aw3
  have a4 := Lib.hid aw4
  go_enter Try.func6, Try.ntmps6
  go_wp2_with (first
    | (go_at_call 15; refine (small_any _).mono ?_; rintro e' w1 ⟨rfl, hb1⟩; have HB := btr HB HB.size hb1; clear hb1)
    | (go_at_call 16; refine (one_any _).mono ?_; rintro e' w1 ⟨rfl, H, hb1⟩; have HB := btr HB HB.size hb1; clear hb1)
    | (go_at_call 7; refine (pMay_any 8 4 32 0 2 oneF _ 1 _ H (by decide) (by unfold maxLen; decide)).mono ?_; rw [a1.out]; rintro e' w1 ⟨rfl, hb1⟩; have HB := btr HB HB.size hb1; clear hb1)
    | (go_at_call 9; ((with_reducible refine (Fails_any oneF _ _ 3 1 _ H (by decide)).mono ?_); rw [a2.out]; rintro e' w1 ⟨rfl, hb1⟩; have HB := btr HB HB.size hb1; clear hb1))
    | (go_at_call 9; ((with_reducible refine (Fails_any oneF _ _ 3 2 _ H (by decide)).mono ?_); rw [a3.out]; rintro e' w1 ⟨rfl, hb1⟩; have HB := btr HB HB.size hb1; clear hb1))
    | (go_at_call 11; refine (Bad_any oneF _ _ 3 _ H (by decide)).mono ?_; rw [a4.out]; rintro e' w1 ⟨rfl, hb1⟩; have HB := btr HB HB.size hb1; clear hb1)
    | (go_at_call 13; refine (Many_any oneF _ _ _).mono ?_; rintro e' w1 ⟨rfl, rfl⟩))
  go_ret
  exact ⟨rfl, HB⟩

set_option maxRecDepth 100000 in
set_option maxHeartbeats 4000000 in
theorem ptells_walk (a b c d e : Int) (A : Option Addr) (n c0 : Nat) (fs : List Flt) (blk dn : Int) (w : World)
    (_ : i64in a ∧ i64in b ∧ i64in c ∧ i64in d ∧ i64in e) (r1 : n = fs.length ∧ n ≤ c0 ∧ c0 ≤ maxLen ∧ SlF w w.heap.size A fs) (_ : i64in blk) (_ : i64in dn) :
    Calls Try.prog 3 #[.agg #[.int .i64 a, .int .i64 b, .int .i64 c, .int .i64 d, .int .i64 e], .slice A n c0, .int .i64 blk, .int .i64 dn] w fun e' w' => e' = .returned (.bool true) ∧ Below w.heap.size w w' := by
  obtain ⟨rfl, hc0, hc1, h⟩ := r1
  by_cases hl : 20 < fs.length
  · have g1 : (20 : Int) < (fs.length : Int) := by omega
    go_enter Try.func3, Try.ntmps3
    go_wp2_with (go_at_call 6; refine (awake_any _).mono ?_; rintro e' w2 ⟨rfl, hb2⟩)
    go_ret
    exact ⟨rfl, below1 hb2⟩
  have g1 : ¬ (20 : Int) < (fs.length : Int) := by omega
  have n1 : fs.length ≤ 1000000 := by omega
  have hBw : Below w.heap.size w (w.alloc (.cells #[.int .i64 a, .int .i64 b, .int .i64 c, .int .i64 d, .int .i64 e] 23)) := (Below.refl _ _).alloc (Nat.le_refl _) _
  have hH2 := h.next hBw
  have HC1 := Lib.hid hc1
  clear hc1
  rcases (by cases hq : planMay a b c d e fs <;> simp : planMay a b c d e fs = true ∨ planMay a b c d e fs = false) with hp | hp
  all_goals
    have HM := Lib.hid hp
    clear hp
    go_enter Try.func3, Try.ntmps3
    go_wp2_with fail
    refine wp_region_noPanic ?_
    refine wp_region_held_drew (S := (fun w' => Below w.heap.size w w' ∧ (w.alloc (.cells #[.int .i64 a, .int .i64 b, .int .i64 c, .int .i64 d, .int .i64 e] 23)).heap.size ≤ w'.heap.size ∧ ∀ (k o : Nat), k < (w.alloc (.cells #[.int .i64 a, .int .i64 b, .int .i64 c, .int .i64 d, .int .i64 e] 23)).heap.size → w'.cell? ⟨k, o, none⟩ = (w.alloc (.cells #[.int .i64 a, .int .i64 b, .int .i64 c, .int .i64 d, .int .i64 e] 23)).cell? ⟨k, o, none⟩)) (by kernel_rfl) ?_ (fun hHeld => ?_)
    · (first | exact ⟨hBw.drew, by simp, by simp⟩ | exact kept_step (by assumption) hb3)
    refine wpAnyH_take (i := 0) (oi := { dst := some 13, op := Op.load 23 (Operand.tmp 4), type := 23, pos := "law.go:29", after := #[], guard := none }) (v := ?_) rfl (by kernel_rfl) (by kernel_rfl) (by kernel_rfl) (fun _ _ _ h => h) (Or.inl ⟨by rfl, ?_⟩) (by assumption) ?_
    rotate_left
    · (intro wS hSw; (try dsimp only at hSw); go_simp; (try with_reducible rfl))
    try simp only [Act.put, List.setIfInBounds_toArray, List.set_cons_zero, List.set_cons_succ]
    refine wpAnyH_take (i := 1) (oi := { dst := some 14, op := Op.move (Operand.tmp 1), type := 24, pos := "law.go:29", after := #[], guard := none }) (v := ?_) rfl (by kernel_rfl) (by kernel_rfl) (by kernel_rfl) (fun _ _ _ h => h) (Or.inl ⟨by rfl, ?_⟩) (by assumption) ?_
    rotate_left
    · (intro wS hSw; (try dsimp only at hSw); go_simp; (try with_reducible rfl))
    try simp only [Act.put, List.setIfInBounds_toArray, List.set_cons_zero, List.set_cons_succ]
    refine wpAnyH_take (i := 3) (oi := { dst := some 16, op := Op.load 23 (Operand.tmp 4), type := 23, pos := "law.go:29", after := #[], guard := none }) (v := ?_) rfl (by kernel_rfl) (by kernel_rfl) (by kernel_rfl) (fun _ _ _ h => h) (Or.inl ⟨by rfl, ?_⟩) (by assumption) ?_
    rotate_left
    · (intro wS hSw; (try dsimp only at hSw); go_simp; (try with_reducible rfl))
    try simp only [Act.put, List.setIfInBounds_toArray, List.set_cons_zero, List.set_cons_succ]
    refine wpAnyH_take (i := 4) (oi := { dst := some 17, op := Op.move (Operand.tmp 1), type := 24, pos := "law.go:29", after := #[], guard := none }) (v := ?_) rfl (by kernel_rfl) (by kernel_rfl) (by kernel_rfl) (fun _ _ _ h => h) (Or.inl ⟨by rfl, ?_⟩) (by assumption) ?_
    rotate_left
    · (intro wS hSw; (try dsimp only at hSw); go_simp; (try with_reducible rfl))
    try simp only [Act.put, List.setIfInBounds_toArray, List.set_cons_zero, List.set_cons_succ]
    refine wpAnyH_ready (rs := [2]) (by kernel_rfl) (by simp) ?_
    refine AllReadyH.cons (o := { dst := some 15, op := Op.call { callee := Callee.value (Operand.func 7), args := #[Operand.tmp 13, Operand.tmp 14], argTypes := #[23, 24] }, type := 4, pos := "law.go:29", after := #[{ on := 0, ground := Ground.data }, { on := 1, ground := Ground.data }], guard := none }) rfl (fun K hK => ?_) AllReadyH.nil
    go_simp
    (first
        | (go_at_call 7; refine (pMay_any _ _ _ _ _ fs _ _ _ (hH2.held hHeld.2.1 hHeld.2.2) hc0 HC1.out).mono ?_; rw [HM.out]; rintro e' w3 ⟨rfl, hb3⟩)
        | (go_at_call 8; refine (rpMay_any _ _ _ _ _ fs _ _ _ (hH2.held hHeld.2.1 hHeld.2.2)).mono ?_; rw [HM.out]; rintro e' w3 ⟨rfl, hb3⟩))
    go_wp2_with fail
    refine hK.out _ _ ?_ (fun hNew => ?_)
    · (first | exact ⟨hBw.drew, by simp, by simp⟩ | exact kept_step (by assumption) hb3)
    clear hK K hHeld
    have hHeld := hNew
    clear hNew
    try simp only [Act.put, List.setIfInBounds_toArray, List.set_cons_zero, List.set_cons_succ]
    refine wpAnyH_ready (rs := [5]) (by kernel_rfl) (by simp) ?_
    refine AllReadyH.cons (o := { dst := some 18, op := Op.call { callee := Callee.value (Operand.func 8), args := #[Operand.tmp 16, Operand.tmp 17], argTypes := #[23, 24] }, type := 4, pos := "law.go:29", after := #[{ on := 3, ground := Ground.data }, { on := 4, ground := Ground.data }, { on := 2, ground := Ground.chain }], guard := none }) rfl (fun K hK => ?_) AllReadyH.nil
    go_simp
    (first
        | (go_at_call 7; refine (pMay_any _ _ _ _ _ fs _ _ _ (hH2.held hHeld.2.1 hHeld.2.2) hc0 HC1.out).mono ?_; rw [HM.out]; rintro e' w3 ⟨rfl, hb3⟩)
        | (go_at_call 8; refine (rpMay_any _ _ _ _ _ fs _ _ _ (hH2.held hHeld.2.1 hHeld.2.2)).mono ?_; rw [HM.out]; rintro e' w3 ⟨rfl, hb3⟩))
    go_wp2_with fail
    refine hK.out _ _ ?_ (fun hNew => ?_)
    · (first | exact ⟨hBw.drew, by simp, by simp⟩ | exact kept_step (by assumption) hb3)
    clear hK K hHeld
    have hHeld := hNew
    clear hNew
    try simp only [Act.put, List.setIfInBounds_toArray, List.set_cons_zero, List.set_cons_succ]
    refine wpAnyH_take (i := 6) (oi := { dst := some 19, op := Op.binOp BinOp.neq 4 (Operand.tmp 15) (Operand.tmp 18) 4, type := 4, pos := "law.go:29", after := #[{ on := 2, ground := Ground.data }, { on := 5, ground := Ground.data }], guard := none }) (v := ?_) rfl (by kernel_rfl) (by kernel_rfl) (by kernel_rfl) (fun _ _ _ h => h) (Or.inl ⟨by rfl, ?_⟩) (by assumption) ?_
    rotate_left
    · (intro wS hSw; (try dsimp only at hSw); go_simp; (try with_reducible rfl))
    try simp only [Act.put, List.setIfInBounds_toArray, List.set_cons_zero, List.set_cons_succ]
    refine wpAnyH_done (by kernel_rfl) ?_ _
    refine NoPanic.normal ?_
    have H := hH2.held hHeld.2.1 hHeld.2.2
    have HB := hHeld.1
    have y0 := hHeld.2.2 w.heap.size 0 (by simp)
    have y1 := hHeld.2.2 w.heap.size 1 (by simp)
    have y2 := hHeld.2.2 w.heap.size 2 (by simp)
    have y3 := hHeld.2.2 w.heap.size 3 (by simp)
    have y4 := hHeld.2.2 w.heap.size 4 (by simp)
    simp at y0 y1 y2 y3 y4
    clear hHeld hBw hH2 h
    go_wp2_with (first
      | (go_at_call 8; refine (rpMay_any _ _ _ _ _ fs _ _ _ H).mono ?_; rw [HM.out]; rintro e' w1 ⟨rfl, hb1⟩; have H := H.next hb1; have HB := btr HB HB.size hb1; clear hb1)
      | (go_at_call 9; refine (Fails_any fs _ _ _ _ _ H n1).mono ?_; rintro e' w1 ⟨rfl, hb1⟩; have H := H.next hb1; have HB := btr HB HB.size hb1; clear hb1)
      | (go_at_call 10; refine (rFails_any fs _ _ _ _ _ H n1).mono ?_; rintro e' w1 ⟨rfl, hb1⟩; have H := H.next hb1; have HB := btr HB HB.size hb1; clear hb1)
      | (go_at_call 11; refine (Bad_any fs _ _ _ _ H n1).mono ?_; rintro e' w1 ⟨rfl, hb1⟩; have H := H.next hb1; have HB := btr HB HB.size hb1; clear hb1)
      | (go_at_call 12; refine (rBad_any fs _ _ _ _ H n1).mono ?_; rintro e' w1 ⟨rfl, hb1⟩; have H := H.next hb1; have HB := btr HB HB.size hb1; clear hb1)
      | (go_at_call 13; refine (Many_any fs _ _ _).mono ?_; rintro e' w1 ⟨rfl, rfl⟩)
      | (go_at_call 6; refine (awake_any _).mono ?_; rintro e' w2 ⟨rfl, hb2⟩))
    go_ret
    exact ⟨rfl, btr HB HB.size hb2⟩

end Go.Proofs.Ytibplajobggdmaa
