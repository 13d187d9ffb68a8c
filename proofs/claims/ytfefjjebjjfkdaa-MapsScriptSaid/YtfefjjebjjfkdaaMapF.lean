/- New of maps. -/
import Derived.Test.YtfefjjebjjfkdaaMapE
import Derived.Test.YtfefjjebjjfkdaaSameI
namespace Go.Proofs.Ytfefjjebjjfkdaa
open Go.ChangeShapes Go.WideShapes Go.ChangeAt Go.RowKit
set_option linter.unusedSimpArgs false
set_option linter.unusedVariables false

theorem below5 {w w' : World} {m : Nat} {v0 v1 v2 v3 v4 : Value} (hb : Below w.heap.size w w') (hm : m < w.heap.size)
    (h : w.cell? ⟨m, 0, none⟩ = some v0 ∧ w.cell? ⟨m, 1, none⟩ = some v1 ∧ w.cell? ⟨m, 2, none⟩ = some v2 ∧ w.cell? ⟨m, 3, none⟩ = some v3 ∧ w.cell? ⟨m, 4, none⟩ = some v4) :
    w'.cell? ⟨m, 0, none⟩ = some v0 ∧ w'.cell? ⟨m, 1, none⟩ = some v1 ∧ w'.cell? ⟨m, 2, none⟩ = some v2 ∧ w'.cell? ⟨m, 3, none⟩ = some v3 ∧ w'.cell? ⟨m, 4, none⟩ = some v4 := by
  obtain ⟨h0, h1, h2, h3, h4⟩ := h
  have q : ∀ i, w'.cell? ⟨m, i, none⟩ = w.cell? ⟨m, i, none⟩ := fun i => hb.cell (p := ⟨m, i, none⟩) hm
  exact ⟨(q 0).trans h0, (q 1).trans h1, (q 2).trans h2, (q 3).trans h3, (q 4).trans h4⟩
theorem build_one (z : Int) (w : World) : (Instr.buildSlice 41 1 #[(0, .int .i64 z)]).run Try.prog w = .ok (.slice (some ⟨w.heap.size, 0, none⟩) 1 1) (w.alloc (.cells #[.int .i64 z] 3)) := by kernel_rfl
theorem wp_build1m {w : World} {o : Oper} {a : Act} {K : Act → World → Prop} {Q : Exit → Act → World → Prop} (x : Operand) (hop : o.op = Op.buildSlice 41 1 #[(0, x)])
    (z : Int) (hx : a.eval x = .int .i64 z)
    (hK : ∀ w' b, Blk w' b 3 #[.int .i64 z] → w.heap.size ≤ b → Below w.heap.size w w' → K (a.put o.dst (.slice (some ⟨b, 0, none⟩) 1 1)) w') : Oper.wp Try.prog o a w K Q := by
  have hrun := build_one z w
  unfold Oper.wp
  simp [execOp, hop, hx, hrun, Result.andThen]
  exact hK _ _ (Blk.new_ _ _ _) (Nat.le_refl _) ((Below.refl _ _).alloc (Nat.le_refl _) _)
theorem box_map (a b c d e : Int) (g1 L c1 g2 N c2 : Nat) (w : World) : (Instr.box 52 (.agg #[.int .i64 a, .int .i64 b, .int .i64 c, .int .i64 d, .int .i64 e, .slice (some ⟨g1, 0, none⟩) L c1, .slice (some ⟨g2, 0, none⟩) N c2])).run Try.prog w = .ok (.pointer (some ⟨w.heap.size, 0, none⟩)) (w.alloc (.cells #[.int .i64 a, .int .i64 b, .int .i64 c, .int .i64 d, .int .i64 e, .slice (some ⟨g1, 0, none⟩) L c1, .slice (some ⟨g2, 0, none⟩) N c2] 52)) := by kernel_rfl
theorem wp_boxM {w : World} {o : Oper} {a' : Act} {K : Act → World → Prop} {Q : Exit → Act → World → Prop} (x : Operand) (hop : o.op = Op.box 52 x)
    (a b c d e : Int) {g1 L c1 g2 N c2 : Nat} (hx : a'.eval x = .agg #[.int .i64 a, .int .i64 b, .int .i64 c, .int .i64 d, .int .i64 e, .slice (some ⟨g1, 0, none⟩) L c1, .slice (some ⟨g2, 0, none⟩) N c2])
    (hK : ∀ w' m, Blk w' m 52 #[.int .i64 a, .int .i64 b, .int .i64 c, .int .i64 d, .int .i64 e, .slice (some ⟨g1, 0, none⟩) L c1, .slice (some ⟨g2, 0, none⟩) N c2] → w.heap.size ≤ m → Below w.heap.size w w' → K (a'.put o.dst (.pointer (some ⟨m, 0, none⟩))) w') : Oper.wp Try.prog o a' w K Q := by
  have hrun := box_map a b c d e g1 L c1 g2 N c2 w
  unfold Oper.wp
  simp [execOp, hop, hx, hrun, Result.andThen]
  exact hK _ _ (Blk.new_ _ _ _) (Nat.le_refl _) ((Below.refl _ _).alloc (Nat.le_refl _) _)
theorem logi_b (a b c d e : Int) (L : Nat) (w : World) (hm : Hid (mayB a b c d e = true)) (hl : Hid (logicalI a b d = (L : Int))) :
    Calls Try.prog 27 #[.agg #[.int .i64 a, .int .i64 b, .int .i64 c, .int .i64 d, .int .i64 e]] w fun e' w' => e' = .returned (.int .i64 (L : Int)) ∧ Below w.heap.size w w' := by
  have q := Logical_any a b c d e w
  rwa [ifMay_yes _ hm.out, hl.out] at q
theorem gmay_b (a b c d e : Int) (M : Bool) (w : World) (hm : Hid (mayB a b c d e = M)) :
    Calls Try.prog 25 #[.agg #[.int .i64 a, .int .i64 b, .int .i64 c, .int .i64 d, .int .i64 e]] w fun e' w' => e' = .returned (.bool M) ∧ Below w.heap.size w w' := by
  have q := may_any a b c d e w
  rwa [hm.out] at q
theorem rep_b (v : Int) (b n : Nat) (w : World) (hB : Blk w b 3 #[.int .i64 v]) (n1 : 1 ≤ n) (n2 : n ≤ 1000) :
    Calls Try.prog 26 #[.slice (some ⟨b, 0, none⟩) 1 1, .int .i64 (n : Int)] w fun e' w' => ∃ g, e' = .returned (.slice (some ⟨g, 0, none⟩) n n) ∧ w.heap.size ≤ g ∧ Row w' g (List.replicate n v) ∧ Below w.heap.size w w' := by
  refine (rep_any v b n w (hB.cell_ 0) hB.lt n1 n2).mono ?_
  rintro e' w' ⟨rfl, hb, hB'⟩
  exact ⟨_, rfl, Nat.le_refl _, Row.of_blk hB', hb⟩
theorem new_no (a b c d e : Int) (w : World) (hm : mayB a b c d e = false) :
    Calls Try.prog 7 #[.agg #[.int .i64 a, .int .i64 b, .int .i64 c, .int .i64 d, .int .i64 e]] w fun e' w' => e' = .returned (.pointer none) ∧ Below w.heap.size w w' := by
  have HM := Lib.hid hm
  clear hm
  have HB0 : Below w.heap.size w (w.alloc (.cells #[.int .i64 a, .int .i64 b, .int .i64 c, .int .i64 d, .int .i64 e] 23)) := (Below.refl _ _).alloc (Nat.le_refl _) _
  go_enter Try.func7, Try.ntmps7
  go_wp2_with (go_at_call 25; ((with_reducible refine (gmay_b _ _ _ _ _ _ _ HM).mono ?_); rintro e' wN ⟨rfl, hb⟩; have HB0 := btr HB0 HB0.size hb))
  go_ret
  exact ⟨rfl, HB0⟩
set_option maxHeartbeats 4000000 in
theorem new_yes (a b c d e : Int) (L N : Nat) (w : World) (HM : Hid (mayB a b c d e = true)) (HLOG : Hid (logicalI a b d = (L : Int))) (hab : (N : Int) = a * b) (n1 : 1 ≤ L) (n2 : L ≤ 1000) (m1 : 1 ≤ N) (m2 : N ≤ 1000) :
    Calls Try.prog 7 #[.agg #[.int .i64 a, .int .i64 b, .int .i64 c, .int .i64 d, .int .i64 e]] w fun e' w' => (∃ m g1 g2, e' = .returned (.pointer (some ⟨m, 0, none⟩)) ∧ MapW w' m g1 g2 a b c d e L N (List.replicate L (-1)) (List.replicate N (-1)) ∧ w.heap.size ≤ m ∧ w.heap.size ≤ g1 ∧ w.heap.size ≤ g2) ∧ Below w.heap.size w w' := by
  have hab' : a * b = (N : Int) := hab.symm
  have hwN : IntKind.i64.wrap (N : Int) = (N : Int) := wrapS _ (by omega) (by omega)
  have HB0 : Below w.heap.size w (w.alloc (.cells #[.int .i64 a, .int .i64 b, .int .i64 c, .int .i64 d, .int .i64 e] 23)) := (Below.refl _ _).alloc (Nat.le_refl _) _
  have G1 : Blk (w.alloc (.cells #[.int .i64 a, .int .i64 b, .int .i64 c, .int .i64 d, .int .i64 e] 23)) w.heap.size 23 #[.int .i64 a, .int .i64 b, .int .i64 c, .int .i64 d, .int .i64 e] := Blk.new_ _ _ _
  clear hab
  go_enter Try.func7, Try.ntmps7
  go_upto_region 3 with (go_at_call 25; ((with_reducible refine (gmay_b _ _ _ _ _ _ _ HM).mono ?_); rintro e' w1 ⟨rfl, hb⟩; have HB0 := btr HB0 HB0.size hb; have G1 := G1.below hb G1.lt))
  have HY : w1.drew.cell? ⟨w.heap.size, 0, none⟩ = some (.int .i64 a) ∧ w1.drew.cell? ⟨w.heap.size, 1, none⟩ = some (.int .i64 b) ∧ w1.drew.cell? ⟨w.heap.size, 2, none⟩ = some (.int .i64 c) ∧ w1.drew.cell? ⟨w.heap.size, 3, none⟩ = some (.int .i64 d) ∧ w1.drew.cell? ⟨w.heap.size, 4, none⟩ = some (.int .i64 e) := ⟨G1.cell_ 0, G1.cell_ 1, G1.cell_ 2, G1.cell_ 3, G1.cell_ 4⟩
  have HB0 := HB0.drew
  have HS : w.heap.size + 1 ≤ w1.drew.heap.size := G1.lt
  clear G1 hb
  refine wp_region_noPanic ?_
  refine wp_region_held_drew (S := (fun w' => w'.cell? ⟨w.heap.size, 0, none⟩ = some (.int .i64 a) ∧ w'.cell? ⟨w.heap.size, 1, none⟩ = some (.int .i64 b) ∧ w'.cell? ⟨w.heap.size, 2, none⟩ = some (.int .i64 c) ∧ w'.cell? ⟨w.heap.size, 3, none⟩ = some (.int .i64 d) ∧ w'.cell? ⟨w.heap.size, 4, none⟩ = some (.int .i64 e))) (by kernel_rfl) ?_ (fun hHeld => ?_)
  · (first | exact HY | assumption)
  refine wpAnyH_take (i := 0) (oi := { dst := some 6, op := Op.load 23 (Operand.tmp 1), type := 23, pos := "maps.go:25", after := #[], guard := none }) (v := ?_) rfl (by kernel_rfl) (by kernel_rfl) (by kernel_rfl) (fun _ _ _ h => h) (Or.inl ⟨by rfl, ?_⟩) (by assumption) ?_
  rotate_left
  · (intro wS hSw; (try dsimp only at hSw); go_simp; (try with_reducible rfl))
  try simp only [Act.put, List.setIfInBounds_toArray, List.set_cons_zero, List.set_cons_succ]
  refine wpAnyH_take (i := 2) (oi := { dst := some 8, op := Op.load 23 (Operand.tmp 1), type := 23, pos := "maps.go:25", after := #[], guard := none }) (v := ?_) rfl (by kernel_rfl) (by kernel_rfl) (by kernel_rfl) (fun _ _ _ h => h) (Or.inl ⟨by rfl, ?_⟩) (by assumption) ?_
  rotate_left
  · (intro wS hSw; (try dsimp only at hSw); go_simp; (try with_reducible rfl))
  try simp only [Act.put, List.setIfInBounds_toArray, List.set_cons_zero, List.set_cons_succ]
  refine wpAnyH_take (i := 6) (oi := { dst := some 12, op := Op.fieldAddr 23 (Operand.tmp 1) 0, type := 0, pos := "maps.go:25", after := #[], guard := none }) (v := ?_) rfl (by kernel_rfl) (by kernel_rfl) (by kernel_rfl) (fun _ _ _ h => h) (Or.inl ⟨by rfl, ?_⟩) (by assumption) ?_
  rotate_left
  · (intro wS hSw; (try dsimp only at hSw); go_simp; (try with_reducible rfl))
  try simp only [Act.put, List.setIfInBounds_toArray, List.set_cons_zero, List.set_cons_succ]
  refine wpAnyH_take (i := 7) (oi := { dst := some 13, op := Op.load 3 (Operand.tmp 12), type := 3, pos := "maps.go:25", after := #[{ on := 6, ground := Ground.data }], guard := none }) (v := ?_) rfl (by kernel_rfl) (by kernel_rfl) (by kernel_rfl) (fun _ _ _ h => h) (Or.inl ⟨by rfl, ?_⟩) (by assumption) ?_
  rotate_left
  · (intro wS hSw; (try dsimp only at hSw); go_simp; (try with_reducible rfl))
  try simp only [Act.put, List.setIfInBounds_toArray, List.set_cons_zero, List.set_cons_succ]
  refine wpAnyH_take (i := 8) (oi := { dst := some 14, op := Op.fieldAddr 23 (Operand.tmp 1) 1, type := 0, pos := "maps.go:25", after := #[], guard := none }) (v := ?_) rfl (by kernel_rfl) (by kernel_rfl) (by kernel_rfl) (fun _ _ _ h => h) (Or.inl ⟨by rfl, ?_⟩) (by assumption) ?_
  rotate_left
  · (intro wS hSw; (try dsimp only at hSw); go_simp; (try with_reducible rfl))
  try simp only [Act.put, List.setIfInBounds_toArray, List.set_cons_zero, List.set_cons_succ]
  refine wpAnyH_take (i := 9) (oi := { dst := some 15, op := Op.load 3 (Operand.tmp 14), type := 3, pos := "maps.go:25", after := #[{ on := 8, ground := Ground.data }], guard := none }) (v := ?_) rfl (by kernel_rfl) (by kernel_rfl) (by kernel_rfl) (fun _ _ _ h => h) (Or.inl ⟨by rfl, ?_⟩) (by assumption) ?_
  rotate_left
  · (intro wS hSw; (try dsimp only at hSw); go_simp; (try with_reducible rfl))
  try simp only [Act.put, List.setIfInBounds_toArray, List.set_cons_zero, List.set_cons_succ]
  refine wpAnyH_take (i := 10) (oi := { dst := some 16, op := Op.binOp BinOp.mul 3 (Operand.tmp 13) (Operand.tmp 15) 3, type := 3, pos := "maps.go:25", after := #[{ on := 7, ground := Ground.data }, { on := 9, ground := Ground.data }], guard := none }) (v := ?_) rfl (by kernel_rfl) (by kernel_rfl) (by kernel_rfl) (fun _ _ _ h => h) (Or.inl ⟨by rfl, ?_⟩) (by assumption) ?_
  rotate_left
  · (intro wS hSw; (try dsimp only at hSw); go_simp; (try with_reducible rfl))
  try simp only [Act.put, List.setIfInBounds_toArray, List.set_cons_zero, List.set_cons_succ]
  refine wpAnyH_ready (rs := [1, 3, 5]) (by kernel_rfl) (by simp) ?_
  refine (AllReadyH.cons (o := { dst := some 7, op := Op.buildSlice 41 1 #[(0, Operand.const (Value.int IntKind.i64 (-1)))], type := 41, pos := "maps.go:25", after := #[], guard := none }) rfl (fun K hK => ?_) (AllReadyH.cons (o := { dst := some 9, op := Op.call { callee := Callee.value (Operand.func 27), args := #[Operand.tmp 8], argTypes := #[23] }, type := 3, pos := "maps.go:27", after := #[{ on := 2, ground := Ground.data }], guard := none }) rfl (fun K hK => ?_) (AllReadyH.cons (o := { dst := some 11, op := Op.buildSlice 41 1 #[(0, Operand.const (Value.int IntKind.i64 (-1)))], type := 41, pos := "maps.go:25", after := #[], guard := none }) rfl (fun K hK => ?_) AllReadyH.nil)))
  · refine wp_build1m _ rfl (-1) rfl ?_
    intro wN b1 B1 hq1 hb
    (try have B5 := B5.below hb B5.lt)
    (try have R1 := R1.below hb)
    (try have R2 := R2.below hb)
    have HY := below5 hb (Nat.lt_of_lt_of_le (Nat.lt_succ_self _) HS) HY
    have HB0 := btr HB0 HB0.size hb
    have HS := Nat.le_trans HS hb.size
    refine hK.out _ _ ?_ (fun hNew => ?_)
    · (first | exact HY | assumption)
    clear hK K hHeld
    have hHeld := hNew
    clear hNew
    try simp only [Act.put, List.setIfInBounds_toArray, List.set_cons_zero, List.set_cons_succ]
    refine wpAnyH_ready (rs := [3, 5]) (by kernel_rfl) (by simp) ?_
    refine (AllReadyH.cons (o := { dst := some 9, op := Op.call { callee := Callee.value (Operand.func 27), args := #[Operand.tmp 8], argTypes := #[23] }, type := 3, pos := "maps.go:27", after := #[{ on := 2, ground := Ground.data }], guard := none }) rfl (fun K hK => ?_) (AllReadyH.cons (o := { dst := some 11, op := Op.buildSlice 41 1 #[(0, Operand.const (Value.int IntKind.i64 (-1)))], type := 41, pos := "maps.go:25", after := #[], guard := none }) rfl (fun K hK => ?_) AllReadyH.nil))
    · go_simp
      (go_at_call 27; ((with_reducible refine (logi_b _ _ _ _ _ L _ HM HLOG).mono ?_); rintro e' wN ⟨rfl, hb⟩))
      go_wp2_with fail
      (try have B1 := B1.below hb B1.lt)
      (try have B5 := B5.below hb B5.lt)
      (try have R1 := R1.below hb)
      (try have R2 := R2.below hb)
      have HY := below5 hb (Nat.lt_of_lt_of_le (Nat.lt_succ_self _) HS) HY
      have HB0 := btr HB0 HB0.size hb
      have HS := Nat.le_trans HS hb.size
      refine hK.out _ _ ?_ (fun hNew => ?_)
      · (first | exact HY | assumption)
      clear hK K hHeld
      have hHeld := hNew
      clear hNew
      try simp only [Act.put, List.setIfInBounds_toArray, List.set_cons_zero, List.set_cons_succ]
      refine wpAnyH_ready (rs := [4, 5]) (by kernel_rfl) (by simp) ?_
      refine (AllReadyH.cons (o := { dst := some 10, op := Op.call { callee := Callee.value (Operand.func 26), args := #[Operand.tmp 7, Operand.tmp 9], argTypes := #[41, 3] }, type := 41, pos := "maps.go:27", after := #[{ on := 1, ground := Ground.data }, { on := 3, ground := Ground.data }, { on := 3, ground := Ground.chain }], guard := none }) rfl (fun K hK => ?_) (AllReadyH.cons (o := { dst := some 11, op := Op.buildSlice 41 1 #[(0, Operand.const (Value.int IntKind.i64 (-1)))], type := 41, pos := "maps.go:25", after := #[], guard := none }) rfl (fun K hK => ?_) AllReadyH.nil))
      · go_simp
        (go_at_call 26; ((with_reducible refine (rep_b (-1) b1 L _ B1 n1 n2).mono ?_); rintro e' wN ⟨g1, rfl, hq, R1, hb⟩))
        go_wp2_with fail
        have hg1 := Nat.le_trans HS hq
        have hn1 : ∀ g, g < _ → g ≠ g1 := fun g hg he => Nat.lt_irrefl _ (Nat.lt_of_lt_of_le (he ▸ hg) hq)
        (try have B1 := B1.below hb B1.lt)
        (try have B5 := B5.below hb B5.lt)
        (try have R2 := R2.below hb)
        have HY := below5 hb (Nat.lt_of_lt_of_le (Nat.lt_succ_self _) HS) HY
        have HB0 := btr HB0 HB0.size hb
        have HS := Nat.le_trans HS hb.size
        refine hK.out _ _ ?_ (fun hNew => ?_)
        · (first | exact HY | assumption)
        clear hK K hHeld
        have hHeld := hNew
        clear hNew
        try simp only [Act.put, List.setIfInBounds_toArray, List.set_cons_zero, List.set_cons_succ]
        refine wpAnyH_ready (rs := [5]) (by kernel_rfl) (by simp) ?_
        refine AllReadyH.cons (o := { dst := some 11, op := Op.buildSlice 41 1 #[(0, Operand.const (Value.int IntKind.i64 (-1)))], type := 41, pos := "maps.go:25", after := #[], guard := none }) rfl (fun K hK => ?_) AllReadyH.nil
        refine wp_build1m _ rfl (-1) rfl ?_
        intro wN b5 B5 hq5 hb
        (try have B1 := B1.below hb B1.lt)
        (try have R1 := R1.below hb)
        (try have R2 := R2.below hb)
        have HY := below5 hb (Nat.lt_of_lt_of_le (Nat.lt_succ_self _) HS) HY
        have HB0 := btr HB0 HB0.size hb
        have HS := Nat.le_trans HS hb.size
        refine hK.out _ _ ?_ (fun hNew => ?_)
        · (first | exact HY | assumption)
        clear hK K hHeld
        have hHeld := hNew
        clear hNew
        try simp only [Act.put, List.setIfInBounds_toArray, List.set_cons_zero, List.set_cons_succ]
        refine wpAnyH_ready (rs := [11]) (by kernel_rfl) (by simp) ?_
        refine AllReadyH.cons (o := { dst := some 17, op := Op.call { callee := Callee.value (Operand.func 26), args := #[Operand.tmp 11, Operand.tmp 16], argTypes := #[41, 3] }, type := 41, pos := "maps.go:28", after := #[{ on := 5, ground := Ground.data }, { on := 10, ground := Ground.data }, { on := 4, ground := Ground.chain }], guard := none }) rfl (fun K hK => ?_) AllReadyH.nil
        go_simp
        (go_at_call 26; ((with_reducible refine (rep_b (-1) b5 N _ B5 m1 m2).mono ?_); rintro e' wN ⟨g2, rfl, hq, R2, hb⟩))
        go_wp2_with fail
        have hg2 := Nat.le_trans HS hq
        have hn2 : ∀ g, g < _ → g ≠ g2 := fun g hg he => Nat.lt_irrefl _ (Nat.lt_of_lt_of_le (he ▸ hg) hq)
        have h12 := hn2 g1 R1.lt
        (try have B1 := B1.below hb B1.lt)
        (try have B5 := B5.below hb B5.lt)
        (try have R1 := R1.below hb)
        have HY := below5 hb (Nat.lt_of_lt_of_le (Nat.lt_succ_self _) HS) HY
        have HB0 := btr HB0 HB0.size hb
        have HS := Nat.le_trans HS hb.size
        refine hK.out _ _ ?_ (fun hNew => ?_)
        · (first | exact HY | assumption)
        clear hK K hHeld
        have hHeld := hNew
        clear hNew
        try simp only [Act.put, List.setIfInBounds_toArray, List.set_cons_zero, List.set_cons_succ]
        refine wpAnyH_take (i := 12) (oi := { dst := some 18, op := Op.build 52 #[(0, Operand.tmp 6), (1, Operand.tmp 10), (2, Operand.tmp 17)], type := 52, pos := "maps.go:25", after := #[{ on := 0, ground := Ground.data }, { on := 4, ground := Ground.data }, { on := 11, ground := Ground.data }], guard := none }) (v := ?_) rfl (by kernel_rfl) (by kernel_rfl) (by kernel_rfl) (fun _ _ _ h => h) (Or.inl ⟨by rfl, ?_⟩) (by assumption) ?_
        rotate_left
        · (intro wS hSw; (try dsimp only at hSw); go_simp; (try with_reducible rfl))
        try simp only [Act.put, List.setIfInBounds_toArray, List.set_cons_zero, List.set_cons_succ]
        refine wpAnyH_ready (rs := [13]) (by kernel_rfl) (by simp) ?_
        refine AllReadyH.cons (o := { dst := some 19, op := Op.box 52 (Operand.tmp 18), type := 26, pos := "maps.go:25", after := #[{ on := 12, ground := Ground.data }], guard := none }) rfl (fun K hK => ?_) AllReadyH.nil
        refine wp_boxM _ rfl a b c d e rfl ?_
        intro wN m BM hq hb
        have hm := Nat.le_trans HS hq
        have h1 : m ≠ g1 := fun he => Nat.lt_irrefl _ (Nat.lt_of_lt_of_le (he ▸ R1.lt) hq)
        have h2 : m ≠ g2 := fun he => Nat.lt_irrefl _ (Nat.lt_of_lt_of_le (he ▸ R2.lt) hq)
        (try have B1 := B1.below hb B1.lt)
        (try have B5 := B5.below hb B5.lt)
        (try have R1 := R1.below hb)
        (try have R2 := R2.below hb)
        have HY := below5 hb (Nat.lt_of_lt_of_le (Nat.lt_succ_self _) HS) HY
        have HB0 := btr HB0 HB0.size hb
        have HS := Nat.le_trans HS hb.size
        refine hK.out _ _ ?_ (fun hNew => ?_)
        · (first | exact HY | assumption)
        clear hK K hHeld
        have hHeld := hNew
        clear hNew
        try simp only [Act.put, List.setIfInBounds_toArray, List.set_cons_zero, List.set_cons_succ]
        refine wpAnyH_take (i := 14) (oi := { dst := some 2, op := Op.assign (Operand.tmp 19), type := 26, pos := "maps.go:25", after := #[{ on := 13, ground := Ground.data }, { on := 11, ground := Ground.chain }, { on := 0, ground := Ground.phase }, { on := 1, ground := Ground.phase }, { on := 2, ground := Ground.phase }, { on := 3, ground := Ground.phase }, { on := 4, ground := Ground.phase }, { on := 5, ground := Ground.phase }, { on := 6, ground := Ground.phase }, { on := 7, ground := Ground.phase }, { on := 8, ground := Ground.phase }, { on := 9, ground := Ground.phase }, { on := 10, ground := Ground.phase }, { on := 11, ground := Ground.phase }, { on := 12, ground := Ground.phase }, { on := 13, ground := Ground.phase }], guard := none }) (v := ?_) rfl (by kernel_rfl) (by kernel_rfl) (by kernel_rfl) (fun _ _ _ h => h) (Or.inl ⟨by rfl, ?_⟩) (by assumption) ?_
        rotate_left
        · (intro wS hSw; (try dsimp only at hSw); go_simp; (try with_reducible rfl))
        try simp only [Act.put, List.setIfInBounds_toArray, List.set_cons_zero, List.set_cons_succ]
        refine wpAnyH_done (by kernel_rfl) ?_ _
        refine NoPanic.normal ?_
        go_wp2_with fail
        go_ret
        refine ⟨⟨m, g1, g2, rfl, ⟨⟨L, N, BM⟩, R1, R2, h12, h1, h2, InvM.start N L, by simp⟩, by omega, by omega, by omega⟩, HB0⟩
      · refine wp_build1m _ rfl (-1) rfl ?_
        intro wN b5 B5 hq5 hb
        (try have B1 := B1.below hb B1.lt)
        (try have R1 := R1.below hb)
        (try have R2 := R2.below hb)
        have HY := below5 hb (Nat.lt_of_lt_of_le (Nat.lt_succ_self _) HS) HY
        have HB0 := btr HB0 HB0.size hb
        have HS := Nat.le_trans HS hb.size
        refine hK.out _ _ ?_ (fun hNew => ?_)
        · (first | exact HY | assumption)
        clear hK K hHeld
        have hHeld := hNew
        clear hNew
        try simp only [Act.put, List.setIfInBounds_toArray, List.set_cons_zero, List.set_cons_succ]
        refine wpAnyH_ready (rs := [4]) (by kernel_rfl) (by simp) ?_
        refine AllReadyH.cons (o := { dst := some 10, op := Op.call { callee := Callee.value (Operand.func 26), args := #[Operand.tmp 7, Operand.tmp 9], argTypes := #[41, 3] }, type := 41, pos := "maps.go:27", after := #[{ on := 1, ground := Ground.data }, { on := 3, ground := Ground.data }, { on := 3, ground := Ground.chain }], guard := none }) rfl (fun K hK => ?_) AllReadyH.nil
        go_simp
        (go_at_call 26; ((with_reducible refine (rep_b (-1) b1 L _ B1 n1 n2).mono ?_); rintro e' wN ⟨g1, rfl, hq, R1, hb⟩))
        go_wp2_with fail
        have hg1 := Nat.le_trans HS hq
        have hn1 : ∀ g, g < _ → g ≠ g1 := fun g hg he => Nat.lt_irrefl _ (Nat.lt_of_lt_of_le (he ▸ hg) hq)
        (try have B1 := B1.below hb B1.lt)
        (try have B5 := B5.below hb B5.lt)
        (try have R2 := R2.below hb)
        have HY := below5 hb (Nat.lt_of_lt_of_le (Nat.lt_succ_self _) HS) HY
        have HB0 := btr HB0 HB0.size hb
        have HS := Nat.le_trans HS hb.size
        refine hK.out _ _ ?_ (fun hNew => ?_)
        · (first | exact HY | assumption)
        clear hK K hHeld
        have hHeld := hNew
        clear hNew
        try simp only [Act.put, List.setIfInBounds_toArray, List.set_cons_zero, List.set_cons_succ]
        refine wpAnyH_ready (rs := [11]) (by kernel_rfl) (by simp) ?_
        refine AllReadyH.cons (o := { dst := some 17, op := Op.call { callee := Callee.value (Operand.func 26), args := #[Operand.tmp 11, Operand.tmp 16], argTypes := #[41, 3] }, type := 41, pos := "maps.go:28", after := #[{ on := 5, ground := Ground.data }, { on := 10, ground := Ground.data }, { on := 4, ground := Ground.chain }], guard := none }) rfl (fun K hK => ?_) AllReadyH.nil
        go_simp
        (go_at_call 26; ((with_reducible refine (rep_b (-1) b5 N _ B5 m1 m2).mono ?_); rintro e' wN ⟨g2, rfl, hq, R2, hb⟩))
        go_wp2_with fail
        have hg2 := Nat.le_trans HS hq
        have hn2 : ∀ g, g < _ → g ≠ g2 := fun g hg he => Nat.lt_irrefl _ (Nat.lt_of_lt_of_le (he ▸ hg) hq)
        have h12 := hn2 g1 R1.lt
        (try have B1 := B1.below hb B1.lt)
        (try have B5 := B5.below hb B5.lt)
        (try have R1 := R1.below hb)
        have HY := below5 hb (Nat.lt_of_lt_of_le (Nat.lt_succ_self _) HS) HY
        have HB0 := btr HB0 HB0.size hb
        have HS := Nat.le_trans HS hb.size
        refine hK.out _ _ ?_ (fun hNew => ?_)
        · (first | exact HY | assumption)
        clear hK K hHeld
        have hHeld := hNew
        clear hNew
        try simp only [Act.put, List.setIfInBounds_toArray, List.set_cons_zero, List.set_cons_succ]
        refine wpAnyH_take (i := 12) (oi := { dst := some 18, op := Op.build 52 #[(0, Operand.tmp 6), (1, Operand.tmp 10), (2, Operand.tmp 17)], type := 52, pos := "maps.go:25", after := #[{ on := 0, ground := Ground.data }, { on := 4, ground := Ground.data }, { on := 11, ground := Ground.data }], guard := none }) (v := ?_) rfl (by kernel_rfl) (by kernel_rfl) (by kernel_rfl) (fun _ _ _ h => h) (Or.inl ⟨by rfl, ?_⟩) (by assumption) ?_
        rotate_left
        · (intro wS hSw; (try dsimp only at hSw); go_simp; (try with_reducible rfl))
        try simp only [Act.put, List.setIfInBounds_toArray, List.set_cons_zero, List.set_cons_succ]
        refine wpAnyH_ready (rs := [13]) (by kernel_rfl) (by simp) ?_
        refine AllReadyH.cons (o := { dst := some 19, op := Op.box 52 (Operand.tmp 18), type := 26, pos := "maps.go:25", after := #[{ on := 12, ground := Ground.data }], guard := none }) rfl (fun K hK => ?_) AllReadyH.nil
        refine wp_boxM _ rfl a b c d e rfl ?_
        intro wN m BM hq hb
        have hm := Nat.le_trans HS hq
        have h1 : m ≠ g1 := fun he => Nat.lt_irrefl _ (Nat.lt_of_lt_of_le (he ▸ R1.lt) hq)
        have h2 : m ≠ g2 := fun he => Nat.lt_irrefl _ (Nat.lt_of_lt_of_le (he ▸ R2.lt) hq)
        (try have B1 := B1.below hb B1.lt)
        (try have B5 := B5.below hb B5.lt)
        (try have R1 := R1.below hb)
        (try have R2 := R2.below hb)
        have HY := below5 hb (Nat.lt_of_lt_of_le (Nat.lt_succ_self _) HS) HY
        have HB0 := btr HB0 HB0.size hb
        have HS := Nat.le_trans HS hb.size
        refine hK.out _ _ ?_ (fun hNew => ?_)
        · (first | exact HY | assumption)
        clear hK K hHeld
        have hHeld := hNew
        clear hNew
        try simp only [Act.put, List.setIfInBounds_toArray, List.set_cons_zero, List.set_cons_succ]
        refine wpAnyH_take (i := 14) (oi := { dst := some 2, op := Op.assign (Operand.tmp 19), type := 26, pos := "maps.go:25", after := #[{ on := 13, ground := Ground.data }, { on := 11, ground := Ground.chain }, { on := 0, ground := Ground.phase }, { on := 1, ground := Ground.phase }, { on := 2, ground := Ground.phase }, { on := 3, ground := Ground.phase }, { on := 4, ground := Ground.phase }, { on := 5, ground := Ground.phase }, { on := 6, ground := Ground.phase }, { on := 7, ground := Ground.phase }, { on := 8, ground := Ground.phase }, { on := 9, ground := Ground.phase }, { on := 10, ground := Ground.phase }, { on := 11, ground := Ground.phase }, { on := 12, ground := Ground.phase }, { on := 13, ground := Ground.phase }], guard := none }) (v := ?_) rfl (by kernel_rfl) (by kernel_rfl) (by kernel_rfl) (fun _ _ _ h => h) (Or.inl ⟨by rfl, ?_⟩) (by assumption) ?_
        rotate_left
        · (intro wS hSw; (try dsimp only at hSw); go_simp; (try with_reducible rfl))
        try simp only [Act.put, List.setIfInBounds_toArray, List.set_cons_zero, List.set_cons_succ]
        refine wpAnyH_done (by kernel_rfl) ?_ _
        refine NoPanic.normal ?_
        go_wp2_with fail
        go_ret
        refine ⟨⟨m, g1, g2, rfl, ⟨⟨L, N, BM⟩, R1, R2, h12, h1, h2, InvM.start N L, by simp⟩, by omega, by omega, by omega⟩, HB0⟩
    · refine wp_build1m _ rfl (-1) rfl ?_
      intro wN b5 B5 hq5 hb
      (try have B1 := B1.below hb B1.lt)
      (try have R1 := R1.below hb)
      (try have R2 := R2.below hb)
      have HY := below5 hb (Nat.lt_of_lt_of_le (Nat.lt_succ_self _) HS) HY
      have HB0 := btr HB0 HB0.size hb
      have HS := Nat.le_trans HS hb.size
      refine hK.out _ _ ?_ (fun hNew => ?_)
      · (first | exact HY | assumption)
      clear hK K hHeld
      have hHeld := hNew
      clear hNew
      try simp only [Act.put, List.setIfInBounds_toArray, List.set_cons_zero, List.set_cons_succ]
      refine wpAnyH_ready (rs := [3]) (by kernel_rfl) (by simp) ?_
      refine AllReadyH.cons (o := { dst := some 9, op := Op.call { callee := Callee.value (Operand.func 27), args := #[Operand.tmp 8], argTypes := #[23] }, type := 3, pos := "maps.go:27", after := #[{ on := 2, ground := Ground.data }], guard := none }) rfl (fun K hK => ?_) AllReadyH.nil
      go_simp
      (go_at_call 27; ((with_reducible refine (logi_b _ _ _ _ _ L _ HM HLOG).mono ?_); rintro e' wN ⟨rfl, hb⟩))
      go_wp2_with fail
      (try have B1 := B1.below hb B1.lt)
      (try have B5 := B5.below hb B5.lt)
      (try have R1 := R1.below hb)
      (try have R2 := R2.below hb)
      have HY := below5 hb (Nat.lt_of_lt_of_le (Nat.lt_succ_self _) HS) HY
      have HB0 := btr HB0 HB0.size hb
      have HS := Nat.le_trans HS hb.size
      refine hK.out _ _ ?_ (fun hNew => ?_)
      · (first | exact HY | assumption)
      clear hK K hHeld
      have hHeld := hNew
      clear hNew
      try simp only [Act.put, List.setIfInBounds_toArray, List.set_cons_zero, List.set_cons_succ]
      refine wpAnyH_ready (rs := [4]) (by kernel_rfl) (by simp) ?_
      refine AllReadyH.cons (o := { dst := some 10, op := Op.call { callee := Callee.value (Operand.func 26), args := #[Operand.tmp 7, Operand.tmp 9], argTypes := #[41, 3] }, type := 41, pos := "maps.go:27", after := #[{ on := 1, ground := Ground.data }, { on := 3, ground := Ground.data }, { on := 3, ground := Ground.chain }], guard := none }) rfl (fun K hK => ?_) AllReadyH.nil
      go_simp
      (go_at_call 26; ((with_reducible refine (rep_b (-1) b1 L _ B1 n1 n2).mono ?_); rintro e' wN ⟨g1, rfl, hq, R1, hb⟩))
      go_wp2_with fail
      have hg1 := Nat.le_trans HS hq
      have hn1 : ∀ g, g < _ → g ≠ g1 := fun g hg he => Nat.lt_irrefl _ (Nat.lt_of_lt_of_le (he ▸ hg) hq)
      (try have B1 := B1.below hb B1.lt)
      (try have B5 := B5.below hb B5.lt)
      (try have R2 := R2.below hb)
      have HY := below5 hb (Nat.lt_of_lt_of_le (Nat.lt_succ_self _) HS) HY
      have HB0 := btr HB0 HB0.size hb
      have HS := Nat.le_trans HS hb.size
      refine hK.out _ _ ?_ (fun hNew => ?_)
      · (first | exact HY | assumption)
      clear hK K hHeld
      have hHeld := hNew
      clear hNew
      try simp only [Act.put, List.setIfInBounds_toArray, List.set_cons_zero, List.set_cons_succ]
      refine wpAnyH_ready (rs := [11]) (by kernel_rfl) (by simp) ?_
      refine AllReadyH.cons (o := { dst := some 17, op := Op.call { callee := Callee.value (Operand.func 26), args := #[Operand.tmp 11, Operand.tmp 16], argTypes := #[41, 3] }, type := 41, pos := "maps.go:28", after := #[{ on := 5, ground := Ground.data }, { on := 10, ground := Ground.data }, { on := 4, ground := Ground.chain }], guard := none }) rfl (fun K hK => ?_) AllReadyH.nil
      go_simp
      (go_at_call 26; ((with_reducible refine (rep_b (-1) b5 N _ B5 m1 m2).mono ?_); rintro e' wN ⟨g2, rfl, hq, R2, hb⟩))
      go_wp2_with fail
      have hg2 := Nat.le_trans HS hq
      have hn2 : ∀ g, g < _ → g ≠ g2 := fun g hg he => Nat.lt_irrefl _ (Nat.lt_of_lt_of_le (he ▸ hg) hq)
      have h12 := hn2 g1 R1.lt
      (try have B1 := B1.below hb B1.lt)
      (try have B5 := B5.below hb B5.lt)
      (try have R1 := R1.below hb)
      have HY := below5 hb (Nat.lt_of_lt_of_le (Nat.lt_succ_self _) HS) HY
      have HB0 := btr HB0 HB0.size hb
      have HS := Nat.le_trans HS hb.size
      refine hK.out _ _ ?_ (fun hNew => ?_)
      · (first | exact HY | assumption)
      clear hK K hHeld
      have hHeld := hNew
      clear hNew
      try simp only [Act.put, List.setIfInBounds_toArray, List.set_cons_zero, List.set_cons_succ]
      refine wpAnyH_take (i := 12) (oi := { dst := some 18, op := Op.build 52 #[(0, Operand.tmp 6), (1, Operand.tmp 10), (2, Operand.tmp 17)], type := 52, pos := "maps.go:25", after := #[{ on := 0, ground := Ground.data }, { on := 4, ground := Ground.data }, { on := 11, ground := Ground.data }], guard := none }) (v := ?_) rfl (by kernel_rfl) (by kernel_rfl) (by kernel_rfl) (fun _ _ _ h => h) (Or.inl ⟨by rfl, ?_⟩) (by assumption) ?_
      rotate_left
      · (intro wS hSw; (try dsimp only at hSw); go_simp; (try with_reducible rfl))
      try simp only [Act.put, List.setIfInBounds_toArray, List.set_cons_zero, List.set_cons_succ]
      refine wpAnyH_ready (rs := [13]) (by kernel_rfl) (by simp) ?_
      refine AllReadyH.cons (o := { dst := some 19, op := Op.box 52 (Operand.tmp 18), type := 26, pos := "maps.go:25", after := #[{ on := 12, ground := Ground.data }], guard := none }) rfl (fun K hK => ?_) AllReadyH.nil
      refine wp_boxM _ rfl a b c d e rfl ?_
      intro wN m BM hq hb
      have hm := Nat.le_trans HS hq
      have h1 : m ≠ g1 := fun he => Nat.lt_irrefl _ (Nat.lt_of_lt_of_le (he ▸ R1.lt) hq)
      have h2 : m ≠ g2 := fun he => Nat.lt_irrefl _ (Nat.lt_of_lt_of_le (he ▸ R2.lt) hq)
      (try have B1 := B1.below hb B1.lt)
      (try have B5 := B5.below hb B5.lt)
      (try have R1 := R1.below hb)
      (try have R2 := R2.below hb)
      have HY := below5 hb (Nat.lt_of_lt_of_le (Nat.lt_succ_self _) HS) HY
      have HB0 := btr HB0 HB0.size hb
      have HS := Nat.le_trans HS hb.size
      refine hK.out _ _ ?_ (fun hNew => ?_)
      · (first | exact HY | assumption)
      clear hK K hHeld
      have hHeld := hNew
      clear hNew
      try simp only [Act.put, List.setIfInBounds_toArray, List.set_cons_zero, List.set_cons_succ]
      refine wpAnyH_take (i := 14) (oi := { dst := some 2, op := Op.assign (Operand.tmp 19), type := 26, pos := "maps.go:25", after := #[{ on := 13, ground := Ground.data }, { on := 11, ground := Ground.chain }, { on := 0, ground := Ground.phase }, { on := 1, ground := Ground.phase }, { on := 2, ground := Ground.phase }, { on := 3, ground := Ground.phase }, { on := 4, ground := Ground.phase }, { on := 5, ground := Ground.phase }, { on := 6, ground := Ground.phase }, { on := 7, ground := Ground.phase }, { on := 8, ground := Ground.phase }, { on := 9, ground := Ground.phase }, { on := 10, ground := Ground.phase }, { on := 11, ground := Ground.phase }, { on := 12, ground := Ground.phase }, { on := 13, ground := Ground.phase }], guard := none }) (v := ?_) rfl (by kernel_rfl) (by kernel_rfl) (by kernel_rfl) (fun _ _ _ h => h) (Or.inl ⟨by rfl, ?_⟩) (by assumption) ?_
      rotate_left
      · (intro wS hSw; (try dsimp only at hSw); go_simp; (try with_reducible rfl))
      try simp only [Act.put, List.setIfInBounds_toArray, List.set_cons_zero, List.set_cons_succ]
      refine wpAnyH_done (by kernel_rfl) ?_ _
      refine NoPanic.normal ?_
      go_wp2_with fail
      go_ret
      refine ⟨⟨m, g1, g2, rfl, ⟨⟨L, N, BM⟩, R1, R2, h12, h1, h2, InvM.start N L, by simp⟩, by omega, by omega, by omega⟩, HB0⟩
  · go_simp
    (go_at_call 27; ((with_reducible refine (logi_b _ _ _ _ _ L _ HM HLOG).mono ?_); rintro e' wN ⟨rfl, hb⟩))
    go_wp2_with fail
    (try have B1 := B1.below hb B1.lt)
    (try have B5 := B5.below hb B5.lt)
    (try have R1 := R1.below hb)
    (try have R2 := R2.below hb)
    have HY := below5 hb (Nat.lt_of_lt_of_le (Nat.lt_succ_self _) HS) HY
    have HB0 := btr HB0 HB0.size hb
    have HS := Nat.le_trans HS hb.size
    refine hK.out _ _ ?_ (fun hNew => ?_)
    · (first | exact HY | assumption)
    clear hK K hHeld
    have hHeld := hNew
    clear hNew
    try simp only [Act.put, List.setIfInBounds_toArray, List.set_cons_zero, List.set_cons_succ]
    refine wpAnyH_ready (rs := [1, 5]) (by kernel_rfl) (by simp) ?_
    refine (AllReadyH.cons (o := { dst := some 7, op := Op.buildSlice 41 1 #[(0, Operand.const (Value.int IntKind.i64 (-1)))], type := 41, pos := "maps.go:25", after := #[], guard := none }) rfl (fun K hK => ?_) (AllReadyH.cons (o := { dst := some 11, op := Op.buildSlice 41 1 #[(0, Operand.const (Value.int IntKind.i64 (-1)))], type := 41, pos := "maps.go:25", after := #[], guard := none }) rfl (fun K hK => ?_) AllReadyH.nil))
    · refine wp_build1m _ rfl (-1) rfl ?_
      intro wN b1 B1 hq1 hb
      (try have B5 := B5.below hb B5.lt)
      (try have R1 := R1.below hb)
      (try have R2 := R2.below hb)
      have HY := below5 hb (Nat.lt_of_lt_of_le (Nat.lt_succ_self _) HS) HY
      have HB0 := btr HB0 HB0.size hb
      have HS := Nat.le_trans HS hb.size
      refine hK.out _ _ ?_ (fun hNew => ?_)
      · (first | exact HY | assumption)
      clear hK K hHeld
      have hHeld := hNew
      clear hNew
      try simp only [Act.put, List.setIfInBounds_toArray, List.set_cons_zero, List.set_cons_succ]
      refine wpAnyH_ready (rs := [4, 5]) (by kernel_rfl) (by simp) ?_
      refine (AllReadyH.cons (o := { dst := some 10, op := Op.call { callee := Callee.value (Operand.func 26), args := #[Operand.tmp 7, Operand.tmp 9], argTypes := #[41, 3] }, type := 41, pos := "maps.go:27", after := #[{ on := 1, ground := Ground.data }, { on := 3, ground := Ground.data }, { on := 3, ground := Ground.chain }], guard := none }) rfl (fun K hK => ?_) (AllReadyH.cons (o := { dst := some 11, op := Op.buildSlice 41 1 #[(0, Operand.const (Value.int IntKind.i64 (-1)))], type := 41, pos := "maps.go:25", after := #[], guard := none }) rfl (fun K hK => ?_) AllReadyH.nil))
      · go_simp
        (go_at_call 26; ((with_reducible refine (rep_b (-1) b1 L _ B1 n1 n2).mono ?_); rintro e' wN ⟨g1, rfl, hq, R1, hb⟩))
        go_wp2_with fail
        have hg1 := Nat.le_trans HS hq
        have hn1 : ∀ g, g < _ → g ≠ g1 := fun g hg he => Nat.lt_irrefl _ (Nat.lt_of_lt_of_le (he ▸ hg) hq)
        (try have B1 := B1.below hb B1.lt)
        (try have B5 := B5.below hb B5.lt)
        (try have R2 := R2.below hb)
        have HY := below5 hb (Nat.lt_of_lt_of_le (Nat.lt_succ_self _) HS) HY
        have HB0 := btr HB0 HB0.size hb
        have HS := Nat.le_trans HS hb.size
        refine hK.out _ _ ?_ (fun hNew => ?_)
        · (first | exact HY | assumption)
        clear hK K hHeld
        have hHeld := hNew
        clear hNew
        try simp only [Act.put, List.setIfInBounds_toArray, List.set_cons_zero, List.set_cons_succ]
        refine wpAnyH_ready (rs := [5]) (by kernel_rfl) (by simp) ?_
        refine AllReadyH.cons (o := { dst := some 11, op := Op.buildSlice 41 1 #[(0, Operand.const (Value.int IntKind.i64 (-1)))], type := 41, pos := "maps.go:25", after := #[], guard := none }) rfl (fun K hK => ?_) AllReadyH.nil
        refine wp_build1m _ rfl (-1) rfl ?_
        intro wN b5 B5 hq5 hb
        (try have B1 := B1.below hb B1.lt)
        (try have R1 := R1.below hb)
        (try have R2 := R2.below hb)
        have HY := below5 hb (Nat.lt_of_lt_of_le (Nat.lt_succ_self _) HS) HY
        have HB0 := btr HB0 HB0.size hb
        have HS := Nat.le_trans HS hb.size
        refine hK.out _ _ ?_ (fun hNew => ?_)
        · (first | exact HY | assumption)
        clear hK K hHeld
        have hHeld := hNew
        clear hNew
        try simp only [Act.put, List.setIfInBounds_toArray, List.set_cons_zero, List.set_cons_succ]
        refine wpAnyH_ready (rs := [11]) (by kernel_rfl) (by simp) ?_
        refine AllReadyH.cons (o := { dst := some 17, op := Op.call { callee := Callee.value (Operand.func 26), args := #[Operand.tmp 11, Operand.tmp 16], argTypes := #[41, 3] }, type := 41, pos := "maps.go:28", after := #[{ on := 5, ground := Ground.data }, { on := 10, ground := Ground.data }, { on := 4, ground := Ground.chain }], guard := none }) rfl (fun K hK => ?_) AllReadyH.nil
        go_simp
        (go_at_call 26; ((with_reducible refine (rep_b (-1) b5 N _ B5 m1 m2).mono ?_); rintro e' wN ⟨g2, rfl, hq, R2, hb⟩))
        go_wp2_with fail
        have hg2 := Nat.le_trans HS hq
        have hn2 : ∀ g, g < _ → g ≠ g2 := fun g hg he => Nat.lt_irrefl _ (Nat.lt_of_lt_of_le (he ▸ hg) hq)
        have h12 := hn2 g1 R1.lt
        (try have B1 := B1.below hb B1.lt)
        (try have B5 := B5.below hb B5.lt)
        (try have R1 := R1.below hb)
        have HY := below5 hb (Nat.lt_of_lt_of_le (Nat.lt_succ_self _) HS) HY
        have HB0 := btr HB0 HB0.size hb
        have HS := Nat.le_trans HS hb.size
        refine hK.out _ _ ?_ (fun hNew => ?_)
        · (first | exact HY | assumption)
        clear hK K hHeld
        have hHeld := hNew
        clear hNew
        try simp only [Act.put, List.setIfInBounds_toArray, List.set_cons_zero, List.set_cons_succ]
        refine wpAnyH_take (i := 12) (oi := { dst := some 18, op := Op.build 52 #[(0, Operand.tmp 6), (1, Operand.tmp 10), (2, Operand.tmp 17)], type := 52, pos := "maps.go:25", after := #[{ on := 0, ground := Ground.data }, { on := 4, ground := Ground.data }, { on := 11, ground := Ground.data }], guard := none }) (v := ?_) rfl (by kernel_rfl) (by kernel_rfl) (by kernel_rfl) (fun _ _ _ h => h) (Or.inl ⟨by rfl, ?_⟩) (by assumption) ?_
        rotate_left
        · (intro wS hSw; (try dsimp only at hSw); go_simp; (try with_reducible rfl))
        try simp only [Act.put, List.setIfInBounds_toArray, List.set_cons_zero, List.set_cons_succ]
        refine wpAnyH_ready (rs := [13]) (by kernel_rfl) (by simp) ?_
        refine AllReadyH.cons (o := { dst := some 19, op := Op.box 52 (Operand.tmp 18), type := 26, pos := "maps.go:25", after := #[{ on := 12, ground := Ground.data }], guard := none }) rfl (fun K hK => ?_) AllReadyH.nil
        refine wp_boxM _ rfl a b c d e rfl ?_
        intro wN m BM hq hb
        have hm := Nat.le_trans HS hq
        have h1 : m ≠ g1 := fun he => Nat.lt_irrefl _ (Nat.lt_of_lt_of_le (he ▸ R1.lt) hq)
        have h2 : m ≠ g2 := fun he => Nat.lt_irrefl _ (Nat.lt_of_lt_of_le (he ▸ R2.lt) hq)
        (try have B1 := B1.below hb B1.lt)
        (try have B5 := B5.below hb B5.lt)
        (try have R1 := R1.below hb)
        (try have R2 := R2.below hb)
        have HY := below5 hb (Nat.lt_of_lt_of_le (Nat.lt_succ_self _) HS) HY
        have HB0 := btr HB0 HB0.size hb
        have HS := Nat.le_trans HS hb.size
        refine hK.out _ _ ?_ (fun hNew => ?_)
        · (first | exact HY | assumption)
        clear hK K hHeld
        have hHeld := hNew
        clear hNew
        try simp only [Act.put, List.setIfInBounds_toArray, List.set_cons_zero, List.set_cons_succ]
        refine wpAnyH_take (i := 14) (oi := { dst := some 2, op := Op.assign (Operand.tmp 19), type := 26, pos := "maps.go:25", after := #[{ on := 13, ground := Ground.data }, { on := 11, ground := Ground.chain }, { on := 0, ground := Ground.phase }, { on := 1, ground := Ground.phase }, { on := 2, ground := Ground.phase }, { on := 3, ground := Ground.phase }, { on := 4, ground := Ground.phase }, { on := 5, ground := Ground.phase }, { on := 6, ground := Ground.phase }, { on := 7, ground := Ground.phase }, { on := 8, ground := Ground.phase }, { on := 9, ground := Ground.phase }, { on := 10, ground := Ground.phase }, { on := 11, ground := Ground.phase }, { on := 12, ground := Ground.phase }, { on := 13, ground := Ground.phase }], guard := none }) (v := ?_) rfl (by kernel_rfl) (by kernel_rfl) (by kernel_rfl) (fun _ _ _ h => h) (Or.inl ⟨by rfl, ?_⟩) (by assumption) ?_
        rotate_left
        · (intro wS hSw; (try dsimp only at hSw); go_simp; (try with_reducible rfl))
        try simp only [Act.put, List.setIfInBounds_toArray, List.set_cons_zero, List.set_cons_succ]
        refine wpAnyH_done (by kernel_rfl) ?_ _
        refine NoPanic.normal ?_
        go_wp2_with fail
        go_ret
        refine ⟨⟨m, g1, g2, rfl, ⟨⟨L, N, BM⟩, R1, R2, h12, h1, h2, InvM.start N L, by simp⟩, by omega, by omega, by omega⟩, HB0⟩
      · refine wp_build1m _ rfl (-1) rfl ?_
        intro wN b5 B5 hq5 hb
        (try have B1 := B1.below hb B1.lt)
        (try have R1 := R1.below hb)
        (try have R2 := R2.below hb)
        have HY := below5 hb (Nat.lt_of_lt_of_le (Nat.lt_succ_self _) HS) HY
        have HB0 := btr HB0 HB0.size hb
        have HS := Nat.le_trans HS hb.size
        refine hK.out _ _ ?_ (fun hNew => ?_)
        · (first | exact HY | assumption)
        clear hK K hHeld
        have hHeld := hNew
        clear hNew
        try simp only [Act.put, List.setIfInBounds_toArray, List.set_cons_zero, List.set_cons_succ]
        refine wpAnyH_ready (rs := [4]) (by kernel_rfl) (by simp) ?_
        refine AllReadyH.cons (o := { dst := some 10, op := Op.call { callee := Callee.value (Operand.func 26), args := #[Operand.tmp 7, Operand.tmp 9], argTypes := #[41, 3] }, type := 41, pos := "maps.go:27", after := #[{ on := 1, ground := Ground.data }, { on := 3, ground := Ground.data }, { on := 3, ground := Ground.chain }], guard := none }) rfl (fun K hK => ?_) AllReadyH.nil
        go_simp
        (go_at_call 26; ((with_reducible refine (rep_b (-1) b1 L _ B1 n1 n2).mono ?_); rintro e' wN ⟨g1, rfl, hq, R1, hb⟩))
        go_wp2_with fail
        have hg1 := Nat.le_trans HS hq
        have hn1 : ∀ g, g < _ → g ≠ g1 := fun g hg he => Nat.lt_irrefl _ (Nat.lt_of_lt_of_le (he ▸ hg) hq)
        (try have B1 := B1.below hb B1.lt)
        (try have B5 := B5.below hb B5.lt)
        (try have R2 := R2.below hb)
        have HY := below5 hb (Nat.lt_of_lt_of_le (Nat.lt_succ_self _) HS) HY
        have HB0 := btr HB0 HB0.size hb
        have HS := Nat.le_trans HS hb.size
        refine hK.out _ _ ?_ (fun hNew => ?_)
        · (first | exact HY | assumption)
        clear hK K hHeld
        have hHeld := hNew
        clear hNew
        try simp only [Act.put, List.setIfInBounds_toArray, List.set_cons_zero, List.set_cons_succ]
        refine wpAnyH_ready (rs := [11]) (by kernel_rfl) (by simp) ?_
        refine AllReadyH.cons (o := { dst := some 17, op := Op.call { callee := Callee.value (Operand.func 26), args := #[Operand.tmp 11, Operand.tmp 16], argTypes := #[41, 3] }, type := 41, pos := "maps.go:28", after := #[{ on := 5, ground := Ground.data }, { on := 10, ground := Ground.data }, { on := 4, ground := Ground.chain }], guard := none }) rfl (fun K hK => ?_) AllReadyH.nil
        go_simp
        (go_at_call 26; ((with_reducible refine (rep_b (-1) b5 N _ B5 m1 m2).mono ?_); rintro e' wN ⟨g2, rfl, hq, R2, hb⟩))
        go_wp2_with fail
        have hg2 := Nat.le_trans HS hq
        have hn2 : ∀ g, g < _ → g ≠ g2 := fun g hg he => Nat.lt_irrefl _ (Nat.lt_of_lt_of_le (he ▸ hg) hq)
        have h12 := hn2 g1 R1.lt
        (try have B1 := B1.below hb B1.lt)
        (try have B5 := B5.below hb B5.lt)
        (try have R1 := R1.below hb)
        have HY := below5 hb (Nat.lt_of_lt_of_le (Nat.lt_succ_self _) HS) HY
        have HB0 := btr HB0 HB0.size hb
        have HS := Nat.le_trans HS hb.size
        refine hK.out _ _ ?_ (fun hNew => ?_)
        · (first | exact HY | assumption)
        clear hK K hHeld
        have hHeld := hNew
        clear hNew
        try simp only [Act.put, List.setIfInBounds_toArray, List.set_cons_zero, List.set_cons_succ]
        refine wpAnyH_take (i := 12) (oi := { dst := some 18, op := Op.build 52 #[(0, Operand.tmp 6), (1, Operand.tmp 10), (2, Operand.tmp 17)], type := 52, pos := "maps.go:25", after := #[{ on := 0, ground := Ground.data }, { on := 4, ground := Ground.data }, { on := 11, ground := Ground.data }], guard := none }) (v := ?_) rfl (by kernel_rfl) (by kernel_rfl) (by kernel_rfl) (fun _ _ _ h => h) (Or.inl ⟨by rfl, ?_⟩) (by assumption) ?_
        rotate_left
        · (intro wS hSw; (try dsimp only at hSw); go_simp; (try with_reducible rfl))
        try simp only [Act.put, List.setIfInBounds_toArray, List.set_cons_zero, List.set_cons_succ]
        refine wpAnyH_ready (rs := [13]) (by kernel_rfl) (by simp) ?_
        refine AllReadyH.cons (o := { dst := some 19, op := Op.box 52 (Operand.tmp 18), type := 26, pos := "maps.go:25", after := #[{ on := 12, ground := Ground.data }], guard := none }) rfl (fun K hK => ?_) AllReadyH.nil
        refine wp_boxM _ rfl a b c d e rfl ?_
        intro wN m BM hq hb
        have hm := Nat.le_trans HS hq
        have h1 : m ≠ g1 := fun he => Nat.lt_irrefl _ (Nat.lt_of_lt_of_le (he ▸ R1.lt) hq)
        have h2 : m ≠ g2 := fun he => Nat.lt_irrefl _ (Nat.lt_of_lt_of_le (he ▸ R2.lt) hq)
        (try have B1 := B1.below hb B1.lt)
        (try have B5 := B5.below hb B5.lt)
        (try have R1 := R1.below hb)
        (try have R2 := R2.below hb)
        have HY := below5 hb (Nat.lt_of_lt_of_le (Nat.lt_succ_self _) HS) HY
        have HB0 := btr HB0 HB0.size hb
        have HS := Nat.le_trans HS hb.size
        refine hK.out _ _ ?_ (fun hNew => ?_)
        · (first | exact HY | assumption)
        clear hK K hHeld
        have hHeld := hNew
        clear hNew
        try simp only [Act.put, List.setIfInBounds_toArray, List.set_cons_zero, List.set_cons_succ]
        refine wpAnyH_take (i := 14) (oi := { dst := some 2, op := Op.assign (Operand.tmp 19), type := 26, pos := "maps.go:25", after := #[{ on := 13, ground := Ground.data }, { on := 11, ground := Ground.chain }, { on := 0, ground := Ground.phase }, { on := 1, ground := Ground.phase }, { on := 2, ground := Ground.phase }, { on := 3, ground := Ground.phase }, { on := 4, ground := Ground.phase }, { on := 5, ground := Ground.phase }, { on := 6, ground := Ground.phase }, { on := 7, ground := Ground.phase }, { on := 8, ground := Ground.phase }, { on := 9, ground := Ground.phase }, { on := 10, ground := Ground.phase }, { on := 11, ground := Ground.phase }, { on := 12, ground := Ground.phase }, { on := 13, ground := Ground.phase }], guard := none }) (v := ?_) rfl (by kernel_rfl) (by kernel_rfl) (by kernel_rfl) (fun _ _ _ h => h) (Or.inl ⟨by rfl, ?_⟩) (by assumption) ?_
        rotate_left
        · (intro wS hSw; (try dsimp only at hSw); go_simp; (try with_reducible rfl))
        try simp only [Act.put, List.setIfInBounds_toArray, List.set_cons_zero, List.set_cons_succ]
        refine wpAnyH_done (by kernel_rfl) ?_ _
        refine NoPanic.normal ?_
        go_wp2_with fail
        go_ret
        refine ⟨⟨m, g1, g2, rfl, ⟨⟨L, N, BM⟩, R1, R2, h12, h1, h2, InvM.start N L, by simp⟩, by omega, by omega, by omega⟩, HB0⟩
    · refine wp_build1m _ rfl (-1) rfl ?_
      intro wN b5 B5 hq5 hb
      (try have B1 := B1.below hb B1.lt)
      (try have R1 := R1.below hb)
      (try have R2 := R2.below hb)
      have HY := below5 hb (Nat.lt_of_lt_of_le (Nat.lt_succ_self _) HS) HY
      have HB0 := btr HB0 HB0.size hb
      have HS := Nat.le_trans HS hb.size
      refine hK.out _ _ ?_ (fun hNew => ?_)
      · (first | exact HY | assumption)
      clear hK K hHeld
      have hHeld := hNew
      clear hNew
      try simp only [Act.put, List.setIfInBounds_toArray, List.set_cons_zero, List.set_cons_succ]
      refine wpAnyH_ready (rs := [1]) (by kernel_rfl) (by simp) ?_
      refine AllReadyH.cons (o := { dst := some 7, op := Op.buildSlice 41 1 #[(0, Operand.const (Value.int IntKind.i64 (-1)))], type := 41, pos := "maps.go:25", after := #[], guard := none }) rfl (fun K hK => ?_) AllReadyH.nil
      refine wp_build1m _ rfl (-1) rfl ?_
      intro wN b1 B1 hq1 hb
      (try have B5 := B5.below hb B5.lt)
      (try have R1 := R1.below hb)
      (try have R2 := R2.below hb)
      have HY := below5 hb (Nat.lt_of_lt_of_le (Nat.lt_succ_self _) HS) HY
      have HB0 := btr HB0 HB0.size hb
      have HS := Nat.le_trans HS hb.size
      refine hK.out _ _ ?_ (fun hNew => ?_)
      · (first | exact HY | assumption)
      clear hK K hHeld
      have hHeld := hNew
      clear hNew
      try simp only [Act.put, List.setIfInBounds_toArray, List.set_cons_zero, List.set_cons_succ]
      refine wpAnyH_ready (rs := [4]) (by kernel_rfl) (by simp) ?_
      refine AllReadyH.cons (o := { dst := some 10, op := Op.call { callee := Callee.value (Operand.func 26), args := #[Operand.tmp 7, Operand.tmp 9], argTypes := #[41, 3] }, type := 41, pos := "maps.go:27", after := #[{ on := 1, ground := Ground.data }, { on := 3, ground := Ground.data }, { on := 3, ground := Ground.chain }], guard := none }) rfl (fun K hK => ?_) AllReadyH.nil
      go_simp
      (go_at_call 26; ((with_reducible refine (rep_b (-1) b1 L _ B1 n1 n2).mono ?_); rintro e' wN ⟨g1, rfl, hq, R1, hb⟩))
      go_wp2_with fail
      have hg1 := Nat.le_trans HS hq
      have hn1 : ∀ g, g < _ → g ≠ g1 := fun g hg he => Nat.lt_irrefl _ (Nat.lt_of_lt_of_le (he ▸ hg) hq)
      (try have B1 := B1.below hb B1.lt)
      (try have B5 := B5.below hb B5.lt)
      (try have R2 := R2.below hb)
      have HY := below5 hb (Nat.lt_of_lt_of_le (Nat.lt_succ_self _) HS) HY
      have HB0 := btr HB0 HB0.size hb
      have HS := Nat.le_trans HS hb.size
      refine hK.out _ _ ?_ (fun hNew => ?_)
      · (first | exact HY | assumption)
      clear hK K hHeld
      have hHeld := hNew
      clear hNew
      try simp only [Act.put, List.setIfInBounds_toArray, List.set_cons_zero, List.set_cons_succ]
      refine wpAnyH_ready (rs := [11]) (by kernel_rfl) (by simp) ?_
      refine AllReadyH.cons (o := { dst := some 17, op := Op.call { callee := Callee.value (Operand.func 26), args := #[Operand.tmp 11, Operand.tmp 16], argTypes := #[41, 3] }, type := 41, pos := "maps.go:28", after := #[{ on := 5, ground := Ground.data }, { on := 10, ground := Ground.data }, { on := 4, ground := Ground.chain }], guard := none }) rfl (fun K hK => ?_) AllReadyH.nil
      go_simp
      (go_at_call 26; ((with_reducible refine (rep_b (-1) b5 N _ B5 m1 m2).mono ?_); rintro e' wN ⟨g2, rfl, hq, R2, hb⟩))
      go_wp2_with fail
      have hg2 := Nat.le_trans HS hq
      have hn2 : ∀ g, g < _ → g ≠ g2 := fun g hg he => Nat.lt_irrefl _ (Nat.lt_of_lt_of_le (he ▸ hg) hq)
      have h12 := hn2 g1 R1.lt
      (try have B1 := B1.below hb B1.lt)
      (try have B5 := B5.below hb B5.lt)
      (try have R1 := R1.below hb)
      have HY := below5 hb (Nat.lt_of_lt_of_le (Nat.lt_succ_self _) HS) HY
      have HB0 := btr HB0 HB0.size hb
      have HS := Nat.le_trans HS hb.size
      refine hK.out _ _ ?_ (fun hNew => ?_)
      · (first | exact HY | assumption)
      clear hK K hHeld
      have hHeld := hNew
      clear hNew
      try simp only [Act.put, List.setIfInBounds_toArray, List.set_cons_zero, List.set_cons_succ]
      refine wpAnyH_take (i := 12) (oi := { dst := some 18, op := Op.build 52 #[(0, Operand.tmp 6), (1, Operand.tmp 10), (2, Operand.tmp 17)], type := 52, pos := "maps.go:25", after := #[{ on := 0, ground := Ground.data }, { on := 4, ground := Ground.data }, { on := 11, ground := Ground.data }], guard := none }) (v := ?_) rfl (by kernel_rfl) (by kernel_rfl) (by kernel_rfl) (fun _ _ _ h => h) (Or.inl ⟨by rfl, ?_⟩) (by assumption) ?_
      rotate_left
      · (intro wS hSw; (try dsimp only at hSw); go_simp; (try with_reducible rfl))
      try simp only [Act.put, List.setIfInBounds_toArray, List.set_cons_zero, List.set_cons_succ]
      refine wpAnyH_ready (rs := [13]) (by kernel_rfl) (by simp) ?_
      refine AllReadyH.cons (o := { dst := some 19, op := Op.box 52 (Operand.tmp 18), type := 26, pos := "maps.go:25", after := #[{ on := 12, ground := Ground.data }], guard := none }) rfl (fun K hK => ?_) AllReadyH.nil
      refine wp_boxM _ rfl a b c d e rfl ?_
      intro wN m BM hq hb
      have hm := Nat.le_trans HS hq
      have h1 : m ≠ g1 := fun he => Nat.lt_irrefl _ (Nat.lt_of_lt_of_le (he ▸ R1.lt) hq)
      have h2 : m ≠ g2 := fun he => Nat.lt_irrefl _ (Nat.lt_of_lt_of_le (he ▸ R2.lt) hq)
      (try have B1 := B1.below hb B1.lt)
      (try have B5 := B5.below hb B5.lt)
      (try have R1 := R1.below hb)
      (try have R2 := R2.below hb)
      have HY := below5 hb (Nat.lt_of_lt_of_le (Nat.lt_succ_self _) HS) HY
      have HB0 := btr HB0 HB0.size hb
      have HS := Nat.le_trans HS hb.size
      refine hK.out _ _ ?_ (fun hNew => ?_)
      · (first | exact HY | assumption)
      clear hK K hHeld
      have hHeld := hNew
      clear hNew
      try simp only [Act.put, List.setIfInBounds_toArray, List.set_cons_zero, List.set_cons_succ]
      refine wpAnyH_take (i := 14) (oi := { dst := some 2, op := Op.assign (Operand.tmp 19), type := 26, pos := "maps.go:25", after := #[{ on := 13, ground := Ground.data }, { on := 11, ground := Ground.chain }, { on := 0, ground := Ground.phase }, { on := 1, ground := Ground.phase }, { on := 2, ground := Ground.phase }, { on := 3, ground := Ground.phase }, { on := 4, ground := Ground.phase }, { on := 5, ground := Ground.phase }, { on := 6, ground := Ground.phase }, { on := 7, ground := Ground.phase }, { on := 8, ground := Ground.phase }, { on := 9, ground := Ground.phase }, { on := 10, ground := Ground.phase }, { on := 11, ground := Ground.phase }, { on := 12, ground := Ground.phase }, { on := 13, ground := Ground.phase }], guard := none }) (v := ?_) rfl (by kernel_rfl) (by kernel_rfl) (by kernel_rfl) (fun _ _ _ h => h) (Or.inl ⟨by rfl, ?_⟩) (by assumption) ?_
      rotate_left
      · (intro wS hSw; (try dsimp only at hSw); go_simp; (try with_reducible rfl))
      try simp only [Act.put, List.setIfInBounds_toArray, List.set_cons_zero, List.set_cons_succ]
      refine wpAnyH_done (by kernel_rfl) ?_ _
      refine NoPanic.normal ?_
      go_wp2_with fail
      go_ret
      refine ⟨⟨m, g1, g2, rfl, ⟨⟨L, N, BM⟩, R1, R2, h12, h1, h2, InvM.start N L, by simp⟩, by omega, by omega, by omega⟩, HB0⟩
  · refine wp_build1m _ rfl (-1) rfl ?_
    intro wN b5 B5 hq5 hb
    (try have B1 := B1.below hb B1.lt)
    (try have R1 := R1.below hb)
    (try have R2 := R2.below hb)
    have HY := below5 hb (Nat.lt_of_lt_of_le (Nat.lt_succ_self _) HS) HY
    have HB0 := btr HB0 HB0.size hb
    have HS := Nat.le_trans HS hb.size
    refine hK.out _ _ ?_ (fun hNew => ?_)
    · (first | exact HY | assumption)
    clear hK K hHeld
    have hHeld := hNew
    clear hNew
    try simp only [Act.put, List.setIfInBounds_toArray, List.set_cons_zero, List.set_cons_succ]
    refine wpAnyH_ready (rs := [1, 3]) (by kernel_rfl) (by simp) ?_
    refine (AllReadyH.cons (o := { dst := some 7, op := Op.buildSlice 41 1 #[(0, Operand.const (Value.int IntKind.i64 (-1)))], type := 41, pos := "maps.go:25", after := #[], guard := none }) rfl (fun K hK => ?_) (AllReadyH.cons (o := { dst := some 9, op := Op.call { callee := Callee.value (Operand.func 27), args := #[Operand.tmp 8], argTypes := #[23] }, type := 3, pos := "maps.go:27", after := #[{ on := 2, ground := Ground.data }], guard := none }) rfl (fun K hK => ?_) AllReadyH.nil))
    · refine wp_build1m _ rfl (-1) rfl ?_
      intro wN b1 B1 hq1 hb
      (try have B5 := B5.below hb B5.lt)
      (try have R1 := R1.below hb)
      (try have R2 := R2.below hb)
      have HY := below5 hb (Nat.lt_of_lt_of_le (Nat.lt_succ_self _) HS) HY
      have HB0 := btr HB0 HB0.size hb
      have HS := Nat.le_trans HS hb.size
      refine hK.out _ _ ?_ (fun hNew => ?_)
      · (first | exact HY | assumption)
      clear hK K hHeld
      have hHeld := hNew
      clear hNew
      try simp only [Act.put, List.setIfInBounds_toArray, List.set_cons_zero, List.set_cons_succ]
      refine wpAnyH_ready (rs := [3]) (by kernel_rfl) (by simp) ?_
      refine AllReadyH.cons (o := { dst := some 9, op := Op.call { callee := Callee.value (Operand.func 27), args := #[Operand.tmp 8], argTypes := #[23] }, type := 3, pos := "maps.go:27", after := #[{ on := 2, ground := Ground.data }], guard := none }) rfl (fun K hK => ?_) AllReadyH.nil
      go_simp
      (go_at_call 27; ((with_reducible refine (logi_b _ _ _ _ _ L _ HM HLOG).mono ?_); rintro e' wN ⟨rfl, hb⟩))
      go_wp2_with fail
      (try have B1 := B1.below hb B1.lt)
      (try have B5 := B5.below hb B5.lt)
      (try have R1 := R1.below hb)
      (try have R2 := R2.below hb)
      have HY := below5 hb (Nat.lt_of_lt_of_le (Nat.lt_succ_self _) HS) HY
      have HB0 := btr HB0 HB0.size hb
      have HS := Nat.le_trans HS hb.size
      refine hK.out _ _ ?_ (fun hNew => ?_)
      · (first | exact HY | assumption)
      clear hK K hHeld
      have hHeld := hNew
      clear hNew
      try simp only [Act.put, List.setIfInBounds_toArray, List.set_cons_zero, List.set_cons_succ]
      refine wpAnyH_ready (rs := [4]) (by kernel_rfl) (by simp) ?_
      refine AllReadyH.cons (o := { dst := some 10, op := Op.call { callee := Callee.value (Operand.func 26), args := #[Operand.tmp 7, Operand.tmp 9], argTypes := #[41, 3] }, type := 41, pos := "maps.go:27", after := #[{ on := 1, ground := Ground.data }, { on := 3, ground := Ground.data }, { on := 3, ground := Ground.chain }], guard := none }) rfl (fun K hK => ?_) AllReadyH.nil
      go_simp
      (go_at_call 26; ((with_reducible refine (rep_b (-1) b1 L _ B1 n1 n2).mono ?_); rintro e' wN ⟨g1, rfl, hq, R1, hb⟩))
      go_wp2_with fail
      have hg1 := Nat.le_trans HS hq
      have hn1 : ∀ g, g < _ → g ≠ g1 := fun g hg he => Nat.lt_irrefl _ (Nat.lt_of_lt_of_le (he ▸ hg) hq)
      (try have B1 := B1.below hb B1.lt)
      (try have B5 := B5.below hb B5.lt)
      (try have R2 := R2.below hb)
      have HY := below5 hb (Nat.lt_of_lt_of_le (Nat.lt_succ_self _) HS) HY
      have HB0 := btr HB0 HB0.size hb
      have HS := Nat.le_trans HS hb.size
      refine hK.out _ _ ?_ (fun hNew => ?_)
      · (first | exact HY | assumption)
      clear hK K hHeld
      have hHeld := hNew
      clear hNew
      try simp only [Act.put, List.setIfInBounds_toArray, List.set_cons_zero, List.set_cons_succ]
      refine wpAnyH_ready (rs := [11]) (by kernel_rfl) (by simp) ?_
      refine AllReadyH.cons (o := { dst := some 17, op := Op.call { callee := Callee.value (Operand.func 26), args := #[Operand.tmp 11, Operand.tmp 16], argTypes := #[41, 3] }, type := 41, pos := "maps.go:28", after := #[{ on := 5, ground := Ground.data }, { on := 10, ground := Ground.data }, { on := 4, ground := Ground.chain }], guard := none }) rfl (fun K hK => ?_) AllReadyH.nil
      go_simp
      (go_at_call 26; ((with_reducible refine (rep_b (-1) b5 N _ B5 m1 m2).mono ?_); rintro e' wN ⟨g2, rfl, hq, R2, hb⟩))
      go_wp2_with fail
      have hg2 := Nat.le_trans HS hq
      have hn2 : ∀ g, g < _ → g ≠ g2 := fun g hg he => Nat.lt_irrefl _ (Nat.lt_of_lt_of_le (he ▸ hg) hq)
      have h12 := hn2 g1 R1.lt
      (try have B1 := B1.below hb B1.lt)
      (try have B5 := B5.below hb B5.lt)
      (try have R1 := R1.below hb)
      have HY := below5 hb (Nat.lt_of_lt_of_le (Nat.lt_succ_self _) HS) HY
      have HB0 := btr HB0 HB0.size hb
      have HS := Nat.le_trans HS hb.size
      refine hK.out _ _ ?_ (fun hNew => ?_)
      · (first | exact HY | assumption)
      clear hK K hHeld
      have hHeld := hNew
      clear hNew
      try simp only [Act.put, List.setIfInBounds_toArray, List.set_cons_zero, List.set_cons_succ]
      refine wpAnyH_take (i := 12) (oi := { dst := some 18, op := Op.build 52 #[(0, Operand.tmp 6), (1, Operand.tmp 10), (2, Operand.tmp 17)], type := 52, pos := "maps.go:25", after := #[{ on := 0, ground := Ground.data }, { on := 4, ground := Ground.data }, { on := 11, ground := Ground.data }], guard := none }) (v := ?_) rfl (by kernel_rfl) (by kernel_rfl) (by kernel_rfl) (fun _ _ _ h => h) (Or.inl ⟨by rfl, ?_⟩) (by assumption) ?_
      rotate_left
      · (intro wS hSw; (try dsimp only at hSw); go_simp; (try with_reducible rfl))
      try simp only [Act.put, List.setIfInBounds_toArray, List.set_cons_zero, List.set_cons_succ]
      refine wpAnyH_ready (rs := [13]) (by kernel_rfl) (by simp) ?_
      refine AllReadyH.cons (o := { dst := some 19, op := Op.box 52 (Operand.tmp 18), type := 26, pos := "maps.go:25", after := #[{ on := 12, ground := Ground.data }], guard := none }) rfl (fun K hK => ?_) AllReadyH.nil
      refine wp_boxM _ rfl a b c d e rfl ?_
      intro wN m BM hq hb
      have hm := Nat.le_trans HS hq
      have h1 : m ≠ g1 := fun he => Nat.lt_irrefl _ (Nat.lt_of_lt_of_le (he ▸ R1.lt) hq)
      have h2 : m ≠ g2 := fun he => Nat.lt_irrefl _ (Nat.lt_of_lt_of_le (he ▸ R2.lt) hq)
      (try have B1 := B1.below hb B1.lt)
      (try have B5 := B5.below hb B5.lt)
      (try have R1 := R1.below hb)
      (try have R2 := R2.below hb)
      have HY := below5 hb (Nat.lt_of_lt_of_le (Nat.lt_succ_self _) HS) HY
      have HB0 := btr HB0 HB0.size hb
      have HS := Nat.le_trans HS hb.size
      refine hK.out _ _ ?_ (fun hNew => ?_)
      · (first | exact HY | assumption)
      clear hK K hHeld
      have hHeld := hNew
      clear hNew
      try simp only [Act.put, List.setIfInBounds_toArray, List.set_cons_zero, List.set_cons_succ]
      refine wpAnyH_take (i := 14) (oi := { dst := some 2, op := Op.assign (Operand.tmp 19), type := 26, pos := "maps.go:25", after := #[{ on := 13, ground := Ground.data }, { on := 11, ground := Ground.chain }, { on := 0, ground := Ground.phase }, { on := 1, ground := Ground.phase }, { on := 2, ground := Ground.phase }, { on := 3, ground := Ground.phase }, { on := 4, ground := Ground.phase }, { on := 5, ground := Ground.phase }, { on := 6, ground := Ground.phase }, { on := 7, ground := Ground.phase }, { on := 8, ground := Ground.phase }, { on := 9, ground := Ground.phase }, { on := 10, ground := Ground.phase }, { on := 11, ground := Ground.phase }, { on := 12, ground := Ground.phase }, { on := 13, ground := Ground.phase }], guard := none }) (v := ?_) rfl (by kernel_rfl) (by kernel_rfl) (by kernel_rfl) (fun _ _ _ h => h) (Or.inl ⟨by rfl, ?_⟩) (by assumption) ?_
      rotate_left
      · (intro wS hSw; (try dsimp only at hSw); go_simp; (try with_reducible rfl))
      try simp only [Act.put, List.setIfInBounds_toArray, List.set_cons_zero, List.set_cons_succ]
      refine wpAnyH_done (by kernel_rfl) ?_ _
      refine NoPanic.normal ?_
      go_wp2_with fail
      go_ret
      refine ⟨⟨m, g1, g2, rfl, ⟨⟨L, N, BM⟩, R1, R2, h12, h1, h2, InvM.start N L, by simp⟩, by omega, by omega, by omega⟩, HB0⟩
    · go_simp
      (go_at_call 27; ((with_reducible refine (logi_b _ _ _ _ _ L _ HM HLOG).mono ?_); rintro e' wN ⟨rfl, hb⟩))
      go_wp2_with fail
      (try have B1 := B1.below hb B1.lt)
      (try have B5 := B5.below hb B5.lt)
      (try have R1 := R1.below hb)
      (try have R2 := R2.below hb)
      have HY := below5 hb (Nat.lt_of_lt_of_le (Nat.lt_succ_self _) HS) HY
      have HB0 := btr HB0 HB0.size hb
      have HS := Nat.le_trans HS hb.size
      refine hK.out _ _ ?_ (fun hNew => ?_)
      · (first | exact HY | assumption)
      clear hK K hHeld
      have hHeld := hNew
      clear hNew
      try simp only [Act.put, List.setIfInBounds_toArray, List.set_cons_zero, List.set_cons_succ]
      refine wpAnyH_ready (rs := [1]) (by kernel_rfl) (by simp) ?_
      refine AllReadyH.cons (o := { dst := some 7, op := Op.buildSlice 41 1 #[(0, Operand.const (Value.int IntKind.i64 (-1)))], type := 41, pos := "maps.go:25", after := #[], guard := none }) rfl (fun K hK => ?_) AllReadyH.nil
      refine wp_build1m _ rfl (-1) rfl ?_
      intro wN b1 B1 hq1 hb
      (try have B5 := B5.below hb B5.lt)
      (try have R1 := R1.below hb)
      (try have R2 := R2.below hb)
      have HY := below5 hb (Nat.lt_of_lt_of_le (Nat.lt_succ_self _) HS) HY
      have HB0 := btr HB0 HB0.size hb
      have HS := Nat.le_trans HS hb.size
      refine hK.out _ _ ?_ (fun hNew => ?_)
      · (first | exact HY | assumption)
      clear hK K hHeld
      have hHeld := hNew
      clear hNew
      try simp only [Act.put, List.setIfInBounds_toArray, List.set_cons_zero, List.set_cons_succ]
      refine wpAnyH_ready (rs := [4]) (by kernel_rfl) (by simp) ?_
      refine AllReadyH.cons (o := { dst := some 10, op := Op.call { callee := Callee.value (Operand.func 26), args := #[Operand.tmp 7, Operand.tmp 9], argTypes := #[41, 3] }, type := 41, pos := "maps.go:27", after := #[{ on := 1, ground := Ground.data }, { on := 3, ground := Ground.data }, { on := 3, ground := Ground.chain }], guard := none }) rfl (fun K hK => ?_) AllReadyH.nil
      go_simp
      (go_at_call 26; ((with_reducible refine (rep_b (-1) b1 L _ B1 n1 n2).mono ?_); rintro e' wN ⟨g1, rfl, hq, R1, hb⟩))
      go_wp2_with fail
      have hg1 := Nat.le_trans HS hq
      have hn1 : ∀ g, g < _ → g ≠ g1 := fun g hg he => Nat.lt_irrefl _ (Nat.lt_of_lt_of_le (he ▸ hg) hq)
      (try have B1 := B1.below hb B1.lt)
      (try have B5 := B5.below hb B5.lt)
      (try have R2 := R2.below hb)
      have HY := below5 hb (Nat.lt_of_lt_of_le (Nat.lt_succ_self _) HS) HY
      have HB0 := btr HB0 HB0.size hb
      have HS := Nat.le_trans HS hb.size
      refine hK.out _ _ ?_ (fun hNew => ?_)
      · (first | exact HY | assumption)
      clear hK K hHeld
      have hHeld := hNew
      clear hNew
      try simp only [Act.put, List.setIfInBounds_toArray, List.set_cons_zero, List.set_cons_succ]
      refine wpAnyH_ready (rs := [11]) (by kernel_rfl) (by simp) ?_
      refine AllReadyH.cons (o := { dst := some 17, op := Op.call { callee := Callee.value (Operand.func 26), args := #[Operand.tmp 11, Operand.tmp 16], argTypes := #[41, 3] }, type := 41, pos := "maps.go:28", after := #[{ on := 5, ground := Ground.data }, { on := 10, ground := Ground.data }, { on := 4, ground := Ground.chain }], guard := none }) rfl (fun K hK => ?_) AllReadyH.nil
      go_simp
      (go_at_call 26; ((with_reducible refine (rep_b (-1) b5 N _ B5 m1 m2).mono ?_); rintro e' wN ⟨g2, rfl, hq, R2, hb⟩))
      go_wp2_with fail
      have hg2 := Nat.le_trans HS hq
      have hn2 : ∀ g, g < _ → g ≠ g2 := fun g hg he => Nat.lt_irrefl _ (Nat.lt_of_lt_of_le (he ▸ hg) hq)
      have h12 := hn2 g1 R1.lt
      (try have B1 := B1.below hb B1.lt)
      (try have B5 := B5.below hb B5.lt)
      (try have R1 := R1.below hb)
      have HY := below5 hb (Nat.lt_of_lt_of_le (Nat.lt_succ_self _) HS) HY
      have HB0 := btr HB0 HB0.size hb
      have HS := Nat.le_trans HS hb.size
      refine hK.out _ _ ?_ (fun hNew => ?_)
      · (first | exact HY | assumption)
      clear hK K hHeld
      have hHeld := hNew
      clear hNew
      try simp only [Act.put, List.setIfInBounds_toArray, List.set_cons_zero, List.set_cons_succ]
      refine wpAnyH_take (i := 12) (oi := { dst := some 18, op := Op.build 52 #[(0, Operand.tmp 6), (1, Operand.tmp 10), (2, Operand.tmp 17)], type := 52, pos := "maps.go:25", after := #[{ on := 0, ground := Ground.data }, { on := 4, ground := Ground.data }, { on := 11, ground := Ground.data }], guard := none }) (v := ?_) rfl (by kernel_rfl) (by kernel_rfl) (by kernel_rfl) (fun _ _ _ h => h) (Or.inl ⟨by rfl, ?_⟩) (by assumption) ?_
      rotate_left
      · (intro wS hSw; (try dsimp only at hSw); go_simp; (try with_reducible rfl))
      try simp only [Act.put, List.setIfInBounds_toArray, List.set_cons_zero, List.set_cons_succ]
      refine wpAnyH_ready (rs := [13]) (by kernel_rfl) (by simp) ?_
      refine AllReadyH.cons (o := { dst := some 19, op := Op.box 52 (Operand.tmp 18), type := 26, pos := "maps.go:25", after := #[{ on := 12, ground := Ground.data }], guard := none }) rfl (fun K hK => ?_) AllReadyH.nil
      refine wp_boxM _ rfl a b c d e rfl ?_
      intro wN m BM hq hb
      have hm := Nat.le_trans HS hq
      have h1 : m ≠ g1 := fun he => Nat.lt_irrefl _ (Nat.lt_of_lt_of_le (he ▸ R1.lt) hq)
      have h2 : m ≠ g2 := fun he => Nat.lt_irrefl _ (Nat.lt_of_lt_of_le (he ▸ R2.lt) hq)
      (try have B1 := B1.below hb B1.lt)
      (try have B5 := B5.below hb B5.lt)
      (try have R1 := R1.below hb)
      (try have R2 := R2.below hb)
      have HY := below5 hb (Nat.lt_of_lt_of_le (Nat.lt_succ_self _) HS) HY
      have HB0 := btr HB0 HB0.size hb
      have HS := Nat.le_trans HS hb.size
      refine hK.out _ _ ?_ (fun hNew => ?_)
      · (first | exact HY | assumption)
      clear hK K hHeld
      have hHeld := hNew
      clear hNew
      try simp only [Act.put, List.setIfInBounds_toArray, List.set_cons_zero, List.set_cons_succ]
      refine wpAnyH_take (i := 14) (oi := { dst := some 2, op := Op.assign (Operand.tmp 19), type := 26, pos := "maps.go:25", after := #[{ on := 13, ground := Ground.data }, { on := 11, ground := Ground.chain }, { on := 0, ground := Ground.phase }, { on := 1, ground := Ground.phase }, { on := 2, ground := Ground.phase }, { on := 3, ground := Ground.phase }, { on := 4, ground := Ground.phase }, { on := 5, ground := Ground.phase }, { on := 6, ground := Ground.phase }, { on := 7, ground := Ground.phase }, { on := 8, ground := Ground.phase }, { on := 9, ground := Ground.phase }, { on := 10, ground := Ground.phase }, { on := 11, ground := Ground.phase }, { on := 12, ground := Ground.phase }, { on := 13, ground := Ground.phase }], guard := none }) (v := ?_) rfl (by kernel_rfl) (by kernel_rfl) (by kernel_rfl) (fun _ _ _ h => h) (Or.inl ⟨by rfl, ?_⟩) (by assumption) ?_
      rotate_left
      · (intro wS hSw; (try dsimp only at hSw); go_simp; (try with_reducible rfl))
      try simp only [Act.put, List.setIfInBounds_toArray, List.set_cons_zero, List.set_cons_succ]
      refine wpAnyH_done (by kernel_rfl) ?_ _
      refine NoPanic.normal ?_
      go_wp2_with fail
      go_ret
      refine ⟨⟨m, g1, g2, rfl, ⟨⟨L, N, BM⟩, R1, R2, h12, h1, h2, InvM.start N L, by simp⟩, by omega, by omega, by omega⟩, HB0⟩

theorem small_any (w : World) : Calls Try.prog 24 #[] w fun e w' => e = .returned (.agg #[.int .i64 8, .int .i64 4, .int .i64 32, .int .i64 0, .int .i64 2]) ∧ Below w.heap.size w w' := by
  go_enter Try.func24, Try.ntmps24
  go_wp2
  refine bodyPost_ret (v := .agg #[.int .i64 8, .int .i64 4, .int .i64 32, .int .i64 0, .int .i64 2]) (by simp [results, Try.results24, go_sem]) rfl ⟨rfl, ?_⟩
  exact (Below.refl _ _).alloc (Nat.le_refl _) _
end Go.Proofs.Ytfefjjebjjfkdaa
