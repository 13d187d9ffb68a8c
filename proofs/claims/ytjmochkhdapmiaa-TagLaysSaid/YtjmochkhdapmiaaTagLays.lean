/- TagLays: the walk. -/
import Derived.Test.YtjmochkhdapmiaaTagOver
import Derived.Test.YtjmochkhdapmiaaTagRL
namespace Go.Proofs.Ytjmochkhdapmiaa
open Go.ChangeShapes Go.WideShapes Go.ChangeAt Go.RowKit
attribute [local go_sem ↓] Go.wp_at_zero Go.wp_at_succ
set_option linter.unusedSimpArgs false
set_option linter.unusedVariables false

theorem over_nil (c : Nat) (w : World) :
    Calls Try.prog 18 #[.slice none 0 0] w fun e w' => (∃ v, e = .returned v) ∧ Below w.heap.size w w' := by
  obtain ⟨i0, hi, hz0, hz1, hz2⟩ := info_parts infoByte
  go_enter Try.func18, Try.ntmps18
  go_wp2
  go_loopw [2] (fun i wr => i = .int .i64 0 ∧ wr = w) (fun _ _ => 0)
  case atStart => exact ⟨rfl, rfl⟩
  case round =>
    obtain ⟨rfl, rfl⟩ := hrel
    go_wp2_with (at_builtin; refine wpList_app _ rfl (.tmp 12) (.tmp 13) _ rfl wr.heap.size 5 i0 _ 1 1 Try.underlying22 hi hz0 hz1 hz2 rfl (by decide) (.slice none 0 0) 0 [] rfl (World.ownsRow_nil _ _ _ _) _ 1 _ [.int .u8 238] rfl (Rd.one (by simp)) (by simp [Value.oneCell']) (by unfold maxLen; omega) (by omega) (by simp) ?_; intro s2 w2 ho2 hg2 hv2)
    have HF : Below wr.heap.size wr w2 := ((Below.refl _ _).alloc (Nat.le_refl _) _).trans (below_app (Nat.le_refl _) (by simp) (World.ownsRow_nil _ wr.heap.size 5 1) hg2)
    exact bodyPost_end (v := .tuple #[]) (by simp [results, Try.results18, go_sem]) rfl ⟨⟨_, rfl⟩, HF⟩
theorem num_any (z : Int) (w : World) : Calls Try.prog 14 #[.int .i64 z] w fun e w' => e = .returned (.int .i64 z) ∧ w = w' := by
  go_enter Try.func14, Try.ntmps14
  go_wp2
  go_ret
  exact ⟨rfl, rfl⟩
theorem keptB_n (xs : List Nat) (n : Nat) (hn : xs.length = n) (g : Nat) (B : Option Addr) (d : Nat) (w : World) (h1 : LentB w g (xs.map byteV)) (h2 : Sl w w.heap.size B (xs.map byteV)) (n1 : n ≤ 1000000) :
    Calls Try.prog 17 #[.slice (some ⟨g, 0, none⟩) n (n + 3), .slice B n d] w fun e w' => e = .returned (.bool true) ∧ Below w.heap.size w w' := by
  subst hn
  exact (keptB_any xs xs g B d w h1 h2 n1 n1).mono fun e w' h => ⟨by rw [h.1]; simp, h.2⟩

set_option maxRecDepth 100000 in
set_option maxHeartbeats 8000000 in
theorem lays_walk (A1 : Option Addr) (n1 c1 : Nat) (a : List Nat) (tk tp ts te : Int) (w : World)
    (r1 : SlA w A1 n1 c1 (a.map byteV)) (h81 : Bytes8 a) (_ : i64in tk ∧ i64in tp ∧ i64in ts ∧ i64in te) :
    Calls Try.prog 3 #[.slice A1 n1 c1, .agg #[.int .i64 tk, .int .i64 tp, .int .i64 ts, .int .i64 te]] w fun e' w' => e' = .returned (.bool true) ∧ Below w.heap.size w w' := by
  obtain ⟨e1, h1, _, _, hnil⟩ := r1
  rw [List.length_map] at e1
  subst e1
  have HNIL := Lib.hid hnil
  clear hnil
  have HB0 : Below w.heap.size w (w.alloc (.cells #[.int .i64 tk, .int .i64 tp, .int .i64 ts, .int .i64 te] 24)) := (Below.refl _ _).alloc (Nat.le_refl _) _
  by_cases hx : 100 < a.length
  · have g1 : (100 : Int) < (a.length : Int) := by omega
    go_enter Try.func3, Try.ntmps3
    go_wp2_with (go_at_call 9; refine (awake_any _).mono ?_; rintro e' w2 ⟨rfl, hb2⟩)
    go_ret
    exact ⟨rfl, btr HB0 HB0.size hb2⟩
  have g1 : ¬ (100 : Int) < (a.length : Int) := by omega
  have m1 : a.length ≤ 1000000 := by omega
  have H1 := h1.next HB0
  have G1 : Blk (w.alloc (.cells #[.int .i64 tk, .int .i64 tp, .int .i64 ts, .int .i64 te] 24)) w.heap.size 24 #[.int .i64 tk, .int .i64 tp, .int .i64 ts, .int .i64 te] := Blk.new_ _ _ _
  rcases lay_cases a h81 tk tp ts te with hn1 | ⟨K, P, S, E, rfl, rfl, rfl, rfl, ok1⟩
  · have HN := Lib.hid hn1
    clear hn1
    go_enter Try.func3, Try.ntmps3
    go_upto_region 6 with (first
      | (go_at_call 10; refine (lendB_any a A1 c1 _ H1 (by omega) HNIL.out).mono ?_; rintro e' wZ ⟨gL, rfl, hgL, LT, hb⟩; have HB0 := btr HB0 HB0.size hb; have H1 := H1.next hb; have G1 := G1.below hb G1.lt; (try clear y0 y1 y2 y3); have y0 := G1.cell_ 0; have y1 := G1.cell_ 1; have y2 := G1.cell_ 2; have y3 := G1.cell_ 3; simp at y0 y1 y2 y3; have HBZ := HB0; have H1Z := H1; have LTZ := LT; clear hb hgL)
      | (go_at_call 11; ((with_reducible refine (lay_no a (some ⟨gL, 0, none⟩) _ tk tp ts te _ HN.out (by omega)).mono ?_); rintro e' wA ⟨rfl, hb⟩; have HB0 := btr HB0 HB0.size hb; have H1 := H1.next hb; have G1 := G1.below hb G1.lt; (try clear y0 y1 y2 y3); have y0 := G1.cell_ 0; have y1 := G1.cell_ 1; have y2 := G1.cell_ 2; have y3 := G1.cell_ 3; simp at y0 y1 y2 y3; (try have LT := LT.below hb LT.lt); clear hb))
      | (go_at_call 12; ((with_reducible refine (rlay_no a A1 _ tk tp ts te _ HN.out (by omega)).mono ?_); rintro e' wB ⟨rfl, hb⟩; have HB0 := btr HB0 HB0.size hb; have H1 := H1.next hb; have G1 := G1.below hb G1.lt; (try clear y0 y1 y2 y3); have y0 := G1.cell_ 0; have y1 := G1.cell_ 1; have y2 := G1.cell_ 2; have y3 := G1.cell_ 3; simp at y0 y1 y2 y3; (try have LT := LT.below hb LT.lt); clear hb)))
    go_cut [10] (fun s wx => s = .bool true ∧ Below wB.heap.size wB wx)
    case first =>
      have hlt := G1.lt
      refine wp_region_noPanic ?_
      refine wp_region_held_drew (S := (fun w' => Below wB.heap.size wB w' ∧ w'.cell? ⟨w.heap.size, 0, none⟩ = some (.int .i64 tk) ∧ w'.cell? ⟨w.heap.size, 1, none⟩ = some (.int .i64 tp) ∧ w'.cell? ⟨w.heap.size, 2, none⟩ = some (.int .i64 ts) ∧ w'.cell? ⟨w.heap.size, 3, none⟩ = some (.int .i64 te))) (by kernel_rfl) ?_ (fun hHeld => ?_)
      · (first | exact ⟨(Below.refl _ _).drew, y0, y1, y2, y3⟩ | assumption | exact ⟨(btr hHeld.1 hHeld.1.size hb3), (Below.cell (p := ⟨w.heap.size, 0, none⟩) (btr hHeld.1 hHeld.1.size hb3) hlt).trans y0, (Below.cell (p := ⟨w.heap.size, 1, none⟩) (btr hHeld.1 hHeld.1.size hb3) hlt).trans y1, (Below.cell (p := ⟨w.heap.size, 2, none⟩) (btr hHeld.1 hHeld.1.size hb3) hlt).trans y2, (Below.cell (p := ⟨w.heap.size, 3, none⟩) (btr hHeld.1 hHeld.1.size hb3) hlt).trans y3⟩)
      refine wpAnyH_take (i := 0) (oi := { dst := some 29, op := Op.move (Operand.tmp 6), type := 22, pos := "law.go:30", after := #[], guard := none }) (v := ?_) rfl (by kernel_rfl) (by kernel_rfl) (by kernel_rfl) (fun _ _ _ h => h) (Or.inl ⟨by rfl, ?_⟩) (by assumption) ?_
      rotate_left
      · (intro wS hSw; (try dsimp only at hSw); go_simp; (try with_reducible rfl))
      try simp only [Act.put, List.setIfInBounds_toArray, List.set_cons_zero, List.set_cons_succ]
      refine wpAnyH_take (i := 1) (oi := { dst := some 30, op := Op.move (Operand.tmp 8), type := 22, pos := "law.go:30", after := #[], guard := none }) (v := ?_) rfl (by kernel_rfl) (by kernel_rfl) (by kernel_rfl) (fun _ _ _ h => h) (Or.inl ⟨by rfl, ?_⟩) (by assumption) ?_
      rotate_left
      · (intro wS hSw; (try dsimp only at hSw); go_simp; (try with_reducible rfl))
      try simp only [Act.put, List.setIfInBounds_toArray, List.set_cons_zero, List.set_cons_succ]
      refine wpAnyH_ready (rs := [2]) (by kernel_rfl) (by simp) ?_
      refine AllReadyH.cons (o := { dst := some 31, op := Op.call { callee := Callee.value (Operand.func 13), args := #[Operand.tmp 29, Operand.tmp 30], argTypes := #[22, 22] }, type := 4, pos := "law.go:30", after := #[{ on := 0, ground := Ground.data }, { on := 1, ground := Ground.data }], guard := none }) rfl (fun K hK => ?_) AllReadyH.nil
      go_simp
      (first
              | (go_at_call 13; refine (sameB_b true [] [] 0 0 rfl rfl (decide_eq_true rfl) none none _ _ _ Sl.nil_ Sl.nil_ (by omega) (by omega)).mono ?_; rintro e' w3 ⟨rfl, hb3⟩)
              | (go_at_call 14; refine (num_any _ _).mono ?_; rintro e' w3 ⟨rfl, rfl⟩)
              | (go_at_call 15; refine (tmay_any _ _ _ _ _).mono ?_; rintro e' w3 ⟨rfl, hb3⟩)
              | (go_at_call 16; refine (rtmay_any _ _ _ _ _).mono ?_; rintro e' w3 ⟨rfl, hb3⟩)
              | (go_at_call 17; ((with_reducible refine (keptB_n a a.length rfl gL A1 _ _ (LT.below hHeld.1 LT.lt) (H1.next hHeld.1) (by omega)).mono ?_); rintro e' w3 ⟨rfl, hb3⟩)))
      go_wp2_with fail
      refine hK.out _ _ ?_ (fun hNew => ?_)
      · (first | exact ⟨(Below.refl _ _).drew, y0, y1, y2, y3⟩ | assumption | exact ⟨(btr hHeld.1 hHeld.1.size hb3), (Below.cell (p := ⟨w.heap.size, 0, none⟩) (btr hHeld.1 hHeld.1.size hb3) hlt).trans y0, (Below.cell (p := ⟨w.heap.size, 1, none⟩) (btr hHeld.1 hHeld.1.size hb3) hlt).trans y1, (Below.cell (p := ⟨w.heap.size, 2, none⟩) (btr hHeld.1 hHeld.1.size hb3) hlt).trans y2, (Below.cell (p := ⟨w.heap.size, 3, none⟩) (btr hHeld.1 hHeld.1.size hb3) hlt).trans y3⟩)
      clear hK K hHeld
      have hHeld := hNew
      clear hNew
      try simp only [Act.put, List.setIfInBounds_toArray, List.set_cons_zero, List.set_cons_succ]
      refine wpAnyH_take (i := 3) (oi := { dst := some 32, op := Op.move (Operand.tmp 31), type := 4, pos := "law.go:30", after := #[{ on := 2, ground := Ground.data }, { on := 2, ground := Ground.chain }], guard := none }) (v := ?_) rfl (by kernel_rfl) (by kernel_rfl) (by kernel_rfl) (fun _ _ _ h => h) (Or.inl ⟨by rfl, ?_⟩) (by assumption) ?_
      rotate_left
      · (intro wS hSw; (try dsimp only at hSw); go_simp; (try with_reducible rfl))
      try simp only [Act.put, List.setIfInBounds_toArray, List.set_cons_zero, List.set_cons_succ]
      refine wpAnyH_take (i := 4) (oi := { dst := some 33, op := Op.move (Operand.tmp 7), type := 27, pos := "law.go:30", after := #[{ on := 3, ground := Ground.guard }], guard := some (3, true) }) (v := ?_) rfl (by kernel_rfl) (by kernel_rfl) (by kernel_rfl) (fun _ _ _ h => h) (Or.inl ⟨by rfl, ?_⟩) (by assumption) ?_
      rotate_left
      · (intro wS hSw; (try dsimp only at hSw); go_simp; (try with_reducible rfl))
      try simp only [Act.put, List.setIfInBounds_toArray, List.set_cons_zero, List.set_cons_succ]
      refine wpAnyH_take (i := 6) (oi := { dst := some 35, op := Op.move (Operand.tmp 9), type := 3, pos := "law.go:30", after := #[{ on := 3, ground := Ground.guard }], guard := some (3, true) }) (v := ?_) rfl (by kernel_rfl) (by kernel_rfl) (by kernel_rfl) (fun _ _ _ h => h) (Or.inl ⟨by rfl, ?_⟩) (by assumption) ?_
      rotate_left
      · (intro wS hSw; (try dsimp only at hSw); go_simp; (try with_reducible rfl))
      try simp only [Act.put, List.setIfInBounds_toArray, List.set_cons_zero, List.set_cons_succ]
      refine wpAnyH_ready (rs := [5]) (by kernel_rfl) (by simp) ?_
      refine AllReadyH.cons (o := { dst := some 34, op := Op.call { callee := Callee.value (Operand.func 14), args := #[Operand.tmp 33], argTypes := #[27] }, type := 3, pos := "law.go:30", after := #[{ on := 4, ground := Ground.data }, { on := 3, ground := Ground.chain }, { on := 3, ground := Ground.guard }], guard := some (3, true) }) rfl (fun K hK => ?_) AllReadyH.nil
      go_simp
      (first
              | (go_at_call 13; refine (sameB_b true [] [] 0 0 rfl rfl (decide_eq_true rfl) none none _ _ _ Sl.nil_ Sl.nil_ (by omega) (by omega)).mono ?_; rintro e' w3 ⟨rfl, hb3⟩)
              | (go_at_call 14; refine (num_any _ _).mono ?_; rintro e' w3 ⟨rfl, rfl⟩)
              | (go_at_call 15; refine (tmay_any _ _ _ _ _).mono ?_; rintro e' w3 ⟨rfl, hb3⟩)
              | (go_at_call 16; refine (rtmay_any _ _ _ _ _).mono ?_; rintro e' w3 ⟨rfl, hb3⟩)
              | (go_at_call 17; ((with_reducible refine (keptB_n a a.length rfl gL A1 _ _ (LT.below hHeld.1 LT.lt) (H1.next hHeld.1) (by omega)).mono ?_); rintro e' w3 ⟨rfl, hb3⟩)))
      go_wp2_with fail
      refine hK.out _ _ ?_ (fun hNew => ?_)
      · (first | exact ⟨(Below.refl _ _).drew, y0, y1, y2, y3⟩ | assumption | exact ⟨(btr hHeld.1 hHeld.1.size hb3), (Below.cell (p := ⟨w.heap.size, 0, none⟩) (btr hHeld.1 hHeld.1.size hb3) hlt).trans y0, (Below.cell (p := ⟨w.heap.size, 1, none⟩) (btr hHeld.1 hHeld.1.size hb3) hlt).trans y1, (Below.cell (p := ⟨w.heap.size, 2, none⟩) (btr hHeld.1 hHeld.1.size hb3) hlt).trans y2, (Below.cell (p := ⟨w.heap.size, 3, none⟩) (btr hHeld.1 hHeld.1.size hb3) hlt).trans y3⟩)
      clear hK K hHeld
      have hHeld := hNew
      clear hNew
      try simp only [Act.put, List.setIfInBounds_toArray, List.set_cons_zero, List.set_cons_succ]
      refine wpAnyH_take (i := 7) (oi := { dst := some 36, op := Op.binOp BinOp.eql 3 (Operand.tmp 34) (Operand.tmp 35) 3, type := 4, pos := "law.go:30", after := #[{ on := 5, ground := Ground.data }, { on := 6, ground := Ground.data }, { on := 3, ground := Ground.guard }], guard := some (3, true) }) (v := ?_) rfl (by kernel_rfl) (by kernel_rfl) (by kernel_rfl) (fun _ _ _ h => h) (Or.inl ⟨by rfl, ?_⟩) (by assumption) ?_
      rotate_left
      · (intro wS hSw; (try dsimp only at hSw); go_simp; (try with_reducible rfl))
      try simp only [Act.put, List.setIfInBounds_toArray, List.set_cons_zero, List.set_cons_succ]
      refine wpAnyH_take (i := 8) (oi := { dst := some 37, op := Op.pick (Operand.tmp 32) (Operand.tmp 36) (Operand.const (Value.bool false)), type := 4, pos := "law.go:30", after := #[{ on := 3, ground := Ground.data }, { on := 7, ground := Ground.data }], guard := none }) (v := ?_) rfl (by kernel_rfl) (by kernel_rfl) (by kernel_rfl) (fun _ _ _ h => h) (Or.inl ⟨by rfl, ?_⟩) (by assumption) ?_
      rotate_left
      · (intro wS hSw; (try dsimp only at hSw); go_simp; (try with_reducible rfl))
      try simp only [Act.put, List.setIfInBounds_toArray, List.set_cons_zero, List.set_cons_succ]
      refine wpAnyH_take (i := 9) (oi := { dst := some 38, op := Op.move (Operand.tmp 37), type := 4, pos := "law.go:30", after := #[{ on := 8, ground := Ground.data }, { on := 5, ground := Ground.chain }], guard := none }) (v := ?_) rfl (by kernel_rfl) (by kernel_rfl) (by kernel_rfl) (fun _ _ _ h => h) (Or.inl ⟨by rfl, ?_⟩) (by assumption) ?_
      rotate_left
      · (intro wS hSw; (try dsimp only at hSw); go_simp; (try with_reducible rfl))
      try simp only [Act.put, List.setIfInBounds_toArray, List.set_cons_zero, List.set_cons_succ]
      refine wpAnyH_take (i := 10) (oi := { dst := some 39, op := Op.load 24 (Operand.tmp 3), type := 24, pos := "law.go:30", after := #[{ on := 9, ground := Ground.guard }], guard := some (9, true) }) (v := ?_) rfl (by kernel_rfl) (by kernel_rfl) (by kernel_rfl) (fun _ _ _ h => h) (Or.inl ⟨by rfl, ?_⟩) (by assumption) ?_
      rotate_left
      · (intro wS hSw; (try dsimp only at hSw); go_simp; (try with_reducible rfl))
      try simp only [Act.put, List.setIfInBounds_toArray, List.set_cons_zero, List.set_cons_succ]
      refine wpAnyH_take (i := 12) (oi := { dst := some 41, op := Op.load 24 (Operand.tmp 3), type := 24, pos := "law.go:30", after := #[{ on := 9, ground := Ground.guard }], guard := some (9, true) }) (v := ?_) rfl (by kernel_rfl) (by kernel_rfl) (by kernel_rfl) (fun _ _ _ h => h) (Or.inl ⟨by rfl, ?_⟩) (by assumption) ?_
      rotate_left
      · (intro wS hSw; (try dsimp only at hSw); go_simp; (try with_reducible rfl))
      try simp only [Act.put, List.setIfInBounds_toArray, List.set_cons_zero, List.set_cons_succ]
      refine wpAnyH_ready (rs := [11]) (by kernel_rfl) (by simp) ?_
      refine AllReadyH.cons (o := { dst := some 40, op := Op.call { callee := Callee.value (Operand.func 15), args := #[Operand.tmp 39], argTypes := #[24] }, type := 4, pos := "law.go:30", after := #[{ on := 10, ground := Ground.data }, { on := 9, ground := Ground.chain }, { on := 9, ground := Ground.guard }], guard := some (9, true) }) rfl (fun K hK => ?_) AllReadyH.nil
      go_simp
      (first
              | (go_at_call 13; refine (sameB_b true [] [] 0 0 rfl rfl (decide_eq_true rfl) none none _ _ _ Sl.nil_ Sl.nil_ (by omega) (by omega)).mono ?_; rintro e' w3 ⟨rfl, hb3⟩)
              | (go_at_call 14; refine (num_any _ _).mono ?_; rintro e' w3 ⟨rfl, rfl⟩)
              | (go_at_call 15; refine (tmay_any _ _ _ _ _).mono ?_; rintro e' w3 ⟨rfl, hb3⟩)
              | (go_at_call 16; refine (rtmay_any _ _ _ _ _).mono ?_; rintro e' w3 ⟨rfl, hb3⟩)
              | (go_at_call 17; ((with_reducible refine (keptB_n a a.length rfl gL A1 _ _ (LT.below hHeld.1 LT.lt) (H1.next hHeld.1) (by omega)).mono ?_); rintro e' w3 ⟨rfl, hb3⟩)))
      go_wp2_with fail
      refine hK.out _ _ ?_ (fun hNew => ?_)
      · (first | exact ⟨(Below.refl _ _).drew, y0, y1, y2, y3⟩ | assumption | exact ⟨(btr hHeld.1 hHeld.1.size hb3), (Below.cell (p := ⟨w.heap.size, 0, none⟩) (btr hHeld.1 hHeld.1.size hb3) hlt).trans y0, (Below.cell (p := ⟨w.heap.size, 1, none⟩) (btr hHeld.1 hHeld.1.size hb3) hlt).trans y1, (Below.cell (p := ⟨w.heap.size, 2, none⟩) (btr hHeld.1 hHeld.1.size hb3) hlt).trans y2, (Below.cell (p := ⟨w.heap.size, 3, none⟩) (btr hHeld.1 hHeld.1.size hb3) hlt).trans y3⟩)
      clear hK K hHeld
      have hHeld := hNew
      clear hNew
      try simp only [Act.put, List.setIfInBounds_toArray, List.set_cons_zero, List.set_cons_succ]
      refine wpAnyH_ready (rs := [13]) (by kernel_rfl) (by simp) ?_
      refine AllReadyH.cons (o := { dst := some 42, op := Op.call { callee := Callee.value (Operand.func 16), args := #[Operand.tmp 41], argTypes := #[24] }, type := 4, pos := "law.go:30", after := #[{ on := 12, ground := Ground.data }, { on := 11, ground := Ground.chain }, { on := 9, ground := Ground.guard }], guard := some (9, true) }) rfl (fun K hK => ?_) AllReadyH.nil
      go_simp
      (first
              | (go_at_call 13; refine (sameB_b true [] [] 0 0 rfl rfl (decide_eq_true rfl) none none _ _ _ Sl.nil_ Sl.nil_ (by omega) (by omega)).mono ?_; rintro e' w3 ⟨rfl, hb3⟩)
              | (go_at_call 14; refine (num_any _ _).mono ?_; rintro e' w3 ⟨rfl, rfl⟩)
              | (go_at_call 15; refine (tmay_any _ _ _ _ _).mono ?_; rintro e' w3 ⟨rfl, hb3⟩)
              | (go_at_call 16; refine (rtmay_any _ _ _ _ _).mono ?_; rintro e' w3 ⟨rfl, hb3⟩)
              | (go_at_call 17; ((with_reducible refine (keptB_n a a.length rfl gL A1 _ _ (LT.below hHeld.1 LT.lt) (H1.next hHeld.1) (by omega)).mono ?_); rintro e' w3 ⟨rfl, hb3⟩)))
      go_wp2_with fail
      refine hK.out _ _ ?_ (fun hNew => ?_)
      · (first | exact ⟨(Below.refl _ _).drew, y0, y1, y2, y3⟩ | assumption | exact ⟨(btr hHeld.1 hHeld.1.size hb3), (Below.cell (p := ⟨w.heap.size, 0, none⟩) (btr hHeld.1 hHeld.1.size hb3) hlt).trans y0, (Below.cell (p := ⟨w.heap.size, 1, none⟩) (btr hHeld.1 hHeld.1.size hb3) hlt).trans y1, (Below.cell (p := ⟨w.heap.size, 2, none⟩) (btr hHeld.1 hHeld.1.size hb3) hlt).trans y2, (Below.cell (p := ⟨w.heap.size, 3, none⟩) (btr hHeld.1 hHeld.1.size hb3) hlt).trans y3⟩)
      clear hK K hHeld
      have hHeld := hNew
      clear hNew
      try simp only [Act.put, List.setIfInBounds_toArray, List.set_cons_zero, List.set_cons_succ]
      refine wpAnyH_take (i := 14) (oi := { dst := some 43, op := Op.binOp BinOp.eql 4 (Operand.tmp 40) (Operand.tmp 42) 4, type := 4, pos := "law.go:30", after := #[{ on := 11, ground := Ground.data }, { on := 13, ground := Ground.data }, { on := 9, ground := Ground.guard }], guard := some (9, true) }) (v := ?_) rfl (by kernel_rfl) (by kernel_rfl) (by kernel_rfl) (fun _ _ _ h => h) (Or.inl ⟨by rfl, ?_⟩) (by assumption) ?_
      rotate_left
      · (intro wS hSw; (try dsimp only at hSw); go_simp; (try with_reducible rfl))
      try simp only [Act.put, List.setIfInBounds_toArray, List.set_cons_zero, List.set_cons_succ]
      refine wpAnyH_take (i := 15) (oi := { dst := some 44, op := Op.pick (Operand.tmp 38) (Operand.tmp 43) (Operand.const (Value.bool false)), type := 4, pos := "law.go:30", after := #[{ on := 9, ground := Ground.data }, { on := 14, ground := Ground.data }], guard := none }) (v := ?_) rfl (by kernel_rfl) (by kernel_rfl) (by kernel_rfl) (fun _ _ _ h => h) (Or.inl ⟨by rfl, ?_⟩) (by assumption) ?_
      rotate_left
      · (intro wS hSw; (try dsimp only at hSw); go_simp; (try with_reducible rfl))
      try simp only [Act.put, List.setIfInBounds_toArray, List.set_cons_zero, List.set_cons_succ]
      refine wpAnyH_take (i := 16) (oi := { dst := some 45, op := Op.move (Operand.tmp 44), type := 4, pos := "law.go:30", after := #[{ on := 15, ground := Ground.data }, { on := 13, ground := Ground.chain }], guard := none }) (v := ?_) rfl (by kernel_rfl) (by kernel_rfl) (by kernel_rfl) (fun _ _ _ h => h) (Or.inl ⟨by rfl, ?_⟩) (by assumption) ?_
      rotate_left
      · (intro wS hSw; (try dsimp only at hSw); go_simp; (try with_reducible rfl))
      try simp only [Act.put, List.setIfInBounds_toArray, List.set_cons_zero, List.set_cons_succ]
      refine wpAnyH_take (i := 17) (oi := { dst := some 46, op := Op.move (Operand.tmp 5), type := 22, pos := "law.go:30", after := #[{ on := 16, ground := Ground.guard }], guard := some (16, true) }) (v := ?_) rfl (by kernel_rfl) (by kernel_rfl) (by kernel_rfl) (fun _ _ _ h => h) (Or.inl ⟨by rfl, ?_⟩) (by assumption) ?_
      rotate_left
      · (intro wS hSw; (try dsimp only at hSw); go_simp; (try with_reducible rfl))
      try simp only [Act.put, List.setIfInBounds_toArray, List.set_cons_zero, List.set_cons_succ]
      refine wpAnyH_take (i := 18) (oi := { dst := some 47, op := Op.move (Operand.tmp 0), type := 22, pos := "law.go:30", after := #[{ on := 16, ground := Ground.guard }], guard := some (16, true) }) (v := ?_) rfl (by kernel_rfl) (by kernel_rfl) (by kernel_rfl) (fun _ _ _ h => h) (Or.inl ⟨by rfl, ?_⟩) (by assumption) ?_
      rotate_left
      · (intro wS hSw; (try dsimp only at hSw); go_simp; (try with_reducible rfl))
      try simp only [Act.put, List.setIfInBounds_toArray, List.set_cons_zero, List.set_cons_succ]
      refine wpAnyH_ready (rs := [19]) (by kernel_rfl) (by simp) ?_
      refine AllReadyH.cons (o := { dst := some 48, op := Op.call { callee := Callee.value (Operand.func 17), args := #[Operand.tmp 46, Operand.tmp 47], argTypes := #[22, 22] }, type := 4, pos := "law.go:30", after := #[{ on := 17, ground := Ground.data }, { on := 18, ground := Ground.data }, { on := 16, ground := Ground.chain }, { on := 16, ground := Ground.guard }], guard := some (16, true) }) rfl (fun K hK => ?_) AllReadyH.nil
      go_simp
      (first
              | (go_at_call 13; refine (sameB_b true [] [] 0 0 rfl rfl (decide_eq_true rfl) none none _ _ _ Sl.nil_ Sl.nil_ (by omega) (by omega)).mono ?_; rintro e' w3 ⟨rfl, hb3⟩)
              | (go_at_call 14; refine (num_any _ _).mono ?_; rintro e' w3 ⟨rfl, rfl⟩)
              | (go_at_call 15; refine (tmay_any _ _ _ _ _).mono ?_; rintro e' w3 ⟨rfl, hb3⟩)
              | (go_at_call 16; refine (rtmay_any _ _ _ _ _).mono ?_; rintro e' w3 ⟨rfl, hb3⟩)
              | (go_at_call 17; ((with_reducible refine (keptB_n a a.length rfl gL A1 _ _ (LT.below hHeld.1 LT.lt) (H1.next hHeld.1) (by omega)).mono ?_); rintro e' w3 ⟨rfl, hb3⟩)))
      go_wp2_with fail
      refine hK.out _ _ ?_ (fun hNew => ?_)
      · (first | exact ⟨(Below.refl _ _).drew, y0, y1, y2, y3⟩ | assumption | exact ⟨(btr hHeld.1 hHeld.1.size hb3), (Below.cell (p := ⟨w.heap.size, 0, none⟩) (btr hHeld.1 hHeld.1.size hb3) hlt).trans y0, (Below.cell (p := ⟨w.heap.size, 1, none⟩) (btr hHeld.1 hHeld.1.size hb3) hlt).trans y1, (Below.cell (p := ⟨w.heap.size, 2, none⟩) (btr hHeld.1 hHeld.1.size hb3) hlt).trans y2, (Below.cell (p := ⟨w.heap.size, 3, none⟩) (btr hHeld.1 hHeld.1.size hb3) hlt).trans y3⟩)
      clear hK K hHeld
      have hHeld := hNew
      clear hNew
      try simp only [Act.put, List.setIfInBounds_toArray, List.set_cons_zero, List.set_cons_succ]
      refine wpAnyH_take (i := 20) (oi := { dst := some 49, op := Op.pick (Operand.tmp 45) (Operand.tmp 48) (Operand.const (Value.bool false)), type := 4, pos := "law.go:30", after := #[{ on := 16, ground := Ground.data }, { on := 19, ground := Ground.data }], guard := none }) (v := ?_) rfl (by kernel_rfl) (by kernel_rfl) (by kernel_rfl) (fun _ _ _ h => h) (Or.inl ⟨by rfl, ?_⟩) (by assumption) ?_
      rotate_left
      · (intro wS hSw; (try dsimp only at hSw); go_simp; (try with_reducible rfl))
      try simp only [Act.put, List.setIfInBounds_toArray, List.set_cons_zero, List.set_cons_succ]
      refine wpAnyH_take (i := 21) (oi := { dst := some 10, op := Op.assign (Operand.tmp 49), type := 4, pos := "law.go:30", after := #[{ on := 20, ground := Ground.data }, { on := 19, ground := Ground.chain }, { on := 0, ground := Ground.phase }, { on := 1, ground := Ground.phase }, { on := 2, ground := Ground.phase }, { on := 3, ground := Ground.phase }, { on := 4, ground := Ground.phase }, { on := 5, ground := Ground.phase }, { on := 6, ground := Ground.phase }, { on := 7, ground := Ground.phase }, { on := 8, ground := Ground.phase }, { on := 9, ground := Ground.phase }, { on := 10, ground := Ground.phase }, { on := 11, ground := Ground.phase }, { on := 12, ground := Ground.phase }, { on := 13, ground := Ground.phase }, { on := 14, ground := Ground.phase }, { on := 15, ground := Ground.phase }, { on := 16, ground := Ground.phase }, { on := 17, ground := Ground.phase }, { on := 18, ground := Ground.phase }, { on := 19, ground := Ground.phase }, { on := 20, ground := Ground.phase }], guard := none }) (v := ?_) rfl (by kernel_rfl) (by kernel_rfl) (by kernel_rfl) (fun _ _ _ h => h) (Or.inl ⟨by rfl, ?_⟩) (by assumption) ?_
      rotate_left
      · (intro wS hSw; (try dsimp only at hSw); go_simp; (try with_reducible rfl))
      try simp only [Act.put, List.setIfInBounds_toArray, List.set_cons_zero, List.set_cons_succ]
      refine wpAnyH_done (by kernel_rfl) ?_ _
      refine NoPanic.normal ?_
      go_wp2_with fail
      go_meet
      exact ⟨rfl, hHeld.1⟩
    case rest =>
    obtain ⟨rfl, hBc⟩ := hcut
    have HB0 := HB0.trans (hBc.mono HB0.size)
    have H1 := H1.next hBc
    have LT := LT.below hBc LT.lt
    go_wp2_with (first
      | (go_at_call 18; ((with_reducible refine (over_nil 0 _).mono ?_); rintro e' wX ⟨⟨vX, rfl⟩, hb⟩; have HB0 := btr HB0 HB0.size hb; have H1 := H1.next hb; have LT := LT.below hb LT.lt; clear hb))
      | (go_at_call 17; ((with_reducible refine (keptB_n a a.length rfl gL A1 _ _ LT H1 (by omega)).mono ?_); rintro e' w4 ⟨rfl, hb⟩; have HB0 := btr HB0 HB0.size hb; clear hb))
      | (go_at_call 9; refine (awake_any _).mono ?_; rintro e' w2 ⟨rfl, hb2⟩))
    go_ret
    exact ⟨rfl, btr HB0 HB0.size hb2⟩
  · have OK1 := Lib.hid ok1
    have hr := rawB_len a K P S E
    obtain ⟨R, hR⟩ : ∃ R, rawB a K P S E = R := ⟨_, rfl⟩
    rw [hR] at hr
    have HR := Lib.hid hR
    have HRL := Lib.hid hr
    have hal : 24 ≤ a.length := ok1.1
    clear ok1 hR hr
    go_enter Try.func3, Try.ntmps3
    go_upto_region 6 with (first
      | (go_at_call 10; refine (lendB_any a A1 c1 _ H1 (by omega) HNIL.out).mono ?_; rintro e' wZ ⟨gL, rfl, hgL, LT, hb⟩; have HB0 := btr HB0 HB0.size hb; have H1 := H1.next hb; have G1 := G1.below hb G1.lt; (try clear y0 y1 y2 y3); have y0 := G1.cell_ 0; have y1 := G1.cell_ 1; have y2 := G1.cell_ 2; have y3 := G1.cell_ 3; simp at y0 y1 y2 y3; have HBZ := HB0; have H1Z := H1; have LTZ := LT; clear hb hgL)
      | (go_at_call 11; ((with_reducible refine (lay_yes' a _ rfl (some ⟨gL, 0, none⟩) _ K P S E _ LT.sl OK1.out).mono ?_); rintro e' wA ⟨sv, rfl, hoA, hb⟩; have HB0 := btr HB0 HB0.size hb; have H1 := H1.next hb; have G1 := G1.below hb G1.lt; (try clear y0 y1 y2 y3); have y0 := G1.cell_ 0; have y1 := G1.cell_ 1; have y2 := G1.cell_ 2; have y3 := G1.cell_ 3; simp at y0 y1 y2 y3; (try have LT := LT.below hb LT.lt); rw [HR.out] at hoA; obtain ⟨g5, c5, rfl, -, -⟩ := hoA.form (by omega); have hZ := hb; clear hb))
      | (go_at_call 12; ((with_reducible refine (rlay_yes a A1 _ K P S E _ H1 OK1.out).mono ?_); rintro e' wB ⟨sv, rfl, hoB, hb⟩; have HB0 := btr HB0 HB0.size hb; have H1 := H1.next hb; have G1 := G1.below hb G1.lt; (try clear y0 y1 y2 y3); have y0 := G1.cell_ 0; have y1 := G1.cell_ 1; have y2 := G1.cell_ 2; have y3 := G1.cell_ 3; simp at y0 y1 y2 y3; (try have LT := LT.below hb LT.lt); have hoA := own_below hoA hb; rw [HR.out] at hoB; obtain ⟨A6, c6, rfl, hl6, -, -, -, O6⟩ := own_slice hoB; have hZ := hZ.trans (hb.mono hZ.size); clear hl6 hb)))
    go_cut [10] (fun s wx => s = .bool true ∧ Below wB.heap.size wB wx)
    case first =>
      have hlt := G1.lt
      refine wp_region_noPanic ?_
      refine wp_region_held_drew (S := (fun w' => Below wB.heap.size wB w' ∧ w'.cell? ⟨w.heap.size, 0, none⟩ = some (.int .i64 (K : Nat)) ∧ w'.cell? ⟨w.heap.size, 1, none⟩ = some (.int .i64 (P : Nat)) ∧ w'.cell? ⟨w.heap.size, 2, none⟩ = some (.int .i64 (S : Nat)) ∧ w'.cell? ⟨w.heap.size, 3, none⟩ = some (.int .i64 (E : Nat)))) (by kernel_rfl) ?_ (fun hHeld => ?_)
      · (first | exact ⟨(Below.refl _ _).drew, y0, y1, y2, y3⟩ | assumption | exact ⟨(btr hHeld.1 hHeld.1.size hb3), (Below.cell (p := ⟨w.heap.size, 0, none⟩) (btr hHeld.1 hHeld.1.size hb3) hlt).trans y0, (Below.cell (p := ⟨w.heap.size, 1, none⟩) (btr hHeld.1 hHeld.1.size hb3) hlt).trans y1, (Below.cell (p := ⟨w.heap.size, 2, none⟩) (btr hHeld.1 hHeld.1.size hb3) hlt).trans y2, (Below.cell (p := ⟨w.heap.size, 3, none⟩) (btr hHeld.1 hHeld.1.size hb3) hlt).trans y3⟩)
      refine wpAnyH_take (i := 0) (oi := { dst := some 29, op := Op.move (Operand.tmp 6), type := 22, pos := "law.go:30", after := #[], guard := none }) (v := ?_) rfl (by kernel_rfl) (by kernel_rfl) (by kernel_rfl) (fun _ _ _ h => h) (Or.inl ⟨by rfl, ?_⟩) (by assumption) ?_
      rotate_left
      · (intro wS hSw; (try dsimp only at hSw); go_simp; (try with_reducible rfl))
      try simp only [Act.put, List.setIfInBounds_toArray, List.set_cons_zero, List.set_cons_succ]
      refine wpAnyH_take (i := 1) (oi := { dst := some 30, op := Op.move (Operand.tmp 8), type := 22, pos := "law.go:30", after := #[], guard := none }) (v := ?_) rfl (by kernel_rfl) (by kernel_rfl) (by kernel_rfl) (fun _ _ _ h => h) (Or.inl ⟨by rfl, ?_⟩) (by assumption) ?_
      rotate_left
      · (intro wS hSw; (try dsimp only at hSw); go_simp; (try with_reducible rfl))
      try simp only [Act.put, List.setIfInBounds_toArray, List.set_cons_zero, List.set_cons_succ]
      refine wpAnyH_ready (rs := [2]) (by kernel_rfl) (by simp) ?_
      refine AllReadyH.cons (o := { dst := some 31, op := Op.call { callee := Callee.value (Operand.func 13), args := #[Operand.tmp 29, Operand.tmp 30], argTypes := #[22, 22] }, type := 4, pos := "law.go:30", after := #[{ on := 0, ground := Ground.data }, { on := 1, ground := Ground.data }], guard := none }) rfl (fun K hK => ?_) AllReadyH.nil
      go_simp
      (first
              | (go_at_call 13; ((with_reducible refine (sameB_b true R R _ _ HRL.out HRL.out (decide_eq_true rfl) (some ⟨g5, 0, none⟩) A6 _ _ _ ((Sl.of_own hoA).next hHeld.1) (O6.next hHeld.1) (by omega) (by omega)).mono ?_); rintro e' w3 ⟨rfl, hb3⟩))
              | (go_at_call 14; refine (num_any _ _).mono ?_; rintro e' w3 ⟨rfl, rfl⟩)
              | (go_at_call 15; refine (tmay_any _ _ _ _ _).mono ?_; rintro e' w3 ⟨rfl, hb3⟩)
              | (go_at_call 16; refine (rtmay_any _ _ _ _ _).mono ?_; rintro e' w3 ⟨rfl, hb3⟩)
              | (go_at_call 17; ((with_reducible refine (keptB_n a a.length rfl gL A1 _ _ (LT.below hHeld.1 LT.lt) (H1.next hHeld.1) (by omega)).mono ?_); rintro e' w3 ⟨rfl, hb3⟩)))
      go_wp2_with fail
      refine hK.out _ _ ?_ (fun hNew => ?_)
      · (first | exact ⟨(Below.refl _ _).drew, y0, y1, y2, y3⟩ | assumption | exact ⟨(btr hHeld.1 hHeld.1.size hb3), (Below.cell (p := ⟨w.heap.size, 0, none⟩) (btr hHeld.1 hHeld.1.size hb3) hlt).trans y0, (Below.cell (p := ⟨w.heap.size, 1, none⟩) (btr hHeld.1 hHeld.1.size hb3) hlt).trans y1, (Below.cell (p := ⟨w.heap.size, 2, none⟩) (btr hHeld.1 hHeld.1.size hb3) hlt).trans y2, (Below.cell (p := ⟨w.heap.size, 3, none⟩) (btr hHeld.1 hHeld.1.size hb3) hlt).trans y3⟩)
      clear hK K hHeld
      have hHeld := hNew
      clear hNew
      try simp only [Act.put, List.setIfInBounds_toArray, List.set_cons_zero, List.set_cons_succ]
      refine wpAnyH_take (i := 3) (oi := { dst := some 32, op := Op.move (Operand.tmp 31), type := 4, pos := "law.go:30", after := #[{ on := 2, ground := Ground.data }, { on := 2, ground := Ground.chain }], guard := none }) (v := ?_) rfl (by kernel_rfl) (by kernel_rfl) (by kernel_rfl) (fun _ _ _ h => h) (Or.inl ⟨by rfl, ?_⟩) (by assumption) ?_
      rotate_left
      · (intro wS hSw; (try dsimp only at hSw); go_simp; (try with_reducible rfl))
      try simp only [Act.put, List.setIfInBounds_toArray, List.set_cons_zero, List.set_cons_succ]
      refine wpAnyH_take (i := 4) (oi := { dst := some 33, op := Op.move (Operand.tmp 7), type := 27, pos := "law.go:30", after := #[{ on := 3, ground := Ground.guard }], guard := some (3, true) }) (v := ?_) rfl (by kernel_rfl) (by kernel_rfl) (by kernel_rfl) (fun _ _ _ h => h) (Or.inl ⟨by rfl, ?_⟩) (by assumption) ?_
      rotate_left
      · (intro wS hSw; (try dsimp only at hSw); go_simp; (try with_reducible rfl))
      try simp only [Act.put, List.setIfInBounds_toArray, List.set_cons_zero, List.set_cons_succ]
      refine wpAnyH_take (i := 6) (oi := { dst := some 35, op := Op.move (Operand.tmp 9), type := 3, pos := "law.go:30", after := #[{ on := 3, ground := Ground.guard }], guard := some (3, true) }) (v := ?_) rfl (by kernel_rfl) (by kernel_rfl) (by kernel_rfl) (fun _ _ _ h => h) (Or.inl ⟨by rfl, ?_⟩) (by assumption) ?_
      rotate_left
      · (intro wS hSw; (try dsimp only at hSw); go_simp; (try with_reducible rfl))
      try simp only [Act.put, List.setIfInBounds_toArray, List.set_cons_zero, List.set_cons_succ]
      refine wpAnyH_ready (rs := [5]) (by kernel_rfl) (by simp) ?_
      refine AllReadyH.cons (o := { dst := some 34, op := Op.call { callee := Callee.value (Operand.func 14), args := #[Operand.tmp 33], argTypes := #[27] }, type := 3, pos := "law.go:30", after := #[{ on := 4, ground := Ground.data }, { on := 3, ground := Ground.chain }, { on := 3, ground := Ground.guard }], guard := some (3, true) }) rfl (fun K hK => ?_) AllReadyH.nil
      go_simp
      (first
              | (go_at_call 13; ((with_reducible refine (sameB_b true R R _ _ HRL.out HRL.out (decide_eq_true rfl) (some ⟨g5, 0, none⟩) A6 _ _ _ ((Sl.of_own hoA).next hHeld.1) (O6.next hHeld.1) (by omega) (by omega)).mono ?_); rintro e' w3 ⟨rfl, hb3⟩))
              | (go_at_call 14; refine (num_any _ _).mono ?_; rintro e' w3 ⟨rfl, rfl⟩)
              | (go_at_call 15; refine (tmay_any _ _ _ _ _).mono ?_; rintro e' w3 ⟨rfl, hb3⟩)
              | (go_at_call 16; refine (rtmay_any _ _ _ _ _).mono ?_; rintro e' w3 ⟨rfl, hb3⟩)
              | (go_at_call 17; ((with_reducible refine (keptB_n a a.length rfl gL A1 _ _ (LT.below hHeld.1 LT.lt) (H1.next hHeld.1) (by omega)).mono ?_); rintro e' w3 ⟨rfl, hb3⟩)))
      go_wp2_with fail
      refine hK.out _ _ ?_ (fun hNew => ?_)
      · (first | exact ⟨(Below.refl _ _).drew, y0, y1, y2, y3⟩ | assumption | exact ⟨(btr hHeld.1 hHeld.1.size hb3), (Below.cell (p := ⟨w.heap.size, 0, none⟩) (btr hHeld.1 hHeld.1.size hb3) hlt).trans y0, (Below.cell (p := ⟨w.heap.size, 1, none⟩) (btr hHeld.1 hHeld.1.size hb3) hlt).trans y1, (Below.cell (p := ⟨w.heap.size, 2, none⟩) (btr hHeld.1 hHeld.1.size hb3) hlt).trans y2, (Below.cell (p := ⟨w.heap.size, 3, none⟩) (btr hHeld.1 hHeld.1.size hb3) hlt).trans y3⟩)
      clear hK K hHeld
      have hHeld := hNew
      clear hNew
      try simp only [Act.put, List.setIfInBounds_toArray, List.set_cons_zero, List.set_cons_succ]
      refine wpAnyH_take (i := 7) (oi := { dst := some 36, op := Op.binOp BinOp.eql 3 (Operand.tmp 34) (Operand.tmp 35) 3, type := 4, pos := "law.go:30", after := #[{ on := 5, ground := Ground.data }, { on := 6, ground := Ground.data }, { on := 3, ground := Ground.guard }], guard := some (3, true) }) (v := ?_) rfl (by kernel_rfl) (by kernel_rfl) (by kernel_rfl) (fun _ _ _ h => h) (Or.inl ⟨by rfl, ?_⟩) (by assumption) ?_
      rotate_left
      · (intro wS hSw; (try dsimp only at hSw); go_simp; (try with_reducible rfl))
      try simp only [Act.put, List.setIfInBounds_toArray, List.set_cons_zero, List.set_cons_succ]
      refine wpAnyH_take (i := 8) (oi := { dst := some 37, op := Op.pick (Operand.tmp 32) (Operand.tmp 36) (Operand.const (Value.bool false)), type := 4, pos := "law.go:30", after := #[{ on := 3, ground := Ground.data }, { on := 7, ground := Ground.data }], guard := none }) (v := ?_) rfl (by kernel_rfl) (by kernel_rfl) (by kernel_rfl) (fun _ _ _ h => h) (Or.inl ⟨by rfl, ?_⟩) (by assumption) ?_
      rotate_left
      · (intro wS hSw; (try dsimp only at hSw); go_simp; (try with_reducible rfl))
      try simp only [Act.put, List.setIfInBounds_toArray, List.set_cons_zero, List.set_cons_succ]
      refine wpAnyH_take (i := 9) (oi := { dst := some 38, op := Op.move (Operand.tmp 37), type := 4, pos := "law.go:30", after := #[{ on := 8, ground := Ground.data }, { on := 5, ground := Ground.chain }], guard := none }) (v := ?_) rfl (by kernel_rfl) (by kernel_rfl) (by kernel_rfl) (fun _ _ _ h => h) (Or.inl ⟨by rfl, ?_⟩) (by assumption) ?_
      rotate_left
      · (intro wS hSw; (try dsimp only at hSw); go_simp; (try with_reducible rfl))
      try simp only [Act.put, List.setIfInBounds_toArray, List.set_cons_zero, List.set_cons_succ]
      refine wpAnyH_take (i := 10) (oi := { dst := some 39, op := Op.load 24 (Operand.tmp 3), type := 24, pos := "law.go:30", after := #[{ on := 9, ground := Ground.guard }], guard := some (9, true) }) (v := ?_) rfl (by kernel_rfl) (by kernel_rfl) (by kernel_rfl) (fun _ _ _ h => h) (Or.inl ⟨by rfl, ?_⟩) (by assumption) ?_
      rotate_left
      · (intro wS hSw; (try dsimp only at hSw); go_simp; (try with_reducible rfl))
      try simp only [Act.put, List.setIfInBounds_toArray, List.set_cons_zero, List.set_cons_succ]
      refine wpAnyH_take (i := 12) (oi := { dst := some 41, op := Op.load 24 (Operand.tmp 3), type := 24, pos := "law.go:30", after := #[{ on := 9, ground := Ground.guard }], guard := some (9, true) }) (v := ?_) rfl (by kernel_rfl) (by kernel_rfl) (by kernel_rfl) (fun _ _ _ h => h) (Or.inl ⟨by rfl, ?_⟩) (by assumption) ?_
      rotate_left
      · (intro wS hSw; (try dsimp only at hSw); go_simp; (try with_reducible rfl))
      try simp only [Act.put, List.setIfInBounds_toArray, List.set_cons_zero, List.set_cons_succ]
      refine wpAnyH_ready (rs := [11]) (by kernel_rfl) (by simp) ?_
      refine AllReadyH.cons (o := { dst := some 40, op := Op.call { callee := Callee.value (Operand.func 15), args := #[Operand.tmp 39], argTypes := #[24] }, type := 4, pos := "law.go:30", after := #[{ on := 10, ground := Ground.data }, { on := 9, ground := Ground.chain }, { on := 9, ground := Ground.guard }], guard := some (9, true) }) rfl (fun K hK => ?_) AllReadyH.nil
      go_simp
      (first
              | (go_at_call 13; ((with_reducible refine (sameB_b true R R _ _ HRL.out HRL.out (decide_eq_true rfl) (some ⟨g5, 0, none⟩) A6 _ _ _ ((Sl.of_own hoA).next hHeld.1) (O6.next hHeld.1) (by omega) (by omega)).mono ?_); rintro e' w3 ⟨rfl, hb3⟩))
              | (go_at_call 14; refine (num_any _ _).mono ?_; rintro e' w3 ⟨rfl, rfl⟩)
              | (go_at_call 15; refine (tmay_any _ _ _ _ _).mono ?_; rintro e' w3 ⟨rfl, hb3⟩)
              | (go_at_call 16; refine (rtmay_any _ _ _ _ _).mono ?_; rintro e' w3 ⟨rfl, hb3⟩)
              | (go_at_call 17; ((with_reducible refine (keptB_n a a.length rfl gL A1 _ _ (LT.below hHeld.1 LT.lt) (H1.next hHeld.1) (by omega)).mono ?_); rintro e' w3 ⟨rfl, hb3⟩)))
      go_wp2_with fail
      refine hK.out _ _ ?_ (fun hNew => ?_)
      · (first | exact ⟨(Below.refl _ _).drew, y0, y1, y2, y3⟩ | assumption | exact ⟨(btr hHeld.1 hHeld.1.size hb3), (Below.cell (p := ⟨w.heap.size, 0, none⟩) (btr hHeld.1 hHeld.1.size hb3) hlt).trans y0, (Below.cell (p := ⟨w.heap.size, 1, none⟩) (btr hHeld.1 hHeld.1.size hb3) hlt).trans y1, (Below.cell (p := ⟨w.heap.size, 2, none⟩) (btr hHeld.1 hHeld.1.size hb3) hlt).trans y2, (Below.cell (p := ⟨w.heap.size, 3, none⟩) (btr hHeld.1 hHeld.1.size hb3) hlt).trans y3⟩)
      clear hK K hHeld
      have hHeld := hNew
      clear hNew
      try simp only [Act.put, List.setIfInBounds_toArray, List.set_cons_zero, List.set_cons_succ]
      refine wpAnyH_ready (rs := [13]) (by kernel_rfl) (by simp) ?_
      refine AllReadyH.cons (o := { dst := some 42, op := Op.call { callee := Callee.value (Operand.func 16), args := #[Operand.tmp 41], argTypes := #[24] }, type := 4, pos := "law.go:30", after := #[{ on := 12, ground := Ground.data }, { on := 11, ground := Ground.chain }, { on := 9, ground := Ground.guard }], guard := some (9, true) }) rfl (fun K hK => ?_) AllReadyH.nil
      go_simp
      (first
              | (go_at_call 13; ((with_reducible refine (sameB_b true R R _ _ HRL.out HRL.out (decide_eq_true rfl) (some ⟨g5, 0, none⟩) A6 _ _ _ ((Sl.of_own hoA).next hHeld.1) (O6.next hHeld.1) (by omega) (by omega)).mono ?_); rintro e' w3 ⟨rfl, hb3⟩))
              | (go_at_call 14; refine (num_any _ _).mono ?_; rintro e' w3 ⟨rfl, rfl⟩)
              | (go_at_call 15; refine (tmay_any _ _ _ _ _).mono ?_; rintro e' w3 ⟨rfl, hb3⟩)
              | (go_at_call 16; refine (rtmay_any _ _ _ _ _).mono ?_; rintro e' w3 ⟨rfl, hb3⟩)
              | (go_at_call 17; ((with_reducible refine (keptB_n a a.length rfl gL A1 _ _ (LT.below hHeld.1 LT.lt) (H1.next hHeld.1) (by omega)).mono ?_); rintro e' w3 ⟨rfl, hb3⟩)))
      go_wp2_with fail
      refine hK.out _ _ ?_ (fun hNew => ?_)
      · (first | exact ⟨(Below.refl _ _).drew, y0, y1, y2, y3⟩ | assumption | exact ⟨(btr hHeld.1 hHeld.1.size hb3), (Below.cell (p := ⟨w.heap.size, 0, none⟩) (btr hHeld.1 hHeld.1.size hb3) hlt).trans y0, (Below.cell (p := ⟨w.heap.size, 1, none⟩) (btr hHeld.1 hHeld.1.size hb3) hlt).trans y1, (Below.cell (p := ⟨w.heap.size, 2, none⟩) (btr hHeld.1 hHeld.1.size hb3) hlt).trans y2, (Below.cell (p := ⟨w.heap.size, 3, none⟩) (btr hHeld.1 hHeld.1.size hb3) hlt).trans y3⟩)
      clear hK K hHeld
      have hHeld := hNew
      clear hNew
      try simp only [Act.put, List.setIfInBounds_toArray, List.set_cons_zero, List.set_cons_succ]
      refine wpAnyH_take (i := 14) (oi := { dst := some 43, op := Op.binOp BinOp.eql 4 (Operand.tmp 40) (Operand.tmp 42) 4, type := 4, pos := "law.go:30", after := #[{ on := 11, ground := Ground.data }, { on := 13, ground := Ground.data }, { on := 9, ground := Ground.guard }], guard := some (9, true) }) (v := ?_) rfl (by kernel_rfl) (by kernel_rfl) (by kernel_rfl) (fun _ _ _ h => h) (Or.inl ⟨by rfl, ?_⟩) (by assumption) ?_
      rotate_left
      · (intro wS hSw; (try dsimp only at hSw); go_simp; (try with_reducible rfl))
      try simp only [Act.put, List.setIfInBounds_toArray, List.set_cons_zero, List.set_cons_succ]
      refine wpAnyH_take (i := 15) (oi := { dst := some 44, op := Op.pick (Operand.tmp 38) (Operand.tmp 43) (Operand.const (Value.bool false)), type := 4, pos := "law.go:30", after := #[{ on := 9, ground := Ground.data }, { on := 14, ground := Ground.data }], guard := none }) (v := ?_) rfl (by kernel_rfl) (by kernel_rfl) (by kernel_rfl) (fun _ _ _ h => h) (Or.inl ⟨by rfl, ?_⟩) (by assumption) ?_
      rotate_left
      · (intro wS hSw; (try dsimp only at hSw); go_simp; (try with_reducible rfl))
      try simp only [Act.put, List.setIfInBounds_toArray, List.set_cons_zero, List.set_cons_succ]
      refine wpAnyH_take (i := 16) (oi := { dst := some 45, op := Op.move (Operand.tmp 44), type := 4, pos := "law.go:30", after := #[{ on := 15, ground := Ground.data }, { on := 13, ground := Ground.chain }], guard := none }) (v := ?_) rfl (by kernel_rfl) (by kernel_rfl) (by kernel_rfl) (fun _ _ _ h => h) (Or.inl ⟨by rfl, ?_⟩) (by assumption) ?_
      rotate_left
      · (intro wS hSw; (try dsimp only at hSw); go_simp; (try with_reducible rfl))
      try simp only [Act.put, List.setIfInBounds_toArray, List.set_cons_zero, List.set_cons_succ]
      refine wpAnyH_take (i := 17) (oi := { dst := some 46, op := Op.move (Operand.tmp 5), type := 22, pos := "law.go:30", after := #[{ on := 16, ground := Ground.guard }], guard := some (16, true) }) (v := ?_) rfl (by kernel_rfl) (by kernel_rfl) (by kernel_rfl) (fun _ _ _ h => h) (Or.inl ⟨by rfl, ?_⟩) (by assumption) ?_
      rotate_left
      · (intro wS hSw; (try dsimp only at hSw); go_simp; (try with_reducible rfl))
      try simp only [Act.put, List.setIfInBounds_toArray, List.set_cons_zero, List.set_cons_succ]
      refine wpAnyH_take (i := 18) (oi := { dst := some 47, op := Op.move (Operand.tmp 0), type := 22, pos := "law.go:30", after := #[{ on := 16, ground := Ground.guard }], guard := some (16, true) }) (v := ?_) rfl (by kernel_rfl) (by kernel_rfl) (by kernel_rfl) (fun _ _ _ h => h) (Or.inl ⟨by rfl, ?_⟩) (by assumption) ?_
      rotate_left
      · (intro wS hSw; (try dsimp only at hSw); go_simp; (try with_reducible rfl))
      try simp only [Act.put, List.setIfInBounds_toArray, List.set_cons_zero, List.set_cons_succ]
      refine wpAnyH_ready (rs := [19]) (by kernel_rfl) (by simp) ?_
      refine AllReadyH.cons (o := { dst := some 48, op := Op.call { callee := Callee.value (Operand.func 17), args := #[Operand.tmp 46, Operand.tmp 47], argTypes := #[22, 22] }, type := 4, pos := "law.go:30", after := #[{ on := 17, ground := Ground.data }, { on := 18, ground := Ground.data }, { on := 16, ground := Ground.chain }, { on := 16, ground := Ground.guard }], guard := some (16, true) }) rfl (fun K hK => ?_) AllReadyH.nil
      go_simp
      (first
              | (go_at_call 13; ((with_reducible refine (sameB_b true R R _ _ HRL.out HRL.out (decide_eq_true rfl) (some ⟨g5, 0, none⟩) A6 _ _ _ ((Sl.of_own hoA).next hHeld.1) (O6.next hHeld.1) (by omega) (by omega)).mono ?_); rintro e' w3 ⟨rfl, hb3⟩))
              | (go_at_call 14; refine (num_any _ _).mono ?_; rintro e' w3 ⟨rfl, rfl⟩)
              | (go_at_call 15; refine (tmay_any _ _ _ _ _).mono ?_; rintro e' w3 ⟨rfl, hb3⟩)
              | (go_at_call 16; refine (rtmay_any _ _ _ _ _).mono ?_; rintro e' w3 ⟨rfl, hb3⟩)
              | (go_at_call 17; ((with_reducible refine (keptB_n a a.length rfl gL A1 _ _ (LT.below hHeld.1 LT.lt) (H1.next hHeld.1) (by omega)).mono ?_); rintro e' w3 ⟨rfl, hb3⟩)))
      go_wp2_with fail
      refine hK.out _ _ ?_ (fun hNew => ?_)
      · (first | exact ⟨(Below.refl _ _).drew, y0, y1, y2, y3⟩ | assumption | exact ⟨(btr hHeld.1 hHeld.1.size hb3), (Below.cell (p := ⟨w.heap.size, 0, none⟩) (btr hHeld.1 hHeld.1.size hb3) hlt).trans y0, (Below.cell (p := ⟨w.heap.size, 1, none⟩) (btr hHeld.1 hHeld.1.size hb3) hlt).trans y1, (Below.cell (p := ⟨w.heap.size, 2, none⟩) (btr hHeld.1 hHeld.1.size hb3) hlt).trans y2, (Below.cell (p := ⟨w.heap.size, 3, none⟩) (btr hHeld.1 hHeld.1.size hb3) hlt).trans y3⟩)
      clear hK K hHeld
      have hHeld := hNew
      clear hNew
      try simp only [Act.put, List.setIfInBounds_toArray, List.set_cons_zero, List.set_cons_succ]
      refine wpAnyH_take (i := 20) (oi := { dst := some 49, op := Op.pick (Operand.tmp 45) (Operand.tmp 48) (Operand.const (Value.bool false)), type := 4, pos := "law.go:30", after := #[{ on := 16, ground := Ground.data }, { on := 19, ground := Ground.data }], guard := none }) (v := ?_) rfl (by kernel_rfl) (by kernel_rfl) (by kernel_rfl) (fun _ _ _ h => h) (Or.inl ⟨by rfl, ?_⟩) (by assumption) ?_
      rotate_left
      · (intro wS hSw; (try dsimp only at hSw); go_simp; (try with_reducible rfl))
      try simp only [Act.put, List.setIfInBounds_toArray, List.set_cons_zero, List.set_cons_succ]
      refine wpAnyH_take (i := 21) (oi := { dst := some 10, op := Op.assign (Operand.tmp 49), type := 4, pos := "law.go:30", after := #[{ on := 20, ground := Ground.data }, { on := 19, ground := Ground.chain }, { on := 0, ground := Ground.phase }, { on := 1, ground := Ground.phase }, { on := 2, ground := Ground.phase }, { on := 3, ground := Ground.phase }, { on := 4, ground := Ground.phase }, { on := 5, ground := Ground.phase }, { on := 6, ground := Ground.phase }, { on := 7, ground := Ground.phase }, { on := 8, ground := Ground.phase }, { on := 9, ground := Ground.phase }, { on := 10, ground := Ground.phase }, { on := 11, ground := Ground.phase }, { on := 12, ground := Ground.phase }, { on := 13, ground := Ground.phase }, { on := 14, ground := Ground.phase }, { on := 15, ground := Ground.phase }, { on := 16, ground := Ground.phase }, { on := 17, ground := Ground.phase }, { on := 18, ground := Ground.phase }, { on := 19, ground := Ground.phase }, { on := 20, ground := Ground.phase }], guard := none }) (v := ?_) rfl (by kernel_rfl) (by kernel_rfl) (by kernel_rfl) (fun _ _ _ h => h) (Or.inl ⟨by rfl, ?_⟩) (by assumption) ?_
      rotate_left
      · (intro wS hSw; (try dsimp only at hSw); go_simp; (try with_reducible rfl))
      try simp only [Act.put, List.setIfInBounds_toArray, List.set_cons_zero, List.set_cons_succ]
      refine wpAnyH_done (by kernel_rfl) ?_ _
      refine NoPanic.normal ?_
      go_wp2_with fail
      go_meet
      exact ⟨rfl, hHeld.1⟩
    case rest =>
    obtain ⟨rfl, hBc⟩ := hcut
    have HB0 := HB0.trans (hBc.mono HB0.size)
    have H1 := H1.next hBc
    have LT := LT.below hBc LT.lt
    have hoA := own_below hoA hBc
    have hZ := hZ.trans (hBc.mono hZ.size)
    have hoAs : wZ.heap.size + 1 ≤ wc.heap.size := by have := hoA.lt g5 rfl; omega
    go_wp2_with (first
      | (go_at_call 18; ((with_reducible refine (over_any (a.length + 16) g5 c5 _ (wZ.heap.size + 1) _ hoA hoAs (by omega)).mono ?_); rintro e' wX ⟨⟨vX, rfl⟩, hb⟩; have hZ2 := hZ.trans (hb.mono (by omega)); have HB0 := HBZ.trans (hZ2.mono HBZ.size); have H1 := H1Z.next hZ2; have LT := LTZ.below hZ2 LTZ.lt; clear hb))
      | (go_at_call 17; ((with_reducible refine (keptB_n a a.length rfl gL A1 _ _ LT H1 (by omega)).mono ?_); rintro e' w4 ⟨rfl, hb⟩; have HB0 := btr HB0 HB0.size hb; clear hb))
      | (go_at_call 9; refine (awake_any _).mono ?_; rintro e' w2 ⟨rfl, hb2⟩))
    go_ret
    exact ⟨rfl, btr HB0 HB0.size hb2⟩
end Go.Proofs.Ytjmochkhdapmiaa
