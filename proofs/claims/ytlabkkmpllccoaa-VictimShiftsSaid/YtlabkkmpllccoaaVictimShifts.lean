/- VictimShifts: the walk. -/
import Derived.Test.YtlabkkmpllccoaaVictimAw
import Derived.Test.YtlabkkmpllccoaaVictimSM
import Derived.Test.YtlabkkmpllccoaaOpenS2
import Derived.Deep.RegionHeld3
import Derived.Deep.DrawnRows
import Derived.Deep.DeepCutAuto
namespace Go.Proofs.Ytlabkkmpllccoaa
open Go.ChangeShapes Go.WideShapes Go.ChangeAt Go.RowKit
attribute [local go_sem ↓] Go.wp_at_zero Go.wp_at_succ
set_option linter.unusedSimpArgs false
set_option linter.unusedVariables false

theorem take_step {l : List Int} {k : Nat} (h : k < l.length) : (l.take (k + 1)).map (Value.int .i64) = (l.take k).map (Value.int .i64) ++ [Value.int .i64 (l.getD k 0)] := by
  rw [List.take_add_one, List.map_append, List.getElem?_eq_getElem h, List.getD_eq_getElem?_getD, List.getElem?_eq_getElem h]
  rfl
theorem getD_mem' {l : List Int} {k : Nat} (h : k < l.length) : l.getD k 0 ∈ l := by
  rw [List.getD_eq_getElem?_getD, List.getElem?_eq_getElem h]
  exact List.getElem_mem h
theorem getD_bd {l : List Int} {P : Int → Prop} (h : ∀ j, j < l.length → P (l.getD j 0)) : ∀ z ∈ l, P z := fun z hz => by
  obtain ⟨j, hj, rfl⟩ := List.getElem_of_mem hz
  have := h j hj
  rwa [List.getD_eq_getElem?_getD, List.getElem?_eq_getElem hj] at this
set_option maxRecDepth 100000 in
set_option maxHeartbeats 8000000 in
theorem vshifts_walk (A1 : Option Addr) (m1 c1 : Nat) (live : List Int) (A2 : Option Addr) (m2 c2 : Nat) (ws : List Int) (A3 : Option Addr) (m3 c3 : Nat) (may : List Bool) (more which : Int) (w : World)
    (r1 : SlA w A1 m1 c1 (live.map (Value.int .i64))) (_ : ∀ z ∈ live, i64in z) (r2 : SlA w A2 m2 c2 (ws.map (Value.int .i64))) (_ : ∀ z ∈ ws, i64in z) (r3 : SlA w A3 m3 c3 (may.map Value.bool)) (_ : i64in more) (_ : i64in which) :
    Calls Try.prog 5 #[.slice A1 m1 c1, .slice A2 m2 c2, .slice A3 m3 c3, .int .i64 more, .int .i64 which] w fun e' w' => e' = .returned (.bool true) ∧ Below w.heap.size w w' := by
  obtain ⟨e1, h1, k1, k1p, _⟩ := r1
  obtain ⟨e2, h2, k2, k2p, _⟩ := r2
  obtain ⟨e3, h3, k3, k3p, _⟩ := r3
  rw [List.length_map] at e1 e2 e3
  subst e1 e2 e3
  by_cases hx : 40 < live.length
  · have g1 : (40 : Int) < (live.length : Int) := by omega
    go_enter Try.func5, Try.ntmps5
    go_wp2_with (go_at_call 6; refine (awake_any _).mono ?_; rintro e' w2 ⟨rfl, hb2⟩)
    go_ret
    exact ⟨rfl, hb2⟩
  have g1 : ¬ (40 : Int) < (live.length : Int) := by omega
  by_cases hx : 40 < ws.length
  · have g2 : (40 : Int) < (ws.length : Int) := by omega
    go_enter Try.func5, Try.ntmps5
    go_wp2_with (go_at_call 6; refine (awake_any _).mono ?_; rintro e' w2 ⟨rfl, hb2⟩)
    go_ret
    exact ⟨rfl, hb2⟩
  have g2 : ¬ (40 : Int) < (ws.length : Int) := by omega
  by_cases hx : 40 < may.length
  · have g3 : (40 : Int) < (may.length : Int) := by omega
    go_enter Try.func5, Try.ntmps5
    go_wp2_with (go_at_call 6; refine (awake_any _).mono ?_; rintro e' w2 ⟨rfl, hb2⟩)
    go_ret
    exact ⟨rfl, hb2⟩
  have g3 : ¬ (40 : Int) < (may.length : Int) := by omega
  obtain ⟨n, hn⟩ : ∃ n, mlen3 live ws may = n := ⟨_, rfl⟩
  have en : min live.length (min ws.length may.length) = n := hn
  have nn : n ≤ 1000000 := by omega
  have n40 : n ≤ 40 := by omega
  have HE := Lib.hid en
  have lt1 : (live.take n).length = n := len_take _ _ (by omega)
  have lt2 : (ws.take n).length = n := len_take _ _ (by omega)
  have lt3 : (may.take n).length = n := len_take _ _ (by omega)
  have HT := Lib.hid (And.intro lt1 (And.intro lt2 lt3))
  have hS1 : Sl w w.heap.size A1 ((live.take n).map (Value.int .i64)) := by rw [List.map_take]; exact sl_take h1 n
  have hS2 : Sl w w.heap.size A2 ((ws.take n).map (Value.int .i64)) := by rw [List.map_take]; exact sl_take h2 n
  have hS3 : Sl w w.heap.size A3 ((may.take n).map Value.bool) := by rw [List.map_take]; exact sl_take h3 n
  obtain ⟨L, hL⟩ : ∃ L, lowL 9 (live.take n) = L := ⟨_, rfl⟩
  obtain ⟨W, hW⟩ : ∃ L, lowL 1000 (ws.take n) = L := ⟨_, rfl⟩
  obtain ⟨M, hM⟩ : ∃ M, lowI more 1000 = M := ⟨_, rfl⟩
  obtain ⟨G, hG⟩ : ∃ G, may.take n = G := ⟨_, rfl⟩
  rw [hG] at hS3 lt3
  have bM := lowI_bd more 1000 (by omega)
  rw [hM] at bM
  obtain ⟨bM1, bM2⟩ := bM
  have lL : L.length = n := by rw [← hL]; simp only [lowL, List.length_map]; exact lt1
  have lW : W.length = n := by rw [← hW]; simp only [lowL, List.length_map]; exact lt2
  have bL : ∀ j, j < n → 0 ≤ L.getD j 0 ∧ L.getD j 0 < 9 := fun j hj => by
    have := getD_mem' (l := L) (k := j) (by omega)
    rw [← hL] at this ⊢
    exact lowL_bd (by omega) this
  have bW : ∀ j, j < n → 0 ≤ W.getD j 0 ∧ W.getD j 0 < 1000 := fun j hj => by
    have := getD_mem' (l := W) (k := j) (by omega)
    rw [← hW] at this ⊢
    exact lowL_bd (by omega) this
  obtain ⟨LA, lA, vA⟩ : ∃ LA : List Int, LA.length = n ∧ ∀ j, j < n → LA.getD j 0 = L.getD j 0 + 1 := ⟨L.map (· + 1), by simp [lL], fun j hj => by simp [lL, hj]⟩
  obtain ⟨LB, lB, vB⟩ : ∃ LB : List Int, LB.length = n ∧ ∀ j, j < n → LB.getD j 0 = W.getD j 0 + M := ⟨W.map (· + M), by simp [lW], fun j hj => by simp [lW, hj]⟩
  have EL := Lib.hid hL
  have EW := Lib.hid hW
  have EM := Lib.hid hM
  have HLN := Lib.hid (And.intro lL (And.intro lW (And.intro lt3 (And.intro lA lB))))
  have HB := Lib.hid (And.intro bL bW)
  have HV := Lib.hid (And.intro vA vB)
  have s1 : (0 : Int) ≤ (n : Int) := by omega
  have s2 : (n : Int) ≤ (c1 : Int) := by omega
  have s3 : (n : Int) ≤ (c2 : Int) := by omega
  have s4 : (n : Int) ≤ (c3 : Int) := by omega
  have s5 : n ≤ c3 := by omega
  have HB0 : Below w.heap.size w w := Below.refl _ _
  clear hL hW hM hG lL lW lt1 lt2 lt3 lA lB bL bW vA vB en hn h1 h2
  go_enter Try.func5, Try.ntmps5
  go_upto_region 3 with fail
  go_cut [11] (fun s wx => s = .int .i64 n ∧ w = wx)
  case first =>
    go_wp2
    all_goals
      go_meet
      have := HE.out
      refine ⟨?_, rfl⟩
      first
      | (have e1 : n = live.length := by omega
         exact congrArg (fun n : Nat => Value.int .i64 (n : Int)) e1.symm)
      | (have e1 : n = ws.length := by omega
         exact congrArg (fun n : Nat => Value.int .i64 (n : Int)) e1.symm)
      | (have e1 : n = may.length := by omega
         exact congrArg (fun n : Nat => Value.int .i64 (n : Int)) e1.symm)
  case rest =>
  obtain ⟨rfl, rfl⟩ := hcut
  go_upto_region 4 with fail
  go_cut [0, 1, 3] (fun v0 v1 v3 wx => ∃ A4 c4 A5 c5, v0 = .slice A4 n c4 ∧ v1 = .slice A5 n c5 ∧ v3 = .int .i64 M ∧ n ≤ c5 ∧ c5 ≤ maxLen ∧ Sl wx wx.heap.size A4 (L.map (Value.int .i64)) ∧ Sl wx wx.heap.size A5 (W.map (Value.int .i64)) ∧ Below w.heap.size w wx)
  case first =>
    refine wp_region_noPanic ?_
    refine wp_region_held_drew (S := (fun w' => Below w.heap.size w w')) (by kernel_rfl) ?_ (fun hHeld => ?_)
    · (first | exact HX | exact HB0.drew)
    refine wpAnyH_take (i := 0) (oi := { dst := some 36, op := Op.move (Operand.tmp 0), type := 22, pos := "more.go:14", after := #[], guard := none }) (v := ?_) rfl (by kernel_rfl) (by kernel_rfl) (by kernel_rfl) (fun _ _ _ h => h) (Or.inl ⟨by rfl, ?_⟩) (by assumption) ?_
    rotate_left
    · (intro wS hSw; (try dsimp only at hSw); go_simp; (try with_reducible rfl))
    try simp only [Act.put, List.setIfInBounds_toArray, List.set_cons_zero, List.set_cons_succ]
    refine wpAnyH_take (i := 1) (oi := { dst := some 37, op := Op.move (Operand.tmp 11), type := 3, pos := "more.go:14", after := #[], guard := none }) (v := ?_) rfl (by kernel_rfl) (by kernel_rfl) (by kernel_rfl) (fun _ _ _ h => h) (Or.inl ⟨by rfl, ?_⟩) (by assumption) ?_
    rotate_left
    · (intro wS hSw; (try dsimp only at hSw); go_simp; (try with_reducible rfl))
    try simp only [Act.put, List.setIfInBounds_toArray, List.set_cons_zero, List.set_cons_succ]
    refine wpAnyH_take (i := 2) (oi := { dst := some 38, op := Op.slice 22 (Operand.tmp 36) none (some (Operand.tmp 37)) none, type := 22, pos := "more.go:14", after := #[{ on := 0, ground := Ground.data }, { on := 1, ground := Ground.data }], guard := none }) (v := ?_) rfl (by kernel_rfl) (by kernel_rfl) (by kernel_rfl) (fun _ _ _ h => h) (Or.inl ⟨by rfl, ?_⟩) (by assumption) ?_
    rotate_left
    · (intro wS hSw; (try dsimp only at hSw); go_simp; (try with_reducible rfl))
    try simp only [Act.put, List.setIfInBounds_toArray, List.set_cons_zero, List.set_cons_succ]
    refine wpAnyH_take (i := 4) (oi := { dst := some 40, op := Op.move (Operand.tmp 1), type := 22, pos := "more.go:14", after := #[], guard := none }) (v := ?_) rfl (by kernel_rfl) (by kernel_rfl) (by kernel_rfl) (fun _ _ _ h => h) (Or.inl ⟨by rfl, ?_⟩) (by assumption) ?_
    rotate_left
    · (intro wS hSw; (try dsimp only at hSw); go_simp; (try with_reducible rfl))
    try simp only [Act.put, List.setIfInBounds_toArray, List.set_cons_zero, List.set_cons_succ]
    refine wpAnyH_take (i := 5) (oi := { dst := some 41, op := Op.move (Operand.tmp 11), type := 3, pos := "more.go:14", after := #[], guard := none }) (v := ?_) rfl (by kernel_rfl) (by kernel_rfl) (by kernel_rfl) (fun _ _ _ h => h) (Or.inl ⟨by rfl, ?_⟩) (by assumption) ?_
    rotate_left
    · (intro wS hSw; (try dsimp only at hSw); go_simp; (try with_reducible rfl))
    try simp only [Act.put, List.setIfInBounds_toArray, List.set_cons_zero, List.set_cons_succ]
    refine wpAnyH_take (i := 6) (oi := { dst := some 42, op := Op.slice 22 (Operand.tmp 40) none (some (Operand.tmp 41)) none, type := 22, pos := "more.go:14", after := #[{ on := 4, ground := Ground.data }, { on := 5, ground := Ground.data }], guard := none }) (v := ?_) rfl (by kernel_rfl) (by kernel_rfl) (by kernel_rfl) (fun _ _ _ h => h) (Or.inl ⟨by rfl, ?_⟩) (by assumption) ?_
    rotate_left
    · (intro wS hSw; (try dsimp only at hSw); go_simp; (try with_reducible rfl))
    try simp only [Act.put, List.setIfInBounds_toArray, List.set_cons_zero, List.set_cons_succ]
    refine wpAnyH_take (i := 8) (oi := { dst := some 44, op := Op.move (Operand.tmp 3), type := 3, pos := "more.go:14", after := #[], guard := none }) (v := ?_) rfl (by kernel_rfl) (by kernel_rfl) (by kernel_rfl) (fun _ _ _ h => h) (Or.inl ⟨by rfl, ?_⟩) (by assumption) ?_
    rotate_left
    · (intro wS hSw; (try dsimp only at hSw); go_simp; (try with_reducible rfl))
    try simp only [Act.put, List.setIfInBounds_toArray, List.set_cons_zero, List.set_cons_succ]
    refine wpAnyH_ready (rs := [3]) (by kernel_rfl) (by simp) ?_
    refine AllReadyH.cons (o := { dst := some 39, op := Op.call { callee := Callee.value (Operand.func 7), args := #[Operand.tmp 38, Operand.const (Value.int IntKind.i64 9)], argTypes := #[22, 3] }, type := 22, pos := "more.go:14", after := #[{ on := 2, ground := Ground.data }], guard := none }) rfl (fun K hK => ?_) AllReadyH.nil
    go_simp
    (first
        | (go_at_call 7; ((with_reducible refine (low_n 9 (by omega) (by omega) n (live.take n) HT.out.1 A1 c1 _ (hS1.next hHeld) nn).mono ?_); rintro e' w1 ⟨A4, c4, rfl, k4, k4p, H1, hb1⟩; rw [EL.out] at H1; have HX := btr hHeld hHeld.size hb1))
        | (go_at_call 7; ((with_reducible refine (low_n 1000 (by omega) (by omega) n (ws.take n) HT.out.2.1 A2 c2 _ (hS2.next hHeld) nn).mono ?_); rintro e' w1 ⟨A5, c5, rfl, k5, k5p, H2, hb1⟩; rw [EW.out] at H2; replace H1 := H1.next hb1; have HX := btr hHeld hHeld.size hb1))
        | (go_at_call 16; refine (low_any more 1000 _ (by omega) (by omega)).mono ?_; rw [EM.out]; rintro e' w' ⟨rfl, rfl⟩; have HX := hHeld))
    go_wp2_with fail
    refine hK.out _ _ ?_ (fun hNew => ?_)
    · (first | exact HX | exact HB0.drew)
    clear hK K hHeld
    have hHeld := hNew
    clear hNew
    try simp only [Act.put, List.setIfInBounds_toArray, List.set_cons_zero, List.set_cons_succ]
    refine wpAnyH_ready (rs := [7]) (by kernel_rfl) (by simp) ?_
    refine AllReadyH.cons (o := { dst := some 43, op := Op.call { callee := Callee.value (Operand.func 7), args := #[Operand.tmp 42, Operand.const (Value.int IntKind.i64 1000)], argTypes := #[22, 3] }, type := 22, pos := "more.go:14", after := #[{ on := 6, ground := Ground.data }, { on := 3, ground := Ground.chain }], guard := none }) rfl (fun K hK => ?_) AllReadyH.nil
    go_simp
    (first
        | (go_at_call 7; ((with_reducible refine (low_n 9 (by omega) (by omega) n (live.take n) HT.out.1 A1 c1 _ (hS1.next hHeld) nn).mono ?_); rintro e' w1 ⟨A4, c4, rfl, k4, k4p, H1, hb1⟩; rw [EL.out] at H1; have HX := btr hHeld hHeld.size hb1))
        | (go_at_call 7; ((with_reducible refine (low_n 1000 (by omega) (by omega) n (ws.take n) HT.out.2.1 A2 c2 _ (hS2.next hHeld) nn).mono ?_); rintro e' w1 ⟨A5, c5, rfl, k5, k5p, H2, hb1⟩; rw [EW.out] at H2; replace H1 := H1.next hb1; have HX := btr hHeld hHeld.size hb1))
        | (go_at_call 16; refine (low_any more 1000 _ (by omega) (by omega)).mono ?_; rw [EM.out]; rintro e' w' ⟨rfl, rfl⟩; have HX := hHeld))
    go_wp2_with fail
    refine hK.out _ _ ?_ (fun hNew => ?_)
    · (first | exact HX | exact HB0.drew)
    clear hK K hHeld
    have hHeld := hNew
    clear hNew
    try simp only [Act.put, List.setIfInBounds_toArray, List.set_cons_zero, List.set_cons_succ]
    refine wpAnyH_ready (rs := [9]) (by kernel_rfl) (by simp) ?_
    refine AllReadyH.cons (o := { dst := some 45, op := Op.call { callee := Callee.value (Operand.func 16), args := #[Operand.tmp 44, Operand.const (Value.int IntKind.i64 1000)], argTypes := #[3, 3] }, type := 3, pos := "more.go:14", after := #[{ on := 8, ground := Ground.data }, { on := 7, ground := Ground.chain }], guard := none }) rfl (fun K hK => ?_) AllReadyH.nil
    go_simp
    (first
        | (go_at_call 7; ((with_reducible refine (low_n 9 (by omega) (by omega) n (live.take n) HT.out.1 A1 c1 _ (hS1.next hHeld) nn).mono ?_); rintro e' w1 ⟨A4, c4, rfl, k4, k4p, H1, hb1⟩; rw [EL.out] at H1; have HX := btr hHeld hHeld.size hb1))
        | (go_at_call 7; ((with_reducible refine (low_n 1000 (by omega) (by omega) n (ws.take n) HT.out.2.1 A2 c2 _ (hS2.next hHeld) nn).mono ?_); rintro e' w1 ⟨A5, c5, rfl, k5, k5p, H2, hb1⟩; rw [EW.out] at H2; replace H1 := H1.next hb1; have HX := btr hHeld hHeld.size hb1))
        | (go_at_call 16; refine (low_any more 1000 _ (by omega) (by omega)).mono ?_; rw [EM.out]; rintro e' w' ⟨rfl, rfl⟩; have HX := hHeld))
    go_wp2_with fail
    refine hK.out _ _ ?_ (fun hNew => ?_)
    · (first | exact HX | exact HB0.drew)
    clear hK K hHeld
    have hHeld := hNew
    clear hNew
    try simp only [Act.put, List.setIfInBounds_toArray, List.set_cons_zero, List.set_cons_succ]
    refine wpAnyH_take (i := 10) (oi := { dst := some 0, op := Op.assign (Operand.tmp 39), type := 22, pos := "more.go:14", after := #[{ on := 3, ground := Ground.data }, { on := 9, ground := Ground.chain }, { on := 0, ground := Ground.phase }, { on := 1, ground := Ground.phase }, { on := 2, ground := Ground.phase }, { on := 3, ground := Ground.phase }, { on := 4, ground := Ground.textOnly Departure.lateStores }, { on := 5, ground := Ground.textOnly Departure.lateStores }, { on := 6, ground := Ground.textOnly Departure.lateStoresUnsure }, { on := 7, ground := Ground.textOnly Departure.lateStoresUnsure }, { on := 8, ground := Ground.textOnly Departure.lateStores }, { on := 9, ground := Ground.textOnly Departure.lateStoresUnsure }], guard := none }) (v := ?_) rfl (by kernel_rfl) (by kernel_rfl) (by kernel_rfl) (fun _ _ _ h => h) (Or.inl ⟨by rfl, ?_⟩) (by assumption) ?_
    rotate_left
    · (intro wS hSw; (try dsimp only at hSw); go_simp; (try with_reducible rfl))
    try simp only [Act.put, List.setIfInBounds_toArray, List.set_cons_zero, List.set_cons_succ]
    refine wpAnyH_take (i := 11) (oi := { dst := some 1, op := Op.assign (Operand.tmp 43), type := 22, pos := "more.go:14", after := #[{ on := 7, ground := Ground.data }, { on := 10, ground := Ground.chain }, { on := 0, ground := Ground.phase }, { on := 1, ground := Ground.phase }, { on := 2, ground := Ground.phase }, { on := 3, ground := Ground.phase }, { on := 4, ground := Ground.phase }, { on := 5, ground := Ground.phase }, { on := 6, ground := Ground.phase }, { on := 7, ground := Ground.phase }, { on := 8, ground := Ground.textOnly Departure.lateStores }, { on := 9, ground := Ground.textOnly Departure.lateStoresUnsure }, { on := 10, ground := Ground.phase }], guard := none }) (v := ?_) rfl (by kernel_rfl) (by kernel_rfl) (by kernel_rfl) (fun _ _ _ h => h) (Or.inl ⟨by rfl, ?_⟩) (by assumption) ?_
    rotate_left
    · (intro wS hSw; (try dsimp only at hSw); go_simp; (try with_reducible rfl))
    try simp only [Act.put, List.setIfInBounds_toArray, List.set_cons_zero, List.set_cons_succ]
    refine wpAnyH_take (i := 12) (oi := { dst := some 3, op := Op.assign (Operand.tmp 45), type := 3, pos := "more.go:14", after := #[{ on := 9, ground := Ground.data }, { on := 11, ground := Ground.chain }, { on := 0, ground := Ground.phase }, { on := 1, ground := Ground.phase }, { on := 2, ground := Ground.phase }, { on := 3, ground := Ground.phase }, { on := 4, ground := Ground.phase }, { on := 5, ground := Ground.phase }, { on := 6, ground := Ground.phase }, { on := 7, ground := Ground.phase }, { on := 8, ground := Ground.phase }, { on := 9, ground := Ground.phase }, { on := 10, ground := Ground.phase }, { on := 11, ground := Ground.phase }], guard := none }) (v := ?_) rfl (by kernel_rfl) (by kernel_rfl) (by kernel_rfl) (fun _ _ _ h => h) (Or.inl ⟨by rfl, ?_⟩) (by assumption) ?_
    rotate_left
    · (intro wS hSw; (try dsimp only at hSw); go_simp; (try with_reducible rfl))
    try simp only [Act.put, List.setIfInBounds_toArray, List.set_cons_zero, List.set_cons_succ]
    refine wpAnyH_done (by kernel_rfl) ?_ _
    refine NoPanic.normal ?_
    go_wp2_with fail
    go_meet
    exact ⟨A4, c4, A5, c5, rfl, rfl, rfl, k5, k5p, H1, H2, hHeld⟩

  case rest =>
  obtain ⟨A4, c4, A5, c5, rfl, rfl, rfl, k5, k5p, H1, H2, HW⟩ := hcut
  obtain ⟨wo, rfl⟩ : ∃ W : World, W = wc := ⟨_, rfl⟩
  go_wp2
  have HWB := HW
  go_loopw [12, 13, 14] (fun sa sb i wr => ∃ k : Nat, k ≤ n ∧ i = .int .i64 k ∧ wr.ownsRow wo.heap.size 3 1 sa k ((LA.take k).map (Value.int .i64)) ∧ wr.ownsRow wo.heap.size 3 1 sb k ((LB.take k).map (Value.int .i64)) ∧ (∀ g, sa.ownBlock = some g → sb.ownBlock ≠ some g) ∧ Below wo.heap.size wo wr) (fun _ _ i _ => n - (intOf i).toNat)
  case atStart => exact ⟨0, Nat.zero_le _, rfl, World.ownsRow_nil _ _ _ _, World.ownsRow_nil _ _ _ _, (by intro g hg; simp [Value.ownBlock] at hg), Below.refl _ _⟩
  case round =>
    obtain ⟨k, hk, rfl, RA, RB, DAB, hBr⟩ := hrel
    by_cases hlt : k < n
    · have lL := HLN.out.1
      have lW := HLN.out.2.1
      have lA := HLN.out.2.2.2.1
      have lB := HLN.out.2.2.2.2
      have b1 := HB.out.1 k hlt
      have b2 := HB.out.2 k hlt
      have x1 := HV.out.1 k hlt
      have x2 := HV.out.2 k hlt
      have tA := take_step (l := LA) (k := k) (by omega)
      have tB := take_step (l := LB) (k := k) (by omega)
      obtain ⟨b4, o4, rfl, l4, q4⟩ := H1.at_ (by rw [List.length_map]; omega)
      obtain ⟨b5, o5, rfl, l5, q5⟩ := H2.at_ (by rw [List.length_map]; omega)
      have ck1 := q4 k _ (by rw [List.getElem?_map, List.getElem?_eq_getElem (by omega : k < L.length)]; rfl)
      have ck2 := q5 k _ (by rw [List.getElem?_map, List.getElem?_eq_getElem (by omega : k < W.length)]; rfl)
      have y1 : L.getD k 0 = L[k]'(by omega) := by rw [List.getD_eq_getElem?_getD, List.getElem?_eq_getElem (by omega : k < L.length)]; rfl
      have y2 : W.getD k 0 = W[k]'(by omega) := by rw [List.getD_eq_getElem?_getD, List.getElem?_eq_getElem (by omega : k < W.length)]; rfl
      rw [← y1] at ck1
      rw [← y2] at ck2
      obtain ⟨zl, hzl⟩ : ∃ z, L.getD k 0 = z := ⟨_, rfl⟩
      obtain ⟨zw, hzw⟩ : ∃ z, W.getD k 0 = z := ⟨_, rfl⟩
      rw [hzl] at ck1 b1 x1
      rw [hzw] at ck2 b2 x2
      rw [x1] at tA
      rw [x2] at tB
      have j0 : (0 : Int) ≤ (k : Int) := by omega
      have j1 : (k : Int) < (n : Int) := by omega
      have HQ1 : Hid (IntKind.i64.wrap (zl + 1) = zl + 1) := Lib.hid (by rw [IntKind.wrap_i64]; omega)
      have HQ2 : Hid (IntKind.i64.wrap (zw + M) = zw + M) := Lib.hid (by rw [IntKind.wrap_i64]; omega)
      have TA := Lib.hid tA
      have TB := Lib.hid tB
      have KP : Hid (∀ w', Below wo.heap.size wo w' → Below wo.heap.size wo w' ∧ w'.cell? ⟨b4, o4 + k, none⟩ = some (.int .i64 zl) ∧ w'.cell? ⟨b5, o5 + k, none⟩ = some (.int .i64 zw)) :=
        Lib.hid fun w' h => ⟨h, (h.cell (p := ⟨b4, o4 + k, none⟩) l4).trans ck1, (h.cell (p := ⟨b5, o5 + k, none⟩) l5).trans ck2⟩
      have HBN : Below wo.heap.size wo wr.drew := hBr.drew
      replace RA := RA.drew
      replace RB := RB.drew
      clear HT EL EW EM hS1 hS2 HE HW HWB g1 g2 g3 h3 hS3 HB0 HLN HV HB H1 H2 k1 k2 k3 k1p k2p k3p s1 s2 s3 s4 s5 k5 k5p
      clear q4 q5 hzl hzw ck1 ck2 y1 y2 x1 x2 tA tB b1 b2 lL lW lA lB
      go_upto_region 10 with fail
      refine wp_region_noPanic ?_
      refine wp_region_held_drew (S := (fun w' => Below wo.heap.size wo w' ∧ w'.cell? ⟨b4, o4 + k, none⟩ = some (.int .i64 zl) ∧ w'.cell? ⟨b5, o5 + k, none⟩ = some (.int .i64 zw))) (by kernel_rfl) ?_ (fun hHeld => ?_)
      · (first | exact KP.out _ HX | exact KP.out _ HBN)
      refine wpAnyH_take (i := 0) (oi := { dst := some 54, op := Op.move (Operand.tmp 12), type := 22, pos := "more.go:18", after := #[], guard := none }) (v := ?_) rfl (by kernel_rfl) (by kernel_rfl) (by kernel_rfl) (fun _ _ _ h => h) (Or.inl ⟨by rfl, ?_⟩) (by assumption) ?_
      rotate_left
      · (intro wS hSw; (try dsimp only at hSw); go_simp; (try with_reducible rfl))
      try simp only [Act.put, List.setIfInBounds_toArray, List.set_cons_zero, List.set_cons_succ]
      refine wpAnyH_take (i := 1) (oi := { dst := some 55, op := Op.move (Operand.tmp 0), type := 22, pos := "more.go:18", after := #[], guard := none }) (v := ?_) rfl (by kernel_rfl) (by kernel_rfl) (by kernel_rfl) (fun _ _ _ h => h) (Or.inl ⟨by rfl, ?_⟩) (by assumption) ?_
      rotate_left
      · (intro wS hSw; (try dsimp only at hSw); go_simp; (try with_reducible rfl))
      try simp only [Act.put, List.setIfInBounds_toArray, List.set_cons_zero, List.set_cons_succ]
      refine wpAnyH_take (i := 2) (oi := { dst := some 56, op := Op.move (Operand.tmp 14), type := 3, pos := "more.go:18", after := #[], guard := none }) (v := ?_) rfl (by kernel_rfl) (by kernel_rfl) (by kernel_rfl) (fun _ _ _ h => h) (Or.inl ⟨by rfl, ?_⟩) (by assumption) ?_
      rotate_left
      · (intro wS hSw; (try dsimp only at hSw); go_simp; (try with_reducible rfl))
      try simp only [Act.put, List.setIfInBounds_toArray, List.set_cons_zero, List.set_cons_succ]
      refine wpAnyH_take (i := 3) (oi := { dst := some 57, op := Op.indexAddr 22 (Operand.tmp 55) (Operand.tmp 56), type := 0, pos := "more.go:18", after := #[{ on := 1, ground := Ground.data }, { on := 2, ground := Ground.data }], guard := none }) (v := ?_) rfl (by kernel_rfl) (by kernel_rfl) (by kernel_rfl) (fun _ _ _ h => h) (Or.inl ⟨by rfl, ?_⟩) (by assumption) ?_
      rotate_left
      · (intro wS hSw; (try dsimp only at hSw); go_simp; (try with_reducible rfl))
      try simp only [Act.put, List.setIfInBounds_toArray, List.set_cons_zero, List.set_cons_succ]
      refine wpAnyH_take (i := 4) (oi := { dst := some 58, op := Op.load 3 (Operand.tmp 57), type := 3, pos := "more.go:18", after := #[{ on := 3, ground := Ground.data }], guard := none }) (v := ?_) rfl (by kernel_rfl) (by kernel_rfl) (by kernel_rfl) (fun _ _ _ h => h) (Or.inl ⟨by rfl, ?_⟩) (by assumption) ?_
      rotate_left
      · (intro wS hSw; (try dsimp only at hSw); go_simp; (try with_reducible rfl))
      try simp only [Act.put, List.setIfInBounds_toArray, List.set_cons_zero, List.set_cons_succ]
      refine wpAnyH_take (i := 5) (oi := { dst := some 59, op := Op.binOp BinOp.add 3 (Operand.tmp 58) (Operand.const (Value.int IntKind.i64 1)) 3, type := 3, pos := "more.go:18", after := #[{ on := 4, ground := Ground.data }], guard := none }) (v := ?_) rfl (by kernel_rfl) (by kernel_rfl) (by kernel_rfl) (fun _ _ _ h => h) (Or.inl ⟨by rfl, ?_⟩) (by assumption) ?_
      rotate_left
      · (intro wS hSw; (try dsimp only at hSw); go_simp; (try with_reducible rfl))
      try simp only [Act.put, List.setIfInBounds_toArray, List.set_cons_zero, List.set_cons_succ]
      refine wpAnyH_take (i := 8) (oi := { dst := some 62, op := Op.move (Operand.tmp 13), type := 22, pos := "more.go:18", after := #[], guard := none }) (v := ?_) rfl (by kernel_rfl) (by kernel_rfl) (by kernel_rfl) (fun _ _ _ h => h) (Or.inl ⟨by rfl, ?_⟩) (by assumption) ?_
      rotate_left
      · (intro wS hSw; (try dsimp only at hSw); go_simp; (try with_reducible rfl))
      try simp only [Act.put, List.setIfInBounds_toArray, List.set_cons_zero, List.set_cons_succ]
      refine wpAnyH_take (i := 9) (oi := { dst := some 63, op := Op.move (Operand.tmp 1), type := 22, pos := "more.go:18", after := #[], guard := none }) (v := ?_) rfl (by kernel_rfl) (by kernel_rfl) (by kernel_rfl) (fun _ _ _ h => h) (Or.inl ⟨by rfl, ?_⟩) (by assumption) ?_
      rotate_left
      · (intro wS hSw; (try dsimp only at hSw); go_simp; (try with_reducible rfl))
      try simp only [Act.put, List.setIfInBounds_toArray, List.set_cons_zero, List.set_cons_succ]
      refine wpAnyH_take (i := 10) (oi := { dst := some 64, op := Op.move (Operand.tmp 14), type := 3, pos := "more.go:18", after := #[], guard := none }) (v := ?_) rfl (by kernel_rfl) (by kernel_rfl) (by kernel_rfl) (fun _ _ _ h => h) (Or.inl ⟨by rfl, ?_⟩) (by assumption) ?_
      rotate_left
      · (intro wS hSw; (try dsimp only at hSw); go_simp; (try with_reducible rfl))
      try simp only [Act.put, List.setIfInBounds_toArray, List.set_cons_zero, List.set_cons_succ]
      refine wpAnyH_take (i := 11) (oi := { dst := some 65, op := Op.indexAddr 22 (Operand.tmp 63) (Operand.tmp 64), type := 0, pos := "more.go:18", after := #[{ on := 9, ground := Ground.data }, { on := 10, ground := Ground.data }], guard := none }) (v := ?_) rfl (by kernel_rfl) (by kernel_rfl) (by kernel_rfl) (fun _ _ _ h => h) (Or.inl ⟨by rfl, ?_⟩) (by assumption) ?_
      rotate_left
      · (intro wS hSw; (try dsimp only at hSw); go_simp; (try with_reducible rfl))
      try simp only [Act.put, List.setIfInBounds_toArray, List.set_cons_zero, List.set_cons_succ]
      refine wpAnyH_take (i := 12) (oi := { dst := some 66, op := Op.load 3 (Operand.tmp 65), type := 3, pos := "more.go:18", after := #[{ on := 11, ground := Ground.data }], guard := none }) (v := ?_) rfl (by kernel_rfl) (by kernel_rfl) (by kernel_rfl) (fun _ _ _ h => h) (Or.inl ⟨by rfl, ?_⟩) (by assumption) ?_
      rotate_left
      · (intro wS hSw; (try dsimp only at hSw); go_simp; (try with_reducible rfl))
      try simp only [Act.put, List.setIfInBounds_toArray, List.set_cons_zero, List.set_cons_succ]
      refine wpAnyH_take (i := 13) (oi := { dst := some 67, op := Op.move (Operand.tmp 3), type := 3, pos := "more.go:18", after := #[], guard := none }) (v := ?_) rfl (by kernel_rfl) (by kernel_rfl) (by kernel_rfl) (fun _ _ _ h => h) (Or.inl ⟨by rfl, ?_⟩) (by assumption) ?_
      rotate_left
      · (intro wS hSw; (try dsimp only at hSw); go_simp; (try with_reducible rfl))
      try simp only [Act.put, List.setIfInBounds_toArray, List.set_cons_zero, List.set_cons_succ]
      refine wpAnyH_take (i := 14) (oi := { dst := some 68, op := Op.binOp BinOp.add 3 (Operand.tmp 66) (Operand.tmp 67) 3, type := 3, pos := "more.go:18", after := #[{ on := 12, ground := Ground.data }, { on := 13, ground := Ground.data }], guard := none }) (v := ?_) rfl (by kernel_rfl) (by kernel_rfl) (by kernel_rfl) (fun _ _ _ h => h) (Or.inl ⟨by rfl, ?_⟩) (by assumption) ?_
      rotate_left
      · (intro wS hSw; (try dsimp only at hSw); go_simp; (try with_reducible rfl))
      try simp only [Act.put, List.setIfInBounds_toArray, List.set_cons_zero, List.set_cons_succ]
      refine wpAnyH_ready (rs := [6, 15]) (by kernel_rfl) (by simp) ?_
      refine (AllReadyH.cons (o := { dst := some 60, op := Op.buildSlice 22 1 #[(0, Operand.tmp 59)], type := 22, pos := "more.go:18", after := #[{ on := 5, ground := Ground.data }], guard := none }) rfl (fun K hK => ?_) (AllReadyH.cons (o := { dst := some 69, op := Op.buildSlice 22 1 #[(0, Operand.tmp 68)], type := 22, pos := "more.go:18", after := #[{ on := 14, ground := Ground.data }], guard := none }) rfl (fun K hK => ?_) AllReadyH.nil))
      · refine step_build1 rfl (.tmp 59) rfl (zl + 1) (congrArg (Value.int .i64) HQ1.out) wo.heap.size hHeld.1.size ?_
        intro wX uX T1 hgX hvX huX
        have HX := hHeld.1.grown hgX hHeld.1.size (fun k h => by cases h)
        have DT1a := apart_sym (apart_new RA hvX)
        replace RA := RA.kept (row := none) hgX (by cases Value.ownBlock _ <;> simp)
        replace RB := RB.kept (row := none) hgX (by cases Value.ownBlock _ <;> simp)
        (try replace T2 := T2.kept (row := none) hgX (by cases Value.ownBlock _ <;> simp))
        subst huX
        clear hgX hvX
        refine hK.out _ _ ?_ (fun hNew => ?_)
        · (first | exact KP.out _ HX | exact KP.out _ HBN)
        clear hK K hHeld
        have hHeld := hNew
        clear hNew
        try simp only [Act.put, List.setIfInBounds_toArray, List.set_cons_zero, List.set_cons_succ]
        refine wpAnyH_ready (rs := [7, 15]) (by kernel_rfl) (by simp) ?_
        refine (AllReadyH.cons (o := { dst := some 61, op := Op.call { callee := Callee.builtin Builtin.append, args := #[Operand.tmp 54, Operand.tmp 60], argTypes := #[22, 22] }, type := 22, pos := "more.go:18", after := #[{ on := 0, ground := Ground.data }, { on := 6, ground := Ground.data }], guard := none }) rfl (fun K hK => ?_) (AllReadyH.cons (o := { dst := some 69, op := Op.buildSlice 22 1 #[(0, Operand.tmp 68)], type := 22, pos := "more.go:18", after := #[{ on := 14, ground := Ground.data }], guard := none }) rfl (fun K hK => ?_) AllReadyH.nil))
        · obtain ⟨i0, hi, hz0, hz1, hz2⟩ := info_parts infoInt
          refine step_app _ rfl (.tmp 54) (.tmp 60) _ rfl wo.heap.size 3 i0 _ 1 8 Try.underlying22 hi hz0 hz1 hz2 rfl (by decide) _ k _ rfl RA _ 1 1 [.int .i64 (zl + 1)] rfl (Rd.of_sl (Sl.of_own T1) rfl) (by intro u hu; simp at hu; subst hu; rfl) (by unfold maxLen; omega) (by omega) hHeld.1.size ?_
          intro va wX hoX hgX hvX
          clear hi hz0 hz1 hz2
          have HX := hHeld.1.grown hgX hHeld.1.size (fun k h => (RA.lt k h).1)
          have DAN := apart_sym (apart_app RB (apart_sym DAB) hvX)
          replace RB := own_kept2 RB hgX (apart_sym DAB)
          replace DAB := DAN
          (try replace T2 := own_kept2 T2 hgX DT2a)
          replace RA := hoX
          refine hK.out _ _ ?_ (fun hNew => ?_)
          · (first | exact KP.out _ HX | exact KP.out _ HBN)
          clear hK K hHeld
          have hHeld := hNew
          clear hNew
          try simp only [Act.put, List.setIfInBounds_toArray, List.set_cons_zero, List.set_cons_succ]
          refine wpAnyH_ready (rs := [15]) (by kernel_rfl) (by simp) ?_
          refine AllReadyH.cons (o := { dst := some 69, op := Op.buildSlice 22 1 #[(0, Operand.tmp 68)], type := 22, pos := "more.go:18", after := #[{ on := 14, ground := Ground.data }], guard := none }) rfl (fun K hK => ?_) AllReadyH.nil
          refine step_build1 rfl (.tmp 68) rfl (zw + M) (congrArg (Value.int .i64) HQ2.out) wo.heap.size hHeld.1.size ?_
          intro wX uX T2 hgX hvX huX
          have HX := hHeld.1.grown hgX hHeld.1.size (fun k h => by cases h)
          have DT2a := apart_sym (apart_new RA hvX)
          replace RA := RA.kept (row := none) hgX (by cases Value.ownBlock _ <;> simp)
          replace RB := RB.kept (row := none) hgX (by cases Value.ownBlock _ <;> simp)
          (try replace T1 := T1.kept (row := none) hgX (by cases Value.ownBlock _ <;> simp))
          subst huX
          clear hgX hvX
          refine hK.out _ _ ?_ (fun hNew => ?_)
          · (first | exact KP.out _ HX | exact KP.out _ HBN)
          clear hK K hHeld
          have hHeld := hNew
          clear hNew
          try simp only [Act.put, List.setIfInBounds_toArray, List.set_cons_zero, List.set_cons_succ]
          refine wpAnyH_ready (rs := [16]) (by kernel_rfl) (by simp) ?_
          refine AllReadyH.cons (o := { dst := some 70, op := Op.call { callee := Callee.builtin Builtin.append, args := #[Operand.tmp 62, Operand.tmp 69], argTypes := #[22, 22] }, type := 22, pos := "more.go:18", after := #[{ on := 8, ground := Ground.data }, { on := 15, ground := Ground.data }, { on := 7, ground := Ground.chain }], guard := none }) rfl (fun K hK => ?_) AllReadyH.nil
          obtain ⟨i0, hi, hz0, hz1, hz2⟩ := info_parts infoInt
          refine step_app _ rfl (.tmp 62) (.tmp 69) _ rfl wo.heap.size 3 i0 _ 1 8 Try.underlying22 hi hz0 hz1 hz2 rfl (by decide) _ k _ rfl RB _ 1 1 [.int .i64 (zw + M)] rfl (Rd.of_sl (Sl.of_own T2) rfl) (by intro u hu; simp at hu; subst hu; rfl) (by unfold maxLen; omega) (by omega) hHeld.1.size ?_
          intro vb wX hoX hgX hvX
          clear hi hz0 hz1 hz2
          have HX := hHeld.1.grown hgX hHeld.1.size (fun k h => (RB.lt k h).1)
          have DAN := apart_app RA DAB hvX
          replace RA := own_kept2 RA hgX DAB
          replace DAB := DAN
          replace RB := hoX
          refine hK.out _ _ ?_ (fun hNew => ?_)
          · (first | exact KP.out _ HX | exact KP.out _ HBN)
          clear hK K hHeld
          have hHeld := hNew
          clear hNew
          try simp only [Act.put, List.setIfInBounds_toArray, List.set_cons_zero, List.set_cons_succ]
          refine wpAnyH_take (i := 17) (oi := { dst := some 12, op := Op.assign (Operand.tmp 61), type := 22, pos := "more.go:18", after := #[{ on := 7, ground := Ground.data }, { on := 16, ground := Ground.chain }, { on := 0, ground := Ground.phase }, { on := 1, ground := Ground.phase }, { on := 2, ground := Ground.phase }, { on := 3, ground := Ground.phase }, { on := 4, ground := Ground.phase }, { on := 5, ground := Ground.phase }, { on := 6, ground := Ground.phase }, { on := 7, ground := Ground.phase }, { on := 8, ground := Ground.textOnly Departure.lateStores }, { on := 9, ground := Ground.textOnly Departure.lateStores }, { on := 10, ground := Ground.textOnly Departure.lateStores }, { on := 11, ground := Ground.textOnly Departure.lateStores }, { on := 12, ground := Ground.textOnly Departure.lateStores }, { on := 13, ground := Ground.textOnly Departure.lateStores }, { on := 14, ground := Ground.textOnly Departure.lateStores }, { on := 15, ground := Ground.textOnly Departure.lateStores }, { on := 16, ground := Ground.textOnly Departure.lateStoresUnsure }], guard := none }) (v := ?_) rfl (by kernel_rfl) (by kernel_rfl) (by kernel_rfl) (fun _ _ _ h => h) (Or.inl ⟨by rfl, ?_⟩) (by assumption) ?_
          rotate_left
          · (intro wS hSw; (try dsimp only at hSw); go_simp; (try with_reducible rfl))
          try simp only [Act.put, List.setIfInBounds_toArray, List.set_cons_zero, List.set_cons_succ]
          refine wpAnyH_take (i := 18) (oi := { dst := some 13, op := Op.assign (Operand.tmp 70), type := 22, pos := "more.go:18", after := #[{ on := 16, ground := Ground.data }, { on := 17, ground := Ground.chain }, { on := 0, ground := Ground.phase }, { on := 1, ground := Ground.phase }, { on := 2, ground := Ground.phase }, { on := 3, ground := Ground.phase }, { on := 4, ground := Ground.phase }, { on := 5, ground := Ground.phase }, { on := 6, ground := Ground.phase }, { on := 7, ground := Ground.phase }, { on := 8, ground := Ground.phase }, { on := 9, ground := Ground.phase }, { on := 10, ground := Ground.phase }, { on := 11, ground := Ground.phase }, { on := 12, ground := Ground.phase }, { on := 13, ground := Ground.phase }, { on := 14, ground := Ground.phase }, { on := 15, ground := Ground.phase }, { on := 16, ground := Ground.phase }, { on := 17, ground := Ground.phase }], guard := none }) (v := ?_) rfl (by kernel_rfl) (by kernel_rfl) (by kernel_rfl) (fun _ _ _ h => h) (Or.inl ⟨by rfl, ?_⟩) (by assumption) ?_
          rotate_left
          · (intro wS hSw; (try dsimp only at hSw); go_simp; (try with_reducible rfl))
          try simp only [Act.put, List.setIfInBounds_toArray, List.set_cons_zero, List.set_cons_succ]
          refine wpAnyH_done (by kernel_rfl) ?_ _
          refine NoPanic.normal ?_
          have hHB := hHeld.1
          clear hHeld KP HBN hBr
          go_wp2_with fail
          go_roundw
          case rel => exact ⟨k + 1, by omega, by go_num, by rw [TA.out]; exact RA, by rw [TB.out]; exact RB, DAB, hHB⟩
          case measure => simp [intOf]; omega
        · refine step_build1 rfl (.tmp 68) rfl (zw + M) (congrArg (Value.int .i64) HQ2.out) wo.heap.size hHeld.1.size ?_
          intro wX uX T2 hgX hvX huX
          have HX := hHeld.1.grown hgX hHeld.1.size (fun k h => by cases h)
          have DT2a := apart_sym (apart_new RA hvX)
          replace RA := RA.kept (row := none) hgX (by cases Value.ownBlock _ <;> simp)
          replace RB := RB.kept (row := none) hgX (by cases Value.ownBlock _ <;> simp)
          (try replace T1 := T1.kept (row := none) hgX (by cases Value.ownBlock _ <;> simp))
          subst huX
          clear hgX hvX
          refine hK.out _ _ ?_ (fun hNew => ?_)
          · (first | exact KP.out _ HX | exact KP.out _ HBN)
          clear hK K hHeld
          have hHeld := hNew
          clear hNew
          try simp only [Act.put, List.setIfInBounds_toArray, List.set_cons_zero, List.set_cons_succ]
          refine wpAnyH_ready (rs := [7]) (by kernel_rfl) (by simp) ?_
          refine AllReadyH.cons (o := { dst := some 61, op := Op.call { callee := Callee.builtin Builtin.append, args := #[Operand.tmp 54, Operand.tmp 60], argTypes := #[22, 22] }, type := 22, pos := "more.go:18", after := #[{ on := 0, ground := Ground.data }, { on := 6, ground := Ground.data }], guard := none }) rfl (fun K hK => ?_) AllReadyH.nil
          obtain ⟨i0, hi, hz0, hz1, hz2⟩ := info_parts infoInt
          refine step_app _ rfl (.tmp 54) (.tmp 60) _ rfl wo.heap.size 3 i0 _ 1 8 Try.underlying22 hi hz0 hz1 hz2 rfl (by decide) _ k _ rfl RA _ 1 1 [.int .i64 (zl + 1)] rfl (Rd.of_sl (Sl.of_own T1) rfl) (by intro u hu; simp at hu; subst hu; rfl) (by unfold maxLen; omega) (by omega) hHeld.1.size ?_
          intro va wX hoX hgX hvX
          clear hi hz0 hz1 hz2
          have HX := hHeld.1.grown hgX hHeld.1.size (fun k h => (RA.lt k h).1)
          have DAN := apart_sym (apart_app RB (apart_sym DAB) hvX)
          replace RB := own_kept2 RB hgX (apart_sym DAB)
          replace DAB := DAN
          (try replace T2 := own_kept2 T2 hgX DT2a)
          replace RA := hoX
          refine hK.out _ _ ?_ (fun hNew => ?_)
          · (first | exact KP.out _ HX | exact KP.out _ HBN)
          clear hK K hHeld
          have hHeld := hNew
          clear hNew
          try simp only [Act.put, List.setIfInBounds_toArray, List.set_cons_zero, List.set_cons_succ]
          refine wpAnyH_ready (rs := [16]) (by kernel_rfl) (by simp) ?_
          refine AllReadyH.cons (o := { dst := some 70, op := Op.call { callee := Callee.builtin Builtin.append, args := #[Operand.tmp 62, Operand.tmp 69], argTypes := #[22, 22] }, type := 22, pos := "more.go:18", after := #[{ on := 8, ground := Ground.data }, { on := 15, ground := Ground.data }, { on := 7, ground := Ground.chain }], guard := none }) rfl (fun K hK => ?_) AllReadyH.nil
          obtain ⟨i0, hi, hz0, hz1, hz2⟩ := info_parts infoInt
          refine step_app _ rfl (.tmp 62) (.tmp 69) _ rfl wo.heap.size 3 i0 _ 1 8 Try.underlying22 hi hz0 hz1 hz2 rfl (by decide) _ k _ rfl RB _ 1 1 [.int .i64 (zw + M)] rfl (Rd.of_sl (Sl.of_own T2) rfl) (by intro u hu; simp at hu; subst hu; rfl) (by unfold maxLen; omega) (by omega) hHeld.1.size ?_
          intro vb wX hoX hgX hvX
          clear hi hz0 hz1 hz2
          have HX := hHeld.1.grown hgX hHeld.1.size (fun k h => (RB.lt k h).1)
          have DAN := apart_app RA DAB hvX
          replace RA := own_kept2 RA hgX DAB
          replace DAB := DAN
          replace RB := hoX
          refine hK.out _ _ ?_ (fun hNew => ?_)
          · (first | exact KP.out _ HX | exact KP.out _ HBN)
          clear hK K hHeld
          have hHeld := hNew
          clear hNew
          try simp only [Act.put, List.setIfInBounds_toArray, List.set_cons_zero, List.set_cons_succ]
          refine wpAnyH_take (i := 17) (oi := { dst := some 12, op := Op.assign (Operand.tmp 61), type := 22, pos := "more.go:18", after := #[{ on := 7, ground := Ground.data }, { on := 16, ground := Ground.chain }, { on := 0, ground := Ground.phase }, { on := 1, ground := Ground.phase }, { on := 2, ground := Ground.phase }, { on := 3, ground := Ground.phase }, { on := 4, ground := Ground.phase }, { on := 5, ground := Ground.phase }, { on := 6, ground := Ground.phase }, { on := 7, ground := Ground.phase }, { on := 8, ground := Ground.textOnly Departure.lateStores }, { on := 9, ground := Ground.textOnly Departure.lateStores }, { on := 10, ground := Ground.textOnly Departure.lateStores }, { on := 11, ground := Ground.textOnly Departure.lateStores }, { on := 12, ground := Ground.textOnly Departure.lateStores }, { on := 13, ground := Ground.textOnly Departure.lateStores }, { on := 14, ground := Ground.textOnly Departure.lateStores }, { on := 15, ground := Ground.textOnly Departure.lateStores }, { on := 16, ground := Ground.textOnly Departure.lateStoresUnsure }], guard := none }) (v := ?_) rfl (by kernel_rfl) (by kernel_rfl) (by kernel_rfl) (fun _ _ _ h => h) (Or.inl ⟨by rfl, ?_⟩) (by assumption) ?_
          rotate_left
          · (intro wS hSw; (try dsimp only at hSw); go_simp; (try with_reducible rfl))
          try simp only [Act.put, List.setIfInBounds_toArray, List.set_cons_zero, List.set_cons_succ]
          refine wpAnyH_take (i := 18) (oi := { dst := some 13, op := Op.assign (Operand.tmp 70), type := 22, pos := "more.go:18", after := #[{ on := 16, ground := Ground.data }, { on := 17, ground := Ground.chain }, { on := 0, ground := Ground.phase }, { on := 1, ground := Ground.phase }, { on := 2, ground := Ground.phase }, { on := 3, ground := Ground.phase }, { on := 4, ground := Ground.phase }, { on := 5, ground := Ground.phase }, { on := 6, ground := Ground.phase }, { on := 7, ground := Ground.phase }, { on := 8, ground := Ground.phase }, { on := 9, ground := Ground.phase }, { on := 10, ground := Ground.phase }, { on := 11, ground := Ground.phase }, { on := 12, ground := Ground.phase }, { on := 13, ground := Ground.phase }, { on := 14, ground := Ground.phase }, { on := 15, ground := Ground.phase }, { on := 16, ground := Ground.phase }, { on := 17, ground := Ground.phase }], guard := none }) (v := ?_) rfl (by kernel_rfl) (by kernel_rfl) (by kernel_rfl) (fun _ _ _ h => h) (Or.inl ⟨by rfl, ?_⟩) (by assumption) ?_
          rotate_left
          · (intro wS hSw; (try dsimp only at hSw); go_simp; (try with_reducible rfl))
          try simp only [Act.put, List.setIfInBounds_toArray, List.set_cons_zero, List.set_cons_succ]
          refine wpAnyH_done (by kernel_rfl) ?_ _
          refine NoPanic.normal ?_
          have hHB := hHeld.1
          clear hHeld KP HBN hBr
          go_wp2_with fail
          go_roundw
          case rel => exact ⟨k + 1, by omega, by go_num, by rw [TA.out]; exact RA, by rw [TB.out]; exact RB, DAB, hHB⟩
          case measure => simp [intOf]; omega
      · refine step_build1 rfl (.tmp 68) rfl (zw + M) (congrArg (Value.int .i64) HQ2.out) wo.heap.size hHeld.1.size ?_
        intro wX uX T2 hgX hvX huX
        have HX := hHeld.1.grown hgX hHeld.1.size (fun k h => by cases h)
        have DT2a := apart_sym (apart_new RA hvX)
        replace RA := RA.kept (row := none) hgX (by cases Value.ownBlock _ <;> simp)
        replace RB := RB.kept (row := none) hgX (by cases Value.ownBlock _ <;> simp)
        (try replace T1 := T1.kept (row := none) hgX (by cases Value.ownBlock _ <;> simp))
        subst huX
        clear hgX hvX
        refine hK.out _ _ ?_ (fun hNew => ?_)
        · (first | exact KP.out _ HX | exact KP.out _ HBN)
        clear hK K hHeld
        have hHeld := hNew
        clear hNew
        try simp only [Act.put, List.setIfInBounds_toArray, List.set_cons_zero, List.set_cons_succ]
        refine wpAnyH_ready (rs := [6]) (by kernel_rfl) (by simp) ?_
        refine AllReadyH.cons (o := { dst := some 60, op := Op.buildSlice 22 1 #[(0, Operand.tmp 59)], type := 22, pos := "more.go:18", after := #[{ on := 5, ground := Ground.data }], guard := none }) rfl (fun K hK => ?_) AllReadyH.nil
        refine step_build1 rfl (.tmp 59) rfl (zl + 1) (congrArg (Value.int .i64) HQ1.out) wo.heap.size hHeld.1.size ?_
        intro wX uX T1 hgX hvX huX
        have HX := hHeld.1.grown hgX hHeld.1.size (fun k h => by cases h)
        have DT1a := apart_sym (apart_new RA hvX)
        replace RA := RA.kept (row := none) hgX (by cases Value.ownBlock _ <;> simp)
        replace RB := RB.kept (row := none) hgX (by cases Value.ownBlock _ <;> simp)
        (try replace T2 := T2.kept (row := none) hgX (by cases Value.ownBlock _ <;> simp))
        subst huX
        clear hgX hvX
        refine hK.out _ _ ?_ (fun hNew => ?_)
        · (first | exact KP.out _ HX | exact KP.out _ HBN)
        clear hK K hHeld
        have hHeld := hNew
        clear hNew
        try simp only [Act.put, List.setIfInBounds_toArray, List.set_cons_zero, List.set_cons_succ]
        refine wpAnyH_ready (rs := [7]) (by kernel_rfl) (by simp) ?_
        refine AllReadyH.cons (o := { dst := some 61, op := Op.call { callee := Callee.builtin Builtin.append, args := #[Operand.tmp 54, Operand.tmp 60], argTypes := #[22, 22] }, type := 22, pos := "more.go:18", after := #[{ on := 0, ground := Ground.data }, { on := 6, ground := Ground.data }], guard := none }) rfl (fun K hK => ?_) AllReadyH.nil
        obtain ⟨i0, hi, hz0, hz1, hz2⟩ := info_parts infoInt
        refine step_app _ rfl (.tmp 54) (.tmp 60) _ rfl wo.heap.size 3 i0 _ 1 8 Try.underlying22 hi hz0 hz1 hz2 rfl (by decide) _ k _ rfl RA _ 1 1 [.int .i64 (zl + 1)] rfl (Rd.of_sl (Sl.of_own T1) rfl) (by intro u hu; simp at hu; subst hu; rfl) (by unfold maxLen; omega) (by omega) hHeld.1.size ?_
        intro va wX hoX hgX hvX
        clear hi hz0 hz1 hz2
        have HX := hHeld.1.grown hgX hHeld.1.size (fun k h => (RA.lt k h).1)
        have DAN := apart_sym (apart_app RB (apart_sym DAB) hvX)
        replace RB := own_kept2 RB hgX (apart_sym DAB)
        replace DAB := DAN
        (try replace T2 := own_kept2 T2 hgX DT2a)
        replace RA := hoX
        refine hK.out _ _ ?_ (fun hNew => ?_)
        · (first | exact KP.out _ HX | exact KP.out _ HBN)
        clear hK K hHeld
        have hHeld := hNew
        clear hNew
        try simp only [Act.put, List.setIfInBounds_toArray, List.set_cons_zero, List.set_cons_succ]
        refine wpAnyH_ready (rs := [16]) (by kernel_rfl) (by simp) ?_
        refine AllReadyH.cons (o := { dst := some 70, op := Op.call { callee := Callee.builtin Builtin.append, args := #[Operand.tmp 62, Operand.tmp 69], argTypes := #[22, 22] }, type := 22, pos := "more.go:18", after := #[{ on := 8, ground := Ground.data }, { on := 15, ground := Ground.data }, { on := 7, ground := Ground.chain }], guard := none }) rfl (fun K hK => ?_) AllReadyH.nil
        obtain ⟨i0, hi, hz0, hz1, hz2⟩ := info_parts infoInt
        refine step_app _ rfl (.tmp 62) (.tmp 69) _ rfl wo.heap.size 3 i0 _ 1 8 Try.underlying22 hi hz0 hz1 hz2 rfl (by decide) _ k _ rfl RB _ 1 1 [.int .i64 (zw + M)] rfl (Rd.of_sl (Sl.of_own T2) rfl) (by intro u hu; simp at hu; subst hu; rfl) (by unfold maxLen; omega) (by omega) hHeld.1.size ?_
        intro vb wX hoX hgX hvX
        clear hi hz0 hz1 hz2
        have HX := hHeld.1.grown hgX hHeld.1.size (fun k h => (RB.lt k h).1)
        have DAN := apart_app RA DAB hvX
        replace RA := own_kept2 RA hgX DAB
        replace DAB := DAN
        replace RB := hoX
        refine hK.out _ _ ?_ (fun hNew => ?_)
        · (first | exact KP.out _ HX | exact KP.out _ HBN)
        clear hK K hHeld
        have hHeld := hNew
        clear hNew
        try simp only [Act.put, List.setIfInBounds_toArray, List.set_cons_zero, List.set_cons_succ]
        refine wpAnyH_take (i := 17) (oi := { dst := some 12, op := Op.assign (Operand.tmp 61), type := 22, pos := "more.go:18", after := #[{ on := 7, ground := Ground.data }, { on := 16, ground := Ground.chain }, { on := 0, ground := Ground.phase }, { on := 1, ground := Ground.phase }, { on := 2, ground := Ground.phase }, { on := 3, ground := Ground.phase }, { on := 4, ground := Ground.phase }, { on := 5, ground := Ground.phase }, { on := 6, ground := Ground.phase }, { on := 7, ground := Ground.phase }, { on := 8, ground := Ground.textOnly Departure.lateStores }, { on := 9, ground := Ground.textOnly Departure.lateStores }, { on := 10, ground := Ground.textOnly Departure.lateStores }, { on := 11, ground := Ground.textOnly Departure.lateStores }, { on := 12, ground := Ground.textOnly Departure.lateStores }, { on := 13, ground := Ground.textOnly Departure.lateStores }, { on := 14, ground := Ground.textOnly Departure.lateStores }, { on := 15, ground := Ground.textOnly Departure.lateStores }, { on := 16, ground := Ground.textOnly Departure.lateStoresUnsure }], guard := none }) (v := ?_) rfl (by kernel_rfl) (by kernel_rfl) (by kernel_rfl) (fun _ _ _ h => h) (Or.inl ⟨by rfl, ?_⟩) (by assumption) ?_
        rotate_left
        · (intro wS hSw; (try dsimp only at hSw); go_simp; (try with_reducible rfl))
        try simp only [Act.put, List.setIfInBounds_toArray, List.set_cons_zero, List.set_cons_succ]
        refine wpAnyH_take (i := 18) (oi := { dst := some 13, op := Op.assign (Operand.tmp 70), type := 22, pos := "more.go:18", after := #[{ on := 16, ground := Ground.data }, { on := 17, ground := Ground.chain }, { on := 0, ground := Ground.phase }, { on := 1, ground := Ground.phase }, { on := 2, ground := Ground.phase }, { on := 3, ground := Ground.phase }, { on := 4, ground := Ground.phase }, { on := 5, ground := Ground.phase }, { on := 6, ground := Ground.phase }, { on := 7, ground := Ground.phase }, { on := 8, ground := Ground.phase }, { on := 9, ground := Ground.phase }, { on := 10, ground := Ground.phase }, { on := 11, ground := Ground.phase }, { on := 12, ground := Ground.phase }, { on := 13, ground := Ground.phase }, { on := 14, ground := Ground.phase }, { on := 15, ground := Ground.phase }, { on := 16, ground := Ground.phase }, { on := 17, ground := Ground.phase }], guard := none }) (v := ?_) rfl (by kernel_rfl) (by kernel_rfl) (by kernel_rfl) (fun _ _ _ h => h) (Or.inl ⟨by rfl, ?_⟩) (by assumption) ?_
        rotate_left
        · (intro wS hSw; (try dsimp only at hSw); go_simp; (try with_reducible rfl))
        try simp only [Act.put, List.setIfInBounds_toArray, List.set_cons_zero, List.set_cons_succ]
        refine wpAnyH_done (by kernel_rfl) ?_ _
        refine NoPanic.normal ?_
        have hHB := hHeld.1
        clear hHeld KP HBN hBr
        go_wp2_with fail
        go_roundw
        case rel => exact ⟨k + 1, by omega, by go_num, by rw [TA.out]; exact RA, by rw [TB.out]; exact RB, DAB, hHB⟩
        case measure => simp [intOf]; omega
    · have hkn : k = n := by omega
      subst hkn
      have q3 : ¬ (k : Int) < (k : Int) := by omega
      have lL := HLN.out.1
      have lW := HLN.out.2.1
      have lG := HLN.out.2.2.1
      have lA := HLN.out.2.2.2.1
      have lB := HLN.out.2.2.2.2
      rw [List.take_of_length_le (by omega)] at RA RB
      obtain ⟨AA, ca, rfl, -, ka, kap, SA⟩ := own_sliceI RA
      obtain ⟨AB, cb, rfl, -, kb, kbp, SB⟩ := own_sliceI RB
      have SG := (hS3.next HW).next hBr
      have S4 := H1.next hBr
      have S5 := H2.next hBr
      have bL : ∀ z ∈ L, 0 ≤ z := getD_bd (P := fun z => 0 ≤ z) fun j hj => (HB.out.1 j (by omega)).1
      have bW : ∀ z ∈ W, 0 ≤ z ∧ z ≤ 2147483648 := getD_bd (P := fun z => 0 ≤ z ∧ z ≤ 2147483648) fun j hj => by have := HB.out.2 j (by omega); omega
      have bA : ∀ z ∈ LA, 0 ≤ z := getD_bd (P := fun z => 0 ≤ z) fun j hj => by rw [HV.out.1 j (by omega)]; have := HB.out.1 j (by omega); omega
      have bB : ∀ z ∈ LB, 0 ≤ z ∧ z ≤ 2147483648 := getD_bd (P := fun z => 0 ≤ z ∧ z ≤ 2147483648) fun j hj => by rw [HV.out.2 j (by omega)]; have := HB.out.2 j (by omega); omega
      have p1 : pickF LA LB G k = pickF L W G k := shift_pick HV.out.1 HV.out.2
      have sm := same_all (ws := W) (ys := LB) (good := G) (M := M) (by omega) fun x hx _ => HV.out.2 x (by unfold mlen at hx; omega)
      have p3 : coldI LA LB G 7 = coldI LA W G 7 := by rw [cold_n lA lB lG, cold_n lA lW lG, sm.1, sm.2.2]
      obtain ⟨P, hP⟩ : ∃ P, pickF L W G k = P := ⟨_, rfl⟩
      obtain ⟨Q, hQ⟩ : ∃ P, leastI W G = P := ⟨_, rfl⟩
      obtain ⟨R, hR⟩ : ∃ P, coldI LA W G 7 = P := ⟨_, rfl⟩
      have FF : Hid (Value.int .i64 (pickF L W G k) = .int .i64 P ∧ Value.int .i64 (pickF LA LB G k) = .int .i64 P ∧ Value.int .i64 (leastI W G) = .int .i64 Q ∧ Value.int .i64 (leastI LB G) = .int .i64 Q ∧ Value.int .i64 (coldI LA W G 7) = .int .i64 R ∧ Value.int .i64 (coldI LA LB G 7) = .int .i64 R) :=
        Lib.hid ⟨by rw [hP], by rw [p1, hP], by rw [hQ], by rw [sm.1, hQ], by rw [hR], by rw [p3, hR]⟩
      have FB : Hid ((∀ z ∈ L, 0 ≤ z) ∧ (∀ z ∈ LA, 0 ≤ z) ∧ (∀ z ∈ W, 0 ≤ z ∧ z ≤ 2147483648) ∧ (∀ z ∈ LB, 0 ≤ z ∧ z ≤ 2147483648)) := Lib.hid ⟨bL, bA, bW, bB⟩
      have HP := Lib.hid hP
      have hZ : Below w.heap.size w wr := btr HW HW.size hBr
      clear p1 sm p3 hQ hR hP bL bW bA bB lL lW lG lA lB H1 H2 hS1 hS2 EL EW EM HE HT
      by_cases hn0 : k = 0
      · have P0 : P = -1 := by rw [← HP.out, hn0]; rfl
        have n0 : ((k : Int) == 0) = true := by simp; omega
        subst P0
        clear hn0
        go_wp2_with (first
          | (go_at_call 8; with_reducible refine (Pick_n _ k LA LB G HLN.out.2.2.2.1 HLN.out.2.2.2.2 HLN.out.2.2.1 AA AB A3 ca cb c3 FF.out.2.1 _ (Sl.of_own RA) (Sl.of_own RB) SG nn).mono ?_; rintro e' w' ⟨rfl, hb⟩; replace RA := own_below RA hb; replace RB := own_below RB hb; replace SG := SG.next hb; replace S4 := S4.next hb; replace S5 := S5.next hb; replace hZ := btr hZ hZ.size hb; clear hb)
          | (go_at_call 8; with_reducible refine (Pick_n _ k L W G HLN.out.1 HLN.out.2.1 HLN.out.2.2.1 A4 A5 A3 c4 c5 c3 FF.out.1 _ S4 S5 SG nn).mono ?_; rintro e' w' ⟨rfl, hb⟩; replace RA := own_below RA hb; replace RB := own_below RB hb; replace SG := SG.next hb; replace S4 := S4.next hb; replace S5 := S5.next hb; replace hZ := btr hZ hZ.size hb; clear hb)
          | (go_at_call 10; with_reducible refine (Free_n _ k LB G HLN.out.2.2.2.2 HLN.out.2.2.1 AB A3 cb c3 FF.out.2.2.2.1 _ (Sl.of_own RB) SG nn FB.out.2.2.2).mono ?_; rintro e' w' ⟨rfl, hb⟩; replace RA := own_below RA hb; replace RB := own_below RB hb; replace SG := SG.next hb; replace S4 := S4.next hb; replace S5 := S5.next hb; replace hZ := btr hZ hZ.size hb; clear hb)
          | (go_at_call 10; with_reducible refine (Free_n _ k W G HLN.out.2.1 HLN.out.2.2.1 A5 A3 c5 c3 FF.out.2.2.1 _ S5 SG nn FB.out.2.2.1).mono ?_; rintro e' w' ⟨rfl, hb⟩; replace RA := own_below RA hb; replace RB := own_below RB hb; replace SG := SG.next hb; replace S4 := S4.next hb; replace S5 := S5.next hb; replace hZ := btr hZ hZ.size hb; clear hb)
          | (go_at_call 12; with_reducible refine (Cold_n _ k LA LB G HLN.out.2.2.2.1 HLN.out.2.2.2.2 HLN.out.2.2.1 AA AB A3 ca cb c3 7 FF.out.2.2.2.2.2 _ (Sl.of_own RA) (Sl.of_own RB) SG nn kb kbp s5 k3p FB.out.2.2.2 FB.out.2.1).mono ?_; rintro e' w' ⟨rfl, hb⟩; replace RA := own_below RA hb; replace RB := own_below RB hb; replace SG := SG.next hb; replace S4 := S4.next hb; replace S5 := S5.next hb; replace hZ := btr hZ hZ.size hb; clear hb)
          | (go_at_call 12; with_reducible refine (Cold_n _ k LA W G HLN.out.2.2.2.1 HLN.out.2.1 HLN.out.2.2.1 AA A5 A3 ca c5 c3 7 FF.out.2.2.2.2.1 _ (Sl.of_own RA) S5 SG nn k5 k5p s5 k3p FB.out.2.2.1 FB.out.2.1).mono ?_; rintro e' w' ⟨rfl, hb⟩; replace RA := own_below RA hb; replace RB := own_below RB hb; replace SG := SG.next hb; replace S4 := S4.next hb; replace S5 := S5.next hb; replace hZ := btr hZ hZ.size hb; clear hb)
          | (go_at_call 16; refine (low_any which k _ hk1 (by omega)).mono ?_; rw [HX.out]; rintro e' w' ⟨rfl, rfl⟩)
          | (go_at_call 6; with_reducible refine (awake_any _).mono ?_; rintro e' w' ⟨rfl, hb⟩; replace RA := own_below RA hb; replace RB := own_below RB hb; replace SG := SG.next hb; replace S4 := S4.next hb; replace S5 := S5.next hb; replace hZ := btr hZ hZ.size hb; clear hb))
        go_ret
        exact ⟨by simp, hZ⟩
      · have hk1 : (1 : Int) ≤ (k : Int) := by omega
        have n0 : ((k : Int) == 0) = false := by simp; omega
        obtain ⟨x, hx, hxk⟩ : ∃ x : Nat, lowI which k = (x : Int) ∧ x < k := by
          have := lowI_bd which k hk1
          exact ⟨(lowI which k).toNat, by omega, by omega⟩
        have HX := Lib.hid hx
        clear hx
        have DABh := Lib.hid DAB
        clear DAB SA hn0
        go_upto_region 16 with (first
          | (go_at_call 8; with_reducible refine (Pick_n _ k LA LB G HLN.out.2.2.2.1 HLN.out.2.2.2.2 HLN.out.2.2.1 AA AB A3 ca cb c3 FF.out.2.1 _ (Sl.of_own RA) (Sl.of_own RB) SG nn).mono ?_; rintro e' w' ⟨rfl, hb⟩; replace RA := own_below RA hb; replace RB := own_below RB hb; replace SG := SG.next hb; replace S4 := S4.next hb; replace S5 := S5.next hb; replace hZ := btr hZ hZ.size hb; clear hb)
          | (go_at_call 8; with_reducible refine (Pick_n _ k L W G HLN.out.1 HLN.out.2.1 HLN.out.2.2.1 A4 A5 A3 c4 c5 c3 FF.out.1 _ S4 S5 SG nn).mono ?_; rintro e' w' ⟨rfl, hb⟩; replace RA := own_below RA hb; replace RB := own_below RB hb; replace SG := SG.next hb; replace S4 := S4.next hb; replace S5 := S5.next hb; replace hZ := btr hZ hZ.size hb; clear hb)
          | (go_at_call 10; with_reducible refine (Free_n _ k LB G HLN.out.2.2.2.2 HLN.out.2.2.1 AB A3 cb c3 FF.out.2.2.2.1 _ (Sl.of_own RB) SG nn FB.out.2.2.2).mono ?_; rintro e' w' ⟨rfl, hb⟩; replace RA := own_below RA hb; replace RB := own_below RB hb; replace SG := SG.next hb; replace S4 := S4.next hb; replace S5 := S5.next hb; replace hZ := btr hZ hZ.size hb; clear hb)
          | (go_at_call 10; with_reducible refine (Free_n _ k W G HLN.out.2.1 HLN.out.2.2.1 A5 A3 c5 c3 FF.out.2.2.1 _ S5 SG nn FB.out.2.2.1).mono ?_; rintro e' w' ⟨rfl, hb⟩; replace RA := own_below RA hb; replace RB := own_below RB hb; replace SG := SG.next hb; replace S4 := S4.next hb; replace S5 := S5.next hb; replace hZ := btr hZ hZ.size hb; clear hb)
          | (go_at_call 12; with_reducible refine (Cold_n _ k LA LB G HLN.out.2.2.2.1 HLN.out.2.2.2.2 HLN.out.2.2.1 AA AB A3 ca cb c3 7 FF.out.2.2.2.2.2 _ (Sl.of_own RA) (Sl.of_own RB) SG nn kb kbp s5 k3p FB.out.2.2.2 FB.out.2.1).mono ?_; rintro e' w' ⟨rfl, hb⟩; replace RA := own_below RA hb; replace RB := own_below RB hb; replace SG := SG.next hb; replace S4 := S4.next hb; replace S5 := S5.next hb; replace hZ := btr hZ hZ.size hb; clear hb)
          | (go_at_call 12; with_reducible refine (Cold_n _ k LA W G HLN.out.2.2.2.1 HLN.out.2.1 HLN.out.2.2.1 AA A5 A3 ca c5 c3 7 FF.out.2.2.2.2.1 _ (Sl.of_own RA) S5 SG nn k5 k5p s5 k3p FB.out.2.2.1 FB.out.2.1).mono ?_; rintro e' w' ⟨rfl, hb⟩; replace RA := own_below RA hb; replace RB := own_below RB hb; replace SG := SG.next hb; replace S4 := S4.next hb; replace S5 := S5.next hb; replace hZ := btr hZ hZ.size hb; clear hb)
          | (go_at_call 16; refine (low_any which k _ hk1 (by omega)).mono ?_; rw [HX.out]; rintro e' w' ⟨rfl, rfl⟩)
          | (go_at_call 6; with_reducible refine (awake_any _).mono ?_; rintro e' w' ⟨rfl, hb⟩; replace RA := own_below RA hb; replace RB := own_below RB hb; replace SG := SG.next hb; replace S4 := S4.next hb; replace S5 := S5.next hb; replace hZ := btr hZ hZ.size hb; clear hb))
        obtain ⟨ga, capa, hAA, -, -⟩ := RA.form (by omega)
        cases hAA
        have fa := RA.frozenAt x
        have hga := (RA.lt ga rfl).1
        have ca0 : w'.cell? ⟨ga, x, none⟩ = some (.int .i64 (LA.getD x 0)) := by
          have := HLN.out.2.2.2.1
          rw [RA.cellAt x (by omega), List.getElem?_map, List.getElem?_eq_getElem (by omega), List.getD_eq_getElem?_getD, List.getElem?_eq_getElem (by omega)]
          rfl
        have RA2 := (RA.stored x (.int .i64 0)).1
        have gg := (RA.stored x (.int .i64 0)).2
        have RB2 := own_kept2 RB gg (apart_sym DABh.out)
        have hZ2 := hZ.setCell (p := ⟨ga, x, none⟩) (by show w.heap.size ≤ ga; have := HW.size; omega) (.int .i64 0)
        have hS3' := hS3.below hZ2
        rw [← List.map_set] at RA2
        obtain ⟨b3, o3, rfl, l3, q3⟩ := hS3.at_ (by rw [List.length_map]; have := HLN.out.2.2.1; omega)
        obtain ⟨gx, hgx⟩ : ∃ b, G.getD x false = b := ⟨_, rfl⟩
        have cg := q3 x (.bool gx) (by
          have := HLN.out.2.2.1
          rw [← hgx, List.getElem?_map, List.getElem?_eq_getElem (by omega), List.getD_eq_getElem?_getD, List.getElem?_eq_getElem (by omega)]
          rfl)
        have cg1 := (hZ2.cell (p := ⟨b3, o3 + x, none⟩) l3).trans cg
        have j0 : (0 : Int) ≤ (x : Int) := by omega
        have j1 : (x : Int) < (k : Int) := by omega
        have SG2 := hS3'.mono (B' := (w'.setCell ⟨ga, x, none⟩ (.int .i64 0)).heap.size) hZ2.size
        have lS : (LA.set x 0).length = k := by rw [List.length_set]; exact HLN.out.2.2.2.1
        have hs0 : (LA.set x 0).getD x 0 = 0 := by rw [getD_set _ _ _ _ (by have := HLN.out.2.2.2.1; omega), if_pos rfl]
        have hs1 : ∀ j, j < k → j ≠ x → 1 ≤ (LA.set x 0).getD j 0 := fun j hj hne => by
          rw [getD_set _ _ _ _ (by have := HLN.out.2.2.2.1; omega), if_neg (Ne.symm hne), HV.out.1 j hj]
          have := HB.out.1 j hj
          omega
        have HLS := Lib.hid lS
        clear hS3' gg lS RA SG S4 S5 hS3 q3 RB
        cases gx
        · obtain ⟨p, hp, hpx⟩ : ∃ p, pickF (LA.set x 0) LB G k = p ∧ p ≠ (x : Int) := ⟨_, rfl, pick_not hgx⟩
          have FP : Hid (Value.int .i64 (pickF (LA.set x 0) LB G k) = .int .i64 p) := Lib.hid (by rw [hp])
          replace hpx : ¬ p = (x : Int) := hpx
          clear hp hs0 hs1 hgx
          go_wp2_with (first
            | (go_at_call 8; with_reducible refine (Pick_n _ k (LA.set x 0) LB G HLS.out HLN.out.2.2.2.2 HLN.out.2.2.1 _ AB _ _ cb c3 FP.out _ (Sl.of_own RA2) (Sl.of_own RB2) SG2 nn).mono ?_; rintro e' w2 ⟨rfl, hb⟩; have cg2 := ((hb.cell (p := ⟨b3, o3 + x, none⟩) (Nat.lt_of_lt_of_le l3 hZ2.size))).trans cg1; replace hZ2 := btr hZ2 hZ2.size hb; clear hb)
            | (go_at_call 6; refine (awake_any _).mono ?_; rintro e' w3 ⟨rfl, hb⟩; replace hZ2 := btr hZ2 hZ2.size hb; clear hb))
          go_ret
          exact ⟨by simpa using hpx, hZ2⟩
        · have FP : Hid (Value.int .i64 (pickF (LA.set x 0) LB G k) = .int .i64 x) := Lib.hid (by rw [pick_lone hxk hgx hs0 hs1])
          clear hs0 hs1 hgx
          go_wp2_with (first
            | (go_at_call 8; with_reducible refine (Pick_n _ k (LA.set x 0) LB G HLS.out HLN.out.2.2.2.2 HLN.out.2.2.1 _ AB _ _ cb c3 FP.out _ (Sl.of_own RA2) (Sl.of_own RB2) SG2 nn).mono ?_; rintro e' w2 ⟨rfl, hb⟩; have cg2 := ((hb.cell (p := ⟨b3, o3 + x, none⟩) (Nat.lt_of_lt_of_le l3 hZ2.size))).trans cg1; replace hZ2 := btr hZ2 hZ2.size hb; clear hb)
            | (go_at_call 6; refine (awake_any _).mono ?_; rintro e' w3 ⟨rfl, hb⟩; replace hZ2 := btr hZ2 hZ2.size hb; clear hb))
          go_ret
          exact ⟨by simp, hZ2⟩
end Go.Proofs.Ytlabkkmpllccoaa
