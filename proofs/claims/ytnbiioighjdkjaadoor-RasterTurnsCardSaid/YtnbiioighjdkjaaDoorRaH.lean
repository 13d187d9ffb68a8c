/- What awake calls. -/
import Derived.Test.YtnbiioighjdkjaaDoorRaG
namespace Go.Proofs.YtnbiioighjdkjaaDoor
open Go.ChangeShapes Go.WideShapes Go.ChangeAt Go.RowKit
set_option linter.unusedSimpArgs false
set_option linter.unusedVariables false

theorem samept_b (x y : Nat) (w : World) : Calls Tryd.prog 30 #[.complex .f64 x y, .complex .f64 x y] w fun e' w' => e' = .returned (.bool true) ∧ w = w' := by
  have := same_any x y x y w
  simpa using this
set_option maxRecDepth 100000 in
set_option maxHeartbeats 4000000 in
theorem samepts_b (ps : List (Nat × Nat)) (A B : Option Addr) (n c d : Nat) (w : World) (hn : ps.length = n) (hn2 : n ≤ 100000) (h1 : Sl w w.heap.size A (ps.map fun p => .complex .f64 p.1 p.2)) (h2 : Sl w w.heap.size B (ps.map fun p => .complex .f64 p.1 p.2)) : Calls Tryd.prog 17 #[.slice A n c, .slice B n d] w fun e' w' => e' = .returned (.bool true) ∧ Below w.heap.size w w' := by
  have HN := Lib.hid hn
  have H1 := Lib.hid h1
  have H2 := Lib.hid h2
  clear hn h1 h2
  go_enter Tryd.func17, Tryd.ntmps17
  go_wp2
  go_loopw [5] (fun s5 wr => ∃ k : Nat, k ≤ n ∧ s5 = .int .i64 (k : Int) ∧ Below w.heap.size w wr) (fun s5 _ => n - (intOf s5).toNat)
  case atStart => exact ⟨0, Nat.zero_le _, rfl, Below.refl _ _⟩
  case round =>
    obtain ⟨k, hk, rfl, hB⟩ := hrel
    by_cases hlt : k < n
    · obtain ⟨b1, o1, rfl, l1, q1⟩ := H1.out.at_ (by have := HN.out; simp; omega)
      obtain ⟨b2, o2, rfl, l2, q2⟩ := H2.out.at_ (by have := HN.out; simp; omega)
      obtain ⟨p, hp⟩ : ∃ p, ps[k]? = some p := ⟨_, List.getElem?_eq_getElem (by have := HN.out; omega)⟩
      obtain ⟨x, y⟩ := p
      have cx : wr.cell? ⟨b1, o1 + k, none⟩ = some (.complex .f64 x y) := (hB.cell (p := ⟨b1, o1 + k, none⟩) l1).trans (q1 k _ (by rw [List.getElem?_map, hp]; rfl))
      have cy : wr.cell? ⟨b2, o2 + k, none⟩ = some (.complex .f64 x y) := (hB.cell (p := ⟨b2, o2 + k, none⟩) l2).trans (q2 k _ (by rw [List.getElem?_map, hp]; rfl))
      have k0 : (0 : Int) ≤ (k : Int) := by omega
      have k1 : (k : Int) < (n : Int) := by omega
      clear hp q1 q2
      go_upto_region 6 with fail
      refine wp_region_noPanic ?_
      refine wp_region_held_drew (S := (fun w' => w'.cell? ⟨b1, o1 + k, none⟩ = some (.complex .f64 x y) ∧ w'.cell? ⟨b2, o2 + k, none⟩ = some (.complex .f64 x y))) (by kernel_rfl) ?_ (fun hHeld => ?_)
      · (first | exact ⟨cx, cy⟩ | assumption)
      refine wpAnyH_take (i := 0) (oi := { dst := some 17, op := Op.move (Operand.tmp 0), type := 32, pos := "same.go:239", after := #[], guard := none }) (v := ?_) rfl (by kernel_rfl) (by kernel_rfl) (by kernel_rfl) (fun _ _ _ h => h) (Or.inl ⟨by rfl, ?_⟩) (by assumption) ?_
      rotate_left
      · (intro wS hSw; (try dsimp only at hSw); go_simp; (try with_reducible rfl))
      try simp only [Act.put, List.setIfInBounds_toArray, List.set_cons_zero, List.set_cons_succ]
      refine wpAnyH_take (i := 1) (oi := { dst := some 18, op := Op.move (Operand.tmp 5), type := 3, pos := "same.go:239", after := #[], guard := none }) (v := ?_) rfl (by kernel_rfl) (by kernel_rfl) (by kernel_rfl) (fun _ _ _ h => h) (Or.inl ⟨by rfl, ?_⟩) (by assumption) ?_
      rotate_left
      · (intro wS hSw; (try dsimp only at hSw); go_simp; (try with_reducible rfl))
      try simp only [Act.put, List.setIfInBounds_toArray, List.set_cons_zero, List.set_cons_succ]
      refine wpAnyH_take (i := 2) (oi := { dst := some 19, op := Op.indexAddr 32 (Operand.tmp 17) (Operand.tmp 18), type := 0, pos := "same.go:239", after := #[{ on := 0, ground := Ground.data }, { on := 1, ground := Ground.data }], guard := none }) (v := ?_) rfl (by kernel_rfl) (by kernel_rfl) (by kernel_rfl) (fun _ _ _ h => h) (Or.inl ⟨by rfl, ?_⟩) (by assumption) ?_
      rotate_left
      · (intro wS hSw; (try dsimp only at hSw); go_simp; (try with_reducible rfl))
      try simp only [Act.put, List.setIfInBounds_toArray, List.set_cons_zero, List.set_cons_succ]
      refine wpAnyH_take (i := 3) (oi := { dst := some 20, op := Op.load 35 (Operand.tmp 19), type := 35, pos := "same.go:239", after := #[{ on := 2, ground := Ground.data }], guard := none }) (v := ?_) rfl (by kernel_rfl) (by kernel_rfl) (by kernel_rfl) (fun _ _ _ h => h) (Or.inl ⟨by rfl, ?_⟩) (by assumption) ?_
      rotate_left
      · (intro wS hSw; (try dsimp only at hSw); go_simp; (try with_reducible rfl))
      try simp only [Act.put, List.setIfInBounds_toArray, List.set_cons_zero, List.set_cons_succ]
      refine wpAnyH_take (i := 4) (oi := { dst := some 21, op := Op.move (Operand.tmp 1), type := 32, pos := "same.go:239", after := #[], guard := none }) (v := ?_) rfl (by kernel_rfl) (by kernel_rfl) (by kernel_rfl) (fun _ _ _ h => h) (Or.inl ⟨by rfl, ?_⟩) (by assumption) ?_
      rotate_left
      · (intro wS hSw; (try dsimp only at hSw); go_simp; (try with_reducible rfl))
      try simp only [Act.put, List.setIfInBounds_toArray, List.set_cons_zero, List.set_cons_succ]
      refine wpAnyH_take (i := 5) (oi := { dst := some 22, op := Op.move (Operand.tmp 5), type := 3, pos := "same.go:239", after := #[], guard := none }) (v := ?_) rfl (by kernel_rfl) (by kernel_rfl) (by kernel_rfl) (fun _ _ _ h => h) (Or.inl ⟨by rfl, ?_⟩) (by assumption) ?_
      rotate_left
      · (intro wS hSw; (try dsimp only at hSw); go_simp; (try with_reducible rfl))
      try simp only [Act.put, List.setIfInBounds_toArray, List.set_cons_zero, List.set_cons_succ]
      refine wpAnyH_take (i := 6) (oi := { dst := some 23, op := Op.indexAddr 32 (Operand.tmp 21) (Operand.tmp 22), type := 0, pos := "same.go:239", after := #[{ on := 4, ground := Ground.data }, { on := 5, ground := Ground.data }], guard := none }) (v := ?_) rfl (by kernel_rfl) (by kernel_rfl) (by kernel_rfl) (fun _ _ _ h => h) (Or.inl ⟨by rfl, ?_⟩) (by assumption) ?_
      rotate_left
      · (intro wS hSw; (try dsimp only at hSw); go_simp; (try with_reducible rfl))
      try simp only [Act.put, List.setIfInBounds_toArray, List.set_cons_zero, List.set_cons_succ]
      refine wpAnyH_take (i := 7) (oi := { dst := some 24, op := Op.load 35 (Operand.tmp 23), type := 35, pos := "same.go:239", after := #[{ on := 6, ground := Ground.data }], guard := none }) (v := ?_) rfl (by kernel_rfl) (by kernel_rfl) (by kernel_rfl) (fun _ _ _ h => h) (Or.inl ⟨by rfl, ?_⟩) (by assumption) ?_
      rotate_left
      · (intro wS hSw; (try dsimp only at hSw); go_simp; (try with_reducible rfl))
      try simp only [Act.put, List.setIfInBounds_toArray, List.set_cons_zero, List.set_cons_succ]
      refine wpAnyH_ready (rs := [8]) (by kernel_rfl) (by simp) ?_
      refine AllReadyH.cons (o := { dst := some 25, op := Op.call { callee := Callee.value (Operand.func 30), args := #[Operand.tmp 20, Operand.tmp 24], argTypes := #[35, 35] }, type := 4, pos := "same.go:239", after := #[{ on := 3, ground := Ground.data }, { on := 7, ground := Ground.data }], guard := none }) rfl (fun K hK => ?_) AllReadyH.nil
      go_simp
      (go_at_call 30; ((with_reducible refine (samept_b x y _).mono ?_); rintro e' wN ⟨rfl, rfl⟩; skip))
      go_wp2_with fail
      refine hK.out _ _ ?_ (fun hNew => ?_)
      · (first | exact ⟨cx, cy⟩ | assumption)
      clear hK K hHeld
      have hHeld := hNew
      clear hNew
      try simp only [Act.put, List.setIfInBounds_toArray, List.set_cons_zero, List.set_cons_succ]
      refine wpAnyH_take (i := 9) (oi := { dst := some 26, op := Op.unOp UnOp.not 4 (Operand.tmp 25), type := 4, pos := "same.go:239", after := #[{ on := 8, ground := Ground.data }], guard := none }) (v := ?_) rfl (by kernel_rfl) (by kernel_rfl) (by kernel_rfl) (fun _ _ _ h => h) (Or.inl ⟨by rfl, ?_⟩) (by assumption) ?_
      rotate_left
      · (intro wS hSw; (try dsimp only at hSw); go_simp; (try with_reducible rfl))
      try simp only [Act.put, List.setIfInBounds_toArray, List.set_cons_zero, List.set_cons_succ]
      refine wpAnyH_done (by kernel_rfl) ?_ _
      refine NoPanic.normal ?_
      go_wp2_with fail
      go_roundw
      case rel => exact ⟨k + 1, by omega, by go_num, (by first | exact hB | exact hB.drew)⟩
      case measure => simp [intOf]; omega
    · obtain rfl : k = n := by omega
      go_wp2
      go_ret
      exact ⟨rfl, hB⟩
theorem ones_0 (w : World) : Calls Tryd.prog 23 #[.int .u64 0] w fun e' w' => e' = .returned (.int .i64 0) ∧ w = w' := by
  go_enter Tryd.func23, Tryd.ntmps23
  go_wp2
  go_ret
  exact ⟨by first | rfl | kernel_rfl | decide +kernel, rfl⟩
theorem ones_24 (w : World) : Calls Tryd.prog 23 #[.int .u64 24] w fun e' w' => e' = .returned (.int .i64 2) ∧ w = w' := by
  go_enter Tryd.func23, Tryd.ntmps23
  go_wp2
  go_ret
  exact ⟨by first | rfl | kernel_rfl | decide +kernel, rfl⟩
def awR : List Value := [.int .u64 0, .int .u64 0, .int .u64 24, .int .u64 24, .int .u64 0]
theorem count_aw (gr : Nat) (w : World) (hR : RowT w gr 29 awR) : Calls Tryd.prog 11 #[.slice (some ⟨gr, 0, none⟩) 5 5] w fun e' w' => e' = .returned (.int .i64 4) ∧ w = w' := by
  have c0 : w.cell? ⟨gr, 0, none⟩ = some (.int .u64 0) := hR.cell_ rfl
  have c1 : w.cell? ⟨gr, 1, none⟩ = some (.int .u64 0) := hR.cell_ rfl
  have c2 : w.cell? ⟨gr, 2, none⟩ = some (.int .u64 24) := hR.cell_ rfl
  have c3 : w.cell? ⟨gr, 3, none⟩ = some (.int .u64 24) := hR.cell_ rfl
  have c4 : w.cell? ⟨gr, 4, none⟩ = some (.int .u64 0) := hR.cell_ rfl
  clear hR
  go_enter Tryd.func11, Tryd.ntmps11
  go_wp2
  go_loopw [3, 8] (fun s3 s8 wr => ∃ (i : Nat) (m : Int), i ≤ 5 ∧ s8 = .int .i64 (i : Int) ∧ s3 = .int .i64 m ∧ Hid (m = ([0, 0, 0, 2, 4, 4] : List Int).getD i 0) ∧ wr = w) (fun _ s8 _ => 5 - (intOf s8).toNat)
  case atStart => exact ⟨0, 0, by omega, rfl, rfl, Lib.hid rfl, (by first | rfl | trivial)⟩
  case round =>
    obtain ⟨i, m, hi, rfl, rfl, hm, rfl⟩ := hrel
    rcases (by omega : i = 0 ∨ i = 1 ∨ i = 2 ∨ i = 3 ∨ i = 4 ∨ i = 5) with rfl | rfl | rfl | rfl | rfl | rfl
    · obtain rfl : m = 0 := hm.out
      go_wp2_with (go_at_call 23; ((with_reducible refine (ones_0 _).mono ?_); rintro e' wN ⟨rfl, rfl⟩; skip))
      go_roundw
      case rel => exact ⟨1, 0, by omega, (by first | rfl | go_num), (by first | rfl | go_num | simp), Lib.hid rfl, (by first | rfl | trivial)⟩
      case measure => simp [intOf]
    · obtain rfl : m = 0 := hm.out
      go_wp2_with (go_at_call 23; ((with_reducible refine (ones_0 _).mono ?_); rintro e' wN ⟨rfl, rfl⟩; skip))
      go_roundw
      case rel => exact ⟨2, 0, by omega, (by first | rfl | go_num), (by first | rfl | go_num | simp), Lib.hid rfl, (by first | rfl | trivial)⟩
      case measure => simp [intOf]
    · obtain rfl : m = 0 := hm.out
      go_wp2_with (go_at_call 23; ((with_reducible refine (ones_24 _).mono ?_); rintro e' wN ⟨rfl, rfl⟩; skip))
      go_roundw
      case rel => exact ⟨3, 2, by omega, (by first | rfl | go_num), (by first | rfl | go_num | simp), Lib.hid rfl, (by first | rfl | trivial)⟩
      case measure => simp [intOf]
    · obtain rfl : m = 2 := hm.out
      go_wp2_with (go_at_call 23; ((with_reducible refine (ones_24 _).mono ?_); rintro e' wN ⟨rfl, rfl⟩; skip))
      go_roundw
      case rel => exact ⟨4, 4, by omega, (by first | rfl | go_num), (by first | rfl | go_num | simp), Lib.hid rfl, (by first | rfl | trivial)⟩
      case measure => simp [intOf]
    · obtain rfl : m = 4 := hm.out
      go_wp2_with (go_at_call 23; ((with_reducible refine (ones_0 _).mono ?_); rintro e' wN ⟨rfl, rfl⟩; skip))
      go_roundw
      case rel => exact ⟨5, 4, by omega, (by first | rfl | go_num), (by first | rfl | go_num | simp), Lib.hid rfl, (by first | rfl | trivial)⟩
      case measure => simp [intOf]
    · obtain rfl : m = 4 := hm.out
      go_wp2
      go_ret
      exact ⟨rfl, rfl⟩
def zsV (zs : List Int) : List Value := zs.map (Value.int .u64)
theorem zs_set {w : World} {g x : Nat} {zs : List Int} {v : Int} (h : RowT w g 29 (zsV zs)) (hx : x < zs.length) : RowT (w.setCell ⟨g, x, none⟩ (.int .u64 v)) g 29 (zsV (zs.set x v)) := by
  have := h.set_ (i := x) (by simpa [zsV] using hx) (.int .u64 v)
  unfold zsV at this ⊢
  rwa [List.map_set]
set_option maxRecDepth 100000 in
set_option maxHeartbeats 4000000 in
theorem turn_aw (gr : Nat) (w : World) (hR : RowT w gr 29 awR) : Calls Tryd.prog 6 #[.slice (some ⟨gr, 0, none⟩) 5 5, .int .i64 8] w fun e' w' => (∃ g, e' = .returned (.slice (some ⟨g, 0, none⟩) 8 8)) ∧ Below w.heap.size w w' := by
  obtain ⟨ti1, hi1, hy0, hy1, hy2⟩ := info_parts infoU64
  have HR := Lib.hid hR
  have hgr := hR.lt
  clear hR
  go_enter Tryd.func6, Tryd.ntmps6
  go_wp2_with (first
    | (go_at_call 18; ((with_reducible refine (within_b 8 64 true _ (Lib.hid rfl)).mono ?_); rintro e' wN ⟨rfl, rfl⟩; skip))
    | (at_make; refine wpList_make_full _ rfl _ _ 22 rfl w.heap.size 29 ti1 (.int .u64 0) 1 Tryd.underlying22 hi1 hy0 hy1 _ _ _ _ 8 rfl rfl rfl rfl (by rw [hy2]; omega) (by unfold maxLen; omega) (Nat.le_refl _) ?_; intro w1 hown1 hgrow1))
  have hBm : Below w.heap.size w w1 := (Below.refl _ _).grown hgrow1 (Nat.le_refl _) (fun j hj => by cases hj)
  rw [show (madeCells (Value.int .u64 0).cells (8 * 1)).toList = List.replicate (8 * 1) (Value.int .u64 0) from toList_madeCells_one _ _] at hown1
  have hT1 : RowT w1 w.heap.size 29 (zsV (List.replicate 8 0)) := own_rowS hown1
  clear hown1 hgrow1
  go_loopw [21] (fun s21 wr => ∃ (y : Nat) (zs : List Int), y ≤ 5 ∧ s21 = .int .i64 (y : Int) ∧ zs.length = 8 ∧ RowT wr w.heap.size 29 (zsV zs) ∧ Below w.heap.size w wr) (fun s21 _ => 5 - (intOf s21).toNat)
  case atStart => exact ⟨0, _, by omega, rfl, List.length_replicate, hT1, hBm⟩
  case round =>
    clear hT1 hBm
    obtain ⟨y, zs, hy, rfl, hz, hT, hB⟩ := hrel
    by_cases hlt : y < 5
    · obtain ⟨rv, hrv⟩ : ∃ rv : Int, awR[y]? = some (.int .u64 rv) := by
        rcases (by omega : y = 0 ∨ y = 1 ∨ y = 2 ∨ y = 3 ∨ y = 4) with rfl | rfl | rfl | rfl | rfl <;> exact ⟨_, rfl⟩
      have c0 : wr.cell? ⟨gr, y, none⟩ = some (.int .u64 rv) := (hB.cell (p := ⟨gr, y, none⟩) hgr).trans (HR.out.cell_ hrv)
      have y0 : (0 : Int) ≤ (y : Int) := by omega
      have y1 : (y : Int) < 5 := by omega
      have HZ := Lib.hid hz
      have HT := Lib.hid hT
      clear hrv hz hT
      go_wp2
      have hT := HT.out
      go_loopw [28] (fun s28 wq => ∃ (x : Nat) (zs : List Int), x ≤ 8 ∧ s28 = .int .i64 (x : Int) ∧ Hid (zs.length = 8) ∧ RowT wq w.heap.size 29 (zsV zs) ∧ Below w.heap.size w wq) (fun s28 _ => 8 - (intOf s28).toNat)
      case atStart => exact ⟨0, zs, by omega, rfl, HZ, hT, hB⟩
      case round =>
        clear hT hB c0
        obtain ⟨x, zs2, hx, rfl, hz2, hT, hB⟩ := hrel
        by_cases hlx : x < 8
        · obtain ⟨zv, hzv⟩ : ∃ zv, zs2[x]? = some zv := ⟨_, List.getElem?_eq_getElem (by have := hz2.out; omega)⟩
          have d0 : wr.cell? ⟨w.heap.size, x, none⟩ = some (.int .u64 zv) := hT.cell_ (by unfold zsV; rw [List.getElem?_map, hzv]; rfl)
          have f0 := hT.free x
          have x0 : (0 : Int) ≤ (x : Int) := by omega
          have x1 : (x : Int) < 8 := by omega
          have x2 : 0 ≤ 4 - (y : Int) := by omega
          have x3 : 4 - (y : Int) ≤ 64 := by omega
          have ew : IntKind.i64.wrap 4 = 4 := by decide
          have ew2 : IntKind.i64.wrap (4 - (y : Int)) = 4 - (y : Int) := wrapS _ (by omega) (by omega)
          have HT2 := Lib.hid hT
          clear hzv hT
          go_upto_region 10 with fail
          refine wp_region_noPanic ?_
          refine wp_region_held_drew (S := (fun _ => True)) (by kernel_rfl) ?_ (fun hHeld => ?_)
          · exact trivial
          refine wpAnyH_take (i := 0) (oi := { dst := some 31, op := Op.move (Operand.tmp 5), type := 22, pos := "raster.go:134", after := #[], guard := none }) (v := ?_) rfl (by kernel_rfl) (by kernel_rfl) (by kernel_rfl) (fun _ _ _ h => h) (Or.inl ⟨by rfl, ?_⟩) (by assumption) ?_
          rotate_left
          · (intro wS hSw; (try dsimp only at hSw); go_simp; (try with_reducible rfl))
          try simp only [Act.put, List.setIfInBounds_toArray, List.set_cons_zero, List.set_cons_succ]
          refine wpAnyH_take (i := 1) (oi := { dst := some 32, op := Op.move (Operand.tmp 8), type := 3, pos := "raster.go:134", after := #[], guard := none }) (v := ?_) rfl (by kernel_rfl) (by kernel_rfl) (by kernel_rfl) (fun _ _ _ h => h) (Or.inl ⟨by rfl, ?_⟩) (by assumption) ?_
          rotate_left
          · (intro wS hSw; (try dsimp only at hSw); go_simp; (try with_reducible rfl))
          try simp only [Act.put, List.setIfInBounds_toArray, List.set_cons_zero, List.set_cons_succ]
          refine wpAnyH_take (i := 2) (oi := { dst := some 33, op := Op.indexAddr 22 (Operand.tmp 31) (Operand.tmp 32), type := 0, pos := "raster.go:134", after := #[{ on := 0, ground := Ground.data }, { on := 1, ground := Ground.data }], guard := none }) (v := ?_) rfl (by kernel_rfl) (by kernel_rfl) (by kernel_rfl) (fun _ _ _ h => h) (Or.inl ⟨by rfl, ?_⟩) (by assumption) ?_
          rotate_left
          · (intro wS hSw; (try dsimp only at hSw); go_simp; (try with_reducible rfl))
          try simp only [Act.put, List.setIfInBounds_toArray, List.set_cons_zero, List.set_cons_succ]
          refine wpAnyH_take (i := 4) (oi := { dst := some 35, op := Op.move (Operand.tmp 7), type := 29, pos := "raster.go:134", after := #[], guard := none }) (v := ?_) rfl (by kernel_rfl) (by kernel_rfl) (by kernel_rfl) (fun _ _ _ h => h) (Or.inl ⟨by rfl, ?_⟩) (by assumption) ?_
          rotate_left
          · (intro wS hSw; (try dsimp only at hSw); go_simp; (try with_reducible rfl))
          try simp only [Act.put, List.setIfInBounds_toArray, List.set_cons_zero, List.set_cons_succ]
          refine wpAnyH_take (i := 5) (oi := { dst := some 36, op := Op.move (Operand.tmp 8), type := 3, pos := "raster.go:134", after := #[], guard := none }) (v := ?_) rfl (by kernel_rfl) (by kernel_rfl) (by kernel_rfl) (fun _ _ _ h => h) (Or.inl ⟨by rfl, ?_⟩) (by assumption) ?_
          rotate_left
          · (intro wS hSw; (try dsimp only at hSw); go_simp; (try with_reducible rfl))
          try simp only [Act.put, List.setIfInBounds_toArray, List.set_cons_zero, List.set_cons_succ]
          refine wpAnyH_take (i := 6) (oi := { dst := some 37, op := Op.binOp BinOp.shr 29 (Operand.tmp 35) (Operand.tmp 36) 3, type := 29, pos := "raster.go:134", after := #[{ on := 4, ground := Ground.data }, { on := 5, ground := Ground.data }], guard := none }) (v := ?_) rfl (by kernel_rfl) (by kernel_rfl) (by kernel_rfl) (fun _ _ _ h => h) (Or.inl ⟨by rfl, ?_⟩) (by assumption) ?_
          rotate_left
          · (intro wS hSw; (try dsimp only at hSw); go_simp; (try with_reducible rfl))
          try simp only [Act.put, List.setIfInBounds_toArray, List.set_cons_zero, List.set_cons_succ]
          refine wpAnyH_take (i := 7) (oi := { dst := some 38, op := Op.binOp BinOp.and 29 (Operand.tmp 37) (Operand.const (Value.int IntKind.u64 1)) 29, type := 29, pos := "raster.go:134", after := #[{ on := 6, ground := Ground.data }], guard := none }) (v := ?_) rfl (by kernel_rfl) (by kernel_rfl) (by kernel_rfl) (fun _ _ _ h => h) (Or.inl ⟨by rfl, ?_⟩) (by assumption) ?_
          rotate_left
          · (intro wS hSw; (try dsimp only at hSw); go_simp; (try with_reducible rfl))
          try simp only [Act.put, List.setIfInBounds_toArray, List.set_cons_zero, List.set_cons_succ]
          refine wpAnyH_take (i := 8) (oi := { dst := some 39, op := Op.move (Operand.tmp 0), type := 22, pos := "raster.go:134", after := #[], guard := none }) (v := ?_) rfl (by kernel_rfl) (by kernel_rfl) (by kernel_rfl) (fun _ _ _ h => h) (Or.inl ⟨by rfl, ?_⟩) (by assumption) ?_
          rotate_left
          · (intro wS hSw; (try dsimp only at hSw); go_simp; (try with_reducible rfl))
          try simp only [Act.put, List.setIfInBounds_toArray, List.set_cons_zero, List.set_cons_succ]
          refine wpAnyH_take (i := 9) (oi := { dst := some 40, op := Op.call { callee := Callee.builtin Builtin.len, args := #[Operand.tmp 39], argTypes := #[22] }, type := 3, pos := "raster.go:134", after := #[{ on := 8, ground := Ground.data }], guard := none }) (v := ?_) rfl (by kernel_rfl) (by kernel_rfl) (by kernel_rfl) (fun _ _ _ h => h) (Or.inl ⟨by rfl, ?_⟩) (by assumption) ?_
          rotate_left
          · (intro wS hSw; (try dsimp only at hSw); go_simp; (try with_reducible rfl))
          try simp only [Act.put, List.setIfInBounds_toArray, List.set_cons_zero, List.set_cons_succ]
          refine wpAnyH_take (i := 10) (oi := { dst := some 41, op := Op.binOp BinOp.sub 3 (Operand.tmp 40) (Operand.const (Value.int IntKind.i64 1)) 3, type := 3, pos := "raster.go:134", after := #[{ on := 9, ground := Ground.data }], guard := none }) (v := ?_) rfl (by kernel_rfl) (by kernel_rfl) (by kernel_rfl) (fun _ _ _ h => h) (Or.inl ⟨by rfl, ?_⟩) (by assumption) ?_
          rotate_left
          · (intro wS hSw; (try dsimp only at hSw); go_simp; (try with_reducible rfl))
          try simp only [Act.put, List.setIfInBounds_toArray, List.set_cons_zero, List.set_cons_succ]
          refine wpAnyH_take (i := 11) (oi := { dst := some 42, op := Op.move (Operand.tmp 6), type := 3, pos := "raster.go:134", after := #[], guard := none }) (v := ?_) rfl (by kernel_rfl) (by kernel_rfl) (by kernel_rfl) (fun _ _ _ h => h) (Or.inl ⟨by rfl, ?_⟩) (by assumption) ?_
          rotate_left
          · (intro wS hSw; (try dsimp only at hSw); go_simp; (try with_reducible rfl))
          try simp only [Act.put, List.setIfInBounds_toArray, List.set_cons_zero, List.set_cons_succ]
          refine wpAnyH_take (i := 12) (oi := { dst := some 43, op := Op.binOp BinOp.sub 3 (Operand.tmp 41) (Operand.tmp 42) 3, type := 3, pos := "raster.go:134", after := #[{ on := 10, ground := Ground.data }, { on := 11, ground := Ground.data }], guard := none }) (v := ?_) rfl (by kernel_rfl) (by kernel_rfl) (by kernel_rfl) (fun _ _ _ h => h) (Or.inl ⟨by rfl, ?_⟩) (by assumption) ?_
          rotate_left
          · (intro wS hSw; (try dsimp only at hSw); go_simp; (try with_reducible rfl))
          try simp only [Act.put, List.setIfInBounds_toArray, List.set_cons_zero, List.set_cons_succ]
          refine wpAnyH_take (i := 13) (oi := { dst := some 44, op := Op.binOp BinOp.shl 29 (Operand.tmp 38) (Operand.tmp 43) 3, type := 29, pos := "raster.go:134", after := #[{ on := 7, ground := Ground.data }, { on := 12, ground := Ground.data }], guard := none }) (v := ?_) rfl (by kernel_rfl) (by kernel_rfl) (by kernel_rfl) (fun _ _ _ h => h) (Or.inl ⟨by rfl, ?_⟩) (by assumption) ?_
          rotate_left
          · (intro wS hSw; (try dsimp only at hSw); go_simp; (try with_reducible rfl))
          try simp only [Act.put, List.setIfInBounds_toArray, List.set_cons_zero, List.set_cons_succ]
          refine wpAnyH_ready (rs := [3]) (by kernel_rfl) (by simp) ?_
          refine AllReadyH.cons (o := { dst := some 34, op := Op.load 29 (Operand.tmp 33), type := 29, pos := "raster.go:134", after := #[{ on := 2, ground := Ground.data }], guard := none }) rfl (fun K hK => ?_) AllReadyH.nil
          go_simp
          refine hK.out _ _ ?_ (fun hNew => ?_)
          · exact trivial
          clear hK K hHeld
          have hHeld := hNew
          clear hNew
          try simp only [Act.put, List.setIfInBounds_toArray, List.set_cons_zero, List.set_cons_succ]
          refine wpAnyH_take (i := 14) (oi := { dst := some 45, op := Op.binOp BinOp.or 29 (Operand.tmp 34) (Operand.tmp 44) 29, type := 29, pos := "raster.go:134", after := #[{ on := 3, ground := Ground.data }, { on := 13, ground := Ground.data }], guard := none }) (v := ?_) rfl (by kernel_rfl) (by kernel_rfl) (by kernel_rfl) (fun _ _ _ h => h) (Or.inl ⟨by rfl, ?_⟩) (by assumption) ?_
          rotate_left
          · (intro wS hSw; (try dsimp only at hSw); go_simp; (try with_reducible rfl))
          try simp only [Act.put, List.setIfInBounds_toArray, List.set_cons_zero, List.set_cons_succ]
          refine wpAnyH_take (i := 15) (oi := { dst := some 46, op := Op.indexAddr 22 (Operand.tmp 31) (Operand.tmp 32), type := 0, pos := "raster.go:134", after := #[{ on := 0, ground := Ground.data }, { on := 1, ground := Ground.data }, { on := 0, ground := Ground.phase }, { on := 1, ground := Ground.phase }, { on := 2, ground := Ground.phase }, { on := 3, ground := Ground.phase }, { on := 4, ground := Ground.phase }, { on := 5, ground := Ground.phase }, { on := 6, ground := Ground.phase }, { on := 7, ground := Ground.phase }, { on := 8, ground := Ground.phase }, { on := 9, ground := Ground.phase }, { on := 10, ground := Ground.phase }, { on := 11, ground := Ground.phase }, { on := 12, ground := Ground.phase }, { on := 13, ground := Ground.phase }, { on := 14, ground := Ground.phase }], guard := none }) (v := ?_) rfl (by kernel_rfl) (by kernel_rfl) (by kernel_rfl) (fun _ _ _ h => h) (Or.inl ⟨by rfl, ?_⟩) (by assumption) ?_
          rotate_left
          · (intro wS hSw; (try dsimp only at hSw); go_simp; (try with_reducible rfl))
          try simp only [Act.put, List.setIfInBounds_toArray, List.set_cons_zero, List.set_cons_succ]
          refine wpAnyH_ready (rs := [16]) (by kernel_rfl) (by simp) ?_
          refine AllReadyH.cons (o := { dst := none, op := Op.store 29 (Operand.tmp 46) (Operand.tmp 45), type := 0, pos := "raster.go:134", after := #[{ on := 15, ground := Ground.data }, { on := 14, ground := Ground.data }, { on := 0, ground := Ground.phase }, { on := 1, ground := Ground.phase }, { on := 2, ground := Ground.phase }, { on := 3, ground := Ground.phase }, { on := 4, ground := Ground.phase }, { on := 5, ground := Ground.phase }, { on := 6, ground := Ground.phase }, { on := 7, ground := Ground.phase }, { on := 8, ground := Ground.phase }, { on := 9, ground := Ground.phase }, { on := 10, ground := Ground.phase }, { on := 11, ground := Ground.phase }, { on := 12, ground := Ground.phase }, { on := 13, ground := Ground.phase }, { on := 14, ground := Ground.phase }], guard := none }) rfl (fun K hK => ?_) AllReadyH.nil
          go_simp
          refine hK.out _ _ ?_ (fun hNew => ?_)
          · exact trivial
          clear hK K hHeld
          have hHeld := hNew
          clear hNew
          try simp only [Act.put, List.setIfInBounds_toArray, List.set_cons_zero, List.set_cons_succ]
          refine wpAnyH_done (by kernel_rfl) ?_ _
          refine NoPanic.normal ?_
          go_wp2_with fail
          have hz2o := hz2.out
          have hxl : x < zs2.length := by omega
          go_roundw
          case rel => exact ⟨x + 1, zs2.set x _, by omega, by go_num, Lib.hid ((List.length_set ..).trans hz2o), (by first | exact zs_set HT2.out hxl | exact RowT.like_ (zs_set HT2.out hxl)), (by first | exact hB.setCell (Nat.le_refl _) _ | exact (hB.setCell (Nat.le_refl _) _).drew)⟩
          case measure => simp [intOf]; omega
        · obtain rfl : x = 8 := by omega
          have HT2 := Lib.hid hT
          clear hT
          go_wp2
          go_roundw
          case rel => exact ⟨y + 1, zs2, by omega, by go_num, hz2.out, HT2.out, hB⟩
          case measure => simp [intOf]; omega
    · obtain rfl : y = 5 := by omega
      go_wp2
      go_ret
      exact ⟨⟨_, rfl⟩, hB⟩
end Go.Proofs.YtnbiioighjdkjaaDoor
