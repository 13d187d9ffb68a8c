/- RasterMoves: the walk. -/
import Derived.Test.YtnbiioighjdkjaaRaO
import Derived.Test.YtnbiioighjdkjaaOpen
namespace Go.Proofs.Ytnbiioighjdkjaa
open Go.ChangeShapes Go.WideShapes Go.ChangeAt Go.RowKit
set_option linter.unusedSimpArgs false
set_option linter.unusedVariables false

set_option maxRecDepth 100000 in
set_option maxHeartbeats 8000000 in
theorem moves_walk (A : Option Addr) (n cap : Nat) (zs : List Int) (za zb : Int) (w : World) (hns : n = zs.length ∧ Sl w w.heap.size A (zs.map (Value.int .i64))) (_ : i64in za) (_ : i64in zb) :
    Calls Try.prog 4 #[.slice A n cap, .int .i64 za, .int .i64 zb] w fun e' w' => e' = .returned (.bool true) ∧ Below w.heap.size w w' := by
  obtain ⟨hn, hs⟩ := hns
  have HN := Lib.hid hn
  clear hn
  have HB0 : Below w.heap.size w w := Below.refl _ _
  by_cases h60 : 20 < n
  · have g1 : (20 : Int) < (n : Int) := by omega
    go_enter Try.func4, Try.ntmps4
    go_wp2_with (go_at_call 9; ((with_reducible refine (awake_any _).mono ?_); rintro e' wN ⟨rfl, hb⟩; skip))
    go_ret
    exact ⟨rfl, hb⟩
  have g1 : ¬ (20 : Int) < (n : Int) := by omega
  by_cases h4 : n < 2
  · have g2 : (n : Int) < 2 := by omega
    go_enter Try.func4, Try.ntmps4
    go_wp2_with (go_at_call 9; ((with_reducible refine (awake_any _).mono ?_); rintro e' wN ⟨rfl, hb⟩; skip))
    go_ret
    exact ⟨rfl, hb⟩
  have g2 : ¬ (n : Int) < 2 := by omega
  obtain ⟨g, off, rfl, hg, hc⟩ := hs.at_ (by have := HN.out; simp; omega)
  have HC := Lib.hid hc
  clear hs hc
  have lm := lowI_bd za 100 (by omega)
  obtain ⟨m, hm⟩ : ∃ m, lowI za 100 = m := ⟨_, rfl⟩
  rw [hm] at lm
  have fm := ofInt_c m (by unfold Sm; omega)
  go_enter Try.func4, Try.ntmps4
  go_upto_region 5 with (go_at_call 6; ((with_reducible refine (low_any za 100 _ (by omega) (by omega)).mono ?_); rintro e' wN ⟨rfl, rfl⟩; skip))
  clear fm hm
  go_wp2_with fail
  go_loopw [7, 8, 10] (fun s7 s8 s10 wr => ∃ (i j : Nat) (v7 v8 : Value), Hid (i = 2 * j) ∧ i ≤ n ∧ s7 = v7 ∧ s8 = v8 ∧ s10 = .int .i64 (i : Int) ∧ wr.ownsRow w.heap.size 22 1 v7 j ((ptL zs j).map cV) ∧ wr.ownsRow w.heap.size 22 1 v8 j (((ptL zs j).map (addP (m, 3))).map cV) ∧ (∀ g, v7.ownBlock = some g → v8.ownBlock ≠ some g) ∧ Below w.heap.size w wr) (fun _ _ s10 _ => n - (intOf s10).toNat)
  case atStart => exact ⟨0, 0, .slice none 0 0, .slice none 0 0, Lib.hid rfl, by omega, rfl, rfl, rfl, World.ownsRow_nil _ _ _ _, World.ownsRow_nil _ _ _ _, (by intro g hg; simp [Value.ownBlock] at hg), (by first | exact HB0 | exact HB0.drew)⟩
  case round =>
    obtain ⟨i, j, v7, v8, HI, hj, rfl, rfl, rfl, R7, R8, AP, hB⟩ := hrel
    by_cases hlt : i + 1 < n
    · have i0 : (0 : Int) ≤ (i : Int) := by omega
      have i1 : (i : Int) + 1 < (n : Int) := by omega
      have i2 : (i : Int) < (n : Int) := by omega
      have i9 : (0 : Int) ≤ (i : Int) + 1 := by omega
      have hwi : IntKind.i64.wrap ((i : Int) + 1) = (i : Int) + 1 := by rw [IntKind.wrap_i64]; omega
      obtain ⟨z1, hz1⟩ : ∃ z, zs.getD i 0 = z := ⟨_, rfl⟩
      obtain ⟨z2, hz2⟩ : ∃ z, zs.getD (i + 1) 0 = z := ⟨_, rfl⟩
      have c1 : wr.cell? ⟨g, off + i, none⟩ = some (.int .i64 z1) := (hB.cell (p := ⟨g, off + i, none⟩) hg).trans (HC.out i _ (by rw [List.getElem?_map, List.getElem?_eq_getElem (by have := HN.out; omega), ← hz1, List.getD_eq_getElem?_getD, List.getElem?_eq_getElem (by have := HN.out; omega)]; rfl))
      have c2 : wr.cell? ⟨g, off + (i + 1), none⟩ = some (.int .i64 z2) := (hB.cell (p := ⟨g, off + (i + 1), none⟩) hg).trans (HC.out (i + 1) _ (by rw [List.getElem?_map, List.getElem?_eq_getElem (by have := HN.out; omega), ← hz2, List.getD_eq_getElem?_getD, List.getElem?_eq_getElem (by have := HN.out; omega)]; rfl))
      have HPT : Hid ((ptL zs j).map cV ++ [.complex .f64 (F (lowI z1 60)) (F (lowI z2 60))] = (ptL zs (j + 1)).map cV) := Lib.hid (by rw [ptL_succ, List.map_append, ← HI.out, hz1, hz2]; rfl)
      have HPQ : Hid (((ptL zs j).map (addP (m, 3))).map cV ++ [.complex .f64 (F (lowI z1 60 + m)) (F (lowI z2 60 + 3))] = ((ptL zs (j + 1)).map (addP (m, 3))).map cV) := Lib.hid (by rw [ptL_succ, List.map_append, List.map_append, ← HI.out, hz1, hz2]; rfl)
      have f1 := ofInt_c (lowI z1 60) (by have := lowI_bd z1 60 (by omega); unfold Sm; omega)
      have f2 := ofInt_c (lowI z2 60) (by have := lowI_bd z2 60 (by omega); unfold Sm; omega)
      have j10 : j ≤ 10 := by have := HI.out; omega
      clear hz1 hz2
      go_upto_region 8 with fail
      replace R7 := own_below R7 ((Below.refl wr.heap.size wr).drew)
      replace R8 := own_below R8 ((Below.refl wr.heap.size wr).drew)
      replace hB := hB.drew
      refine wp_region_noPanic ?_
      refine wp_region_held_drew (S := (fun w' => w'.cell? ⟨g, off + i, none⟩ = some (.int .i64 z1) ∧ w'.cell? ⟨g, off + (i + 1), none⟩ = some (.int .i64 z2))) (by kernel_rfl) ?_ (fun hHeld => ?_)
      · (first | exact ⟨c1, c2⟩ | assumption)
      refine wpAnyH_take (i := 0) (oi := { dst := some 41, op := Op.move (Operand.tmp 0), type := 31, pos := "law.go:96", after := #[], guard := none }) (v := ?_) rfl (by kernel_rfl) (by kernel_rfl) (by kernel_rfl) (fun _ _ _ h => h) (Or.inl ⟨by rfl, ?_⟩) (by assumption) ?_
      rotate_left
      · (intro wS hSw; (try dsimp only at hSw); go_simp; (try with_reducible rfl))
      try simp only [Act.put, List.setIfInBounds_toArray, List.set_cons_zero, List.set_cons_succ]
      refine wpAnyH_take (i := 1) (oi := { dst := some 42, op := Op.move (Operand.tmp 10), type := 3, pos := "law.go:96", after := #[], guard := none }) (v := ?_) rfl (by kernel_rfl) (by kernel_rfl) (by kernel_rfl) (fun _ _ _ h => h) (Or.inl ⟨by rfl, ?_⟩) (by assumption) ?_
      rotate_left
      · (intro wS hSw; (try dsimp only at hSw); go_simp; (try with_reducible rfl))
      try simp only [Act.put, List.setIfInBounds_toArray, List.set_cons_zero, List.set_cons_succ]
      refine wpAnyH_take (i := 2) (oi := { dst := some 43, op := Op.indexAddr 31 (Operand.tmp 41) (Operand.tmp 42), type := 0, pos := "law.go:96", after := #[{ on := 0, ground := Ground.data }, { on := 1, ground := Ground.data }], guard := none }) (v := ?_) rfl (by kernel_rfl) (by kernel_rfl) (by kernel_rfl) (fun _ _ _ h => h) (Or.inl ⟨by rfl, ?_⟩) (by assumption) ?_
      rotate_left
      · (intro wS hSw; (try dsimp only at hSw); go_simp; (try with_reducible rfl))
      try simp only [Act.put, List.setIfInBounds_toArray, List.set_cons_zero, List.set_cons_succ]
      refine wpAnyH_take (i := 3) (oi := { dst := some 44, op := Op.load 3 (Operand.tmp 43), type := 3, pos := "law.go:96", after := #[{ on := 2, ground := Ground.data }], guard := none }) (v := ?_) rfl (by kernel_rfl) (by kernel_rfl) (by kernel_rfl) (fun _ _ _ h => h) (Or.inl ⟨by rfl, ?_⟩) (by assumption) ?_
      rotate_left
      · (intro wS hSw; (try dsimp only at hSw); go_simp; (try with_reducible rfl))
      try simp only [Act.put, List.setIfInBounds_toArray, List.set_cons_zero, List.set_cons_succ]
      refine wpAnyH_take (i := 6) (oi := { dst := some 47, op := Op.move (Operand.tmp 0), type := 31, pos := "law.go:96", after := #[], guard := none }) (v := ?_) rfl (by kernel_rfl) (by kernel_rfl) (by kernel_rfl) (fun _ _ _ h => h) (Or.inl ⟨by rfl, ?_⟩) (by assumption) ?_
      rotate_left
      · (intro wS hSw; (try dsimp only at hSw); go_simp; (try with_reducible rfl))
      try simp only [Act.put, List.setIfInBounds_toArray, List.set_cons_zero, List.set_cons_succ]
      refine wpAnyH_take (i := 7) (oi := { dst := some 48, op := Op.move (Operand.tmp 10), type := 3, pos := "law.go:96", after := #[], guard := none }) (v := ?_) rfl (by kernel_rfl) (by kernel_rfl) (by kernel_rfl) (fun _ _ _ h => h) (Or.inl ⟨by rfl, ?_⟩) (by assumption) ?_
      rotate_left
      · (intro wS hSw; (try dsimp only at hSw); go_simp; (try with_reducible rfl))
      try simp only [Act.put, List.setIfInBounds_toArray, List.set_cons_zero, List.set_cons_succ]
      refine wpAnyH_take (i := 8) (oi := { dst := some 49, op := Op.binOp BinOp.add 3 (Operand.tmp 48) (Operand.const (Value.int IntKind.i64 1)) 3, type := 3, pos := "law.go:96", after := #[{ on := 7, ground := Ground.data }], guard := none }) (v := ?_) rfl (by kernel_rfl) (by kernel_rfl) (by kernel_rfl) (fun _ _ _ h => h) (Or.inl ⟨by rfl, ?_⟩) (by assumption) ?_
      rotate_left
      · (intro wS hSw; (try dsimp only at hSw); go_simp; (try with_reducible rfl))
      try simp only [Act.put, List.setIfInBounds_toArray, List.set_cons_zero, List.set_cons_succ]
      refine wpAnyH_take (i := 9) (oi := { dst := some 50, op := Op.indexAddr 31 (Operand.tmp 47) (Operand.tmp 49), type := 0, pos := "law.go:96", after := #[{ on := 6, ground := Ground.data }, { on := 8, ground := Ground.data }], guard := none }) (v := ?_) rfl (by kernel_rfl) (by kernel_rfl) (by kernel_rfl) (fun _ _ _ h => h) (Or.inl ⟨by rfl, ?_⟩) (by assumption) ?_
      rotate_left
      · (intro wS hSw; (try dsimp only at hSw); go_simp; (try with_reducible rfl))
      try simp only [Act.put, List.setIfInBounds_toArray, List.set_cons_zero, List.set_cons_succ]
      refine wpAnyH_take (i := 10) (oi := { dst := some 51, op := Op.load 3 (Operand.tmp 50), type := 3, pos := "law.go:96", after := #[{ on := 9, ground := Ground.data }], guard := none }) (v := ?_) rfl (by kernel_rfl) (by kernel_rfl) (by kernel_rfl) (fun _ _ _ h => h) (Or.inl ⟨by rfl, ?_⟩) (by assumption) ?_
      rotate_left
      · (intro wS hSw; (try dsimp only at hSw); go_simp; (try with_reducible rfl))
      try simp only [Act.put, List.setIfInBounds_toArray, List.set_cons_zero, List.set_cons_succ]
      refine wpAnyH_ready (rs := [4]) (by kernel_rfl) (by simp) ?_
      refine AllReadyH.cons (o := { dst := some 45, op := Op.call { callee := Callee.value (Operand.func 6), args := #[Operand.tmp 44, Operand.const (Value.int IntKind.i64 60)], argTypes := #[3, 3] }, type := 3, pos := "law.go:96", after := #[{ on := 3, ground := Ground.data }], guard := none }) rfl (fun K hK => ?_) AllReadyH.nil
      go_simp
      (first | (go_at_call 6; ((with_reducible refine (low_any z1 60 _ (by omega) (by omega)).mono ?_); rintro e' wN ⟨rfl, rfl⟩; skip)) | (go_at_call 6; ((with_reducible refine (low_any z2 60 _ (by omega) (by omega)).mono ?_); rintro e' wN ⟨rfl, rfl⟩; skip)))
      go_wp2_with fail
      refine hK.out _ _ ?_ (fun hNew => ?_)
      · (first | exact ⟨c1, c2⟩ | assumption)
      clear hK K hHeld
      have hHeld := hNew
      clear hNew
      try simp only [Act.put, List.setIfInBounds_toArray, List.set_cons_zero, List.set_cons_succ]
      refine wpAnyH_take (i := 5) (oi := { dst := some 46, op := Op.convert 3 23 (Operand.tmp 45), type := 23, pos := "law.go:96", after := #[{ on := 4, ground := Ground.data }], guard := none }) (v := ?_) rfl (by kernel_rfl) (by kernel_rfl) (by kernel_rfl) (fun _ _ _ h => h) (Or.inl ⟨by rfl, ?_⟩) (by assumption) ?_
      rotate_left
      · (intro wS hSw; (try dsimp only at hSw); go_simp; (try with_reducible rfl))
      try simp only [Act.put, List.setIfInBounds_toArray, List.set_cons_zero, List.set_cons_succ]
      refine wpAnyH_ready (rs := [11]) (by kernel_rfl) (by simp) ?_
      refine AllReadyH.cons (o := { dst := some 52, op := Op.call { callee := Callee.value (Operand.func 6), args := #[Operand.tmp 51, Operand.const (Value.int IntKind.i64 60)], argTypes := #[3, 3] }, type := 3, pos := "law.go:96", after := #[{ on := 10, ground := Ground.data }, { on := 4, ground := Ground.chain }], guard := none }) rfl (fun K hK => ?_) AllReadyH.nil
      go_simp
      (first | (go_at_call 6; ((with_reducible refine (low_any z1 60 _ (by omega) (by omega)).mono ?_); rintro e' wN ⟨rfl, rfl⟩; skip)) | (go_at_call 6; ((with_reducible refine (low_any z2 60 _ (by omega) (by omega)).mono ?_); rintro e' wN ⟨rfl, rfl⟩; skip)))
      go_wp2_with fail
      refine hK.out _ _ ?_ (fun hNew => ?_)
      · (first | exact ⟨c1, c2⟩ | assumption)
      clear hK K hHeld
      have hHeld := hNew
      clear hNew
      try simp only [Act.put, List.setIfInBounds_toArray, List.set_cons_zero, List.set_cons_succ]
      refine wpAnyH_take (i := 12) (oi := { dst := some 53, op := Op.convert 3 23 (Operand.tmp 52), type := 23, pos := "law.go:96", after := #[{ on := 11, ground := Ground.data }], guard := none }) (v := ?_) rfl (by kernel_rfl) (by kernel_rfl) (by kernel_rfl) (fun _ _ _ h => h) (Or.inl ⟨by rfl, ?_⟩) (by assumption) ?_
      rotate_left
      · (intro wS hSw; (try dsimp only at hSw); go_simp; (try with_reducible rfl))
      try simp only [Act.put, List.setIfInBounds_toArray, List.set_cons_zero, List.set_cons_succ]
      refine wpAnyH_take (i := 13) (oi := { dst := some 54, op := Op.call { callee := Callee.builtin Builtin.complex, args := #[Operand.tmp 46, Operand.tmp 53], argTypes := #[23, 23] }, type := 22, pos := "law.go:96", after := #[{ on := 5, ground := Ground.data }, { on := 12, ground := Ground.data }], guard := none }) (v := ?_) rfl (by kernel_rfl) (by kernel_rfl) (by kernel_rfl) (fun _ _ _ h => h) (Or.inl ⟨by rfl, ?_⟩) (by assumption) ?_
      rotate_left
      · (intro wS hSw; (try dsimp only at hSw); go_simp; (try with_reducible rfl))
      try simp only [Act.put, List.setIfInBounds_toArray, List.set_cons_zero, List.set_cons_succ]
      refine wpAnyH_take (i := 14) (oi := { dst := some 11, op := Op.assign (Operand.tmp 54), type := 22, pos := "law.go:96", after := #[{ on := 13, ground := Ground.data }, { on := 11, ground := Ground.chain }, { on := 0, ground := Ground.phase }, { on := 1, ground := Ground.phase }, { on := 2, ground := Ground.phase }, { on := 3, ground := Ground.phase }, { on := 4, ground := Ground.phase }, { on := 5, ground := Ground.phase }, { on := 6, ground := Ground.phase }, { on := 7, ground := Ground.phase }, { on := 8, ground := Ground.phase }, { on := 9, ground := Ground.phase }, { on := 10, ground := Ground.phase }, { on := 11, ground := Ground.phase }, { on := 12, ground := Ground.phase }, { on := 13, ground := Ground.phase }], guard := none }) (v := ?_) rfl (by kernel_rfl) (by kernel_rfl) (by kernel_rfl) (fun _ _ _ h => h) (Or.inl ⟨by rfl, ?_⟩) (by assumption) ?_
      rotate_left
      · (intro wS hSw; (try dsimp only at hSw); go_simp; (try with_reducible rfl))
      try simp only [Act.put, List.setIfInBounds_toArray, List.set_cons_zero, List.set_cons_succ]
      refine wpAnyH_done (by kernel_rfl) ?_ _
      refine NoPanic.normal ?_
      (try clear c1 c2 hwi)
      clear hHeld
      obtain ⟨wp, hwp⟩ : ∃ V : World, V = wr.drew := ⟨_, rfl⟩
      rw [← hwp] at R7 R8 hB ⊢
      clear hwp
      go_wp2_with (first
        | (go_at_call 10; ((with_reducible refine (move_c (lowI z1 60) (lowI z2 60) m _ (lowI_bd z1 60 (by omega)) (lowI_bd z2 60 (by omega)) (by omega)).mono ?_); rintro e' wN ⟨rfl, rfl⟩; skip))
        | (at_builtin; obtain ⟨ti0, hi, hz0, hz1, hz2⟩ := info_parts infoC; refine wpList_app _ rfl (.tmp 63) (.tmp 65) _ rfl w.heap.size 22 ti0 _ 1 16 Try.underlying25 hi hz0 hz1 hz2 rfl (by decide) _ j _ rfl (R7.alloc _) _ 1 _ [.complex .f64 (F (lowI z1 60)) (F (lowI z2 60))] rfl (Rd.one (by simp)) (by simp [Value.oneCell']) (by unfold maxLen; omega) (by omega) (by simp; have := hB.size; omega) ?_; intro u7 w1 ho7 hg7 hv7; clear hi hz0 hz1 hz2; have hB1 := (hB.alloc hB.size (.cells #[.complex .f64 (F (lowI z1 60)) (F (lowI z2 60))] 22)).grown hg7 (by simp; have := hB.size; omega) (fun g h => (R7.lt g h).1); have r8 := own_kept2 (R8.alloc _) hg7 (apart_sym AP); have AP1 := apart_app (R8.alloc (.cells #[.complex .f64 (F (lowI z1 60)) (F (lowI z2 60))] 22)) (apart_sym AP) hv7)
        | (at_builtin; obtain ⟨ti0, hi, hz0, hz1, hz2⟩ := info_parts infoC; refine wpList_app _ rfl (.tmp 67) (.tmp 69) _ rfl w.heap.size 22 ti0 _ 1 16 Try.underlying25 hi hz0 hz1 hz2 rfl (by decide) _ j _ rfl (r8.alloc _) _ 1 _ [.complex .f64 (F (lowI z1 60 + m)) (F (lowI z2 60 + 3))] rfl (Rd.one (by simp)) (by simp [Value.oneCell']) (by unfold maxLen; omega) (by omega) (by simp; have := hB1.size; omega) ?_; intro u8 w2 ho8 hg8 hv8; clear hi hz0 hz1 hz2; have hB2 := (hB1.alloc hB1.size (.cells #[.complex .f64 (F (lowI z1 60 + m)) (F (lowI z2 60 + 3))] 22)).grown hg8 (by simp; have := hB1.size; omega) (fun g h => (r8.lt g h).1); have r7 := own_kept2 (ho7.alloc _) hg8 (apart_sym AP1); have AP2 := apart_app (ho7.alloc (.cells #[.complex .f64 (F (lowI z1 60 + m)) (F (lowI z2 60 + 3))] 22)) (apart_sym AP1) hv8))
      have o7 := r7
      have o8 := ho8
      rw [HPT.out] at o7
      rw [HPQ.out] at o8
      have HO7 := Lib.hid o7
      have HO8 := Lib.hid o8
      have HAP := Lib.hid AP2
      have HB2 := Lib.hid hB2
      clear r7 ho8 o7 o8 AP2 AP1 r8 ho7 R7 R8 AP hB hB1 hB2 hg7 hg8 hv7 hv8
      go_roundw
      case rel => exact ⟨i + 2, j + 1, u7, u8, Lib.hid (by have := HI.out; omega), by omega, rfl, rfl, by go_num, HO7.out, HO8.out, HAP.out, HB2.out⟩
      case measure => simp [intOf]; omega
    · have i1 : ¬ (i : Int) + 1 < (n : Int) := by omega
      have hj10 : 1 ≤ j ∧ j ≤ 10 := by have := HI.out; omega
      obtain ⟨g7, c7, rfl, P7, hg7, hc7, hm7⟩ := own_rowC R7 (by omega)
      obtain ⟨g8, c8, rfl, P8, hg8, hc8, hm8⟩ := own_rowC R8 (by omega)
      clear R7 R8 AP
      have lw := lowI_bd zb 9 (by omega)
      obtain ⟨k, hk⟩ : ∃ k, lowI zb 9 = k := ⟨_, rfl⟩
      rw [hk] at lw
      have HK := Lib.hid hk
      have ew : IntKind.i64.wrap (1 + k) = 1 + k := wrapS _ (by omega) (by omega)
      have hwd : 1 ≤ 1 + k ∧ 1 + k ≤ 9 := by omega
      have hlen := ptL_len zs j
      have HLN : Hid ((ptL zs j).length = j) := Lib.hid hlen
      have HLQ : Hid (((ptL zs j).map (addP (m, 3))).length = j) := Lib.hid (by rw [List.length_map]; exact hlen)
      have HOK := Lib.hid (ptL_ok zs j)
      have HOK1 := Lib.hid (ptL_ok1 zs j)
      have HOKA := Lib.hid (ptL_okA zs j m lm)
      have HFR : Hid (∀ q, q + 1 < j → wayN ((ptL zs j).getD q (0, 0)) ((ptL zs j).getD (q + 1) (0, 0)) ≤ 1000) := Lib.hid (fun q _ => ptL_far zs j q (q + 1))
      have HFR1 : Hid (∀ q, q + 1 < j → wayN (((ptL zs j).map (subP (1, 0))).getD q (0, 0)) (((ptL zs j).map (subP (1, 0))).getD (q + 1) (0, 0)) ≤ 1000) := Lib.hid (fun q hq => ptL_far1 zs j q hq)
      have HS0 : Hid ((ptL zs j).map (subP (0, 0)) = ptL zs j) := Lib.hid (sub_0 _)
      have HSA : Hid (((ptL zs j).map (addP (m, 3))).map (subP (m, 3)) = ptL zs j) := Lib.hid (sub_add _ _)
      have HM0 : Hid (mayZ 0 = true ∧ mayZ 0 = true) := Lib.hid ⟨by decide, by decide⟩
      have HM1 : Hid (mayZ 1 = true ∧ mayZ 0 = true) := Lib.hid ⟨by decide, by decide⟩
      have HMA : Hid (mayZ m = true ∧ mayZ 3 = true) := Lib.hid ⟨mayZ_of (by omega), by decide⟩
      have HK1 : Hid (F 1 = 4607182418800017408) := Lib.hid (k_1)
      have HK3 : Hid (F 3 = 4613937818241073152) := Lib.hid (k_3)
      obtain ⟨fA, hfA⟩ : ∃ f, picF 64 (1 + k) (lineD (ptL zs j) (j - 1)) = f := ⟨_, rfl⟩
      obtain ⟨fC, hfC⟩ : ∃ f, picF 63 (1 + k) (lineD ((ptL zs j).map (subP (1, 0))) (j - 1)) = f := ⟨_, rfl⟩
      have HFA := Lib.hid hfA
      have HFC := Lib.hid hfC
      have HAC : Hid (∀ y, fC y = fA y >>> 1) := Lib.hid (fun y => by rw [← hfA, ← hfC]; exact pic_half _ _ _ (by omega) y)
      have HLT : Hid (∀ y, fA y < 18446744073709551616) := Lib.hid (fun y => by rw [← hfA]; exact pic_lt _ _ _ (by decide) y)
      clear hfA hfC hlen hk
      obtain ⟨ps, hps⟩ : ∃ ps, ptL zs j = ps := ⟨_, rfl⟩
      rw [hps] at P7 P8 HLN HLQ HOK HOK1 HOKA HFR HFR1 HS0 HSA HFA HFC
      clear hps
      go_wp2_with (first
        | (go_at_call 6; refine (low_any zb 9 _ (by omega) (by omega)).mono ?_; rw [HK.out]; rintro e' wN ⟨rfl, rfl⟩)
        | (go_at_call 11; ((with_reducible refine (draw_m (1 + k) 0 0 0 0 64 g7 j c7 ps ps fA _ (Lib.hid rfl) (Lib.hid rfl) hwd HLN (by omega) P7 HOK HM0 HS0 HOK (by decide) HFR HFA).mono ?_); rintro e' wN ⟨⟨gA, rfl, RA, hgA⟩, hb⟩; replace P7 := P7.below hb; replace P8 := P8.below hb; replace hB := btr hB hB.size hb))
        | (go_at_call 11; ((with_reducible refine (draw_m (1 + k) m 3 (F m) 4613937818241073152 64 g8 j c8 (ps.map (addP (m, 3))) ps fA _ (Lib.hid rfl) HK3 hwd HLQ (by omega) P8 HOKA HMA HSA HOK (by decide) HFR HFA).mono ?_); rintro e' wN ⟨⟨gB, rfl, RB, hgB⟩, hb⟩; replace P7 := P7.below hb; replace P8 := P8.below hb; replace hB := btr hB hB.size hb; replace RA := RA.below hb))
        | (go_at_call 11; ((with_reducible refine (draw_m (1 + k) 1 0 4607182418800017408 0 63 g7 j c7 ps (ps.map (subP (1, 0))) fC _ HK1 (Lib.hid rfl) hwd HLN (by omega) P7 HOK HM1 (Lib.hid rfl) HOK1 (by decide) HFR1 HFC).mono ?_); rintro e' wN ⟨⟨gC, rfl, RC, hgC⟩, hb⟩; replace P7 := P7.below hb; replace P8 := P8.below hb; replace hB := btr hB hB.size hb; replace RA := RA.below hb; replace RB := RB.below hb))
        | (go_at_call 12; ((with_reducible refine (samerows_b fA 64 gA gB _ (by omega) RA RB).mono ?_); rintro e' wN ⟨rfl, hb⟩; replace hB := btr hB hB.size hb; replace RA := RA.below hb; replace RC := RC.below hb)))
      obtain ⟨wb, hwb⟩ : ∃ V : World, V = wN := ⟨_, rfl⟩
      rw [← hwb] at hB RA RC ⊢
      clear hwb hb RB P7 P8
      have HBB := Lib.hid hB
      have HRA := Lib.hid RA
      have HRC := Lib.hid RC
      clear hB RA RC
      go_loopw [20] (fun s20 wr => ∃ y : Nat, y ≤ 64 ∧ s20 = .int .i64 (y : Int) ∧ Below wb.heap.size wb wr) (fun s20 _ => 64 - (intOf s20).toNat)
      case atStart => exact ⟨0, by omega, rfl, (by first | exact Below.refl _ _ | exact (Below.refl _ _).drew)⟩
      case round =>
        obtain ⟨y, hy, rfl, hB⟩ := hrel
        by_cases hlt : y < 64
        · have cx : wr.cell? ⟨gC, y, none⟩ = some (.int .u64 ((fC y : Nat) : Int)) := (HRC.out.below hB).cell_ (rowsV_at fC 64 y hlt)
          have cy : wr.cell? ⟨gA, y, none⟩ = some (.int .u64 ((fA y : Nat) : Int)) := (HRA.out.below hB).cell_ (rowsV_at fA 64 y hlt)
          have y0 : (0 : Int) ≤ (y : Int) := by omega
          have y1 : (y : Int) < 64 := by omega
          have eq0 : (((fC y : Nat) : Int) != ((fA y : Nat) : Int) / 2) = false := by rw [show ((fC y : Nat) : Int) = ((fA y : Nat) : Int) / 2 by (rw [HAC.out y, Nat.shiftRight_eq_div_pow]; omega)]; simp
          go_upto_region 22 with fail
          refine wp_region_noPanic ?_
          refine wp_region_held_drew (S := (fun w' => w'.cell? ⟨gC, y, none⟩ = some (.int .u64 ((fC y : Nat) : Int)) ∧ w'.cell? ⟨gA, y, none⟩ = some (.int .u64 ((fA y : Nat) : Int)))) (by kernel_rfl) ?_ (fun hHeld => ?_)
          · (first | exact ⟨cx, cy⟩ | assumption)
          refine wpAnyH_take (i := 0) (oi := { dst := some 129, op := Op.move (Operand.tmp 18), type := 34, pos := "law.go:111", after := #[], guard := none }) (v := ?_) rfl (by kernel_rfl) (by kernel_rfl) (by kernel_rfl) (fun _ _ _ h => h) (Or.inl ⟨by rfl, ?_⟩) (by assumption) ?_
          rotate_left
          · (intro wS hSw; (try dsimp only at hSw); go_simp; (try with_reducible rfl))
          try simp only [Act.put, List.setIfInBounds_toArray, List.set_cons_zero, List.set_cons_succ]
          refine wpAnyH_take (i := 1) (oi := { dst := some 130, op := Op.move (Operand.tmp 20), type := 3, pos := "law.go:111", after := #[], guard := none }) (v := ?_) rfl (by kernel_rfl) (by kernel_rfl) (by kernel_rfl) (fun _ _ _ h => h) (Or.inl ⟨by rfl, ?_⟩) (by assumption) ?_
          rotate_left
          · (intro wS hSw; (try dsimp only at hSw); go_simp; (try with_reducible rfl))
          try simp only [Act.put, List.setIfInBounds_toArray, List.set_cons_zero, List.set_cons_succ]
          refine wpAnyH_take (i := 2) (oi := { dst := some 131, op := Op.indexAddr 34 (Operand.tmp 129) (Operand.tmp 130), type := 0, pos := "law.go:111", after := #[{ on := 0, ground := Ground.data }, { on := 1, ground := Ground.data }], guard := none }) (v := ?_) rfl (by kernel_rfl) (by kernel_rfl) (by kernel_rfl) (fun _ _ _ h => h) (Or.inl ⟨by rfl, ?_⟩) (by assumption) ?_
          rotate_left
          · (intro wS hSw; (try dsimp only at hSw); go_simp; (try with_reducible rfl))
          try simp only [Act.put, List.setIfInBounds_toArray, List.set_cons_zero, List.set_cons_succ]
          refine wpAnyH_take (i := 3) (oi := { dst := some 132, op := Op.load 43 (Operand.tmp 131), type := 43, pos := "law.go:111", after := #[{ on := 2, ground := Ground.data }], guard := none }) (v := ?_) rfl (by kernel_rfl) (by kernel_rfl) (by kernel_rfl) (fun _ _ _ h => h) (Or.inl ⟨by rfl, ?_⟩) (by assumption) ?_
          rotate_left
          · (intro wS hSw; (try dsimp only at hSw); go_simp; (try with_reducible rfl))
          try simp only [Act.put, List.setIfInBounds_toArray, List.set_cons_zero, List.set_cons_succ]
          refine wpAnyH_take (i := 4) (oi := { dst := some 133, op := Op.move (Operand.tmp 14), type := 34, pos := "law.go:111", after := #[], guard := none }) (v := ?_) rfl (by kernel_rfl) (by kernel_rfl) (by kernel_rfl) (fun _ _ _ h => h) (Or.inl ⟨by rfl, ?_⟩) (by assumption) ?_
          rotate_left
          · (intro wS hSw; (try dsimp only at hSw); go_simp; (try with_reducible rfl))
          try simp only [Act.put, List.setIfInBounds_toArray, List.set_cons_zero, List.set_cons_succ]
          refine wpAnyH_take (i := 5) (oi := { dst := some 134, op := Op.move (Operand.tmp 20), type := 3, pos := "law.go:111", after := #[], guard := none }) (v := ?_) rfl (by kernel_rfl) (by kernel_rfl) (by kernel_rfl) (fun _ _ _ h => h) (Or.inl ⟨by rfl, ?_⟩) (by assumption) ?_
          rotate_left
          · (intro wS hSw; (try dsimp only at hSw); go_simp; (try with_reducible rfl))
          try simp only [Act.put, List.setIfInBounds_toArray, List.set_cons_zero, List.set_cons_succ]
          refine wpAnyH_take (i := 6) (oi := { dst := some 135, op := Op.indexAddr 34 (Operand.tmp 133) (Operand.tmp 134), type := 0, pos := "law.go:111", after := #[{ on := 4, ground := Ground.data }, { on := 5, ground := Ground.data }], guard := none }) (v := ?_) rfl (by kernel_rfl) (by kernel_rfl) (by kernel_rfl) (fun _ _ _ h => h) (Or.inl ⟨by rfl, ?_⟩) (by assumption) ?_
          rotate_left
          · (intro wS hSw; (try dsimp only at hSw); go_simp; (try with_reducible rfl))
          try simp only [Act.put, List.setIfInBounds_toArray, List.set_cons_zero, List.set_cons_succ]
          refine wpAnyH_take (i := 7) (oi := { dst := some 136, op := Op.load 43 (Operand.tmp 135), type := 43, pos := "law.go:111", after := #[{ on := 6, ground := Ground.data }], guard := none }) (v := ?_) rfl (by kernel_rfl) (by kernel_rfl) (by kernel_rfl) (fun _ _ _ h => h) (Or.inl ⟨by rfl, ?_⟩) (by assumption) ?_
          rotate_left
          · (intro wS hSw; (try dsimp only at hSw); go_simp; (try with_reducible rfl))
          try simp only [Act.put, List.setIfInBounds_toArray, List.set_cons_zero, List.set_cons_succ]
          refine wpAnyH_take (i := 8) (oi := { dst := some 137, op := Op.binOp BinOp.shr 43 (Operand.tmp 136) (Operand.const (Value.int IntKind.u64 1)) 44, type := 43, pos := "law.go:111", after := #[{ on := 7, ground := Ground.data }], guard := none }) (v := ?_) rfl (by kernel_rfl) (by kernel_rfl) (by kernel_rfl) (fun _ _ _ h => h) (Or.inl ⟨by rfl, ?_⟩) (by assumption) ?_
          rotate_left
          · (intro wS hSw; (try dsimp only at hSw); go_simp; (try with_reducible rfl))
          try simp only [Act.put, List.setIfInBounds_toArray, List.set_cons_zero, List.set_cons_succ]
          refine wpAnyH_take (i := 9) (oi := { dst := some 138, op := Op.binOp BinOp.neq 43 (Operand.tmp 132) (Operand.tmp 137) 43, type := 4, pos := "law.go:111", after := #[{ on := 3, ground := Ground.data }, { on := 8, ground := Ground.data }], guard := none }) (v := ?_) rfl (by kernel_rfl) (by kernel_rfl) (by kernel_rfl) (fun _ _ _ h => h) (Or.inl ⟨by rfl, ?_⟩) (by assumption) ?_
          rotate_left
          · (intro wS hSw; (try dsimp only at hSw); go_simp; (try with_reducible rfl))
          try simp only [Act.put, List.setIfInBounds_toArray, List.set_cons_zero, List.set_cons_succ]
          refine wpAnyH_done (by kernel_rfl) ?_ _
          refine NoPanic.normal ?_
          go_wp2_with fail
          go_roundw
          case rel => exact ⟨y + 1, by omega, by go_num, (by first | exact hB | exact hB.drew)⟩
          case measure => simp [intOf]; omega
        · obtain rfl : y = 64 := by omega
          go_wp2_with (go_at_call 9; ((with_reducible refine (awake_any _).mono ?_); rintro e' wN ⟨rfl, hb⟩; replace hB := btr hB hB.size hb))
          go_ret
          exact ⟨rfl, HBB.out.trans (hB.mono HBB.out.size)⟩
end Go.Proofs.Ytnbiioighjdkjaa
