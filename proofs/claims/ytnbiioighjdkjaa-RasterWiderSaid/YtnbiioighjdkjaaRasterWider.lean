/- RasterWider: the walk. -/
import Derived.Test.YtnbiioighjdkjaaRaR
import Derived.Test.YtnbiioighjdkjaaOpen
namespace Go.Proofs.Ytnbiioighjdkjaa
open Go.ChangeShapes Go.WideShapes Go.ChangeAt Go.RowKit
set_option linter.unusedSimpArgs false
set_option linter.unusedVariables false

set_option maxRecDepth 100000 in
set_option maxHeartbeats 8000000 in
theorem wider_walk (A : Option Addr) (n cap : Nat) (zs : List Int) (za zb : Int) (w : World) (hns : n = zs.length ∧ Sl w w.heap.size A (zs.map (Value.int .i64))) (_ : i64in za) (_ : i64in zb) :
    Calls Try.prog 5 #[.slice A n cap, .int .i64 za, .int .i64 zb] w fun e' w' => e' = .returned (.bool true) ∧ Below w.heap.size w w' := by
  obtain ⟨hn, hs⟩ := hns
  have HN := Lib.hid hn
  clear hn
  have HB0 : Below w.heap.size w w := Below.refl _ _
  by_cases h60 : 20 < n
  · have g1 : (20 : Int) < (n : Int) := by omega
    go_enter Try.func5, Try.ntmps5
    go_wp2_with (go_at_call 9; ((with_reducible refine (awake_any _).mono ?_); rintro e' wN ⟨rfl, hb⟩; skip))
    go_ret
    exact ⟨rfl, hb⟩
  have g1 : ¬ (20 : Int) < (n : Int) := by omega
  by_cases h4 : n < 2
  · have g2 : (n : Int) < 2 := by omega
    go_enter Try.func5, Try.ntmps5
    go_wp2_with (go_at_call 9; ((with_reducible refine (awake_any _).mono ?_); rintro e' wN ⟨rfl, hb⟩; skip))
    go_ret
    exact ⟨rfl, hb⟩
  have g2 : ¬ (n : Int) < 2 := by omega
  obtain ⟨g, off, rfl, hg, hc⟩ := hs.at_ (by have := HN.out; simp; omega)
  have HC := Lib.hid hc
  clear hs hc
  obtain ⟨N, hN⟩ : ∃ N : Nat, 1 + lowI za 8 = (N : Int) := ⟨(1 + lowI za 8).toNat, by have := lowI_bd za 8 (by omega); omega⟩
  have hN8 : 1 ≤ N ∧ N ≤ 8 := by have := lowI_bd za 8 (by omega); omega
  obtain ⟨k, hk⟩ : ∃ k, lowI za 8 = k := ⟨_, rfl⟩
  have HKK := Lib.hid hk
  rw [hk] at hN
  have ew : IntKind.i64.wrap (1 + k) = (N : Int) := by rw [hN]; exact wrapS _ (by omega) (by omega)
  clear hk
  go_enter Try.func5, Try.ntmps5
  go_upto_region 5 with (go_at_call 6; refine (low_any za 8 _ (by omega) (by omega)).mono ?_; rw [HKK.out]; rintro e' wN ⟨rfl, rfl⟩)
  clear ew hN
  go_wp2_with fail
  go_loopw [7, 8] (fun s7 s8 wr => ∃ (i j : Nat) (v : Value), Hid (i = 2 * j) ∧ i ≤ n ∧ s7 = v ∧ s8 = .int .i64 (i : Int) ∧ wr.ownsRow w.heap.size 22 1 v j ((ptW zs j).map cV) ∧ Below w.heap.size w wr) (fun _ s8 _ => n - (intOf s8).toNat)
  case atStart => exact ⟨0, 0, .slice none 0 0, Lib.hid rfl, by omega, rfl, rfl, World.ownsRow_nil _ _ _ _, (by first | exact HB0 | exact HB0.drew)⟩
  case round =>
    obtain ⟨i, j, v, HI, hj, rfl, rfl, hown, hB⟩ := hrel
    by_cases hlt : i + 1 < n
    · have i0 : (0 : Int) ≤ (i : Int) := by omega
      have i1 : (i : Int) + 1 < (n : Int) := by omega
      have i2 : (i : Int) < (n : Int) := by omega
      have i9 : (0 : Int) ≤ (i : Int) + 1 := by omega
      have hwi : IntKind.i64.wrap ((i : Int) + 1) = (i : Int) + 1 := by rw [IntKind.wrap_i64]; omega
      obtain ⟨z1, hz1⟩ : ∃ z, zs.getD i 0 = z := ⟨_, rfl⟩
      obtain ⟨z2, hz2⟩ : ∃ z, zs.getD (i + 1) 0 = z := ⟨_, rfl⟩
      have c1 : wr.cell? ⟨g, off + i, none⟩ = some (.int .i64 z1) := (hB.cell (p := ⟨g, off + i, none⟩) hg).trans (HC.out i _ (by rw [List.getElem?_map, List.getElem?_eq_getElem (by have := HN.out; omega), ← hz1, List.getD_eq_getElem?_getD, List.getElem?_eq_getElem (by have := HN.out; omega)]; rfl))
      have c2 : wr.cell? ⟨g, off + (i + 1), none⟩ = some (.int .i64 z2) := (hB.cell (p := ⟨g, off + (i + 1), none⟩) hg).trans (HC.out (i + 1) _ (by rw [List.getElem?_map, List.getElem?_eq_getElem (by have := HN.out; omega), ← hz2, List.getD_eq_getElem?_getD, List.getElem?_eq_getElem (by have := HN.out; omega)]; rfl))
      have HPT : Hid ((ptW zs j).map cV ++ [.complex .f64 (F (lowI z1 100)) (F (lowI z2 100))] = (ptW zs (j + 1)).map cV) := Lib.hid (by rw [ptW_succ, List.map_append, ← HI.out, hz1, hz2]; rfl)
      have f1 := ofInt_c (lowI z1 100) (by have := lowI_bd z1 100 (by omega); unfold Sm; omega)
      have f2 := ofInt_c (lowI z2 100) (by have := lowI_bd z2 100 (by omega); unfold Sm; omega)
      clear hz1 hz2
      go_upto_region 8 with fail
      replace hown := own_below hown ((Below.refl wr.heap.size wr).drew)
      replace hB := hB.drew
      refine wp_region_noPanic ?_
      refine wp_region_held_drew (S := (fun w' => w'.cell? ⟨g, off + i, none⟩ = some (.int .i64 z1) ∧ w'.cell? ⟨g, off + (i + 1), none⟩ = some (.int .i64 z2))) (by kernel_rfl) ?_ (fun hHeld => ?_)
      · (first | exact ⟨c1, c2⟩ | assumption)
      refine wpAnyH_take (i := 0) (oi := { dst := some 36, op := Op.move (Operand.tmp 7), type := 25, pos := "more.go:17", after := #[], guard := none }) (v := ?_) rfl (by kernel_rfl) (by kernel_rfl) (by kernel_rfl) (fun _ _ _ h => h) (Or.inl ⟨by rfl, ?_⟩) (by assumption) ?_
      rotate_left
      · (intro wS hSw; (try dsimp only at hSw); go_simp; (try with_reducible rfl))
      try simp only [Act.put, List.setIfInBounds_toArray, List.set_cons_zero, List.set_cons_succ]
      refine wpAnyH_take (i := 1) (oi := { dst := some 37, op := Op.move (Operand.tmp 0), type := 31, pos := "more.go:17", after := #[], guard := none }) (v := ?_) rfl (by kernel_rfl) (by kernel_rfl) (by kernel_rfl) (fun _ _ _ h => h) (Or.inl ⟨by rfl, ?_⟩) (by assumption) ?_
      rotate_left
      · (intro wS hSw; (try dsimp only at hSw); go_simp; (try with_reducible rfl))
      try simp only [Act.put, List.setIfInBounds_toArray, List.set_cons_zero, List.set_cons_succ]
      refine wpAnyH_take (i := 2) (oi := { dst := some 38, op := Op.move (Operand.tmp 8), type := 3, pos := "more.go:17", after := #[], guard := none }) (v := ?_) rfl (by kernel_rfl) (by kernel_rfl) (by kernel_rfl) (fun _ _ _ h => h) (Or.inl ⟨by rfl, ?_⟩) (by assumption) ?_
      rotate_left
      · (intro wS hSw; (try dsimp only at hSw); go_simp; (try with_reducible rfl))
      try simp only [Act.put, List.setIfInBounds_toArray, List.set_cons_zero, List.set_cons_succ]
      refine wpAnyH_take (i := 3) (oi := { dst := some 39, op := Op.indexAddr 31 (Operand.tmp 37) (Operand.tmp 38), type := 0, pos := "more.go:17", after := #[{ on := 1, ground := Ground.data }, { on := 2, ground := Ground.data }], guard := none }) (v := ?_) rfl (by kernel_rfl) (by kernel_rfl) (by kernel_rfl) (fun _ _ _ h => h) (Or.inl ⟨by rfl, ?_⟩) (by assumption) ?_
      rotate_left
      · (intro wS hSw; (try dsimp only at hSw); go_simp; (try with_reducible rfl))
      try simp only [Act.put, List.setIfInBounds_toArray, List.set_cons_zero, List.set_cons_succ]
      refine wpAnyH_take (i := 4) (oi := { dst := some 40, op := Op.load 3 (Operand.tmp 39), type := 3, pos := "more.go:17", after := #[{ on := 3, ground := Ground.data }], guard := none }) (v := ?_) rfl (by kernel_rfl) (by kernel_rfl) (by kernel_rfl) (fun _ _ _ h => h) (Or.inl ⟨by rfl, ?_⟩) (by assumption) ?_
      rotate_left
      · (intro wS hSw; (try dsimp only at hSw); go_simp; (try with_reducible rfl))
      try simp only [Act.put, List.setIfInBounds_toArray, List.set_cons_zero, List.set_cons_succ]
      refine wpAnyH_take (i := 7) (oi := { dst := some 43, op := Op.move (Operand.tmp 0), type := 31, pos := "more.go:17", after := #[], guard := none }) (v := ?_) rfl (by kernel_rfl) (by kernel_rfl) (by kernel_rfl) (fun _ _ _ h => h) (Or.inl ⟨by rfl, ?_⟩) (by assumption) ?_
      rotate_left
      · (intro wS hSw; (try dsimp only at hSw); go_simp; (try with_reducible rfl))
      try simp only [Act.put, List.setIfInBounds_toArray, List.set_cons_zero, List.set_cons_succ]
      refine wpAnyH_take (i := 8) (oi := { dst := some 44, op := Op.move (Operand.tmp 8), type := 3, pos := "more.go:17", after := #[], guard := none }) (v := ?_) rfl (by kernel_rfl) (by kernel_rfl) (by kernel_rfl) (fun _ _ _ h => h) (Or.inl ⟨by rfl, ?_⟩) (by assumption) ?_
      rotate_left
      · (intro wS hSw; (try dsimp only at hSw); go_simp; (try with_reducible rfl))
      try simp only [Act.put, List.setIfInBounds_toArray, List.set_cons_zero, List.set_cons_succ]
      refine wpAnyH_take (i := 9) (oi := { dst := some 45, op := Op.binOp BinOp.add 3 (Operand.tmp 44) (Operand.const (Value.int IntKind.i64 1)) 3, type := 3, pos := "more.go:17", after := #[{ on := 8, ground := Ground.data }], guard := none }) (v := ?_) rfl (by kernel_rfl) (by kernel_rfl) (by kernel_rfl) (fun _ _ _ h => h) (Or.inl ⟨by rfl, ?_⟩) (by assumption) ?_
      rotate_left
      · (intro wS hSw; (try dsimp only at hSw); go_simp; (try with_reducible rfl))
      try simp only [Act.put, List.setIfInBounds_toArray, List.set_cons_zero, List.set_cons_succ]
      refine wpAnyH_take (i := 10) (oi := { dst := some 46, op := Op.indexAddr 31 (Operand.tmp 43) (Operand.tmp 45), type := 0, pos := "more.go:17", after := #[{ on := 7, ground := Ground.data }, { on := 9, ground := Ground.data }], guard := none }) (v := ?_) rfl (by kernel_rfl) (by kernel_rfl) (by kernel_rfl) (fun _ _ _ h => h) (Or.inl ⟨by rfl, ?_⟩) (by assumption) ?_
      rotate_left
      · (intro wS hSw; (try dsimp only at hSw); go_simp; (try with_reducible rfl))
      try simp only [Act.put, List.setIfInBounds_toArray, List.set_cons_zero, List.set_cons_succ]
      refine wpAnyH_take (i := 11) (oi := { dst := some 47, op := Op.load 3 (Operand.tmp 46), type := 3, pos := "more.go:17", after := #[{ on := 10, ground := Ground.data }], guard := none }) (v := ?_) rfl (by kernel_rfl) (by kernel_rfl) (by kernel_rfl) (fun _ _ _ h => h) (Or.inl ⟨by rfl, ?_⟩) (by assumption) ?_
      rotate_left
      · (intro wS hSw; (try dsimp only at hSw); go_simp; (try with_reducible rfl))
      try simp only [Act.put, List.setIfInBounds_toArray, List.set_cons_zero, List.set_cons_succ]
      refine wpAnyH_ready (rs := [5]) (by kernel_rfl) (by simp) ?_
      refine AllReadyH.cons (o := { dst := some 41, op := Op.call { callee := Callee.value (Operand.func 6), args := #[Operand.tmp 40, Operand.const (Value.int IntKind.i64 100)], argTypes := #[3, 3] }, type := 3, pos := "more.go:17", after := #[{ on := 4, ground := Ground.data }], guard := none }) rfl (fun K hK => ?_) AllReadyH.nil
      go_simp
      (first | (go_at_call 6; ((with_reducible refine (low_any z1 100 _ (by omega) (by omega)).mono ?_); rintro e' wN ⟨rfl, rfl⟩; skip)) | (go_at_call 6; ((with_reducible refine (low_any z2 100 _ (by omega) (by omega)).mono ?_); rintro e' wN ⟨rfl, rfl⟩; skip)))
      go_wp2_with fail
      refine hK.out _ _ ?_ (fun hNew => ?_)
      · (first | exact ⟨c1, c2⟩ | assumption)
      clear hK K hHeld
      have hHeld := hNew
      clear hNew
      try simp only [Act.put, List.setIfInBounds_toArray, List.set_cons_zero, List.set_cons_succ]
      refine wpAnyH_take (i := 6) (oi := { dst := some 42, op := Op.convert 3 23 (Operand.tmp 41), type := 23, pos := "more.go:17", after := #[{ on := 5, ground := Ground.data }], guard := none }) (v := ?_) rfl (by kernel_rfl) (by kernel_rfl) (by kernel_rfl) (fun _ _ _ h => h) (Or.inl ⟨by rfl, ?_⟩) (by assumption) ?_
      rotate_left
      · (intro wS hSw; (try dsimp only at hSw); go_simp; (try with_reducible rfl))
      try simp only [Act.put, List.setIfInBounds_toArray, List.set_cons_zero, List.set_cons_succ]
      refine wpAnyH_ready (rs := [12]) (by kernel_rfl) (by simp) ?_
      refine AllReadyH.cons (o := { dst := some 48, op := Op.call { callee := Callee.value (Operand.func 6), args := #[Operand.tmp 47, Operand.const (Value.int IntKind.i64 100)], argTypes := #[3, 3] }, type := 3, pos := "more.go:17", after := #[{ on := 11, ground := Ground.data }, { on := 5, ground := Ground.chain }], guard := none }) rfl (fun K hK => ?_) AllReadyH.nil
      go_simp
      (first | (go_at_call 6; ((with_reducible refine (low_any z1 100 _ (by omega) (by omega)).mono ?_); rintro e' wN ⟨rfl, rfl⟩; skip)) | (go_at_call 6; ((with_reducible refine (low_any z2 100 _ (by omega) (by omega)).mono ?_); rintro e' wN ⟨rfl, rfl⟩; skip)))
      go_wp2_with fail
      refine hK.out _ _ ?_ (fun hNew => ?_)
      · (first | exact ⟨c1, c2⟩ | assumption)
      clear hK K hHeld
      have hHeld := hNew
      clear hNew
      try simp only [Act.put, List.setIfInBounds_toArray, List.set_cons_zero, List.set_cons_succ]
      refine wpAnyH_take (i := 13) (oi := { dst := some 49, op := Op.convert 3 23 (Operand.tmp 48), type := 23, pos := "more.go:17", after := #[{ on := 12, ground := Ground.data }], guard := none }) (v := ?_) rfl (by kernel_rfl) (by kernel_rfl) (by kernel_rfl) (fun _ _ _ h => h) (Or.inl ⟨by rfl, ?_⟩) (by assumption) ?_
      rotate_left
      · (intro wS hSw; (try dsimp only at hSw); go_simp; (try with_reducible rfl))
      try simp only [Act.put, List.setIfInBounds_toArray, List.set_cons_zero, List.set_cons_succ]
      refine wpAnyH_take (i := 14) (oi := { dst := some 50, op := Op.call { callee := Callee.builtin Builtin.complex, args := #[Operand.tmp 42, Operand.tmp 49], argTypes := #[23, 23] }, type := 22, pos := "more.go:17", after := #[{ on := 6, ground := Ground.data }, { on := 13, ground := Ground.data }], guard := none }) (v := ?_) rfl (by kernel_rfl) (by kernel_rfl) (by kernel_rfl) (fun _ _ _ h => h) (Or.inl ⟨by rfl, ?_⟩) (by assumption) ?_
      rotate_left
      · (intro wS hSw; (try dsimp only at hSw); go_simp; (try with_reducible rfl))
      try simp only [Act.put, List.setIfInBounds_toArray, List.set_cons_zero, List.set_cons_succ]
      refine wpAnyH_ready (rs := [15]) (by kernel_rfl) (by simp) ?_
      refine AllReadyH.cons (o := { dst := some 51, op := Op.buildSlice 25 1 #[(0, Operand.tmp 50)], type := 25, pos := "more.go:17", after := #[{ on := 14, ground := Ground.data }], guard := none }) rfl (fun K hK => ?_) AllReadyH.nil
      refine wp_build1c _ rfl (F (lowI z1 100)) (F (lowI z2 100)) rfl ?_
      intro wN b3 B3 hqb hb
      replace hown := own_below hown hb
      have hsz9 := Nat.lt_of_lt_of_le hg hB.size
      replace hB := btr hB hB.size hb
      have c1 := (hb.cell (p := ⟨g, off + i, none⟩) hsz9).trans hHeld.1
      have c2 := (hb.cell (p := ⟨g, off + (i + 1), none⟩) hsz9).trans hHeld.2
      refine hK.out _ _ ?_ (fun hNew => ?_)
      · (first | exact ⟨c1, c2⟩ | assumption)
      clear hK K hHeld
      have hHeld := hNew
      clear hNew
      try simp only [Act.put, List.setIfInBounds_toArray, List.set_cons_zero, List.set_cons_succ]
      refine wpAnyH_ready (rs := [16]) (by kernel_rfl) (by simp) ?_
      refine AllReadyH.cons (o := { dst := some 52, op := Op.call { callee := Callee.builtin Builtin.append, args := #[Operand.tmp 36, Operand.tmp 51], argTypes := #[25, 25] }, type := 25, pos := "more.go:17", after := #[{ on := 0, ground := Ground.data }, { on := 15, ground := Ground.data }, { on := 12, ground := Ground.chain }], guard := none }) rfl (fun K hK => ?_) AllReadyH.nil
      obtain ⟨ti0, hi9, hz0, hz1, hz2⟩ := info_parts infoC
      refine wp_app _ (.tmp 36) (.tmp 51) 25 rfl w.heap.size 22 ti0 _ 1 16 Try.underlying25 hi9 hz0 hz1 hz2 rfl (by decide) _ j _ rfl hown _ 1 1 [.complex .f64 (F (lowI z1 100)) (F (lowI z2 100))] rfl (Rd.one (B3.cell_ 0)) (by intro u hu; simp at hu; subst hu; rfl) (by have := HI.out; unfold maxLen; omega) (by have := HI.out; omega) hB.size ?_
      intro v2 wX hoX hgX hvX
      clear hi9 hz0 hz1 hz2
      have hbX := below_app (Nat.le_refl _) hB.size hown hgX
      have c1 := (hbX.cell (p := ⟨g, off + i, none⟩) hg).trans c1
      have c2 := (hbX.cell (p := ⟨g, off + (i + 1), none⟩) hg).trans c2
      replace hB := hB.trans hbX
      rw [HPT.out] at hoX
      refine hK.out _ _ ?_ (fun hNew => ?_)
      · (first | exact ⟨c1, c2⟩ | assumption)
      clear hK K hHeld
      have hHeld := hNew
      clear hNew
      try simp only [Act.put, List.setIfInBounds_toArray, List.set_cons_zero, List.set_cons_succ]
      refine wpAnyH_take (i := 17) (oi := { dst := some 7, op := Op.assign (Operand.tmp 52), type := 25, pos := "more.go:17", after := #[{ on := 16, ground := Ground.data }, { on := 16, ground := Ground.chain }, { on := 0, ground := Ground.phase }, { on := 1, ground := Ground.phase }, { on := 2, ground := Ground.phase }, { on := 3, ground := Ground.phase }, { on := 4, ground := Ground.phase }, { on := 5, ground := Ground.phase }, { on := 6, ground := Ground.phase }, { on := 7, ground := Ground.phase }, { on := 8, ground := Ground.phase }, { on := 9, ground := Ground.phase }, { on := 10, ground := Ground.phase }, { on := 11, ground := Ground.phase }, { on := 12, ground := Ground.phase }, { on := 13, ground := Ground.phase }, { on := 14, ground := Ground.phase }, { on := 15, ground := Ground.phase }, { on := 16, ground := Ground.phase }], guard := none }) (v := ?_) rfl (by kernel_rfl) (by kernel_rfl) (by kernel_rfl) (fun _ _ _ h => h) (Or.inl ⟨by rfl, ?_⟩) (by assumption) ?_
      rotate_left
      · (intro wS hSw; (try dsimp only at hSw); go_simp; (try with_reducible rfl))
      try simp only [Act.put, List.setIfInBounds_toArray, List.set_cons_zero, List.set_cons_succ]
      refine wpAnyH_done (by kernel_rfl) ?_ _
      refine NoPanic.normal ?_
      clear hown
      go_wp2_with fail
      go_roundw
      case rel => exact ⟨i + 2, j + 1, v2, Lib.hid (by have := HI.out; omega), by omega, rfl, by go_num, (by first | exact hoX | exact own_below hoX ((Below.refl _ _).drew)), (by first | exact hB | exact hB.drew)⟩
      case measure => simp [intOf]; omega
    · have i1 : ¬ (i : Int) + 1 < (n : Int) := by omega
      have hj10 : 1 ≤ j ∧ j ≤ 10 := by have := HI.out; omega
      obtain ⟨g7, c7, rfl, P7, hg7, hc7, hm7⟩ := own_rowC hown (by omega)
      clear hown
      have hwd : 1 ≤ (N : Int) ∧ (N : Int) ≤ 9 := by omega
      have hwd2 : 1 ≤ (N : Int) + 1 ∧ (N : Int) + 1 ≤ 9 := by omega
      have ew2 : IntKind.i64.wrap ((N : Int) + 1) = (N : Int) + 1 := wrapS _ (by omega) (by omega)
      have hlen := ptW_len zs j
      have HLN : Hid ((ptW zs j).length = j) := Lib.hid hlen
      have HOK := Lib.hid (ptW_ok zs j)
      have HOK2 := Lib.hid (ptW_ok2 zs j)
      have HFR : Hid (∀ q, q + 1 < j → wayN (((ptW zs j).map (subP (20, 0))).getD q (0, 0)) (((ptW zs j).map (subP (20, 0))).getD (q + 1) (0, 0)) ≤ 1000) := Lib.hid (fun q hq => ptW_far zs j q hq)
      have HM20 : Hid (mayZ 20 = true ∧ mayZ 0 = true) := Lib.hid ⟨by decide, by decide⟩
      have HK20 : Hid (F 20 = 4626322717216342016) := Lib.hid k_20
      obtain ⟨ps, hps⟩ : ∃ ps, ptW zs j = ps := ⟨_, rfl⟩
      rw [hps] at P7 HLN HOK HOK2 HFR hlen
      obtain ⟨ds, hds⟩ : ∃ ds, ps.map (subP (20, 0)) = ds := ⟨_, rfl⟩
      rw [hds] at HOK2 HFR
      have HDS := Lib.hid hds
      obtain ⟨fA, hfA⟩ : ∃ f, picF 64 (N : Int) (lineD ds (j - 1)) = f := ⟨_, rfl⟩
      obtain ⟨fB, hfB⟩ : ∃ f, picF 64 ((N : Int) + 1) (lineD ds (j - 1)) = f := ⟨_, rfl⟩
      have HFA := Lib.hid hfA
      have HFB := Lib.hid hfB
      have hAB : ∀ y, fA y ||| fB y = fB y := fun y => by rw [← hfA, ← hfB]; exact pic_wide 64 (N : Int) (by omega) _ y
      have HAB := Lib.hid hAB
      have HLA : Hid (∀ y, fA y < 18446744073709551616) := Lib.hid (fun y => by rw [← hfA]; exact pic_lt _ _ _ (by decide) y)
      have HLB : Hid (∀ y, fB y < 18446744073709551616) := Lib.hid (fun y => by rw [← hfB]; exact pic_lt _ _ _ (by decide) y)
      obtain ⟨cA, hcA⟩ : ∃ c, sumN (fun y => popN (fA y)) 50 = c := ⟨_, rfl⟩
      obtain ⟨cB, hcB⟩ : ∃ c, sumN (fun y => popN (fB y)) 50 = c := ⟨_, rfl⟩
      have hle : cA ≤ cB := by rw [← hcA, ← hcB]; exact sumN_le _ _ _ (fun y _ => pop_mono _ _ (hAB y))
      have HCA := Lib.hid hcA
      have HCB := Lib.hid hcB
      have cn : ¬ (cB : Int) < (cA : Int) := by omega
      clear hfA hfB hlen hps hds hAB hcA hcB hle
      go_wp2_with (first
        | (go_at_call 11; ((with_reducible refine (draw_h (N : Int) 20 0 4626322717216342016 0 64 50 50 g7 j c7 ps ds fA _ HK20 (Lib.hid rfl) (Lib.hid rfl) (by decide) hwd HLN (by omega) P7 HOK HM20 HDS HOK2 (by decide) HFR HFA).mono ?_); rintro e' wN ⟨⟨gA, rfl, RA, hgA⟩, hb⟩; replace P7 := P7.below hb; replace hB := btr hB hB.size hb))
        | (go_at_call 11; ((with_reducible refine (draw_h ((N : Int) + 1) 20 0 4626322717216342016 0 64 50 50 g7 j c7 ps ds fB _ HK20 (Lib.hid rfl) (Lib.hid rfl) (by decide) hwd2 HLN (by omega) P7 HOK HM20 HDS HOK2 (by decide) HFR HFB).mono ?_); rintro e' wN ⟨⟨gB, rfl, RB, hgB⟩, hb⟩; replace P7 := P7.below hb; replace hB := btr hB hB.size hb; replace RA := RA.below hb))
        | (go_at_call 13; ((with_reducible refine (count_any fA 50 gA cA _ (by omega) RA HLA HCA).mono ?_); rintro e' wN ⟨rfl, rfl⟩; skip))
        | (go_at_call 13; ((with_reducible refine (count_any fB 50 gB cB _ (by omega) RB HLB HCB).mono ?_); rintro e' wN ⟨rfl, rfl⟩; skip)))
      obtain ⟨wb, hwb⟩ : ∃ V : World, V = wN := ⟨_, rfl⟩
      rw [← hwb] at hB RA RB ⊢
      clear hwb hb P7
      have HBB := Lib.hid hB
      have HRA := Lib.hid RA
      have HRB := Lib.hid RB
      clear hB RA RB
      go_loopw [13] (fun s13 wr => ∃ y : Nat, y ≤ 50 ∧ s13 = .int .i64 (y : Int) ∧ Below wb.heap.size wb wr) (fun s13 _ => 50 - (intOf s13).toNat)
      case atStart => exact ⟨0, by omega, rfl, (by first | exact Below.refl _ _ | exact (Below.refl _ _).drew)⟩
      case round =>
        obtain ⟨y, hy, rfl, hB⟩ := hrel
        by_cases hlt : y < 50
        · have cx : wr.cell? ⟨gA, y, none⟩ = some (.int .u64 ((fA y : Nat) : Int)) := (HRA.out.below hB).cell_ (rowsV_at fA 50 y hlt)
          have cy : wr.cell? ⟨gB, y, none⟩ = some (.int .u64 ((fB y : Nat) : Int)) := (HRB.out.below hB).cell_ (rowsV_at fB 50 y hlt)
          have y0 : (0 : Int) ≤ (y : Int) := by omega
          have y1 : (y : Int) < 50 := by omega
          have eo : bits .or .u64 ((fA y : Nat) : Int) ((fB y : Nat) : Int) = ((fB y : Nat) : Int) := by rw [u64_or_nat _ _ (HLA.out y) (HLB.out y), HAB.out y]
          go_upto_region 16 with fail
          refine wp_region_noPanic ?_
          refine wp_region_held_drew (S := (fun w' => w'.cell? ⟨gA, y, none⟩ = some (.int .u64 ((fA y : Nat) : Int)) ∧ w'.cell? ⟨gB, y, none⟩ = some (.int .u64 ((fB y : Nat) : Int)))) (by kernel_rfl) ?_ (fun hHeld => ?_)
          · (first | exact ⟨cx, cy⟩ | assumption)
          refine wpAnyH_take (i := 0) (oi := { dst := some 97, op := Op.move (Operand.tmp 9), type := 34, pos := "more.go:25", after := #[], guard := none }) (v := ?_) rfl (by kernel_rfl) (by kernel_rfl) (by kernel_rfl) (fun _ _ _ h => h) (Or.inl ⟨by rfl, ?_⟩) (by assumption) ?_
          rotate_left
          · (intro wS hSw; (try dsimp only at hSw); go_simp; (try with_reducible rfl))
          try simp only [Act.put, List.setIfInBounds_toArray, List.set_cons_zero, List.set_cons_succ]
          refine wpAnyH_take (i := 1) (oi := { dst := some 98, op := Op.move (Operand.tmp 13), type := 3, pos := "more.go:25", after := #[], guard := none }) (v := ?_) rfl (by kernel_rfl) (by kernel_rfl) (by kernel_rfl) (fun _ _ _ h => h) (Or.inl ⟨by rfl, ?_⟩) (by assumption) ?_
          rotate_left
          · (intro wS hSw; (try dsimp only at hSw); go_simp; (try with_reducible rfl))
          try simp only [Act.put, List.setIfInBounds_toArray, List.set_cons_zero, List.set_cons_succ]
          refine wpAnyH_take (i := 2) (oi := { dst := some 99, op := Op.indexAddr 34 (Operand.tmp 97) (Operand.tmp 98), type := 0, pos := "more.go:25", after := #[{ on := 0, ground := Ground.data }, { on := 1, ground := Ground.data }], guard := none }) (v := ?_) rfl (by kernel_rfl) (by kernel_rfl) (by kernel_rfl) (fun _ _ _ h => h) (Or.inl ⟨by rfl, ?_⟩) (by assumption) ?_
          rotate_left
          · (intro wS hSw; (try dsimp only at hSw); go_simp; (try with_reducible rfl))
          try simp only [Act.put, List.setIfInBounds_toArray, List.set_cons_zero, List.set_cons_succ]
          refine wpAnyH_take (i := 3) (oi := { dst := some 100, op := Op.load 43 (Operand.tmp 99), type := 43, pos := "more.go:25", after := #[{ on := 2, ground := Ground.data }], guard := none }) (v := ?_) rfl (by kernel_rfl) (by kernel_rfl) (by kernel_rfl) (fun _ _ _ h => h) (Or.inl ⟨by rfl, ?_⟩) (by assumption) ?_
          rotate_left
          · (intro wS hSw; (try dsimp only at hSw); go_simp; (try with_reducible rfl))
          try simp only [Act.put, List.setIfInBounds_toArray, List.set_cons_zero, List.set_cons_succ]
          refine wpAnyH_take (i := 4) (oi := { dst := some 101, op := Op.move (Operand.tmp 11), type := 34, pos := "more.go:25", after := #[], guard := none }) (v := ?_) rfl (by kernel_rfl) (by kernel_rfl) (by kernel_rfl) (fun _ _ _ h => h) (Or.inl ⟨by rfl, ?_⟩) (by assumption) ?_
          rotate_left
          · (intro wS hSw; (try dsimp only at hSw); go_simp; (try with_reducible rfl))
          try simp only [Act.put, List.setIfInBounds_toArray, List.set_cons_zero, List.set_cons_succ]
          refine wpAnyH_take (i := 5) (oi := { dst := some 102, op := Op.move (Operand.tmp 13), type := 3, pos := "more.go:25", after := #[], guard := none }) (v := ?_) rfl (by kernel_rfl) (by kernel_rfl) (by kernel_rfl) (fun _ _ _ h => h) (Or.inl ⟨by rfl, ?_⟩) (by assumption) ?_
          rotate_left
          · (intro wS hSw; (try dsimp only at hSw); go_simp; (try with_reducible rfl))
          try simp only [Act.put, List.setIfInBounds_toArray, List.set_cons_zero, List.set_cons_succ]
          refine wpAnyH_take (i := 6) (oi := { dst := some 103, op := Op.indexAddr 34 (Operand.tmp 101) (Operand.tmp 102), type := 0, pos := "more.go:25", after := #[{ on := 4, ground := Ground.data }, { on := 5, ground := Ground.data }], guard := none }) (v := ?_) rfl (by kernel_rfl) (by kernel_rfl) (by kernel_rfl) (fun _ _ _ h => h) (Or.inl ⟨by rfl, ?_⟩) (by assumption) ?_
          rotate_left
          · (intro wS hSw; (try dsimp only at hSw); go_simp; (try with_reducible rfl))
          try simp only [Act.put, List.setIfInBounds_toArray, List.set_cons_zero, List.set_cons_succ]
          refine wpAnyH_take (i := 7) (oi := { dst := some 104, op := Op.load 43 (Operand.tmp 103), type := 43, pos := "more.go:25", after := #[{ on := 6, ground := Ground.data }], guard := none }) (v := ?_) rfl (by kernel_rfl) (by kernel_rfl) (by kernel_rfl) (fun _ _ _ h => h) (Or.inl ⟨by rfl, ?_⟩) (by assumption) ?_
          rotate_left
          · (intro wS hSw; (try dsimp only at hSw); go_simp; (try with_reducible rfl))
          try simp only [Act.put, List.setIfInBounds_toArray, List.set_cons_zero, List.set_cons_succ]
          refine wpAnyH_take (i := 8) (oi := { dst := some 105, op := Op.binOp BinOp.or 43 (Operand.tmp 100) (Operand.tmp 104) 43, type := 43, pos := "more.go:25", after := #[{ on := 3, ground := Ground.data }, { on := 7, ground := Ground.data }], guard := none }) (v := ?_) rfl (by kernel_rfl) (by kernel_rfl) (by kernel_rfl) (fun _ _ _ h => h) (Or.inl ⟨by rfl, ?_⟩) (by assumption) ?_
          rotate_left
          · (intro wS hSw; (try dsimp only at hSw); go_simp; (try with_reducible rfl))
          try simp only [Act.put, List.setIfInBounds_toArray, List.set_cons_zero, List.set_cons_succ]
          refine wpAnyH_take (i := 9) (oi := { dst := some 106, op := Op.move (Operand.tmp 11), type := 34, pos := "more.go:25", after := #[], guard := none }) (v := ?_) rfl (by kernel_rfl) (by kernel_rfl) (by kernel_rfl) (fun _ _ _ h => h) (Or.inl ⟨by rfl, ?_⟩) (by assumption) ?_
          rotate_left
          · (intro wS hSw; (try dsimp only at hSw); go_simp; (try with_reducible rfl))
          try simp only [Act.put, List.setIfInBounds_toArray, List.set_cons_zero, List.set_cons_succ]
          refine wpAnyH_take (i := 10) (oi := { dst := some 107, op := Op.move (Operand.tmp 13), type := 3, pos := "more.go:25", after := #[], guard := none }) (v := ?_) rfl (by kernel_rfl) (by kernel_rfl) (by kernel_rfl) (fun _ _ _ h => h) (Or.inl ⟨by rfl, ?_⟩) (by assumption) ?_
          rotate_left
          · (intro wS hSw; (try dsimp only at hSw); go_simp; (try with_reducible rfl))
          try simp only [Act.put, List.setIfInBounds_toArray, List.set_cons_zero, List.set_cons_succ]
          refine wpAnyH_take (i := 11) (oi := { dst := some 108, op := Op.indexAddr 34 (Operand.tmp 106) (Operand.tmp 107), type := 0, pos := "more.go:25", after := #[{ on := 9, ground := Ground.data }, { on := 10, ground := Ground.data }], guard := none }) (v := ?_) rfl (by kernel_rfl) (by kernel_rfl) (by kernel_rfl) (fun _ _ _ h => h) (Or.inl ⟨by rfl, ?_⟩) (by assumption) ?_
          rotate_left
          · (intro wS hSw; (try dsimp only at hSw); go_simp; (try with_reducible rfl))
          try simp only [Act.put, List.setIfInBounds_toArray, List.set_cons_zero, List.set_cons_succ]
          refine wpAnyH_take (i := 12) (oi := { dst := some 109, op := Op.load 43 (Operand.tmp 108), type := 43, pos := "more.go:25", after := #[{ on := 11, ground := Ground.data }], guard := none }) (v := ?_) rfl (by kernel_rfl) (by kernel_rfl) (by kernel_rfl) (fun _ _ _ h => h) (Or.inl ⟨by rfl, ?_⟩) (by assumption) ?_
          rotate_left
          · (intro wS hSw; (try dsimp only at hSw); go_simp; (try with_reducible rfl))
          try simp only [Act.put, List.setIfInBounds_toArray, List.set_cons_zero, List.set_cons_succ]
          refine wpAnyH_take (i := 13) (oi := { dst := some 110, op := Op.binOp BinOp.neq 43 (Operand.tmp 105) (Operand.tmp 109) 43, type := 4, pos := "more.go:25", after := #[{ on := 8, ground := Ground.data }, { on := 12, ground := Ground.data }], guard := none }) (v := ?_) rfl (by kernel_rfl) (by kernel_rfl) (by kernel_rfl) (fun _ _ _ h => h) (Or.inl ⟨by rfl, ?_⟩) (by assumption) ?_
          rotate_left
          · (intro wS hSw; (try dsimp only at hSw); go_simp; (try with_reducible rfl))
          try simp only [Act.put, List.setIfInBounds_toArray, List.set_cons_zero, List.set_cons_succ]
          refine wpAnyH_done (by kernel_rfl) ?_ _
          refine NoPanic.normal ?_
          go_wp2_with fail
          go_roundw
          case rel => exact ⟨y + 1, by omega, by go_num, (by first | exact hB | exact hB.drew)⟩
          case measure => simp [intOf]; omega
        · obtain rfl : y = 50 := by omega
          have lm := lowI_bd zb 40 (by omega)
          obtain ⟨x, hx⟩ : ∃ x, 10 + lowI zb 40 = x := ⟨_, rfl⟩
          obtain ⟨m, hm⟩ : ∃ m, lowI zb 40 = m := ⟨_, rfl⟩
          rw [hm] at hx lm
          have HM := Lib.hid hm
          have bx : 10 ≤ x ∧ x < 50 := by omega
          have fx := ofInt_c x (by unfold Sm; omega)
          have ex : IntKind.i64.wrap (10 + m) = x := by rw [hx]; exact wrapS _ (by omega) (by omega)
          obtain ⟨fP, hfP⟩ : ∃ f, picF 64 (N : Int) (lineD [(x, 30)] 0) = f := ⟨_, rfl⟩
          have HFP := Lib.hid hfP
          have HLP : Hid (∀ y, fP y < 18446744073709551616) := Lib.hid (fun y => by rw [← hfP]; exact pic_lt _ _ _ (by decide) y)
          obtain ⟨NN, hNN⟩ : ∃ q, N * N = q := ⟨_, rfl⟩
          have HCP : Hid (sumN (fun y => popN (fP y)) 64 = NN) := Lib.hid (by rw [← hfP, ← hNN]; exact point_pic N x hN8 bx)
          have hNb : NN ≤ 64 := by rw [← hNN]; exact Nat.mul_le_mul hN8.2 hN8.2
          have em : IntKind.i64.wrap ((N : Int) * (N : Int)) = (NN : Int) := by
            have : (N : Int) * (N : Int) = (NN : Int) := by rw [← hNN]; exact (Int.natCast_mul N N).symm
            rw [this]
            exact wrapS _ (by omega) (by omega)
          clear hfP hm hx hNN lm
          go_wp2_with (first
            | (go_at_call 6; refine (low_any zb 40 _ (by omega) (by omega)).mono ?_; rw [HM.out]; rintro e' wN ⟨rfl, rfl⟩)
            | (go_at_call 11; ((with_reducible refine (draw_p N x fP _ hN8 bx HFP).mono ?_); rintro e' wN ⟨⟨gP, rfl, RP⟩, hb⟩; replace hB := btr hB hB.size hb))
            | (go_at_call 13; ((with_reducible refine (count_any fP 64 gP NN _ (by omega) RP HLP HCP).mono ?_); rintro e' wN ⟨rfl, rfl⟩; skip))
            | (go_at_call 9; ((with_reducible refine (awake_any _).mono ?_); rintro e' wN ⟨rfl, hb⟩; replace hB := btr hB hB.size hb)))
          go_ret
          exact ⟨rfl, HBB.out.trans (hB.mono HBB.out.size)⟩
end Go.Proofs.Ytnbiioighjdkjaa
