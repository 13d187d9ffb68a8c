/- Turn. -/
import Derived.Test.YtnbiioighjdkjaaDoorRaU
namespace Go.Proofs.YtnbiioighjdkjaaDoor
open Go.ChangeShapes Go.WideShapes Go.ChangeAt Go.RowKit
set_option linter.unusedSimpArgs false
set_option linter.unusedVariables false

def midF (f : Nat → Nat) (H y x : Nat) : Nat → Nat := fun k => if k < x then turnA f H (y + 1) k else turnA f H y k
theorem turnA_lt (f : Nat → Nat) (H y x : Nat) (hy : y ≤ H) (hH : H ≤ 64) : turnA f H y x < 18446744073709551616 := by
  have : turnA f H y x < 2 ^ 64 := by
    apply Nat.lt_pow_two_of_testBit
    intro i hi
    rw [turnA_bit f H y hy, decide_eq_false (by omega), Bool.false_and]
  exact this
set_option maxRecDepth 100000 in
set_option maxHeartbeats 4000000 in
theorem turn_any (gr H c : Nat) (f : Nat → Nat) (WN : Nat) (w : World) (hR : RowT w gr 29 (rowsV f H)) (hH : H ≤ 64) (hW : 1 ≤ WN ∧ WN ≤ 64) (hf : Hid (∀ y, f y < 18446744073709551616)) : Calls Tryd.prog 6 #[.slice (some ⟨gr, 0, none⟩) H c, .int .i64 (WN : Int)] w fun e' w' => (∃ g, e' = .returned (.slice (some ⟨g, 0, none⟩) WN WN) ∧ RowT w' g 29 (rowsV (turnF f H) WN) ∧ w.heap.size ≤ g) ∧ Below w.heap.size w w' := by
  obtain ⟨ti1, hi1, hy0, hy1, hy2⟩ := info_parts infoU64
  have HR := Lib.hid hR
  have hgr := hR.lt
  have HWI : Hid ((decide (1 ≤ (WN : Int)) && decide ((WN : Int) ≤ 64)) = true) := Lib.hid (by rw [decide_eq_true (by omega), decide_eq_true (by omega)]; rfl)
  have gH : ¬ (64 : Int) < (H : Int) := by omega
  have gW : (0 : Int) ≤ (WN : Int) := by omega
  clear hR
  go_enter Tryd.func6, Tryd.ntmps6
  go_wp2_with (first
    | (go_at_call 18; ((with_reducible refine (within_b (WN : Int) 64 true _ HWI).mono ?_); rintro e' wN ⟨rfl, rfl⟩; skip))
    | (at_make; refine wpList_make_full _ rfl _ _ 22 rfl w.heap.size 29 ti1 (.int .u64 0) 1 Tryd.underlying22 hi1 hy0 hy1 _ _ _ _ WN rfl rfl rfl rfl (by rw [hy2]; omega) (by unfold maxLen; omega) (Nat.le_refl _) ?_; intro w1 hown1 hgrow1))
  have hBm : Below w.heap.size w w1 := (Below.refl _ _).grown hgrow1 (Nat.le_refl _) (fun j hj => by cases hj)
  rw [toList_of_made] at hown1
  have hT1 : RowT w1 w.heap.size 29 (rowsV (turnA f H 0) WN) := own_rowS hown1
  clear hown1 hgrow1
  go_loopw [21] (fun s21 wr => ∃ (y : Nat), y ≤ H ∧ s21 = .int .i64 (y : Int) ∧ RowT wr w.heap.size 29 (rowsV (turnA f H y) WN) ∧ Below w.heap.size w wr) (fun s21 _ => H - (intOf s21).toNat)
  case atStart => exact ⟨0, by omega, rfl, hT1, hBm⟩
  case round =>
    clear hT1 hBm
    obtain ⟨y, hy, rfl, hT, hB⟩ := hrel
    by_cases hlt : y < H
    · have c0 : wr.cell? ⟨gr, y, none⟩ = some (.int .u64 ((f y : Nat) : Int)) := (hB.cell (p := ⟨gr, y, none⟩) hgr).trans (HR.out.cell_ (rowsV_at f H y hlt))
      have y0 : (0 : Int) ≤ (y : Int) := by omega
      have y1 : (y : Int) < (H : Int) := by omega
      have HT := Lib.hid hT
      clear hT
      go_wp2
      have hT : RowT wr w.heap.size 29 (rowsV (midF f H y 0) WN) := by
        have e : rowsV (midF f H y 0) WN = rowsV (turnA f H y) WN := rowsV_eq (fun k _ => by unfold midF; rw [if_neg (by omega)])
        rw [e]
        exact HT.out
      go_loopw [28] (fun s28 wq => ∃ (x : Nat), x ≤ WN ∧ s28 = .int .i64 (x : Int) ∧ RowT wq w.heap.size 29 (rowsV (midF f H y x) WN) ∧ Below w.heap.size w wq) (fun s28 _ => WN - (intOf s28).toNat)
      case atStart => exact ⟨0, by omega, rfl, (by first | exact hT | exact RowT.like_ hT), (by first | exact hB | exact hB.drew)⟩
      case round =>
        clear hT hB c0
        obtain ⟨x, hx, rfl, hT, hB⟩ := hrel
        by_cases hlx : x < WN
        · obtain ⟨zv, hzv⟩ : ∃ z, turnA f H y x = z := ⟨_, rfl⟩
          have d0 : wr.cell? ⟨w.heap.size, x, none⟩ = some (.int .u64 ((zv : Nat) : Int)) := hT.cell_ (by rw [rowsV_at _ _ _ hlx]; unfold midF; rw [if_neg (by omega), hzv])
          have f0 := hT.free x
          have x0 : (0 : Int) ≤ (x : Int) := by omega
          have x1 : (x : Int) < (WN : Int) := by omega
          have x64 : x < 64 := by omega
          obtain ⟨q, hq⟩ : ∃ q, f y >>> x &&& 1 = q := ⟨_, rfl⟩
          obtain ⟨s, hs⟩ : ∃ s, H - 1 - y = s := ⟨_, rfl⟩
          obtain ⟨nv, hnv⟩ : ∃ v, zv ||| (q <<< s) = v := ⟨_, rfl⟩
          have hzl : zv < 18446744073709551616 := by rw [← hzv]; exact turnA_lt f H y x hy hH
          have hq1 : q ≤ 1 := by rw [← hq]; exact Nat.and_le_right
          have ew : IntKind.i64.wrap ((H : Int) - 1) = (H : Int) - 1 := wrapS _ (by omega) (by omega)
          have ew2 : IntKind.i64.wrap ((H : Int) - 1 - (y : Int)) = (s : Int) := by rw [show (H : Int) - 1 - (y : Int) = (s : Int) by omega]; exact wrapS _ (by omega) (by omega)
          have hs63 : s ≤ 63 := by omega
          have HV : Hid (bits .or .u64 (zv : Int) (IntKind.u64.wrap (bits .and .u64 (((f y : Nat) : Int) / 2 ^ x) 1 * 2 ^ s)) = (nv : Int)) := Lib.hid (by
            have a1 : ((f y : Nat) : Int) / 2 ^ x = ((f y >>> x : Nat) : Int) := by rw [Nat.shiftRight_eq_div_pow]; push_cast; rfl
            have a2 : f y >>> x < 18446744073709551616 := by rw [Nat.shiftRight_eq_div_pow]; exact Nat.lt_of_le_of_lt (Nat.div_le_self _ _) (hf.out y)
            have a3 : bits .and .u64 ((f y >>> x : Nat) : Int) 1 = (q : Int) := by rw [← hq]; exact u64_and_nat (f y >>> x) 1 a2 (by decide)
            have a4 : (q : Int) * 2 ^ s = ((q <<< s : Nat) : Int) := by rw [Nat.shiftLeft_eq]; push_cast; rfl
            have a5 : q <<< s < 18446744073709551616 := by
              rw [Nat.shiftLeft_eq]
              exact Nat.lt_of_le_of_lt (Nat.mul_le_mul hq1 (Nat.pow_le_pow_right (by decide) hs63)) (by decide)
            rw [a1, a3, a4, wrap_u64 _ a5, u64_or_nat _ _ hzl a5, hnv])
          have HT2 := Lib.hid hT
          have HZ := Lib.hid (And.intro hzv (And.intro hq (And.intro hs hnv)))
          clear hT hzv hq hs hnv
          go_upto_region 10 with fail
          refine wp_region_noPanic ?_
          refine wp_region_held_drew (S := (fun _ => True)) (by kernel_rfl) ?_ (fun hHeld => ?_)
          · exact trivial
          refine wpAnyH_take (i := 0) (oi := { dst := some 31, op := Op.move (Operand.tmp 5), type := 22, pos := "raster.go:134", after := #[], guard := none }) (v := ?_) rfl (by kernel_rfl) (by kernel_rfl) (by kernel_rfl) (fun _ _ _ h => h) (Or.inl ⟨by rfl, ?_⟩) (by assumption) ?_
          rotate_left
          · (intro wS hSw; (try dsimp only at hSw); go_simp; (try with_reducible rfl))
          try simp only [Act.put, List.setIfInBounds_toArray, List.set_cons_zero, List.set_cons_succ]
          refine wpAnyH_take (i := 1) (oi := { dst := some 32, op := Op.move (Operand.tmp 8), type := 3, pos := "raster.go:134", after := #[], guard := none }) (v := ?_) rfl (by kernel_rfl) (by kernel_rfl) (by kernel_rfl) (fun _ _ _ h => h) (Or.inl ⟨by rfl, ?_⟩) (by assumption) ?_
          rotate_left
          · (intro wS hSw; (try dsimp only at hSw); go_simp; (try with_reducible rfl))
          try simp only [Act.put, List.setIfInBounds_toArray, List.set_cons_zero, List.set_cons_succ]
          refine wpAnyH_take (i := 2) (oi := { dst := some 33, op := Op.indexAddr 22 (Operand.tmp 31) (Operand.tmp 32), type := 0, pos := "raster.go:134", after := #[{ on := 0, ground := Ground.data }, { on := 1, ground := Ground.data }], guard := none }) (v := ?_) rfl (by kernel_rfl) (by kernel_rfl) (by kernel_rfl) (fun _ _ _ h => h) (Or.inl ⟨by rfl, ?_⟩) (by assumption) ?_
          rotate_left
          · (intro wS hSw; (try dsimp only at hSw); go_simp; (try with_reducible rfl))
          try simp only [Act.put, List.setIfInBounds_toArray, List.set_cons_zero, List.set_cons_succ]
          refine wpAnyH_take (i := 4) (oi := { dst := some 35, op := Op.move (Operand.tmp 7), type := 29, pos := "raster.go:134", after := #[], guard := none }) (v := ?_) rfl (by kernel_rfl) (by kernel_rfl) (by kernel_rfl) (fun _ _ _ h => h) (Or.inl ⟨by rfl, ?_⟩) (by assumption) ?_
          rotate_left
          · (intro wS hSw; (try dsimp only at hSw); go_simp; (try with_reducible rfl))
          try simp only [Act.put, List.setIfInBounds_toArray, List.set_cons_zero, List.set_cons_succ]
          refine wpAnyH_take (i := 5) (oi := { dst := some 36, op := Op.move (Operand.tmp 8), type := 3, pos := "raster.go:134", after := #[], guard := none }) (v := ?_) rfl (by kernel_rfl) (by kernel_rfl) (by kernel_rfl) (fun _ _ _ h => h) (Or.inl ⟨by rfl, ?_⟩) (by assumption) ?_
          rotate_left
          · (intro wS hSw; (try dsimp only at hSw); go_simp; (try with_reducible rfl))
          try simp only [Act.put, List.setIfInBounds_toArray, List.set_cons_zero, List.set_cons_succ]
          refine wpAnyH_take (i := 6) (oi := { dst := some 37, op := Op.binOp BinOp.shr 29 (Operand.tmp 35) (Operand.tmp 36) 3, type := 29, pos := "raster.go:134", after := #[{ on := 4, ground := Ground.data }, { on := 5, ground := Ground.data }], guard := none }) (v := ?_) rfl (by kernel_rfl) (by kernel_rfl) (by kernel_rfl) (fun _ _ _ h => h) (Or.inl ⟨by rfl, ?_⟩) (by assumption) ?_
          rotate_left
          · (intro wS hSw; (try dsimp only at hSw); go_simp; (try with_reducible rfl))
          try simp only [Act.put, List.setIfInBounds_toArray, List.set_cons_zero, List.set_cons_succ]
          refine wpAnyH_take (i := 7) (oi := { dst := some 38, op := Op.binOp BinOp.and 29 (Operand.tmp 37) (Operand.const (Value.int IntKind.u64 1)) 29, type := 29, pos := "raster.go:134", after := #[{ on := 6, ground := Ground.data }], guard := none }) (v := ?_) rfl (by kernel_rfl) (by kernel_rfl) (by kernel_rfl) (fun _ _ _ h => h) (Or.inl ⟨by rfl, ?_⟩) (by assumption) ?_
          rotate_left
          · (intro wS hSw; (try dsimp only at hSw); go_simp; (try with_reducible rfl))
          try simp only [Act.put, List.setIfInBounds_toArray, List.set_cons_zero, List.set_cons_succ]
          refine wpAnyH_take (i := 8) (oi := { dst := some 39, op := Op.move (Operand.tmp 0), type := 22, pos := "raster.go:134", after := #[], guard := none }) (v := ?_) rfl (by kernel_rfl) (by kernel_rfl) (by kernel_rfl) (fun _ _ _ h => h) (Or.inl ⟨by rfl, ?_⟩) (by assumption) ?_
          rotate_left
          · (intro wS hSw; (try dsimp only at hSw); go_simp; (try with_reducible rfl))
          try simp only [Act.put, List.setIfInBounds_toArray, List.set_cons_zero, List.set_cons_succ]
          refine wpAnyH_take (i := 9) (oi := { dst := some 40, op := Op.call { callee := Callee.builtin Builtin.len, args := #[Operand.tmp 39], argTypes := #[22] }, type := 3, pos := "raster.go:134", after := #[{ on := 8, ground := Ground.data }], guard := none }) (v := ?_) rfl (by kernel_rfl) (by kernel_rfl) (by kernel_rfl) (fun _ _ _ h => h) (Or.inl ⟨by rfl, ?_⟩) (by assumption) ?_
          rotate_left
          · (intro wS hSw; (try dsimp only at hSw); go_simp; (try with_reducible rfl))
          try simp only [Act.put, List.setIfInBounds_toArray, List.set_cons_zero, List.set_cons_succ]
          refine wpAnyH_take (i := 10) (oi := { dst := some 41, op := Op.binOp BinOp.sub 3 (Operand.tmp 40) (Operand.const (Value.int IntKind.i64 1)) 3, type := 3, pos := "raster.go:134", after := #[{ on := 9, ground := Ground.data }], guard := none }) (v := ?_) rfl (by kernel_rfl) (by kernel_rfl) (by kernel_rfl) (fun _ _ _ h => h) (Or.inl ⟨by rfl, ?_⟩) (by assumption) ?_
          rotate_left
          · (intro wS hSw; (try dsimp only at hSw); go_simp; (try with_reducible rfl))
          try simp only [Act.put, List.setIfInBounds_toArray, List.set_cons_zero, List.set_cons_succ]
          refine wpAnyH_take (i := 11) (oi := { dst := some 42, op := Op.move (Operand.tmp 6), type := 3, pos := "raster.go:134", after := #[], guard := none }) (v := ?_) rfl (by kernel_rfl) (by kernel_rfl) (by kernel_rfl) (fun _ _ _ h => h) (Or.inl ⟨by rfl, ?_⟩) (by assumption) ?_
          rotate_left
          · (intro wS hSw; (try dsimp only at hSw); go_simp; (try with_reducible rfl))
          try simp only [Act.put, List.setIfInBounds_toArray, List.set_cons_zero, List.set_cons_succ]
          refine wpAnyH_take (i := 12) (oi := { dst := some 43, op := Op.binOp BinOp.sub 3 (Operand.tmp 41) (Operand.tmp 42) 3, type := 3, pos := "raster.go:134", after := #[{ on := 10, ground := Ground.data }, { on := 11, ground := Ground.data }], guard := none }) (v := ?_) rfl (by kernel_rfl) (by kernel_rfl) (by kernel_rfl) (fun _ _ _ h => h) (Or.inl ⟨by rfl, ?_⟩) (by assumption) ?_
          rotate_left
          · (intro wS hSw; (try dsimp only at hSw); go_simp; (try with_reducible rfl))
          try simp only [Act.put, List.setIfInBounds_toArray, List.set_cons_zero, List.set_cons_succ]
          refine wpAnyH_take (i := 13) (oi := { dst := some 44, op := Op.binOp BinOp.shl 29 (Operand.tmp 38) (Operand.tmp 43) 3, type := 29, pos := "raster.go:134", after := #[{ on := 7, ground := Ground.data }, { on := 12, ground := Ground.data }], guard := none }) (v := ?_) rfl (by kernel_rfl) (by kernel_rfl) (by kernel_rfl) (fun _ _ _ h => h) (Or.inl ⟨by rfl, ?_⟩) (by assumption) ?_
          rotate_left
          · (intro wS hSw; (try dsimp only at hSw); go_simp; (try with_reducible rfl))
          try simp only [Act.put, List.setIfInBounds_toArray, List.set_cons_zero, List.set_cons_succ]
          refine wpAnyH_ready (rs := [3]) (by kernel_rfl) (by simp) ?_
          refine AllReadyH.cons (o := { dst := some 34, op := Op.load 29 (Operand.tmp 33), type := 29, pos := "raster.go:134", after := #[{ on := 2, ground := Ground.data }], guard := none }) rfl (fun K hK => ?_) AllReadyH.nil
          go_simp
          refine hK.out _ _ ?_ (fun hNew => ?_)
          · exact trivial
          clear hK K hHeld
          have hHeld := hNew
          clear hNew
          try simp only [Act.put, List.setIfInBounds_toArray, List.set_cons_zero, List.set_cons_succ]
          refine wpAnyH_take (i := 14) (oi := { dst := some 45, op := Op.binOp BinOp.or 29 (Operand.tmp 34) (Operand.tmp 44) 29, type := 29, pos := "raster.go:134", after := #[{ on := 3, ground := Ground.data }, { on := 13, ground := Ground.data }], guard := none }) (v := ?_) rfl (by kernel_rfl) (by kernel_rfl) (by kernel_rfl) (fun _ _ _ h => h) (Or.inl ⟨by rfl, ?_⟩) (by assumption) ?_
          rotate_left
          · (intro wS hSw; (try dsimp only at hSw); go_simp; (try with_reducible rfl))
          try simp only [Act.put, List.setIfInBounds_toArray, List.set_cons_zero, List.set_cons_succ]
          refine wpAnyH_take (i := 15) (oi := { dst := some 46, op := Op.indexAddr 22 (Operand.tmp 31) (Operand.tmp 32), type := 0, pos := "raster.go:134", after := #[{ on := 0, ground := Ground.data }, { on := 1, ground := Ground.data }, { on := 0, ground := Ground.phase }, { on := 1, ground := Ground.phase }, { on := 2, ground := Ground.phase }, { on := 3, ground := Ground.phase }, { on := 4, ground := Ground.phase }, { on := 5, ground := Ground.phase }, { on := 6, ground := Ground.phase }, { on := 7, ground := Ground.phase }, { on := 8, ground := Ground.phase }, { on := 9, ground := Ground.phase }, { on := 10, ground := Ground.phase }, { on := 11, ground := Ground.phase }, { on := 12, ground := Ground.phase }, { on := 13, ground := Ground.phase }, { on := 14, ground := Ground.phase }], guard := none }) (v := ?_) rfl (by kernel_rfl) (by kernel_rfl) (by kernel_rfl) (fun _ _ _ h => h) (Or.inl ⟨by rfl, ?_⟩) (by assumption) ?_
          rotate_left
          · (intro wS hSw; (try dsimp only at hSw); go_simp; (try with_reducible rfl))
          try simp only [Act.put, List.setIfInBounds_toArray, List.set_cons_zero, List.set_cons_succ]
          refine wpAnyH_ready (rs := [16]) (by kernel_rfl) (by simp) ?_
          refine AllReadyH.cons (o := { dst := none, op := Op.store 29 (Operand.tmp 46) (Operand.tmp 45), type := 0, pos := "raster.go:134", after := #[{ on := 15, ground := Ground.data }, { on := 14, ground := Ground.data }, { on := 0, ground := Ground.phase }, { on := 1, ground := Ground.phase }, { on := 2, ground := Ground.phase }, { on := 3, ground := Ground.phase }, { on := 4, ground := Ground.phase }, { on := 5, ground := Ground.phase }, { on := 6, ground := Ground.phase }, { on := 7, ground := Ground.phase }, { on := 8, ground := Ground.phase }, { on := 9, ground := Ground.phase }, { on := 10, ground := Ground.phase }, { on := 11, ground := Ground.phase }, { on := 12, ground := Ground.phase }, { on := 13, ground := Ground.phase }, { on := 14, ground := Ground.phase }], guard := none }) rfl (fun K hK => ?_) AllReadyH.nil
          go_simp
          refine hK.out _ _ ?_ (fun hNew => ?_)
          · exact trivial
          clear hK K hHeld
          have hHeld := hNew
          clear hNew
          try simp only [Act.put, List.setIfInBounds_toArray, List.set_cons_zero, List.set_cons_succ]
          refine wpAnyH_done (by kernel_rfl) ?_ _
          refine NoPanic.normal ?_
          go_wp2_with fail
          rw [HV.out]
          go_roundw
          case rel => exact ⟨x + 1, by omega, by go_num, (by
            have e : rowsV (midF f H y (x + 1)) WN = (rowsV (midF f H y x) WN).set x (.int .u64 ((nv : Nat) : Int)) := by
              rw [rowsV_set _ _ _ _ hlx]
              refine rowsV_eq (fun k _ => ?_)
              unfold midF
              by_cases hk : k = x
              · subst hk
                rw [if_pos rfl, if_pos (by omega)]
                show turnA f H y k ||| _ = nv
                rw [HZ.out.1, HZ.out.2.1, HZ.out.2.2.1, HZ.out.2.2.2]
              · rw [if_neg hk]
                by_cases hk2 : k < x
                · rw [if_pos hk2, if_pos (by omega)]
                · rw [if_neg hk2, if_neg (by omega)]
            rw [e]
            first | exact HT2.out.set_ (by rw [rowsV_len]; exact hlx) _ | exact RowT.like_ (HT2.out.set_ (by rw [rowsV_len]; exact hlx) _)), (by first | exact hB.setCell (Nat.le_refl _) _ | exact (hB.setCell (Nat.le_refl _) _).drew)⟩
          case measure => simp [intOf]; omega
        · obtain rfl : x = WN := by omega
          have HT2 := Lib.hid hT
          clear hT
          go_wp2
          go_roundw
          case rel => exact ⟨y + 1, by omega, by go_num, (by
            have e : rowsV (midF f H y x) x = rowsV (turnA f H (y + 1)) x := rowsV_eq (fun k hk => by unfold midF; rw [if_pos hk])
            rw [← e]
            exact HT2.out), hB⟩
          case measure => simp [intOf]; omega
    · obtain rfl : y = H := by omega
      have HT := Lib.hid hT
      clear hT
      go_wp2
      go_ret
      exact ⟨⟨_, rfl, HT.out, Nat.le_refl _⟩, hB⟩
end Go.Proofs.YtnbiioighjdkjaaDoor
