/- Chapter 25's own Count, Turn, Box. -/
import Derived.Test.YtnbiioighjdkjaaDoorRaZ
namespace Go.Proofs.YtnbiioighjdkjaaDoor
open Go.ChangeShapes Go.WideShapes Go.ChangeAt Go.RowKit
set_option linter.unusedSimpArgs false
set_option linter.unusedVariables false

theorem bitsN_next (v x : Nat) : bitsN v (x + 1) = bitsN v x + (v.testBit x).toNat := rfl
theorem bitsN_bd (v : Nat) : ∀ n, bitsN v n ≤ n
  | 0 => Nat.le_refl _
  | n + 1 => by
    have := bitsN_bd v n
    rw [bitsN_next]
    cases v.testBit n <;> simp <;> omega
set_option maxRecDepth 100000 in
set_option maxHeartbeats 4000000 in
theorem rcount_o (A : Option Addr) (H c : Nat) (f : Nat → Nat) (S : Nat) (w : World) (hH : H ≤ 80) (hR : RowO w A H f) (hf : Hid (∀ y, f y < 18446744073709551616)) (hS : Hid (sumN (fun y => bitsN (f y) 64) H = S)) : Calls Tryd.prog 12 #[.slice A H c] w fun e' w' => e' = .returned (.int .i64 (S : Int)) ∧ w = w' := by
  have HR := Lib.hid hR
  clear hR
  go_enter Tryd.func12, Tryd.ntmps12
  go_wp2
  go_loopw [3, 4] (fun s3 s4 wr => ∃ (y m : Nat), y ≤ H ∧ s4 = .int .i64 (y : Int) ∧ s3 = .int .i64 (m : Int) ∧ Hid (sumN (fun y => bitsN (f y) 64) y = m) ∧ wr = w) (fun _ s4 _ => H - (intOf s4).toNat)
  case atStart => exact ⟨0, 0, by omega, rfl, rfl, Lib.hid rfl, (by first | rfl | trivial)⟩
  case round =>
    obtain ⟨y, m0, hy, rfl, rfl, hm0, rfl⟩ := hrel
    by_cases hlt : y < H
    · have y0 : (0 : Int) ≤ (y : Int) := by omega
      have y1 : (y : Int) < (H : Int) := by omega
      have hb0 : m0 ≤ 5120 := by
        have := sumN_bd (fun y => bitsN (f y) 64) 64 y (fun y => bitsN_bd _ _)
        rw [hm0.out] at this
        omega
      go_wp2
      go_loopw [3, 5] (fun s3 s5 wq => ∃ (x m : Nat), x ≤ 64 ∧ s5 = .int .i64 (x : Int) ∧ s3 = .int .i64 (m : Int) ∧ Hid (m0 + bitsN (f y) x = m) ∧ wq = wr) (fun _ s5 _ => 64 - (intOf s5).toNat)
      case atStart => exact ⟨0, m0, by omega, rfl, rfl, Lib.hid rfl, (by first | rfl | trivial)⟩
      case round =>
        obtain ⟨x, m, hx, rfl, rfl, hm, rfl⟩ := hrel
        by_cases hlx : x < 64
        · have x0 : (0 : Int) ≤ (x : Int) := by omega
          have x1 : (x : Int) < 64 := by omega
          have hmb : m ≤ 5184 := by have := bitsN_bd (f y) x; have := hm.out; omega
          rcases (by cases hq : (f y).testBit x <;> simp : (f y).testBit x = true ∨ (f y).testBit x = false) with hbt | hbt
          · have HBT := Lib.hid hbt
            have HM : Hid (m0 + bitsN (f y) (x + 1) = m + 1) := Lib.hid (by rw [bitsN_next, hbt, ← hm.out]; rfl)
            clear hbt hm
            go_wp2_with (go_at_call 21; go_loud (((with_reducible refine (bit_o A H c x y f true _ HR.out (by omega) (by omega) hf HBT).mono ?_); rintro e' wN ⟨rfl, rfl⟩; skip)))
            go_roundw
            case rel => exact ⟨x + 1, m + 1, by omega, by go_num, (by first | rfl | go_num | simp), HM, (by first | rfl | trivial)⟩
            case measure => simp [intOf]; omega
          · have HBT := Lib.hid hbt
            have HM : Hid (m0 + bitsN (f y) (x + 1) = m) := Lib.hid (by rw [bitsN_next, hbt, ← hm.out]; rfl)
            clear hbt hm
            go_wp2_with (go_at_call 21; go_loud (((with_reducible refine (bit_o A H c x y f false _ HR.out (by omega) (by omega) hf HBT).mono ?_); rintro e' wN ⟨rfl, rfl⟩; skip)))
            go_roundw
            case rel => exact ⟨x + 1, m, by omega, by go_num, rfl, HM, (by first | rfl | trivial)⟩
            case measure => simp [intOf]; omega
        · obtain rfl : x = 64 := by omega
          have HM : Hid (sumN (fun y => bitsN (f y) 64) (y + 1) = m) := Lib.hid (by rw [← hm.out, ← hm0.out]; rfl)
          clear hm hm0
          go_wp2
          go_roundw
          case rel => exact ⟨y + 1, m, by omega, by go_num, rfl, HM, (by first | rfl | trivial)⟩
          case measure => simp [intOf]; omega
    · obtain rfl : y = H := by omega
      obtain rfl : m0 = S := by rw [← hm0.out, ← hS.out]
      go_wp2
      go_ret
      exact ⟨rfl, rfl⟩
def midR (f : Nat → Nat) (H x y : Nat) : Nat → Nat := fun k => if k < x then turnF f H k else if k = x then turnA f H y k else 0
theorem turnA_no {f : Nat → Nat} {H y x : Nat} (h : (f y).testBit x = false) : turnA f H (y + 1) x = turnA f H y x := by
  unfold turnA
  rw [bit_val, h]
  cases y <;> simp [turnA]
theorem turnA_yes {f : Nat → Nat} {H y x : Nat} (h : (f y).testBit x = true) : turnA f H (y + 1) x = turnA f H y x ||| 2 ^ (H - 1 - y) := by
  show turnA f H y x ||| ((f y >>> x &&& 1) <<< (H - 1 - y)) = _
  rw [bit_val, h, Nat.shiftLeft_eq]
  simp
set_option maxRecDepth 100000 in
set_option maxHeartbeats 4000000 in
theorem rturn_o (A : Option Addr) (H c : Nat) (f : Nat → Nat) (WN : Nat) (w : World) (hR : RowO w A H f) (hH : H ≤ 64) (hW : 1 ≤ WN ∧ WN ≤ 64) (hf : Hid (∀ y, f y < 18446744073709551616)) : Calls Tryd.prog 10 #[.slice A H c, .int .i64 (WN : Int)] w fun e' w' => (∃ g, e' = .returned (.slice (some ⟨g, 0, none⟩) WN WN) ∧ RowT w' g 29 (rowsV (turnF f H) WN) ∧ w.heap.size ≤ g) ∧ Below w.heap.size w w' := by
  obtain ⟨ti1, hi1, hy0, hy1, hy2⟩ := info_parts infoU64
  have HRW := Lib.hid hR
  have HWI : Hid ((decide (1 ≤ (WN : Int)) && decide ((WN : Int) ≤ 64)) = true) := Lib.hid (by rw [decide_eq_true (by omega), decide_eq_true (by omega)]; rfl)
  have gH : ¬ (64 : Int) < (H : Int) := by omega
  have gW : (0 : Int) ≤ (WN : Int) := by omega
  clear hR
  go_enter Tryd.func10, Tryd.ntmps10
  go_wp2_with (first
    | (go_at_call 22; go_loud (((with_reducible refine (rwithin (WN : Int) 1 64 true _ HWI).mono ?_); rintro e' wN ⟨rfl, rfl⟩; skip)))
    | (at_make; go_loud (refine wpList_make_full _ rfl _ _ 22 rfl w.heap.size 29 ti1 (.int .u64 0) 1 Tryd.underlying22 hi1 hy0 hy1 _ _ _ _ WN rfl rfl rfl rfl (by rw [hy2]; omega) (by unfold maxLen; omega) (Nat.le_refl _) ?_; intro w1 hown1 hgrow1)))
  have hBm : Below w.heap.size w w1 := (Below.refl _ _).grown hgrow1 (Nat.le_refl _) (fun j hj => by cases hj)
  rw [toList_of_made] at hown1
  have hT1 : RowT w1 w.heap.size 29 (rowsV (midR f H 0 0) WN) := by
    have e : rowsV (midR f H 0 0) WN = rowsV (turnA f H 0) WN := rowsV_eq (fun k _ => by unfold midR; rw [if_neg (by omega)]; split <;> rfl)
    rw [e]
    exact own_rowS hown1
  clear hown1 hgrow1
  go_loopw [7] (fun s7 wr => ∃ (x : Nat), x ≤ WN ∧ s7 = .int .i64 (x : Int) ∧ RowT wr w.heap.size 29 (rowsV (midR f H x 0) WN) ∧ Below w.heap.size w wr) (fun s7 _ => WN - (intOf s7).toNat)
  case atStart => exact ⟨0, by omega, rfl, hT1, hBm⟩
  case round =>
    clear hT1 hBm
    obtain ⟨x, hx, rfl, hT, hB⟩ := hrel
    by_cases hlx : x < WN
    · have x0 : (0 : Int) ≤ (x : Int) := by omega
      have x1 : (x : Int) < (WN : Int) := by omega
      go_wp2
      go_loopw [8] (fun s8 wq => ∃ (y : Nat), y ≤ H ∧ s8 = .int .i64 (y : Int) ∧ RowT wq w.heap.size 29 (rowsV (midR f H x y) WN) ∧ Below w.heap.size w wq) (fun s8 _ => H - (intOf s8).toNat)
      case atStart => exact ⟨0, by omega, rfl, hT, hB⟩
      case round =>
        clear hT hB
        obtain ⟨y, hy, rfl, hT, hB⟩ := hrel
        by_cases hlt : y < H
        · have y0 : (0 : Int) ≤ (y : Int) := by omega
          have y1 : (y : Int) < (H : Int) := by omega
          have HR := Lib.hid (RowO.next HRW.out hB)
          rcases (by cases hq : (f y).testBit x <;> simp : (f y).testBit x = true ∨ (f y).testBit x = false) with hbt | hbt
          · have HBT := Lib.hid hbt
            obtain ⟨zv, hzv⟩ : ∃ z, turnA f H y x = z := ⟨_, rfl⟩
            have d0 : wr.cell? ⟨w.heap.size, x, none⟩ = some (.int .u64 ((zv : Nat) : Int)) := hT.cell_ (by rw [rowsV_at _ _ _ hlx]; unfold midR; rw [if_neg (by omega), if_pos rfl, hzv])
            have f0 := hT.free x
            obtain ⟨s, hs⟩ : ∃ s, H - 1 - y = s := ⟨_, rfl⟩
            have hs63 : s ≤ 63 := by omega
            obtain ⟨p, hp⟩ : ∃ p, 2 ^ s = p := ⟨_, rfl⟩
            have hpl : p < 18446744073709551616 := by rw [← hp]; exact Nat.lt_of_le_of_lt (Nat.pow_le_pow_right (by decide) hs63) (by decide)
            obtain ⟨nv, hnv⟩ : ∃ v, zv ||| p = v := ⟨_, rfl⟩
            have hzl : zv < 18446744073709551616 := by rw [← hzv]; exact turnA_lt f H y x hy hH
            have ci : ((2 : Int) ^ s) = (p : Int) := by rw [← hp]; push_cast; rfl
            have q1 : IntKind.u64.wrap ((2 : Int) ^ s) = (p : Int) := by rw [ci]; exact wrap_u64 p hpl
            have q2 : IntKind.u64.wrap (1 * (2 : Int) ^ s) = (p : Int) := by rw [Int.one_mul]; exact q1
            have q3 : bits .or .u64 (zv : Int) (p : Int) = (nv : Int) := by rw [← hnv]; exact u64_or_nat zv p hzl hpl
            have ew : IntKind.i64.wrap ((H : Int) - 1) = (H : Int) - 1 := wrapS _ (by omega) (by omega)
            have ew2 : IntKind.i64.wrap ((H : Int) - 1 - (y : Int)) = (s : Int) := by rw [show (H : Int) - 1 - (y : Int) = (s : Int) by omega]; exact wrapS _ (by omega) (by omega)
            have HROW : Hid (rowsV (midR f H x (y + 1)) WN = (rowsV (midR f H x y) WN).set x (.int .u64 ((nv : Nat) : Int))) := Lib.hid (by
              rw [rowsV_set _ _ _ _ hlx]
              refine rowsV_eq (fun k _ => ?_)
              unfold midR
              by_cases hk : k = x
              · subst hk
                rw [if_neg (by omega), if_pos rfl, if_pos rfl, turnA_yes hbt, hzv, hs, hp, hnv]
              · by_cases hk2 : k < x <;> simp [hk, hk2])
            have HT2 := Lib.hid hT
            clear hT hzv hs hnv hp ci hbt hzl hpl
            go_upto_region 12 with (go_at_call 21; go_loud (((with_reducible refine (bit_o A H c x y f true _ HR.out (by omega) (by omega) hf HBT).mono ?_); rintro e' wN ⟨rfl, rfl⟩; skip)))
            refine wp_region_noPanic ?_
            refine wp_region_held_drew (S := (fun _ => True)) (by kernel_rfl) ?_ (fun hHeld => ?_)
            · exact trivial
            refine wpAnyH_take (i := 0) (oi := { dst := some 34, op := Op.move (Operand.tmp 6), type := 22, pos := "ref.go:129", after := #[], guard := none }) (v := ?_) rfl (by kernel_rfl) (by kernel_rfl) (by kernel_rfl) (fun _ _ _ h => h) (Or.inl ⟨by rfl, ?_⟩) (by assumption) ?_
            rotate_left
            · (intro wS hSw; (try dsimp only at hSw); go_simp; (try with_reducible rfl))
            try simp only [Act.put, List.setIfInBounds_toArray, List.set_cons_zero, List.set_cons_succ]
            refine wpAnyH_take (i := 1) (oi := { dst := some 35, op := Op.move (Operand.tmp 7), type := 3, pos := "ref.go:129", after := #[], guard := none }) (v := ?_) rfl (by kernel_rfl) (by kernel_rfl) (by kernel_rfl) (fun _ _ _ h => h) (Or.inl ⟨by rfl, ?_⟩) (by assumption) ?_
            rotate_left
            · (intro wS hSw; (try dsimp only at hSw); go_simp; (try with_reducible rfl))
            try simp only [Act.put, List.setIfInBounds_toArray, List.set_cons_zero, List.set_cons_succ]
            refine wpAnyH_take (i := 2) (oi := { dst := some 36, op := Op.move (Operand.tmp 6), type := 22, pos := "ref.go:129", after := #[], guard := none }) (v := ?_) rfl (by kernel_rfl) (by kernel_rfl) (by kernel_rfl) (fun _ _ _ h => h) (Or.inl ⟨by rfl, ?_⟩) (by assumption) ?_
            rotate_left
            · (intro wS hSw; (try dsimp only at hSw); go_simp; (try with_reducible rfl))
            try simp only [Act.put, List.setIfInBounds_toArray, List.set_cons_zero, List.set_cons_succ]
            refine wpAnyH_take (i := 3) (oi := { dst := some 37, op := Op.move (Operand.tmp 7), type := 3, pos := "ref.go:129", after := #[], guard := none }) (v := ?_) rfl (by kernel_rfl) (by kernel_rfl) (by kernel_rfl) (fun _ _ _ h => h) (Or.inl ⟨by rfl, ?_⟩) (by assumption) ?_
            rotate_left
            · (intro wS hSw; (try dsimp only at hSw); go_simp; (try with_reducible rfl))
            try simp only [Act.put, List.setIfInBounds_toArray, List.set_cons_zero, List.set_cons_succ]
            refine wpAnyH_take (i := 4) (oi := { dst := some 38, op := Op.indexAddr 22 (Operand.tmp 36) (Operand.tmp 37), type := 0, pos := "ref.go:129", after := #[{ on := 2, ground := Ground.data }, { on := 3, ground := Ground.data }], guard := none }) (v := ?_) rfl (by kernel_rfl) (by kernel_rfl) (by kernel_rfl) (fun _ _ _ h => h) (Or.inl ⟨by rfl, ?_⟩) (by assumption) ?_
            rotate_left
            · (intro wS hSw; (try dsimp only at hSw); go_simp; (try with_reducible rfl))
            try simp only [Act.put, List.setIfInBounds_toArray, List.set_cons_zero, List.set_cons_succ]
            refine wpAnyH_take (i := 6) (oi := { dst := some 40, op := Op.move (Operand.tmp 5), type := 3, pos := "ref.go:129", after := #[], guard := none }) (v := ?_) rfl (by kernel_rfl) (by kernel_rfl) (by kernel_rfl) (fun _ _ _ h => h) (Or.inl ⟨by rfl, ?_⟩) (by assumption) ?_
            rotate_left
            · (intro wS hSw; (try dsimp only at hSw); go_simp; (try with_reducible rfl))
            try simp only [Act.put, List.setIfInBounds_toArray, List.set_cons_zero, List.set_cons_succ]
            refine wpAnyH_take (i := 7) (oi := { dst := some 41, op := Op.binOp BinOp.sub 3 (Operand.tmp 40) (Operand.const (Value.int IntKind.i64 1)) 3, type := 3, pos := "ref.go:129", after := #[{ on := 6, ground := Ground.data }], guard := none }) (v := ?_) rfl (by kernel_rfl) (by kernel_rfl) (by kernel_rfl) (fun _ _ _ h => h) (Or.inl ⟨by rfl, ?_⟩) (by assumption) ?_
            rotate_left
            · (intro wS hSw; (try dsimp only at hSw); go_simp; (try with_reducible rfl))
            try simp only [Act.put, List.setIfInBounds_toArray, List.set_cons_zero, List.set_cons_succ]
            refine wpAnyH_take (i := 8) (oi := { dst := some 42, op := Op.move (Operand.tmp 8), type := 3, pos := "ref.go:129", after := #[], guard := none }) (v := ?_) rfl (by kernel_rfl) (by kernel_rfl) (by kernel_rfl) (fun _ _ _ h => h) (Or.inl ⟨by rfl, ?_⟩) (by assumption) ?_
            rotate_left
            · (intro wS hSw; (try dsimp only at hSw); go_simp; (try with_reducible rfl))
            try simp only [Act.put, List.setIfInBounds_toArray, List.set_cons_zero, List.set_cons_succ]
            refine wpAnyH_take (i := 9) (oi := { dst := some 43, op := Op.binOp BinOp.sub 3 (Operand.tmp 41) (Operand.tmp 42) 3, type := 3, pos := "ref.go:129", after := #[{ on := 7, ground := Ground.data }, { on := 8, ground := Ground.data }], guard := none }) (v := ?_) rfl (by kernel_rfl) (by kernel_rfl) (by kernel_rfl) (fun _ _ _ h => h) (Or.inl ⟨by rfl, ?_⟩) (by assumption) ?_
            rotate_left
            · (intro wS hSw; (try dsimp only at hSw); go_simp; (try with_reducible rfl))
            try simp only [Act.put, List.setIfInBounds_toArray, List.set_cons_zero, List.set_cons_succ]
            refine wpAnyH_take (i := 10) (oi := { dst := some 44, op := Op.binOp BinOp.shl 29 (Operand.const (Value.int IntKind.u64 1)) (Operand.tmp 43) 3, type := 29, pos := "ref.go:129", after := #[{ on := 9, ground := Ground.data }], guard := none }) (v := ?_) rfl (by kernel_rfl) (by kernel_rfl) (by kernel_rfl) (fun _ _ _ h => h) (Or.inl ⟨by rfl, ?_⟩) (by assumption) ?_
            rotate_left
            · (intro wS hSw; (try dsimp only at hSw); go_simp; (try with_reducible rfl))
            try simp only [Act.put, List.setIfInBounds_toArray, List.set_cons_zero, List.set_cons_succ]
            refine wpAnyH_ready (rs := [5]) (by kernel_rfl) (by simp) ?_
            refine AllReadyH.cons (o := { dst := some 39, op := Op.load 29 (Operand.tmp 38), type := 29, pos := "ref.go:129", after := #[{ on := 4, ground := Ground.data }], guard := none }) rfl (fun K hK => ?_) AllReadyH.nil
            go_simp
            refine hK.out _ _ ?_ (fun hNew => ?_)
            · exact trivial
            clear hK K hHeld
            have hHeld := hNew
            clear hNew
            try simp only [Act.put, List.setIfInBounds_toArray, List.set_cons_zero, List.set_cons_succ]
            refine wpAnyH_take (i := 11) (oi := { dst := some 45, op := Op.binOp BinOp.or 29 (Operand.tmp 39) (Operand.tmp 44) 29, type := 29, pos := "ref.go:129", after := #[{ on := 5, ground := Ground.data }, { on := 10, ground := Ground.data }], guard := none }) (v := ?_) rfl (by kernel_rfl) (by kernel_rfl) (by kernel_rfl) (fun _ _ _ h => h) (Or.inl ⟨by rfl, ?_⟩) (by assumption) ?_
            rotate_left
            · (intro wS hSw; (try dsimp only at hSw); go_simp; (try with_reducible rfl))
            try simp only [Act.put, List.setIfInBounds_toArray, List.set_cons_zero, List.set_cons_succ]
            refine wpAnyH_take (i := 12) (oi := { dst := some 46, op := Op.indexAddr 22 (Operand.tmp 34) (Operand.tmp 35), type := 0, pos := "ref.go:129", after := #[{ on := 0, ground := Ground.data }, { on := 1, ground := Ground.data }, { on := 0, ground := Ground.phase }, { on := 1, ground := Ground.phase }, { on := 2, ground := Ground.phase }, { on := 3, ground := Ground.phase }, { on := 4, ground := Ground.phase }, { on := 5, ground := Ground.phase }, { on := 6, ground := Ground.phase }, { on := 7, ground := Ground.phase }, { on := 8, ground := Ground.phase }, { on := 9, ground := Ground.phase }, { on := 10, ground := Ground.phase }, { on := 11, ground := Ground.phase }], guard := none }) (v := ?_) rfl (by kernel_rfl) (by kernel_rfl) (by kernel_rfl) (fun _ _ _ h => h) (Or.inl ⟨by rfl, ?_⟩) (by assumption) ?_
            rotate_left
            · (intro wS hSw; (try dsimp only at hSw); go_simp; (try with_reducible rfl))
            try simp only [Act.put, List.setIfInBounds_toArray, List.set_cons_zero, List.set_cons_succ]
            refine wpAnyH_ready (rs := [13]) (by kernel_rfl) (by simp) ?_
            refine AllReadyH.cons (o := { dst := none, op := Op.store 29 (Operand.tmp 46) (Operand.tmp 45), type := 0, pos := "ref.go:129", after := #[{ on := 12, ground := Ground.data }, { on := 11, ground := Ground.data }, { on := 0, ground := Ground.phase }, { on := 1, ground := Ground.phase }, { on := 2, ground := Ground.phase }, { on := 3, ground := Ground.phase }, { on := 4, ground := Ground.phase }, { on := 5, ground := Ground.phase }, { on := 6, ground := Ground.phase }, { on := 7, ground := Ground.phase }, { on := 8, ground := Ground.phase }, { on := 9, ground := Ground.phase }, { on := 10, ground := Ground.phase }, { on := 11, ground := Ground.phase }], guard := none }) rfl (fun K hK => ?_) AllReadyH.nil
            go_simp
            refine hK.out _ _ ?_ (fun hNew => ?_)
            · exact trivial
            clear hK K hHeld
            have hHeld := hNew
            clear hNew
            try simp only [Act.put, List.setIfInBounds_toArray, List.set_cons_zero, List.set_cons_succ]
            refine wpAnyH_done (by kernel_rfl) ?_ _
            refine NoPanic.normal ?_
            go_wp2_with fail
            go_roundw
            case rel => exact ⟨y + 1, by omega, by go_num, (by
              rw [HROW.out]
              first | exact HT2.out.set_ (by rw [rowsV_len]; exact hlx) _ | exact RowT.like_ (HT2.out.set_ (by rw [rowsV_len]; exact hlx) _)), (by first | exact hB.setCell (Nat.le_refl _) _ | exact (hB.setCell (Nat.le_refl _) _).drew)⟩
            case measure => simp [intOf]; omega
          · have HBT := Lib.hid hbt
            have HROW : Hid (rowsV (midR f H x (y + 1)) WN = rowsV (midR f H x y) WN) := Lib.hid (by
              refine rowsV_eq (fun k _ => ?_)
              unfold midR
              by_cases hk : k = x
              · subst hk
                rw [turnA_no hbt]
              · rw [if_neg hk, if_neg hk])
            have HT2 := Lib.hid hT
            clear hbt hT
            go_wp2_with (go_at_call 21; go_loud (((with_reducible refine (bit_o A H c x y f false _ HR.out (by omega) (by omega) hf HBT).mono ?_); rintro e' wN ⟨rfl, rfl⟩; skip)))
            go_roundw
            case rel => exact ⟨y + 1, by omega, by go_num, by rw [HROW.out]; exact HT2.out, hB⟩
            case measure => simp [intOf]; omega
        · obtain rfl : y = H := by omega
          have HT2 : Hid (RowT wr w.heap.size 29 (rowsV (midR f y (x + 1) 0) WN)) := Lib.hid (by
            have e : rowsV (midR f y (x + 1) 0) WN = rowsV (midR f y x y) WN := rowsV_eq (fun k _ => by
              unfold midR
              by_cases h1 : k < x
              · rw [if_pos h1, if_pos (by omega)]
              · rw [if_neg h1]
                by_cases h2 : k = x
                · rw [if_pos (by omega), if_pos h2]
                  rfl
                · rw [if_neg (by omega), if_neg h2]
                  split <;> rfl)
            rw [e]
            exact hT)
          clear hT
          go_wp2
          go_roundw
          case rel => exact ⟨x + 1, by omega, by go_num, HT2.out, hB⟩
          case measure => simp [intOf]; omega
    · obtain rfl : x = WN := by omega
      have HT2 : Hid (RowT wr w.heap.size 29 (rowsV (turnF f H) x)) := Lib.hid (by
        have e : rowsV (midR f H x 0) x = rowsV (turnF f H) x := rowsV_eq (fun k hk => by unfold midR; rw [if_pos hk])
        rw [← e]
        exact hT)
      clear hT
      go_wp2
      go_ret
      exact ⟨⟨_, rfl, HT2.out, Nat.le_refl _⟩, hB⟩
set_option maxRecDepth 100000 in
set_option maxHeartbeats 4000000 in
theorem rturn_ref (A : Option Addr) (H c : Nat) (W : Int) (w : World) (hb : ¬ (1 ≤ W ∧ W ≤ 64) ∨ 64 < H) : Calls Tryd.prog 10 #[.slice A H c, .int .i64 W] w fun e' w' => e' = .returned (.slice none 0 0) ∧ w = w' := by
  by_cases hW : 1 ≤ W ∧ W ≤ 64
  · have gH : (64 : Int) < (H : Int) := by omega
    have HWI : Hid ((decide (1 ≤ W) && decide (W ≤ 64)) = true) := Lib.hid (by rw [decide_eq_true (by omega), decide_eq_true (by omega)]; rfl)
    clear hb hW
    go_enter Tryd.func10, Tryd.ntmps10
    go_wp2_with (go_at_call 22; go_loud (((with_reducible refine (rwithin W 1 64 true _ HWI).mono ?_); rintro e' wN ⟨rfl, rfl⟩; skip)))
    go_ret
    exact ⟨rfl, rfl⟩
  · have HWI : Hid ((decide (1 ≤ W) && decide (W ≤ 64)) = false) := Lib.hid (by rw [Bool.and_eq_false_iff, decide_eq_false_iff_not, decide_eq_false_iff_not]; omega)
    clear hb hW
    go_enter Tryd.func10, Tryd.ntmps10
    go_wp2_with (go_at_call 22; go_loud (((with_reducible refine (rwithin W 1 64 false _ HWI).mono ?_); rintro e' wN ⟨rfl, rfl⟩; skip)))
    go_ret
    exact ⟨rfl, rfl⟩
end Go.Proofs.YtnbiioighjdkjaaDoor
