/- NameParts: the walk. -/
import Derived.Test.YtjclafigbfnemaaDoorNameOrder
import Derived.Deep.RegionHeld3
import Derived.Deep.DrawnRows
import Derived.Deep.DeepCutAuto
namespace Go.Proofs.YtjclafigbfnemaaDoor
open Go.ChangeShapes Go.WideShapes Go.ChangeAt Go.RowKit
attribute [local go_sem ↓] Go.wp_at_zero Go.wp_at_succ
set_option linter.unusedSimpArgs false
set_option linter.unusedVariables false

/-- What no name may have within. -/
def BadB (x : ByteArray) : Prop := x.size ≤ 2 ∧ 1 ≤ x.size ∧ ∀ t : List UInt8, btL (x.data.toList ++ t) 0 / 64 ≠ 2 ∧ (badL (x.data.toList ++ t) 0 = true ∨ mayR (decL (x.data.toList ++ t) 0).1 = false)
theorem app_L (a b : ByteArray) : (a ++ b).data.toList = a.data.toList ++ b.data.toList := by
  rw [ByteArray.data_append, Array.toList_append]
theorem bad_0 : BadB ⟨#[47]⟩ := by
  refine ⟨by decide, by decide, fun t => ⟨?_, ?_⟩⟩
  · show (47 : Nat) / 64 ≠ 2
    decide
  · show badL (47 :: t : List UInt8) 0 = true ∨ mayR (decL (47 :: t : List UInt8) 0).1 = false
    exact Or.inr (by rw [show decL (47 :: t : List UInt8) 0 = (47, 1) from rfl]; decide)
theorem bad_1 : BadB ⟨#[0]⟩ := by
  refine ⟨by decide, by decide, fun t => ⟨?_, ?_⟩⟩
  · show (0 : Nat) / 64 ≠ 2
    decide
  · show badL (0 :: t : List UInt8) 0 = true ∨ mayR (decL (0 :: t : List UInt8) 0).1 = false
    exact Or.inr (by rw [show decL (0 :: t : List UInt8) 0 = (0, 1) from rfl]; decide)
theorem bad_2 : BadB ⟨#[10]⟩ := by
  refine ⟨by decide, by decide, fun t => ⟨?_, ?_⟩⟩
  · show (10 : Nat) / 64 ≠ 2
    decide
  · show badL (10 :: t : List UInt8) 0 = true ∨ mayR (decL (10 :: t : List UInt8) 0).1 = false
    exact Or.inr (by rw [show decL (10 :: t : List UInt8) 0 = (10, 1) from rfl]; decide)
theorem bad_3 : BadB ⟨#[31]⟩ := by
  refine ⟨by decide, by decide, fun t => ⟨?_, ?_⟩⟩
  · show (31 : Nat) / 64 ≠ 2
    decide
  · show badL (31 :: t : List UInt8) 0 = true ∨ mayR (decL (31 :: t : List UInt8) 0).1 = false
    exact Or.inr (by rw [show decL (31 :: t : List UInt8) 0 = (31, 1) from rfl]; decide)
theorem bad_4 : BadB ⟨#[127]⟩ := by
  refine ⟨by decide, by decide, fun t => ⟨?_, ?_⟩⟩
  · show (127 : Nat) / 64 ≠ 2
    decide
  · show badL (127 :: t : List UInt8) 0 = true ∨ mayR (decL (127 :: t : List UInt8) 0).1 = false
    exact Or.inr (by rw [show decL (127 :: t : List UInt8) 0 = (127, 1) from rfl]; decide)
theorem bad_5 : BadB ⟨#[194, 133]⟩ := by
  refine ⟨by decide, by decide, fun t => ⟨?_, ?_⟩⟩
  · show (194 : Nat) / 64 ≠ 2
    decide
  · show badL (194 :: 133 :: t : List UInt8) 0 = true ∨ mayR (decL (194 :: 133 :: t : List UInt8) 0).1 = false
    refine Or.inr ?_
    have e : decL (194 :: 133 :: t : List UInt8) 0 = (133, 2) := by
      show Lib.decodeN (t.length + 2) 194 133 _ _ = _
      exact of_runed (Or.inr (Or.inl ⟨by decide, by omega, by decide, by decide, by decide, rfl⟩))
    rw [e]
    decide
theorem bad_6 : BadB ⟨#[194, 159]⟩ := by
  refine ⟨by decide, by decide, fun t => ⟨?_, ?_⟩⟩
  · show (194 : Nat) / 64 ≠ 2
    decide
  · show badL (194 :: 159 :: t : List UInt8) 0 = true ∨ mayR (decL (194 :: 159 :: t : List UInt8) 0).1 = false
    refine Or.inr ?_
    have e : decL (194 :: 159 :: t : List UInt8) 0 = (159, 2) := by
      show Lib.decodeN (t.length + 2) 194 159 _ _ = _
      exact of_runed (Or.inr (Or.inl ⟨by decide, by omega, by decide, by decide, by decide, rfl⟩))
    rw [e]
    decide
theorem bad_7 : BadB ⟨#[255]⟩ := by
  refine ⟨by decide, by decide, fun t => ⟨?_, ?_⟩⟩
  · show (255 : Nat) / 64 ≠ 2
    decide
  · show badL (255 :: t : List UInt8) 0 = true ∨ mayR (decL (255 :: t : List UInt8) 0).1 = false
    refine Or.inl ?_
    have e : decL (255 :: t : List UInt8) 0 = (65533, 1) := by
      show Lib.decodeN (t.length + 1) 255 _ _ _ = _
      unfold Lib.decodeN
      rw [if_neg (by omega), if_neg (by omega), if_neg (by omega), if_neg (by omega)]
    unfold badL
    rw [e]
    rfl
theorem bad_8 : BadB ⟨#[192, 128]⟩ := by
  refine ⟨by decide, by decide, fun t => ⟨?_, ?_⟩⟩
  · show (192 : Nat) / 64 ≠ 2
    decide
  · show badL (192 :: 128 :: t : List UInt8) 0 = true ∨ mayR (decL (192 :: 128 :: t : List UInt8) 0).1 = false
    refine Or.inl ?_
    have e : decL (192 :: 128 :: t : List UInt8) 0 = (65533, 1) := by
      show Lib.decodeN (t.length + 2) 192 128 _ _ = _
      unfold Lib.decodeN
      rw [if_neg (by omega), if_pos ⟨by decide, by omega, by decide⟩, if_neg (by decide)]
    unfold badL
    rw [e]
    rfl

set_option maxRecDepth 100000 in
set_option maxHeartbeats 4000000 in
theorem parts_walk (a b : ByteArray) (which at' : Int) (w : World) (hw1 : i64in which) (hw2 : i64in at') (hT : Tabs w) :
    Calls Tryd.prog 5 #[.string a, .string b, .int .i64 which, .int .i64 at'] w fun e w' => e = .returned (.bool true) ∧ Below w.heap.size w w' := by
  have HT := Lib.hid hT
  have HB : Below w.heap.size w w := Below.refl _ _
  clear hT
  by_cases ha : 60 < a.size
  · have ga : (60 : Int) < (a.size : Int) := by omega
    clear ha
    go_enter Tryd.func5, Tryd.ntmps5
    go_wp2_with (go_at_call 7; ((with_reducible refine (awake_any _ HT.out).mono ?_); rintro e' wN ⟨rfl, hb⟩; have HT := Lib.hid (HT.out.next hb); have HB := btr HB HB.size hb; clear hb))
    go_ret
    exact ⟨rfl, HB⟩
  have ga : ¬ (60 : Int) < (a.size : Int) := by omega
  by_cases hb : 60 < b.size
  · have gb : (60 : Int) < (b.size : Int) := by omega
    clear hb
    go_enter Tryd.func5, Tryd.ntmps5
    go_wp2_with (go_at_call 7; ((with_reducible refine (awake_any _ HT.out).mono ?_); rintro e' wN ⟨rfl, hb⟩; have HT := Lib.hid (HT.out.next hb); have HB := btr HB HB.size hb; clear hb))
    go_ret
    exact ⟨rfl, HB⟩
  have gb : ¬ (60 : Int) < (b.size : Int) := by omega
  have HS : Hid (a.size ≤ 100000) := Lib.hid (by omega)
  have HSB : Hid (b.size ≤ 100000) := Lib.hid (by omega)
  obtain ⟨MA, hMA⟩ : ∃ V, nameB a.data.toList = V := ⟨_, rfl⟩
  obtain ⟨MB, hMB⟩ : ∃ V, nameB b.data.toList = V := ⟨_, rfl⟩
  have HMA := Lib.hid hMA
  have HMB := Lib.hid hMB
  clear hMA hMB ha hb
  cases MA
  · go_enter Tryd.func5, Tryd.ntmps5
    go_wp2_with (first
      | (go_at_call 10; ((with_reducible refine (may_any a _ _ HS.out HT.out HMA.out).mono ?_); rintro e' wN ⟨rfl, hb⟩; have HT := Lib.hid (HT.out.next hb); have HB := btr HB HB.size hb; clear hb))
      | (go_at_call 10; ((with_reducible refine (may_any b _ _ HSB.out HT.out HMB.out).mono ?_); rintro e' wN ⟨rfl, hb⟩; have HT := Lib.hid (HT.out.next hb); have HB := btr HB HB.size hb; clear hb))
      | (go_at_call 7; ((with_reducible refine (awake_any _ HT.out).mono ?_); rintro e' wN ⟨rfl, hb⟩; have HT := Lib.hid (HT.out.next hb); have HB := btr HB HB.size hb; clear hb)))
    go_ret
    exact ⟨rfl, HB⟩
  cases MB
  · go_enter Tryd.func5, Tryd.ntmps5
    go_wp2_with (first
      | (go_at_call 10; ((with_reducible refine (may_any a _ _ HS.out HT.out HMA.out).mono ?_); rintro e' wN ⟨rfl, hb⟩; have HT := Lib.hid (HT.out.next hb); have HB := btr HB HB.size hb; clear hb))
      | (go_at_call 10; ((with_reducible refine (may_any b _ _ HSB.out HT.out HMB.out).mono ?_); rintro e' wN ⟨rfl, hb⟩; have HT := Lib.hid (HT.out.next hb); have HB := btr HB HB.size hb; clear hb))
      | (go_at_call 7; ((with_reducible refine (awake_any _ HT.out).mono ?_); rintro e' wN ⟨rfl, hb⟩; have HT := Lib.hid (HT.out.next hb); have HB := btr HB HB.size hb; clear hb)))
    go_ret
    exact ⟨rfl, HB⟩
  go_enter Tryd.func5, Tryd.ntmps5
  go_upto_region 3 with (first
      | (go_at_call 10; ((with_reducible refine (may_any a _ _ HS.out HT.out HMA.out).mono ?_); rintro e' wN ⟨rfl, hb⟩; have HT := Lib.hid (HT.out.next hb); have HB := btr HB HB.size hb; clear hb))
      | (go_at_call 10; ((with_reducible refine (may_any b _ _ HSB.out HT.out HMB.out).mono ?_); rintro e' wN ⟨rfl, hb⟩; have HT := Lib.hid (HT.out.next hb); have HB := btr HB HB.size hb; clear hb))
      | (go_at_call 7; ((with_reducible refine (awake_any _ HT.out).mono ?_); rintro e' wN ⟨rfl, hb⟩; have HT := Lib.hid (HT.out.next hb); have HB := btr HB HB.size hb; clear hb)))
  obtain ⟨w0, hw0⟩ : ∃ W : World, W = wN := ⟨_, rfl⟩
  rw [← hw0] at HT HB ⊢
  clear hw0
  go_cut [9] (fun v wx => v = .string (a ++ ⟨#[32]⟩ ++ b) ∧ wx = w0)
  case first =>
    go_wp2
    go_meet
    exact ⟨rfl, rfl⟩
  case rest =>
  obtain ⟨rfl, rfl⟩ := hcut
  obtain ⟨w1, rfl⟩ : ∃ W : World, W = wc := ⟨_, rfl⟩
  obtain ⟨j, hj, hj9⟩ : ∃ k : Nat, lowI which 9 = (k : Int) ∧ k < 9 := by
    have := lowI_bd which 9 (by omega)
    exact ⟨(lowI which 9).toNat, by omega, by omega⟩
  have HJ := Lib.hid hj
  clear hj
  go_upto_region 4 with fail
  go_cut [10] (fun v wx => ∃ x, v = .string x ∧ Hid (BadB x) ∧ Below w1.heap.size w1 wx)
  case first =>
    rcases (by omega : j = 0 ∨ j = 1 ∨ j = 2 ∨ j = 3 ∨ j = 4 ∨ j = 5 ∨ j = 6 ∨ j = 7 ∨ j = 8) with rfl | rfl | rfl | rfl | rfl | rfl | rfl | rfl | rfl
    · go_wp2_with (go_at_call 15; refine (low_any which 9 _ (by omega) (by omega)).mono ?_; rw [HJ.out]; rintro e' wL ⟨rfl, rfl⟩)
      go_meet
      exact ⟨_, rfl, Lib.hid bad_0, (Below.refl _ _).alloc (Nat.le_refl _) _⟩
    · go_wp2_with (go_at_call 15; refine (low_any which 9 _ (by omega) (by omega)).mono ?_; rw [HJ.out]; rintro e' wL ⟨rfl, rfl⟩)
      go_meet
      exact ⟨_, rfl, Lib.hid bad_1, (Below.refl _ _).alloc (Nat.le_refl _) _⟩
    · go_wp2_with (go_at_call 15; refine (low_any which 9 _ (by omega) (by omega)).mono ?_; rw [HJ.out]; rintro e' wL ⟨rfl, rfl⟩)
      go_meet
      exact ⟨_, rfl, Lib.hid bad_2, (Below.refl _ _).alloc (Nat.le_refl _) _⟩
    · go_wp2_with (go_at_call 15; refine (low_any which 9 _ (by omega) (by omega)).mono ?_; rw [HJ.out]; rintro e' wL ⟨rfl, rfl⟩)
      go_meet
      exact ⟨_, rfl, Lib.hid bad_3, (Below.refl _ _).alloc (Nat.le_refl _) _⟩
    · go_wp2_with (go_at_call 15; refine (low_any which 9 _ (by omega) (by omega)).mono ?_; rw [HJ.out]; rintro e' wL ⟨rfl, rfl⟩)
      go_meet
      exact ⟨_, rfl, Lib.hid bad_4, (Below.refl _ _).alloc (Nat.le_refl _) _⟩
    · go_wp2_with (go_at_call 15; refine (low_any which 9 _ (by omega) (by omega)).mono ?_; rw [HJ.out]; rintro e' wL ⟨rfl, rfl⟩)
      go_meet
      exact ⟨_, rfl, Lib.hid bad_5, (Below.refl _ _).alloc (Nat.le_refl _) _⟩
    · go_wp2_with (go_at_call 15; refine (low_any which 9 _ (by omega) (by omega)).mono ?_; rw [HJ.out]; rintro e' wL ⟨rfl, rfl⟩)
      go_meet
      exact ⟨_, rfl, Lib.hid bad_6, (Below.refl _ _).alloc (Nat.le_refl _) _⟩
    · go_wp2_with (go_at_call 15; refine (low_any which 9 _ (by omega) (by omega)).mono ?_; rw [HJ.out]; rintro e' wL ⟨rfl, rfl⟩)
      go_meet
      exact ⟨_, rfl, Lib.hid bad_7, (Below.refl _ _).alloc (Nat.le_refl _) _⟩
    · go_wp2_with (go_at_call 15; refine (low_any which 9 _ (by omega) (by omega)).mono ?_; rw [HJ.out]; rintro e' wL ⟨rfl, rfl⟩)
      go_meet
      exact ⟨_, rfl, Lib.hid bad_8, (Below.refl _ _).alloc (Nat.le_refl _) _⟩
  case rest =>
  obtain ⟨x, rfl, HX, hB1⟩ := hcut
  have HB := btr HB HB.size hB1
  have HT := Lib.hid (HT.out.next hB1)
  obtain ⟨w2, rfl⟩ : ∃ W : World, W = wc := ⟨_, rfl⟩
  clear hB1 HJ
  have k1 : (1 : Int) ≤ (a.size : Int) + 1 := by omega
  obtain ⟨k, hk, hk2⟩ : ∃ k : Nat, lowI at' ((a.size : Int) + 1) = (k : Int) ∧ k ≤ a.size := by
    have := lowI_bd at' ((a.size : Int) + 1) k1
    exact ⟨(lowI at' ((a.size : Int) + 1)).toNat, by omega, by omega⟩
  have HK := Lib.hid hk
  clear hk
  go_upto_region 6 with (go_at_call 15; refine (low_any at' ((a.size : Int) + 1) _ k1 (by omega)).mono ?_; rw [HK.out]; rintro e' wL ⟨rfl, rfl⟩)
  have na := HMA.out
  have nb := HMB.out
  have l32 : (⟨#[32]⟩ : ByteArray).data.toList = [32] := rfl
  have s32 : (⟨#[32]⟩ : ByteArray).size = 1 := rfl
  have hboth : nameB (a ++ ⟨#[32]⟩ ++ b).data.toList = decide ((a ++ ⟨#[32]⟩ ++ b).size ≤ 20) := by
    rw [size_L, app_L, app_L, l32]
    exact name_both na nb
  have hins : nameB (a.extract 0 k ++ x ++ a.extract k a.size).data.toList = false := by
    obtain ⟨x1, x2, x3⟩ := HX.out
    rw [app_L, app_L, ext_L, List.append_assoc]
    have h3 := x3 (a.extract k a.size).data.toList
    have h4 := name_bad (a := a.data.toList) (k := k) (t := x.data.toList ++ (a.extract k a.size).data.toList) na (by rw [← size_L]; exact hk2) (by rw [List.length_append, ← size_L]; omega) h3.1 h3.2
    simpa using h4
  have hend : nameB (a ++ ⟨#[32]⟩).data.toList = false := by
    rw [app_L, l32]
    exact name_blank_end _
  have hfro : nameB (⟨#[32]⟩ ++ a).data.toList = false := by
    rw [app_L, l32]
    exact name_blank_front _
  have z1 : (a ++ ⟨#[32]⟩ ++ b).size = a.size + 1 + b.size := by rw [ByteArray.size_append, ByteArray.size_append, s32]
  have z2 : (a.extract 0 k ++ x ++ a.extract k a.size).size ≤ 100000 := by
    have := HX.out.1
    rw [ByteArray.size_append, ByteArray.size_append, ByteArray.size_extract, ByteArray.size_extract]
    omega
  have z3 : (a ++ ⟨#[32]⟩).size ≤ 100000 := by rw [ByteArray.size_append, s32]; omega
  have z4 : (⟨#[32]⟩ ++ a).size ≤ 100000 := by rw [ByteArray.size_append, s32]; omega
  have ZB : Hid ((a ++ ⟨#[32]⟩ ++ b).size ≤ 100000) := Lib.hid (by omega)
  have Z2 := Lib.hid z2
  have Z3 := Lib.hid z3
  have Z4 := Lib.hid z4
  have HI := Lib.hid hins
  have HE := Lib.hid hend
  have HF := Lib.hid hfro
  have x2 : (x.size : Int) ≤ 2 := by have := HX.out.1; omega
  have i0 : (0 : Int) ≤ (k : Int) := by omega
  have i1 : (k : Int) ≤ (a.size : Int) := by omega
  have n1 : ¬ 9223372036854775807 < k + x.size := by have := HX.out.1; omega
  have n2 : ¬ 9223372036854775807 < k + x.size + (a.size - k) := by have := HX.out.1; omega
  have n3 : ¬ 9223372036854775807 < a.size + 1 := by omega
  have n4 : ¬ 9223372036854775807 < 1 + a.size := by omega
  by_cases h20 : (a ++ ⟨#[32]⟩ ++ b).size ≤ 20
  · rw [decide_eq_true h20] at hboth
    have HBO := Lib.hid hboth
    have t1 : (a.size : Int) + 1 + (b.size : Int) ≤ 20 := by omega
    have t2 : ((a ++ ⟨#[32]⟩ ++ b).size : Int) ≤ 20 := by omega
    clear hboth hins hend hfro z1 z2 z3 z4 na nb h20
    refine wp_region_noPanic ?_
    refine wp_region_held_drew (S := (fun w' => Below w2.heap.size w2 w')) (by kernel_rfl) ?_ (fun hHeld => ?_)
    · (first | exact (Below.refl _ _).drew | assumption | exact btr hHeld hHeld.size hb)
    refine wpAnyH_take (i := 0) (oi := { dst := some 44, op := Op.move (Operand.tmp 9), type := 9, pos := "law.go:49", after := #[], guard := none }) (v := ?_) rfl (by kernel_rfl) (by kernel_rfl) (by kernel_rfl) (fun _ _ _ h => h) (Or.inl ⟨by rfl, ?_⟩) (by assumption) ?_
    rotate_left
    · (intro wS hSw; (try dsimp only at hSw); go_simp; (try with_reducible rfl))
    try simp only [Act.put, List.setIfInBounds_toArray, List.set_cons_zero, List.set_cons_succ]
    refine wpAnyH_take (i := 2) (oi := { dst := some 46, op := Op.move (Operand.tmp 9), type := 9, pos := "law.go:49", after := #[], guard := none }) (v := ?_) rfl (by kernel_rfl) (by kernel_rfl) (by kernel_rfl) (fun _ _ _ h => h) (Or.inl ⟨by rfl, ?_⟩) (by assumption) ?_
    rotate_left
    · (intro wS hSw; (try dsimp only at hSw); go_simp; (try with_reducible rfl))
    try simp only [Act.put, List.setIfInBounds_toArray, List.set_cons_zero, List.set_cons_succ]
    refine wpAnyH_take (i := 3) (oi := { dst := some 47, op := Op.call { callee := Callee.builtin Builtin.len, args := #[Operand.tmp 46], argTypes := #[9] }, type := 3, pos := "law.go:49", after := #[{ on := 2, ground := Ground.data }], guard := none }) (v := ?_) rfl (by kernel_rfl) (by kernel_rfl) (by kernel_rfl) (fun _ _ _ h => h) (Or.inl ⟨by rfl, ?_⟩) (by assumption) ?_
    rotate_left
    · (intro wS hSw; (try dsimp only at hSw); go_simp; (try with_reducible rfl))
    try simp only [Act.put, List.setIfInBounds_toArray, List.set_cons_zero, List.set_cons_succ]
    refine wpAnyH_take (i := 4) (oi := { dst := some 48, op := Op.binOp BinOp.leq 3 (Operand.tmp 47) (Operand.const (Value.int IntKind.i64 20)) 3, type := 4, pos := "law.go:49", after := #[{ on := 3, ground := Ground.data }], guard := none }) (v := ?_) rfl (by kernel_rfl) (by kernel_rfl) (by kernel_rfl) (fun _ _ _ h => h) (Or.inl ⟨by rfl, ?_⟩) (by assumption) ?_
    rotate_left
    · (intro wS hSw; (try dsimp only at hSw); go_simp; (try with_reducible rfl))
    try simp only [Act.put, List.setIfInBounds_toArray, List.set_cons_zero, List.set_cons_succ]
    refine wpAnyH_ready (rs := [1]) (by kernel_rfl) (by simp) ?_
    refine AllReadyH.cons (o := { dst := some 45, op := Op.call { callee := Callee.value (Operand.func 10), args := #[Operand.tmp 44], argTypes := #[9] }, type := 4, pos := "law.go:49", after := #[{ on := 0, ground := Ground.data }], guard := none }) rfl (fun K hK => ?_) AllReadyH.nil
    go_simp
    (first
          | (go_at_call 10; ((with_reducible refine (may_any (a ++ ⟨#[32]⟩ ++ b) _ _ ZB.out (HT.out.next hHeld) HBO.out).mono ?_); rintro e' wN ⟨rfl, hb⟩))
          | (go_at_call 10; ((with_reducible refine (may_any (a.extract 0 k ++ x ++ a.extract k a.size) _ _ Z2.out (HT.out.next hHeld) HI.out).mono ?_); rintro e' wN ⟨rfl, hb⟩))
          | (go_at_call 10; ((with_reducible refine (may_any (a ++ ⟨#[32]⟩) _ _ Z3.out (HT.out.next hHeld) HE.out).mono ?_); rintro e' wN ⟨rfl, hb⟩))
          | (go_at_call 10; ((with_reducible refine (may_any (⟨#[32]⟩ ++ a) _ _ Z4.out (HT.out.next hHeld) HF.out).mono ?_); rintro e' wN ⟨rfl, hb⟩))
          | (go_at_call 7; ((with_reducible refine (awake_any _ (HT.out.next hHeld)).mono ?_); rintro e' wN ⟨rfl, hb⟩)))
    go_wp2_with fail
    refine hK.out _ _ ?_ (fun hNew => ?_)
    · (first | exact (Below.refl _ _).drew | assumption | exact btr hHeld hHeld.size hb)
    clear hK K hHeld
    have hHeld := hNew
    clear hNew
    try simp only [Act.put, List.setIfInBounds_toArray, List.set_cons_zero, List.set_cons_succ]
    refine wpAnyH_take (i := 5) (oi := { dst := some 49, op := Op.binOp BinOp.eql 4 (Operand.tmp 45) (Operand.tmp 48) 4, type := 4, pos := "law.go:49", after := #[{ on := 1, ground := Ground.data }, { on := 4, ground := Ground.data }], guard := none }) (v := ?_) rfl (by kernel_rfl) (by kernel_rfl) (by kernel_rfl) (fun _ _ _ h => h) (Or.inl ⟨by rfl, ?_⟩) (by assumption) ?_
    rotate_left
    · (intro wS hSw; (try dsimp only at hSw); go_simp; (try with_reducible rfl))
    try simp only [Act.put, List.setIfInBounds_toArray, List.set_cons_zero, List.set_cons_succ]
    refine wpAnyH_take (i := 6) (oi := { dst := some 50, op := Op.move (Operand.tmp 49), type := 4, pos := "law.go:49", after := #[{ on := 5, ground := Ground.data }, { on := 1, ground := Ground.chain }], guard := none }) (v := ?_) rfl (by kernel_rfl) (by kernel_rfl) (by kernel_rfl) (fun _ _ _ h => h) (Or.inl ⟨by rfl, ?_⟩) (by assumption) ?_
    rotate_left
    · (intro wS hSw; (try dsimp only at hSw); go_simp; (try with_reducible rfl))
    try simp only [Act.put, List.setIfInBounds_toArray, List.set_cons_zero, List.set_cons_succ]
    refine wpAnyH_take (i := 7) (oi := { dst := some 51, op := Op.move (Operand.tmp 0), type := 9, pos := "law.go:49", after := #[{ on := 6, ground := Ground.guard }], guard := some (6, true) }) (v := ?_) rfl (by kernel_rfl) (by kernel_rfl) (by kernel_rfl) (fun _ _ _ h => h) (Or.inl ⟨by rfl, ?_⟩) (by assumption) ?_
    rotate_left
    · (intro wS hSw; (try dsimp only at hSw); go_simp; (try with_reducible rfl))
    try simp only [Act.put, List.setIfInBounds_toArray, List.set_cons_zero, List.set_cons_succ]
    refine wpAnyH_take (i := 8) (oi := { dst := some 52, op := Op.move (Operand.tmp 3), type := 3, pos := "law.go:49", after := #[{ on := 6, ground := Ground.guard }], guard := some (6, true) }) (v := ?_) rfl (by kernel_rfl) (by kernel_rfl) (by kernel_rfl) (fun _ _ _ h => h) (Or.inl ⟨by rfl, ?_⟩) (by assumption) ?_
    rotate_left
    · (intro wS hSw; (try dsimp only at hSw); go_simp; (try with_reducible rfl))
    try simp only [Act.put, List.setIfInBounds_toArray, List.set_cons_zero, List.set_cons_succ]
    refine wpAnyH_take (i := 9) (oi := { dst := some 53, op := Op.slice 9 (Operand.tmp 51) none (some (Operand.tmp 52)) none, type := 9, pos := "law.go:49", after := #[{ on := 7, ground := Ground.data }, { on := 8, ground := Ground.data }, { on := 6, ground := Ground.guard }], guard := some (6, true) }) (v := ?_) rfl (by kernel_rfl) (by kernel_rfl) (by kernel_rfl) (fun _ _ _ h => h) (Or.inl ⟨by rfl, ?_⟩) (by assumption) ?_
    rotate_left
    · (intro wS hSw; (try dsimp only at hSw); go_simp; (try with_reducible rfl))
    try simp only [Act.put, List.setIfInBounds_toArray, List.set_cons_zero, List.set_cons_succ]
    refine wpAnyH_take (i := 10) (oi := { dst := some 54, op := Op.move (Operand.tmp 10), type := 9, pos := "law.go:49", after := #[{ on := 6, ground := Ground.guard }], guard := some (6, true) }) (v := ?_) rfl (by kernel_rfl) (by kernel_rfl) (by kernel_rfl) (fun _ _ _ h => h) (Or.inl ⟨by rfl, ?_⟩) (by assumption) ?_
    rotate_left
    · (intro wS hSw; (try dsimp only at hSw); go_simp; (try with_reducible rfl))
    try simp only [Act.put, List.setIfInBounds_toArray, List.set_cons_zero, List.set_cons_succ]
    refine wpAnyH_take (i := 11) (oi := { dst := some 55, op := Op.binOp BinOp.add 9 (Operand.tmp 53) (Operand.tmp 54) 9, type := 9, pos := "law.go:49", after := #[{ on := 9, ground := Ground.data }, { on := 10, ground := Ground.data }, { on := 6, ground := Ground.guard }], guard := some (6, true) }) (v := ?_) rfl (by kernel_rfl) (by kernel_rfl) (by kernel_rfl) (fun _ _ _ h => h) (Or.inl ⟨by rfl, ?_⟩) (by assumption) ?_
    rotate_left
    · (intro wS hSw; (try dsimp only at hSw); go_simp; (try with_reducible rfl))
    try simp only [Act.put, List.setIfInBounds_toArray, List.set_cons_zero, List.set_cons_succ]
    refine wpAnyH_take (i := 12) (oi := { dst := some 56, op := Op.move (Operand.tmp 0), type := 9, pos := "law.go:49", after := #[{ on := 6, ground := Ground.guard }], guard := some (6, true) }) (v := ?_) rfl (by kernel_rfl) (by kernel_rfl) (by kernel_rfl) (fun _ _ _ h => h) (Or.inl ⟨by rfl, ?_⟩) (by assumption) ?_
    rotate_left
    · (intro wS hSw; (try dsimp only at hSw); go_simp; (try with_reducible rfl))
    try simp only [Act.put, List.setIfInBounds_toArray, List.set_cons_zero, List.set_cons_succ]
    refine wpAnyH_take (i := 13) (oi := { dst := some 57, op := Op.move (Operand.tmp 3), type := 3, pos := "law.go:49", after := #[{ on := 6, ground := Ground.guard }], guard := some (6, true) }) (v := ?_) rfl (by kernel_rfl) (by kernel_rfl) (by kernel_rfl) (fun _ _ _ h => h) (Or.inl ⟨by rfl, ?_⟩) (by assumption) ?_
    rotate_left
    · (intro wS hSw; (try dsimp only at hSw); go_simp; (try with_reducible rfl))
    try simp only [Act.put, List.setIfInBounds_toArray, List.set_cons_zero, List.set_cons_succ]
    refine wpAnyH_take (i := 14) (oi := { dst := some 58, op := Op.slice 9 (Operand.tmp 56) (some (Operand.tmp 57)) none none, type := 9, pos := "law.go:49", after := #[{ on := 12, ground := Ground.data }, { on := 13, ground := Ground.data }, { on := 6, ground := Ground.guard }], guard := some (6, true) }) (v := ?_) rfl (by kernel_rfl) (by kernel_rfl) (by kernel_rfl) (fun _ _ _ h => h) (Or.inl ⟨by rfl, ?_⟩) (by assumption) ?_
    rotate_left
    · (intro wS hSw; (try dsimp only at hSw); go_simp; (try with_reducible rfl))
    try simp only [Act.put, List.setIfInBounds_toArray, List.set_cons_zero, List.set_cons_succ]
    refine wpAnyH_take (i := 15) (oi := { dst := some 59, op := Op.binOp BinOp.add 9 (Operand.tmp 55) (Operand.tmp 58) 9, type := 9, pos := "law.go:49", after := #[{ on := 11, ground := Ground.data }, { on := 14, ground := Ground.data }, { on := 6, ground := Ground.guard }], guard := some (6, true) }) (v := ?_) rfl (by kernel_rfl) (by kernel_rfl) (by kernel_rfl) (fun _ _ _ h => h) (Or.inl ⟨by rfl, ?_⟩) (by assumption) ?_
    rotate_left
    · (intro wS hSw; (try dsimp only at hSw); go_simp; (try with_reducible rfl))
    try simp only [Act.put, List.setIfInBounds_toArray, List.set_cons_zero, List.set_cons_succ]
    refine wpAnyH_ready (rs := [16]) (by kernel_rfl) (by simp) ?_
    refine AllReadyH.cons (o := { dst := some 60, op := Op.call { callee := Callee.value (Operand.func 10), args := #[Operand.tmp 59], argTypes := #[9] }, type := 4, pos := "law.go:49", after := #[{ on := 15, ground := Ground.data }, { on := 6, ground := Ground.chain }, { on := 6, ground := Ground.guard }], guard := some (6, true) }) rfl (fun K hK => ?_) AllReadyH.nil
    go_simp
    (first
          | (go_at_call 10; ((with_reducible refine (may_any (a ++ ⟨#[32]⟩ ++ b) _ _ ZB.out (HT.out.next hHeld) HBO.out).mono ?_); rintro e' wN ⟨rfl, hb⟩))
          | (go_at_call 10; ((with_reducible refine (may_any (a.extract 0 k ++ x ++ a.extract k a.size) _ _ Z2.out (HT.out.next hHeld) HI.out).mono ?_); rintro e' wN ⟨rfl, hb⟩))
          | (go_at_call 10; ((with_reducible refine (may_any (a ++ ⟨#[32]⟩) _ _ Z3.out (HT.out.next hHeld) HE.out).mono ?_); rintro e' wN ⟨rfl, hb⟩))
          | (go_at_call 10; ((with_reducible refine (may_any (⟨#[32]⟩ ++ a) _ _ Z4.out (HT.out.next hHeld) HF.out).mono ?_); rintro e' wN ⟨rfl, hb⟩))
          | (go_at_call 7; ((with_reducible refine (awake_any _ (HT.out.next hHeld)).mono ?_); rintro e' wN ⟨rfl, hb⟩)))
    go_wp2_with fail
    refine hK.out _ _ ?_ (fun hNew => ?_)
    · (first | exact (Below.refl _ _).drew | assumption | exact btr hHeld hHeld.size hb)
    clear hK K hHeld
    have hHeld := hNew
    clear hNew
    try simp only [Act.put, List.setIfInBounds_toArray, List.set_cons_zero, List.set_cons_succ]
    refine wpAnyH_take (i := 17) (oi := { dst := some 61, op := Op.unOp UnOp.not 4 (Operand.tmp 60), type := 4, pos := "law.go:49", after := #[{ on := 16, ground := Ground.data }, { on := 6, ground := Ground.guard }], guard := some (6, true) }) (v := ?_) rfl (by kernel_rfl) (by kernel_rfl) (by kernel_rfl) (fun _ _ _ h => h) (Or.inl ⟨by rfl, ?_⟩) (by assumption) ?_
    rotate_left
    · (intro wS hSw; (try dsimp only at hSw); go_simp; (try with_reducible rfl))
    try simp only [Act.put, List.setIfInBounds_toArray, List.set_cons_zero, List.set_cons_succ]
    refine wpAnyH_take (i := 18) (oi := { dst := some 62, op := Op.pick (Operand.tmp 50) (Operand.tmp 61) (Operand.const (Value.bool false)), type := 4, pos := "law.go:49", after := #[{ on := 6, ground := Ground.data }, { on := 17, ground := Ground.data }], guard := none }) (v := ?_) rfl (by kernel_rfl) (by kernel_rfl) (by kernel_rfl) (fun _ _ _ h => h) (Or.inl ⟨by rfl, ?_⟩) (by assumption) ?_
    rotate_left
    · (intro wS hSw; (try dsimp only at hSw); go_simp; (try with_reducible rfl))
    try simp only [Act.put, List.setIfInBounds_toArray, List.set_cons_zero, List.set_cons_succ]
    refine wpAnyH_take (i := 19) (oi := { dst := some 63, op := Op.move (Operand.tmp 62), type := 4, pos := "law.go:49", after := #[{ on := 18, ground := Ground.data }, { on := 16, ground := Ground.chain }], guard := none }) (v := ?_) rfl (by kernel_rfl) (by kernel_rfl) (by kernel_rfl) (fun _ _ _ h => h) (Or.inl ⟨by rfl, ?_⟩) (by assumption) ?_
    rotate_left
    · (intro wS hSw; (try dsimp only at hSw); go_simp; (try with_reducible rfl))
    try simp only [Act.put, List.setIfInBounds_toArray, List.set_cons_zero, List.set_cons_succ]
    refine wpAnyH_take (i := 20) (oi := { dst := some 64, op := Op.move (Operand.tmp 0), type := 9, pos := "law.go:49", after := #[{ on := 19, ground := Ground.guard }], guard := some (19, true) }) (v := ?_) rfl (by kernel_rfl) (by kernel_rfl) (by kernel_rfl) (fun _ _ _ h => h) (Or.inl ⟨by rfl, ?_⟩) (by assumption) ?_
    rotate_left
    · (intro wS hSw; (try dsimp only at hSw); go_simp; (try with_reducible rfl))
    try simp only [Act.put, List.setIfInBounds_toArray, List.set_cons_zero, List.set_cons_succ]
    refine wpAnyH_take (i := 21) (oi := { dst := some 65, op := Op.binOp BinOp.add 9 (Operand.tmp 64) (Operand.const (Value.string { data := #[32] })) 9, type := 9, pos := "law.go:49", after := #[{ on := 20, ground := Ground.data }, { on := 19, ground := Ground.guard }], guard := some (19, true) }) (v := ?_) rfl (by kernel_rfl) (by kernel_rfl) (by kernel_rfl) (fun _ _ _ h => h) (Or.inl ⟨by rfl, ?_⟩) (by assumption) ?_
    rotate_left
    · (intro wS hSw; (try dsimp only at hSw); go_simp; (try with_reducible rfl))
    try simp only [Act.put, List.setIfInBounds_toArray, List.set_cons_zero, List.set_cons_succ]
    refine wpAnyH_ready (rs := [22]) (by kernel_rfl) (by simp) ?_
    refine AllReadyH.cons (o := { dst := some 66, op := Op.call { callee := Callee.value (Operand.func 10), args := #[Operand.tmp 65], argTypes := #[9] }, type := 4, pos := "law.go:49", after := #[{ on := 21, ground := Ground.data }, { on := 19, ground := Ground.chain }, { on := 19, ground := Ground.guard }], guard := some (19, true) }) rfl (fun K hK => ?_) AllReadyH.nil
    go_simp
    (first
          | (go_at_call 10; ((with_reducible refine (may_any (a ++ ⟨#[32]⟩ ++ b) _ _ ZB.out (HT.out.next hHeld) HBO.out).mono ?_); rintro e' wN ⟨rfl, hb⟩))
          | (go_at_call 10; ((with_reducible refine (may_any (a.extract 0 k ++ x ++ a.extract k a.size) _ _ Z2.out (HT.out.next hHeld) HI.out).mono ?_); rintro e' wN ⟨rfl, hb⟩))
          | (go_at_call 10; ((with_reducible refine (may_any (a ++ ⟨#[32]⟩) _ _ Z3.out (HT.out.next hHeld) HE.out).mono ?_); rintro e' wN ⟨rfl, hb⟩))
          | (go_at_call 10; ((with_reducible refine (may_any (⟨#[32]⟩ ++ a) _ _ Z4.out (HT.out.next hHeld) HF.out).mono ?_); rintro e' wN ⟨rfl, hb⟩))
          | (go_at_call 7; ((with_reducible refine (awake_any _ (HT.out.next hHeld)).mono ?_); rintro e' wN ⟨rfl, hb⟩)))
    go_wp2_with fail
    refine hK.out _ _ ?_ (fun hNew => ?_)
    · (first | exact (Below.refl _ _).drew | assumption | exact btr hHeld hHeld.size hb)
    clear hK K hHeld
    have hHeld := hNew
    clear hNew
    try simp only [Act.put, List.setIfInBounds_toArray, List.set_cons_zero, List.set_cons_succ]
    refine wpAnyH_take (i := 23) (oi := { dst := some 67, op := Op.unOp UnOp.not 4 (Operand.tmp 66), type := 4, pos := "law.go:49", after := #[{ on := 22, ground := Ground.data }, { on := 19, ground := Ground.guard }], guard := some (19, true) }) (v := ?_) rfl (by kernel_rfl) (by kernel_rfl) (by kernel_rfl) (fun _ _ _ h => h) (Or.inl ⟨by rfl, ?_⟩) (by assumption) ?_
    rotate_left
    · (intro wS hSw; (try dsimp only at hSw); go_simp; (try with_reducible rfl))
    try simp only [Act.put, List.setIfInBounds_toArray, List.set_cons_zero, List.set_cons_succ]
    refine wpAnyH_take (i := 24) (oi := { dst := some 68, op := Op.pick (Operand.tmp 63) (Operand.tmp 67) (Operand.const (Value.bool false)), type := 4, pos := "law.go:49", after := #[{ on := 19, ground := Ground.data }, { on := 23, ground := Ground.data }], guard := none }) (v := ?_) rfl (by kernel_rfl) (by kernel_rfl) (by kernel_rfl) (fun _ _ _ h => h) (Or.inl ⟨by rfl, ?_⟩) (by assumption) ?_
    rotate_left
    · (intro wS hSw; (try dsimp only at hSw); go_simp; (try with_reducible rfl))
    try simp only [Act.put, List.setIfInBounds_toArray, List.set_cons_zero, List.set_cons_succ]
    refine wpAnyH_take (i := 25) (oi := { dst := some 69, op := Op.move (Operand.tmp 68), type := 4, pos := "law.go:49", after := #[{ on := 24, ground := Ground.data }, { on := 22, ground := Ground.chain }], guard := none }) (v := ?_) rfl (by kernel_rfl) (by kernel_rfl) (by kernel_rfl) (fun _ _ _ h => h) (Or.inl ⟨by rfl, ?_⟩) (by assumption) ?_
    rotate_left
    · (intro wS hSw; (try dsimp only at hSw); go_simp; (try with_reducible rfl))
    try simp only [Act.put, List.setIfInBounds_toArray, List.set_cons_zero, List.set_cons_succ]
    refine wpAnyH_take (i := 26) (oi := { dst := some 70, op := Op.move (Operand.tmp 0), type := 9, pos := "law.go:49", after := #[{ on := 25, ground := Ground.guard }], guard := some (25, true) }) (v := ?_) rfl (by kernel_rfl) (by kernel_rfl) (by kernel_rfl) (fun _ _ _ h => h) (Or.inl ⟨by rfl, ?_⟩) (by assumption) ?_
    rotate_left
    · (intro wS hSw; (try dsimp only at hSw); go_simp; (try with_reducible rfl))
    try simp only [Act.put, List.setIfInBounds_toArray, List.set_cons_zero, List.set_cons_succ]
    refine wpAnyH_take (i := 27) (oi := { dst := some 71, op := Op.binOp BinOp.add 9 (Operand.const (Value.string { data := #[32] })) (Operand.tmp 70) 9, type := 9, pos := "law.go:49", after := #[{ on := 26, ground := Ground.data }, { on := 25, ground := Ground.guard }], guard := some (25, true) }) (v := ?_) rfl (by kernel_rfl) (by kernel_rfl) (by kernel_rfl) (fun _ _ _ h => h) (Or.inl ⟨by rfl, ?_⟩) (by assumption) ?_
    rotate_left
    · (intro wS hSw; (try dsimp only at hSw); go_simp; (try with_reducible rfl))
    try simp only [Act.put, List.setIfInBounds_toArray, List.set_cons_zero, List.set_cons_succ]
    refine wpAnyH_ready (rs := [28]) (by kernel_rfl) (by simp) ?_
    refine AllReadyH.cons (o := { dst := some 72, op := Op.call { callee := Callee.value (Operand.func 10), args := #[Operand.tmp 71], argTypes := #[9] }, type := 4, pos := "law.go:49", after := #[{ on := 27, ground := Ground.data }, { on := 25, ground := Ground.chain }, { on := 25, ground := Ground.guard }], guard := some (25, true) }) rfl (fun K hK => ?_) AllReadyH.nil
    go_simp
    (first
          | (go_at_call 10; ((with_reducible refine (may_any (a ++ ⟨#[32]⟩ ++ b) _ _ ZB.out (HT.out.next hHeld) HBO.out).mono ?_); rintro e' wN ⟨rfl, hb⟩))
          | (go_at_call 10; ((with_reducible refine (may_any (a.extract 0 k ++ x ++ a.extract k a.size) _ _ Z2.out (HT.out.next hHeld) HI.out).mono ?_); rintro e' wN ⟨rfl, hb⟩))
          | (go_at_call 10; ((with_reducible refine (may_any (a ++ ⟨#[32]⟩) _ _ Z3.out (HT.out.next hHeld) HE.out).mono ?_); rintro e' wN ⟨rfl, hb⟩))
          | (go_at_call 10; ((with_reducible refine (may_any (⟨#[32]⟩ ++ a) _ _ Z4.out (HT.out.next hHeld) HF.out).mono ?_); rintro e' wN ⟨rfl, hb⟩))
          | (go_at_call 7; ((with_reducible refine (awake_any _ (HT.out.next hHeld)).mono ?_); rintro e' wN ⟨rfl, hb⟩)))
    go_wp2_with fail
    refine hK.out _ _ ?_ (fun hNew => ?_)
    · (first | exact (Below.refl _ _).drew | assumption | exact btr hHeld hHeld.size hb)
    clear hK K hHeld
    have hHeld := hNew
    clear hNew
    try simp only [Act.put, List.setIfInBounds_toArray, List.set_cons_zero, List.set_cons_succ]
    refine wpAnyH_take (i := 29) (oi := { dst := some 73, op := Op.unOp UnOp.not 4 (Operand.tmp 72), type := 4, pos := "law.go:49", after := #[{ on := 28, ground := Ground.data }, { on := 25, ground := Ground.guard }], guard := some (25, true) }) (v := ?_) rfl (by kernel_rfl) (by kernel_rfl) (by kernel_rfl) (fun _ _ _ h => h) (Or.inl ⟨by rfl, ?_⟩) (by assumption) ?_
    rotate_left
    · (intro wS hSw; (try dsimp only at hSw); go_simp; (try with_reducible rfl))
    try simp only [Act.put, List.setIfInBounds_toArray, List.set_cons_zero, List.set_cons_succ]
    refine wpAnyH_take (i := 30) (oi := { dst := some 74, op := Op.pick (Operand.tmp 69) (Operand.tmp 73) (Operand.const (Value.bool false)), type := 4, pos := "law.go:49", after := #[{ on := 25, ground := Ground.data }, { on := 29, ground := Ground.data }], guard := none }) (v := ?_) rfl (by kernel_rfl) (by kernel_rfl) (by kernel_rfl) (fun _ _ _ h => h) (Or.inl ⟨by rfl, ?_⟩) (by assumption) ?_
    rotate_left
    · (intro wS hSw; (try dsimp only at hSw); go_simp; (try with_reducible rfl))
    try simp only [Act.put, List.setIfInBounds_toArray, List.set_cons_zero, List.set_cons_succ]
    refine wpAnyH_take (i := 31) (oi := { dst := some 75, op := Op.move (Operand.tmp 74), type := 4, pos := "law.go:49", after := #[{ on := 30, ground := Ground.data }, { on := 28, ground := Ground.chain }], guard := none }) (v := ?_) rfl (by kernel_rfl) (by kernel_rfl) (by kernel_rfl) (fun _ _ _ h => h) (Or.inl ⟨by rfl, ?_⟩) (by assumption) ?_
    rotate_left
    · (intro wS hSw; (try dsimp only at hSw); go_simp; (try with_reducible rfl))
    try simp only [Act.put, List.setIfInBounds_toArray, List.set_cons_zero, List.set_cons_succ]
    refine wpAnyH_ready (rs := [32]) (by kernel_rfl) (by simp) ?_
    refine AllReadyH.cons (o := { dst := some 76, op := Op.call { callee := Callee.value (Operand.func 7), args := #[], argTypes := #[] }, type := 4, pos := "law.go:49", after := #[{ on := 31, ground := Ground.chain }, { on := 31, ground := Ground.guard }], guard := some (31, true) }) rfl (fun K hK => ?_) AllReadyH.nil
    go_simp
    (first
          | (go_at_call 10; ((with_reducible refine (may_any (a ++ ⟨#[32]⟩ ++ b) _ _ ZB.out (HT.out.next hHeld) HBO.out).mono ?_); rintro e' wN ⟨rfl, hb⟩))
          | (go_at_call 10; ((with_reducible refine (may_any (a.extract 0 k ++ x ++ a.extract k a.size) _ _ Z2.out (HT.out.next hHeld) HI.out).mono ?_); rintro e' wN ⟨rfl, hb⟩))
          | (go_at_call 10; ((with_reducible refine (may_any (a ++ ⟨#[32]⟩) _ _ Z3.out (HT.out.next hHeld) HE.out).mono ?_); rintro e' wN ⟨rfl, hb⟩))
          | (go_at_call 10; ((with_reducible refine (may_any (⟨#[32]⟩ ++ a) _ _ Z4.out (HT.out.next hHeld) HF.out).mono ?_); rintro e' wN ⟨rfl, hb⟩))
          | (go_at_call 7; ((with_reducible refine (awake_any _ (HT.out.next hHeld)).mono ?_); rintro e' wN ⟨rfl, hb⟩)))
    go_wp2_with fail
    refine hK.out _ _ ?_ (fun hNew => ?_)
    · (first | exact (Below.refl _ _).drew | assumption | exact btr hHeld hHeld.size hb)
    clear hK K hHeld
    have hHeld := hNew
    clear hNew
    try simp only [Act.put, List.setIfInBounds_toArray, List.set_cons_zero, List.set_cons_succ]
    refine wpAnyH_take (i := 33) (oi := { dst := some 77, op := Op.pick (Operand.tmp 75) (Operand.tmp 76) (Operand.const (Value.bool false)), type := 4, pos := "law.go:49", after := #[{ on := 31, ground := Ground.data }, { on := 32, ground := Ground.data }], guard := none }) (v := ?_) rfl (by kernel_rfl) (by kernel_rfl) (by kernel_rfl) (fun _ _ _ h => h) (Or.inl ⟨by rfl, ?_⟩) (by assumption) ?_
    rotate_left
    · (intro wS hSw; (try dsimp only at hSw); go_simp; (try with_reducible rfl))
    try simp only [Act.put, List.setIfInBounds_toArray, List.set_cons_zero, List.set_cons_succ]
    refine wpAnyH_take (i := 34) (oi := { dst := some 8, op := Op.assign (Operand.tmp 77), type := 4, pos := "law.go:49", after := #[{ on := 33, ground := Ground.data }, { on := 32, ground := Ground.chain }, { on := 0, ground := Ground.phase }, { on := 1, ground := Ground.phase }, { on := 2, ground := Ground.phase }, { on := 3, ground := Ground.phase }, { on := 4, ground := Ground.phase }, { on := 5, ground := Ground.phase }, { on := 6, ground := Ground.phase }, { on := 7, ground := Ground.phase }, { on := 8, ground := Ground.phase }, { on := 9, ground := Ground.phase }, { on := 10, ground := Ground.phase }, { on := 11, ground := Ground.phase }, { on := 12, ground := Ground.phase }, { on := 13, ground := Ground.phase }, { on := 14, ground := Ground.phase }, { on := 15, ground := Ground.phase }, { on := 16, ground := Ground.phase }, { on := 17, ground := Ground.phase }, { on := 18, ground := Ground.phase }, { on := 19, ground := Ground.phase }, { on := 20, ground := Ground.phase }, { on := 21, ground := Ground.phase }, { on := 22, ground := Ground.phase }, { on := 23, ground := Ground.phase }, { on := 24, ground := Ground.phase }, { on := 25, ground := Ground.phase }, { on := 26, ground := Ground.phase }, { on := 27, ground := Ground.phase }, { on := 28, ground := Ground.phase }, { on := 29, ground := Ground.phase }, { on := 30, ground := Ground.phase }, { on := 31, ground := Ground.phase }, { on := 32, ground := Ground.phase }, { on := 33, ground := Ground.phase }], guard := none }) (v := ?_) rfl (by kernel_rfl) (by kernel_rfl) (by kernel_rfl) (fun _ _ _ h => h) (Or.inl ⟨by rfl, ?_⟩) (by assumption) ?_
    rotate_left
    · (intro wS hSw; (try dsimp only at hSw); go_simp; (try with_reducible rfl))
    try simp only [Act.put, List.setIfInBounds_toArray, List.set_cons_zero, List.set_cons_succ]
    refine wpAnyH_done (by kernel_rfl) ?_ _
    refine NoPanic.normal ?_
    go_wp2_with fail
    go_ret
    exact ⟨rfl, btr HB HB.size hHeld⟩
  · rw [decide_eq_false h20] at hboth
    have HBO := Lib.hid hboth
    have t1 : ¬ (a.size : Int) + 1 + (b.size : Int) ≤ 20 := by omega
    have t2 : ¬ ((a ++ ⟨#[32]⟩ ++ b).size : Int) ≤ 20 := by omega
    clear hboth hins hend hfro z1 z2 z3 z4 na nb h20
    refine wp_region_noPanic ?_
    refine wp_region_held_drew (S := (fun w' => Below w2.heap.size w2 w')) (by kernel_rfl) ?_ (fun hHeld => ?_)
    · (first | exact (Below.refl _ _).drew | assumption | exact btr hHeld hHeld.size hb)
    refine wpAnyH_take (i := 0) (oi := { dst := some 44, op := Op.move (Operand.tmp 9), type := 9, pos := "law.go:49", after := #[], guard := none }) (v := ?_) rfl (by kernel_rfl) (by kernel_rfl) (by kernel_rfl) (fun _ _ _ h => h) (Or.inl ⟨by rfl, ?_⟩) (by assumption) ?_
    rotate_left
    · (intro wS hSw; (try dsimp only at hSw); go_simp; (try with_reducible rfl))
    try simp only [Act.put, List.setIfInBounds_toArray, List.set_cons_zero, List.set_cons_succ]
    refine wpAnyH_take (i := 2) (oi := { dst := some 46, op := Op.move (Operand.tmp 9), type := 9, pos := "law.go:49", after := #[], guard := none }) (v := ?_) rfl (by kernel_rfl) (by kernel_rfl) (by kernel_rfl) (fun _ _ _ h => h) (Or.inl ⟨by rfl, ?_⟩) (by assumption) ?_
    rotate_left
    · (intro wS hSw; (try dsimp only at hSw); go_simp; (try with_reducible rfl))
    try simp only [Act.put, List.setIfInBounds_toArray, List.set_cons_zero, List.set_cons_succ]
    refine wpAnyH_take (i := 3) (oi := { dst := some 47, op := Op.call { callee := Callee.builtin Builtin.len, args := #[Operand.tmp 46], argTypes := #[9] }, type := 3, pos := "law.go:49", after := #[{ on := 2, ground := Ground.data }], guard := none }) (v := ?_) rfl (by kernel_rfl) (by kernel_rfl) (by kernel_rfl) (fun _ _ _ h => h) (Or.inl ⟨by rfl, ?_⟩) (by assumption) ?_
    rotate_left
    · (intro wS hSw; (try dsimp only at hSw); go_simp; (try with_reducible rfl))
    try simp only [Act.put, List.setIfInBounds_toArray, List.set_cons_zero, List.set_cons_succ]
    refine wpAnyH_take (i := 4) (oi := { dst := some 48, op := Op.binOp BinOp.leq 3 (Operand.tmp 47) (Operand.const (Value.int IntKind.i64 20)) 3, type := 4, pos := "law.go:49", after := #[{ on := 3, ground := Ground.data }], guard := none }) (v := ?_) rfl (by kernel_rfl) (by kernel_rfl) (by kernel_rfl) (fun _ _ _ h => h) (Or.inl ⟨by rfl, ?_⟩) (by assumption) ?_
    rotate_left
    · (intro wS hSw; (try dsimp only at hSw); go_simp; (try with_reducible rfl))
    try simp only [Act.put, List.setIfInBounds_toArray, List.set_cons_zero, List.set_cons_succ]
    refine wpAnyH_ready (rs := [1]) (by kernel_rfl) (by simp) ?_
    refine AllReadyH.cons (o := { dst := some 45, op := Op.call { callee := Callee.value (Operand.func 10), args := #[Operand.tmp 44], argTypes := #[9] }, type := 4, pos := "law.go:49", after := #[{ on := 0, ground := Ground.data }], guard := none }) rfl (fun K hK => ?_) AllReadyH.nil
    go_simp
    (first
          | (go_at_call 10; ((with_reducible refine (may_any (a ++ ⟨#[32]⟩ ++ b) _ _ ZB.out (HT.out.next hHeld) HBO.out).mono ?_); rintro e' wN ⟨rfl, hb⟩))
          | (go_at_call 10; ((with_reducible refine (may_any (a.extract 0 k ++ x ++ a.extract k a.size) _ _ Z2.out (HT.out.next hHeld) HI.out).mono ?_); rintro e' wN ⟨rfl, hb⟩))
          | (go_at_call 10; ((with_reducible refine (may_any (a ++ ⟨#[32]⟩) _ _ Z3.out (HT.out.next hHeld) HE.out).mono ?_); rintro e' wN ⟨rfl, hb⟩))
          | (go_at_call 10; ((with_reducible refine (may_any (⟨#[32]⟩ ++ a) _ _ Z4.out (HT.out.next hHeld) HF.out).mono ?_); rintro e' wN ⟨rfl, hb⟩))
          | (go_at_call 7; ((with_reducible refine (awake_any _ (HT.out.next hHeld)).mono ?_); rintro e' wN ⟨rfl, hb⟩)))
    go_wp2_with fail
    refine hK.out _ _ ?_ (fun hNew => ?_)
    · (first | exact (Below.refl _ _).drew | assumption | exact btr hHeld hHeld.size hb)
    clear hK K hHeld
    have hHeld := hNew
    clear hNew
    try simp only [Act.put, List.setIfInBounds_toArray, List.set_cons_zero, List.set_cons_succ]
    refine wpAnyH_take (i := 5) (oi := { dst := some 49, op := Op.binOp BinOp.eql 4 (Operand.tmp 45) (Operand.tmp 48) 4, type := 4, pos := "law.go:49", after := #[{ on := 1, ground := Ground.data }, { on := 4, ground := Ground.data }], guard := none }) (v := ?_) rfl (by kernel_rfl) (by kernel_rfl) (by kernel_rfl) (fun _ _ _ h => h) (Or.inl ⟨by rfl, ?_⟩) (by assumption) ?_
    rotate_left
    · (intro wS hSw; (try dsimp only at hSw); go_simp; (try with_reducible rfl))
    try simp only [Act.put, List.setIfInBounds_toArray, List.set_cons_zero, List.set_cons_succ]
    refine wpAnyH_take (i := 6) (oi := { dst := some 50, op := Op.move (Operand.tmp 49), type := 4, pos := "law.go:49", after := #[{ on := 5, ground := Ground.data }, { on := 1, ground := Ground.chain }], guard := none }) (v := ?_) rfl (by kernel_rfl) (by kernel_rfl) (by kernel_rfl) (fun _ _ _ h => h) (Or.inl ⟨by rfl, ?_⟩) (by assumption) ?_
    rotate_left
    · (intro wS hSw; (try dsimp only at hSw); go_simp; (try with_reducible rfl))
    try simp only [Act.put, List.setIfInBounds_toArray, List.set_cons_zero, List.set_cons_succ]
    refine wpAnyH_take (i := 7) (oi := { dst := some 51, op := Op.move (Operand.tmp 0), type := 9, pos := "law.go:49", after := #[{ on := 6, ground := Ground.guard }], guard := some (6, true) }) (v := ?_) rfl (by kernel_rfl) (by kernel_rfl) (by kernel_rfl) (fun _ _ _ h => h) (Or.inl ⟨by rfl, ?_⟩) (by assumption) ?_
    rotate_left
    · (intro wS hSw; (try dsimp only at hSw); go_simp; (try with_reducible rfl))
    try simp only [Act.put, List.setIfInBounds_toArray, List.set_cons_zero, List.set_cons_succ]
    refine wpAnyH_take (i := 8) (oi := { dst := some 52, op := Op.move (Operand.tmp 3), type := 3, pos := "law.go:49", after := #[{ on := 6, ground := Ground.guard }], guard := some (6, true) }) (v := ?_) rfl (by kernel_rfl) (by kernel_rfl) (by kernel_rfl) (fun _ _ _ h => h) (Or.inl ⟨by rfl, ?_⟩) (by assumption) ?_
    rotate_left
    · (intro wS hSw; (try dsimp only at hSw); go_simp; (try with_reducible rfl))
    try simp only [Act.put, List.setIfInBounds_toArray, List.set_cons_zero, List.set_cons_succ]
    refine wpAnyH_take (i := 9) (oi := { dst := some 53, op := Op.slice 9 (Operand.tmp 51) none (some (Operand.tmp 52)) none, type := 9, pos := "law.go:49", after := #[{ on := 7, ground := Ground.data }, { on := 8, ground := Ground.data }, { on := 6, ground := Ground.guard }], guard := some (6, true) }) (v := ?_) rfl (by kernel_rfl) (by kernel_rfl) (by kernel_rfl) (fun _ _ _ h => h) (Or.inl ⟨by rfl, ?_⟩) (by assumption) ?_
    rotate_left
    · (intro wS hSw; (try dsimp only at hSw); go_simp; (try with_reducible rfl))
    try simp only [Act.put, List.setIfInBounds_toArray, List.set_cons_zero, List.set_cons_succ]
    refine wpAnyH_take (i := 10) (oi := { dst := some 54, op := Op.move (Operand.tmp 10), type := 9, pos := "law.go:49", after := #[{ on := 6, ground := Ground.guard }], guard := some (6, true) }) (v := ?_) rfl (by kernel_rfl) (by kernel_rfl) (by kernel_rfl) (fun _ _ _ h => h) (Or.inl ⟨by rfl, ?_⟩) (by assumption) ?_
    rotate_left
    · (intro wS hSw; (try dsimp only at hSw); go_simp; (try with_reducible rfl))
    try simp only [Act.put, List.setIfInBounds_toArray, List.set_cons_zero, List.set_cons_succ]
    refine wpAnyH_take (i := 11) (oi := { dst := some 55, op := Op.binOp BinOp.add 9 (Operand.tmp 53) (Operand.tmp 54) 9, type := 9, pos := "law.go:49", after := #[{ on := 9, ground := Ground.data }, { on := 10, ground := Ground.data }, { on := 6, ground := Ground.guard }], guard := some (6, true) }) (v := ?_) rfl (by kernel_rfl) (by kernel_rfl) (by kernel_rfl) (fun _ _ _ h => h) (Or.inl ⟨by rfl, ?_⟩) (by assumption) ?_
    rotate_left
    · (intro wS hSw; (try dsimp only at hSw); go_simp; (try with_reducible rfl))
    try simp only [Act.put, List.setIfInBounds_toArray, List.set_cons_zero, List.set_cons_succ]
    refine wpAnyH_take (i := 12) (oi := { dst := some 56, op := Op.move (Operand.tmp 0), type := 9, pos := "law.go:49", after := #[{ on := 6, ground := Ground.guard }], guard := some (6, true) }) (v := ?_) rfl (by kernel_rfl) (by kernel_rfl) (by kernel_rfl) (fun _ _ _ h => h) (Or.inl ⟨by rfl, ?_⟩) (by assumption) ?_
    rotate_left
    · (intro wS hSw; (try dsimp only at hSw); go_simp; (try with_reducible rfl))
    try simp only [Act.put, List.setIfInBounds_toArray, List.set_cons_zero, List.set_cons_succ]
    refine wpAnyH_take (i := 13) (oi := { dst := some 57, op := Op.move (Operand.tmp 3), type := 3, pos := "law.go:49", after := #[{ on := 6, ground := Ground.guard }], guard := some (6, true) }) (v := ?_) rfl (by kernel_rfl) (by kernel_rfl) (by kernel_rfl) (fun _ _ _ h => h) (Or.inl ⟨by rfl, ?_⟩) (by assumption) ?_
    rotate_left
    · (intro wS hSw; (try dsimp only at hSw); go_simp; (try with_reducible rfl))
    try simp only [Act.put, List.setIfInBounds_toArray, List.set_cons_zero, List.set_cons_succ]
    refine wpAnyH_take (i := 14) (oi := { dst := some 58, op := Op.slice 9 (Operand.tmp 56) (some (Operand.tmp 57)) none none, type := 9, pos := "law.go:49", after := #[{ on := 12, ground := Ground.data }, { on := 13, ground := Ground.data }, { on := 6, ground := Ground.guard }], guard := some (6, true) }) (v := ?_) rfl (by kernel_rfl) (by kernel_rfl) (by kernel_rfl) (fun _ _ _ h => h) (Or.inl ⟨by rfl, ?_⟩) (by assumption) ?_
    rotate_left
    · (intro wS hSw; (try dsimp only at hSw); go_simp; (try with_reducible rfl))
    try simp only [Act.put, List.setIfInBounds_toArray, List.set_cons_zero, List.set_cons_succ]
    refine wpAnyH_take (i := 15) (oi := { dst := some 59, op := Op.binOp BinOp.add 9 (Operand.tmp 55) (Operand.tmp 58) 9, type := 9, pos := "law.go:49", after := #[{ on := 11, ground := Ground.data }, { on := 14, ground := Ground.data }, { on := 6, ground := Ground.guard }], guard := some (6, true) }) (v := ?_) rfl (by kernel_rfl) (by kernel_rfl) (by kernel_rfl) (fun _ _ _ h => h) (Or.inl ⟨by rfl, ?_⟩) (by assumption) ?_
    rotate_left
    · (intro wS hSw; (try dsimp only at hSw); go_simp; (try with_reducible rfl))
    try simp only [Act.put, List.setIfInBounds_toArray, List.set_cons_zero, List.set_cons_succ]
    refine wpAnyH_ready (rs := [16]) (by kernel_rfl) (by simp) ?_
    refine AllReadyH.cons (o := { dst := some 60, op := Op.call { callee := Callee.value (Operand.func 10), args := #[Operand.tmp 59], argTypes := #[9] }, type := 4, pos := "law.go:49", after := #[{ on := 15, ground := Ground.data }, { on := 6, ground := Ground.chain }, { on := 6, ground := Ground.guard }], guard := some (6, true) }) rfl (fun K hK => ?_) AllReadyH.nil
    go_simp
    (first
          | (go_at_call 10; ((with_reducible refine (may_any (a ++ ⟨#[32]⟩ ++ b) _ _ ZB.out (HT.out.next hHeld) HBO.out).mono ?_); rintro e' wN ⟨rfl, hb⟩))
          | (go_at_call 10; ((with_reducible refine (may_any (a.extract 0 k ++ x ++ a.extract k a.size) _ _ Z2.out (HT.out.next hHeld) HI.out).mono ?_); rintro e' wN ⟨rfl, hb⟩))
          | (go_at_call 10; ((with_reducible refine (may_any (a ++ ⟨#[32]⟩) _ _ Z3.out (HT.out.next hHeld) HE.out).mono ?_); rintro e' wN ⟨rfl, hb⟩))
          | (go_at_call 10; ((with_reducible refine (may_any (⟨#[32]⟩ ++ a) _ _ Z4.out (HT.out.next hHeld) HF.out).mono ?_); rintro e' wN ⟨rfl, hb⟩))
          | (go_at_call 7; ((with_reducible refine (awake_any _ (HT.out.next hHeld)).mono ?_); rintro e' wN ⟨rfl, hb⟩)))
    go_wp2_with fail
    refine hK.out _ _ ?_ (fun hNew => ?_)
    · (first | exact (Below.refl _ _).drew | assumption | exact btr hHeld hHeld.size hb)
    clear hK K hHeld
    have hHeld := hNew
    clear hNew
    try simp only [Act.put, List.setIfInBounds_toArray, List.set_cons_zero, List.set_cons_succ]
    refine wpAnyH_take (i := 17) (oi := { dst := some 61, op := Op.unOp UnOp.not 4 (Operand.tmp 60), type := 4, pos := "law.go:49", after := #[{ on := 16, ground := Ground.data }, { on := 6, ground := Ground.guard }], guard := some (6, true) }) (v := ?_) rfl (by kernel_rfl) (by kernel_rfl) (by kernel_rfl) (fun _ _ _ h => h) (Or.inl ⟨by rfl, ?_⟩) (by assumption) ?_
    rotate_left
    · (intro wS hSw; (try dsimp only at hSw); go_simp; (try with_reducible rfl))
    try simp only [Act.put, List.setIfInBounds_toArray, List.set_cons_zero, List.set_cons_succ]
    refine wpAnyH_take (i := 18) (oi := { dst := some 62, op := Op.pick (Operand.tmp 50) (Operand.tmp 61) (Operand.const (Value.bool false)), type := 4, pos := "law.go:49", after := #[{ on := 6, ground := Ground.data }, { on := 17, ground := Ground.data }], guard := none }) (v := ?_) rfl (by kernel_rfl) (by kernel_rfl) (by kernel_rfl) (fun _ _ _ h => h) (Or.inl ⟨by rfl, ?_⟩) (by assumption) ?_
    rotate_left
    · (intro wS hSw; (try dsimp only at hSw); go_simp; (try with_reducible rfl))
    try simp only [Act.put, List.setIfInBounds_toArray, List.set_cons_zero, List.set_cons_succ]
    refine wpAnyH_take (i := 19) (oi := { dst := some 63, op := Op.move (Operand.tmp 62), type := 4, pos := "law.go:49", after := #[{ on := 18, ground := Ground.data }, { on := 16, ground := Ground.chain }], guard := none }) (v := ?_) rfl (by kernel_rfl) (by kernel_rfl) (by kernel_rfl) (fun _ _ _ h => h) (Or.inl ⟨by rfl, ?_⟩) (by assumption) ?_
    rotate_left
    · (intro wS hSw; (try dsimp only at hSw); go_simp; (try with_reducible rfl))
    try simp only [Act.put, List.setIfInBounds_toArray, List.set_cons_zero, List.set_cons_succ]
    refine wpAnyH_take (i := 20) (oi := { dst := some 64, op := Op.move (Operand.tmp 0), type := 9, pos := "law.go:49", after := #[{ on := 19, ground := Ground.guard }], guard := some (19, true) }) (v := ?_) rfl (by kernel_rfl) (by kernel_rfl) (by kernel_rfl) (fun _ _ _ h => h) (Or.inl ⟨by rfl, ?_⟩) (by assumption) ?_
    rotate_left
    · (intro wS hSw; (try dsimp only at hSw); go_simp; (try with_reducible rfl))
    try simp only [Act.put, List.setIfInBounds_toArray, List.set_cons_zero, List.set_cons_succ]
    refine wpAnyH_take (i := 21) (oi := { dst := some 65, op := Op.binOp BinOp.add 9 (Operand.tmp 64) (Operand.const (Value.string { data := #[32] })) 9, type := 9, pos := "law.go:49", after := #[{ on := 20, ground := Ground.data }, { on := 19, ground := Ground.guard }], guard := some (19, true) }) (v := ?_) rfl (by kernel_rfl) (by kernel_rfl) (by kernel_rfl) (fun _ _ _ h => h) (Or.inl ⟨by rfl, ?_⟩) (by assumption) ?_
    rotate_left
    · (intro wS hSw; (try dsimp only at hSw); go_simp; (try with_reducible rfl))
    try simp only [Act.put, List.setIfInBounds_toArray, List.set_cons_zero, List.set_cons_succ]
    refine wpAnyH_ready (rs := [22]) (by kernel_rfl) (by simp) ?_
    refine AllReadyH.cons (o := { dst := some 66, op := Op.call { callee := Callee.value (Operand.func 10), args := #[Operand.tmp 65], argTypes := #[9] }, type := 4, pos := "law.go:49", after := #[{ on := 21, ground := Ground.data }, { on := 19, ground := Ground.chain }, { on := 19, ground := Ground.guard }], guard := some (19, true) }) rfl (fun K hK => ?_) AllReadyH.nil
    go_simp
    (first
          | (go_at_call 10; ((with_reducible refine (may_any (a ++ ⟨#[32]⟩ ++ b) _ _ ZB.out (HT.out.next hHeld) HBO.out).mono ?_); rintro e' wN ⟨rfl, hb⟩))
          | (go_at_call 10; ((with_reducible refine (may_any (a.extract 0 k ++ x ++ a.extract k a.size) _ _ Z2.out (HT.out.next hHeld) HI.out).mono ?_); rintro e' wN ⟨rfl, hb⟩))
          | (go_at_call 10; ((with_reducible refine (may_any (a ++ ⟨#[32]⟩) _ _ Z3.out (HT.out.next hHeld) HE.out).mono ?_); rintro e' wN ⟨rfl, hb⟩))
          | (go_at_call 10; ((with_reducible refine (may_any (⟨#[32]⟩ ++ a) _ _ Z4.out (HT.out.next hHeld) HF.out).mono ?_); rintro e' wN ⟨rfl, hb⟩))
          | (go_at_call 7; ((with_reducible refine (awake_any _ (HT.out.next hHeld)).mono ?_); rintro e' wN ⟨rfl, hb⟩)))
    go_wp2_with fail
    refine hK.out _ _ ?_ (fun hNew => ?_)
    · (first | exact (Below.refl _ _).drew | assumption | exact btr hHeld hHeld.size hb)
    clear hK K hHeld
    have hHeld := hNew
    clear hNew
    try simp only [Act.put, List.setIfInBounds_toArray, List.set_cons_zero, List.set_cons_succ]
    refine wpAnyH_take (i := 23) (oi := { dst := some 67, op := Op.unOp UnOp.not 4 (Operand.tmp 66), type := 4, pos := "law.go:49", after := #[{ on := 22, ground := Ground.data }, { on := 19, ground := Ground.guard }], guard := some (19, true) }) (v := ?_) rfl (by kernel_rfl) (by kernel_rfl) (by kernel_rfl) (fun _ _ _ h => h) (Or.inl ⟨by rfl, ?_⟩) (by assumption) ?_
    rotate_left
    · (intro wS hSw; (try dsimp only at hSw); go_simp; (try with_reducible rfl))
    try simp only [Act.put, List.setIfInBounds_toArray, List.set_cons_zero, List.set_cons_succ]
    refine wpAnyH_take (i := 24) (oi := { dst := some 68, op := Op.pick (Operand.tmp 63) (Operand.tmp 67) (Operand.const (Value.bool false)), type := 4, pos := "law.go:49", after := #[{ on := 19, ground := Ground.data }, { on := 23, ground := Ground.data }], guard := none }) (v := ?_) rfl (by kernel_rfl) (by kernel_rfl) (by kernel_rfl) (fun _ _ _ h => h) (Or.inl ⟨by rfl, ?_⟩) (by assumption) ?_
    rotate_left
    · (intro wS hSw; (try dsimp only at hSw); go_simp; (try with_reducible rfl))
    try simp only [Act.put, List.setIfInBounds_toArray, List.set_cons_zero, List.set_cons_succ]
    refine wpAnyH_take (i := 25) (oi := { dst := some 69, op := Op.move (Operand.tmp 68), type := 4, pos := "law.go:49", after := #[{ on := 24, ground := Ground.data }, { on := 22, ground := Ground.chain }], guard := none }) (v := ?_) rfl (by kernel_rfl) (by kernel_rfl) (by kernel_rfl) (fun _ _ _ h => h) (Or.inl ⟨by rfl, ?_⟩) (by assumption) ?_
    rotate_left
    · (intro wS hSw; (try dsimp only at hSw); go_simp; (try with_reducible rfl))
    try simp only [Act.put, List.setIfInBounds_toArray, List.set_cons_zero, List.set_cons_succ]
    refine wpAnyH_take (i := 26) (oi := { dst := some 70, op := Op.move (Operand.tmp 0), type := 9, pos := "law.go:49", after := #[{ on := 25, ground := Ground.guard }], guard := some (25, true) }) (v := ?_) rfl (by kernel_rfl) (by kernel_rfl) (by kernel_rfl) (fun _ _ _ h => h) (Or.inl ⟨by rfl, ?_⟩) (by assumption) ?_
    rotate_left
    · (intro wS hSw; (try dsimp only at hSw); go_simp; (try with_reducible rfl))
    try simp only [Act.put, List.setIfInBounds_toArray, List.set_cons_zero, List.set_cons_succ]
    refine wpAnyH_take (i := 27) (oi := { dst := some 71, op := Op.binOp BinOp.add 9 (Operand.const (Value.string { data := #[32] })) (Operand.tmp 70) 9, type := 9, pos := "law.go:49", after := #[{ on := 26, ground := Ground.data }, { on := 25, ground := Ground.guard }], guard := some (25, true) }) (v := ?_) rfl (by kernel_rfl) (by kernel_rfl) (by kernel_rfl) (fun _ _ _ h => h) (Or.inl ⟨by rfl, ?_⟩) (by assumption) ?_
    rotate_left
    · (intro wS hSw; (try dsimp only at hSw); go_simp; (try with_reducible rfl))
    try simp only [Act.put, List.setIfInBounds_toArray, List.set_cons_zero, List.set_cons_succ]
    refine wpAnyH_ready (rs := [28]) (by kernel_rfl) (by simp) ?_
    refine AllReadyH.cons (o := { dst := some 72, op := Op.call { callee := Callee.value (Operand.func 10), args := #[Operand.tmp 71], argTypes := #[9] }, type := 4, pos := "law.go:49", after := #[{ on := 27, ground := Ground.data }, { on := 25, ground := Ground.chain }, { on := 25, ground := Ground.guard }], guard := some (25, true) }) rfl (fun K hK => ?_) AllReadyH.nil
    go_simp
    (first
          | (go_at_call 10; ((with_reducible refine (may_any (a ++ ⟨#[32]⟩ ++ b) _ _ ZB.out (HT.out.next hHeld) HBO.out).mono ?_); rintro e' wN ⟨rfl, hb⟩))
          | (go_at_call 10; ((with_reducible refine (may_any (a.extract 0 k ++ x ++ a.extract k a.size) _ _ Z2.out (HT.out.next hHeld) HI.out).mono ?_); rintro e' wN ⟨rfl, hb⟩))
          | (go_at_call 10; ((with_reducible refine (may_any (a ++ ⟨#[32]⟩) _ _ Z3.out (HT.out.next hHeld) HE.out).mono ?_); rintro e' wN ⟨rfl, hb⟩))
          | (go_at_call 10; ((with_reducible refine (may_any (⟨#[32]⟩ ++ a) _ _ Z4.out (HT.out.next hHeld) HF.out).mono ?_); rintro e' wN ⟨rfl, hb⟩))
          | (go_at_call 7; ((with_reducible refine (awake_any _ (HT.out.next hHeld)).mono ?_); rintro e' wN ⟨rfl, hb⟩)))
    go_wp2_with fail
    refine hK.out _ _ ?_ (fun hNew => ?_)
    · (first | exact (Below.refl _ _).drew | assumption | exact btr hHeld hHeld.size hb)
    clear hK K hHeld
    have hHeld := hNew
    clear hNew
    try simp only [Act.put, List.setIfInBounds_toArray, List.set_cons_zero, List.set_cons_succ]
    refine wpAnyH_take (i := 29) (oi := { dst := some 73, op := Op.unOp UnOp.not 4 (Operand.tmp 72), type := 4, pos := "law.go:49", after := #[{ on := 28, ground := Ground.data }, { on := 25, ground := Ground.guard }], guard := some (25, true) }) (v := ?_) rfl (by kernel_rfl) (by kernel_rfl) (by kernel_rfl) (fun _ _ _ h => h) (Or.inl ⟨by rfl, ?_⟩) (by assumption) ?_
    rotate_left
    · (intro wS hSw; (try dsimp only at hSw); go_simp; (try with_reducible rfl))
    try simp only [Act.put, List.setIfInBounds_toArray, List.set_cons_zero, List.set_cons_succ]
    refine wpAnyH_take (i := 30) (oi := { dst := some 74, op := Op.pick (Operand.tmp 69) (Operand.tmp 73) (Operand.const (Value.bool false)), type := 4, pos := "law.go:49", after := #[{ on := 25, ground := Ground.data }, { on := 29, ground := Ground.data }], guard := none }) (v := ?_) rfl (by kernel_rfl) (by kernel_rfl) (by kernel_rfl) (fun _ _ _ h => h) (Or.inl ⟨by rfl, ?_⟩) (by assumption) ?_
    rotate_left
    · (intro wS hSw; (try dsimp only at hSw); go_simp; (try with_reducible rfl))
    try simp only [Act.put, List.setIfInBounds_toArray, List.set_cons_zero, List.set_cons_succ]
    refine wpAnyH_take (i := 31) (oi := { dst := some 75, op := Op.move (Operand.tmp 74), type := 4, pos := "law.go:49", after := #[{ on := 30, ground := Ground.data }, { on := 28, ground := Ground.chain }], guard := none }) (v := ?_) rfl (by kernel_rfl) (by kernel_rfl) (by kernel_rfl) (fun _ _ _ h => h) (Or.inl ⟨by rfl, ?_⟩) (by assumption) ?_
    rotate_left
    · (intro wS hSw; (try dsimp only at hSw); go_simp; (try with_reducible rfl))
    try simp only [Act.put, List.setIfInBounds_toArray, List.set_cons_zero, List.set_cons_succ]
    refine wpAnyH_ready (rs := [32]) (by kernel_rfl) (by simp) ?_
    refine AllReadyH.cons (o := { dst := some 76, op := Op.call { callee := Callee.value (Operand.func 7), args := #[], argTypes := #[] }, type := 4, pos := "law.go:49", after := #[{ on := 31, ground := Ground.chain }, { on := 31, ground := Ground.guard }], guard := some (31, true) }) rfl (fun K hK => ?_) AllReadyH.nil
    go_simp
    (first
          | (go_at_call 10; ((with_reducible refine (may_any (a ++ ⟨#[32]⟩ ++ b) _ _ ZB.out (HT.out.next hHeld) HBO.out).mono ?_); rintro e' wN ⟨rfl, hb⟩))
          | (go_at_call 10; ((with_reducible refine (may_any (a.extract 0 k ++ x ++ a.extract k a.size) _ _ Z2.out (HT.out.next hHeld) HI.out).mono ?_); rintro e' wN ⟨rfl, hb⟩))
          | (go_at_call 10; ((with_reducible refine (may_any (a ++ ⟨#[32]⟩) _ _ Z3.out (HT.out.next hHeld) HE.out).mono ?_); rintro e' wN ⟨rfl, hb⟩))
          | (go_at_call 10; ((with_reducible refine (may_any (⟨#[32]⟩ ++ a) _ _ Z4.out (HT.out.next hHeld) HF.out).mono ?_); rintro e' wN ⟨rfl, hb⟩))
          | (go_at_call 7; ((with_reducible refine (awake_any _ (HT.out.next hHeld)).mono ?_); rintro e' wN ⟨rfl, hb⟩)))
    go_wp2_with fail
    refine hK.out _ _ ?_ (fun hNew => ?_)
    · (first | exact (Below.refl _ _).drew | assumption | exact btr hHeld hHeld.size hb)
    clear hK K hHeld
    have hHeld := hNew
    clear hNew
    try simp only [Act.put, List.setIfInBounds_toArray, List.set_cons_zero, List.set_cons_succ]
    refine wpAnyH_take (i := 33) (oi := { dst := some 77, op := Op.pick (Operand.tmp 75) (Operand.tmp 76) (Operand.const (Value.bool false)), type := 4, pos := "law.go:49", after := #[{ on := 31, ground := Ground.data }, { on := 32, ground := Ground.data }], guard := none }) (v := ?_) rfl (by kernel_rfl) (by kernel_rfl) (by kernel_rfl) (fun _ _ _ h => h) (Or.inl ⟨by rfl, ?_⟩) (by assumption) ?_
    rotate_left
    · (intro wS hSw; (try dsimp only at hSw); go_simp; (try with_reducible rfl))
    try simp only [Act.put, List.setIfInBounds_toArray, List.set_cons_zero, List.set_cons_succ]
    refine wpAnyH_take (i := 34) (oi := { dst := some 8, op := Op.assign (Operand.tmp 77), type := 4, pos := "law.go:49", after := #[{ on := 33, ground := Ground.data }, { on := 32, ground := Ground.chain }, { on := 0, ground := Ground.phase }, { on := 1, ground := Ground.phase }, { on := 2, ground := Ground.phase }, { on := 3, ground := Ground.phase }, { on := 4, ground := Ground.phase }, { on := 5, ground := Ground.phase }, { on := 6, ground := Ground.phase }, { on := 7, ground := Ground.phase }, { on := 8, ground := Ground.phase }, { on := 9, ground := Ground.phase }, { on := 10, ground := Ground.phase }, { on := 11, ground := Ground.phase }, { on := 12, ground := Ground.phase }, { on := 13, ground := Ground.phase }, { on := 14, ground := Ground.phase }, { on := 15, ground := Ground.phase }, { on := 16, ground := Ground.phase }, { on := 17, ground := Ground.phase }, { on := 18, ground := Ground.phase }, { on := 19, ground := Ground.phase }, { on := 20, ground := Ground.phase }, { on := 21, ground := Ground.phase }, { on := 22, ground := Ground.phase }, { on := 23, ground := Ground.phase }, { on := 24, ground := Ground.phase }, { on := 25, ground := Ground.phase }, { on := 26, ground := Ground.phase }, { on := 27, ground := Ground.phase }, { on := 28, ground := Ground.phase }, { on := 29, ground := Ground.phase }, { on := 30, ground := Ground.phase }, { on := 31, ground := Ground.phase }, { on := 32, ground := Ground.phase }, { on := 33, ground := Ground.phase }], guard := none }) (v := ?_) rfl (by kernel_rfl) (by kernel_rfl) (by kernel_rfl) (fun _ _ _ h => h) (Or.inl ⟨by rfl, ?_⟩) (by assumption) ?_
    rotate_left
    · (intro wS hSw; (try dsimp only at hSw); go_simp; (try with_reducible rfl))
    try simp only [Act.put, List.setIfInBounds_toArray, List.set_cons_zero, List.set_cons_succ]
    refine wpAnyH_done (by kernel_rfl) ?_ _
    refine NoPanic.normal ?_
    go_wp2_with fail
    go_ret
    exact ⟨rfl, btr HB HB.size hHeld⟩
end Go.Proofs.YtjclafigbfnemaaDoor
