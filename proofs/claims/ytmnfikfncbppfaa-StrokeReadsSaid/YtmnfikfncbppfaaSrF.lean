/- Chapter 2's own part; SamePoints, SameSheet. -/
import Derived.Test.YtmnfikfncbppfaaSrD
namespace Go.Proofs.Ytmnfikfncbppfaa
open Go.ChangeShapes Go.WideShapes Go.ChangeAt Go.RowKit
set_option linter.unusedSimpArgs false
set_option linter.unusedVariables false

attribute [local go_sem ↓] Go.wp_at_zero Go.wp_at_succ
theorem toInt_F (z : Int) (hz : Sm z) : floatToIntVal .f64 (F z) .i64 = some z := by
  have h := toInt_val ((IsI.f z).val hz)
  have h2 : (FloatKind.f64.decode (F z)).toInt .zero = some z := h
  unfold floatToIntVal
  rw [h2]
  have : -9007199254740992 < z ∧ z < 9007199254740992 := by unfold Sm at hz; omega
  have e1 : IntKind.i64.min = -9223372036854775808 := rfl
  have e2 : IntKind.i64.max = 9223372036854775807 := rfl
  show (if IntKind.i64.min ≤ z ∧ z ≤ IntKind.i64.max then some z else none) = some z
  rw [if_pos (by rw [e1, e2]; omega)]
theorem same_self (x y : Nat) (w : World) : Calls Try.prog 27 #[.complex .f64 x y, .complex .f64 x y] w fun e' w' => e' = .returned (.bool true) ∧ w = w' := by
  have := same_any x y x y w
  simpa using this
set_option maxRecDepth 100000 in
set_option maxHeartbeats 4000000 in
theorem rpart_any (a b : Nat) (base : Nat) (sv : Value) (m : Nat) (xs : List Nat) (w : World) (ha : a < 256) (hb : b < 256) (hown : w.ownsRow base 5 1 sv m (xs.map byteV)) (hbase : base ≤ w.heap.size) (hm : m ≤ 1000) :
    Calls Try.prog 26 #[sv, .float .f64 (F (ptz a b))] w fun e' w' => ∃ sv', e' = .returned sv' ∧ w'.ownsRow base 5 1 sv' (m + 2) ((xs ++ [a, b]).map byteV) ∧ Below base w w' := by
  obtain ⟨z, hz⟩ : ∃ z, ptz a b = z := ⟨_, rfl⟩
  have hzs := ptz_sm a b
  have hzb := ptz_bd a b
  rw [hz] at hzs hzb ⊢
  have HZ := Lib.hid hz
  have HZS := Lib.hid hzs
  obtain ⟨X, hX⟩ : ∃ X, a * 256 + b = X := ⟨_, rfl⟩
  have e1 : IntKind.u16.wrap z = (X : Int) := by
    rw [← hz, ← hX]
    unfold ptz
    simp only [IntKind.wrap, IntKind.bits, IntKind.signed]
    simp
    omega
  have e2 : IntKind.u8.wrap ((X : Int) / 256) = (a : Int) := by rw [IntWalk.u8_in _ (by omega)]; omega
  have e3 : IntKind.u8.wrap (X : Int) = (b : Int) := by rw [IntKind.wrap_u8]; omega
  have x0 : (0 : Int) ≤ (X : Int) := by omega
  have x1 : (X : Int) < 65536 := by omega
  have hconv := run_convert_float_int (P := Try.prog) w 47 3 .f64 .i64 (F z) z (by rfl) (by rfl) (toInt_F z hzs)
  have HA := Lib.hid (And.intro ha hb)
  clear hz hzs hX
  go_enter Try.func26, Try.ntmps26
  go_wp2_with (at_builtin; obtain ⟨ti0, hi, hz0, hz1, hz2⟩ := info_parts infoByte; refine wpList_app _ rfl (.tmp 9) (.tmp 15) 22 rfl base 5 ti0 _ 1 1 Try.underlying22 hi hz0 hz1 hz2 rfl (by decide) sv m (xs.map byteV) rfl (hown.alloc _) _ 2 _ [byteV a, byteV b] rfl (Rd.of_sl (Sl.new_ _ _ [byteV a, byteV b]) rfl) (by simp [byteV, Value.oneCell']) (by unfold maxLen; omega) (by omega) (by simp; omega) ?_; intro v2 w2 ho2 hg2 hv2)
  go_ret
  exact ⟨_, rfl, by rw [List.map_append]; exact ho2, ((Below.refl _ _).alloc hbase _).trans (below_app (Nat.le_refl _) (by simp; omega) (hown.alloc _) hg2)⟩
set_option maxRecDepth 100000 in
set_option maxHeartbeats 4000000 in
theorem samePts_any (ps qs : List Pt) (n m : Nat) (A B : Option Addr) (c d : Nat) (w : World) (hn : ps.length = n) (hm : qs.length = m) (h1 : Sl w w.heap.size A (ps.map ptV)) (h2 : Sl w w.heap.size B (qs.map ptV)) (he : ps = qs) (n1 : n ≤ 1000000) :
    Calls Try.prog 20 #[.slice A n c, .slice B m d] w fun e' w' => e' = .returned (.bool true) ∧ Below w.heap.size w w' := by
  subst he
  obtain rfl : n = m := hn.symm.trans hm
  have HN := Lib.hid hn
  clear hn hm
  have n2 : ps.length ≤ 1000000 := by rw [HN.out]; exact n1
  go_enter Try.func20, Try.ntmps20
  go_wp2
  go_loopw [5] (fun i wr => ∃ k : Nat, k ≤ n ∧ i = .int .i64 (k : Int) ∧ Below w.heap.size w wr) (fun i _ => n - (iOf i).toNat)
  case atStart => exact ⟨0, Nat.zero_le _, rfl, Below.refl _ _⟩
  case round =>
    obtain ⟨k, hk, rfl, hB⟩ := hrel
    by_cases hlt : k < n
    · obtain ⟨b1, o1, rfl, lt1, q1⟩ := (h1.below hB).at_ (by rw [List.length_map, HN.out]; omega)
      obtain ⟨b2, o2, rfl, lt2, q2⟩ := (h2.below hB).at_ (by rw [List.length_map, HN.out]; omega)
      obtain ⟨x, hx⟩ : ∃ x, ps[k]? = some x := ⟨_, List.getElem?_eq_getElem (by rw [HN.out]; exact hlt)⟩
      obtain ⟨u, hu⟩ : ∃ u, F (ptz x.1 x.2.1) = u := ⟨_, rfl⟩
      obtain ⟨v, hv⟩ : ∃ v, F (ptz x.2.2.1 x.2.2.2) = v := ⟨_, rfl⟩
      have z1 := q1 k (ptV x) (by simp [hx])
      have z2 := q2 k (ptV x) (by simp [hx])
      unfold ptV at z1 z2
      rw [hu, hv] at z1 z2
      have i0 : (0 : Int) ≤ (k : Int) := by omega
      have i9 : (k : Int) < (n : Int) := by omega
      clear q1 q2 hx hu hv n2
      go_upto_region 6 with fail
      refine wp_region_noPanic ?_
      refine wp_region_held_drew (S := (fun w' => w'.cell? ⟨b1, o1 + k, none⟩ = some (.complex .f64 u v) ∧ w'.cell? ⟨b2, o2 + k, none⟩ = some (.complex .f64 u v))) (by kernel_rfl) ?_ (fun hHeld => ?_)
      · (first | exact ⟨z1, z2⟩ | assumption)
      refine wpAnyH_take (i := 0) (oi := { dst := some 17, op := Op.move (Operand.tmp 0), type := 42, pos := "same.go:239", after := #[], guard := none }) (v := ?_) rfl (by kernel_rfl) (by kernel_rfl) (by kernel_rfl) (fun _ _ _ h => h) (Or.inl ⟨by rfl, ?_⟩) (by assumption) ?_
      rotate_left
      · (intro wS hSw; (try dsimp only at hSw); go_simp; (try with_reducible rfl))
      try simp only [Act.put, List.setIfInBounds_toArray, List.set_cons_zero, List.set_cons_succ]
      refine wpAnyH_take (i := 1) (oi := { dst := some 18, op := Op.move (Operand.tmp 5), type := 3, pos := "same.go:239", after := #[], guard := none }) (v := ?_) rfl (by kernel_rfl) (by kernel_rfl) (by kernel_rfl) (fun _ _ _ h => h) (Or.inl ⟨by rfl, ?_⟩) (by assumption) ?_
      rotate_left
      · (intro wS hSw; (try dsimp only at hSw); go_simp; (try with_reducible rfl))
      try simp only [Act.put, List.setIfInBounds_toArray, List.set_cons_zero, List.set_cons_succ]
      refine wpAnyH_take (i := 2) (oi := { dst := some 19, op := Op.indexAddr 42 (Operand.tmp 17) (Operand.tmp 18), type := 0, pos := "same.go:239", after := #[{ on := 0, ground := Ground.data }, { on := 1, ground := Ground.data }], guard := none }) (v := ?_) rfl (by kernel_rfl) (by kernel_rfl) (by kernel_rfl) (fun _ _ _ h => h) (Or.inl ⟨by rfl, ?_⟩) (by assumption) ?_
      rotate_left
      · (intro wS hSw; (try dsimp only at hSw); go_simp; (try with_reducible rfl))
      try simp only [Act.put, List.setIfInBounds_toArray, List.set_cons_zero, List.set_cons_succ]
      refine wpAnyH_take (i := 3) (oi := { dst := some 20, op := Op.load 41 (Operand.tmp 19), type := 41, pos := "same.go:239", after := #[{ on := 2, ground := Ground.data }], guard := none }) (v := ?_) rfl (by kernel_rfl) (by kernel_rfl) (by kernel_rfl) (fun _ _ _ h => h) (Or.inl ⟨by rfl, ?_⟩) (by assumption) ?_
      rotate_left
      · (intro wS hSw; (try dsimp only at hSw); go_simp; (try with_reducible rfl))
      try simp only [Act.put, List.setIfInBounds_toArray, List.set_cons_zero, List.set_cons_succ]
      refine wpAnyH_take (i := 4) (oi := { dst := some 21, op := Op.move (Operand.tmp 1), type := 42, pos := "same.go:239", after := #[], guard := none }) (v := ?_) rfl (by kernel_rfl) (by kernel_rfl) (by kernel_rfl) (fun _ _ _ h => h) (Or.inl ⟨by rfl, ?_⟩) (by assumption) ?_
      rotate_left
      · (intro wS hSw; (try dsimp only at hSw); go_simp; (try with_reducible rfl))
      try simp only [Act.put, List.setIfInBounds_toArray, List.set_cons_zero, List.set_cons_succ]
      refine wpAnyH_take (i := 5) (oi := { dst := some 22, op := Op.move (Operand.tmp 5), type := 3, pos := "same.go:239", after := #[], guard := none }) (v := ?_) rfl (by kernel_rfl) (by kernel_rfl) (by kernel_rfl) (fun _ _ _ h => h) (Or.inl ⟨by rfl, ?_⟩) (by assumption) ?_
      rotate_left
      · (intro wS hSw; (try dsimp only at hSw); go_simp; (try with_reducible rfl))
      try simp only [Act.put, List.setIfInBounds_toArray, List.set_cons_zero, List.set_cons_succ]
      refine wpAnyH_take (i := 6) (oi := { dst := some 23, op := Op.indexAddr 42 (Operand.tmp 21) (Operand.tmp 22), type := 0, pos := "same.go:239", after := #[{ on := 4, ground := Ground.data }, { on := 5, ground := Ground.data }], guard := none }) (v := ?_) rfl (by kernel_rfl) (by kernel_rfl) (by kernel_rfl) (fun _ _ _ h => h) (Or.inl ⟨by rfl, ?_⟩) (by assumption) ?_
      rotate_left
      · (intro wS hSw; (try dsimp only at hSw); go_simp; (try with_reducible rfl))
      try simp only [Act.put, List.setIfInBounds_toArray, List.set_cons_zero, List.set_cons_succ]
      refine wpAnyH_take (i := 7) (oi := { dst := some 24, op := Op.load 41 (Operand.tmp 23), type := 41, pos := "same.go:239", after := #[{ on := 6, ground := Ground.data }], guard := none }) (v := ?_) rfl (by kernel_rfl) (by kernel_rfl) (by kernel_rfl) (fun _ _ _ h => h) (Or.inl ⟨by rfl, ?_⟩) (by assumption) ?_
      rotate_left
      · (intro wS hSw; (try dsimp only at hSw); go_simp; (try with_reducible rfl))
      try simp only [Act.put, List.setIfInBounds_toArray, List.set_cons_zero, List.set_cons_succ]
      refine wpAnyH_ready (rs := [8]) (by kernel_rfl) (by simp) ?_
      refine AllReadyH.cons (o := { dst := some 25, op := Op.call { callee := Callee.value (Operand.func 27), args := #[Operand.tmp 20, Operand.tmp 24], argTypes := #[41, 41] }, type := 4, pos := "same.go:239", after := #[{ on := 3, ground := Ground.data }, { on := 7, ground := Ground.data }], guard := none }) rfl (fun K hK => ?_) AllReadyH.nil
      go_simp
      (go_at_call 27; ((with_reducible refine (same_self u v _).mono ?_); rintro e' wQ ⟨rfl, rfl⟩))
      go_wp2_with fail
      refine hK.out _ _ ?_ (fun hNew => ?_)
      · (first | exact ⟨z1, z2⟩ | assumption)
      clear hK K hHeld
      have hHeld := hNew
      clear hNew
      try simp only [Act.put, List.setIfInBounds_toArray, List.set_cons_zero, List.set_cons_succ]
      refine wpAnyH_take (i := 9) (oi := { dst := some 26, op := Op.unOp UnOp.not 4 (Operand.tmp 25), type := 4, pos := "same.go:239", after := #[{ on := 8, ground := Ground.data }], guard := none }) (v := ?_) rfl (by kernel_rfl) (by kernel_rfl) (by kernel_rfl) (fun _ _ _ h => h) (Or.inl ⟨by rfl, ?_⟩) (by assumption) ?_
      rotate_left
      · (intro wS hSw; (try dsimp only at hSw); go_simp; (try with_reducible rfl))
      try simp only [Act.put, List.setIfInBounds_toArray, List.set_cons_zero, List.set_cons_succ]
      refine wpAnyH_done (by kernel_rfl) ?_ _
      refine NoPanic.normal ?_
      go_wp2_with fail
      go_roundw
      case rel => exact ⟨k + 1, by omega, by go_num, hB.drew⟩
      case measure => simp [iOf]; omega

    · have hkn : k = n := by omega
      subst hkn
      clear n2
      go_wp2
      go_ret
      exact ⟨rfl, hB⟩
end Go.Proofs.Ytmnfikfncbppfaa
