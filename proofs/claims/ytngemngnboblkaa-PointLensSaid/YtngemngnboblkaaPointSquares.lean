/- PointSquares: the walk. -/
import Derived.Test.YtngemngnboblkaaFlI
namespace Go.Proofs.Ytngemngnboblkaa
open Go.ChangeShapes Go.WideShapes Go.ChangeAt Go.RowKit
set_option linter.unusedSimpArgs false
set_option linter.unusedVariables false

theorem sqr_F (p : Int) (h : p.natAbs ≤ 65536) : floatBits .mul .f64 (F p) (F p) = some (F (p * p)) := by
  have h2 := ab_mul h h
  by_cases h0 : p * p = 0
  · have hp : p = 0 := by
      rcases Int.mul_eq_zero.1 h0 with q | q <;> exact q
    subst hp
    decide +kernel
  · exact mul_F (by omega) (by omega) (by omega) (Or.inl h0)
theorem sub_Fb (x y : Int) (hx : x.natAbs ≤ 65536) (hy : y.natAbs ≤ 65536) : floatBits .sub .f64 (F x) (F y) = some (F (x - y)) := sub_F (by omega) (by omega) (by omega)
theorem neg_Fb (y : Int) (hy : y.natAbs ≤ 65536) : floatBits .sub .f64 0 (F y) = some (F (-y)) := by
  have := sub_Fb 0 y (by decide) hy
  rw [Int.zero_sub] at this
  exact this
theorem turn_sq (x y N : Int) (w : World) (h : In2 x y 100) (hN : x * x + y * y = N) : Calls Try.prog 9 #[.complex .f64 (F x) (F y), .complex .f64 (F x) (F (-y))] w fun e' w' => e' = .returned (.tuple #[.complex .f64 (F N) 0, .bool true]) ∧ w = w' := by
  have e1 : x * x - y * -y = N := by rw [← hN]; grind
  have e2 : x * -y + y * x = 0 := by grind
  have b1 := ab_mul h.a h.a
  have b2 := ab_mul h.b h.b
  have hNb : N.natAbs ≤ 32767 := by omega
  have hy : mayZ (-y) = true := mayN (by rw [Int.natAbs_neg]; have := h.b; omega)
  have := turn_yes x y x (-y) w (h.ma (by decide)) (h.mb (by decide)) (h.ma (by decide)) hy (by rw [e1]; exact mayN hNb) (by rw [e2]; decide)
  rw [e1, e2] at this
  exact this
theorem len_0 (x y N : Int) (w : World) (h : In2 x y 32767) (hN : x * x + y * y = N) : Calls Try.prog 10 #[.complex .f64 0 0, .complex .f64 (F x) (F y)] w fun e' w' => e' = .returned (.float .f64 (SQ N)) ∧ w = w' := by
  have := len_any 0 0 x y w (by decide) (by decide) (h.ma (by decide)) (h.mb (by decide))
  rw [show far 0 0 x y = N by unfold far; rw [← hN]; grind] at this
  exact this
theorem back_yes (x y u v : Int) (w : World) (h : In2 x y 100) (k : In2 u v 100) : Calls Try.prog 13 #[.complex .f64 (F (x + u)) (F (y + v)), .complex .f64 (F (-u)) (F (-v))] w fun e' w' => e' = .returned (.tuple #[.complex .f64 (F x) (F y), .bool true]) ∧ w = w' := by
  have e1 : x + u + -u = x := by omega
  have e2 : y + v + -v = y := by omega
  have s := h.add k
  have nu : mayZ (-u) = true := mayN (by rw [Int.natAbs_neg]; have := k.a; omega)
  have nv : mayZ (-v) = true := mayN (by rw [Int.natAbs_neg]; have := k.b; omega)
  have := move_yes (x + u) (y + v) (-u) (-v) w (s.ma (by decide)) (s.mb (by decide)) nu nv (by rw [e1]; exact h.ma (by decide)) (by rw [e2]; exact h.mb (by decide))
  rw [e1, e2] at this
  exact this
theorem far_sym (x y u v : Int) : far u v x y = far x y u v := by
  unfold far
  grind
set_option maxRecDepth 100000 in
set_option maxHeartbeats 4000000 in
theorem squares_walk (a b c d : Int) (w : World) (_ : i64in a) (_ : i64in b) (_ : i64in c) (_ : i64in d) : Calls Try.prog 7 #[.int .i64 a, .int .i64 b, .int .i64 c, .int .i64 d] w fun e' w' => e' = .returned (.bool true) ∧ Below w.heap.size w w' := by
  have p1 := ofZ_bd a 100 (by omega)
  have p2 := ofZ_bd b 100 (by omega)
  have q1 := ofZ_bd c 100 (by omega)
  have q2 := ofZ_bd d 100 (by omega)
  obtain ⟨P1, hP1⟩ : ∃ z, ofZ a 100 = z := ⟨_, rfl⟩
  obtain ⟨P2, hP2⟩ : ∃ z, ofZ b 100 = z := ⟨_, rfl⟩
  obtain ⟨Q1, hQ1⟩ : ∃ z, ofZ c 100 = z := ⟨_, rfl⟩
  obtain ⟨Q2, hQ2⟩ : ∃ z, ofZ d 100 = z := ⟨_, rfl⟩
  rw [hP1] at p1
  rw [hP2] at p2
  rw [hQ1] at q1
  rw [hQ2] at q2
  have hp : In2 P1 P2 100 := ⟨by omega, by omega⟩
  have hq : In2 Q1 Q2 100 := ⟨by omega, by omega⟩
  have E1 := Lib.hid hP1
  have E2 := Lib.hid hP2
  have E3 := Lib.hid hQ1
  have E4 := Lib.hid hQ2
  clear p1 p2 q1 q2 hP1 hP2 hQ1 hQ2
  have a1 := hp.a
  have a2 := hp.b
  have a3 := hq.a
  have a4 := hq.b
  have n1 := ab_mul a1 a1
  have n2 := ab_mul a2 a2
  have c0 : ∀ p : Int, 0 ≤ p * p := fun p => by rcases Int.le_total 0 p with q | q; exact Int.mul_nonneg q q; exact Int.mul_nonneg_of_nonpos_of_nonpos q q
  have n3 := c0 P1
  have n4 := c0 P2
  obtain ⟨N, hN⟩ : ∃ N : Nat, P1 * P1 + P2 * P2 = (N : Int) := ⟨(P1 * P1 + P2 * P2).toNat, by omega⟩
  have hNb : N ≤ 100000 := by omega
  have m1 := ab_mul (by omega : (P1 - Q1).natAbs ≤ 200) (by omega : (P1 - Q1).natAbs ≤ 200)
  have m2 := ab_mul (by omega : (P2 - Q2).natAbs ≤ 200) (by omega : (P2 - Q2).natAbs ≤ 200)
  have m3 := c0 (P1 - Q1)
  have m4 := c0 (P2 - Q2)
  obtain ⟨M, hM⟩ : ∃ M : Nat, far P1 P2 Q1 Q2 = (M : Int) := ⟨(far P1 P2 Q1 Q2).toNat, by unfold far; omega⟩
  have hMb : M ≤ 100000 := by unfold far at hM; omega
  obtain ⟨X, hX, ⟨r1, hr1, l1, g1⟩, ⟨r2, hr2, l2, g2⟩⟩ := near_sq N hNb
  obtain ⟨Y, hY, ⟨r3, hr3, l3, g3⟩, -⟩ := near_sq M hMb
  have u1 := run_float_arith (P := Try.prog) w .sub 26 .f64 _ _ _ (neg_Fb P2 (by omega))
  have u2 := run_float_arith (P := Try.prog) w .sub 26 .f64 _ _ _ (neg_Fb Q1 (by omega))
  have u3 := run_float_arith (P := Try.prog) w .sub 26 .f64 _ _ _ (neg_Fb Q2 (by omega))
  have u4 := run_float_arith (P := Try.prog) w .sub 26 .f64 _ _ _ (sub_Fb P1 Q1 (by omega) (by omega))
  have u5 := run_float_arith (P := Try.prog) w .sub 26 .f64 _ _ _ (sub_Fb P2 Q2 (by omega) (by omega))
  have u6 := run_float_arith (P := Try.prog) w .mul 26 .f64 _ _ _ (sqr_F (P1 - Q1) (by omega))
  have u7 := run_float_arith (P := Try.prog) w .mul 26 .f64 _ _ _ (sqr_F (P2 - Q2) (by omega))
  have g8 : floatBits .add .f64 (F ((P1 - Q1) * (P1 - Q1))) (F ((P2 - Q2) * (P2 - Q2))) = some (F (M : Int)) := by
    rw [← hM]
    exact add_F (by omega) (by omega) (by unfold far at hM; omega)
  have u8' := run_float_arith (P := Try.prog) w .add 26 .f64 _ _ _ g8
  have u9 := run_float_arith (P := Try.prog) w .mul 26 .f64 _ _ _ (show floatBits .mul .f64 (SQ (M : Int)) (SQ (M : Int)) = some Y from hY)
  have u10 := run_float_arith (P := Try.prog) w .sub 26 .f64 _ _ _ (show floatBits .sub .f64 Y (F (M : Int)) = some r3 from hr3)
  have u11 := run_float_arith (P := Try.prog) w .mul 26 .f64 _ _ _ (show floatBits .mul .f64 (SQ (N : Int)) (SQ (N : Int)) = some X from hX)
  have u12 := run_float_arith (P := Try.prog) w .sub 26 .f64 _ _ _ (show floatBits .sub .f64 (F (N : Int)) X = some r2 from hr2)
  have u13 := run_float_arith (P := Try.prog) w .sub 26 .f64 _ _ _ (show floatBits .sub .f64 X (F (N : Int)) = some r1 from hr1)
  have v1 : (FloatKind.f64.format.order 0 0 == some .eq) = true := by decide +kernel
  have v2 : (FloatKind.f64.format.order r2 4576918229304087675 == some .lt) = true := by rw [show FloatKind.f64.format.order r2 4576918229304087675 = some .lt from l2]; rfl
  have v3 : (FloatKind.f64.format.order r1 4576918229304087675 == some .lt) = true := by rw [show FloatKind.f64.format.order r1 4576918229304087675 = some .lt from l1]; rfl
  have v4 : (FloatKind.f64.format.order (SQ (M : Int)) (SQ (M : Int)) == some .eq) = true := by rw [sq_self (by omega) (by unfold Sm; omega)]; rfl
  have v5 : (FloatKind.f64.format.order r3 4576918229304087675 == some .lt) = true := by rw [show FloatKind.f64.format.order r3 4576918229304087675 = some .lt from l3]; rfl
  have v6 : (FloatKind.f64.format.order r3 13800290266158863483 == some .gt) = true := by rw [show FloatKind.f64.format.order r3 13800290266158863483 = some .gt from g3]; rfl
  have HP := Lib.hid hp
  have HQ := Lib.hid hq
  have HP3 : Hid (In2 P1 P2 32767) := Lib.hid ⟨by omega, by omega⟩
  have HQ3 : Hid (In2 Q1 Q2 32767) := Lib.hid ⟨by omega, by omega⟩
  have HN := Lib.hid hN
  have HM := Lib.hid hM
  have HM2 := Lib.hid ((far_sym P1 P2 Q1 Q2).trans hM)
  have HS := Lib.hid (hp.add hq)
  clear hp hq a1 a2 a3 a4 n1 n2 n3 n4 c0 hN hNb m1 m2 m3 m4 hM hMb hX hr1 l1 g1 hr2 l2 g2 hY hr3 l3 g3 g8
  go_enter Try.func7, Try.ntmps7
  go_wp2_with (first
    | (go_at_call 8; ((with_reducible refine (of_b a b 100 P1 P2 _ (by omega) (by omega) E1 E2).mono ?_); rintro e' wN ⟨rfl, rfl⟩; skip))
    | (go_at_call 8; ((with_reducible refine (of_b c d 100 Q1 Q2 _ (by omega) (by omega) E3 E4).mono ?_); rintro e' wN ⟨rfl, rfl⟩; skip))
    | (go_at_call 9; ((with_reducible refine (turn_sq P1 P2 (N : Int) _ HP.out HN.out).mono ?_); rintro e' wN ⟨rfl, rfl⟩; skip))
    | (go_at_call 10; ((with_reducible refine (len_0 P1 P2 (N : Int) _ HP3.out HN.out).mono ?_); rintro e' wN ⟨rfl, rfl⟩; skip))
    | (go_at_call 10; ((with_reducible refine (len_b P1 P2 Q1 Q2 (M : Int) _ HP3.out HQ3.out HM.out).mono ?_); rintro e' wN ⟨rfl, rfl⟩; skip))
    | (go_at_call 10; ((with_reducible refine (len_b Q1 Q2 P1 P2 (M : Int) _ HQ3.out HP3.out HM2.out).mono ?_); rintro e' wN ⟨rfl, rfl⟩; skip))
    | (go_at_call 13; ((with_reducible refine (move_yes P1 P2 Q1 Q2 _ (HP.out.ma (by decide)) (HP.out.mb (by decide)) (HQ.out.ma (by decide)) (HQ.out.mb (by decide)) (HS.out.ma (by decide)) (HS.out.mb (by decide))).mono ?_); rintro e' wN ⟨rfl, rfl⟩; skip))
    | (go_at_call 13; ((with_reducible refine (back_yes P1 P2 Q1 Q2 _ HP.out HQ.out).mono ?_); rintro e' wN ⟨rfl, rfl⟩; skip))
    | (go_at_call 11; ((with_reducible refine (same_yes _ _ _ _ _ rfl rfl).mono ?_); rintro e' wN ⟨rfl, rfl⟩; skip))
    | (go_at_call 12; ((with_reducible refine (awake_any _).mono ?_); rintro e' wN ⟨rfl, hb⟩; skip)))
  go_ret
  exact ⟨rfl, hb⟩
end Go.Proofs.Ytngemngnboblkaa
