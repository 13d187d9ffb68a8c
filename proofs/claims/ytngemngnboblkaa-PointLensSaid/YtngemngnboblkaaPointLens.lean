/- PointLens: the walk. -/
import Derived.Test.YtngemngnboblkaaFlM
namespace Go.Proofs.Ytngemngnboblkaa
open Go.ChangeShapes Go.WideShapes Go.ChangeAt Go.RowKit
set_option linter.unusedSimpArgs false
set_option linter.unusedVariables false

structure LensN (N k : Nat) (X r1 Y1 P r2 Q Y2 : Nat) : Prop where
  a1 : floatBits .mul .f64 (SQ (N : Int)) (SQ (N : Int)) = some X
  a2 : floatBits .sub .f64 X (F (N : Int)) = some r1
  a3 : r1 < 18446744073709551616
  a4 : floatBits .mul .f64 4472406533629990549 (F (N : Int)) = some Y1
  a5 : ((FloatKind.f64.format.order (r1 % 9223372036854775808) Y1 == some .lt) || (FloatKind.f64.format.order (r1 % 9223372036854775808) Y1 == some .eq)) = true
  b1 : floatBits .mul .f64 (SQ (N : Int)) (F (k : Int)) = some P
  b2 : floatBits .sub .f64 (SQ ((k * k * N : Nat) : Int)) P = some r2
  b3 : r2 < 18446744073709551616
  b4 : floatBits .add .f64 (SQ ((k * k * N : Nat) : Int)) 4607182418800017408 = some Q
  b5 : floatBits .mul .f64 4472406533629990549 Q = some Y2
  b6 : ((FloatKind.f64.format.order (r2 % 9223372036854775808) Y2 == some .lt) || (FloatKind.f64.format.order (r2 % 9223372036854775808) Y2 == some .eq)) = true
theorem lensN (N k : Nat) (hN : N ≤ 100000000) (hk0 : 0 < k) (hk : k ≤ 30) : ∃ X r1 Y1 P r2 Q Y2, LensN N k X r1 Y1 P r2 Q Y2 := by
  by_cases h0 : N = 0
  · subst h0
    have hs0 : SQ 0 = 0 := by decide +kernel
    have e0 : SQ ((0 : Nat) : Int) = 0 := hs0
    have e1 : SQ ((k * k * 0 : Nat) : Int) = 0 := by rw [Nat.mul_zero]; exact hs0
    have e2 : F ((0 : Nat) : Int) = 0 := rfl
    have m0 : floatBits .mul .f64 0 (F (k : Int)) = some 0 := by
      have := mul_F (x := 0) (y := (k : Int)) (by decide) (by omega) (by rw [Int.zero_mul]; decide) (Or.inr ⟨Int.le_refl _, by omega⟩)
      rw [Int.zero_mul] at this
      exact this
    refine ⟨0, 0, 0, 0, 0, 4607182418800017408, 4472406533629990549, ?_⟩
    constructor
    · rw [e0]; decide +kernel
    · rw [e2]; decide +kernel
    · decide
    · rw [e2]; decide +kernel
    · decide +kernel
    · rw [e0]; exact m0
    · rw [e1]; decide +kernel
    · decide
    · rw [e1]; decide +kernel
    · decide +kernel
    · decide +kernel
  · obtain ⟨X, r1, Y1, a1, a2, a3, a4, a5⟩ := lens_c N (by omega) hN
    obtain ⟨P, r2, Q, Y2, b1, b2, b3, b4, b5, b6⟩ := lens_d N k (by omega) hN hk0 hk
    refine ⟨X, r1, Y1, P, r2, Q, Y2, a1, a2, a3, a4, ?_, b1, b2, b3, ?_, b5, ?_⟩
    · have : FloatKind.f64.format.order (r1 % 9223372036854775808) Y1 = some .lt := a5
      rw [this]
      rfl
    · rw [k_1] at b4
      exact b4
    · have : FloatKind.f64.format.order (r2 % 9223372036854775808) Y2 = some .lt := b6
      rw [this]
      rfl
theorem turn_n (x y : Int) (k : Nat) (w : World) (h : In2 x y 1000) (hk : k ≤ 30) : Calls Try.prog 9 #[.complex .f64 (F x) (F y), .complex .f64 (F (k : Int)) 0] w fun e' w' => e' = .returned (.tuple #[.complex .f64 (F (x * (k : Int))) (F (y * (k : Int))), .bool true]) ∧ w = w' := by
  have e1 : x * (k : Int) - y * 0 = x * (k : Int) := by omega
  have e2 : x * 0 + y * (k : Int) = y * (k : Int) := by omega
  have hkb : ((k : Int)).natAbs ≤ 30 := by omega
  have b1 := ab_mul h.a hkb
  have b2 := ab_mul h.b hkb
  have := turn_yes x y (k : Int) 0 w (h.ma (by decide)) (h.mb (by decide)) (mayN (by omega)) (by decide) (by rw [e1]; exact mayN (by omega)) (by rw [e2]; exact mayN (by omega))
  rw [e1, e2] at this
  exact this
theorem far_n (x y u v : Int) (k N : Nat) (h : far x y u v = (N : Int)) : far (x * (k : Int)) (y * (k : Int)) (u * (k : Int)) (v * (k : Int)) = ((k * k * N : Nat) : Int) := by
  push_cast
  rw [← h]
  unfold far
  grind
theorem far_le {x y u v : Int} {m : Nat} (h1 : In2 x y m) (h2 : In2 u v m) (hm : m ≤ 1000) : ∃ N : Nat, far x y u v = (N : Int) ∧ N ≤ 8000000 := by
  have a1 : (x - u).natAbs ≤ 2000 := by have := h1.a; have := h2.a; omega
  have a2 : (y - v).natAbs ≤ 2000 := by have := h1.b; have := h2.b; omega
  have b1 := ab_mul a1 a1
  have b2 := ab_mul a2 a2
  have c : ∀ p : Int, 0 ≤ p * p := fun p => by rcases Int.le_total 0 p with q | q; exact Int.mul_nonneg q q; exact Int.mul_nonneg_of_nonpos_of_nonpos q q
  have c1 := c (x - u)
  have c2 := c (y - v)
  exact ⟨(far x y u v).toNat, by unfold far; omega, by unfold far; omega⟩
theorem far_zero {x y u v : Int} (h : far x y u v = 0) : x = u ∧ y = v := by
  have c : ∀ p : Int, 0 ≤ p * p := fun p => by rcases Int.le_total 0 p with q | q; exact Int.mul_nonneg q q; exact Int.mul_nonneg_of_nonpos_of_nonpos q q
  have c1 := c (x - u)
  have c2 := c (y - v)
  unfold far at h
  have h3 : (x - u) * (x - u) = 0 := by omega
  have h4 : (y - v) * (y - v) = 0 := by omega
  have g1 : x - u = 0 := by rcases Int.mul_eq_zero.1 h3 with q | q <;> exact q
  have g2 : y - v = 0 := by rcases Int.mul_eq_zero.1 h4 with q | q <;> exact q
  exact ⟨by omega, by omega⟩
theorem len_w (x y u v : Int) (b : Nat) (w : World) (h1 : In2 x y 32767) (h2 : In2 u v 32767) (hb : Hid (SQ (far x y u v) = b)) : Calls Try.prog 10 #[.complex .f64 (F x) (F y), .complex .f64 (F u) (F v)] w fun e' w' => e' = .returned (.float .f64 b) ∧ w = w' := by
  have := len_any x y u v w (h1.ma (by decide)) (h1.mb (by decide)) (h2.ma (by decide)) (h2.mb (by decide))
  rwa [hb.out] at this
theorem abs_b (b q : Nat) (w : World) (hb : b < 18446744073709551616) (hq : Hid (b % 9223372036854775808 = q)) : Calls Try.prog 16 #[.float .f64 b] w fun e' w' => e' = .returned (.float .f64 q) ∧ w = w' := by
  have := abs_any b w hb
  rwa [hq.out] at this
set_option maxRecDepth 100000 in
set_option maxHeartbeats 4000000 in
theorem lens_walk (a b c d n : Int) (w : World) (_ : i64in a) (_ : i64in b) (_ : i64in c) (_ : i64in d) (_ : i64in n) : Calls Try.prog 6 #[.int .i64 a, .int .i64 b, .int .i64 c, .int .i64 d, .int .i64 n] w fun e' w' => e' = .returned (.bool true) ∧ Below w.heap.size w w' := by
  have p1 := ofZ_bd a 1000 (by omega)
  have p2 := ofZ_bd b 1000 (by omega)
  have q1 := ofZ_bd c 1000 (by omega)
  have q2 := ofZ_bd d 1000 (by omega)
  have hl := lowI_bd n 30 (by omega)
  obtain ⟨k, hk⟩ : ∃ k : Nat, 1 + lowI n 30 = (k : Int) := ⟨(1 + lowI n 30).toNat, by omega⟩
  have hk0 : 0 < k ∧ k ≤ 30 := by omega
  obtain ⟨P1, hP1⟩ : ∃ z, ofZ a 1000 = z := ⟨_, rfl⟩
  obtain ⟨P2, hP2⟩ : ∃ z, ofZ b 1000 = z := ⟨_, rfl⟩
  obtain ⟨Q1, hQ1⟩ : ∃ z, ofZ c 1000 = z := ⟨_, rfl⟩
  obtain ⟨Q2, hQ2⟩ : ∃ z, ofZ d 1000 = z := ⟨_, rfl⟩
  rw [hP1] at p1
  rw [hP2] at p2
  rw [hQ1] at q1
  rw [hQ2] at q2
  have hp : In2 P1 P2 1000 := ⟨by omega, by omega⟩
  have hq : In2 Q1 Q2 1000 := ⟨by omega, by omega⟩
  have ho : In2 Q2 P1 1000 := ⟨by omega, by omega⟩
  obtain ⟨N, hN, hNb⟩ := far_le hp hq (by decide)
  obtain ⟨NA, hNA, hNAb⟩ := far_le hp ho (by decide)
  obtain ⟨NB, hNB, hNBb⟩ := far_le ho hq (by decide)
  obtain ⟨X, r1, Y1, P, r2, Q, Y2, HL⟩ := lensN N k (by omega) hk0.1 hk0.2
  obtain ⟨r3, r4, g1, g2, g3⟩ := lens_e (P1 - Q2) (P2 - P1) (Q2 - Q1) (P1 - Q2) NA NB N (by unfold far at hNA; exact hNA) (by unfold far at hNB; exact hNB) (by
    unfold far at hN
    rw [show P1 - Q2 + (Q2 - Q1) = P1 - Q1 by omega, show P2 - P1 + (P1 - Q2) = P2 - Q2 by omega]
    exact hN) (by omega) (by omega) (by omega)
  have m1 := ab_mul (by have := hp.a; have := hq.a; omega : (P1 - Q1).natAbs ≤ 2000) (by have := hp.a; have := hq.a; omega : (P1 - Q1).natAbs ≤ 2000)
  have m2 := ab_mul (by have := hp.b; have := hq.b; omega : (P2 - Q2).natAbs ≤ 2000) (by have := hp.b; have := hq.b; omega : (P2 - Q2).natAbs ≤ 2000)
  have s0 := run_complex_sum (P := Try.prog) w .sub (Or.inr rfl) 22 _ _ _ _ _ _ _ (sum_bits (hp.ma (by decide)) (hp.mb (by decide)) (hq.ma (by decide)) (hq.mb (by decide))).2
  have s1 := run_float_arith (P := Try.prog) w .mul 26 .f64 _ _ _ (sqr_F (P1 - Q1) (by have := hp.a; have := hq.a; omega))
  have s2 := run_float_arith (P := Try.prog) w .mul 26 .f64 _ _ _ (sqr_F (P2 - Q2) (by have := hp.b; have := hq.b; omega))
  have g8 : floatBits .add .f64 (F ((P1 - Q1) * (P1 - Q1))) (F ((P2 - Q2) * (P2 - Q2))) = some (F (N : Int)) := by
    rw [← hN]
    exact add_F (by omega) (by omega) (by unfold far at hN; omega)
  have s3 := run_float_arith (P := Try.prog) w .add 26 .f64 _ _ _ g8
  have fk := ofInt_c (k : Int) (by unfold Sm; omega)
  obtain ⟨UW, hUW⟩ : ∃ q, SQ (N : Int) = q := ⟨_, rfl⟩
  obtain ⟨VW, hVW⟩ : ∃ q, SQ ((k * k * N : Nat) : Int) = q := ⟨_, rfl⟩
  obtain ⟨A9, hA9⟩ : ∃ q, SQ (NA : Int) = q := ⟨_, rfl⟩
  obtain ⟨B9, hB9⟩ : ∃ q, SQ (NB : Int) = q := ⟨_, rfl⟩
  obtain ⟨a1, a2, a3, a4, a5, b1, b2, b3, b4, b5, b6⟩ := HL
  rw [hUW] at a1 b1
  rw [hVW] at b2 b4
  rw [hA9, hB9] at g1
  rw [hUW] at g2
  have v1 : (FloatKind.f64.format.order UW UW == some .eq) = true := by rw [← hUW, sq_self (by omega) (by unfold Sm; omega)]; rfl
  have u1 := run_float_arith (P := Try.prog) w .mul 26 .f64 _ _ _ a1
  have u2 := run_float_arith (P := Try.prog) w .sub 26 .f64 _ _ _ a2
  have u3 := run_float_arith (P := Try.prog) w .mul 26 .f64 _ _ _ a4
  have u4 := run_float_arith (P := Try.prog) w .mul 26 .f64 _ _ _ b1
  have u5 := run_float_arith (P := Try.prog) w .sub 26 .f64 _ _ _ b2
  have u6 := run_float_arith (P := Try.prog) w .add 26 .f64 _ _ _ b4
  have u7 := run_float_arith (P := Try.prog) w .mul 26 .f64 _ _ _ b5
  have u8' := run_float_arith (P := Try.prog) w .add 26 .f64 _ _ _ (show floatBits .add .f64 A9 B9 = some r3 from g1)
  have u9 := run_float_arith (P := Try.prog) w .mul 26 .f64 _ _ _ (show floatBits .mul .f64 UW 4607182418800008401 = some r4 from g2)
  have v6 : ((FloatKind.f64.format.order r3 r4 == some .gt) || (FloatKind.f64.format.order r3 r4 == some .eq)) = true := g3
  obtain ⟨z1, hz1⟩ : ∃ q, r1 % 9223372036854775808 = q := ⟨_, rfl⟩
  obtain ⟨z2, hz2⟩ : ∃ q, r2 % 9223372036854775808 = q := ⟨_, rfl⟩
  rw [hz1] at a5
  rw [hz2] at b6
  have HZ1 := Lib.hid hz1
  have HZ2 := Lib.hid hz2
  have HA3 := Lib.hid a3
  have HB3 := Lib.hid b3
  have HPQ : Hid (SQ (far P1 P2 Q1 Q2) = UW) := Lib.hid (by rw [hN]; exact hUW)
  have HQP : Hid (SQ (far Q1 Q2 P1 P2) = UW) := Lib.hid (by rw [far_sym, hN]; exact hUW)
  have HXY : Hid (SQ (far (P1 * (k : Int)) (P2 * (k : Int)) (Q1 * (k : Int)) (Q2 * (k : Int))) = VW) := Lib.hid (by rw [far_n _ _ _ _ _ _ hN]; exact hVW)
  have HPO : Hid (SQ (far P1 P2 Q2 P1) = A9) := Lib.hid (by rw [hNA]; exact hA9)
  have HOQ : Hid (SQ (far Q2 P1 Q1 Q2) = B9) := Lib.hid (by rw [hNB]; exact hB9)
  have hkb : ((k : Int)).natAbs ≤ 30 := by omega
  have hwk : RowKit.wrap64 (k : Int) = (k : Int) := by unfold RowKit.wrap64; omega
  have HP := Lib.hid hp
  have HQ := Lib.hid hq
  have HP3 : Hid (In2 P1 P2 32767) := Lib.hid ⟨by omega, by omega⟩
  have HQ3 : Hid (In2 Q1 Q2 32767) := Lib.hid ⟨by omega, by omega⟩
  have HO3 : Hid (In2 Q2 P1 32767) := Lib.hid ⟨by omega, by omega⟩
  have HX3 : Hid (In2 (P1 * (k : Int)) (P2 * (k : Int)) 32767) := Lib.hid (by
    have h1 := ab_mul hp.a hkb
    have h2 := ab_mul hp.b hkb
    exact ⟨by omega, by omega⟩)
  have HY3 : Hid (In2 (Q1 * (k : Int)) (Q2 * (k : Int)) 32767) := Lib.hid (by
    have h1 := ab_mul hq.a hkb
    have h2 := ab_mul hq.b hkb
    exact ⟨by omega, by omega⟩)
  have HK := Lib.hid hk0.2
  have E1 := Lib.hid hP1
  have E2 := Lib.hid hP2
  have E3 := Lib.hid hQ1
  have E4 := Lib.hid hQ2
  have o1 := ord_eq (IsI.f P1) (IsI.f Q1) (by unfold Sm; omega) (by unfold Sm; omega)
  have o2 := ord_eq (IsI.f P2) (IsI.f Q2) (by unfold Sm; omega) (by unfold Sm; omega)
  obtain ⟨Z, hZ1, hZ2⟩ : ∃ Z : Bool, (FloatKind.f64.format.order UW 0 == some .eq) = Z ∧ ((FloatKind.f64.format.order (F P1) (F Q1) == some .eq) && (FloatKind.f64.format.order (F P2) (F Q2) == some .eq)) = Z := by
    by_cases h0 : N = 0
    · refine ⟨true, ?_, ?_⟩
      · rw [← hUW, h0, show SQ ((0 : Nat) : Int) = 0 by decide +kernel]
        decide +kernel
      · obtain ⟨e1, e2⟩ := far_zero (by rw [hN, h0]; rfl)
        rw [o1, o2, decide_eq_true e1, decide_eq_true e2]
        rfl
    · refine ⟨false, ?_, ?_⟩
      · obtain ⟨s, hs, -⟩ := sqrt_PV (by omega : 0 < N) (by omega : N < 2 ^ 40) (S := 200) (by decide) (by decide)
        rw [hUW] at hs
        rw [show FloatKind.f64.format.order UW 0 = some .gt from (zero_lt hs).2]
        rfl
      · rw [o1, o2]
        by_cases e1 : P1 = Q1
        · by_cases e2 : P2 = Q2
          · exfalso
            subst e1 e2
            unfold far at hN
            rw [Int.sub_self, Int.sub_self] at hN
            omega
          · rw [decide_eq_false e2, Bool.and_false]
        · rw [decide_eq_false e1, Bool.false_and]
  clear p1 p2 q1 q2 hl hP1 hP2 hQ1 hQ2 hp hq ho hN hNb hNA hNAb hNB hNBb m1 m2 g1 g2 g3 g8 hUW hVW hA9 hB9 a1 a2 a3 a4 b1 b2 b3 b4 b5 hz1 hz2 hkb o1 o2 hk0
  cases Z
  all_goals (
    go_enter Try.func6, Try.ntmps6
    go_wp2_with (first
      | (go_at_call 8; ((with_reducible refine (of_b a b 1000 P1 P2 _ (by omega) (by omega) E1 E2).mono ?_); rintro e' wN ⟨rfl, rfl⟩; skip))
      | (go_at_call 8; ((with_reducible refine (of_b c d 1000 Q1 Q2 _ (by omega) (by omega) E3 E4).mono ?_); rintro e' wN ⟨rfl, rfl⟩; skip))
      | (go_at_call 8; ((with_reducible refine (of_b d a 1000 Q2 P1 _ (by omega) (by omega) E4 E1).mono ?_); rintro e' wN ⟨rfl, rfl⟩; skip))
      | (go_at_call 15; ((with_reducible refine (low_any _ _ _ (by omega) (by omega)).mono ?_); rintro e' wN ⟨rfl, rfl⟩; skip))
      | (go_at_call 9; ((with_reducible refine (turn_n P1 P2 k _ HP.out HK.out).mono ?_); rintro e' wN ⟨rfl, rfl⟩; skip))
      | (go_at_call 9; ((with_reducible refine (turn_n Q1 Q2 k _ HQ.out HK.out).mono ?_); rintro e' wN ⟨rfl, rfl⟩; skip))
      | (go_at_call 10; ((with_reducible refine (len_w P1 P2 Q1 Q2 UW _ HP3.out HQ3.out HPQ).mono ?_); rintro e' wN ⟨rfl, rfl⟩; skip))
      | (go_at_call 10; ((with_reducible refine (len_w Q1 Q2 P1 P2 UW _ HQ3.out HP3.out HQP).mono ?_); rintro e' wN ⟨rfl, rfl⟩; skip))
      | (go_at_call 10; ((with_reducible refine (len_w (P1 * (k : Int)) (P2 * (k : Int)) (Q1 * (k : Int)) (Q2 * (k : Int)) VW _ HX3.out HY3.out HXY).mono ?_); rintro e' wN ⟨rfl, rfl⟩; skip))
      | (go_at_call 10; ((with_reducible refine (len_w P1 P2 Q2 P1 A9 _ HP3.out HO3.out HPO).mono ?_); rintro e' wN ⟨rfl, rfl⟩; skip))
      | (go_at_call 10; ((with_reducible refine (len_w Q2 P1 Q1 Q2 B9 _ HO3.out HQ3.out HOQ).mono ?_); rintro e' wN ⟨rfl, rfl⟩; skip))
      | (go_at_call 16; ((with_reducible refine (abs_b r1 z1 _ HA3.out HZ1).mono ?_); rintro e' wN ⟨rfl, rfl⟩; skip))
      | (go_at_call 16; ((with_reducible refine (abs_b r2 z2 _ HB3.out HZ2).mono ?_); rintro e' wN ⟨rfl, rfl⟩; skip))
      | (go_at_call 12; ((with_reducible refine (awake_any _).mono ?_); rintro e' wN ⟨rfl, hb⟩; skip)))
    go_ret
    exact ⟨rfl, hb⟩)
end Go.Proofs.Ytngemngnboblkaa
