/- PointRing: the walk. -/
import Derived.Test.YtngemngnboblkaaFlD
import Derived.Test.YtngemngnboblkaaOpen
namespace Go.Proofs.Ytngemngnboblkaa
open Go.ChangeShapes Go.WideShapes Go.ChangeAt Go.RowKit
set_option linter.unusedSimpArgs false
set_option linter.unusedVariables false

theorem ab_mul {p q : Int} {a b : Nat} (h1 : p.natAbs ≤ a) (h2 : q.natAbs ≤ b) : (p * q).natAbs ≤ a * b := by
  rw [Int.natAbs_mul]
  exact Nat.mul_le_mul h1 h2
theorem mayN {z : Int} (h : z.natAbs ≤ 32767) : mayZ z = true := mayZ_of (by omega)
structure In2 (x y : Int) (n : Nat) : Prop where
  a : x.natAbs ≤ n
  b : y.natAbs ≤ n
theorem In2.mul {x y u v : Int} {m n : Nat} (h : In2 x y m) (k : In2 u v n) : In2 (x * u - y * v) (x * v + y * u) (2 * (m * n)) := by
  have h1 := ab_mul h.a k.a
  have h2 := ab_mul h.b k.b
  have h3 := ab_mul h.a k.b
  have h4 := ab_mul h.b k.a
  obtain ⟨M, hM⟩ : ∃ M, m * n = M := ⟨_, rfl⟩
  rw [hM] at h1 h2 h3 h4 ⊢
  obtain ⟨A, hA⟩ : ∃ A, x * u = A := ⟨_, rfl⟩
  obtain ⟨B, hB⟩ : ∃ B, y * v = B := ⟨_, rfl⟩
  obtain ⟨C, hC⟩ : ∃ C, x * v = C := ⟨_, rfl⟩
  obtain ⟨D, hD⟩ : ∃ D, y * u = D := ⟨_, rfl⟩
  rw [hA] at h1 ⊢
  rw [hB] at h2 ⊢
  rw [hC] at h3 ⊢
  rw [hD] at h4 ⊢
  clear hA hB hC hD hM h k
  exact ⟨by omega, by omega⟩
theorem In2.add {x y u v : Int} {m n : Nat} (h : In2 x y m) (k : In2 u v n) : In2 (x + u) (y + v) (m + n) := by
  have := h.a
  have := h.b
  have := k.a
  have := k.b
  exact ⟨by omega, by omega⟩
theorem In2.ma {x y : Int} {n : Nat} (h : In2 x y n) (hn : n ≤ 32767) : mayZ x = true := mayN (Nat.le_trans h.a hn)
theorem In2.mb {x y : Int} {n : Nat} (h : In2 x y n) (hn : n ≤ 32767) : mayZ y = true := mayN (Nat.le_trans h.b hn)
theorem ring1 (p1 p2 q1 q2 r1 r2 : Int) : (p1 * q1 - p2 * q2) * r1 - (p1 * q2 + p2 * q1) * r2 = p1 * (q1 * r1 - q2 * r2) - p2 * (q1 * r2 + q2 * r1) ∧ (p1 * q1 - p2 * q2) * r2 + (p1 * q2 + p2 * q1) * r1 = p1 * (q1 * r2 + q2 * r1) + p2 * (q1 * r1 - q2 * r2) := by
  constructor <;> grind
theorem ring2 (p1 p2 q1 q2 r1 r2 : Int) : (p1 + q1) * r1 - (p2 + q2) * r2 = p1 * r1 - p2 * r2 + (q1 * r1 - q2 * r2) ∧ (p1 + q1) * r2 + (p2 + q2) * r1 = p1 * r2 + p2 * r1 + (q1 * r2 + q2 * r1) := by
  constructor <;> grind
theorem of_b (a b most x y : Int) (w : World) (h0 : 0 ≤ most) (h1 : most ≤ 32767) (hx : Hid (ofZ a most = x)) (hy : Hid (ofZ b most = y)) : Calls Try.prog 8 #[.int .i64 a, .int .i64 b, .int .i64 most] w fun e' w' => e' = .returned (.complex .f64 (F x) (F y)) ∧ w = w' := by
  have := of_any a b most w h0 h1
  rwa [hx.out, hy.out] at this
theorem same_yes (x y u v : Int) (w : World) (h1 : x = u) (h2 : y = v) : Calls Try.prog 11 #[.complex .f64 (F x) (F y), .complex .f64 (F u) (F v)] w fun e' w' => e' = .returned (.bool true) ∧ w = w' := by
  subst h1 h2
  have := same_any (F x) (F y) (F x) (F y) w
  rwa [decide_eq_true rfl, decide_eq_true rfl] at this
set_option maxRecDepth 100000 in
set_option maxHeartbeats 4000000 in
theorem ring_walk (a b c d e f : Int) (w : World) (_ : i64in a) (_ : i64in b) (_ : i64in c) (_ : i64in d) (_ : i64in e) (_ : i64in f) : Calls Try.prog 4 #[.int .i64 a, .int .i64 b, .int .i64 c, .int .i64 d, .int .i64 e, .int .i64 f] w fun e' w' => e' = .returned (.bool true) ∧ Below w.heap.size w w' := by
  have p1 := ofZ_bd a 30 (by omega)
  have p2 := ofZ_bd b 30 (by omega)
  have q1 := ofZ_bd c 10 (by omega)
  have q2 := ofZ_bd d 10 (by omega)
  have r1 := ofZ_bd e 10 (by omega)
  have r2 := ofZ_bd f 10 (by omega)
  obtain ⟨P1, hP1⟩ : ∃ z, ofZ a 30 = z := ⟨_, rfl⟩
  obtain ⟨P2, hP2⟩ : ∃ z, ofZ b 30 = z := ⟨_, rfl⟩
  obtain ⟨Q1, hQ1⟩ : ∃ z, ofZ c 10 = z := ⟨_, rfl⟩
  obtain ⟨Q2, hQ2⟩ : ∃ z, ofZ d 10 = z := ⟨_, rfl⟩
  obtain ⟨R1, hR1⟩ : ∃ z, ofZ e 10 = z := ⟨_, rfl⟩
  obtain ⟨R2, hR2⟩ : ∃ z, ofZ f 10 = z := ⟨_, rfl⟩
  rw [hP1] at p1
  rw [hP2] at p2
  rw [hQ1] at q1
  rw [hQ2] at q2
  rw [hR1] at r1
  rw [hR2] at r2
  have HP : Hid (In2 P1 P2 30) := Lib.hid ⟨by omega, by omega⟩
  have HQ : Hid (In2 Q1 Q2 10) := Lib.hid ⟨by omega, by omega⟩
  have HR : Hid (In2 R1 R2 10) := Lib.hid ⟨by omega, by omega⟩
  clear p1 p2 q1 q2 r1 r2
  have HQR := Lib.hid (HQ.out.mul HR.out)
  have HPQ := Lib.hid (HP.out.mul HQ.out)
  have HS := Lib.hid (HPQ.out.mul HR.out)
  have HT := Lib.hid (HP.out.mul HQR.out)
  have HM := Lib.hid (HP.out.add HQ.out)
  have HN := Lib.hid (HM.out.mul HR.out)
  have HG := Lib.hid (HP.out.mul HR.out)
  have HK := Lib.hid (HG.out.add HQR.out)
  have I1 := Lib.hid (ring1 P1 P2 Q1 Q2 R1 R2)
  have I2 := Lib.hid (ring2 P1 P2 Q1 Q2 R1 R2)
  have E1 := Lib.hid hP1
  have E2 := Lib.hid hP2
  have E3 := Lib.hid hQ1
  have E4 := Lib.hid hQ2
  have E5 := Lib.hid hR1
  have E6 := Lib.hid hR2
  clear hP1 hP2 hQ1 hQ2 hR1 hR2
  go_enter Try.func4, Try.ntmps4
  go_wp2_with (first
    | (go_at_call 8; ((with_reducible refine (of_b a b 30 P1 P2 _ (by omega) (by omega) E1 E2).mono ?_); rintro e' wN ⟨rfl, rfl⟩; skip))
    | (go_at_call 8; ((with_reducible refine (of_b c d 10 Q1 Q2 _ (by omega) (by omega) E3 E4).mono ?_); rintro e' wN ⟨rfl, rfl⟩; skip))
    | (go_at_call 8; ((with_reducible refine (of_b e f 10 R1 R2 _ (by omega) (by omega) E5 E6).mono ?_); rintro e' wN ⟨rfl, rfl⟩; skip))
    | (go_at_call 9; ((with_reducible refine (turn_yes Q1 Q2 R1 R2 _ (HQ.out.ma (by decide)) (HQ.out.mb (by decide)) (HR.out.ma (by decide)) (HR.out.mb (by decide)) (HQR.out.ma (by decide)) (HQR.out.mb (by decide))).mono ?_); rintro e' wN ⟨rfl, rfl⟩; skip))
    | (go_at_call 9; ((with_reducible refine (turn_yes P1 P2 Q1 Q2 _ (HP.out.ma (by decide)) (HP.out.mb (by decide)) (HQ.out.ma (by decide)) (HQ.out.mb (by decide)) (HPQ.out.ma (by decide)) (HPQ.out.mb (by decide))).mono ?_); rintro e' wN ⟨rfl, rfl⟩; skip))
    | (go_at_call 9; ((with_reducible refine (turn_yes (P1 * Q1 - P2 * Q2) (P1 * Q2 + P2 * Q1) R1 R2 _ (HPQ.out.ma (by decide)) (HPQ.out.mb (by decide)) (HR.out.ma (by decide)) (HR.out.mb (by decide)) (HS.out.ma (by decide)) (HS.out.mb (by decide))).mono ?_); rintro e' wN ⟨rfl, rfl⟩; skip))
    | (go_at_call 9; ((with_reducible refine (turn_yes P1 P2 (Q1 * R1 - Q2 * R2) (Q1 * R2 + Q2 * R1) _ (HP.out.ma (by decide)) (HP.out.mb (by decide)) (HQR.out.ma (by decide)) (HQR.out.mb (by decide)) (HT.out.ma (by decide)) (HT.out.mb (by decide))).mono ?_); rintro e' wN ⟨rfl, rfl⟩; skip))
    | (go_at_call 13; ((with_reducible refine (move_yes P1 P2 Q1 Q2 _ (HP.out.ma (by decide)) (HP.out.mb (by decide)) (HQ.out.ma (by decide)) (HQ.out.mb (by decide)) (HM.out.ma (by decide)) (HM.out.mb (by decide))).mono ?_); rintro e' wN ⟨rfl, rfl⟩; skip))
    | (go_at_call 9; ((with_reducible refine (turn_yes (P1 + Q1) (P2 + Q2) R1 R2 _ (HM.out.ma (by decide)) (HM.out.mb (by decide)) (HR.out.ma (by decide)) (HR.out.mb (by decide)) (HN.out.ma (by decide)) (HN.out.mb (by decide))).mono ?_); rintro e' wN ⟨rfl, rfl⟩; skip))
    | (go_at_call 9; ((with_reducible refine (turn_yes P1 P2 R1 R2 _ (HP.out.ma (by decide)) (HP.out.mb (by decide)) (HR.out.ma (by decide)) (HR.out.mb (by decide)) (HG.out.ma (by decide)) (HG.out.mb (by decide))).mono ?_); rintro e' wN ⟨rfl, rfl⟩; skip))
    | (go_at_call 13; ((with_reducible refine (move_yes (P1 * R1 - P2 * R2) (P1 * R2 + P2 * R1) (Q1 * R1 - Q2 * R2) (Q1 * R2 + Q2 * R1) _ (HG.out.ma (by decide)) (HG.out.mb (by decide)) (HQR.out.ma (by decide)) (HQR.out.mb (by decide)) (HK.out.ma (by decide)) (HK.out.mb (by decide))).mono ?_); rintro e' wN ⟨rfl, rfl⟩; skip))
    | (go_at_call 11; ((with_reducible refine (same_yes _ _ _ _ _ I1.out.1 I1.out.2).mono ?_); rintro e' wN ⟨rfl, rfl⟩; skip))
    | (go_at_call 11; ((with_reducible refine (same_yes _ _ _ _ _ I2.out.1 I2.out.2).mono ?_); rintro e' wN ⟨rfl, rfl⟩; skip))
    | (go_at_call 12; ((with_reducible refine (awake_any _).mono ?_); rintro e' wN ⟨rfl, hb⟩; skip)))
  go_ret
  exact ⟨rfl, hb⟩
end Go.Proofs.Ytngemngnboblkaa
