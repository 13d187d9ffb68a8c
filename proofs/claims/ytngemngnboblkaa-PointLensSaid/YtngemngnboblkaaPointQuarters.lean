/- PointQuarters: the walk. -/
import Derived.Test.YtngemngnboblkaaPointRing
namespace Go.Proofs.Ytngemngnboblkaa
open Go.ChangeShapes Go.WideShapes Go.ChangeAt Go.RowKit
set_option linter.unusedSimpArgs false
set_option linter.unusedVariables false

@[go_sem] theorem run_neg_float (P : Program) (k : FloatKind) (b : Nat) (w : World) : (Op.unary .neg (.float k b)).run P w = .ok (.float k (Op.negFloat k b)) w := rfl
theorem xor63 (r : Nat) (h : r < 9223372036854775808) : r ^^^ 9223372036854775808 = 9223372036854775808 + r := by
  have e : (9223372036854775808 : Nat) = 2 ^ 63 := by decide
  rw [e] at h ⊢
  apply Nat.eq_of_testBit_eq
  intro i
  rw [Nat.testBit_xor, Nat.testBit_two_pow]
  rcases Nat.lt_trichotomy i 63 with hi | hi | hi
  · rw [Nat.testBit_two_pow_add_gt hi, decide_eq_false (by omega), Bool.xor_false]
  · subst hi
    rw [Nat.testBit_two_pow_add_eq, Nat.testBit_lt_two_pow h]
    rfl
  · have h1 : r < 2 ^ i := Nat.lt_of_lt_of_le h (Nat.pow_le_pow_right (by decide) (by omega))
    have h2 : 2 ^ 63 + r < 2 ^ i := by
      have : 2 ^ 64 ≤ 2 ^ i := Nat.pow_le_pow_right (by decide) (by omega)
      omega
    rw [Nat.testBit_lt_two_pow h1, Nat.testBit_lt_two_pow h2, decide_eq_false (by omega)]
    rfl
theorem neg_I {x : Int} (hx : Sm x) : IsI (Op.negFloat .f64 (F x)) (-x) := by
  have e0 : ∀ b : Nat, Op.negFloat .f64 b = b ^^^ 9223372036854775808 := fun b => by
    show b ^^^ 2 ^ 63 = _
    rfl
  rw [e0]
  by_cases h0 : x = 0
  · subst h0
    exact Or.inr ⟨rfl, by decide⟩
  · have hn : x.natAbs ≠ 0 := by omega
    have hl := log2_le hn hx
    obtain ⟨b1, b2⟩ := rg_bd hn hx
    obtain ⟨n1, n2, -⟩ := rung_num _ _ hl b1 b2
    have hr : rg x.natAbs < 9223372036854775808 := by
      have : rg x.natAbs = (x.natAbs.log2 + 1022) * 4503599627370496 + x.natAbs * 2 ^ (52 - x.natAbs.log2) := rfl
      rw [this]
      exact Nat.lt_trans n2 (by decide)
    left
    unfold F
    rw [if_neg h0, if_neg (by omega : ¬ -x = 0), Int.natAbs_neg]
    unfold Ieee.Format.word
    rw [sw_db]
    by_cases h : x < 0
    · rw [decide_eq_true h, decide_eq_false (by omega : ¬ -x < 0), if_pos rfl, if_neg (by simp), ← xor63 _ hr, Nat.xor_assoc, Nat.xor_self, Nat.xor_zero]
    · rw [decide_eq_false h, decide_eq_true (by omega : -x < 0), if_neg (by simp), if_pos rfl, xor63 _ hr]
theorem near_word (s : Bool) (M : Nat) (p : Int) : ∃ r, r ≤ 9218868437227405312 ∧ DB.nearest s M p = DB.word s r := by
  unfold Ieee.Format.nearest
  by_cases h : M = 0
  · rw [if_pos h]
    exact ⟨0, by decide, rfl⟩
  · rw [if_neg h]
    dsimp only
    rw [inf_db]
    exact ⟨_, Nat.min_le_right _ _, rfl⟩
theorem read_le (s : Bool) {r : Nat} (h : r ≤ 9218868437227405312) : (∃ t m i, DB.read (DB.word s r) = .number t m i) ∨ ∃ t, DB.read (DB.word s r) = .infinity t := by
  have hw2 : (DB.word s r) % 9223372036854775808 = r := by
    unfold Ieee.Format.word
    rw [sw_db]
    cases s
    · simp only [Bool.false_eq_true, if_false]
      omega
    · simp only [if_true]
      omega
  unfold Ieee.Format.read
  rw [sw_db, hw2, binade_db, inf_db, least_db]
  dsimp only
  by_cases h1 : r < 4503599627370496
  · rw [if_pos h1]
    exact Or.inl ⟨_, _, _, rfl⟩
  · rw [if_neg h1]
    by_cases h2 : r < 9218868437227405312
    · rw [if_pos h2]
      exact Or.inl ⟨_, _, _, rfl⟩
    · rw [if_neg h2, if_pos (by omega)]
      exact Or.inr ⟨_, rfl⟩
theorem cmp_self (z : Int) : compare z z = Ordering.eq := by
  show compareOfLessAndEq z z = _
  unfold compareOfLessAndEq
  rw [if_neg (by omega), if_pos rfl]
theorem order_near (s : Bool) (M : Nat) (p : Int) : DB.order (DB.nearest s M p) (DB.nearest s M p) = some .eq := by
  obtain ⟨r, hr, e⟩ := near_word s M p
  rw [e]
  unfold Ieee.Format.order
  rcases read_le s hr with ⟨t, m, i, h⟩ | ⟨t, h⟩
  · rw [h]
    simp only [Ieee.Datum.order, cmp_self]
  · rw [h]
    cases t <;> rfl
theorem sq_near {n : Int} (h : 0 ≤ n) (hb : Sm n) : ∃ s M p, SQ n = DB.nearest s M p := by
  obtain ⟨s, k, hr, hs⟩ := (IsI.f n).val hb
  have hn := neg_F hb
  rw [hr] at hn
  simp only [Ieee.Datum.neg] at hn
  rw [decide_eq_false (by omega)] at hn
  subst hn
  unfold SQ Ieee.Format.sqrt
  rw [hr]
  unfold Ieee.Datum.root
  by_cases h0 : n.natAbs * 2 ^ k = 0
  · simp only [if_pos h0]
    exact ⟨_, _, _, rfl⟩
  · simp only [if_neg h0, Bool.false_eq_true, if_false]
    exact ⟨_, _, _, rfl⟩
theorem sq_self {n : Int} (h : 0 ≤ n) (hb : Sm n) : FloatKind.f64.format.order (SQ n) (SQ n) = some .eq := by
  obtain ⟨s, M, p, e⟩ := sq_near h hb
  rw [e]
  exact order_near s M p
def rot (p : Int × Int) : Nat → Int × Int
  | 0 => p
  | i + 1 => (-(rot p i).2, (rot p i).1)
theorem rot_in {x y : Int} {n : Nat} (h : In2 x y n) : ∀ i, In2 (rot (x, y) i).1 (rot (x, y) i).2 n
  | 0 => h
  | i + 1 => ⟨by show (-(rot (x, y) i).2).natAbs ≤ n; rw [Int.natAbs_neg]; exact (rot_in h i).b, (rot_in h i).a⟩
theorem rot4 (p : Int × Int) : rot p 4 = p := by
  obtain ⟨x, y⟩ := p
  show (-(-(x)), -(-(y))) = _
  rw [Int.neg_neg, Int.neg_neg]
theorem far_rot (x y u v : Int) : far (-y) x (-v) u = far x y u v := by
  unfold far
  grind
theorem turn_i (x y : Int) (w : World) (h : In2 x y 32767) : Calls Try.prog 9 #[.complex .f64 (F x) (F y), .complex .f64 0 4607182418800017408] w fun e' w' => e' = .returned (.tuple #[.complex .f64 (F (-y)) (F x), .bool true]) ∧ w = w' := by
  have e1 : x * 0 - y * 1 = -y := by omega
  have e2 : x * 1 + y * 0 = x := by omega
  have hy : mayZ (-y) = true := mayN (by rw [Int.natAbs_neg]; exact h.b)
  have := turn_yes x y 0 1 w (h.ma (by decide)) (h.mb (by decide)) (by decide) (by decide) (by rw [e1]; exact hy) (by rw [e2]; exact h.ma (by decide))
  rw [e1, e2, k_0, k_1] at this
  exact this
theorem len_b (x y u v N : Int) (w : World) (h1 : In2 x y 32767) (h2 : In2 u v 32767) (hN : far x y u v = N) : Calls Try.prog 10 #[.complex .f64 (F x) (F y), .complex .f64 (F u) (F v)] w fun e' w' => e' = .returned (.float .f64 (SQ N)) ∧ w = w' := by
  rw [← hN]
  exact len_any x y u v w (h1.ma (by decide)) (h1.mb (by decide)) (h2.ma (by decide)) (h2.mb (by decide))
theorem far_bd {x y u v : Int} (h1 : In2 x y 32767) (h2 : In2 u v 32767) : 0 ≤ far x y u v ∧ Sm (far x y u v) := by
  have a1 : (x - u).natAbs ≤ 65536 := by have := h1.a; have := h2.a; omega
  have a2 : (y - v).natAbs ≤ 65536 := by have := h1.b; have := h2.b; omega
  have b1 := ab_mul a1 a1
  have b2 := ab_mul a2 a2
  have c : ∀ p : Int, 0 ≤ p * p := fun p => by rcases Int.le_total 0 p with q | q; exact Int.mul_nonneg q q; exact Int.mul_nonneg_of_nonpos_of_nonpos q q
  have c1 := c (x - u)
  have c2 := c (y - v)
  unfold far Sm
  omega
set_option maxRecDepth 100000 in
set_option maxHeartbeats 4000000 in
theorem quarters_walk (a b c d : Int) (w : World) (_ : i64in a) (_ : i64in b) (_ : i64in c) (_ : i64in d) : Calls Try.prog 3 #[.int .i64 a, .int .i64 b, .int .i64 c, .int .i64 d] w fun e' w' => e' = .returned (.bool true) ∧ Below w.heap.size w w' := by
  have p1 := ofZ_bd a 32767 (by omega)
  have p2 := ofZ_bd b 32767 (by omega)
  have q1 := ofZ_bd c 32767 (by omega)
  have q2 := ofZ_bd d 32767 (by omega)
  obtain ⟨P1, hP1⟩ : ∃ z, ofZ a 32767 = z := ⟨_, rfl⟩
  obtain ⟨P2, hP2⟩ : ∃ z, ofZ b 32767 = z := ⟨_, rfl⟩
  obtain ⟨Q1, hQ1⟩ : ∃ z, ofZ c 32767 = z := ⟨_, rfl⟩
  obtain ⟨Q2, hQ2⟩ : ∃ z, ofZ d 32767 = z := ⟨_, rfl⟩
  rw [hP1] at p1
  rw [hP2] at p2
  rw [hQ1] at q1
  rw [hQ2] at q2
  have HP : Hid (In2 P1 P2 32767) := Lib.hid ⟨by omega, by omega⟩
  have HQ : Hid (In2 Q1 Q2 32767) := Lib.hid ⟨by omega, by omega⟩
  have E1 := Lib.hid hP1
  have E2 := Lib.hid hP2
  have E3 := Lib.hid hQ1
  have E4 := Lib.hid hQ2
  clear p1 p2 q1 q2 hP1 hP2 hQ1 hQ2
  go_enter Try.func3, Try.ntmps3
  go_wp2_with (first
    | (go_at_call 8; ((with_reducible refine (of_b a b 32767 P1 P2 _ (by omega) (by omega) E1 E2).mono ?_); rintro e' wN ⟨rfl, rfl⟩; skip))
    | (go_at_call 8; ((with_reducible refine (of_b c d 32767 Q1 Q2 _ (by omega) (by omega) E3 E4).mono ?_); rintro e' wN ⟨rfl, rfl⟩; skip)))
  go_loop [11, 12, 13] (fun s11 s12 s13 => ∃ i : Nat, i ≤ 4 ∧ s11 = cV (rot (P1, P2) i) ∧ s12 = cV (rot (Q1, Q2) i) ∧ s13 = .int .i64 (i : Int)) (fun _ _ s13 => 4 - (intOf s13).toNat)
  case atStart => exact ⟨0, by omega, rfl, rfl, rfl⟩
  case round =>
    obtain ⟨i, hi, rfl, rfl, rfl⟩ := hrel
    by_cases hlt : i < 4
    · have i0 : (0 : Int) ≤ (i : Int) := by omega
      have i1 : (i : Int) < 4 := by omega
      have rp := rot_in HP.out i
      have rq := rot_in HQ.out i
      obtain ⟨N, hN⟩ : ∃ N, far (rot (P1, P2) i).1 (rot (P1, P2) i).2 (rot (Q1, Q2) i).1 (rot (Q1, Q2) i).2 = N := ⟨_, rfl⟩
      have hNb := far_bd rp rq
      rw [hN] at hNb
      have hne : (FloatKind.f64.format.order (SQ N) (SQ N) != some .eq) = false := by rw [sq_self hNb.1 hNb.2]; rfl
      have HRP := Lib.hid rp
      have HRQ := Lib.hid rq
      have HP' : Hid (In2 (-(rot (P1, P2) i).2) (rot (P1, P2) i).1 32767) := Lib.hid (rot_in HP.out (i + 1))
      have HQ' : Hid (In2 (-(rot (Q1, Q2) i).2) (rot (Q1, Q2) i).1 32767) := Lib.hid (rot_in HQ.out (i + 1))
      have HN := Lib.hid hN
      have HN' := Lib.hid ((far_rot _ _ _ _).trans hN)
      clear rp rq hN hNb
      by_cases h1 : i = 1
      · subst h1
        have g1 : (FloatKind.f64.format.order (F (-(rot (P1, P2) 1).2)) (Op.negFloat .f64 (F P1)) != some .eq) = false := by
          have hs : Sm P1 := by unfold Sm; have := HP.out.a; omega
          have hs2 : Sm (-P1) := by unfold Sm; have := HP.out.a; omega
          show (!(FloatKind.f64.format.order (F (-P1)) (Op.negFloat .f64 (F P1)) == some .eq)) = false
          rw [ord_eq (IsI.f (-P1)) (neg_I hs) hs2 hs2, decide_eq_true rfl]
          rfl
        have g2 : (FloatKind.f64.format.order (F (rot (P1, P2) 1).1) (Op.negFloat .f64 (F P2)) != some .eq) = false := by
          have hs : Sm P2 := by unfold Sm; have := HP.out.b; omega
          have hs2 : Sm (-P2) := by unfold Sm; have := HP.out.b; omega
          show (!(FloatKind.f64.format.order (F (-P2)) (Op.negFloat .f64 (F P2)) == some .eq)) = false
          rw [ord_eq (IsI.f (-P2)) (neg_I hs) hs2 hs2, decide_eq_true rfl]
          rfl
        unfold cV
        go_wp2_with (first
          | (go_at_call 9; ((with_reducible refine (turn_i (rot (P1, P2) 1).1 (rot (P1, P2) 1).2 _ HRP.out).mono ?_); rintro e' wN ⟨rfl, rfl⟩; skip))
          | (go_at_call 9; ((with_reducible refine (turn_i (rot (Q1, Q2) 1).1 (rot (Q1, Q2) 1).2 _ HRQ.out).mono ?_); rintro e' wN ⟨rfl, rfl⟩; skip))
          | (go_at_call 10; ((with_reducible refine (len_b _ _ _ _ N _ HP'.out HQ'.out HN'.out).mono ?_); rintro e' wN ⟨rfl, rfl⟩; skip))
          | (go_at_call 10; ((with_reducible refine (len_b _ _ _ _ N _ HRP.out HRQ.out HN.out).mono ?_); rintro e' wN ⟨rfl, rfl⟩; skip)))
        go_round
        case rel => exact ⟨1 + 1, by omega, rfl, rfl, by go_num⟩
        case measure => first | (simp [intOf]; done) | (simp [intOf]; omega)
      · have i2 : ((i : Int) == 1) = false := by simp; omega
        unfold cV
        go_wp2_with (first
          | (go_at_call 9; ((with_reducible refine (turn_i (rot (P1, P2) i).1 (rot (P1, P2) i).2 _ HRP.out).mono ?_); rintro e' wN ⟨rfl, rfl⟩; skip))
          | (go_at_call 9; ((with_reducible refine (turn_i (rot (Q1, Q2) i).1 (rot (Q1, Q2) i).2 _ HRQ.out).mono ?_); rintro e' wN ⟨rfl, rfl⟩; skip))
          | (go_at_call 10; ((with_reducible refine (len_b _ _ _ _ N _ HP'.out HQ'.out HN'.out).mono ?_); rintro e' wN ⟨rfl, rfl⟩; skip))
          | (go_at_call 10; ((with_reducible refine (len_b _ _ _ _ N _ HRP.out HRQ.out HN.out).mono ?_); rintro e' wN ⟨rfl, rfl⟩; skip)))
        go_round
        case rel => exact ⟨i + 1, by omega, rfl, rfl, by go_num⟩
        case measure => first | (simp [intOf]; done) | (simp [intOf]; omega)
    · obtain rfl : i = 4 := by omega
      rw [rot4, rot4]
      unfold cV
      go_wp2_with (first
        | (go_at_call 11; ((with_reducible refine (same_yes _ _ _ _ _ rfl rfl).mono ?_); rintro e' wN ⟨rfl, rfl⟩; skip))
        | (go_at_call 12; ((with_reducible refine (awake_any _).mono ?_); rintro e' wN ⟨rfl, hb⟩; skip)))
      go_ret
      exact ⟨rfl, hb⟩
end Go.Proofs.Ytngemngnboblkaa
