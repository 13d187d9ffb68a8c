/- Floats of 64 bits that are whole numbers: what a word stands for, and what comes of two. -/
import Derived.Laws.FloatArith
import Derived.Laws.ComplexArith
namespace Go.Proofs.Ytmnfikfncbppfaa
open Ieee

abbrev DB : Format := Ieee.double
theorem frac_db : DB.fractionBits = 52 := rfl
theorem least_db : DB.leastPlace = -1074 := by decide
theorem binade_db : DB.binade = 4503599627370496 := by decide
theorem inf_db : DB.infRung = 9218868437227405312 := by decide
theorem sw_db : DB.signWeight = 9223372036854775808 := by decide

theorem log2_bd {n : Nat} (h : n ≠ 0) : 2 ^ n.log2 ≤ n ∧ n < 2 ^ (n.log2 + 1) := ⟨Nat.log2_self_le h, Nat.lt_log2_self⟩
theorem log2_uniq {n k : Nat} (h1 : 2 ^ k ≤ n) (h2 : n < 2 ^ (k + 1)) : n.log2 = k := by
  have hn : n ≠ 0 := by have := Nat.two_pow_pos k; omega
  have a1 : n.log2 < k + 1 := (Nat.log2_lt hn).2 h2
  have a2 : k ≤ n.log2 := (Nat.le_log2 hn).2 h1
  omega
theorem log2_shift {n : Nat} (hn : n ≠ 0) (k : Nat) : (n * 2 ^ k).log2 = n.log2 + k := by
  obtain ⟨h1, h2⟩ := log2_bd hn
  refine log2_uniq ?_ ?_
  · rw [Nat.pow_add]
    exact Nat.mul_le_mul_right _ h1
  · rw [show n.log2 + k + 1 = (n.log2 + 1) + k by omega, Nat.pow_add]
    exact Nat.mul_lt_mul_of_pos_right h2 (Nat.two_pow_pos k)
/-- The rung of a whole number. -/
def rg (n : Nat) : Nat := (n.log2 + 1022) * 4503599627370496 + n * 2 ^ (52 - n.log2)
theorem log2_le {n : Nat} (hn : n ≠ 0) (hb : n < 9007199254740992) : n.log2 ≤ 52 := by
  have h : n < 2 ^ 53 := hb
  have := (Nat.log2_lt hn).2 h
  omega
theorem p52 : (2 : Nat) ^ 52 = 4503599627370496 := by decide
theorem p53 : (2 : Nat) ^ 53 = 9007199254740992 := by decide
theorem rung_num (L q : Nat) (h : L ≤ 52) (h1 : 4503599627370496 ≤ q) (h2 : q < 9007199254740992) : 4503599627370496 ≤ (L + 1022) * 4503599627370496 + q ∧ (L + 1022) * 4503599627370496 + q < 9218868437227405312 ∧ ((L + 1022) * 4503599627370496 + q) % 4503599627370496 = q - 4503599627370496 ∧ ((L + 1022) * 4503599627370496 + q) / 4503599627370496 = L + 1023 := by
  refine ⟨by omega, by omega, by omega, by omega⟩
theorem rg_bd {n : Nat} (hn : n ≠ 0) (hb : n < 9007199254740992) : 4503599627370496 ≤ n * 2 ^ (52 - n.log2) ∧ n * 2 ^ (52 - n.log2) < 9007199254740992 := by
  have hl := log2_le hn hb
  obtain ⟨h1, h2⟩ := log2_bd hn
  constructor
  · have := Nat.mul_le_mul_right (2 ^ (52 - n.log2)) h1
    rw [← Nat.pow_add, show n.log2 + (52 - n.log2) = 52 by omega, p52] at this
    exact this
  · have := Nat.mul_lt_mul_of_pos_right h2 (Nat.two_pow_pos (52 - n.log2))
    rw [← Nat.pow_add, show n.log2 + 1 + (52 - n.log2) = 53 by omega, p53] at this
    exact this
theorem cut_exact (s : Bool) (X d : Nat) (hd : d ≤ (X * 2 ^ d).log2 + 2) : Toward.even.cut s (X * 2 ^ d) d = X := by
  unfold Toward.cut
  dsimp only
  rw [Nat.min_eq_left hd, Nat.one_shiftLeft, Nat.mul_div_cancel _ (Nat.two_pow_pos d), Nat.mul_mod_left]
  have h1 : decide (2 ^ d < 2 * 0) = false := decide_eq_false (Nat.not_lt_zero _)
  have h2 : (2 ^ d == 2 * 0) = false := by
    have := Nat.two_pow_pos d
    simp
  rw [h1, h2]
  rfl
theorem cut_none (s : Bool) (X : Nat) : Toward.even.cut s X 0 = X := by
  have := cut_exact s X 0 (by omega)
  rwa [Nat.pow_zero, Nat.mul_one] at this
theorem near_val {n : Nat} (hn : n ≠ 0) (hb : n < 9007199254740992) (s : Bool) (k : Nat) : DB.nearest s (n * 2 ^ k) (-(k : Int)) = DB.word s (rg n) := by
  have hl := log2_le hn hb
  obtain ⟨b1, b2⟩ := rg_bd hn hb
  have hm : n * 2 ^ k ≠ 0 := by
    have := Nat.two_pow_pos k
    exact Nat.mul_ne_zero hn (by omega)
  unfold Format.nearest
  rw [if_neg hm, log2_shift hn k, frac_db, least_db, binade_db, inf_db]
  have e1 : max (-(k : Int) + ((n.log2 + k : Nat) : Int) - ((52 : Nat) : Int)) (-1074) = (n.log2 : Int) - 52 := by omega
  have e2 : ((n.log2 : Int) - 52 - -1074).toNat = n.log2 + 1022 := by omega
  simp only [e1, e2]
  have hkept : Toward.even.cut s ((n * 2 ^ k) <<< (-(k : Int) - ((n.log2 : Int) - 52)).toNat) ((n.log2 : Int) - 52 - -(k : Int)).toNat = n * 2 ^ (52 - n.log2) := by
    by_cases hc : n.log2 + k ≤ 52
    · rw [show (-(k : Int) - ((n.log2 : Int) - 52)).toNat = 52 - n.log2 - k by omega, show ((n.log2 : Int) - 52 - -(k : Int)).toNat = 0 by omega, cut_none, Nat.shiftLeft_eq, Nat.mul_assoc, ← Nat.pow_add]
      congr 2
      omega
    · rw [show (-(k : Int) - ((n.log2 : Int) - 52)).toNat = 0 by omega, Nat.shiftLeft_zero]
      obtain ⟨d, hd⟩ : ∃ d, k = (52 - n.log2) + d := ⟨k - (52 - n.log2), by omega⟩
      rw [show ((n.log2 : Int) - 52 - -(k : Int)).toNat = d by omega, hd, Nat.pow_add, ← Nat.mul_assoc]
      refine cut_exact s _ d ?_
      have hn2 : n * 2 ^ (52 - n.log2) ≠ 0 := by omega
      rw [log2_shift hn2]
      omega
  rw [hkept]
  unfold rg
  congr 1
  exact Nat.min_eq_left (Nat.le_of_lt (rung_num _ _ hl b1 b2).2.1)
/-- The word of a whole number. -/
def F (z : Int) : Nat := if z = 0 then 0 else DB.word (decide (z < 0)) (rg z.natAbs)
/-- A datum that stands for a whole number. -/
def Val (d : Datum) (z : Int) : Prop := ∃ (s : Bool) (k : Nat), d = .number s (z.natAbs * 2 ^ k) (-(k : Int)) ∧ (z ≠ 0 → s = decide (z < 0))
/-- A word that stands for a whole number: 0 has two. -/
def IsI (b : Nat) (z : Int) : Prop := b = F z ∨ (z = 0 ∧ b = 9223372036854775808)
theorem IsI.f (z : Int) : IsI (F z) z := Or.inl rfl
theorem IsI.ne {b : Nat} {z : Int} (h : IsI b z) (hz : z ≠ 0) : b = F z := by
  rcases h with h | h
  · exact h
  · exact absurd h.1 hz
theorem write_val {s : Bool} {k : Nat} {z : Int} (hb : z.natAbs < 9007199254740992) (hs : z ≠ 0 → s = decide (z < 0)) : IsI (DB.write (.number s (z.natAbs * 2 ^ k) (-(k : Int)))) z ∧ (s = false → DB.write (.number s (z.natAbs * 2 ^ k) (-(k : Int))) = F z) := by
  show IsI (DB.nearest _ _ _) z ∧ (s = false → DB.nearest _ _ _ = F z)
  by_cases hz : z = 0
  · subst hz
    have e : DB.nearest s ((0 : Int).natAbs * 2 ^ k) (-(k : Int)) = DB.word s 0 := by
      unfold Format.nearest
      rw [if_pos (by simp)]
    rw [e]
    cases s
    · exact ⟨Or.inl rfl, fun _ => rfl⟩
    · exact ⟨Or.inr ⟨rfl, by decide⟩, fun h => by cases h⟩
  · have hn : z.natAbs ≠ 0 := by omega
    rw [near_val hn hb]
    have e : DB.word s (rg z.natAbs) = F z := by
      unfold F
      rw [if_neg hz, hs hz]
    exact ⟨Or.inl e, fun _ => e⟩
theorem write_F {s : Bool} {k : Nat} {z : Int} (hb : z.natAbs < 9007199254740992) (hs : s = decide (z < 0)) : DB.write (.number s (z.natAbs * 2 ^ k) (-(k : Int))) = F z := by
  by_cases hz : z = 0
  · exact (write_val hb (fun h => absurd hz h)).2 (by rw [hs, hz]; rfl)
  · exact (write_val hb (fun _ => hs)).1.ne hz
theorem read_word (s : Bool) {r : Nat} (h1 : 4503599627370496 ≤ r) (h2 : r < 9218868437227405312) : DB.read (DB.word s r) = .number s (4503599627370496 + r % 4503599627370496) (-1074 + (r / 4503599627370496 - 1 : Nat)) := by
  have hw1 : (DB.word s r) / 9223372036854775808 % 2 = if s then 1 else 0 := by
    unfold Format.word
    rw [sw_db]
    cases s
    · simp only [Bool.false_eq_true, if_false]
      omega
    · simp only [if_true]
      omega
  have hw2 : (DB.word s r) % 9223372036854775808 = r := by
    unfold Format.word
    rw [sw_db]
    cases s
    · simp only [Bool.false_eq_true, if_false]
      omega
    · simp only [if_true]
      omega
  unfold Format.read
  rw [sw_db, hw1, hw2, binade_db, inf_db, least_db]
  simp only
  rw [if_neg (by omega), if_pos h2]
  cases s <;> rfl
theorem val_zero (s : Bool) (k : Nat) : Val (.number s 0 (-(k : Int))) 0 := ⟨s, k, by rw [Int.natAbs_zero, Nat.zero_mul], fun h => absurd rfl h⟩
theorem read_zero : Val (DB.read 0) 0 := val_zero false 1074
theorem read_neg0 : Val (DB.read 9223372036854775808) 0 := val_zero true 1074
theorem read_F0 : DB.read (F 0) = .number false 0 (-1074) := by rfl
theorem read_F {z : Int} (hz : z ≠ 0) (hb : z.natAbs < 9007199254740992) : DB.read (F z) = .number (decide (z < 0)) (z.natAbs * 2 ^ (52 - z.natAbs.log2)) (-((52 - z.natAbs.log2 : Nat) : Int)) := by
  have hn : z.natAbs ≠ 0 := by omega
  have hl := log2_le hn hb
  obtain ⟨b1, b2⟩ := rg_bd hn hb
  unfold F
  rw [if_neg hz]
  obtain ⟨n1, n2, n3, n4⟩ := rung_num _ _ hl b1 b2
  have hr : rg z.natAbs = (z.natAbs.log2 + 1022) * 4503599627370496 + z.natAbs * 2 ^ (52 - z.natAbs.log2) := rfl
  rw [← hr] at n1 n2 n3 n4
  rw [read_word _ n1 n2, n3, n4]
  clear n1 n2 n3 n4 hr
  obtain ⟨q, hq⟩ : ∃ q, z.natAbs * 2 ^ (52 - z.natAbs.log2) = q := ⟨_, rfl⟩
  obtain ⟨L, hL⟩ : ∃ L, z.natAbs.log2 = L := ⟨_, rfl⟩
  rw [hL] at hl
  rw [hq] at b1 ⊢
  rw [hL]
  clear hq hL hn b2 hb hz
  have e1 : 4503599627370496 + (q - 4503599627370496) = q := by omega
  have e2 : (-1074 : Int) + ((L + 1023 - 1 : Nat) : Int) = -((52 - L : Nat) : Int) := by omega
  rw [e1, e2]
theorem IsI.val {b : Nat} {z : Int} (h : IsI b z) (hb : z.natAbs < 9007199254740992) : Val (DB.read b) z := by
  rcases h with rfl | ⟨rfl, rfl⟩
  · by_cases hz : z = 0
    · subst hz
      exact read_zero
    · exact ⟨_, _, read_F hz hb, fun _ => rfl⟩
  · exact read_neg0
theorem signed_val {s : Bool} {z : Int} {k : Nat} (hs : z ≠ 0 → s = decide (z < 0)) (u : Nat) : signed s (z.natAbs * 2 ^ k) u = z * 2 ^ (k + u) := by
  unfold signed
  rw [Nat.shiftLeft_eq, Nat.mul_assoc, ← Nat.pow_add]
  have e : ((z.natAbs * 2 ^ (k + u) : Nat) : Int) = (z.natAbs : Int) * 2 ^ (k + u) := by push_cast; rfl
  rw [e]
  by_cases hz : z = 0
  · subst hz
    simp
  · rw [hs hz]
    by_cases h : z < 0
    · rw [decide_eq_true h, if_pos rfl, ← Int.neg_mul]
      congr 1
      omega
    · rw [decide_eq_false h, if_neg (by simp)]
      congr 1
      omega
theorem pow2_pos (k : Nat) : (0 : Int) < 2 ^ k := Int.pow_pos (by decide)
/-- What a sum is, and its sign where it is nothing. -/
theorem sum_val {d1 d2 : Datum} {x y : Int} (h1 : Val d1 x) (h2 : Val d2 y) : ∃ (s : Bool) (k : Nat), d1.sum d2 = some (.number s ((x + y).natAbs * 2 ^ k) (-(k : Int))) ∧ (x + y ≠ 0 → s = decide (x + y < 0)) ∧ (x + y = 0 → s = (d1.neg && d2.neg)) := by
  obtain ⟨s, k, rfl, hs⟩ := h1
  obtain ⟨t, l, rfl, ht⟩ := h2
  obtain ⟨K, hK⟩ : ∃ K, K = max k l := ⟨_, rfl⟩
  have hb : min (-(k : Int)) (-(l : Int)) = -(K : Int) := by omega
  have e1 : (-(k : Int) - -(K : Int)).toNat = K - k := by omega
  have e2 : (-(l : Int) - -(K : Int)).toNat = K - l := by omega
  have e3 : signed s (x.natAbs * 2 ^ k) (K - k) + signed t (y.natAbs * 2 ^ l) (K - l) = (x + y) * 2 ^ K := by
    rw [signed_val hs, signed_val ht, show k + (K - k) = K by omega, show l + (K - l) = K by omega, Int.add_mul]
  have hp := pow2_pos K
  have e4 : (((x + y) * 2 ^ K : Int)).natAbs = (x + y).natAbs * 2 ^ K := by
    rw [Int.natAbs_mul, Int.natAbs_pow]
    rfl
  refine ⟨if (x + y) * 2 ^ K = 0 then s && t else decide ((x + y) * 2 ^ K < 0), K, ?_, fun h => ?_, fun h => ?_⟩
  · simp only [Datum.sum, hb, e1, e2, e3, e4]
  · have : ¬ (x + y) * 2 ^ K = 0 := by
      intro q
      rcases Int.mul_eq_zero.1 q with q | q
      · exact h q
      · omega
    rw [if_neg this]
    by_cases hn : x + y < 0
    · rw [decide_eq_true hn, decide_eq_true (Int.mul_neg_of_neg_of_pos hn hp)]
    · rw [decide_eq_false hn, decide_eq_false (by have := Int.mul_nonneg (a := x + y) (b := 2 ^ K) (by omega) (by omega); omega)]
  · rw [if_pos (by rw [h]; simp)]
    rfl
theorem opp_val {d : Datum} {x : Int} (h : Val d x) : Val d.opposite (-x) := by
  obtain ⟨s, k, rfl, hs⟩ := h
  refine ⟨!s, k, by simp [Datum.opposite], fun hx => ?_⟩
  rw [hs (by omega)]
  by_cases h : x < 0
  · rw [decide_eq_true h, decide_eq_false (by omega)]
    rfl
  · rw [decide_eq_false h, decide_eq_true (by omega)]
    rfl
theorem prod_val {d1 d2 : Datum} {x y : Int} (h1 : Val d1 x) (h2 : Val d2 y) : ∃ d, d1.product d2 = some d ∧ Val d (x * y) := by
  obtain ⟨s, k, rfl, hs⟩ := h1
  obtain ⟨t, l, rfl, ht⟩ := h2
  refine ⟨_, rfl, s ^^ t, k + l, ?_, fun h => ?_⟩
  · congr 1
    · rw [Int.natAbs_mul, Nat.pow_add]
      simp only [Nat.mul_assoc, Nat.mul_left_comm]
    · push_cast
      omega
  · have hx : x ≠ 0 := fun q => h (by rw [q, Int.zero_mul])
    have hy : y ≠ 0 := fun q => h (by rw [q, Int.mul_zero])
    rw [hs hx, ht hy]
    rcases Int.lt_or_gt_of_ne hx with a | a <;> rcases Int.lt_or_gt_of_ne hy with c | c
    · rw [decide_eq_true a, decide_eq_true c, decide_eq_false (by have := Int.mul_pos_of_neg_of_neg a c; omega)]
      rfl
    · rw [decide_eq_true a, decide_eq_false (by omega), decide_eq_true (Int.mul_neg_of_neg_of_pos a c)]
      rfl
    · rw [decide_eq_false (by omega), decide_eq_true c, decide_eq_true (Int.mul_neg_of_pos_of_neg a c)]
      rfl
    · rw [decide_eq_false (by omega), decide_eq_false (by omega), decide_eq_false (by have := Int.mul_pos a c; omega)]
      rfl
theorem neg_F {z : Int} (hb : z.natAbs < 9007199254740992) : (DB.read (F z)).neg = decide (z < 0) := by
  by_cases hz : z = 0
  · subst hz
    rw [read_F0]
    rfl
  · rw [read_F hz hb]
    rfl
theorem add_I {a b : Nat} {x y : Int} (ha : IsI a x) (hb : IsI b y) (h1 : x.natAbs < 9007199254740992) (h2 : y.natAbs < 9007199254740992) (h3 : (x + y).natAbs < 9007199254740992) : ∃ r, DB.add a b = some r ∧ IsI r (x + y) := by
  obtain ⟨s, k, h, hs, -⟩ := sum_val (ha.val h1) (hb.val h2)
  refine ⟨_, ?_, (write_val (s := s) (k := k) h3 hs).1⟩
  unfold Format.add
  rw [h]
  rfl
theorem sub_I {a b : Nat} {x y : Int} (ha : IsI a x) (hb : IsI b y) (h1 : x.natAbs < 9007199254740992) (h2 : y.natAbs < 9007199254740992) (h3 : (x - y).natAbs < 9007199254740992) : ∃ r, DB.sub a b = some r ∧ IsI r (x - y) := by
  obtain ⟨s, k, h, hs, -⟩ := sum_val (ha.val h1) (opp_val (hb.val h2))
  rw [show x + -y = x - y by omega] at h hs
  refine ⟨_, ?_, (write_val (s := s) (k := k) h3 hs).1⟩
  unfold Format.sub
  rw [h]
  rfl
theorem mul_I {a b : Nat} {x y : Int} (ha : IsI a x) (hb : IsI b y) (h1 : x.natAbs < 9007199254740992) (h2 : y.natAbs < 9007199254740992) (h3 : (x * y).natAbs < 9007199254740992) : ∃ r, DB.mul a b = some r ∧ IsI r (x * y) := by
  obtain ⟨d, h, s, k, rfl, hs⟩ := prod_val (ha.val h1) (hb.val h2)
  refine ⟨_, ?_, (write_val (s := s) (k := k) h3 hs).1⟩
  unfold Format.mul
  rw [h]
  rfl
theorem add_F {x y : Int} (h1 : x.natAbs < 9007199254740992) (h2 : y.natAbs < 9007199254740992) (h3 : (x + y).natAbs < 9007199254740992) : DB.add (F x) (F y) = some (F (x + y)) := by
  obtain ⟨s, k, h, hs, h0⟩ := sum_val ((IsI.f x).val h1) ((IsI.f y).val h2)
  have hs' : s = decide (x + y < 0) := by
    by_cases hz : x + y = 0
    · rw [h0 hz, neg_F h1, neg_F h2, decide_eq_false (by omega : ¬ x + y < 0)]
      by_cases hx : x < 0
      · rw [decide_eq_false (by omega : ¬ y < 0), Bool.and_false]
      · rw [decide_eq_false hx, Bool.false_and]
    · exact hs hz
  unfold Format.add
  rw [h]
  show some (DB.write _) = _
  rw [write_F h3 hs']
theorem sub_F {x y : Int} (h1 : x.natAbs < 9007199254740992) (h2 : y.natAbs < 9007199254740992) (h3 : (x - y).natAbs < 9007199254740992) : DB.sub (F x) (F y) = some (F (x - y)) := by
  obtain ⟨s, k, h, hs, h0⟩ := sum_val ((IsI.f x).val h1) (opp_val ((IsI.f y).val h2))
  have e : x + -y = x - y := by omega
  have hneg : (DB.read (F y)).opposite.neg = !decide (y < 0) := by
    obtain ⟨t, l, hr, -⟩ := (IsI.f y).val h2
    have := neg_F h2
    rw [hr] at this ⊢
    simp only [Datum.neg] at this
    simp only [Datum.opposite, Datum.neg, this]
  have hs' : s = decide (x - y < 0) := by
    by_cases hz : x + -y = 0
    · rw [h0 hz, neg_F h1, hneg, decide_eq_false (by omega : ¬ x - y < 0)]
      have : x = y := by omega
      subst this
      cases decide (x < 0) <;> rfl
    · rw [hs hz, e]
  rw [e] at h
  unfold Format.sub
  rw [h]
  show some (DB.write _) = _
  rw [write_F h3 hs']
theorem mul_F {x y : Int} (h1 : x.natAbs < 9007199254740992) (h2 : y.natAbs < 9007199254740992) (h3 : (x * y).natAbs < 9007199254740992) (hz : x * y ≠ 0 ∨ (0 ≤ x ∧ 0 ≤ y)) : DB.mul (F x) (F y) = some (F (x * y)) := by
  obtain ⟨r, h, hr⟩ := mul_I (IsI.f x) (IsI.f y) h1 h2 h3
  rw [h]
  rcases hz with hz | ⟨p, q⟩
  · rw [hr.ne hz]
  · by_cases hz : x * y = 0
    · obtain ⟨s, k, e1, -⟩ := (IsI.f x).val h1
      obtain ⟨t, l, e2, -⟩ := (IsI.f y).val h2
      have n1 := neg_F h1
      have n2 := neg_F h2
      rw [e1] at n1
      rw [e2] at n2
      simp only [Datum.neg] at n1 n2
      rw [decide_eq_false (by omega)] at n1 n2
      subst n1 n2
      have e3 : x.natAbs * 2 ^ k * (y.natAbs * 2 ^ l) = 0 := by
        have : x.natAbs * y.natAbs = 0 := by rw [← Int.natAbs_mul, hz]; rfl
        rcases Nat.mul_eq_zero.1 this with q | q <;> rw [q] <;> simp
      unfold Format.mul at h
      rw [e1, e2] at h
      simp only [Datum.product, e3, Option.map_some, Option.some.injEq] at h
      rw [← h, hz]
      show some (DB.nearest _ 0 _) = _
      unfold Format.nearest
      rw [if_pos rfl]
      rfl
    · rw [hr.ne hz]
theorem cmp_scale (x y : Int) (K : Nat) : compare (x * 2 ^ K) (y * 2 ^ K) = compare x y := by
  have hp := pow2_pos K
  show compareOfLessAndEq _ _ = compareOfLessAndEq _ _
  unfold compareOfLessAndEq
  have a1 : (x * 2 ^ K < y * 2 ^ K) ↔ x < y := ⟨fun h => Int.lt_of_mul_lt_mul_right h (Int.le_of_lt hp), fun h => Int.mul_lt_mul_of_pos_right h hp⟩
  have a2 : (x * 2 ^ K = y * 2 ^ K) ↔ x = y := ⟨fun h => Int.eq_of_mul_eq_mul_right (by omega) h, fun h => by rw [h]⟩
  simp only [a1, a2]
theorem order_val {d1 d2 : Datum} {x y : Int} (h1 : Val d1 x) (h2 : Val d2 y) : d1.order d2 = some (compare x y) := by
  obtain ⟨s, k, rfl, hs⟩ := h1
  obtain ⟨t, l, rfl, ht⟩ := h2
  obtain ⟨K, hK⟩ : ∃ K, K = max k l := ⟨_, rfl⟩
  have hb : min (-(k : Int)) (-(l : Int)) = -(K : Int) := by omega
  have e1 : (-(k : Int) - -(K : Int)).toNat = K - k := by omega
  have e2 : (-(l : Int) - -(K : Int)).toNat = K - l := by omega
  simp only [Datum.order, hb, e1, e2, signed_val hs, signed_val ht]
  rw [show k + (K - k) = K by omega, show l + (K - l) = K by omega, cmp_scale]
theorem order_I {a b : Nat} {x y : Int} (ha : IsI a x) (hb : IsI b y) (h1 : x.natAbs < 9007199254740992) (h2 : y.natAbs < 9007199254740992) : DB.order a b = some (compare x y) := order_val (ha.val h1) (hb.val h2)
theorem ofInt_F {z : Int} (hb : z.natAbs < 9007199254740992) : FloatKind.nearest .f64 z = F z := by
  have := write_F (k := 0) hb (s := decide (z < 0)) rfl
  rw [Nat.pow_zero, Nat.mul_one] at this
  exact this
theorem cut_zero (s : Bool) (X d : Nat) (hd : d ≤ (X * 2 ^ d).log2 + 2) : Toward.zero.cut s (X * 2 ^ d) d = X := by
  unfold Toward.cut
  dsimp only
  rw [Nat.min_eq_left hd, Nat.one_shiftLeft, Nat.mul_div_cancel _ (Nat.two_pow_pos d)]
  rfl
theorem cut_zero0 (s : Bool) (d : Nat) : Toward.zero.cut s 0 d = 0 := by
  unfold Toward.cut
  simp
theorem integral_val {d : Datum} {z : Int} (h : Val d z) : Val (d.integral .zero) z ∧ (d.integral .zero).neg = d.neg := by
  obtain ⟨s, k, rfl, hs⟩ := h
  have e : Toward.zero.cut s ((z.natAbs * 2 ^ k) <<< (-(k : Int)).toNat) (- -(k : Int)).toNat = z.natAbs := by
    rw [show (-(k : Int)).toNat = 0 by omega, show (- -(k : Int)).toNat = k by omega, Nat.shiftLeft_zero]
    by_cases hz : z = 0
    · subst hz
      rw [show (0 : Int).natAbs * 2 ^ k = 0 by simp, cut_zero0]
      rfl
    · refine cut_zero s _ k ?_
      rw [log2_shift (by omega)]
      omega
  refine ⟨⟨s, 0, ?_, hs⟩, rfl⟩
  simp only [Datum.integral, e]
  simp
theorem trunc_F {z : Int} (hb : z.natAbs < 9007199254740992) : DB.write ((DB.read (F z)).integral .zero) = F z := by
  obtain ⟨⟨s, k, h, hs⟩, hn⟩ := integral_val ((IsI.f z).val hb)
  rw [neg_F hb] at hn
  rw [h] at hn ⊢
  exact write_F hb hn
theorem trunc_I {b : Nat} {z : Int} (h : IsI b z) (hb : z.natAbs < 9007199254740992) : IsI (DB.write ((DB.read b).integral .zero)) z := by
  obtain ⟨⟨s, k, e, hs⟩, -⟩ := integral_val (h.val hb)
  rw [e]
  exact (write_val hb hs).1
theorem toInt_val {d : Datum} {z : Int} (h : Val d z) : d.toInt .zero = some z := by
  obtain ⟨⟨s, k, e, hs⟩, -⟩ := integral_val h
  unfold Datum.toInt
  obtain ⟨s0, k0, rfl, hs0⟩ := h
  simp only [Datum.integral] at e ⊢
  obtain ⟨e1, e2, e3⟩ := Datum.number.inj e
  have hk : k = 0 := by omega
  subst hk
  rw [e2]
  have := signed_val (k := 0) hs0 0
  simpa using this
end Go.Proofs.Ytmnfikfncbppfaa
