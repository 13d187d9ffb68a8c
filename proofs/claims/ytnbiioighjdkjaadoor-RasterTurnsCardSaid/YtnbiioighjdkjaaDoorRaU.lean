/- TrailingZeros64 and Len64: whole numbers alone. -/
import Derived.Test.YtnbiioighjdkjaaDoorRaT
namespace Go.Proofs.YtnbiioighjdkjaaDoor
open Go.ChangeShapes Go.WideShapes Go.ChangeAt Go.RowKit
set_option linter.unusedSimpArgs false
set_option linter.unusedVariables false

theorem low_find (x : Nat) : ∀ n, (∃ b, b < n ∧ x.testBit b = true) → ∃ k, k < n ∧ LowB x k
  | 0, h => by obtain ⟨b, h, _⟩ := h; omega
  | n + 1, h => by
    by_cases q : ∃ b, b < n ∧ x.testBit b = true
    · obtain ⟨k, h1, h2⟩ := low_find x n q
      exact ⟨k, by omega, h2⟩
    · obtain ⟨b, h1, h2⟩ := h
      have e : b = n := by
        rcases Nat.lt_or_ge b n with h3 | h3
        · exact absurd ⟨b, h3, h2⟩ q
        · omega
      subst e
      refine ⟨b, by omega, h2, fun j hj => ?_⟩
      cases hq : x.testBit j with
      | false => rfl
      | true => exact absurd ⟨j, hj, hq⟩ q
theorem low_form {x k : Nat} (h : LowB x k) : ∃ q, x = 2 ^ k * (2 * q + 1) := by
  have h0 : x % 2 ^ k = 0 := by
    apply Nat.eq_of_testBit_eq
    intro i
    rw [Nat.testBit_mod_two_pow, Nat.zero_testBit]
    by_cases hi : i < k
    · rw [h.2 i hi, Bool.and_false]
    · rw [decide_eq_false hi, Bool.false_and]
  have h1 : x / 2 ^ k % 2 = 1 := by
    have := h.1
    rw [Nat.testBit_eq_decide_div_mod_eq] at this
    exact of_decide_eq_true this
  refine ⟨x / 2 ^ k / 2, ?_⟩
  rw [show 2 * (x / 2 ^ k / 2) + 1 = x / 2 ^ k by omega]
  have := Nat.div_add_mod x (2 ^ k)
  omega
theorem low_and {x k : Nat} (h : LowB x k) (hx : x < 18446744073709551616) (hk : k < 64) : x &&& (18446744073709551616 - x) = 2 ^ k := by
  obtain ⟨q, hq⟩ := low_form h
  have hp : 0 < 2 ^ k := Nat.pow_pos (by decide)
  have hx0 : 0 < x := by rw [hq]; exact Nat.mul_pos hp (by omega)
  have e1 : x - 1 = 2 ^ k * (2 * q) + (2 ^ k - 1) := by rw [hq, Nat.mul_add, Nat.mul_one]; omega
  have e0 : x = 2 ^ k * (2 * q + 1) + 0 := by rw [Nat.add_zero]; exact hq
  apply Nat.eq_of_testBit_eq
  intro j
  have e2 : 18446744073709551616 - x = 2 ^ 64 - ((x - 1) + 1) := by omega
  rw [Nat.testBit_and, e2, Nat.testBit_two_pow_sub_succ (by omega), Nat.testBit_two_pow]
  rcases Nat.lt_trichotomy j k with hj | hj | hj
  · rw [h.2 j hj, Bool.false_and, decide_eq_false (by omega)]
  · subst hj
    rw [h.1, decide_eq_true hk, decide_eq_true rfl, e1, Nat.testBit_two_pow_mul_add _ (by omega), if_neg (by omega), Nat.sub_self, Nat.testBit_zero]
    simp
  · rw [decide_eq_false (by omega : ¬ k = j)]
    have a1 : x.testBit j = q.testBit (j - k - 1) := by
      rw [e0, Nat.testBit_two_pow_mul_add _ hp, if_neg (by omega)]
      obtain ⟨i, hi⟩ : ∃ i, j - k = i + 1 := ⟨j - k - 1, by omega⟩
      rw [hi, Nat.testBit_succ, show (2 * q + 1) / 2 = q by omega, Nat.add_sub_cancel]
    have a2 : (x - 1).testBit j = q.testBit (j - k - 1) := by
      rw [e1, Nat.testBit_two_pow_mul_add _ (by omega), if_neg (by omega)]
      obtain ⟨i, hi⟩ : ∃ i, j - k = i + 1 := ⟨j - k - 1, by omega⟩
      rw [hi, Nat.testBit_succ, show 2 * q / 2 = q by omega, Nat.add_sub_cancel]
    rw [a1, a2]
    cases q.testBit (j - k - 1) <;> simp
def dbTab : List Nat := [0, 1, 56, 2, 57, 49, 28, 3, 61, 58, 42, 50, 38, 29, 17, 4, 62, 47, 59, 36, 45, 43, 51, 22, 53, 39, 33, 30, 24, 18, 12, 5, 63, 55, 48, 27, 60, 41, 37, 16, 46, 35, 44, 21, 52, 32, 23, 11, 54, 26, 40, 15, 34, 20, 31, 10, 25, 14, 19, 9, 13, 8, 7, 6]
theorem db_at : ∀ k, k < 64 → dbTab[2 ^ k * 285870213051353865 % 18446744073709551616 / 288230376151711744]? = some k := by decide +kernel
theorem high_log {x : Nat} (h : x ≠ 0) : HighB x x.log2 := by
  have h1 : x < 2 ^ (x.log2 + 1) := Nat.lt_log2_self
  have h2 : 2 ^ x.log2 ≤ x := Nat.log2_self_le h
  refine ⟨?_, fun j hj => Nat.testBit_lt_two_pow (Nat.lt_of_lt_of_le h1 (Nat.pow_le_pow_right (by decide) (by omega)))⟩
  rw [Nat.testBit_eq_decide_div_mod_eq]
  have hp : 0 < 2 ^ x.log2 := Nat.pow_pos (by decide)
  have : x / 2 ^ x.log2 = 1 := by
    rw [Nat.pow_succ] at h1
    have a : 1 ≤ x / 2 ^ x.log2 := (Nat.le_div_iff_mul_le hp).2 (by omega)
    have b : x / 2 ^ x.log2 < 2 := Nat.div_lt_of_lt_mul h1
    omega
  rw [this]
  rfl
/-- A word's length. -/
def lenN (x : Nat) : Nat := if x = 0 then 0 else x.log2 + 1
theorem len_shift (x s : Nat) (h : 2 ^ s ≤ x) : lenN x = s + lenN (x / 2 ^ s) := by
  have hp : 0 < 2 ^ s := Nat.pow_pos (by decide)
  have hx : x ≠ 0 := by omega
  have hd : x / 2 ^ s ≠ 0 := by
    have : 1 ≤ x / 2 ^ s := (Nat.le_div_iff_mul_le hp).2 (by omega)
    omega
  unfold lenN
  rw [if_neg hx, if_neg hd]
  have : x.log2 = s + (x / 2 ^ s).log2 := by
    rw [Nat.log2_eq_iff hx]
    have a := Nat.log2_self_le hd
    have b : x / 2 ^ s < 2 ^ ((x / 2 ^ s).log2 + 1) := Nat.lt_log2_self
    constructor
    · rw [Nat.pow_add, Nat.mul_comm]
      exact (Nat.le_div_iff_mul_le hp).1 a
    · rw [Nat.add_assoc, Nat.pow_add]
      exact (Nat.div_lt_iff_lt_mul hp).1 b |> fun h => by rwa [Nat.mul_comm] at h
  omega
def len8 : List Nat := (List.range 256).map lenN
end Go.Proofs.YtnbiioighjdkjaaDoor
