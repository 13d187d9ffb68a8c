/- Floats of 64 bits: products, roots, differences, how near. -/
import Derived.Test.YtngemngnboblkaaFlE
namespace Go.Proofs.Ytngemngnboblkaa
open Ieee

theorem log_bound {M : Nat} (hM : 0 < M) {e B : Nat} (h : M * 2 ^ e < 2 ^ B) : M.log2 + e < B := by
  have h1 := Nat.mul_le_mul_right (2 ^ e) (Nat.log2_self_le (by omega : M ≠ 0))
  rw [← Nat.pow_add] at h1
  have h2 : 2 ^ (M.log2 + e) < 2 ^ B := Nat.lt_of_le_of_lt h1 h
  exact (Nat.pow_lt_pow_iff_right (by decide)).1 h2
theorem mul_PV {a b S x y : Nat} (ha : PV a S x) (hb : PV b S y) (hS : S ≤ 400) (hxy : x * y < 2 ^ (2 * S + 200)) : ∃ r R, DB.mul a b = some r ∧ PV r (2 * S) R ∧ Cl 53 R (x * y) := by
  obtain ⟨m, i, h1, h2, h3, rfl⟩ := ha
  obtain ⟨n, j, k1, k2, k3, rfl⟩ := hb
  have hM : 0 < m * n := Nat.mul_pos h2 k2
  have he : m * 2 ^ (i + S).toNat * (n * 2 ^ (j + S).toNat) = m * n * 2 ^ (i + j + ((2 * S : Nat) : Int)).toNat := by
    rw [show (i + j + ((2 * S : Nat) : Int)).toNat = (i + S).toNat + (j + S).toNat by omega, Nat.pow_add]
    grind
  rw [he] at hxy ⊢
  have hl := log_bound hM hxy
  obtain ⟨m', i', q1, q2, q3, q4⟩ := near_any false hM (i + j) (S := 2 * S) (by omega) (by omega) (by omega)
  refine ⟨DB.nearest false (m * n) (i + j), _, ?_, ⟨m', i', q1, q2, q3, rfl⟩, q4⟩
  unfold Format.mul
  rw [h1, k1]
  rfl
theorem root_from (n : Nat) : ∀ (todo root : Nat), root * root ≤ n → n < (root + 2 ^ todo) * (root + 2 ^ todo) → (Datum.rootFrom n todo root) * (Datum.rootFrom n todo root) ≤ n ∧ n < (Datum.rootFrom n todo root + 1) * (Datum.rootFrom n todo root + 1)
  | 0, root, h1, h2 => ⟨h1, by simpa [Datum.rootFrom] using h2⟩
  | todo + 1, root, h1, h2 => by
    unfold Datum.rootFrom
    simp only [Nat.one_shiftLeft]
    by_cases hl : (root + 2 ^ todo) * (root + 2 ^ todo) ≤ n
    · rw [if_pos hl]
      refine root_from n todo (root + 2 ^ todo) hl ?_
      have : root + 2 ^ todo + 2 ^ todo = root + 2 ^ (todo + 1) := by rw [Nat.pow_succ]; omega
      rw [this]
      exact h2
    · rw [if_neg hl]
      exact root_from n todo root h1 (by omega)
theorem root_is {n : Nat} (hn : n ≠ 0) : Datum.rootFrom n (n.log2 / 2 + 1) 0 * Datum.rootFrom n (n.log2 / 2 + 1) 0 ≤ n ∧ n < (Datum.rootFrom n (n.log2 / 2 + 1) 0 + 1) * (Datum.rootFrom n (n.log2 / 2 + 1) 0 + 1) := by
  refine root_from n _ 0 (Nat.zero_le _) ?_
  obtain ⟨-, h⟩ := log2_bd hn
  rw [Nat.zero_add, ← Nat.pow_add]
  exact Nat.lt_of_lt_of_le h (Nat.pow_le_pow_right (by decide) (by omega))
theorem root_cl {w nn : Nat} (h1 : w * w ≤ nn) (h2 : nn < (w + 1) * (w + 1)) (hw : 2 ^ 54 ≤ w) (t : Nat) (ht : t ≤ 1) : Cl 51 ((2 * w + t) * (2 * w + t)) (4 * nn) := by
  have e1 : (w + 1) * (w + 1) = w * w + 2 * w + 1 := by grind
  have e2 : (2 * w + t) * (2 * w + t) = 4 * (w * w) + 4 * (w * t) + t * t := by grind
  have e3 : w * t ≤ w := by
    have := Nat.mul_le_mul_left w ht
    omega
  have e4 : t * t ≤ 1 := by
    have := Nat.mul_le_mul ht ht
    omega
  have e5 : w * 2 ^ 54 ≤ w * w := Nat.mul_le_mul_left w hw
  rw [e1] at h2
  rw [e2]
  obtain ⟨A, hA⟩ : ∃ A, w * w = A := ⟨_, rfl⟩
  obtain ⟨B, hB⟩ : ∃ B, w * t = B := ⟨_, rfl⟩
  obtain ⟨C, hC⟩ : ∃ C, t * t = C := ⟨_, rfl⟩
  rw [hA] at h1 h2 e5 ⊢
  rw [hB] at e3 ⊢
  rw [hC] at e4 ⊢
  have p1 : (2 : Nat) ^ 54 = 8 * 2 ^ 51 := by decide
  have hQ1 : 1 ≤ 2 ^ 51 := Nat.two_pow_pos 51
  have hw1 : 1 ≤ w := Nat.le_trans (Nat.two_pow_pos 54) hw
  unfold Cl
  rw [p1] at e5
  obtain ⟨Q, hQ⟩ : ∃ Q, 2 ^ 51 = Q := ⟨_, rfl⟩
  rw [hQ] at e5 hQ1 ⊢
  have g1 : w * (8 * Q) = 8 * (w * Q) := by grind
  have g2 := Nat.mul_le_mul_right Q e3
  have g3 := Nat.mul_le_mul_right Q e4
  have g4 := Nat.mul_le_mul_right Q h1
  have g5 := Nat.mul_le_mul_right Q (by omega : nn ≤ A + 2 * w)
  have g6 : Q ≤ w * Q := Nat.le_mul_of_pos_left Q hw1
  have g7 : (A + 2 * w) * Q = A * Q + 2 * (w * Q) := by grind
  have g8 : (4 * A + 4 * B + C) * Q = 4 * (A * Q) + 4 * (B * Q) + C * Q := by grind
  have g9 : 4 * nn * Q = 4 * (nn * Q) := by grind
  rw [g1] at e5
  rw [g7] at g5
  rw [Nat.one_mul] at g3
  rw [g8, g9]
  clear hA hB hC hQ p1 g1 g7 g8 g9 e1 e2 ht hw
  constructor <;> omega
theorem cl_mono {j k x y : Nat} (h : Cl k x y) (hj : j ≤ k) : Cl j x y := by
  obtain ⟨h1, h2⟩ := h
  obtain ⟨d, rfl⟩ : ∃ d, k = j + d := ⟨k - j, by omega⟩
  have hp : 1 ≤ 2 ^ d := Nat.two_pow_pos d
  have e : ∀ t : Nat, t * 2 ^ (j + d) = (t * 2 ^ j) * 2 ^ d := fun t => by rw [Nat.pow_add]; grind
  rw [e, e] at h1 h2
  have hy : y ≤ y * 2 ^ d := Nat.le_mul_of_pos_right y hp
  constructor
  · have k9 : x * 2 ^ j * 2 ^ d ≤ (y * 2 ^ j + y) * 2 ^ d := by
      rw [Nat.add_mul]
      omega
    exact Nat.le_of_mul_le_mul_right k9 hp
  · have k9 : y * 2 ^ j * 2 ^ d ≤ (x * 2 ^ j + y) * 2 ^ d := by
      rw [Nat.add_mul]
      omega
    exact Nat.le_of_mul_le_mul_right k9 hp
/-- The root of a whole number: its square is near. -/
theorem sqrt_PV {n : Nat} (h0 : 0 < n) (hb : n < 2 ^ 40) {S : Nat} (hS : 200 ≤ S) (hS2 : S ≤ 400) : ∃ s, PV (SQ (n : Int)) S s ∧ Cl 49 (s * s) (n * 2 ^ (2 * S)) := by
  have hb2 : n < 9007199254740992 := Nat.lt_trans hb (by decide)
  have hr := read_F (z := (n : Int)) (by omega) (by simpa using hb2)
  rw [decide_eq_false (by omega), Int.natAbs_natCast] at hr
  have hn : n ≠ 0 := by omega
  have hl : n.log2 < 40 := (Nat.log2_lt hn).2 hb
  have hm0 : n * 2 ^ (52 - n.log2) ≠ 0 := by
    have := Nat.two_pow_pos (52 - n.log2)
    exact Nat.mul_ne_zero hn (by omega)
  have hml : (n * 2 ^ (52 - n.log2)).log2 = 52 := by rw [log2_shift hn]; omega
  obtain ⟨L, hL⟩ : ∃ L, n.log2 = L := ⟨_, rfl⟩
  rw [hL] at hr hl hm0 hml
  obtain ⟨h, hh⟩ : ∃ h : Nat, 2 * h = 108 - L + L % 2 := ⟨(108 - L + L % 2) / 2, by omega⟩
  have emore : (2 * 54 - 52) + ((-((52 - L : Nat) : Int) - ((2 * 54 - 52 : Nat) : Int)) % 2).toNat = 56 + L % 2 := by omega
  obtain ⟨nn, hnn⟩ : ∃ nn, (n * 2 ^ (52 - L)) <<< (56 + L % 2) = nn := ⟨_, rfl⟩
  have hnn2 : nn = n * 2 ^ (2 * h) := by
    rw [← hnn, Nat.shiftLeft_eq, Nat.mul_assoc, ← Nat.pow_add]
    congr 2
    omega
  have hnn0 : nn ≠ 0 := by
    rw [hnn2]
    have := Nat.two_pow_pos (2 * h)
    exact Nat.mul_ne_zero hn (by omega)
  obtain ⟨w1, w2⟩ := root_is hnn0
  obtain ⟨w, hw⟩ : ∃ w, Datum.rootFrom nn (nn.log2 / 2 + 1) 0 = w := ⟨_, rfl⟩
  rw [hw] at w1 w2
  obtain ⟨t, ht⟩ : ∃ t : Nat, (w * w != nn).toNat = t := ⟨_, rfl⟩
  have ht1 : t ≤ 1 := by rw [← ht]; cases (w * w != nn) <;> decide
  have hSQ : SQ (n : Int) = DB.nearest false (2 * w + t) (-(h : Int) - 1) := by
    unfold SQ Format.sqrt
    rw [hr]
    unfold Datum.root
    simp only [if_neg hm0, Bool.false_eq_true, if_false]
    rw [frac_db, hml]
    have e1 : 2 * (52 + 2) - 52 + ((-((52 - L : Nat) : Int) - ((2 * (52 + 2) - 52 : Nat) : Int)) % 2).toNat = 56 + L % 2 := emore
    rw [e1, hnn, hw, ht]
    have e2 : (-((52 - L : Nat) : Int) - ((56 + L % 2 : Nat) : Int)) / 2 - 1 = -(h : Int) - 1 := by omega
    rw [e2]
    rfl
  have hw54 : 2 ^ 54 ≤ w := by
    have h1 : 2 ^ 108 ≤ nn := by
      rw [hnn2]
      have := Nat.mul_le_mul_right (2 ^ (2 * h)) (Nat.log2_self_le hn)
      rw [← Nat.pow_add, hL] at this
      exact Nat.le_trans (Nat.pow_le_pow_right (by decide) (by omega)) this
    have h2 : 2 ^ 54 * 2 ^ 54 < (w + 1) * (w + 1) := by
      rw [← Nat.pow_add]
      exact Nat.lt_of_le_of_lt h1 w2
    have h3 := Nat.mul_self_lt_mul_self_iff.1 h2
    omega
  have hwu : w < 2 ^ 75 := by
    have h1 : nn < 2 ^ 150 := by
      rw [hnn2]
      have := Nat.mul_lt_mul_of_pos_right hb (Nat.two_pow_pos (2 * h))
      rw [← Nat.pow_add] at this
      exact Nat.lt_of_lt_of_le this (Nat.pow_le_pow_right (by decide) (by omega))
    have h2 : w * w < 2 ^ 75 * 2 ^ 75 := by
      rw [← Nat.pow_add]
      exact Nat.lt_of_le_of_lt w1 h1
    exact Nat.mul_self_lt_mul_self_iff.1 h2
  have hc1 := root_cl w1 w2 hw54 t ht1
  have hM : 0 < 2 * w + t := by have := Nat.two_pow_pos 54; omega
  have hml2 : (2 * w + t).log2 < 77 := by
    refine (Nat.log2_lt (by omega)).2 ?_
    have : (2 : Nat) ^ 77 = 4 * 2 ^ 75 := by decide
    rw [this]
    omega
  obtain ⟨m, i, q1, q2, q3, q4⟩ := near_any false hM (-(h : Int) - 1) (S := S) (by omega) (by omega) (by omega)
  refine ⟨_, by rw [hSQ]; exact ⟨m, i, q1, q2, q3, rfl⟩, ?_⟩
  have hc2 := q4.sq
  obtain ⟨e, he⟩ : ∃ e : Nat, (-(h : Int) - 1 + (S : Int)).toNat = e := ⟨_, rfl⟩
  have he2 : S = e + h + 1 := by omega
  rw [he] at hc2
  have hc3 := hc1.scale (2 ^ e * 2 ^ e)
  have e1 : (2 * w + t) * (2 * w + t) * (2 ^ e * 2 ^ e) = (2 * w + t) * 2 ^ e * ((2 * w + t) * 2 ^ e) := by grind
  have e2 : 4 * nn * (2 ^ e * 2 ^ e) = n * 2 ^ (2 * S) := by
    rw [hnn2, he2, show 2 * (e + h + 1) = 2 * h + (e + e) + 2 by omega, Nat.pow_add, Nat.pow_add, Nat.pow_add _ e e]
    grind
  rw [e1, e2] at hc3
  exact hc2.tr hc3
end Go.Proofs.Ytngemngnboblkaa
