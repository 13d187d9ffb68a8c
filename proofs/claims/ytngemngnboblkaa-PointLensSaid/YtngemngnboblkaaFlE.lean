/- Floats of 64 bits, rounded: how near a word lies to what it is to stand for. -/
import Derived.Test.YtngemngnboblkaaPointQuarters
namespace Go.Proofs.Ytngemngnboblkaa
open Ieee

/-- |x - y| * 2 ^ k ≤ y. -/
def Cl (k x y : Nat) : Prop := x * 2 ^ k ≤ y * 2 ^ k + y ∧ y * 2 ^ k ≤ x * 2 ^ k + y
theorem Cl.refl (k x : Nat) : Cl k x x := ⟨by omega, by omega⟩
theorem Cl.scale {k x y : Nat} (h : Cl k x y) (c : Nat) : Cl k (x * c) (y * c) := by
  obtain ⟨h1, h2⟩ := h
  have a1 := Nat.mul_le_mul_right c h1
  have a2 := Nat.mul_le_mul_right c h2
  unfold Cl
  constructor
  · calc x * c * 2 ^ k = x * 2 ^ k * c := by grind
      _ ≤ (y * 2 ^ k + y) * c := a1
      _ = y * c * 2 ^ k + y * c := by grind
  · calc y * c * 2 ^ k = y * 2 ^ k * c := by grind
      _ ≤ (x * 2 ^ k + y) * c := a2
      _ = x * c * 2 ^ k + y * c := by grind
theorem Cl.le2 {k x y : Nat} (h : Cl k x y) : x ≤ 2 * y := by
  have hp : 1 ≤ 2 ^ k := Nat.two_pow_pos k
  have h1 := h.1
  have h2 : y ≤ y * 2 ^ k := Nat.le_mul_of_pos_right y hp
  have h3 : x * 2 ^ k ≤ (2 * y) * 2 ^ k := by
    have : (2 * y) * 2 ^ k = y * 2 ^ k + y * 2 ^ k := by grind
    omega
  exact Nat.le_of_mul_le_mul_right h3 hp
theorem Cl.tr {k x y z : Nat} (h : Cl (k + 2) x y) (g : Cl (k + 2) y z) : Cl k x z := by
  have hy := g.le2
  obtain ⟨h1, h2⟩ := h
  obtain ⟨g1, g2⟩ := g
  have e : ∀ t : Nat, t * 2 ^ (k + 2) = 4 * (t * 2 ^ k) := fun t => by rw [Nat.pow_add]; grind
  rw [e, e] at h1 h2 g1 g2
  exact ⟨by omega, by omega⟩
theorem sq_up (P Q A B : Nat) (h : P = 4 * Q) (hQ : 1 ≤ Q) (hA : P * P * A ≤ (P + 1) * (P + 1) * B) : A * Q ≤ B * Q + B := by
  have hq : Q ≤ Q * Q := Nat.le_mul_of_pos_left Q hQ
  have k1 : Q * ((P + 1) * (P + 1)) ≤ P * P * (Q + 1) := by
    have e1 : Q * ((P + 1) * (P + 1)) = 16 * (Q * Q * Q) + 8 * (Q * Q) + Q := by subst h; grind
    have e2 : P * P * (Q + 1) = 16 * (Q * Q * Q) + 16 * (Q * Q) := by subst h; grind
    rw [e1, e2]
    omega
  have k2 := Nat.mul_le_mul_right B k1
  have k3 := Nat.mul_le_mul_left Q hA
  have e3 : Q * (P * P * A) = P * P * (A * Q) := by grind
  have e4 : Q * ((P + 1) * (P + 1) * B) = Q * ((P + 1) * (P + 1)) * B := by grind
  have e5 : P * P * (Q + 1) * B = P * P * (B * Q + B) := by grind
  rw [e3, e4] at k3
  rw [e5] at k2
  have hP : 0 < P * P := Nat.mul_pos (by omega) (by omega)
  exact Nat.le_of_mul_le_mul_left (Nat.le_trans k3 k2) hP
theorem sq_down (P Q A B D : Nat) (h : P = 4 * Q) (hQ : 1 ≤ Q) (hA : P * P * B ≤ P * P * A + 2 * (P * D) + B) (hD : P * D ≤ (P + 1) * B) : B * Q ≤ A * Q + B := by
  have hq : Q ≤ Q * Q := Nat.le_mul_of_pos_left Q hQ
  have k0 : P * P * B ≤ P * P * A + (2 * P + 3) * B := by
    have e : (2 * P + 3) * B = 2 * ((P + 1) * B) + B := by grind
    rw [e]
    omega
  have k1 : Q * (2 * P + 3) ≤ P * P := by
    have e1 : Q * (2 * P + 3) = 8 * (Q * Q) + 3 * Q := by subst h; grind
    have e2 : P * P = 16 * (Q * Q) := by subst h; grind
    rw [e1, e2]
    omega
  have k2 := Nat.mul_le_mul_right B k1
  have k3 := Nat.mul_le_mul_left Q k0
  have e3 : Q * (P * P * B) = P * P * (B * Q) := by grind
  have e4 : Q * (P * P * A + (2 * P + 3) * B) = P * P * (A * Q) + Q * (2 * P + 3) * B := by grind
  have e5 : P * P * (A * Q + B) = P * P * (A * Q) + P * P * B := by grind
  rw [e3, e4] at k3
  have hP : 0 < P * P := Nat.mul_pos (by omega) (by omega)
  have k9 : P * P * (B * Q) ≤ P * P * (A * Q + B) := by
    rw [e5]
    omega
  exact Nat.le_of_mul_le_mul_left k9 hP
theorem Cl.sq {R T : Nat} (h : Cl 53 R T) : Cl 51 (R * R) (T * T) := by
  obtain ⟨h1, h2⟩ := h
  have p : (2 : Nat) ^ 53 = 4 * 2 ^ 51 := by decide
  obtain ⟨Q, hQ⟩ : ∃ Q : Nat, 2 ^ 51 = Q := ⟨_, rfl⟩
  obtain ⟨P, hP⟩ : ∃ P : Nat, 2 ^ 53 = P := ⟨_, rfl⟩
  have hQ1 : 1 ≤ Q := by rw [← hQ]; exact Nat.two_pow_pos 51
  have hPQ : P = 4 * Q := by rw [← hP, ← hQ]
  unfold Cl
  rw [hP] at h1 h2
  rw [hQ]
  clear hP hQ p
  have a1 := Nat.mul_le_mul h1 h1
  have a2 := Nat.mul_le_mul h2 h2
  have a3 := Nat.mul_le_mul_right T h1
  constructor
  · refine sq_up P Q (R * R) (T * T) hPQ hQ1 ?_
    have e1 : R * P * (R * P) = P * P * (R * R) := by grind
    have e2 : (T * P + T) * (T * P + T) = (P + 1) * (P + 1) * (T * T) := by grind
    rw [e1, e2] at a1
    exact a1
  · refine sq_down P Q (R * R) (T * T) (R * T) hPQ hQ1 ?_ ?_
    · have e1 : T * P * (T * P) = P * P * (T * T) := by grind
      have e2 : (R * P + T) * (R * P + T) = P * P * (R * R) + 2 * (P * (R * T)) + T * T := by grind
      rw [e1, e2] at a2
      exact a2
    · have e1 : R * P * T = P * (R * T) := by grind
      have e2 : (T * P + T) * T = (P + 1) * (T * T) := by grind
      rw [e1, e2] at a3
      exact a3
/-- A word that stands for v, times 2 ^ S. -/
def PV (b S v : Nat) : Prop := ∃ (m : Nat) (i : Int), DB.read b = .number false m i ∧ 0 < m ∧ 52 ≤ i + S ∧ v = m * 2 ^ (i + S).toNat
theorem PV.up {b S v : Nat} (h : PV b S v) (k : Nat) : PV b (S + k) (v * 2 ^ k) := by
  obtain ⟨m, i, h1, h2, h3, rfl⟩ := h
  refine ⟨m, i, h1, h2, by omega, ?_⟩
  rw [Nat.mul_assoc, ← Nat.pow_add]
  congr 2
  omega
theorem PV.pos {b S v : Nat} (h : PV b S v) : 0 < v := by
  obtain ⟨m, i, h1, h2, h3, rfl⟩ := h
  exact Nat.mul_pos h2 (Nat.two_pow_pos _)
/-- A whole number's word. -/
theorem PV.int {n : Nat} (h0 : 0 < n) (hb : n < 9007199254740992) {S : Nat} (hS : 104 ≤ S) : PV (F (n : Int)) S (n * 2 ^ S) := by
  have hr := read_F (z := (n : Int)) (by omega) (by simpa using hb)
  rw [decide_eq_false (by omega), Int.natAbs_natCast] at hr
  have hl := log2_le (by omega : n ≠ 0) hb
  refine ⟨_, _, hr, Nat.mul_pos h0 (Nat.two_pow_pos _), by omega, ?_⟩
  rw [Nat.mul_assoc, ← Nat.pow_add]
  congr 2
  omega
theorem cut_near (s : Bool) (M d : Nat) (hd : d ≤ M.log2 + 2) : 2 * (Toward.even.cut s M d * 2 ^ d) ≤ 2 * M + 2 ^ d ∧ 2 * M ≤ 2 * (Toward.even.cut s M d * 2 ^ d) + 2 ^ d := by
  unfold Toward.cut
  dsimp only
  rw [Nat.min_eq_left hd, Nat.one_shiftLeft]
  have hdm := Nat.div_add_mod M (2 ^ d)
  have hlt := Nat.mod_lt M (Nat.two_pow_pos d)
  obtain ⟨G, hG⟩ : ∃ G, 2 ^ d = G := ⟨_, rfl⟩
  rw [hG] at hdm hlt ⊢
  obtain ⟨q, hq⟩ : ∃ q, M / G = q := ⟨_, rfl⟩
  obtain ⟨r, hr⟩ : ∃ r, M % G = r := ⟨_, rfl⟩
  rw [hq, hr] at hdm
  rw [hr] at hlt
  rw [hq, hr]
  have e : G * q = q * G := Nat.mul_comm _ _
  cases hc : (decide (G < 2 * r) || G == 2 * r && q % 2 == 1)
  · have h1 : ¬ G < 2 * r := by
      intro h
      rw [decide_eq_true h] at hc
      simp at hc
    simp only [Bool.toNat_false, Nat.add_zero]
    constructor <;> omega
  · have h1 : G ≤ 2 * r := by
      rcases Bool.or_eq_true_iff.1 hc with h | h
      · have := of_decide_eq_true h
        omega
      · have := (Bool.and_eq_true_iff.1 h).1
        have : G = 2 * r := by simpa using this
        omega
    simp only [Bool.toNat_true]
    have e2 : (q + 1) * G = q * G + G := by grind
    constructor <;> omega
/-- The rungs where a significand may be full. -/
theorem read_full (s : Bool) (L K : Nat) (hL : L ≤ 2040) (h1 : 4503599627370496 ≤ K) (h2 : K ≤ 9007199254740992) : ∃ (m : Nat) (i : Int), DB.read (DB.word s (L * 4503599627370496 + K)) = .number s m i ∧ 0 < m ∧ (L : Int) - 1074 ≤ i ∧ ∀ S : Nat, 1074 ≤ S + L → m * 2 ^ (i + S).toNat = K * 2 ^ (S + L - 1074) := by
  by_cases h : K = 9007199254740992
  · subst h
    have hr := read_word s (r := L * 4503599627370496 + 9007199254740992) (by omega) (by omega)
    have e1 : (L * 4503599627370496 + 9007199254740992) % 4503599627370496 = 0 := by omega
    have e2 : (L * 4503599627370496 + 9007199254740992) / 4503599627370496 = L + 2 := by omega
    rw [e1, e2] at hr
    refine ⟨_, _, hr, by omega, by omega, fun S hS => ?_⟩
    rw [show ((-1074 : Int) + ((L + 2 - 1 : Nat) : Int) + (S : Int)).toNat = (S + L - 1074) + 1 by omega, Nat.pow_succ]
    generalize 2 ^ (S + L - 1074) = W
    omega
  · have hr := read_word s (r := L * 4503599627370496 + K) (by omega) (by omega)
    have e1 : (L * 4503599627370496 + K) % 4503599627370496 = K - 4503599627370496 := by omega
    have e2 : (L * 4503599627370496 + K) / 4503599627370496 = L + 1 := by omega
    rw [e1, e2] at hr
    refine ⟨_, _, hr, by omega, by omega, fun S hS => ?_⟩
    rw [show ((-1074 : Int) + ((L + 1 - 1 : Nat) : Int) + (S : Int)).toNat = S + L - 1074 by omega, show 4503599627370496 + (K - 4503599627370496) = K by omega]
/-- The word nearest to a number, and how near. -/
theorem near_any (s : Bool) {M : Nat} (hM : 0 < M) (p : Int) {S : Nat} (hp : 104 ≤ p + S) (hS : S ≤ 900) (hl : p + M.log2 ≤ 900) : ∃ (m : Nat) (i : Int), DB.read (DB.nearest s M p) = .number s m i ∧ 0 < m ∧ 52 ≤ i + S ∧ Cl 53 (m * 2 ^ (i + S).toNat) (M * 2 ^ (p + S).toNat) := by
  have hM0 : M ≠ 0 := by omega
  obtain ⟨b1, b2⟩ := log2_bd hM0
  unfold Format.nearest
  rw [if_neg hM0, frac_db, least_db, binade_db, inf_db]
  have e1 : max (p + (M.log2 : Int) - ((52 : Nat) : Int)) (-1074) = p + (M.log2 : Int) - 52 := by omega
  simp only [e1]
  obtain ⟨L, hL⟩ : ∃ L : Nat, (p + (M.log2 : Int) - 52 - -1074).toNat = L := ⟨_, rfl⟩
  have hL2 : (L : Int) = p + (M.log2 : Int) + 1022 := by omega
  rw [hL]
  by_cases hc : M.log2 ≤ 52
  · have f1 : (p - (p + (M.log2 : Int) - 52)).toNat = 52 - M.log2 := by omega
    have f2 : (p + (M.log2 : Int) - 52 - p).toNat = 0 := by omega
    rw [f1, f2, cut_none, Nat.shiftLeft_eq]
    have k1 : 4503599627370496 ≤ M * 2 ^ (52 - M.log2) := by
      have := Nat.mul_le_mul_right (2 ^ (52 - M.log2)) b1
      rw [← Nat.pow_add, show M.log2 + (52 - M.log2) = 52 by omega, p52] at this
      exact this
    have k2 : M * 2 ^ (52 - M.log2) ≤ 9007199254740992 := by
      have := Nat.mul_le_mul_right (2 ^ (52 - M.log2)) (Nat.le_of_lt b2)
      rw [← Nat.pow_add, show M.log2 + 1 + (52 - M.log2) = 53 by omega, p53] at this
      exact this
    rw [Nat.min_eq_left (by omega)]
    obtain ⟨m, i, hr, h0, hi, hv⟩ := read_full s L _ (by omega) k1 k2
    refine ⟨m, i, hr, h0, by omega, ?_⟩
    rw [hv S (by omega), Nat.mul_assoc, ← Nat.pow_add, show 52 - M.log2 + (S + L - 1074) = (p + (S : Int)).toNat by omega]
    exact Cl.refl _ _
  · obtain ⟨d, hd⟩ : ∃ d : Nat, M.log2 = 52 + d := ⟨M.log2 - 52, by omega⟩
    have f1 : (p - (p + (M.log2 : Int) - 52)).toNat = 0 := by omega
    have f2 : (p + (M.log2 : Int) - 52 - p).toNat = d := by omega
    rw [f1, f2, Nat.shiftLeft_zero]
    obtain ⟨c1, c2⟩ := cut_near s M d (by omega)
    obtain ⟨K, hK⟩ : ∃ K, Toward.even.cut s M d = K := ⟨_, rfl⟩
    rw [hK] at c1 c2 ⊢
    rw [hd] at b1 b2
    have g1 : 4503599627370496 * 2 ^ d ≤ M := by rw [← p52, ← Nat.pow_add]; exact b1
    have g2 : M < 9007199254740992 * 2 ^ d := by rw [← p53, ← Nat.pow_add, show 53 + d = 52 + d + 1 by omega]; exact b2
    obtain ⟨G, hG⟩ : ∃ G, 2 ^ d = G := ⟨_, rfl⟩
    have hGp : 0 < G := by rw [← hG]; exact Nat.two_pow_pos d
    rw [hG] at c1 c2 g1 g2
    have k1 : 4503599627370496 ≤ K := by
      apply Nat.le_of_lt_succ
      apply Nat.lt_of_mul_lt_mul_right (a := G)
      have : (K + 1) * G = K * G + G := by grind
      show 4503599627370496 * G < (K + 1) * G
      omega
    have k2 : K ≤ 9007199254740992 := by
      apply Nat.le_of_lt_succ
      apply Nat.lt_of_mul_lt_mul_right (a := G)
      have : (9007199254740992 + 1) * G = 9007199254740992 * G + G := by grind
      show K * G < (9007199254740992 + 1) * G
      omega
    rw [Nat.min_eq_left (by omega)]
    obtain ⟨m, i, hr, h0, hi, hv⟩ := read_full s L K (by omega) k1 k2
    refine ⟨m, i, hr, h0, by omega, ?_⟩
    have hcl : Cl 53 (K * G) M := by
      unfold Cl
      rw [p53]
      constructor <;> omega
    have := hcl.scale (2 ^ (p + (S : Int)).toNat)
    rw [hv S (by omega), show S + L - 1074 = d + (p + (S : Int)).toNat by omega, Nat.pow_add, hG, ← Nat.mul_assoc]
    exact this
end Go.Proofs.Ytngemngnboblkaa
