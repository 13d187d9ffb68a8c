/- Floats of 64 bits: math.Abs; sums; nought and a word. -/
import Derived.Test.YtngemngnboblkaaPointSquares
import Derived.Laws.BitsAllLaws
namespace Go.Proofs.Ytngemngnboblkaa
open Go.ChangeShapes Go.WideShapes Go.ChangeAt Go.RowKit
set_option linter.unusedSimpArgs false
set_option linter.unusedVariables false

open Ieee in
theorem read_abs {r : Nat} {s : Bool} {m : Nat} {i : Int} (h : DB.read r = .number s m i) : DB.read (r % 9223372036854775808) = .number false m i := by
  unfold Format.read at h ⊢
  rw [sw_db] at h ⊢
  dsimp only at h ⊢
  rw [Nat.mod_mod, show r % 9223372036854775808 / 9223372036854775808 % 2 = 0 by omega]
  obtain ⟨q, hq⟩ : ∃ q, r % 9223372036854775808 = q := ⟨_, rfl⟩
  rw [hq] at h ⊢
  by_cases h1 : q < DB.binade
  · rw [if_pos h1] at h ⊢
    cases h
    rfl
  · rw [if_neg h1] at h ⊢
    by_cases h2 : q < DB.infRung
    · rw [if_pos h2] at h ⊢
      cases h
      rfl
    · rw [if_neg h2] at h
      by_cases h3 : q = DB.infRung
      · rw [if_pos h3] at h
        cases h
      · rw [if_neg h3] at h
        cases h
theorem andnot_bits (b : Nat) (hb : b < 18446744073709551616) : bits .andNot .u64 (b : Int) 9223372036854775808 = ((b % 9223372036854775808 : Nat) : Int) := by
  have h := u64_andNot_nat b 9223372036854775808 hb (by decide)
  have e : b &&& (18446744073709551615 - 9223372036854775808) = b % 9223372036854775808 := by
    have := Nat.and_two_pow_sub_one_eq_mod b 63
    simpa using this
  rw [e] at h
  exact h
@[go_sem] theorem call_from (b : Nat) (w : World) : (callFunc 21 #[.int .u64 (b : Int)]).run Try.prog w = .ok (.value (.float .f64 b)) w := by
  rw [run_callFunc_extern Try.func21 (by kernel_rfl) (by kernel_rfl) (by kernel_rfl) (e := Extern.MathFloatBits.float64frombits) (by kernel_rfl)]
  rfl
theorem abs_any (b : Nat) (w : World) (hb : b < 18446744073709551616) : Calls Try.prog 16 #[.float .f64 b] w fun e' w' => e' = .returned (.float .f64 (b % 9223372036854775808)) ∧ w = w' := by
  have h1 := andnot_bits b hb
  obtain ⟨q, hq⟩ : ∃ q, b % 9223372036854775808 = q := ⟨_, rfl⟩
  rw [hq] at h1 ⊢
  clear hq
  go_enter Try.func16, Try.ntmps16
  go_wp2
  go_ret
  exact ⟨rfl, rfl⟩
open Ieee in
theorem add_PV {a b S x y : Nat} (ha : PV a S x) (hb : PV b S y) (hS : S ≤ 800) (hx : x + y < 2 ^ (S + 200)) : ∃ r R, DB.add a b = some r ∧ PV r (S + 52) R ∧ Cl 53 R ((x + y) * 2 ^ 52) := by
  obtain ⟨m, i, h1, h2, h3, rfl⟩ := ha
  obtain ⟨n, j, k1, k2, k3, rfl⟩ := hb
  obtain ⟨B, hB⟩ : ∃ B : Int, B = min i j := ⟨_, rfl⟩
  obtain ⟨K, hK⟩ : ∃ K : Nat, (K : Int) = B + S := ⟨(B + S).toNat, by omega⟩
  obtain ⟨u, hu⟩ : ∃ u : Nat, (u : Int) = i - B := ⟨(i - B).toNat, by omega⟩
  obtain ⟨v, hv⟩ : ∃ v : Nat, (v : Int) = j - B := ⟨(j - B).toNat, by omega⟩
  have ex : m * 2 ^ (i + S).toNat = m * 2 ^ u * 2 ^ K := by
    rw [Nat.mul_assoc, ← Nat.pow_add]
    congr 2
    omega
  have ey : n * 2 ^ (j + S).toNat = n * 2 ^ v * 2 ^ K := by
    rw [Nat.mul_assoc, ← Nat.pow_add]
    congr 2
    omega
  rw [ex, ey, ← Nat.add_mul] at hx ⊢
  have hXp : 0 < m * 2 ^ u := Nat.mul_pos h2 (Nat.two_pow_pos u)
  obtain ⟨X, hX⟩ : ∃ X, m * 2 ^ u = X := ⟨_, rfl⟩
  obtain ⟨Y, hY⟩ : ∃ Y, n * 2 ^ v = Y := ⟨_, rfl⟩
  rw [hX, hY] at hx ⊢
  rw [hX] at hXp
  have hsum : (DB.read a).sum (DB.read b) = some (.number false (X + Y) B) := by
    rw [h1, k1]
    have e1 : (i - B).toNat = u := by omega
    have e2 : (j - B).toNat = v := by omega
    simp only [Datum.sum, ← hB, e1, e2, signed, Bool.false_eq_true, if_false, Nat.shiftLeft_eq, hX, hY]
    have e3 : (X : Int) + (Y : Int) = ((X + Y : Nat) : Int) := by omega
    rw [e3, if_neg (by omega), decide_eq_false (by omega)]
    rfl
  have hM : 0 < X + Y := by omega
  have hl := log_bound hM hx
  obtain ⟨m', i', q1, q2, q3, q4⟩ := near_any false hM B (S := S + 52) (by omega) (by omega) (by omega)
  refine ⟨DB.nearest false (X + Y) B, _, ?_, ⟨m', i', q1, q2, q3, rfl⟩, ?_⟩
  · unfold Format.add
    rw [hsum]
    rfl
  · rw [Nat.mul_assoc, ← Nat.pow_add, show K + 52 = (B + ((S + 52 : Nat) : Int)).toNat by omega]
    exact q4
/-- A word that is the nearest to what it stands for, however that is written. -/
def Nz (b : Nat) : Prop := ∃ (m : Nat) (i : Int), DB.read b = .number false m i ∧ 0 < m ∧ -1074 ≤ i ∧ ∀ k : Nat, DB.nearest false (m * 2 ^ k) (i - k) = b
open Ieee in
theorem nz_full (L K : Nat) (hL : L ≤ 2040) (h1 : 4503599627370496 ≤ K) (h2 : K < 9007199254740992) : DB.read (DB.word false (L * 4503599627370496 + K)) = .number false K ((L : Int) - 1074) ∧ ∀ k : Nat, DB.nearest false (K * 2 ^ k) ((L : Int) - 1074 - k) = DB.word false (L * 4503599627370496 + K) := by
  constructor
  · have hr := read_word false (r := L * 4503599627370496 + K) (by omega) (by omega)
    have e1 : (L * 4503599627370496 + K) % 4503599627370496 = K - 4503599627370496 := by omega
    have e2 : (L * 4503599627370496 + K) / 4503599627370496 = L + 1 := by omega
    rw [e1, e2, show 4503599627370496 + (K - 4503599627370496) = K by omega, show (-1074 : Int) + ((L + 1 - 1 : Nat) : Int) = (L : Int) - 1074 by omega] at hr
    exact hr
  · intro k
    have hK0 : K ≠ 0 := by omega
    have hM0 : K * 2 ^ k ≠ 0 := by
      have := Nat.two_pow_pos k
      exact Nat.mul_ne_zero hK0 (by omega)
    have hKl : K.log2 = 52 := log2_uniq (by rw [p52]; exact h1) (by rw [p53]; exact h2)
    have hKd : (K * 2 ^ k).log2 = 52 + k := by rw [log2_shift hK0, hKl]
    unfold Format.nearest
    rw [if_neg hM0, hKd, frac_db, least_db, binade_db, inf_db]
    have e1 : max ((L : Int) - 1074 - (k : Int) + ((52 + k : Nat) : Int) - ((52 : Nat) : Int)) (-1074) = (L : Int) - 1074 := by omega
    simp only [e1]
    rw [show ((L : Int) - 1074 - (k : Int) - ((L : Int) - 1074)).toNat = 0 by omega, show ((L : Int) - 1074 - ((L : Int) - 1074 - (k : Int))).toNat = k by omega, show ((L : Int) - 1074 - -1074).toNat = L by omega, Nat.shiftLeft_zero, cut_exact false K k (by rw [hKd]; omega), Nat.min_eq_left (by omega)]
open Ieee in
theorem nz_word (L K : Nat) (hL : L ≤ 2030) (h1 : 4503599627370496 ≤ K) (h2 : K ≤ 9007199254740992) : Nz (DB.word false (L * 4503599627370496 + K)) := by
  by_cases h : K = 9007199254740992
  · subst h
    have e : L * 4503599627370496 + 9007199254740992 = (L + 1) * 4503599627370496 + 4503599627370496 := by omega
    rw [e]
    obtain ⟨q1, q2⟩ := nz_full (L + 1) 4503599627370496 (by omega) (by omega) (by omega)
    exact ⟨_, _, q1, by omega, by omega, q2⟩
  · obtain ⟨q1, q2⟩ := nz_full L K (by omega) h1 (by omega)
    exact ⟨_, _, q1, by omega, by omega, q2⟩
open Ieee in
theorem nz_near {M : Nat} (hM : 0 < M) (p : Int) (hp : -900 ≤ p) (hl : p + M.log2 ≤ 900) : Nz (DB.nearest false M p) := by
  have hM0 : M ≠ 0 := by omega
  obtain ⟨b1, b2⟩ := log2_bd hM0
  unfold Format.nearest
  rw [if_neg hM0, frac_db, least_db, binade_db, inf_db]
  have e1 : max (p + (M.log2 : Int) - ((52 : Nat) : Int)) (-1074) = p + (M.log2 : Int) - 52 := by omega
  simp only [e1]
  obtain ⟨L, hL⟩ : ∃ L : Nat, (p + (M.log2 : Int) - 52 - -1074).toNat = L := ⟨_, rfl⟩
  rw [hL]
  by_cases hc : M.log2 ≤ 52
  · have f1 : (p - (p + (M.log2 : Int) - 52)).toNat = 52 - M.log2 := by omega
    have f2 : (p + (M.log2 : Int) - 52 - p).toNat = 0 := by omega
    rw [f1, f2, cut_none, Nat.shiftLeft_eq]
    have k1 : 4503599627370496 ≤ M * 2 ^ (52 - M.log2) := by
      have := Nat.mul_le_mul_right (2 ^ (52 - M.log2)) b1
      rw [← Nat.pow_add, show M.log2 + (52 - M.log2) = 52 by omega, p52] at this
      exact this
    have k2 : M * 2 ^ (52 - M.log2) ≤ 9007199254740992 := by
      have := Nat.mul_le_mul_right (2 ^ (52 - M.log2)) (Nat.le_of_lt b2)
      rw [← Nat.pow_add, show M.log2 + 1 + (52 - M.log2) = 53 by omega, p53] at this
      exact this
    rw [Nat.min_eq_left (by omega)]
    exact nz_word L _ (by omega) k1 k2
  · obtain ⟨d, hd⟩ : ∃ d : Nat, M.log2 = 52 + d := ⟨M.log2 - 52, by omega⟩
    have f1 : (p - (p + (M.log2 : Int) - 52)).toNat = 0 := by omega
    have f2 : (p + (M.log2 : Int) - 52 - p).toNat = d := by omega
    rw [f1, f2, Nat.shiftLeft_zero]
    obtain ⟨c1, c2⟩ := cut_near false M d (by omega)
    obtain ⟨K, hK⟩ : ∃ K, Toward.even.cut false M d = K := ⟨_, rfl⟩
    rw [hK] at c1 c2 ⊢
    rw [hd] at b1 b2
    have g1 : 4503599627370496 * 2 ^ d ≤ M := by rw [← p52, ← Nat.pow_add]; exact b1
    have g2 : M < 9007199254740992 * 2 ^ d := by rw [← p53, ← Nat.pow_add, show 53 + d = 52 + d + 1 by omega]; exact b2
    obtain ⟨G, hG⟩ : ∃ G, 2 ^ d = G := ⟨_, rfl⟩
    have hGp : 0 < G := by rw [← hG]; exact Nat.two_pow_pos d
    rw [hG] at c1 c2 g1 g2
    have k1 : 4503599627370496 ≤ K := by
      apply Nat.le_of_lt_succ
      apply Nat.lt_of_mul_lt_mul_right (a := G)
      have : (K + 1) * G = K * G + G := by grind
      show 4503599627370496 * G < (K + 1) * G
      omega
    have k2 : K ≤ 9007199254740992 := by
      apply Nat.le_of_lt_succ
      apply Nat.lt_of_mul_lt_mul_right (a := G)
      have : (9007199254740992 + 1) * G = 9007199254740992 * G + G := by grind
      show K * G < (9007199254740992 + 1) * G
      omega
    rw [Nat.min_eq_left (by omega)]
    exact nz_word L K (by omega) k1 k2
open Ieee in
theorem add_zero_l {b : Nat} (h : Nz b) : DB.add 0 b = some b ∧ DB.add b 0 = some b := by
  obtain ⟨m, i, hr, hm, hi, hn⟩ := h
  have h0 : DB.read 0 = .number false 0 (-1074) := read_F0
  have hu : i - ((i + 1074).toNat : Int) = -1074 := by omega
  have hk := hn (i + 1074).toNat
  rw [hu] at hk
  have hmp : 0 < m * 2 ^ (i + 1074).toNat := Nat.mul_pos hm (Nat.two_pow_pos _)
  obtain ⟨X, hX⟩ : ∃ X, m * 2 ^ (i + 1074).toNat = X := ⟨_, rfl⟩
  rw [hX] at hk hmp
  have e1 : (i - -1074).toNat = (i + 1074).toNat := by omega
  constructor
  · unfold Format.add
    rw [hr, h0]
    simp only [Datum.sum, show min (-1074 : Int) i = -1074 by omega, e1, signed, Bool.false_eq_true, if_false, Nat.shiftLeft_eq, hX, Nat.zero_mul]
    have e3 : ((0 : Nat) : Int) + (X : Int) = (X : Int) := by omega
    rw [e3, if_neg (by omega), decide_eq_false (by omega), Int.natAbs_natCast]
    show some (DB.nearest _ _ _) = _
    rw [hk]
  · unfold Format.add
    rw [hr, h0]
    simp only [Datum.sum, show min i (-1074 : Int) = -1074 by omega, e1, signed, Bool.false_eq_true, if_false, Nat.shiftLeft_eq, hX, Nat.zero_mul]
    have e3 : (X : Int) + ((0 : Nat) : Int) = (X : Int) := by omega
    rw [e3, if_neg (by omega), decide_eq_false (by omega), Int.natAbs_natCast]
    show some (DB.nearest _ _ _) = _
    rw [hk]
open Ieee in
theorem zero_lt {b S y : Nat} (h : PV b S y) : DB.order 0 b = some .lt ∧ DB.order b 0 = some .gt := by
  obtain ⟨m, i, hr, hm, hi, -⟩ := h
  have h0 : DB.read 0 = .number false 0 (-1074) := read_F0
  have hp : ∀ u : Nat, (0 : Int) < signed false m u := fun u => by
    rw [signed_f]
    have := Nat.mul_pos hm (Nat.two_pow_pos u)
    omega
  have hz : ∀ u : Nat, signed false 0 u = 0 := fun u => by rw [signed_f, Nat.zero_mul]; rfl
  constructor
  · unfold Format.order
    rw [hr, h0]
    simp only [Datum.order, hz]
    rw [cmp_lt_of (hp _)]
  · unfold Format.order
    rw [hr, h0]
    simp only [Datum.order, hz]
    rw [cmp_gt_of (hp _)]
end Go.Proofs.Ytngemngnboblkaa
