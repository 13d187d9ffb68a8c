/- Floats of 64 bits: a way round is not shorter. -/
import Derived.Test.YtngemngnboblkaaFlL
namespace Go.Proofs.Ytngemngnboblkaa
open Ieee

/-- Cauchy's. -/
theorem cauchy (x1 x2 y1 y2 : Int) : (x1 * y1 + x2 * y2) * (x1 * y1 + x2 * y2) ≤ (x1 * x1 + x2 * x2) * (y1 * y1 + y2 * y2) := by
  have h : (x1 * x1 + x2 * x2) * (y1 * y1 + y2 * y2) - (x1 * y1 + x2 * y2) * (x1 * y1 + x2 * y2) = (x1 * y2 - x2 * y1) * (x1 * y2 - x2 * y1) := by grind
  have h2 : 0 ≤ (x1 * y2 - x2 * y1) * (x1 * y2 - x2 * y1) := by
    rcases Int.le_total 0 (x1 * y2 - x2 * y1) with q | q
    · exact Int.mul_nonneg q q
    · exact Int.mul_nonneg_of_nonpos_of_nonpos q q
  omega
/-- The square of a sum of roots, from below. -/
theorem way_sq {NA NB N α β s U : Nat} {c : Int} (hc : c * c ≤ (NA : Int) * (NB : Int)) (hN : (N : Int) = (NA : Int) + (NB : Int) + 2 * c) (ha : Cl 49 (α * α) (NA * U)) (hb : Cl 49 (β * β) (NB * U)) (hs : Cl 49 (s * s) (N * U)) : s * 1099511627775 ≤ (α + β) * 1099511627776 := by
  have p : (2 : Nat) ^ 49 = 562949953421312 := by decide
  have ha2 := ha.2
  have hb2 := hb.2
  have hs1 := hs.1
  rw [p] at ha2 hb2 hs1
  have m1 : ∀ x : Nat, x * 562949953421312 = x * 562949953421311 + x := fun x => Nat.mul_succ x 562949953421311
  have m2 : ∀ x : Nat, x * 562949953421313 = x * 562949953421312 + x := fun x => Nat.mul_succ x 562949953421312
  have a1 : NA * U * 562949953421311 ≤ α * α * 562949953421312 := by
    rw [m1 (NA * U)] at ha2
    exact Nat.le_of_add_le_add_right ha2
  have b1 : NB * U * 562949953421311 ≤ β * β * 562949953421312 := by
    rw [m1 (NB * U)] at hb2
    exact Nat.le_of_add_le_add_right hb2
  have s1 : s * s * 562949953421312 ≤ N * U * 562949953421313 := by
    rw [m2 (N * U)]
    exact hs1
  obtain ⟨G, hG⟩ : ∃ G : Nat, 562949953421311 = G := ⟨_, rfl⟩
  obtain ⟨H, hH⟩ : ∃ H : Nat, 562949953421312 = H := ⟨_, rfl⟩
  have hHp : 0 < H := by omega
  rw [hG, hH] at a1 b1
  -- the product of both
  have ab : (NA * U * G) * (NB * U * G) ≤ (α * β * H) * (α * β * H) := by
    have := Nat.mul_le_mul a1 b1
    have e : α * α * H * (β * β * H) = (α * β * H) * (α * β * H) := by grind
    rwa [e] at this
  have hcc : c * ((U * G : Nat) : Int) ≤ ((α * β * H : Nat) : Int) := by
    rcases Int.le_total c 0 with q | q
    · have h1 : c * ((U * G : Nat) : Int) ≤ 0 := by
        have := Int.mul_nonneg (a := -c) (b := ((U * G : Nat) : Int)) (by omega) (by omega)
        rw [Int.neg_mul] at this
        omega
      omega
    · obtain ⟨C, rfl⟩ : ∃ C : Nat, c = (C : Int) := ⟨c.toNat, by omega⟩
      have hcn : C * C ≤ NA * NB := by
        have : ((C * C : Nat) : Int) ≤ ((NA * NB : Nat) : Int) := by push_cast; exact hc
        omega
      have h1 : (C * (U * G)) * (C * (U * G)) ≤ (α * β * H) * (α * β * H) := by
        have h2 := Nat.mul_le_mul_right ((U * G) * (U * G)) hcn
        have e1 : C * C * (U * G * (U * G)) = (C * (U * G)) * (C * (U * G)) := by grind
        have e2 : NA * NB * (U * G * (U * G)) = (NA * U * G) * (NB * U * G) := by grind
        rw [e1, e2] at h2
        exact Nat.le_trans h2 ab
      have h3 := Nat.mul_self_le_mul_self_iff.1 h1
      have : ((C * (U * G) : Nat) : Int) ≤ ((α * β * H : Nat) : Int) := by omega
      push_cast at this ⊢
      exact this
  have sum : N * (U * G) ≤ (α + β) * (α + β) * H := by
    have e1 : ((N * (U * G) : Nat) : Int) = ((NA * U * G : Nat) : Int) + ((NB * U * G : Nat) : Int) + 2 * (c * ((U * G : Nat) : Int)) := by
      push_cast
      rw [hN]
      grind
    have e2 : (α + β) * (α + β) * H = α * α * H + β * β * H + 2 * (α * β * H) := by grind
    omega
  rw [← hG, ← hH] at sum
  apply Nat.mul_self_le_mul_self_iff.1
  have t1 := Nat.mul_le_mul_right (1099511627775 * 1099511627775) s1
  have t2 := Nat.mul_le_mul_right (1099511627776 * 1099511627776) sum
  have n1 : 562949953421313 * (1099511627775 * 1099511627775) ≤ 562949953421311 * (1099511627776 * 1099511627776) := by decide
  have t3 := Nat.mul_le_mul_left (N * U) n1
  have e3 : N * U * 562949953421313 * (1099511627775 * 1099511627775) = N * U * (562949953421313 * (1099511627775 * 1099511627775)) := Nat.mul_assoc _ _ _
  have e4 : N * (U * 562949953421311) * (1099511627776 * 1099511627776) = N * U * (562949953421311 * (1099511627776 * 1099511627776)) := by grind
  rw [e3] at t1
  rw [e4] at t2
  have t4 := Nat.le_trans t1 (Nat.le_trans t3 t2)
  have e5 : s * s * 562949953421312 * (1099511627775 * 1099511627775) = s * 1099511627775 * (s * 1099511627775) * 562949953421312 := by grind
  have e6 : (α + β) * (α + β) * 562949953421312 * (1099511627776 * 1099511627776) = (α + β) * 1099511627776 * ((α + β) * 1099511627776) * 562949953421312 := by grind
  rw [e5, e6] at t4
  exact Nat.le_of_mul_le_mul_right t4 (by decide)
/-- Where the way round is as long, the last comparison holds. -/
theorem way_core {r1 R1 u s w S q : Nat} (hS : S = 200) (hr : PV r1 (S + 52) R1) (hcr : Cl 53 R1 (w * 2 ^ 52)) (hu : PV u S s) (hw : s * 1099511627775 ≤ w * 1099511627776) (hsb : s ≤ q * 2 ^ S) (hq : q ≤ 1000000) : ∃ r2, DB.mul u cK = some r2 ∧ DB.order r1 r2 = some .gt := by
  obtain ⟨H, hH⟩ : ∃ H, 2 ^ S = H := ⟨_, rfl⟩
  have hHp : 0 < H := by rw [← hH]; exact Nat.two_pow_pos _
  rw [hH] at hsb
  have hU : 2 ^ (2 * S) = H * H := by rw [← hH, ← Nat.pow_add]; congr 1 <;> omega
  obtain ⟨G, hG⟩ : ∃ G, 2 ^ (S - 53) = G := ⟨_, rfl⟩
  have hGp : 0 < G := by rw [← hG]; exact Nat.two_pow_pos _
  have hHG : H = 9007199254740992 * G := by
    rw [← hH, ← hG, show S = 53 + (S - 53) by omega, Nat.pow_add, show 53 + (S - 53) - 53 = S - 53 by omega, p53]
  have hK := cK_PV (S := S) (by omega)
  rw [hG] at hK
  have hb : s * (9007199254731985 * G) ≤ 2 ^ 100 * (H * H) := by
    have h1 : s * (9007199254731985 * G) ≤ q * H * H := Nat.mul_le_mul hsb (by omega)
    have h2 : q * H * H = q * (H * H) := Nat.mul_assoc _ _ _
    rw [h2] at h1
    exact Nat.le_trans h1 (Nat.mul_le_mul_right _ (Nat.le_trans hq (by decide)))
  obtain ⟨r2, R2, hr2, hP2, hc2⟩ := mul_PV hu hK (by omega) (big_ok (2 * S) _ _ hU hb)
  refine ⟨r2, hr2, ?_⟩
  have hsp := hu.pos
  have hA := hr.up S
  have hB := hP2.up 52
  rw [hH] at hA
  rw [show S + 52 + S = 2 * S + 52 by omega] at hA
  obtain ⟨m, i, a1, a2, a3, a4⟩ := hA
  obtain ⟨n, j, b1, b2, b3, b4⟩ := hB
  have o := ord_scaled (S := 2 * S + 52) a1 b1 (by omega) (by omega)
  rw [signed_f, signed_f, ← a4, ← b4] at o
  rw [o, cmp_gt_of]
  have hlt : R2 * 2 ^ 52 < R1 * H := by
    have c1 := hcr.2
    have c2 := hc2.1
    rw [p53] at c1 c2
    rw [p52] at c1 ⊢
    -- times 2 ^ 53: R2 is not above, R1 not below
    have m1 : ∀ x : Nat, x * 9007199254740992 = x * 9007199254740991 + x := fun x => Nat.mul_succ x 9007199254740991
    have m2 : ∀ x : Nat, x * 9007199254740993 = x * 9007199254740992 + x := fun x => Nat.mul_succ x 9007199254740992
    have d1 : w * 4503599627370496 * 9007199254740991 ≤ R1 * 9007199254740992 := by
      rw [m1 (w * 4503599627370496)] at c1
      exact Nat.le_of_add_le_add_right c1
    have d2 : R2 * 9007199254740992 ≤ s * (9007199254731985 * G) * 9007199254740993 := by
      rw [m2 (s * (9007199254731985 * G))]
      exact c2
    have d3 := Nat.mul_le_mul_right H d1
    have d4 := Nat.mul_le_mul_right 4503599627370496 d2
    have e1 : w * 4503599627370496 * 9007199254740991 * H = w * 1099511627776 * G * (8192 * 9007199254740991 * 4503599627370496) := by rw [hHG]; grind
    have e2 : s * (9007199254731985 * G) * 9007199254740993 * 4503599627370496 = s * G * (9007199254731985 * 9007199254740993 * 4503599627370496) := by grind
    rw [e1] at d3
    rw [e2] at d4
    have f1 := Nat.mul_le_mul_right (G * (8192 * 9007199254740991 * 4503599627370496)) hw
    have e3 : s * 1099511627775 * (G * (8192 * 9007199254740991 * 4503599627370496)) = s * G * (1099511627775 * (8192 * 9007199254740991 * 4503599627370496)) := by grind
    have e4 : w * 1099511627776 * (G * (8192 * 9007199254740991 * 4503599627370496)) = w * 1099511627776 * G * (8192 * 9007199254740991 * 4503599627370496) := by grind
    rw [e3, e4] at f1
    have n1 : 9007199254731985 * 9007199254740993 * 4503599627370496 < 1099511627775 * (8192 * 9007199254740991 * 4503599627370496) := by decide
    have hsG : 0 < s * G := Nat.mul_pos hsp hGp
    have f2 := Nat.mul_lt_mul_of_pos_left n1 hsG
    have f3 := Nat.lt_of_le_of_lt d4 (Nat.lt_of_lt_of_le f2 (Nat.le_trans f1 d3))
    have e5 : R2 * 9007199254740992 * 4503599627370496 = R2 * 4503599627370496 * 9007199254740992 := by grind
    have e6 : R1 * 9007199254740992 * H = R1 * H * 9007199254740992 := by grind
    rw [e5, e6] at f3
    exact Nat.lt_of_mul_lt_mul_right f3
  omega
theorem nz_PV {b S v : Nat} (h : PV b S v) (hS : S ≤ 900) (hb : b < 18446744073709551616) (hi : v < 2 ^ (S + 200)) : Nz b := by
  obtain ⟨m, i, hr, hm, h52, hv⟩ := h
  have hr0 := hr
  unfold Format.read at hr
  rw [sw_db, binade_db, inf_db, least_db] at hr
  dsimp only at hr
  obtain ⟨q, hq⟩ : ∃ q, b % 9223372036854775808 = q := ⟨_, rfl⟩
  rw [hq] at hr
  by_cases h1 : q < 4503599627370496
  · rw [if_pos h1] at hr
    obtain ⟨-, -, e⟩ := Datum.number.inj hr
    omega
  · rw [if_neg h1] at hr
    by_cases h2 : q < 9218868437227405312
    · rw [if_pos h2] at hr
      obtain ⟨e1, e2, e3⟩ := Datum.number.inj hr
      have hb0 : b = q := by
        have : ¬ (b / 9223372036854775808 % 2 == 1) = true := by rw [e1]; simp
        have : ¬ b / 9223372036854775808 % 2 = 1 := by simpa using this
        omega
      have hlt : m * 2 ^ (i + (S : Int)).toNat < 2 ^ (S + 200) := by rw [← hv]; exact hi
      have hl := log_bound hm hlt
      have hml : 52 ≤ m.log2 := (Nat.le_log2 (by omega)).2 (by rw [p52]; omega)
      have hbq : b = (i + 1074).toNat * 4503599627370496 + m := by omega
      rw [hbq]
      exact nz_word _ _ (by omega) (by omega) (by omega)
    · rw [if_neg h2] at hr
      by_cases h3 : q = 9218868437227405312
      · rw [if_pos h3] at hr
        cases hr
      · rw [if_neg h3] at hr
        cases hr
/-- The way round, in words. -/
theorem lens_e (x1 x2 y1 y2 : Int) (NA NB N : Nat) (hA : x1 * x1 + x2 * x2 = (NA : Int)) (hB : y1 * y1 + y2 * y2 = (NB : Int)) (hN : (x1 + y1) * (x1 + y1) + (x2 + y2) * (x2 + y2) = (N : Int)) (bA : NA ≤ 100000000) (bB : NB ≤ 100000000) (bN : N ≤ 100000000) : ∃ r1 r2, DB.add (SQ (NA : Int)) (SQ (NB : Int)) = some r1 ∧ DB.mul (SQ (N : Int)) cK = some r2 ∧ ((DB.order r1 r2 == some .gt) || (DB.order r1 r2 == some .eq)) = true := by
  have hs0 : SQ 0 = 0 := by decide +kernel
  have hm0 : DB.mul 0 cK = some 0 := by decide +kernel
  have ha0 : DB.add 0 0 = some 0 := by decide +kernel
  have ho0 : DB.order 0 0 = some .eq := by decide +kernel
  obtain ⟨S, hS⟩ : ∃ S : Nat, S = 200 := ⟨_, rfl⟩
  obtain ⟨H, hH⟩ : ∃ H, 2 ^ S = H := ⟨_, rfl⟩
  have hU : 2 ^ (2 * S) = H * H := by rw [← hH, ← Nat.pow_add]; congr 1 <;> omega
  have rt : ∀ M : Nat, 0 < M → M ≤ 100000000 → ∃ s, PV (SQ (M : Int)) S s ∧ Cl 49 (s * s) (M * (H * H)) ∧ s ≤ 20000 * H ∧ Nz (SQ (M : Int)) := by
    intro M h0 h1
    obtain ⟨s, hp, hc⟩ := sqrt_PV h0 (by omega : M < 2 ^ 40) (S := S) (by omega) (by omega)
    rw [hU] at hc
    have hs := root_bd hc.le2 (by omega : 2 * M ≤ 20000 * 20000)
    refine ⟨s, hp, hc, hs, nz_PV hp (by omega) (DB.sqrt_lt (sq_some (by omega) (by unfold Sm; omega))) (big_ok S _ H hH (Nat.le_trans hs (Nat.mul_le_mul_right H (by decide))))⟩
  have bigS : ∀ z, z ≤ 40000 * H → z < 2 ^ (S + 200) := fun z hz => big_ok S z H hH (Nat.le_trans hz (Nat.mul_le_mul_right H (by decide)))
  have zz : ∀ a b : Int, a * a + b * b = 0 → a = 0 ∧ b = 0 := by
    intro a b h
    have c0 : ∀ p : Int, 0 ≤ p * p := fun p => by rcases Int.le_total 0 p with q | q; exact Int.mul_nonneg q q; exact Int.mul_nonneg_of_nonpos_of_nonpos q q
    have h1 := c0 a
    have h2 := c0 b
    have h3 : a * a = 0 := by omega
    have h4 : b * b = 0 := by omega
    exact ⟨by rcases Int.mul_eq_zero.1 h3 with q | q <;> exact q, by rcases Int.mul_eq_zero.1 h4 with q | q <;> exact q⟩
  have fin : ∀ {r1 r2 : Nat}, DB.order r1 r2 = some .gt → ((DB.order r1 r2 == some .gt) || (DB.order r1 r2 == some .eq)) = true := fun h => by rw [h]; rfl
  by_cases hN0 : N = 0
  · subst hN0
    obtain ⟨z1, z2⟩ := zz _ _ hN
    have hAB : NA = NB := by
      have e1 : y1 = -x1 := by omega
      have e2 : y2 = -x2 := by omega
      rw [e1, e2, Int.neg_mul_neg, Int.neg_mul_neg] at hB
      omega
    subst hAB
    show ∃ r1 r2, _ ∧ DB.mul (SQ 0) cK = some r2 ∧ _
    rw [hs0]
    by_cases hA0 : NA = 0
    · subst hA0
      show ∃ r1 r2, DB.add (SQ 0) (SQ 0) = some r1 ∧ _
      rw [hs0]
      exact ⟨0, 0, ha0, hm0, by rw [ho0]; rfl⟩
    · obtain ⟨s, hp, hc, hs, -⟩ := rt NA (by omega) bA
      obtain ⟨r1, R1, h1, h2, h3⟩ := add_PV hp hp (by omega) (bigS _ (by omega))
      exact ⟨r1, 0, h1, hm0, fin (zero_lt h2).2⟩
  · obtain ⟨s, hp, hc, hs, hz⟩ := rt N (by omega) bN
    have one : s * 1099511627775 ≤ s * 1099511627776 := Nat.mul_le_mul_left s (by decide)
    by_cases hA0 : NA = 0
    · subst hA0
      obtain ⟨e1, e2⟩ := zz _ _ hA
      subst e1 e2
      rw [Int.zero_add, Int.zero_add, hB] at hN
      obtain rfl : NB = N := by omega
      obtain ⟨r2, h1, h2⟩ := way_core hS (hp.up 52) (Cl.refl _ _) hp one (by rw [hH]; exact hs) (by decide)
      refine ⟨SQ (NB : Int), r2, ?_, h1, fin h2⟩
      show DB.add (SQ 0) _ = _
      rw [hs0]
      exact (add_zero_l hz).1
    · by_cases hB0 : NB = 0
      · subst hB0
        obtain ⟨e1, e2⟩ := zz _ _ hB
        subst e1 e2
        rw [Int.add_zero, Int.add_zero, hA] at hN
        obtain rfl : NA = N := by omega
        obtain ⟨r2, h1, h2⟩ := way_core hS (hp.up 52) (Cl.refl _ _) hp one (by rw [hH]; exact hs) (by decide)
        refine ⟨SQ (NA : Int), r2, ?_, h1, fin h2⟩
        show DB.add _ (SQ 0) = _
        rw [hs0]
        exact (add_zero_l hz).2
      · obtain ⟨α, ha, hca, hsa, -⟩ := rt NA (by omega) bA
        obtain ⟨β, hb, hcb, hsb, -⟩ := rt NB (by omega) bB
        obtain ⟨r1, R1, g1, g2, g3⟩ := add_PV ha hb (by omega) (bigS _ (by omega))
        have hc2 := cauchy x1 x2 y1 y2
        rw [hA, hB] at hc2
        have hNN : (N : Int) = (NA : Int) + (NB : Int) + 2 * (x1 * y1 + x2 * y2) := by
          rw [← hN, ← hA, ← hB]
          grind
        obtain ⟨r2, h1, h2⟩ := way_core hS g2 g3 hp (way_sq hc2 hNN hca hcb hc) (by rw [hH]; exact hs) (by decide)
        exact ⟨r1, r2, g1, h1, fin h2⟩
end Go.Proofs.Ytngemngnboblkaa
