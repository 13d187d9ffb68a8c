/- Floats of 64 bits: what PointLens asks of lengths, second part. -/
import Derived.Test.YtngemngnboblkaaFlK
namespace Go.Proofs.Ytngemngnboblkaa
open Ieee

theorem root_bd {s M H q : Nat} (h : s * s ≤ 2 * (M * (H * H))) (hq : 2 * M ≤ q * q) : s ≤ q * H := by
  apply Nat.mul_self_le_mul_self_iff.1
  have e1 : 2 * (M * (H * H)) = 2 * M * (H * H) := by grind
  have e2 : q * H * (q * H) = q * q * (H * H) := by grind
  rw [e1] at h
  rw [e2]
  exact Nat.le_trans h (Nat.mul_le_mul_right _ hq)
theorem lens_d (N n : Nat) (hN0 : 0 < N) (hN : N ≤ 100000000) (hn0 : 0 < n) (hn : n ≤ 30) : ∃ P r Q Y, DB.mul (SQ (N : Int)) (F (n : Int)) = some P ∧ DB.sub (SQ ((n * n * N : Nat) : Int)) P = some r ∧ r < 18446744073709551616 ∧ DB.add (SQ ((n * n * N : Nat) : Int)) (F 1) = some Q ∧ DB.mul c9 Q = some Y ∧ DB.order (r % 9223372036854775808) Y = some .lt := by
  obtain ⟨S, hS⟩ : ∃ S : Nat, S = 200 := ⟨_, rfl⟩
  have hnn : n * n ≤ 900 := Nat.mul_le_mul hn hn
  have hnn0 : 0 < n * n := Nat.mul_pos hn0 hn0
  have hM : n * n * N ≤ 900 * 100000000 := Nat.mul_le_mul hnn hN
  have hM0 : 0 < n * n * N := Nat.mul_pos hnn0 hN0
  obtain ⟨s, hp, hc⟩ := sqrt_PV hN0 (by omega : N < 2 ^ 40) (S := S) (by omega) (by omega)
  obtain ⟨t, hq, hd⟩ := sqrt_PV hM0 (by omega : n * n * N < 2 ^ 40) (S := S) (by omega) (by omega)
  obtain ⟨H, hH⟩ : ∃ H, 2 ^ S = H := ⟨_, rfl⟩
  have hHp : 0 < H := by rw [← hH]; exact Nat.two_pow_pos _
  have hU : 2 ^ (2 * S) = H * H := by rw [← hH, ← Nat.pow_add]; congr 1; omega
  rw [hU] at hc hd
  have hs := root_bd hc.le2 (by omega : 2 * N ≤ 20000 * 20000)
  have ht := root_bd hd.le2 (by omega : 2 * (n * n * N) ≤ 600000 * 600000)
  have htp := hq.pos
  have hF : PV (F (n : Int)) S (n * H) := by
    have := PV.int hn0 (by omega) (S := S) (by omega)
    rwa [hH] at this
  have hF1 : PV (F 1) S H := by
    have := PV.int (n := 1) (by decide) (by decide) (S := S) (by omega)
    rwa [hH, Nat.one_mul] at this
  have hsn : s * (n * H) ≤ 20000 * H * (30 * H) := Nat.mul_le_mul hs (Nat.mul_le_mul_right H hn)
  have hsn2 : 20000 * H * (30 * H) = 600000 * (H * H) := by grind
  rw [hsn2] at hsn
  obtain ⟨P, RP, hP, hPP, hcP⟩ := mul_PV hp hF (by omega) (big_ok (2 * S) _ (H * H) hU (Nat.le_trans hsn (Nat.mul_le_mul_right _ (by decide))))
  have hq2 : PV (SQ ((n * n * N : Nat) : Int)) (2 * S) (t * H) := by
    have := hq.up S
    rwa [hH, show S + S = 2 * S by omega] at this
  have hy : Cl 49 (s * n * (s * n)) (n * n * N * (H * H)) := by
    have := hc.scale (n * n)
    have e1 : s * s * (n * n) = s * n * (s * n) := by grind
    have e2 : N * (H * H) * (n * n) = n * n * N * (H * H) := by grind
    rwa [e1, e2] at this
  have hcl := (root_close hd hy htp).scale H
  have e3 : s * n * H = s * (n * H) := Nat.mul_assoc _ _ _
  rw [e3] at hcl
  have hcl2 : Cl 45 RP (t * H) := (cl_mono hcP (by omega : 45 + 2 ≤ 53)).tr hcl
  have hRP := hcl2.le2
  have htH : t * H ≤ 600000 * (H * H) := by
    have := Nat.mul_le_mul_right H ht
    rwa [Nat.mul_assoc] at this
  obtain ⟨Q, RQ, hQ, hPQ, hcQ⟩ := add_PV hq hF1 (by omega) (big_ok S _ H hH (by
    have : 600000 * H + H ≤ 2 ^ 100 * H := by
      have : (600000 + 1) * H ≤ 2 ^ 100 * H := Nat.mul_le_mul_right H (by decide)
      omega
    omega))
  have hRQ1 := hcQ.le2
  have hRQ2 := hcQ.ge2 (by decide)
  obtain ⟨p, hpp⟩ : ∃ p, 2 ^ 52 = p := ⟨_, rfl⟩
  have hp0 : 0 < p := by rw [← hpp]; exact Nat.two_pow_pos _
  obtain ⟨G, hG⟩ : ∃ G, 2 ^ (S - 30) = G := ⟨_, rfl⟩
  have hGp : 0 < G := by rw [← hG]; exact Nat.two_pow_pos _
  have hHG : H = 1073741824 * G := by
    rw [← hH, ← hG, show S = 30 + (S - 30) by omega, Nat.pow_add, show 30 + (S - 30) - 30 = S - 30 by omega]
  have hc9 := c9_PV (S := S + 52) (by omega)
  rw [show S + 52 - 82 = S - 30 by omega, hG] at hc9
  rw [hpp] at hRQ1 hRQ2
  have hU2 : 2 ^ (2 * (S + 52)) = H * H * (p * p) := by
    rw [← hU, ← hpp, ← Nat.pow_add, ← Nat.pow_add]
    congr 1 <;> omega
  have hm9 : 4835703278458517 ≤ 2 * p := by rw [← hpp]; decide
  have hYb : 4835703278458517 * G * RQ ≤ 2 ^ 100 * (H * H * (p * p)) := by
    have h1 : 4835703278458517 * G * RQ ≤ 2 * p * G * (2 * ((600000 * H + H) * p)) := Nat.mul_le_mul (Nat.mul_le_mul_right G hm9) (Nat.le_trans hRQ1 (Nat.mul_le_mul_left 2 (Nat.mul_le_mul_right p (by omega))))
    have h2 : 2 * p * G * (2 * ((600000 * H + H) * p)) = 2400004 * (G * H * (p * p)) := by grind
    have h3 : G * H ≤ H * H := Nat.mul_le_mul_right H (by omega)
    have h4 : G * H * (p * p) ≤ H * H * (p * p) := Nat.mul_le_mul_right _ h3
    rw [h2] at h1
    have h5 : 2400004 * (G * H * (p * p)) ≤ 2 ^ 100 * (H * H * (p * p)) := Nat.mul_le_mul (by decide) h4
    exact Nat.le_trans h1 h5
  obtain ⟨Y, RY, hY, hPY, hcY⟩ := mul_PV hc9 hPQ (by omega) (big_ok (2 * (S + 52)) _ _ hU2 hYb)
  have hRY := hcY.ge2 (by decide)
  have hA := hq2.up 52
  have hB := hPP.up 52
  rw [hpp] at hA hB
  have hPY' : PV Y (2 * S + 52 + 52) RY := by
    rwa [show 2 * (S + 52) = 2 * S + 52 + 52 by omega] at hPY
  have hU3 : 2 ^ (2 * S + 52) = H * H * p := by rw [Nat.pow_add, hU, hpp]
  have d1 : ∀ A B : Nat, A * 2 ^ 45 ≤ B * 2 ^ 45 + t * H → (A - B) * 35184372088832 ≤ t * H := by
    intro A B h
    have e : (2 : Nat) ^ 45 = 35184372088832 := by decide
    rw [e] at h
    rw [Nat.sub_mul]
    omega
  have k1 := d1 _ _ hcl2.1
  have k2 := d1 _ _ hcl2.2
  obtain ⟨r, h1, h2, h3⟩ := abs_lt hA hB hPY' (by omega) (big_ok _ _ _ hU3 (by
      have := Nat.mul_le_mul_right p htH
      have e : 600000 * (H * H) * p = 600000 * (H * H * p) := by grind
      rw [e] at this
      exact Nat.le_trans this (Nat.mul_le_mul_right _ (by decide)))) (big_ok _ _ _ hU3 (by
      have := Nat.mul_le_mul_right p (Nat.le_trans hRP (Nat.mul_le_mul_left 2 htH))
      have e : 2 * (600000 * (H * H)) * p = 1200000 * (H * H * p) := by grind
      rw [e] at this
      exact Nat.le_trans this (Nat.mul_le_mul_right _ (by decide)))) (by
    rw [hpp, ← Nat.sub_mul, ← Nat.sub_mul, ← Nat.add_mul]
    obtain ⟨D, hD⟩ : ∃ D, t * H - RP + (RP - t * H) = D := ⟨_, rfl⟩
    have kD : D * 35184372088832 ≤ t * H := by
      rw [← hD, Nat.add_mul]
      rcases Nat.le_total (t * H) RP with q | q
      · rw [Nat.sub_eq_zero_of_le q, Nat.zero_mul, Nat.zero_add]
        exact k1
      · rw [Nat.sub_eq_zero_of_le q, Nat.zero_mul, Nat.add_zero]
        exact k2
    rw [hD]
    obtain ⟨w, hw⟩ : ∃ w, t * G = w := ⟨_, rfl⟩
    have hwp : 0 < w := by rw [← hw]; exact Nat.mul_pos htp hGp
    have eH : t * H = w * 1073741824 := by rw [hHG, ← hw]; grind
    have kw : D * 32768 ≤ w := by
      rw [eH] at kD
      have e : D * 35184372088832 = D * 32768 * 1073741824 := by rw [Nat.mul_assoc]
      rw [e] at kD
      exact Nat.le_of_mul_le_mul_right kD (by decide)
    have g1 : p * G * (t * p) ≤ 4 * RY := by
      have a1 : t * p ≤ 2 * RQ := by
        have : (t + H) * p = t * p + H * p := by grind
        omega
      have a2 : p ≤ 4835703278458517 := by rw [← hpp]; decide
      have a3 : p * G * (t * p) ≤ 4835703278458517 * G * (2 * RQ) := Nat.mul_le_mul (Nat.mul_le_mul_right G a2) a1
      have a4 : 4835703278458517 * G * (2 * RQ) = 2 * (4835703278458517 * G * RQ) := by grind
      omega
    have g2 : p * G * (t * p) = p * p * w := by rw [← hw]; grind
    rw [g2] at g1
    have g3 := Nat.mul_le_mul_left (p * p) kw
    have g4 : p * p * (D * 32768) = D * p * p * 32768 := by grind
    rw [g4] at g3
    have g5 : 0 < p * p * w := Nat.mul_pos (Nat.mul_pos hp0 hp0) hwp
    obtain ⟨V, hV⟩ : ∃ V, D * p * p = V := ⟨_, rfl⟩
    obtain ⟨W, hW⟩ : ∃ W, p * p * w = W := ⟨_, rfl⟩
    rw [hV] at g3 ⊢
    rw [hW] at g1 g3 g5
    clear k1 k2 d1 kD kw hV hW g2 g4 eH
    omega)
  exact ⟨P, r, Q, Y, hP, h1, h2, hQ, hY, h3⟩
end Go.Proofs.Ytngemngnboblkaa
