/- Floats of 64 bits: what PointLens asks of lengths. -/
import Derived.Test.YtngemngnboblkaaFlJ
namespace Go.Proofs.Ytngemngnboblkaa
open Ieee

theorem Cl.ge2 {k x y : Nat} (h : Cl k x y) (hk : 1 ≤ k) : y ≤ 2 * x := by
  have hp : 2 ≤ 2 ^ k := by
    have := Nat.pow_le_pow_right (n := 2) (by decide) hk
    simpa using this
  have h2 := h.2
  obtain ⟨P, hP⟩ : ∃ P, 2 ^ k = P := ⟨_, rfl⟩
  rw [hP] at h2 hp
  have h3 : y * P ≤ (2 * x) * P := by
    have e : (2 * x) * P = x * P + x * P := by grind
    have h4 : y * 2 ≤ y * P := Nat.mul_le_mul_left y hp
    omega
  exact Nat.le_of_mul_le_mul_right h3 (by omega)
theorem abs_lt {a b S x y Y Z : Nat} (ha : PV a S x) (hb : PV b S y) (hY : PV Y (S + 52) Z) (hS : S ≤ 800) (hx : x < 2 ^ (S + 200)) (hy : y < 2 ^ (S + 200)) (hd : 2 * ((x - y + (y - x)) * 2 ^ 52) < Z) : ∃ r, DB.sub a b = some r ∧ r < 18446744073709551616 ∧ DB.order (r % 9223372036854775808) Y = some .lt := by
  obtain ⟨r, h, hr⟩ := sub_PV ha hb hS hx hy
  refine ⟨r, h, DB.sub_lt h, ?_⟩
  rcases hr with ⟨-, rfl⟩ | ⟨hne, m, i, hr, hm, hi, hcl⟩
  · exact (zero_lt hY).1
  · have hv := hcl.le2
    obtain ⟨n, j, k1, k2, k3, rfl⟩ := hY
    have o1 := ord_scaled (S := S + 52) (read_abs hr) k1 (by omega) (by omega)
    rw [signed_f, signed_f] at o1
    rw [o1, cmp_lt_of (by omega)]
def c9 : Nat := 4472406533629990549
def cK : Nat := 4607182418800008401
theorem p82 : (2 : Nat) ^ 82 = 4835703278458516698824704 := by decide
theorem c9_PV {S : Nat} (hS : 200 ≤ S) : PV c9 S (4835703278458517 * 2 ^ (S - 82)) := by
  have h : DB.read c9 = .number false 4835703278458517 (-82) := by decide +kernel
  refine ⟨_, _, h, by omega, by omega, ?_⟩
  congr 2
  omega
theorem cK_PV {S : Nat} (hS : 200 ≤ S) : PV cK S (9007199254731985 * 2 ^ (S - 53)) := by
  have h : DB.read cK = .number false 9007199254731985 (-53) := by decide +kernel
  refine ⟨_, _, h, by omega, by omega, ?_⟩
  congr 2
  omega
theorem big_ok (S z U : Nat) (hU : 2 ^ S = U) (hz : z ≤ 2 ^ 100 * U) : z < 2 ^ (S + 200) := by
  rw [Nat.pow_add, hU]
  have h0 : 0 < U := by rw [← hU]; exact Nat.two_pow_pos S
  have : 2 ^ 100 * U < U * 2 ^ 200 := by
    rw [Nat.mul_comm]
    exact Nat.mul_lt_mul_of_pos_left (Nat.pow_lt_pow_right (by decide) (by decide)) h0
  omega
/-- The square of a root, against the number: as near as a thousand-millionth. -/
theorem lens_c (N : Nat) (hN0 : 0 < N) (hN : N ≤ 100000000) : ∃ X r Y, DB.mul (SQ (N : Int)) (SQ (N : Int)) = some X ∧ DB.sub X (F (N : Int)) = some r ∧ r < 18446744073709551616 ∧ DB.mul c9 (F (N : Int)) = some Y ∧ DB.order (r % 9223372036854775808) Y = some .lt := by
  obtain ⟨S, hS⟩ : ∃ S : Nat, S = 200 := ⟨_, rfl⟩
  obtain ⟨s, hp, hc⟩ := sqrt_PV hN0 (by omega : N < 2 ^ 40) (S := S) (by omega) (by omega)
  obtain ⟨U, hU⟩ : ∃ U, 2 ^ (2 * S) = U := ⟨_, rfl⟩
  have hUp : 0 < U := by rw [← hU]; exact Nat.two_pow_pos _
  have hNU : N * U ≤ 100000000 * U := Nat.mul_le_mul_right U hN
  have p100 : 100000000 * 16 ≤ 2 ^ 100 := by decide
  have hbig : ∀ z, z ≤ 1600000000 * U → z < 2 ^ (2 * S + 200) := fun z hz => big_ok (2 * S) z U hU (Nat.le_trans hz (Nat.mul_le_mul_right U p100))
  rw [hU] at hc
  have hss := hc.le2
  obtain ⟨X, R, hX, hPX, hcX⟩ := mul_PV hp hp (by omega) (hbig _ (by omega))
  have hR := hcX.le2
  have hcl : Cl 47 R (N * U) := (cl_mono hcX (by omega : 47 + 2 ≤ 53)).tr hc
  have hPN : PV (F (N : Int)) (2 * S) (N * U) := by
    have := PV.int hN0 (by omega) (S := 2 * S) (by omega)
    rwa [hU] at this
  have hPN1 : PV (F (N : Int)) S (N * 2 ^ S) := PV.int hN0 (by omega) (by omega)
  obtain ⟨E, hE⟩ : ∃ E, 2 ^ (2 * S - 82) = E := ⟨_, rfl⟩
  have hEp : 0 < E := by rw [← hE]; exact Nat.two_pow_pos _
  have hUE : U = 4835703278458516698824704 * E := by
    rw [← hU, ← hE, show 2 * S = 82 + (2 * S - 82) by omega, Nat.pow_add, p82, show 82 + (2 * S - 82) - 82 = 2 * S - 82 by omega]
  have hW : 4835703278458517 * 2 ^ (S - 82) * (N * 2 ^ S) = 4835703278458517 * (N * E) := by
    rw [← hE, show 2 * S - 82 = (S - 82) + S by omega, Nat.pow_add]
    grind
  have hNE : N * E ≤ 100000000 * E := Nat.mul_le_mul_right E hN
  have hWb : 4835703278458517 * (N * E) ≤ 1600000000 * U := by rw [hUE]; omega
  obtain ⟨Y, RY, hY, hPY, hcY⟩ := mul_PV (c9_PV (S := S) (by omega)) hPN1 (by omega) (by rw [hW]; exact hbig _ hWb)
  rw [hW] at hcY
  have hRY := hcY.ge2 (by decide)
  have hPY2 := hPY.up 52
  have key : ∀ A B : Nat, A * 2 ^ 47 ≤ B * 2 ^ 47 + N * U → (A - B) * 140737488355328 ≤ N * U := by
    intro A B h
    have e : (2 : Nat) ^ 47 = 140737488355328 := by decide
    rw [e] at h
    rw [Nat.sub_mul]
    omega
  have key2 : ∀ D : Nat, D * 140737488355328 ≤ N * U → D ≤ 34359738368 * (N * E) := by
    intro D h
    have e : N * U = 34359738368 * (N * E) * 140737488355328 := by rw [hUE]; grind
    rw [e] at h
    exact Nat.le_of_mul_le_mul_right h (by decide)
  have d1 := key2 _ (key _ _ hcl.1)
  have d2 := key2 _ (key _ _ hcl.2)
  have hNEp : 0 < N * E := Nat.mul_pos hN0 hEp
  obtain ⟨r, h1, h2, h3⟩ := abs_lt hPX hPN hPY2 (by omega) (hbig _ (by omega)) (hbig _ (by omega)) (by
    obtain ⟨D1, hD1⟩ : ∃ D, R - N * U = D := ⟨_, rfl⟩
    obtain ⟨D2, hD2⟩ : ∃ D, N * U - R = D := ⟨_, rfl⟩
    have hz : D1 = 0 ∨ D2 = 0 := by omega
    rw [hD1] at d1 ⊢
    rw [hD2] at d2 ⊢
    obtain ⟨Q, hQ⟩ : ∃ Q, N * E = Q := ⟨_, rfl⟩
    rw [hQ] at d1 d2 hRY hNEp
    have h9 : 2 * (D1 + D2) < RY := by
      clear hD1 hD2 hcl hcX hcY hc hss hR hUE hWb hNE hNU key key2
      omega
    have := Nat.mul_lt_mul_of_pos_right h9 (Nat.two_pow_pos 52)
    rw [← Nat.mul_assoc]
    exact this)
  exact ⟨X, r, Y, hX, h1, h2, hY, h3⟩
theorem root_close {t y A : Nat} (ht : Cl 49 (t * t) A) (hy : Cl 49 (y * y) A) (ht0 : 0 < t) : Cl 47 y t := by
  have hA := ht.ge2 (by decide)
  obtain ⟨t1, t2⟩ := ht
  obtain ⟨y1, y2⟩ := hy
  have p : (2 : Nat) ^ 49 = 4 * 140737488355328 := by decide
  have p2 : (2 : Nat) ^ 47 = 140737488355328 := by decide
  unfold Cl
  rw [p] at t1 t2 y1 y2
  rw [p2]
  obtain ⟨Q, hQ⟩ : ∃ Q : Nat, 140737488355328 = Q := ⟨_, rfl⟩
  rw [hQ] at t1 t2 y1 y2 ⊢
  have k1 : y * y * (4 * Q) ≤ t * t * (4 * Q) + 4 * (t * t) := by omega
  have k2 : t * t * (4 * Q) ≤ y * y * (4 * Q) + 4 * (t * t) := by omega
  have e1 : ∀ z : Nat, z * (4 * Q) = 4 * (z * Q) := fun z => by grind
  rw [e1, e1] at k1 k2
  constructor
  · by_cases h : y ≤ t
    · have := Nat.mul_le_mul_right Q h
      omega
    · obtain ⟨d, rfl⟩ : ∃ d, y = t + d := ⟨y - t, by omega⟩
      have e2 : (t + d) * (t + d) * Q = t * t * Q + 2 * (t * (d * Q)) + d * (d * Q) := by grind
      rw [e2] at k1
      have e3 : t * (d * Q) ≤ t * t := by omega
      have e4 : d * Q ≤ t := Nat.le_of_mul_le_mul_left e3 ht0
      rw [Nat.add_mul]
      omega
  · by_cases h : t ≤ y
    · have := Nat.mul_le_mul_right Q h
      omega
    · obtain ⟨d, rfl⟩ : ∃ d, t = y + d := ⟨t - y, by omega⟩
      have e2 : (y + d) * (y + d) * Q = y * y * Q + 2 * (y * (d * Q)) + d * (d * Q) := by grind
      rw [e2] at k2
      have e3 : (y + d) * (d * Q) = y * (d * Q) + d * (d * Q) := by grind
      have e4 : (y + d) * (d * Q) ≤ (y + d) * (4 * (y + d)) := by
        have : (y + d) * (4 * (y + d)) = 4 * ((y + d) * (y + d)) := by grind
        omega
      have e5 : d * Q ≤ 4 * (y + d) := Nat.le_of_mul_le_mul_left e4 ht0
      rw [Nat.add_mul]
      have e6 : 4 * (y * (d * Q)) + 2 * (d * (d * Q)) + 2 * (d * (d * Q)) ≤ 2 * ((y + d) * (y + d)) + 2 * (d * (d * Q)) := by omega
      have e7 : d * (d * Q) ≤ d * (4 * (y + d)) := Nat.mul_le_mul_left d e5
      have hdq : 4 * d ≤ y + d := by
        have : d * 64 ≤ d * Q := Nat.mul_le_mul_left d (by rw [← hQ]; decide)
        omega
      have e8 : d * (4 * (y + d)) ≤ (y + d) * (y + d) := by
        have : d * (4 * (y + d)) = (4 * d) * (y + d) := by grind
        rw [this]
        exact Nat.mul_le_mul_right _ hdq
      have e9 : (y + d) * (d * Q) ≤ (y + d) * (y + d) := by omega
      have := Nat.le_of_mul_le_mul_left e9 ht0
      omega
end Go.Proofs.Ytngemngnboblkaa
