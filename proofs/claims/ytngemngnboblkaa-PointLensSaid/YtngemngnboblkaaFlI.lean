/- Floats of 64 bits: a root's square is near the number. -/
import Derived.Test.YtngemngnboblkaaFlF
namespace Go.Proofs.Ytngemngnboblkaa
open Ieee

theorem sub_PV {a b S x y : Nat} (ha : PV a S x) (hb : PV b S y) (hS : S ≤ 800) (hx : x < 2 ^ (S + 200)) (hy : y < 2 ^ (S + 200)) : ∃ r, DB.sub a b = some r ∧ ((x = y ∧ r = 0) ∨ (x ≠ y ∧ ∃ (m : Nat) (i : Int), DB.read r = .number (decide (x < y)) m i ∧ 0 < m ∧ 52 ≤ i + ((S + 52 : Nat) : Int) ∧ Cl 53 (m * 2 ^ (i + ((S + 52 : Nat) : Int)).toNat) ((x - y + (y - x)) * 2 ^ 52))) := by
  obtain ⟨m, i, h1, h2, h3, rfl⟩ := ha
  obtain ⟨n, j, k1, k2, k3, rfl⟩ := hb
  obtain ⟨B, hB⟩ : ∃ B : Int, B = min i j := ⟨_, rfl⟩
  obtain ⟨K, hK⟩ : ∃ K : Nat, (K : Int) = B + S := ⟨(B + S).toNat, by omega⟩
  obtain ⟨u, hu⟩ : ∃ u : Nat, (u : Int) = i - B := ⟨(i - B).toNat, by omega⟩
  obtain ⟨v, hv⟩ : ∃ v : Nat, (v : Int) = j - B := ⟨(j - B).toNat, by omega⟩
  have ex : m * 2 ^ (i + S).toNat = m * 2 ^ u * 2 ^ K := by
    rw [Nat.mul_assoc, ← Nat.pow_add]
    congr 2
    omega
  have ey : n * 2 ^ (j + S).toNat = n * 2 ^ v * 2 ^ K := by
    rw [Nat.mul_assoc, ← Nat.pow_add]
    congr 2
    omega
  rw [ex] at hx ⊢
  rw [ey] at hy ⊢
  obtain ⟨X, hX⟩ : ∃ X, m * 2 ^ u = X := ⟨_, rfl⟩
  obtain ⟨Y, hY⟩ : ∃ Y, n * 2 ^ v = Y := ⟨_, rfl⟩
  rw [hX] at hx ⊢
  rw [hY] at hy ⊢
  have hKp : 0 < 2 ^ K := Nat.two_pow_pos K
  have hsum : (DB.read a).sum (DB.read b).opposite = some (.number (if ((X : Int) - (Y : Int)) = 0 then false else decide ((X : Int) - (Y : Int) < 0)) ((X : Int) - (Y : Int)).natAbs B) := by
    rw [h1, k1]
    have e1 : (i - B).toNat = u := by omega
    have e2 : (j - B).toNat = v := by omega
    simp only [Datum.opposite, Datum.sum, ← hB, e1, e2, signed, Bool.not_false, Bool.false_eq_true, if_false, if_true, Nat.shiftLeft_eq, hX, hY, Bool.false_and]
    rw [show (X : Int) + -(Y : Int) = (X : Int) - (Y : Int) by omega]
  have hr : DB.sub a b = some (DB.nearest (if ((X : Int) - (Y : Int)) = 0 then false else decide ((X : Int) - (Y : Int) < 0)) ((X : Int) - (Y : Int)).natAbs B) := by
    unfold Format.sub
    rw [hsum]
    rfl
  refine ⟨_, hr, ?_⟩
  by_cases he : X = Y
  · left
    subst he
    refine ⟨rfl, ?_⟩
    rw [Int.sub_self, if_pos rfl, Int.natAbs_zero]
    unfold Format.nearest
    rw [if_pos rfl]
    rfl
  · right
    have hne : X * 2 ^ K ≠ Y * 2 ^ K := fun q => he (Nat.eq_of_mul_eq_mul_right hKp q)
    refine ⟨hne, ?_⟩
    have hab : ((X : Int) - (Y : Int)).natAbs = X - Y + (Y - X) := by omega
    have hM : 0 < X - Y + (Y - X) := by omega
    have hd : (X - Y + (Y - X)) * 2 ^ K = X * 2 ^ K - Y * 2 ^ K + (Y * 2 ^ K - X * 2 ^ K) := by
      rw [Nat.add_mul, Nat.sub_mul, Nat.sub_mul]
    have hlt : (X - Y + (Y - X)) * 2 ^ K < 2 ^ (S + 200) := by rw [hd]; omega
    have hl := log_bound hM hlt
    have hsg : (if ((X : Int) - (Y : Int)) = 0 then false else decide ((X : Int) - (Y : Int) < 0)) = decide (X * 2 ^ K < Y * 2 ^ K) := by
      rw [if_neg (by omega)]
      by_cases hlt' : X < Y
      · rw [decide_eq_true (by omega), decide_eq_true (Nat.mul_lt_mul_of_pos_right hlt' hKp)]
      · rw [decide_eq_false (by omega), decide_eq_false (by have := Nat.mul_le_mul_right (2 ^ K) (by omega : Y ≤ X); omega)]
    rw [hsg, hab, ← hd]
    obtain ⟨m', i', q1, q2, q3, q4⟩ := near_any (decide (X * 2 ^ K < Y * 2 ^ K)) hM B (S := S + 52) (by omega) (by omega) (by omega)
    refine ⟨m', i', q1, q2, q3, ?_⟩
    rw [Nat.mul_assoc, ← Nat.pow_add, show K + 52 = (B + ((S + 52 : Nat) : Int)).toNat by omega]
    exact q4
theorem cmp_lt_of {x y : Int} (h : x < y) : compare x y = Ordering.lt := by
  show compareOfLessAndEq x y = _
  unfold compareOfLessAndEq
  rw [if_pos h]
theorem cmp_gt_of {x y : Int} (h : y < x) : compare x y = Ordering.gt := by
  show compareOfLessAndEq x y = _
  unfold compareOfLessAndEq
  rw [if_neg (by omega), if_neg (by omega)]
theorem signed_up (s : Bool) (m u k : Nat) : signed s m u * 2 ^ k = signed s m (u + k) := by
  unfold signed
  rw [Nat.shiftLeft_eq, Nat.shiftLeft_eq, Nat.pow_add, ← Nat.mul_assoc]
  cases s <;> (simp only [if_true, if_false, Bool.false_eq_true]; push_cast; grind)
theorem ord_scaled {r c S : Nat} {s t : Bool} {m n : Nat} {i j : Int} (hr : DB.read r = .number s m i) (hc : DB.read c = .number t n j) (hi : 0 ≤ i + S) (hj : 0 ≤ j + S) : DB.order r c = some (compare (signed s m (i + S).toNat) (signed t n (j + S).toNat)) := by
  unfold Format.order
  rw [hr, hc]
  obtain ⟨B, hB⟩ : ∃ B : Int, B = min i j := ⟨_, rfl⟩
  obtain ⟨K, hK⟩ : ∃ K : Nat, (K : Int) = B + S := ⟨(B + S).toNat, by omega⟩
  simp only [Datum.order, ← hB]
  rw [← cmp_scale _ _ K, signed_up, signed_up, show (i - B).toNat + K = (i + S).toNat by omega, show (j - B).toNat + K = (j + S).toNat by omega]
theorem signed_f (m u : Nat) : signed false m u = ((m * 2 ^ u : Nat) : Int) := by
  unfold signed
  rw [Nat.shiftLeft_eq]
  simp
theorem signed_t (m u : Nat) : signed true m u = -((m * 2 ^ u : Nat) : Int) := by
  unfold signed
  rw [Nat.shiftLeft_eq]
  simp
/-- What a small difference is, against a hundredth and against minus one. -/
theorem cent : DB.read 4576918229304087675 = .number false 5764607523034235 (-59) ∧ DB.read 13800290266158863483 = .number true 5764607523034235 (-59) := by decide +kernel
theorem cent0 : DB.order 0 4576918229304087675 = some .lt ∧ DB.order 0 13800290266158863483 = some .gt := by decide +kernel
theorem small_dif {a b T x y : Nat} (ha : PV a (T + 7) x) (hb : PV b (T + 7) y) (hT : T ≤ 700) (hT0 : 100 ≤ T) (hx : x < 2 ^ (T + 7 + 200)) (hy : y < 2 ^ (T + 7 + 200)) (hd : (x - y + (y - x)) * 2 ^ 20 ≤ 2 ^ T) :
    ∃ r, DB.sub a b = some r ∧ DB.order r 4576918229304087675 = some .lt ∧ DB.order r 13800290266158863483 = some .gt := by
  obtain ⟨r, h, hr⟩ := sub_PV ha hb (by omega) hx hy
  refine ⟨r, h, ?_⟩
  rcases hr with ⟨-, rfl⟩ | ⟨hne, m, i, hr, hm, hi, hcl⟩
  · exact cent0
  · have hv := hcl.le2
    obtain ⟨D, hD⟩ : ∃ D, x - y + (y - x) = D := ⟨_, rfl⟩
    rw [hD] at hd hv
    obtain ⟨V, hV⟩ : ∃ V, m * 2 ^ (i + ((T + 7 + 52 : Nat) : Int)).toNat = V := ⟨_, rfl⟩
    rw [hV] at hv
    have hC : V < 5764607523034235 * 2 ^ T := by
      have e : D * 2 ^ 20 = D * 1048576 := rfl
      have e2 : 2 * (D * 2 ^ 52) = 9007199254740992 * D := by omega
      rw [e] at hd
      obtain ⟨U, hU⟩ : ∃ U, 2 ^ T = U := ⟨_, rfl⟩
      have hUp : 0 < U := by rw [← hU]; exact Nat.two_pow_pos T
      rw [hU] at hd ⊢
      omega
    have hVp : 0 < V := by rw [← hV]; exact Nat.mul_pos hm (Nat.two_pow_pos _)
    have hte : ((-59 : Int) + ((T + 7 + 52 : Nat) : Int)).toNat = T := by omega
    have o1 := ord_scaled (S := T + 7 + 52) hr cent.1 (by omega) (by omega)
    have o2 := ord_scaled (S := T + 7 + 52) hr cent.2 (by omega) (by omega)
    rw [hte, signed_f] at o1
    rw [hte, signed_t] at o2
    rw [o1, o2]
    cases decide (x < y)
    · rw [signed_f, hV]
      exact ⟨by rw [cmp_lt_of (by omega)], by rw [cmp_gt_of (by omega)]⟩
    · rw [signed_t, hV]
      exact ⟨by rw [cmp_lt_of (by omega)], by rw [cmp_gt_of (by omega)]⟩
theorem sq0 : DB.mul (SQ 0) (SQ 0) = some 0 ∧ DB.sub 0 (F 0) = some 0 ∧ DB.sub (F 0) 0 = some 0 := by decide +kernel
/-- A root's square, against its number. -/
theorem near_sq (n : Nat) (hb : n ≤ 100000) : ∃ X, DB.mul (SQ (n : Int)) (SQ (n : Int)) = some X ∧
    (∃ r, DB.sub X (F (n : Int)) = some r ∧ DB.order r 4576918229304087675 = some .lt ∧ DB.order r 13800290266158863483 = some .gt) ∧
    (∃ r, DB.sub (F (n : Int)) X = some r ∧ DB.order r 4576918229304087675 = some .lt ∧ DB.order r 13800290266158863483 = some .gt) := by
  by_cases h0 : n = 0
  · subst h0
    exact ⟨0, sq0.1, ⟨0, sq0.2.1, cent0⟩, ⟨0, sq0.2.2, cent0⟩⟩
  obtain ⟨S, hS⟩ : ∃ S : Nat, S = 200 := ⟨_, rfl⟩
  have hn0 : 0 < n := by omega
  obtain ⟨s, hp, hc⟩ := sqrt_PV hn0 (by omega : n < 2 ^ 40) (S := S) (by omega) (by omega)
  obtain ⟨U, hU⟩ : ∃ U, 2 ^ (2 * S) = U := ⟨_, rfl⟩
  have hUp : 0 < U := by rw [← hU]; exact Nat.two_pow_pos _
  have hnU : n * U ≤ 100000 * U := Nat.mul_le_mul_right U hb
  have hbig : ∀ z, z ≤ 800000 * U → z < 2 ^ (2 * S + 200) := by
    intro z hz
    rw [Nat.pow_add, hU]
    have : 800000 * U < U * 2 ^ 200 := by
      have h1 : 800000 < 2 ^ 200 := by decide
      have := Nat.mul_lt_mul_of_pos_left h1 hUp
      omega
    omega
  rw [hU] at hc
  have hss := hc.le2
  obtain ⟨X, R, hX, hPX, hcX⟩ := mul_PV hp hp (by omega) (hbig _ (by omega))
  have hR := hcX.le2
  have hcl : Cl 47 R (n * U) := (cl_mono hcX (by omega : 47 + 2 ≤ 53)).tr hc
  have hPN : PV (F (n : Int)) (2 * S) (n * U) := by
    have := PV.int hn0 (by omega) (S := 2 * S) (by omega)
    rwa [hU] at this
  refine ⟨X, hX, ?_⟩
  obtain ⟨T, hT⟩ : ∃ T, 2 * S = T + 7 := ⟨2 * S - 7, by omega⟩
  have hUT : U = 128 * 2 ^ T := by
    rw [← hU, hT, Nat.pow_add]
    omega
  have hd : ∀ A B : Nat, A * 2 ^ 47 ≤ B * 2 ^ 47 + n * U → (A - B) * 140737488355328 ≤ n * U := by
    intro A B h
    have e : (2 : Nat) ^ 47 = 140737488355328 := by decide
    rw [e] at h
    rw [Nat.sub_mul]
    omega
  have d1 := hd _ _ hcl.1
  have d2 := hd _ _ hcl.2
  have hdd : (R - n * U + (n * U - R)) * 2 ^ 20 ≤ 2 ^ T := by
    have e : (R - n * U + (n * U - R)) * 2 ^ 20 = (R - n * U) * 1048576 + (n * U - R) * 1048576 := by
      rw [Nat.add_mul]
    rw [e]
    obtain ⟨D1, hD1⟩ : ∃ D, R - n * U = D := ⟨_, rfl⟩
    obtain ⟨D2, hD2⟩ : ∃ D, n * U - R = D := ⟨_, rfl⟩
    have hz : D1 = 0 ∨ D2 = 0 := by omega
    rw [hD1] at d1 ⊢
    rw [hD2] at d2 ⊢
    obtain ⟨W, hW⟩ : ∃ W, 2 ^ T = W := ⟨_, rfl⟩
    rw [hW] at hUT ⊢
    have key : ∀ D : Nat, D * 140737488355328 ≤ n * U → D * 1048576 ≤ W := by
      intro D h
      have e1 : D * 1048576 * 134217728 = D * 140737488355328 := by rw [Nat.mul_assoc]
      have e2 : 100000 * U ≤ W * 134217728 := by rw [hUT]; omega
      have e3 : D * 1048576 * 134217728 ≤ W * 134217728 := by
        rw [e1]
        exact Nat.le_trans h (Nat.le_trans hnU e2)
      exact Nat.le_of_mul_le_mul_right e3 (by decide)
    have k1 := key D1 d1
    have k2 := key D2 d2
    clear d1 d2 key hD1 hD2 hcl hd hR hss hbig hnU
    rcases hz with rfl | rfl
    · rw [Nat.zero_mul, Nat.zero_add]
      exact k2
    · rw [Nat.zero_mul, Nat.add_zero]
      exact k1
  have hdd2 : (n * U - R + (R - n * U)) * 2 ^ 20 ≤ 2 ^ T := by
    rw [Nat.add_comm]
    exact hdd
  have b1 := hbig R (by omega)
  have b2 := hbig (n * U) (by omega)
  rw [hT] at hPX hPN b1 b2
  exact ⟨small_dif hPX hPN (by omega) (by omega) b1 b2 hdd, small_dif hPN hPX (by omega) (by omega) b2 b1 hdd2⟩
end Go.Proofs.Ytngemngnboblkaa
