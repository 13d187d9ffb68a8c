/- Wear, plainly: what one erase more does, and as many of all. No program in sight. -/
import Derived.Test.YtlabkkmpllccoaaWearS
namespace Go.Proofs.Ytlabkkmpllccoaa
set_option linter.unusedSimpArgs false

/-- The one that is told counts, and no other that counts is worn less (times s). -/
theorem ext_best (ws : List Int) (good : List Bool) (s : Int) : ∀ k, ¬ ext ws good s k < 0 →
    good.getD (ext ws good s k).toNat false = true ∧ ∀ x, x < k → good.getD x false = true → s * ws.getD (ext ws good s k).toNat 0 ≤ s * ws.getD x 0
  | 0, h => by simp [ext] at h
  | k + 1, h => by
    by_cases hc : good.getD k false = true ∧ (ext ws good s k < 0 ∨ s * ws.getD k 0 < s * ws.getD (ext ws good s k).toNat 0)
    · have e : ext ws good s (k + 1) = (k : Int) := by
        show (if good.getD k false = true ∧ (ext ws good s k < 0 ∨ s * ws.getD k 0 < s * ws.getD (ext ws good s k).toNat 0) then (k : Int) else ext ws good s k) = _
        rw [if_pos hc]
      rw [e]
      simp only [Int.toNat_natCast]
      refine ⟨hc.1, fun x hx hg => ?_⟩
      rcases Nat.lt_or_ge x k with hx' | hx'
      · rcases hc.2 with hn | hl
        · have h0 := (ext_neg ws good s k).1 hn
          exact absurd h0 (cnt_pos hx' hg)
        · by_cases hneg : ext ws good s k < 0
          · exact absurd ((ext_neg ws good s k).1 hneg) (cnt_pos hx' hg)
          · have := (ext_best ws good s k hneg).2 x hx' hg
            omega
      · have : x = k := by omega
        subst this
        exact Int.le_refl _
    · have e : ext ws good s (k + 1) = ext ws good s k := by
        show (if good.getD k false = true ∧ (ext ws good s k < 0 ∨ s * ws.getD k 0 < s * ws.getD (ext ws good s k).toNat 0) then (k : Int) else ext ws good s k) = _
        rw [if_neg hc]
      rw [e] at h ⊢
      obtain ⟨h1, h2⟩ := ext_best ws good s k h
      refine ⟨h1, fun x hx hg => ?_⟩
      rcases Nat.lt_or_ge x k with hx' | hx'
      · exact h2 x hx' hg
      · have : x = k := by omega
        subst this
        rw [not_and, not_or] at hc
        have := (hc hg).2
        omega
where
  cnt_pos {good : List Bool} : ∀ {k x : Nat}, x < k → good.getD x false = true → cnt good k ≠ 0
    | k + 1, x, hx, hg => by
      unfold cnt
      rcases Nat.lt_or_ge x k with hx' | hx'
      · have := cnt_pos hx' hg
        omega
      · have : x = k := by omega
        subst this
        rw [if_pos hg]
        omega

/-- Wears that are held against each other alike make the same choice. -/
theorem ext_congr {ws ys : List Int} {good : List Bool} {s t : Int} : ∀ (k : Nat), (∀ x y, x < k → y < k → good.getD x false = true → good.getD y false = true → (s * ws.getD x 0 < s * ws.getD y 0 ↔ t * ys.getD x 0 < t * ys.getD y 0)) →
    ext ws good s k = ext ys good t k
  | 0, _ => rfl
  | k + 1, h => by
    have ih := ext_congr (s := s) (t := t) (ws := ws) (ys := ys) (good := good) k (fun x y hx hy => h x y (by omega) (by omega))
    show (if good.getD k false = true ∧ (ext ws good s k < 0 ∨ s * ws.getD k 0 < s * ws.getD (ext ws good s k).toNat 0) then (k : Int) else ext ws good s k) = (if good.getD k false = true ∧ (ext ys good t k < 0 ∨ t * ys.getD k 0 < t * ys.getD (ext ys good t k).toNat 0) then (k : Int) else ext ys good t k)
    rw [← ih]
    by_cases hg : good.getD k false = true
    · by_cases hn : ext ws good s k < 0
      · simp only [hg, hn, true_or, and_self, if_true]
      · obtain ⟨hgood, _⟩ := ext_best ws good s k hn
        have hb := ext_bd ws good s k
        have hlt : (ext ws good s k).toNat < k := by omega
        have := h k (ext ws good s k).toNat (by omega) (by omega) hg hgood
        simp only [hg, hn, false_or, true_and, this]
    · simp only [hg, Bool.false_eq_true, false_and, if_false]

theorem spread_of {ws : List Int} {good : List Bool} (h : ¬ ext ws good 1 (mlen ws good) < 0) :
    (∀ x y, x < mlen ws good → y < mlen ws good → good.getD x false = true → good.getD y false = true → ws.getD x 0 - ws.getD y 0 ≤ spreadI ws good) ∧
    ∃ x y, x < mlen ws good ∧ y < mlen ws good ∧ good.getD x false = true ∧ good.getD y false = true ∧ spreadI ws good = ws.getD x 0 - ws.getD y 0 := by
  have h2 : ¬ ext ws good (-1) (mlen ws good) < 0 := fun h' => h ((ext_neg ws good 1 _).2 ((ext_neg ws good (-1) _).1 h'))
  obtain ⟨a1, a2⟩ := ext_best ws good 1 _ h
  obtain ⟨b1, b2⟩ := ext_best ws good (-1) _ h2
  have c1 := ext_bd ws good 1 (mlen ws good)
  have c2 := ext_bd ws good (-1) (mlen ws good)
  have e : spreadI ws good = ws.getD (ext ws good (-1) (mlen ws good)).toNat 0 - ws.getD (ext ws good 1 (mlen ws good)).toNat 0 := by
    unfold spreadI
    rw [if_neg h]
  refine ⟨fun x y hx hy gx gy => ?_, _, _, by omega, by omega, b1, a1, e⟩
  have d1 := a2 y hy gy
  have d2 := b2 x hx gx
  rw [e]
  omega

theorem getD_set (ws : List Int) (i x : Nat) (v : Int) (hx : x < ws.length) : (ws.set i v).getD x 0 = if i = x then v else ws.getD x 0 := by
  by_cases h : i = x
  · subst h
    simp [hx]
  · rw [if_neg h]
    simp [h]

theorem mlen_set (ws : List Int) (good : List Bool) (i : Nat) (v : Int) : mlen (ws.set i v) good = mlen ws good := by simp [mlen]

theorem ext_set_neg (ws ys : List Int) (good : List Bool) (s t : Int) (k : Nat) : ext ws good s k < 0 ↔ ext ys good t k < 0 := by
  rw [ext_neg, ext_neg]

theorem erase_least {ws : List Int} {good : List Bool} {i : Nat} (hi : ext ws good 1 (mlen ws good) = (i : Int)) :
    spreadI (ws.set i (ws.getD i 0 + 1)) good ≤ max (spreadI ws good) 1 := by
  have h : ¬ ext ws good 1 (mlen ws good) < 0 := by omega
  have hm : mlen ws good ≤ ws.length := by unfold mlen; omega
  obtain ⟨g1, b1⟩ := ext_best ws good 1 _ h
  rw [hi] at g1 b1
  simp only [Int.toNat_natCast] at g1 b1
  have hb := ext_bd ws good 1 (mlen ws good)
  obtain ⟨p1, _⟩ := spread_of h
  have h' : ¬ ext (ws.set i (ws.getD i 0 + 1)) good 1 (mlen (ws.set i (ws.getD i 0 + 1)) good) < 0 := by
    rw [mlen_set, ← ext_set_neg ws _ good 1 1]
    exact h
  obtain ⟨_, x, y, hx, hy, gx, gy, e⟩ := spread_of h'
  rw [mlen_set] at hx hy
  rw [e, getD_set _ _ _ _ (by omega), getD_set _ _ _ _ (by omega)]
  have q := p1 x y hx hy gx gy
  have bx := b1 x hx gx
  have by_ := b1 y hy gy
  by_cases hix : i = x <;> by_cases hiy : i = y <;> simp only [hix, hiy, if_true, if_false] <;> first | omega | (subst hix; omega) | (subst hiy; omega) | (subst hix; subst hiy; omega)

theorem cnt_two {good : List Bool} (i : Nat) : ∀ {m : Nat}, 2 ≤ cnt good m → ∃ q, q < m ∧ good.getD q false = true ∧ q ≠ i
  | 0, h => by simp [cnt] at h
  | m + 1, h => by
    unfold cnt at h
    by_cases hg : good.getD m false = true
    · by_cases hi : m = i
      · have h1 : cnt good m ≠ 0 := by rw [if_pos hg] at h; omega
        obtain ⟨q, hq, hgq⟩ := cnt_one h1
        exact ⟨q, by omega, hgq, by omega⟩
      · exact ⟨m, by omega, hg, hi⟩
    · rw [if_neg hg] at h
      obtain ⟨q, hq, hgq, hne⟩ := cnt_two i (m := m) (by omega)
      exact ⟨q, by omega, hgq, hne⟩
where
  cnt_one : ∀ {m : Nat}, cnt good m ≠ 0 → ∃ q, q < m ∧ good.getD q false = true
    | 0, h => by simp [cnt] at h
    | m + 1, h => by
      unfold cnt at h
      by_cases hg : good.getD m false = true
      · exact ⟨m, by omega, hg⟩
      · rw [if_neg hg] at h
        obtain ⟨q, hq, hgq⟩ := cnt_one (m := m) (by omega)
        exact ⟨q, by omega, hgq⟩

theorem erase_most {ws : List Int} {good : List Bool} {j : Nat} (hj : ext ws good (-1) (mlen ws good) = (j : Int)) (h2 : 2 ≤ cnt good (mlen ws good)) :
    spreadI (ws.set j (ws.getD j 0 + 1)) good = spreadI ws good + 1 := by
  have hm : mlen ws good ≤ ws.length := by unfold mlen; omega
  have hn : ¬ ext ws good (-1) (mlen ws good) < 0 := by omega
  have h : ¬ ext ws good 1 (mlen ws good) < 0 := fun h' => hn ((ext_set_neg ws ws good 1 (-1) _).1 h')
  obtain ⟨g1, b1⟩ := ext_best ws good (-1) _ hn
  rw [hj] at g1 b1
  simp only [Int.toNat_natCast] at g1 b1
  have hb := ext_bd ws good (-1) (mlen ws good)
  obtain ⟨p1, u, v, hu, hv, gu, gv, ew⟩ := spread_of h
  have h' : ¬ ext (ws.set j (ws.getD j 0 + 1)) good 1 (mlen (ws.set j (ws.getD j 0 + 1)) good) < 0 := by
    rw [mlen_set, ← ext_set_neg ws _ good 1 1]
    exact h
  obtain ⟨p2, x, y, hx, hy, gx, gy, e⟩ := spread_of h'
  rw [mlen_set] at hx hy p2
  have q := p1 x y hx hy gx gy
  have bx := b1 x hx gx
  have bu := b1 u hu gu
  -- not more
  have up : spreadI (ws.set j (ws.getD j 0 + 1)) good ≤ spreadI ws good + 1 := by
    rw [e, getD_set _ _ _ _ (by omega), getD_set _ _ _ _ (by omega)]
    have qj := p1 j y (by omega) hy g1 gy
    have qx := p1 x j hx (by omega) gx g1
    by_cases hjx : j = x <;> by_cases hjy : j = y <;> simp only [hjx, hjy, if_true, if_false, ite_true, ite_false] <;> first | omega | (subst hjx; omega) | (subst hjy; omega) | (subst hjx; subst hjy; omega)
  -- not less
  have lo : spreadI ws good + 1 ≤ spreadI (ws.set j (ws.getD j 0 + 1)) good := by
    by_cases hvj : v = j
    · obtain ⟨z, hz, gz, hne⟩ := cnt_two j h2
      have r := p2 j z (by omega) hz g1 gz
      rw [getD_set _ _ _ _ (by omega), getD_set _ _ _ _ (by omega), if_pos rfl, if_neg (Ne.symm hne)] at r
      have bz := b1 z hz gz
      have qz := p1 z v hz hv gz gv
      subst hvj
      omega
    · have r := p2 j v (by omega) hv g1 gv
      rw [getD_set _ _ _ _ (by omega), getD_set _ _ _ _ (by omega), if_pos rfl, if_neg (Ne.symm hvj)] at r
      omega
  omega
end Go.Proofs.Ytlabkkmpllccoaa
