/- Lists of numbers, each but -1 once: who stands where. -/
import Derived.Test.YtfefjjebjjfkdaaGeomD13
namespace Go.Proofs.Ytfefjjebjjfkdaa

def whoI (A : List Int) (n : Int) : Int := if n ∈ A then (A.idxOf n : Int) else -1
theorem whoI_cases (A : List Int) (n : Int) : (whoI A n = -1 ∧ ∀ p, p < A.length → A.getD p (-1) ≠ n) ∨ ∃ p, p < A.length ∧ whoI A n = (p : Int) ∧ A.getD p (-1) = n := by
  unfold whoI
  by_cases h : n ∈ A
  · right
    have hl := List.idxOf_lt_length_of_mem h
    refine ⟨A.idxOf n, hl, by simp [h], ?_⟩
    rw [List.getD_eq_getElem?_getD, List.getElem?_eq_getElem hl]
    simp
  · left
    refine ⟨by simp [h], fun p hp he => h ?_⟩
    rw [List.getD_eq_getElem?_getD, List.getElem?_eq_getElem hp] at he
    simp at he
    rw [← he]
    exact List.getElem_mem hp
structure InvM (N : Nat) (A W : List Int) : Prop where
  len : W.length = N
  rng : ∀ p, p < A.length → -1 ≤ A.getD p (-1) ∧ A.getD p (-1) < (N : Int)
  inj : ∀ p q, p < A.length → q < A.length → A.getD p (-1) = A.getD q (-1) → 0 ≤ A.getD p (-1) → p = q
  who : ∀ n, n < N → W.getD n (-1) = whoI A (n : Int)
theorem who_at {N : Nat} {A W : List Int} (h : InvM N A W) {p : Nat} (hp : p < A.length) {n : Int} (hn : 0 ≤ n) (he : A.getD p (-1) = n) : whoI A n = (p : Int) := by
  rcases whoI_cases A n with ⟨_, h2⟩ | ⟨q, hq, h2, h3⟩
  · exact absurd he (h2 p hp)
  · rw [h2, h.inj p q hp hq (by rw [he, h3]) (by rw [he]; exact hn)]
theorem who_none {A : List Int} {n : Int} (h : ∀ p, p < A.length → A.getD p (-1) ≠ n) : whoI A n = -1 := by
  rcases whoI_cases A n with ⟨h2, _⟩ | ⟨q, hq, _, h3⟩
  · exact h2
  · exact absurd h3 (h q hq)
theorem getD_set (A : List Int) (p q : Nat) (v d : Int) : (A.set p v).getD q d = if p = q ∧ p < A.length then v else A.getD q d := by
  rw [List.getD_eq_getElem?_getD, List.getD_eq_getElem?_getD, List.getElem?_set]
  by_cases h : p = q
  · subst h
    by_cases h2 : p < A.length
    · simp [h2]
    · simp [h2]
  · simp [h]
theorem InvM.start (N L : Nat) : InvM N (List.replicate L (-1)) (List.replicate N (-1)) := by
  have hd : ∀ (L p : Nat), (List.replicate L (-1 : Int)).getD p (-1) = -1 := by
    intro L p
    rw [List.getD_eq_getElem?_getD, List.getElem?_replicate]
    split <;> rfl
  refine ⟨by simp, fun p _ => by rw [hd]; omega, fun p q _ _ _ h => by rw [hd] at h; omega, fun n _ => ?_⟩
  rw [hd, who_none]
  intro p _
  rw [hd]
  omega
theorem InvM.drop {N : Nat} {A W : List Int} (h : InvM N A W) {p n : Nat} (hp : p < A.length) (hn : n < N) (he : A.getD p (-1) = (n : Int)) : InvM N (A.set p (-1)) (W.set n (-1)) := by
  have hA : ∀ q, (A.set p (-1)).getD q (-1) = if p = q then -1 else A.getD q (-1) := by
    intro q
    rw [getD_set]
    simp [hp]
  refine ⟨by simp [h.len], fun q hq => ?_, fun q r hq hr h1 h2 => ?_, fun m hm => ?_⟩
  · rw [hA]
    split
    · omega
    · exact h.rng q (by simpa using hq)
  · rw [hA] at h1 h2
    rw [hA] at h1
    by_cases hpq : p = q
    · rw [if_pos hpq] at h2
      omega
    · rw [if_neg hpq] at h1 h2
      by_cases hpr : p = r
      · rw [if_pos hpr] at h1
        omega
      · rw [if_neg hpr] at h1
        exact h.inj q r (by simpa using hq) (by simpa using hr) h1 h2
  · rw [getD_set, h.len]
    by_cases hnm : n = m
    · rw [if_pos ⟨hnm, hn⟩, who_none]
      intro q hq
      rw [hA]
      by_cases hpq : p = q
      · rw [if_pos hpq]
        omega
      · rw [if_neg hpq]
        intro hx
        exact hpq (h.inj p q hp (by simpa using hq) (by rw [he, hx, hnm]) (by omega))
    · rw [if_neg (fun hx => hnm hx.1), h.who m hm]
      rcases whoI_cases A m with ⟨h2, h3⟩ | ⟨q, hq, h2, h3⟩
      · rw [h2, who_none]
        intro q hq
        rw [hA]
        split
        · omega
        · exact h3 q (by simpa using hq)
      · have hpq : p ≠ q := by
          intro hx
          rw [hx, h3] at he
          omega
        rw [h2]
        rcases whoI_cases (A.set p (-1)) m with ⟨_, h5⟩ | ⟨r, hr, h4, h5⟩
        · exact absurd (by rw [hA, if_neg hpq]; exact h3) (h5 q (by simpa using hq))
        · rw [h4]
          rw [hA] at h5
          by_cases hpr : p = r
          · rw [if_pos hpr] at h5
            omega
          · rw [if_neg hpr] at h5
            rw [h.inj q r hq (by simpa using hr) (by rw [h3, h5]) (by omega)]
theorem InvM.put {N : Nat} {A W : List Int} (h : InvM N A W) {p n : Nat} (hp : p < A.length) (hn : n < N) (he : A.getD p (-1) = -1) (hw : whoI A (n : Int) = -1) : InvM N (A.set p (n : Int)) (W.set n (p : Int)) := by
  have hA : ∀ q, (A.set p (n : Int)).getD q (-1) = if p = q then (n : Int) else A.getD q (-1) := by
    intro q
    rw [getD_set]
    simp [hp]
  have hno : ∀ q, q < A.length → A.getD q (-1) ≠ (n : Int) := by
    rcases whoI_cases A n with ⟨_, h3⟩ | ⟨q, hq, h2, _⟩
    · exact h3
    · omega
  have hinj : ∀ q r, q < A.length → r < A.length → (A.set p (n : Int)).getD q (-1) = (A.set p (n : Int)).getD r (-1) → 0 ≤ (A.set p (n : Int)).getD q (-1) → q = r := by
    intro q r hq hr h1 h2
    rw [hA, hA] at h1
    rw [hA] at h2
    by_cases hpq : p = q
    · by_cases hpr : p = r
      · omega
      · rw [if_pos hpq, if_neg hpr] at h1
        exact absurd h1.symm (hno r hr)
    · by_cases hpr : p = r
      · rw [if_neg hpq, if_pos hpr] at h1
        exact absurd h1 (hno q hq)
      · rw [if_neg hpq, if_neg hpr] at h1
        rw [if_neg hpq] at h2
        exact h.inj q r hq hr h1 h2
  refine ⟨by simp [h.len], fun q hq => ?_, fun q r hq hr => hinj q r (by simpa using hq) (by simpa using hr), fun m hm => ?_⟩
  · rw [hA]
    split
    · omega
    · exact h.rng q (by simpa using hq)
  · rw [getD_set, h.len]
    have hx : ∀ q, q < A.length → (A.set p (n : Int)).getD q (-1) = (m : Int) → whoI (A.set p (n : Int)) (m : Int) = (q : Int) := by
      intro q hq hqm
      rcases whoI_cases (A.set p (n : Int)) m with ⟨_, h5⟩ | ⟨r, hr, h4, h5⟩
      · exact absurd hqm (h5 q (by simpa using hq))
      · rw [h4, hinj q r hq (by simpa using hr) (by rw [hqm, h5]) (by omega)]
    by_cases hnm : n = m
    · rw [if_pos ⟨hnm, hn⟩, hx p hp (by rw [hA, if_pos rfl, hnm])]
    · rw [if_neg (fun hx => hnm hx.1), h.who m hm]
      rcases whoI_cases A m with ⟨h2, h3⟩ | ⟨q, hq, h2, h3⟩
      · rw [h2, who_none]
        intro q hq
        rw [hA]
        split
        · omega
        · exact h3 q (by simpa using hq)
      · have hpq : p ≠ q := by
          intro hx
          rw [hx, h3] at he
          omega
        rw [h2, hx q hq (by rw [hA, if_neg hpq]; exact h3)]
theorem set_set (A : List Int) (p : Nat) (u v : Int) : (A.set p u).set p v = A.set p v := by simp
def hasB (A : List Int) (p : Int) : Bool := decide (0 ≤ p) && decide (p < (A.length : Int)) && decide (A.getD p.toNat (-1) ≠ -1)
def dropL (A : List Int) (p : Int) : List Int := if hasB A p then A.set p.toNat (-1) else A
def putB (a b : Int) (A : List Int) (p x y : Int) : Bool := decide (0 ≤ p) && decide (p < (A.length : Int)) && thereB a b x y && (decide (whoI A (x * b + y) = -1) || decide (whoI A (x * b + y) = p))
def putL (a b : Int) (A : List Int) (p x y : Int) : List Int := if putB a b A p x y then A.set p.toNat (x * b + y) else A
theorem dropL_len (A : List Int) (p : Int) : (dropL A p).length = A.length := by
  unfold dropL
  split <;> simp
theorem putL_len (a b : Int) (A : List Int) (p x y : Int) : (putL a b A p x y).length = A.length := by
  unfold putL
  split <;> simp
theorem num_bd {a b x y : Int} (h : thereB a b x y = true) (hb : 0 ≤ b) : 0 ≤ x * b + y ∧ x * b + y < a * b := by
  obtain ⟨h1, h2, h3, h4⟩ := there_bd h
  refine ⟨by have := Int.mul_nonneg h1 hb; omega, ?_⟩
  have h5 : x * b ≤ (a - 1) * b := Int.mul_le_mul_of_nonneg_right h2 hb
  rw [Int.sub_mul] at h5
  omega
end Go.Proofs.Ytfefjjebjjfkdaa
