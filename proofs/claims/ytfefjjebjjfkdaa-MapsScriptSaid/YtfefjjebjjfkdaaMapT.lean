/- As many pages stand somewhere as places are taken. -/
import Derived.Test.YtfefjjebjjfkdaaMapE
namespace Go.Proofs.Ytfefjjebjjfkdaa
open Go.ChangeShapes Go.WideShapes Go.ChangeAt Go.RowKit
set_option linter.unusedSimpArgs false
set_option linter.unusedVariables false

theorem countP_eq_range (k : Nat) : ∀ N, k < N → (List.range N).countP (fun n => decide (n = k)) = 1
  | 0, h => absurd h (by omega)
  | N + 1, h => by
    rw [List.range_succ, List.countP_append]
    by_cases hk : k < N
    · rw [countP_eq_range k N hk]
      simp
      omega
    · have hkN : k = N := by omega
      subst hkN
      have : (List.range k).countP (fun n => decide (n = k)) = 0 := by
        rw [List.countP_eq_zero]
        intro n hn
        have := List.mem_range.1 hn
        simp
        omega
      rw [this]
      simp
theorem countP_or {α : Type} (p q : α → Bool) (h : ∀ x, p x = true → q x = false) : ∀ l : List α, l.countP (fun x => p x || q x) = l.countP p + l.countP q
  | [] => rfl
  | x :: l => by
    rw [List.countP_cons, List.countP_cons, List.countP_cons, countP_or p q h l]
    have := h x
    cases hp : p x <;> cases hq : q x <;> simp_all <;> (try omega)
theorem count_in (N : Nat) : ∀ A : List Int, (∀ z ∈ A, -1 ≤ z ∧ z < (N : Int)) → A.Pairwise (fun x y => x = y → x < 0) → (List.range N).countP (fun n : Nat => decide ((n : Int) ∈ A)) = A.countP (fun z => decide (z ≠ -1))
  | [], _, _ => by simp
  | z :: A, hr, hp => by
    have ih := count_in N A (fun y hy => hr y (List.mem_cons_of_mem _ hy)) (List.pairwise_cons.1 hp).2
    have hz := hr z List.mem_cons_self
    rw [List.countP_cons, ← ih]
    by_cases h1 : z = -1
    · subst h1
      have : (fun n : Nat => decide ((n : Int) ∈ (-1 : Int) :: A)) = fun n : Nat => decide ((n : Int) ∈ A) := by
        funext n
        have : ¬ (n : Int) = -1 := by omega
        simp [this]
      rw [this]
      simp
    · obtain ⟨k, rfl⟩ : ∃ k : Nat, z = (k : Int) := ⟨z.toNat, by omega⟩
      have hk : ¬ (k : Int) ∈ A := fun hm => by
        have := (List.pairwise_cons.1 hp).1 _ hm rfl
        omega
      have : (fun n : Nat => decide ((n : Int) ∈ (k : Int) :: A)) = fun n : Nat => decide (n = k) || decide ((n : Int) ∈ A) := by
        funext n
        by_cases hnk : n = k
        · simp [hnk]
        · have : ¬ (n : Int) = (k : Int) := by omega
          simp [hnk, this]
      rw [this, countP_or _ _ (fun n hn => by
        have : n = k := by simpa using hn
        subst this
        simpa using hk), countP_eq_range k N (by omega)]
      rw [if_pos (by simp)]
      omega
theorem count_blocks (f : Nat → Bool) (b : Nat) : ∀ a, (List.range (a * b)).countP f = ((List.range a).map fun x => (List.range b).countP fun y => f (x * b + y)).sum
  | 0 => by simp
  | a + 1 => by
    rw [List.range_succ, List.map_append, List.sum_append, ← count_blocks f b a, Nat.succ_mul, List.range_add, List.countP_append, List.countP_map]
    simp [Function.comp_def]
def liveS (a b : Int) (A : List Int) (j : Nat) : Nat := ((List.range j).map fun (x : Nat) => liveF a b A (x : Int) b.toNat).sum
theorem liveS_succ (a b : Int) (A : List Int) (j : Nat) : liveS a b A (j + 1) = liveS a b A j + liveF a b A (j : Int) b.toNat := by
  simp [liveS, List.range_succ]
theorem liveF_out {a b : Int} (A : List Int) {x : Int} (h : x < 0 ∨ a ≤ x) (j : Nat) : liveF a b A x j = 0 := by
  unfold liveF
  rw [List.countP_eq_zero]
  intro i _
  have : thereB a b x (i : Int) = false := by
    cases hh : thereB a b x (i : Int)
    · rfl
    · have := there_bd hh
      omega
  simp [whoB, this]
theorem whoI_in (A : List Int) (n : Nat) : decide (whoI A (n : Int) ≠ -1) = decide ((n : Int) ∈ A) := by
  by_cases h : (n : Int) ∈ A
  · have : whoI A (n : Int) ≠ -1 := by
      unfold whoI
      rw [if_pos h]
      omega
    simp [h, this]
  · have : whoI A (n : Int) = -1 := by
      unfold whoI
      rw [if_neg h]
    simp [h, this]
theorem mem_getD {A : List Int} {z : Int} (h : z ∈ A) : ∃ p, p < A.length ∧ A.getD p (-1) = z := by
  obtain ⟨p, hp, he⟩ := List.getElem_of_mem h
  exact ⟨p, hp, by rw [List.getD_eq_getElem?_getD, List.getElem?_eq_getElem hp]; exact he⟩
theorem getD_at {A : List Int} {p : Nat} (h : p < A.length) : A.getD p (-1) = A[p] := by
  rw [List.getD_eq_getElem?_getD, List.getElem?_eq_getElem h]
  rfl
theorem live_all {a b : Int} {L N : Nat} {A W : List Int} (h : InvM N A W) (hL : A.length = L) (ha : 0 ≤ a) (hb : 0 ≤ b) (hN : (N : Int) = a * b) : liveS a b A a.toNat = (pagesF A L).length := by
  obtain ⟨x, rfl⟩ : ∃ x : Nat, a = (x : Int) := ⟨a.toNat, by omega⟩
  obtain ⟨y, rfl⟩ : ∃ y : Nat, b = (y : Int) := ⟨b.toNat, by omega⟩
  have hN' : N = x * y := by
    have : ((x * y : Nat) : Int) = (N : Int) := by rw [hN]; push_cast; rfl
    omega
  have e1 : (pagesF A L).length = A.countP (fun z => decide (z ≠ -1)) := by
    unfold pagesF
    rw [List.length_map, ← List.countP_eq_length_filter]
    have : A = (List.range L).map (fun p => A.getD p (-1)) := by
      apply List.ext_getElem
      · simp [hL]
      · intro i h1 h2
        simp only [List.getElem_map, List.getElem_range]
        rw [getD_at h1]
    conv => rhs; rw [this]
    rw [List.countP_map]
    rfl
  rw [e1, ← count_in N A ?_ ?_, hN', count_blocks]
  · unfold liveS
    rw [Int.toNat_natCast, Int.toNat_natCast]
    congr 1
    apply List.map_congr_left
    intro k hk
    unfold liveF
    apply List.countP_congr
    intro i hi
    have hk' := List.mem_range.1 hk
    have hi' := List.mem_range.1 hi
    have ht : thereB (x : Int) (y : Int) (k : Int) (i : Int) = true := by
      unfold thereB withinB
      simp
      omega
    have hc : (k : Int) * (y : Int) + (i : Int) = ((k * y + i : Nat) : Int) := by push_cast; rfl
    rw [whoB, ht, hc, whoI_in]
    simp
  · intro z hz
    obtain ⟨p, hp, rfl⟩ := mem_getD hz
    exact h.rng p hp
  · rw [List.pairwise_iff_getElem]
    intro i j hi hj hij he
    have := h.inj i j hi hj (by rw [getD_at hi, getD_at hj]; exact he)
    rw [getD_at hi] at this
    omega
theorem pagesF_sorted (A : List Int) (L : Nat) : (pagesF A L).Pairwise (· < ·) := by
  unfold pagesF
  rw [List.pairwise_map]
  refine List.Pairwise.imp (R := (· < ·)) (fun h => by omega) ?_
  exact List.Pairwise.filter _ List.pairwise_lt_range
theorem pagesF_get {A : List Int} {L i : Nat} (h : i < (pagesF A L).length) : ∃ p : Nat, p < L ∧ (pagesF A L).getD i 0 = (p : Int) ∧ A.getD p (-1) ≠ -1 := by
  have hm : (pagesF A L)[i] ∈ pagesF A L := List.getElem_mem h
  unfold pagesF at hm
  obtain ⟨p, hp, he⟩ := List.mem_map.1 hm
  rw [List.mem_filter] at hp
  refine ⟨p, List.mem_range.1 hp.1, ?_, by simpa using hp.2⟩
  rw [List.getD_eq_getElem?_getD, List.getElem?_eq_getElem h]
  exact he.symm
theorem pagesF_up {A : List Int} {L i : Nat} (h : i + 1 < (pagesF A L).length) : (pagesF A L).getD i 0 < (pagesF A L).getD (i + 1) 0 := by
  have := List.pairwise_iff_getElem.1 (pagesF_sorted A L) i (i + 1) (by omega) h (by omega)
  rw [List.getD_eq_getElem?_getD, List.getD_eq_getElem?_getD, List.getElem?_eq_getElem (by omega), List.getElem?_eq_getElem h]
  exact this
end Go.Proofs.Ytfefjjebjjfkdaa
