/- VictimBest, plainly: how many may be, with one barred; lists of bools as rows of a call's own. -/
import Derived.Test.YtlabkkmpllccoaaVictimSM
namespace Go.Proofs.Ytlabkkmpllccoaa
open Go.ChangeShapes Go.WideShapes Go.ChangeAt Go.RowKit
set_option linter.unusedSimpArgs false
set_option linter.unusedVariables false
theorem infoBool : (Try.prog.info? 4).map (fun i => (i.zero, i.size, i.bytes)) = some (some (.bool false), 1, 1) := by kernel_rfl
theorem cnt_zero {G : List Bool} : ∀ {k : Nat}, cnt G k = 0 ↔ ∀ j, j < k → G.getD j false = false
  | 0 => by simp [cnt]
  | k + 1 => by
    have ih := cnt_zero (G := G) (k := k)
    unfold cnt
    cases hk : G.getD k false
    · simp only [Bool.false_eq_true, if_false]
      constructor
      · intro h j hj
        rcases Nat.lt_or_ge j k with h2 | h2
        · exact ih.1 (by omega) j h2
        · rw [show j = k by omega]
          exact hk
      · intro h
        have := ih.2 fun j hj => h j (by omega)
        omega
    · simp only [if_true]
      constructor
      · intro h
        omega
      · intro h
        have := h k (by omega)
        rw [hk] at this
        cases this
theorem getD_setB (G : List Bool) (i x : Nat) (v : Bool) (hi : i < G.length) : (G.set i v).getD x false = if i = x then v else G.getD x false := by
  rw [List.getD_eq_getElem?_getD, List.getElem?_set]
  by_cases h : i = x
  · subst h
    simp [hi]
  · simp [h, List.getD_eq_getElem?_getD]
theorem cnt_set {G : List Bool} {p : Nat} (hp : p < G.length) (hm : G.getD p false = true) : ∀ k, cnt G k = cnt (G.set p false) k + if p < k then 1 else 0
  | 0 => by simp [cnt]
  | k + 1 => by
    have ih := cnt_set hp hm k
    unfold cnt
    rw [getD_setB _ _ _ _ hp]
    by_cases h : p = k
    · subst h
      rw [hm]
      simp at ih ⊢
      omega
    · rw [if_neg h]
      have e : (if p < k + 1 then 1 else 0) = if p < k then 1 else (0 : Nat) := by
        by_cases h2 : p < k
        · rw [if_pos h2, if_pos (by omega)]
        · rw [if_neg h2, if_neg (by omega)]
      rw [e]
      split <;> omega
theorem pick_neg (live ws : List Int) (G : List Bool) (n : Nat) : pickF live ws G n < 0 ↔ cnt G n = 0 := by
  rw [cnt_zero]
  rcases pick_spec live ws G n with ⟨he, hn⟩ | ⟨p, hp, he, hm, _⟩
  · rw [he]
    exact ⟨fun _ => hn, fun _ => by omega⟩
  · rw [he]
    constructor
    · intro h
      omega
    · intro h
      rw [h p hp] at hm
      cases hm
theorem pick_none (live ws : List Int) {G : List Bool} {n : Nat} (h : cnt G n = 0) : pickF live ws G n = -1 := by
  have h1 := (pick_neg live ws G n).2 h
  rcases pick_bd live ws G n with e | e
  · exact e
  · omega
theorem pick_many {live ws : List Int} {G : List Bool} {n : Nat} (h : cnt G n ≠ 0) :
    ∃ p, p < n ∧ pickF live ws G n = (p : Int) ∧ G.getD p false = true ∧ ∀ j, j < n → G.getD j false = true → (live.getD p 0 < live.getD j 0 ∨ (live.getD p 0 = live.getD j 0 ∧ (ws.getD p 0 < ws.getD j 0 ∨ (ws.getD p 0 = ws.getD j 0 ∧ p ≤ j)))) := by
  rcases pick_spec live ws G n with ⟨he, hn⟩ | h2
  · exact absurd (cnt_zero.2 hn) h
  · exact h2
theorem least_none {ws : List Int} {G : List Bool} {n : Nat} (l2 : ws.length = n) (l3 : G.length = n) (h : cnt G n = 0) : leastI ws G = -1 := by
  have e : mlen ws G = n := by unfold mlen; omega
  have h1 := (ext_neg ws G 1 n).2 h
  unfold leastI
  rw [e]
  rcases ext_bd ws G 1 n with h2 | h2
  · exact h2
  · omega
theorem least_some {ws : List Int} {G : List Bool} {n : Nat} (l2 : ws.length = n) (l3 : G.length = n) (h : cnt G n ≠ 0) : ∃ q, q < n ∧ leastI ws G = (q : Int) := by
  have e : mlen ws G = n := by unfold mlen; omega
  have h1 : ¬ ext ws G 1 n < 0 := fun h' => h ((ext_neg ws G 1 n).1 h')
  unfold leastI
  rw [e]
  rcases ext_bd ws G 1 n with h2 | h2
  · omega
  · exact ⟨(ext ws G 1 n).toNat, by omega, by omega⟩
theorem cold_none {live ws : List Int} {G : List Bool} {n : Nat} (l1 : live.length = n) (l2 : ws.length = n) (l3 : G.length = n) (h : cnt G n = 0) (t : Int) : coldI live ws G t = -1 := by
  rw [cold_n l1 l2 l3, least_none l2 l3 h]
  split
  · rw [if_pos (Or.inl (by omega))]
  · rfl
theorem cold_some {live ws : List Int} {G : List Bool} {n q : Nat} (l1 : live.length = n) (l2 : ws.length = n) (l3 : G.length = n) (hq : leastI ws G = (q : Int)) (t : Int) :
    (¬ t < spreadI ws G → coldI live ws G t = -1) ∧ (live.getD q 0 ≤ 0 → coldI live ws G t = -1) ∧ (t < spreadI ws G → 0 < live.getD q 0 → coldI live ws G t = (q : Int)) := by
  rw [cold_n l1 l2 l3, hq]
  refine ⟨fun h => if_neg h, fun h => ?_, fun h1 h2 => ?_⟩
  · split
    · rw [if_pos (Or.inr (by simpa using h))]
    · rfl
  · rw [if_pos h1, if_neg]
    simp only [Int.toNat_natCast]
    omega
theorem own_sliceB {w : World} {base : Nat} {e : TypeId} {v : Value} {n : Nat} {bs : List Bool} (h : w.ownsRow base e 1 v n (bs.map Value.bool)) : ∃ (A : Option Addr) (c : Nat), v = .slice A n c ∧ bs.length = n ∧ n ≤ c ∧ c ≤ maxLen ∧ Sl w w.heap.size A (bs.map Value.bool) := by
  have hl : bs.length = n := by
    have := h.1
    simp at this
    omega
  rcases h.2 with ⟨hv, h0⟩ | ⟨g, cap, cur, hv, hbg, hh, hnc, hm, hsz, ht⟩
  · subst h0
    exact ⟨none, 0, hv, hl, Nat.le_refl _, by unfold maxLen; omega, Or.inl (by rw [List.eq_nil_of_length_eq_zero hl]; rfl)⟩
  · subst hv
    exact ⟨some ⟨g, 0, none⟩, cap, rfl, hl, hnc, hm, Sl.of_own h⟩
end Go.Proofs.Ytlabkkmpllccoaa
