/- Wear, plainly: the first least and the first most worn block among those that count, and how many count. No program in sight. -/
import Derived.WalkKit
namespace Go.Proofs.Ytlabkkmpllccoaa

/-- The first of the first k blocks that count whose wear times s is least: -1 of none. -/
def ext (ws : List Int) (good : List Bool) (s : Int) : Nat → Int
  | 0 => -1
  | k + 1 => if good.getD k false = true ∧ (ext ws good s k < 0 ∨ s * ws.getD k 0 < s * ws.getD (ext ws good s k).toNat 0) then (k : Int) else ext ws good s k

/-- How many of the first k blocks count. -/
def cnt (good : List Bool) : Nat → Nat
  | 0 => 0
  | k + 1 => cnt good k + if good.getD k false = true then 1 else 0

theorem ext_bd (ws : List Int) (good : List Bool) (s : Int) : ∀ k, ext ws good s k = -1 ∨ (0 ≤ ext ws good s k ∧ ext ws good s k < (k : Int))
  | 0 => Or.inl rfl
  | k + 1 => by
    have h := ext_bd ws good s k
    unfold ext
    split
    · right; omega
    · rcases h with h | h
      · left; exact h
      · right; omega

theorem ext_neg (ws : List Int) (good : List Bool) (s : Int) : ∀ k, ext ws good s k < 0 ↔ cnt good k = 0
  | 0 => by simp [ext, cnt]
  | k + 1 => by
    have h := ext_neg ws good s k
    have hb := ext_bd ws good s k
    unfold ext cnt
    cases hg : good.getD k false
    · simpa using h
    · simp only [true_and, if_true]
      constructor
      · intro h2
        split at h2
        · omega
        · rename_i h3
          rw [not_or] at h3
          omega
      · intro h2
        omega

/-- Of one block that counts it is the least and the most worn one. -/
theorem ext_one (ws : List Int) (good : List Bool) (s t : Int) : ∀ k, cnt good k ≤ 1 → ext ws good s k = ext ws good t k
  | 0, _ => rfl
  | k + 1, h => by
    have hs := ext_neg ws good s k
    have ht := ext_neg ws good t k
    unfold ext
    cases hg : good.getD k false
    · simp only [Bool.false_eq_true, false_and, if_false]
      refine ext_one ws good s t k ?_
      unfold cnt at h
      omega
    · unfold cnt at h
      rw [hg] at h
      simp only [if_true] at h
      have h0 : cnt good k = 0 := by omega
      rw [if_pos ⟨rfl, Or.inl (hs.2 h0)⟩, if_pos ⟨rfl, Or.inl (ht.2 h0)⟩]

def mlen (ws : List Int) (good : List Bool) : Nat := min ws.length good.length

/-- The greatest wear less the least: 0 of none. -/
def spreadI (ws : List Int) (good : List Bool) : Int :=
  if ext ws good 1 (mlen ws good) < 0 then 0 else ws.getD (ext ws good (-1) (mlen ws good)).toNat 0 - ws.getD (ext ws good 1 (mlen ws good)).toNat 0

theorem spread_few {ws : List Int} {good : List Bool} (h : cnt good (mlen ws good) < 2) : spreadI ws good = 0 := by
  unfold spreadI
  rw [ext_one ws good (-1) 1 _ (by omega)]
  split <;> omega

theorem spread_many {ws : List Int} {good : List Bool} (h : ¬ cnt good (mlen ws good) < 2) :
    spreadI ws good = ws.getD (ext ws good (-1) (mlen ws good)).toNat 0 - ws.getD (ext ws good 1 (mlen ws good)).toNat 0 := by
  unfold spreadI
  rw [if_neg]
  rw [ext_neg]
  omega

theorem cnt_le (good : List Bool) : ∀ k, cnt good k ≤ k
  | 0 => by simp [cnt]
  | k + 1 => by
    have h := cnt_le good k
    unfold cnt
    split <;> omega
end Go.Proofs.Ytlabkkmpllccoaa
