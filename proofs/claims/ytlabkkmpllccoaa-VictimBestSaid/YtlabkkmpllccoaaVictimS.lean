/- Victim, plainly: which block is picked. No program in sight. -/
import Derived.WalkKit
namespace Go.Proofs.Ytlabkkmpllccoaa

/-- The first of the first k blocks that may be, of the fewest live pages, of those of the least wear: -1 of none. -/
def pickF (live ws : List Int) (may : List Bool) : Nat → Int
  | 0 => -1
  | k + 1 => if may.getD k false = true ∧ (pickF live ws may k < 0 ∨ live.getD k 0 < live.getD (pickF live ws may k).toNat 0 ∨
      (live.getD k 0 = live.getD (pickF live ws may k).toNat 0 ∧ ws.getD k 0 < ws.getD (pickF live ws may k).toNat 0)) then (k : Int) else pickF live ws may k

theorem pick_bd (live ws : List Int) (may : List Bool) : ∀ k, pickF live ws may k = -1 ∨ (0 ≤ pickF live ws may k ∧ pickF live ws may k < (k : Int))
  | 0 => Or.inl rfl
  | k + 1 => by
    have h := pick_bd live ws may k
    unfold pickF
    split
    · right; omega
    · rcases h with h | h
      · left; exact h
      · right; omega

def mlen3 (live ws : List Int) (may : List Bool) : Nat := min live.length (min ws.length may.length)
end Go.Proofs.Ytlabkkmpllccoaa
