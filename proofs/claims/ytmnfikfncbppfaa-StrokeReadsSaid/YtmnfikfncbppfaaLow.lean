/- Low: a number from 0 to below n. -/
import Derived.Test.YtmnfikfncbppfaaChecked
import Derived.WalkKit
import Derived.ProofKit
import Derived.WalkSpells
import Derived.WalkLawsBesides
import Derived.Lib.Hide
import Derived.Outline
namespace Go.Proofs.Ytmnfikfncbppfaa
open Go.ChangeShapes Go.WideShapes Go.ChangeAt Go.RowKit

/-- What Low makes of x. -/
def lowI (x n : Int) : Int := (x % 18446744073709551616) % n

theorem lowI_bd (x n : Int) (hn : 1 ≤ n) : 0 ≤ lowI x n ∧ lowI x n < n := by
  unfold lowI
  exact ⟨Int.emod_nonneg _ (by omega), Int.emod_lt_of_pos _ (by omega)⟩

theorem low_wrap (x n : Int) (hn : 1 ≤ n) (hm : n ≤ 4611686018427387904) : RowKit.wrap64 ((IntKind.u64.wrap x).tmod n) = lowI x n := by
  have h := lowI_bd x n hn
  have e : IntKind.u64.wrap x = x % 18446744073709551616 := by
    unfold IntKind.wrap
    simp [IntKind.bits, IntKind.signed]
  have h0 : 0 ≤ x % 18446744073709551616 := Int.emod_nonneg _ (by omega)
  rw [e, Int.tmod_eq_emod_of_nonneg h0]
  show RowKit.wrap64 (lowI x n) = lowI x n
  unfold RowKit.wrap64
  omega

end Go.Proofs.Ytmnfikfncbppfaa
