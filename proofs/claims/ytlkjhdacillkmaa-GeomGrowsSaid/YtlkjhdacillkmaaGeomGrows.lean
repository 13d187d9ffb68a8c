/- GeomGrows: all eight ways. -/
import Derived.Test.YtlkjhdacillkmaaGeomGrows000
import Derived.Test.YtlkjhdacillkmaaGeomGrows001
import Derived.Test.YtlkjhdacillkmaaGeomGrows010
import Derived.Test.YtlkjhdacillkmaaGeomGrows011
import Derived.Test.YtlkjhdacillkmaaGeomGrows100
import Derived.Test.YtlkjhdacillkmaaGeomGrows101
import Derived.Test.YtlkjhdacillkmaaGeomGrows110
import Derived.Test.YtlkjhdacillkmaaGeomGrows111
namespace Go.Proofs.Ytlkjhdacillkmaa
open Go.ChangeShapes Go.WideShapes Go.ChangeAt Go.RowKit
attribute [local go_sem ↓] Go.wp_at_zero Go.wp_at_succ

theorem grows_walk (a b c d e : Int) (w : World) (_ : i64in a ∧ i64in b ∧ i64in c ∧ i64in d ∧ i64in e) :
    Calls Try.prog 5 #[.agg #[.int .i64 a, .int .i64 b, .int .i64 c, .int .i64 d, .int .i64 e]] w fun e' w' => e' = .returned (.bool true) ∧ Below w.heap.size w w' := by
  cases hm : mayB a b c d e
  · exact grows_no a b c d e w hm
  cases ha : mayB (a + 1) b c d e <;> cases hb : mayB a (b + 1) c d e <;> cases hc : mayB a b c (d + 1) e
  · exact grows_000 a b c d e w hm ha hb hc
  · exact grows_001 a b c d e w hm ha hb hc
  · exact grows_010 a b c d e w hm ha hb hc
  · exact grows_011 a b c d e w hm ha hb hc
  · exact grows_100 a b c d e w hm ha hb hc
  · exact grows_101 a b c d e w hm ha hb hc
  · exact grows_110 a b c d e w hm ha hb hc
  · exact grows_111 a b c d e w hm ha hb hc
end Go.Proofs.Ytlkjhdacillkmaa
