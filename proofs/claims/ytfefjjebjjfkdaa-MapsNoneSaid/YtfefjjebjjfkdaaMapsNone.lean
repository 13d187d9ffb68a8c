/- MapsNone: the walk. -/
import Derived.Test.YtfefjjebjjfkdaaMapAw
namespace Go.Proofs.Ytfefjjebjjfkdaa
open Go.ChangeShapes Go.WideShapes Go.ChangeAt Go.RowKit
set_option linter.unusedSimpArgs false
set_option linter.unusedVariables false

theorem mapsnone_walk (n : Int) (w : World) (hn : i64in n) : Calls Try.prog 5 #[.int .i64 n] w fun e' w' => e' = .returned (.bool true) ∧ Below w.heap.size w w' := by
  go_enter Try.func5, Try.ntmps5
  go_wp2_with (first
    | (go_at_call 14; ((with_reducible refine (at_nil _ _).mono ?_); rintro e' wN ⟨rfl, hb⟩; have HB0 := hb; have hba : Below wN.heap.size wN (wN.alloc (.cells #[.int .i64 0, .int .i64 0] 31)) := (Below.refl _ _).alloc (Nat.le_refl _) _; have QB : Blk (wN.alloc (.cells #[.int .i64 0, .int .i64 0] 31)) wN.heap.size 31 #[.int .i64 0, .int .i64 0] := Blk.new_ _ _ _; have HB0 := btr HB0 HB0.size hba; clear hba hb; obtain ⟨q0, q1⟩ := cells2 QB))
    | (go_at_call 16; ((with_reducible refine (who_nil _ _ _).mono ?_); rintro e' wN ⟨rfl, hb⟩; have HB0 := btr HB0 HB0.size hb; have QB := QB.below hb QB.lt; clear hb q0 q1; obtain ⟨q0, q1⟩ := cells2 QB))
    | (go_at_call 11; ((with_reducible refine (put_nil _ _ _ _).mono ?_); rintro e' wN ⟨rfl, hb⟩; have HB0 := btr HB0 HB0.size hb; have QB := QB.below hb QB.lt; clear hb q0 q1; obtain ⟨q0, q1⟩ := cells2 QB))
    | (go_at_call 10; ((with_reducible refine (drop_nil _ _).mono ?_); rintro e' wN ⟨rfl, rfl⟩; skip))
    | (go_at_call 19; ((with_reducible refine (live_nil _ _).mono ?_); rintro e' wN ⟨rfl, rfl⟩; skip))
    | (go_at_call 18; ((with_reducible refine (pages_nil _).mono ?_); rintro e' wN ⟨rfl, rfl⟩; skip))
    | (go_at_call 9; ((with_reducible refine (copy_nil _).mono ?_); rintro e' wN ⟨rfl, rfl⟩; skip))
    | (go_at_call 6; ((with_reducible refine (awake_any _).mono ?_); rintro e' wN ⟨rfl, hb⟩; have HB0 := btr HB0 HB0.size hb)))
  go_ret
  exact ⟨rfl, HB0⟩
end Go.Proofs.Ytfefjjebjjfkdaa
