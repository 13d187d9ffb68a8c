/- ChipNone: the walk. -/
import Derived.Test.YtplniojeaodjiaaChAw
namespace Go.Proofs.Ytplniojeaodjiaa
open Go.ChangeShapes Go.WideShapes Go.ChangeAt Go.RowKit
set_option linter.unusedSimpArgs false
set_option linter.unusedVariables false

set_option maxRecDepth 100000 in
set_option maxHeartbeats 4000000 in
theorem chipnone_walk (n : Int) (w : World) (hn : i64in n) : Calls Try.prog 7 #[.int .i64 n] w fun e' w' => e' = .returned (.bool true) ∧ Below w.heap.size w w' := by
  have HB0 : Below w.heap.size w w := Below.refl _ _
  go_enter Try.func7, Try.ntmps7
  go_wp2_with (first
    | (go_at_call 19; ((with_reducible refine (read_nil _ _ _).mono ?_); rintro e' wN ⟨rfl, hb⟩; replace HB0 := btr HB0 HB0.size hb; clear hb))
    | (go_at_call 17; ((with_reducible refine (program_nil _ _ _ _ _ _).mono ?_); rintro e' wN ⟨rfl, hb⟩; replace HB0 := btr HB0 HB0.size hb; clear hb))
    | (go_at_call 22; ((with_reducible refine (erase_nil _ _).mono ?_); rintro e' wN ⟨rfl, rfl⟩; skip))
    | (go_at_call 24; ((with_reducible refine (arm_nil _ _ _ _).mono ?_); rintro e' wN ⟨rfl, hb⟩; replace HB0 := btr HB0 HB0.size hb; clear hb))
    | (go_at_call 27; ((with_reducible refine (boot_nil _).mono ?_); rintro e' wN ⟨rfl, rfl⟩; skip))
    | (go_at_call 25; ((with_reducible refine (on_nil _).mono ?_); rintro e' wN ⟨rfl, rfl⟩; skip))
    | (go_at_call 26; ((with_reducible refine (ops_nil _).mono ?_); rintro e' wN ⟨rfl, rfl⟩; skip))
    | (go_at_call 23; ((with_reducible refine (wear_nil _ _).mono ?_); rintro e' wN ⟨rfl, rfl⟩; skip))
    | (go_at_call 21; ((with_reducible refine (used_nil _ _).mono ?_); rintro e' wN ⟨rfl, rfl⟩; skip))
    | (go_at_call 29; ((with_reducible refine (failed_nil _ _).mono ?_); rintro e' wN ⟨rfl, rfl⟩; skip))
    | (go_at_call 30; ((with_reducible refine (bad_nil _ _).mono ?_); rintro e' wN ⟨rfl, rfl⟩; skip))
    | (go_at_call 28; ((with_reducible refine (cuts_nil _).mono ?_); rintro e' wN ⟨rfl, rfl⟩; skip))
    | (go_at_call 31; ((with_reducible refine (geometry_nil _).mono ?_); rintro e' wN ⟨rfl, hb⟩; replace HB0 := btr HB0 HB0.size hb; clear hb))
    | (go_at_call 10; ((with_reducible refine (awake_any _).mono ?_); rintro e' wN ⟨rfl, hb⟩; replace HB0 := btr HB0 HB0.size hb; clear hb)))
  go_ret
  exact ⟨rfl, HB0⟩
end Go.Proofs.Ytplniojeaodjiaa
