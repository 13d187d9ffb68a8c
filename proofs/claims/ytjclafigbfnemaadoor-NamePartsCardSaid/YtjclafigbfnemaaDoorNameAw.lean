/- awake, of any world that holds the tables. -/
import Derived.Test.YtjclafigbfnemaaDoorNameC
namespace Go.Proofs.YtjclafigbfnemaaDoor
open Go.ChangeShapes Go.WideShapes Go.ChangeAt Go.RowKit
set_option linter.unusedSimpArgs false
set_option linter.unusedVariables false
theorem may_97_32_98 (w : World) (hT : Tabs w) : Calls Tryd.prog 10 #[.string ⟨#[97, 32, 98]⟩] w fun e w' => e = .returned (.bool true) ∧ Below w.heap.size w w' := may_any ⟨#[97, 32, 98]⟩ true w (by decide) hT (by kernel_rfl)
theorem may_32_97 (w : World) (hT : Tabs w) : Calls Tryd.prog 10 #[.string ⟨#[32, 97]⟩] w fun e w' => e = .returned (.bool false) ∧ Below w.heap.size w w' := may_any ⟨#[32, 97]⟩ false w (by decide) hT (by kernel_rfl)
theorem may_97_47_98 (w : World) (hT : Tabs w) : Calls Tryd.prog 10 #[.string ⟨#[97, 47, 98]⟩] w fun e w' => e = .returned (.bool false) ∧ Below w.heap.size w w' := may_any ⟨#[97, 47, 98]⟩ false w (by decide) hT (by kernel_rfl)
theorem may_none (w : World) (hT : Tabs w) : Calls Tryd.prog 10 #[.string ⟨#[]⟩] w fun e w' => e = .returned (.bool false) ∧ Below w.heap.size w w' := may_any ⟨#[]⟩ false w (by decide) hT (by kernel_rfl)
theorem runes_lit (w : World) (hT : Tabs w) : Calls Tryd.prog 8 #[.string ⟨#[97, 195, 169]⟩] w fun e w' => e = .returned (.tuple #[.int .i64 2, .bool true]) ∧ Below w.heap.size w w' := runes_any ⟨#[97, 195, 169]⟩ true 2 w (by decide) hT (by kernel_rfl) (by kernel_rfl)
theorem less_lit (w : World) : Calls Tryd.prog 12 #[.string ⟨#[97]⟩, .string ⟨#[98]⟩] w fun e w' => e = .returned (.bool true) ∧ w = w' := less_any _ _ true w (by decide +kernel)
set_option maxRecDepth 100000 in
set_option maxHeartbeats 4000000 in
theorem awake_any (w : World) (hT : Tabs w) : Calls Tryd.prog 7 #[] w fun e w' => e = .returned (.bool true) ∧ Below w.heap.size w w' := by
  have HT := Lib.hid hT
  have HB : Below w.heap.size w w := Below.refl _ _
  clear hT
  go_enter Tryd.func7, Tryd.ntmps7
  go_wp2_with (first
    | (go_at_call 8; ((with_reducible refine (runes_lit _ HT.out).mono ?_); rintro e' wN ⟨rfl, hb⟩; have HT := Lib.hid (HT.out.next hb); have HB := btr HB HB.size hb; clear hb))
    | (go_at_call 10; ((with_reducible refine (may_97_32_98 _ HT.out).mono ?_); rintro e' wN ⟨rfl, hb⟩; have HT := Lib.hid (HT.out.next hb); have HB := btr HB HB.size hb; clear hb))
    | (go_at_call 10; ((with_reducible refine (may_32_97 _ HT.out).mono ?_); rintro e' wN ⟨rfl, hb⟩; have HT := Lib.hid (HT.out.next hb); have HB := btr HB HB.size hb; clear hb))
    | (go_at_call 10; ((with_reducible refine (may_97_47_98 _ HT.out).mono ?_); rintro e' wN ⟨rfl, hb⟩; have HT := Lib.hid (HT.out.next hb); have HB := btr HB HB.size hb; clear hb))
    | (go_at_call 10; ((with_reducible refine (may_none _ HT.out).mono ?_); rintro e' wN ⟨rfl, hb⟩; have HT := Lib.hid (HT.out.next hb); have HB := btr HB HB.size hb; clear hb))
    | (go_at_call 12; ((with_reducible refine (less_lit _).mono ?_); rintro e' wN ⟨rfl, rfl⟩)))
  go_ret
  exact ⟨rfl, HB⟩
end Go.Proofs.YtjclafigbfnemaaDoor
