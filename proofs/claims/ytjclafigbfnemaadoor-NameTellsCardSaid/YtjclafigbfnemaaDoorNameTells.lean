/- NameTells: the walk. -/
import Derived.Test.YtjclafigbfnemaaDoorNameAw
namespace Go.Proofs.YtjclafigbfnemaaDoor
open Go.ChangeShapes Go.WideShapes Go.ChangeAt Go.RowKit
set_option linter.unusedSimpArgs false
set_option linter.unusedVariables false
set_option maxRecDepth 100000 in
set_option maxHeartbeats 4000000 in
theorem tells_walk (a b : ByteArray) (w : World) (hT : Tabs w) :
    Calls Tryd.prog 3 #[.string a, .string b] w fun e w' => e = .returned (.bool true) ∧ Below w.heap.size w w' := by
  have HT := Lib.hid hT
  have HB : Below w.heap.size w w := Below.refl _ _
  clear hT
  by_cases ha : 200 < a.size
  · have ga : (200 : Int) < (a.size : Int) := by omega
    clear ha
    go_enter Tryd.func3, Tryd.ntmps3
    go_wp2_with (go_at_call 7; ((with_reducible refine (awake_any _ HT.out).mono ?_); rintro e' wN ⟨rfl, hb⟩; have HT := Lib.hid (HT.out.next hb); have HB := btr HB HB.size hb; clear hb))
    go_ret
    exact ⟨rfl, HB⟩
  have ga : ¬ (200 : Int) < (a.size : Int) := by omega
  by_cases hb : 200 < b.size
  · have gb : (200 : Int) < (b.size : Int) := by omega
    clear hb
    go_enter Tryd.func3, Tryd.ntmps3
    go_wp2_with (go_at_call 7; ((with_reducible refine (awake_any _ HT.out).mono ?_); rintro e' wN ⟨rfl, hb⟩; have HT := Lib.hid (HT.out.next hb); have HB := btr HB HB.size hb; clear hb))
    go_ret
    exact ⟨rfl, HB⟩
  have gb : ¬ (200 : Int) < (b.size : Int) := by omega
  have HS : Hid (a.size ≤ 100000) := Lib.hid (by omega)
  obtain ⟨V, hV⟩ : ∃ V, validL a.data.toList = V := ⟨_, rfl⟩
  obtain ⟨n, hn⟩ : ∃ n, runesN a.data.toList = n := ⟨_, rfl⟩
  obtain ⟨M, hM⟩ : ∃ V, nameB a.data.toList = V := ⟨_, rfl⟩
  have HV := Lib.hid hV
  have HN := Lib.hid hn
  have HM := Lib.hid hM
  clear hV hn hM ha hb
  go_enter Tryd.func3, Tryd.ntmps3
  go_wp2_with (first
    | (go_at_call 8; ((with_reducible refine (runes_any a V n _ HS.out HT.out HV.out HN.out).mono ?_); rintro e' wN ⟨rfl, hb⟩; have HT := Lib.hid (HT.out.next hb); have HB := btr HB HB.size hb; clear hb))
    | (go_at_call 9; ((with_reducible refine (rrunes_any a V n _ HS.out HV.out HN.out).mono ?_); rintro e' wN ⟨rfl, rfl⟩))
    | (go_at_call 10; ((with_reducible refine (may_any a M _ HS.out HT.out HM.out).mono ?_); rintro e' wN ⟨rfl, hb⟩; have HT := Lib.hid (HT.out.next hb); have HB := btr HB HB.size hb; clear hb))
    | (go_at_call 11; ((with_reducible refine (rmay_any3 a M _ HS.out HM.out).mono ?_); rintro e' wN ⟨rfl, rfl⟩))
    | (go_at_call 12; ((with_reducible refine (less_any a b _ _ rfl).mono ?_); rintro e' wN ⟨rfl, rfl⟩))
    | (go_at_call 7; ((with_reducible refine (awake_any _ HT.out).mono ?_); rintro e' wN ⟨rfl, hb⟩; have HT := Lib.hid (HT.out.next hb); have HB := btr HB HB.size hb; clear hb)))
  go_ret
  exact ⟨rfl, HB⟩
end Go.Proofs.YtjclafigbfnemaaDoor
