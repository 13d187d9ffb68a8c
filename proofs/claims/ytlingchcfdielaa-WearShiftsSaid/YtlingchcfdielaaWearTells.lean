/- wear: awake; WearTells. -/
import Derived.Test.YtlingchcfdielaaWearC
import Derived.Test.YtlingchcfdielaaLowList
namespace Go.Proofs.Ytlingchcfdielaa
open Go.ChangeShapes Go.WideShapes Go.ChangeAt Go.RowKit

theorem aw1 : spreadI [3, 9, 5] [true, false, true] = 2 := by decide
theorem aw2 : leastI [3, 9, 5] [true, false, true] = 0 := by decide
theorem aw3 : mostI [3, 9, 5] [true, false, true] = 2 := by decide
theorem aw4 : leastI [] [] = -1 := by decide

set_option maxRecDepth 100000 in
set_option maxHeartbeats 4000000 in
theorem awake_any (w : World) :
    Calls Try.prog 6 #[] w fun e' w' => e' = .returned (.bool true) ∧ Below w.heap.size w w' := by
  have h1 := (Sl.new_ w 3 ([3, 9, 5].map (Value.int .i64))).alloc_ (.cells ([true, false, true].map Value.bool).toArray 4)
  have h2 := Sl.new_ (w.alloc (.cells ([3, 9, 5].map (Value.int .i64)).toArray 3)) 4 ([true, false, true].map Value.bool)
  have HB : Below w.heap.size w ((w.alloc (.cells ([3, 9, 5].map (Value.int .i64)).toArray 3)).alloc (.cells ([true, false, true].map Value.bool).toArray 4)) := ((Below.refl _ _).alloc (Nat.le_refl _) _).alloc (by simp) _
  have hw : ∀ z ∈ [(3 : Int), 9, 5], 0 ≤ z ∧ z ≤ 2147483648 := by
    intro z hz
    simp at hz
    omega
  go_enter Try.func6, Try.ntmps6
  go_wp2_with fail
  refine (Spread_any [3, 9, 5] [true, false, true] (some ⟨w.heap.size, 0, none⟩) (some ⟨w.heap.size + 1, 0, none⟩) 3 3 _ h1 (by simpa using h2) (by decide) (by decide) hw).mono ?_
  rw [aw1]
  rintro e' w1 ⟨rfl, hb1⟩
  have H1 := h1.next hb1
  have H2 := (show Sl _ _ (some ⟨w.heap.size + 1, 0, none⟩) _ by simpa using h2).next hb1
  have HB := btr HB HB.size hb1
  clear hb1 h1 h2
  go_wp2_with fail
  refine (Least_any [3, 9, 5] [true, false, true] (some ⟨w.heap.size, 0, none⟩) (some ⟨w.heap.size + 1, 0, none⟩) 3 3 _ H1 H2 (by decide) (by decide) hw).mono ?_
  rw [aw2]
  rintro e' w2 ⟨rfl, hb1⟩
  have H1 := H1.next hb1
  have H2 := H2.next hb1
  have HB := btr HB HB.size hb1
  clear hb1
  go_wp2_with fail
  refine (Most_any [3, 9, 5] [true, false, true] (some ⟨w.heap.size, 0, none⟩) (some ⟨w.heap.size + 1, 0, none⟩) 3 3 _ H1 H2 (by decide) (by decide) hw).mono ?_
  rw [aw3]
  rintro e' w3 ⟨rfl, hb1⟩
  have H1 := H1.next hb1
  have H2 := H2.next hb1
  have HB := btr HB HB.size hb1
  clear hb1
  go_wp2_with fail
  refine (Due_any [3, 9, 5] [true, false, true] (some ⟨w.heap.size, 0, none⟩) (some ⟨w.heap.size + 1, 0, none⟩) 3 3 1 _ H1 H2 (by decide) (by decide) hw).mono ?_
  rw [aw1]
  rintro e' w4 ⟨rfl, hb1⟩
  have HB := btr HB HB.size hb1
  clear hb1 hw
  go_wp2_with fail
  refine (Least_any [] [] none none 0 0 _ Sl.nil_ Sl.nil_ (by decide) (by decide) (by simp)).mono ?_
  rw [aw4]
  rintro e' w5 ⟨rfl, hb1⟩
  have HB := btr HB HB.size hb1
  clear hb1
  go_wp2
  go_ret
  exact ⟨rfl, HB⟩

set_option maxRecDepth 100000 in
set_option maxHeartbeats 4000000 in
theorem wtells_walk (A1 : Option Addr) (m1 c1 : Nat) (xs : List Int) (A2 : Option Addr) (m2 c2 : Nat) (good : List Bool) (t : Int) (w : World)
    (r1 : m1 = xs.length ∧ Sl w w.heap.size A1 (xs.map (Value.int .i64))) (r2 : m2 = good.length ∧ Sl w w.heap.size A2 (good.map Value.bool)) (_ : -9223372036854775808 ≤ t ∧ t ≤ 9223372036854775807) :
    Calls Try.prog 3 #[.slice A1 m1 c1, .slice A2 m2 c2, .int .i64 t] w fun e' w' => e' = .returned (.bool true) ∧ Below w.heap.size w w' := by
  obtain ⟨rfl, h1⟩ := r1
  obtain ⟨rfl, h2⟩ := r2
  by_cases hg1 : 40 < xs.length
  · have g1 : (40 : Int) < (xs.length : Int) := by omega
    go_enter Try.func3, Try.ntmps3
    go_wp2_with (go_at_call 6; refine (awake_any _).mono ?_; rintro e' w2 ⟨rfl, hb2⟩)
    go_ret
    exact ⟨rfl, hb2⟩
  by_cases hg2 : 40 < good.length
  · have g1 : ¬ (40 : Int) < (xs.length : Int) := by omega
    have g2 : (40 : Int) < (good.length : Int) := by omega
    go_enter Try.func3, Try.ntmps3
    go_wp2_with (go_at_call 6; refine (awake_any _).mono ?_; rintro e' w2 ⟨rfl, hb2⟩)
    go_ret
    exact ⟨rfl, hb2⟩
  have g1 : ¬ (40 : Int) < (xs.length : Int) := by omega
  have g2 : ¬ (40 : Int) < (good.length : Int) := by omega
  have n2 : good.length ≤ 1000000 := by omega
  have n0 : xs.length ≤ 1000000 := by omega
  go_enter Try.func3, Try.ntmps3
  go_wp2_with (first
    | (go_at_call 7; refine (low_list xs A1 c1 _ h1 n0).mono ?_; rintro e' w1 ⟨ws, A3, c3, hws, rfl, H1, HB⟩; have H2 := h2.next HB; have n1 : ws.length ≤ 1000000 := (by { rw [hws]; simp [lowL]; omega }); have hw : ∀ z ∈ ws, 0 ≤ z ∧ z ≤ 2147483648 := (by { intro z hz; rw [hws] at hz; have := lowL_bd (by omega) hz; omega }); clear hws)
    | (go_at_call 8; refine (Spread_any _ _ _ _ _ _ _ H1 H2 n1 n2 hw).mono ?_; rintro e' w1 ⟨rfl, hb1⟩; have H1 := H1.next hb1; have H2 := H2.next hb1; have HB := btr HB HB.size hb1; clear hb1)
    | (go_at_call 9; refine (rSpread_any _ _ _ _ _ _ _ H1 H2 n1 n2 hw).mono ?_; rintro e' w1 ⟨rfl, hb1⟩; have H1 := H1.next hb1; have H2 := H2.next hb1; have HB := btr HB HB.size hb1; clear hb1)
    | (go_at_call 10; refine (Least_any _ _ _ _ _ _ _ H1 H2 n1 n2 hw).mono ?_; rintro e' w1 ⟨rfl, hb1⟩; have H1 := H1.next hb1; have H2 := H2.next hb1; have HB := btr HB HB.size hb1; clear hb1)
    | (go_at_call 11; refine (rLeast_any _ _ _ _ _ _ _ H1 H2 n1 n2 hw).mono ?_; rintro e' w1 ⟨rfl, hb1⟩; have H1 := H1.next hb1; have H2 := H2.next hb1; have HB := btr HB HB.size hb1; clear hb1)
    | (go_at_call 12; refine (Most_any _ _ _ _ _ _ _ H1 H2 n1 n2 hw).mono ?_; rintro e' w1 ⟨rfl, hb1⟩; have H1 := H1.next hb1; have H2 := H2.next hb1; have HB := btr HB HB.size hb1; clear hb1)
    | (go_at_call 13; refine (rMost_any _ _ _ _ _ _ _ H1 H2 n1 n2 hw).mono ?_; rintro e' w1 ⟨rfl, hb1⟩; have H1 := H1.next hb1; have H2 := H2.next hb1; have HB := btr HB HB.size hb1; clear hb1)
    | (go_at_call 14; refine (Due_any _ _ _ _ _ _ _ _ H1 H2 n1 n2 hw).mono ?_; rintro e' w1 ⟨rfl, hb1⟩; have H1 := H1.next hb1; have H2 := H2.next hb1; have HB := btr HB HB.size hb1; clear hb1)
    | (go_at_call 15; refine (rDue_any _ _ _ _ _ _ _ _ H1 H2 n1 n2 hw).mono ?_; rintro e' w1 ⟨rfl, hb1⟩; have H1 := H1.next hb1; have H2 := H2.next hb1; have HB := btr HB HB.size hb1; clear hb1)
    | (go_at_call 6; refine (awake_any _).mono ?_; rintro e' w2 ⟨rfl, hb2⟩))
  go_ret
  exact ⟨rfl, btr HB HB.size hb2⟩
end Go.Proofs.Ytlingchcfdielaa
