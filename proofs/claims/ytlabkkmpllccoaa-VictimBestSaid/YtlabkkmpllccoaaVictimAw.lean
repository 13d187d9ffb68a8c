/- victim: awake. -/
import Derived.Test.YtlabkkmpllccoaaVictimCold
import Derived.Test.YtlabkkmpllccoaaLowList12
namespace Go.Proofs.Ytlabkkmpllccoaa
open Go.ChangeShapes Go.WideShapes Go.ChangeAt Go.RowKit
attribute [local go_sem ↓] Go.wp_at_zero Go.wp_at_succ
set_option linter.unusedSimpArgs false
set_option linter.unusedVariables false

theorem sl_blk {W : World} {k : Nat} {t : TypeId} {vs : List Value} (h : Blk W k t vs.toArray) : Sl W W.heap.size (some ⟨k, 0, none⟩) vs := by
  refine Or.inr ⟨k, 0, rfl, h.lt, fun j v hj => ?_⟩
  rw [Nat.zero_add, h.cell_ j]
  simpa using hj
def allB : List Bool := [true, true, true]
theorem allB_eq : (allB.map Value.bool).toArray = #[.bool true, .bool true, .bool true] := rfl
def la : List Int := [3, 1, 1]
def lb : List Int := [0, 5, 2]
def lc : List Int := [4, 2, 2]

theorem av1 : pickF la lb allB (mlen3 la lb allB) = 2 := by decide
theorem av2 : leastI lc allB = 1 := by decide
theorem av3 : coldI la lb allB 4 = 0 := by decide
theorem av4 : coldI la lb allB 5 = -1 := by decide
theorem av5 : pickF [] [] [] (mlen3 [] [] []) = -1 := by decide
theorem lb_bd : ∀ z ∈ lb, 0 ≤ z ∧ z ≤ 2147483648 := by
  intro z hz
  simp [lb] at hz
  omega
theorem lc_bd : ∀ z ∈ lc, 0 ≤ z ∧ z ≤ 2147483648 := by
  intro z hz
  simp [lc] at hz
  omega
theorem la_bd : ∀ z ∈ la, 0 ≤ z := by
  intro z hz
  simp [la] at hz
  omega

set_option maxRecDepth 100000 in
set_option maxHeartbeats 4000000 in
theorem awake_any (w : World) :
    Calls Try.prog 6 #[] w fun e' w' => e' = .returned (.bool true) ∧ Below w.heap.size w w' := by
  have HA : Blk (w.alloc (.cells #[.bool true, .bool true, .bool true] 4)) w.heap.size 4 #[.bool true, .bool true, .bool true] := Blk.new_ _ _ _
  have HB : Below w.heap.size w (w.alloc (.cells #[.bool true, .bool true, .bool true] 4)) := (Below.refl _ _).alloc (Nat.le_refl _) _
  go_enter Try.func6, Try.ntmps6
  go_wp2_with fail
  have X1 : Blk (((w.alloc (.cells #[.bool true, .bool true, .bool true] 4)).alloc (.cells #[.int .i64 3, .int .i64 1, .int .i64 1] 3)).alloc (.cells #[.int .i64 0, .int .i64 5, .int .i64 2] 3)) (w.alloc (.cells #[.bool true, .bool true, .bool true] 4)).heap.size 3 #[.int .i64 3, .int .i64 1, .int .i64 1] := (Blk.new_ _ _ _).alloc_ _
  have X2 : Blk (((w.alloc (.cells #[.bool true, .bool true, .bool true] 4)).alloc (.cells #[.int .i64 3, .int .i64 1, .int .i64 1] 3)).alloc (.cells #[.int .i64 0, .int .i64 5, .int .i64 2] 3)) ((w.alloc (.cells #[.bool true, .bool true, .bool true] 4)).heap.size + 1) 3 #[.int .i64 0, .int .i64 5, .int .i64 2] := by simpa using Blk.new_ ((w.alloc (.cells #[.bool true, .bool true, .bool true] 4)).alloc (.cells #[.int .i64 3, .int .i64 1, .int .i64 1] 3)) 3 #[.int .i64 0, .int .i64 5, .int .i64 2]
  have X3 := (HA.alloc_ (.cells #[.int .i64 3, .int .i64 1, .int .i64 1] 3)).alloc_ (.cells #[.int .i64 0, .int .i64 5, .int .i64 2] 3)
  have XB : Below w.heap.size w (((w.alloc (.cells #[.bool true, .bool true, .bool true] 4)).alloc (.cells #[.int .i64 3, .int .i64 1, .int .i64 1] 3)).alloc (.cells #[.int .i64 0, .int .i64 5, .int .i64 2] 3)) := (HB.alloc HB.size _).alloc (by simp; have := HB.size; (try simp at this); omega) _
  have Y1 := sl_blk (vs := la.map (Value.int .i64)) X1
  have Y2 := sl_blk (vs := lb.map (Value.int .i64)) X2
  have Y3 := sl_blk (vs := allB.map Value.bool) X3
  have ez : (w.alloc (.cells #[.bool true, .bool true, .bool true] 4)).heap.size = w.heap.size + 1 := by simp
  rw [ez] at Y1 Y2
  clear ez X1 X2
  refine (pick_any la lb allB _ _ _ 3 3 3 _ Y1 Y2 Y3 (by decide) (by decide) (by decide)).mono ?_
  rw [av1]
  rintro e' w1 ⟨rfl, hb⟩
  have HA := X3.below hb X3.lt
  have HB := btr XB XB.size hb
  clear hb Y1 Y2 Y3 X3 XB
  go_wp2_with fail
  have X1 : Blk (w1.alloc (.cells #[.int .i64 4, .int .i64 2, .int .i64 2] 3)) w1.heap.size 3 #[.int .i64 4, .int .i64 2, .int .i64 2] := Blk.new_ _ _ _
  have X3 := HA.alloc_ (.cells #[.int .i64 4, .int .i64 2, .int .i64 2] 3)
  have XB : Below w.heap.size w (w1.alloc (.cells #[.int .i64 4, .int .i64 2, .int .i64 2] 3)) := HB.alloc HB.size _
  refine (Free_any lc allB _ _ 3 3 _ (sl_blk X1) (sl_blk X3) (by decide) (by decide) lc_bd).mono ?_
  rw [av2]
  rintro e' w2 ⟨rfl, hb⟩
  have HA := X3.below hb X3.lt
  have HB := btr XB XB.size hb
  clear hb X1 X3 XB
  go_wp2_with fail
  have X1 : Blk ((w2.alloc (.cells #[.int .i64 3, .int .i64 1, .int .i64 1] 3)).alloc (.cells #[.int .i64 0, .int .i64 5, .int .i64 2] 3)) w2.heap.size 3 #[.int .i64 3, .int .i64 1, .int .i64 1] := (Blk.new_ _ _ _).alloc_ _
  have X2 : Blk ((w2.alloc (.cells #[.int .i64 3, .int .i64 1, .int .i64 1] 3)).alloc (.cells #[.int .i64 0, .int .i64 5, .int .i64 2] 3)) (w2.heap.size + 1) 3 #[.int .i64 0, .int .i64 5, .int .i64 2] := by simpa using Blk.new_ (w2.alloc (.cells #[.int .i64 3, .int .i64 1, .int .i64 1] 3)) 3 #[.int .i64 0, .int .i64 5, .int .i64 2]
  have X3 := (HA.alloc_ (.cells #[.int .i64 3, .int .i64 1, .int .i64 1] 3)).alloc_ (.cells #[.int .i64 0, .int .i64 5, .int .i64 2] 3)
  have XB : Below w.heap.size w ((w2.alloc (.cells #[.int .i64 3, .int .i64 1, .int .i64 1] 3)).alloc (.cells #[.int .i64 0, .int .i64 5, .int .i64 2] 3)) := (HB.alloc HB.size _).alloc (by simp; have := HB.size; (try simp at this); omega) _
  refine (Cold_any la lb allB _ _ _ 3 3 3 4 _ (sl_blk X1) (sl_blk X2) (sl_blk X3) (by decide) (by decide) (by decide) (by decide) (by unfold maxLen; decide) (by decide) (by unfold maxLen; decide) lb_bd la_bd).mono ?_
  rw [av3]
  rintro e' w3 ⟨rfl, hb⟩
  have HA := X3.below hb X3.lt
  have HB := btr XB XB.size hb
  clear hb X1 X2 X3 XB
  go_wp2_with fail
  have X1 : Blk ((w3.alloc (.cells #[.int .i64 3, .int .i64 1, .int .i64 1] 3)).alloc (.cells #[.int .i64 0, .int .i64 5, .int .i64 2] 3)) w3.heap.size 3 #[.int .i64 3, .int .i64 1, .int .i64 1] := (Blk.new_ _ _ _).alloc_ _
  have X2 : Blk ((w3.alloc (.cells #[.int .i64 3, .int .i64 1, .int .i64 1] 3)).alloc (.cells #[.int .i64 0, .int .i64 5, .int .i64 2] 3)) (w3.heap.size + 1) 3 #[.int .i64 0, .int .i64 5, .int .i64 2] := by simpa using Blk.new_ (w3.alloc (.cells #[.int .i64 3, .int .i64 1, .int .i64 1] 3)) 3 #[.int .i64 0, .int .i64 5, .int .i64 2]
  have X3 := (HA.alloc_ (.cells #[.int .i64 3, .int .i64 1, .int .i64 1] 3)).alloc_ (.cells #[.int .i64 0, .int .i64 5, .int .i64 2] 3)
  have XB : Below w.heap.size w ((w3.alloc (.cells #[.int .i64 3, .int .i64 1, .int .i64 1] 3)).alloc (.cells #[.int .i64 0, .int .i64 5, .int .i64 2] 3)) := (HB.alloc HB.size _).alloc (by simp; have := HB.size; (try simp at this); omega) _
  refine (Cold_any la lb allB _ _ _ 3 3 3 5 _ (sl_blk X1) (sl_blk X2) (sl_blk X3) (by decide) (by decide) (by decide) (by decide) (by unfold maxLen; decide) (by decide) (by unfold maxLen; decide) lb_bd la_bd).mono ?_
  rw [av4]
  rintro e' w4 ⟨rfl, hb⟩
  have HA := X3.below hb X3.lt
  have HB := btr XB XB.size hb
  clear hb X1 X2 X3 XB
  go_wp2_with fail
  refine (pick_any [] [] [] none none none 0 0 0 _ Sl.nil_ Sl.nil_ Sl.nil_ (by decide) (by decide) (by decide)).mono ?_
  rw [av5]
  rintro e' w5 ⟨rfl, hb⟩
  have HB := btr HB HB.size hb
  clear hb HA
  go_wp2
  go_ret
  exact ⟨rfl, HB⟩
end Go.Proofs.Ytlabkkmpllccoaa
