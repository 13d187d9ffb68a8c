/- VictimTells: the walk. -/
import Derived.Test.YtlabkkmpllccoaaVictimAw
import Derived.Test.YtlabkkmpllccoaaOpenS2
namespace Go.Proofs.Ytlabkkmpllccoaa
open Go.ChangeShapes Go.WideShapes Go.ChangeAt Go.RowKit
attribute [local go_sem ↓] Go.wp_at_zero Go.wp_at_succ
set_option linter.unusedSimpArgs false
set_option linter.unusedVariables false

set_option maxRecDepth 100000 in
set_option maxHeartbeats 4000000 in
theorem vtells_walk (A1 : Option Addr) (m1 c1 : Nat) (live : List Int) (A2 : Option Addr) (m2 c2 : Nat) (ws : List Int) (A3 : Option Addr) (m3 c3 : Nat) (may : List Bool) (t : Int) (w : World)
    (r1 : SlA w A1 m1 c1 (live.map (Value.int .i64))) (_ : ∀ z ∈ live, i64in z) (r2 : SlA w A2 m2 c2 (ws.map (Value.int .i64))) (_ : ∀ z ∈ ws, i64in z) (r3 : SlA w A3 m3 c3 (may.map Value.bool)) (_ : i64in t) :
    Calls Try.prog 3 #[.slice A1 m1 c1, .slice A2 m2 c2, .slice A3 m3 c3, .int .i64 t] w fun e' w' => e' = .returned (.bool true) ∧ Below w.heap.size w w' := by
  obtain ⟨e1, h1, _⟩ := r1
  obtain ⟨e2, h2, _⟩ := r2
  obtain ⟨e3, h3, k3, k3p, _⟩ := r3
  rw [List.length_map] at e1 e2 e3
  subst e1 e2 e3
  by_cases hx : 40 < live.length
  · have g1 : (40 : Int) < (live.length : Int) := by omega
    go_enter Try.func3, Try.ntmps3
    go_wp2_with (go_at_call 6; refine (awake_any _).mono ?_; rintro e' w2 ⟨rfl, hb2⟩)
    go_ret
    exact ⟨rfl, hb2⟩
  have g1 : ¬ (40 : Int) < (live.length : Int) := by omega
  by_cases hx : 40 < ws.length
  · have g2 : (40 : Int) < (ws.length : Int) := by omega
    go_enter Try.func3, Try.ntmps3
    go_wp2_with (go_at_call 6; refine (awake_any _).mono ?_; rintro e' w2 ⟨rfl, hb2⟩)
    go_ret
    exact ⟨rfl, hb2⟩
  have g2 : ¬ (40 : Int) < (ws.length : Int) := by omega
  by_cases hx : 40 < may.length
  · have g3 : (40 : Int) < (may.length : Int) := by omega
    go_enter Try.func3, Try.ntmps3
    go_wp2_with (go_at_call 6; refine (awake_any _).mono ?_; rintro e' w2 ⟨rfl, hb2⟩)
    go_ret
    exact ⟨rfl, hb2⟩
  have g3 : ¬ (40 : Int) < (may.length : Int) := by omega
  have n10 : live.length ≤ 1000000 := by omega
  have n20 : ws.length ≤ 1000000 := by omega
  have n3 : may.length ≤ 1000000 := by omega
  go_enter Try.func3, Try.ntmps3
  go_wp2_with (first
    | (go_at_call 7; ((with_reducible refine (low_list 9 (by omega) (by omega) live A1 c1 _ h1 n10).mono ?_); rintro e' w1 ⟨ls, A4, c4, hls, rfl, _, _, H1, HB⟩; have h2' := h2.next HB; have H3 := h3.next HB; have n1 : ls.length ≤ 1000000 := (by { rw [hls]; simp [lowL]; omega }); have hl : ∀ z ∈ ls, 0 ≤ z := (by { intro z hz; rw [hls] at hz; have := lowL_bd (by omega) hz; omega }); clear hls))
    | (go_at_call 7; ((with_reducible refine (low_list 1073741824 (by omega) (by omega) ws A2 c2 _ h2' n20).mono ?_); rintro e' w1 ⟨ys, A5, c5, hys, rfl, k2, k2p, H2, hb1⟩; have H1 := H1.next hb1; have H3 := H3.next hb1; have HB := btr HB HB.size hb1; have n2 : ys.length ≤ 1000000 := (by { rw [hys]; simp [lowL]; omega }); have hw : ∀ z ∈ ys, 0 ≤ z ∧ z ≤ 2147483648 := (by { intro z hz; rw [hys] at hz; have := lowL_bd (by omega) hz; omega }); clear hys hb1))
    | (go_at_call 8; refine (pick_any _ _ _ _ _ _ _ _ _ _ H1 H2 H3 n1 n2 n3).mono ?_; rintro e' w1 ⟨rfl, hb1⟩; have H1 := H1.next hb1; have H2 := H2.next hb1; have H3 := H3.next hb1; have HB := btr HB HB.size hb1; clear hb1)
    | (go_at_call 9; refine (rpick_any _ _ _ _ _ _ _ _ _ _ H1 H2 H3 n1 n2 n3).mono ?_; rintro e' w1 ⟨rfl, hb1⟩; have H1 := H1.next hb1; have H2 := H2.next hb1; have H3 := H3.next hb1; have HB := btr HB HB.size hb1; clear hb1)
    | (go_at_call 10; refine (Free_any _ _ _ _ _ _ _ H2 H3 n2 n3 hw).mono ?_; rintro e' w1 ⟨rfl, hb1⟩; have H1 := H1.next hb1; have H2 := H2.next hb1; have H3 := H3.next hb1; have HB := btr HB HB.size hb1; clear hb1)
    | (go_at_call 11; refine (rFree_any _ _ _ _ _ _ _ H2 H3 n2 n3 hw).mono ?_; rintro e' w1 ⟨rfl, hb1⟩; have H1 := H1.next hb1; have H2 := H2.next hb1; have H3 := H3.next hb1; have HB := btr HB HB.size hb1; clear hb1)
    | (go_at_call 12; refine (Cold_any _ _ _ _ _ _ _ _ _ _ _ H1 H2 H3 n1 n2 n3 k2 k2p k3 k3p hw hl).mono ?_; rintro e' w1 ⟨rfl, hb1⟩; have H1 := H1.next hb1; have H2 := H2.next hb1; have H3 := H3.next hb1; have HB := btr HB HB.size hb1; clear hb1)
    | (go_at_call 13; refine (rCold_any _ _ _ _ _ _ _ _ _ _ _ H1 H2 H3 n1 n2 n3 k2 k2p k3 k3p hw hl).mono ?_; rintro e' w1 ⟨rfl, hb1⟩; have H1 := H1.next hb1; have H2 := H2.next hb1; have H3 := H3.next hb1; have HB := btr HB HB.size hb1; clear hb1)
    | (go_at_call 6; refine (awake_any _).mono ?_; rintro e' w2 ⟨rfl, hb2⟩))
  go_ret
  exact ⟨rfl, btr HB HB.size hb2⟩
end Go.Proofs.Ytlabkkmpllccoaa
