/- PlanStays: the walk. -/
import Derived.Test.YtibplajobggdmaaPlanD
import Derived.Test.YtibplajobggdmaaPlanM
import Derived.Test.YtibplajobggdmaaLow
namespace Go.Proofs.Ytibplajobggdmaa
open Go.ChangeShapes Go.WideShapes Go.ChangeAt Go.RowKit
attribute [local go_sem ↓] Go.wp_at_zero Go.wp_at_succ
set_option linter.unusedSimpArgs false
set_option linter.unusedVariables false

set_option maxRecDepth 100000 in
set_option maxHeartbeats 8000000 in
theorem pstays_walk (a b c d e : Int) (A : Option Addr) (n c0 : Nat) (fs : List Flt) (blk dn more : Int) (w : World)
    (_ : i64in a ∧ i64in b ∧ i64in c ∧ i64in d ∧ i64in e) (r1 : n = fs.length ∧ n ≤ c0 ∧ c0 ≤ maxLen ∧ SlF w w.heap.size A fs) (_ : i64in blk) (_ : i64in dn) (_ : i64in more) :
    Calls Try.prog 4 #[.agg #[.int .i64 a, .int .i64 b, .int .i64 c, .int .i64 d, .int .i64 e], .slice A n c0, .int .i64 blk, .int .i64 dn, .int .i64 more] w fun e' w' => e' = .returned (.bool true) ∧ Below w.heap.size w w' := by
  obtain ⟨rfl, hc0, hc1, h⟩ := r1
  by_cases hl : 20 < fs.length
  · have g1 : (20 : Int) < (fs.length : Int) := by omega
    go_enter Try.func4, Try.ntmps4
    go_wp2_with (go_at_call 6; refine (awake_any _).mono ?_; rintro e' w2 ⟨rfl, hb2⟩)
    go_ret
    exact ⟨rfl, below1 hb2⟩
  have g1 : ¬ (20 : Int) < (fs.length : Int) := by omega
  have n1 : fs.length ≤ 1000000 := by omega
  have hBw : Below w.heap.size w (w.alloc (.cells #[.int .i64 a, .int .i64 b, .int .i64 c, .int .i64 d, .int .i64 e] 23)) := (Below.refl _ _).alloc (Nat.le_refl _) _
  have hH2 := h.next hBw
  have HC1 := Lib.hid hc1
  clear hc1
  rcases (by cases hq : planMay a b c d e fs <;> simp : planMay a b c d e fs = false ∨ planMay a b c d e fs = true) with hp | hp
  · have HM := Lib.hid hp
    clear hp
    go_enter Try.func4, Try.ntmps4
    go_wp2_with (first
    | (go_at_call 7; refine (pMay_any _ _ _ _ _ fs _ _ _ hH2 hc0 HC1.out).mono ?_; rw [HM.out]; rintro e' w1 ⟨rfl, hb1⟩)
    | (go_at_call 6; refine (awake_any _).mono ?_; rintro e' w2 ⟨rfl, hb2⟩))
    go_ret
    exact ⟨rfl, (below1 hb1).trans (hb2.mono (below1 hb1).size)⟩
  have HM := Lib.hid hp
  have hab := may_bd (planMay_bd hp).1
  obtain ⟨B, hB⟩ : ∃ x, lowI blk a = x := ⟨_, rfl⟩
  obtain ⟨D, hD⟩ : ∃ x, lowI dn 1000 = x := ⟨_, rfl⟩
  obtain ⟨M, hM⟩ : ∃ x, lowI more 1000 = x := ⟨_, rfl⟩
  have bB := lowI_bd blk a (by omega)
  have bD := lowI_bd dn 1000 (by omega)
  have bM := lowI_bd more 1000 (by omega)
  rw [hB] at bB
  rw [hD] at bD
  rw [hM] at bM
  have E1 := Lib.hid hB
  have E2 := Lib.hid hD
  have E3 := Lib.hid hM
  obtain ⟨f1, hf1⟩ : ∃ x, failsB fs B D = x := ⟨_, rfl⟩
  obtain ⟨bb, hbb⟩ : ∃ x, badB fs B = x := ⟨_, rfl⟩
  obtain ⟨nn, hnn⟩ : ∃ x, namesB fs B = x := ⟨_, rfl⟩
  have K2 : Hid (f1 = true → failsB fs B (D + M) = true) := Lib.hid fun hx => fails_more (by omega) (hf1.trans hx)
  have K0 : Hid (bb = true → failsB fs B 0 = true) := Lib.hid fun hx => bad_fails hp (hbb.trans hx)
  have K3 : Hid (nn = true → failsB fs B 1073741824 = true) := Lib.hid fun hx => names_fails hp (hnn.trans hx)
  have KX : Hid (nn = false → f1 = false ∧ bb = false) := Lib.hid fun hx => by
    have := names_none (hnn.trans hx) D
    exact ⟨hf1.symm.trans this.1, hbb.symm.trans this.2⟩
  have K1 := Lib.hid hf1
  have KB := Lib.hid hbb
  have KN := Lib.hid hnn
  have a1 : 1 ≤ a := by omega
  have a2 : a ≤ 20 := by omega
  obtain ⟨d1, d2⟩ := bD
  obtain ⟨m1, m2⟩ := bM
  clear hp hab hB hD hM bB hf1 hbb hnn
  cases f1 <;> cases bb <;> cases nn
  all_goals first
  | (have hh := KX.out rfl; simp at hh; done)
  | skip
  all_goals
    go_enter Try.func4, Try.ntmps4
    go_wp2_with (first
      | (go_at_call 7; refine (pMay_any _ _ _ _ _ fs _ _ _ hH2 hc0 HC1.out).mono ?_; rw [HM.out]; rintro e' w1 ⟨rfl, hb1⟩; have H := hH2.next hb1; have HB := below1 hb1; have y0 := hb1.cell (p := ⟨w.heap.size, 0, none⟩) (by simp); simp at y0; have hz1 : w.heap.size < w1.heap.size := (by { have := hb1.size; simp at this; omega }))
      | (go_at_call 14; ((with_reducible refine (low_any blk a _ (by omega) (by omega)).mono ?_); rw [E1.out]; rintro e' w' ⟨rfl, rfl⟩))
      | (go_at_call 14; ((with_reducible refine (low_any dn 1000 _ (by omega) (by omega)).mono ?_); rw [E2.out]; rintro e' w' ⟨rfl, rfl⟩))
      | (go_at_call 14; ((with_reducible refine (low_any more 1000 _ (by omega) (by omega)).mono ?_); rw [E3.out]; rintro e' w' ⟨rfl, rfl⟩)))
    go_loop [11, 12] (fun v i => ∃ (k : Nat) (g : Bool), k ≤ fs.length ∧ i = .int .i64 k ∧ v = .bool g ∧ Hid (namesB (fs.take k) B = g)) (fun _ i => fs.length - (intOf i).toNat)
    case atStart => exact ⟨0, false, Nat.zero_le _, rfl, rfl, Lib.hid (by simp [namesB])⟩
    case round =>
      obtain ⟨k, g, hk, rfl, rfl, H0⟩ := hrel
      by_cases hlt : k < fs.length
      · have H' := H
        obtain ⟨b1, o1, rfl, l1, q1⟩ := H'.at_ (by omega)
        obtain ⟨x1, x2, x3⟩ := q1 k fs[k] (by simp [hlt])
        have hr := any_take (p := fun f => f.blk == B) hlt
        obtain ⟨f, hf⟩ : ∃ f, fs[k] = f := ⟨_, rfl⟩
        rw [hf] at x1 x2 x3 hr
        have HF := Lib.hid hf
        have hr2 : namesB (fs.take (k + 1)) B = (g || f.blk == B) := hr.trans (by rw [show ((fs.take k).any fun f => f.blk == B) = g from H0.out])
        have HR := Lib.hid hr2
        clear q1 hf hr hr2 H'
        have i0 : (0 : Int) ≤ (k : Int) := by omega
        have i1 : (k : Int) < (fs.length : Int) := by omega
        cases g
        · go_wp2
          go_round
          case rel => exact ⟨k + 1, _, by omega, by go_num, rfl, Lib.hid (by rw [HR.out, Bool.false_or])⟩
          case measure => simp [intOf]; omega
        · go_wp2
          go_round
          case rel => exact ⟨k + 1, true, by omega, by go_num, rfl, Lib.hid (by rw [HR.out, Bool.true_or])⟩
          case measure => simp [intOf]; omega
      · have hg : namesB fs B = g := by
          have := H0.out
          rwa [show fs.take k = fs by rw [List.take_of_length_le (by omega)]] at this
        have hg2 := KN.out.symm.trans hg
        subst hg2
        clear hg
        go_wp2_with (first
          | (go_at_call 9; ((with_reducible refine (Fails_any fs _ _ B D _ H n1).mono ?_); rw [K1.out]; rintro e' w1 ⟨rfl, hb1⟩; have H := H.next hb1; have HB := btr HB HB.size hb1; clear hb1))
          | (go_at_call 9; ((with_reducible refine (Fails_any fs _ _ B (D + M) _ H n1).mono ?_); rw [(by first | exact K2.out rfl | exact K2.out trivial | exact K2.out : failsB fs B (D + M) = true)]; rintro e' w1 ⟨rfl, hb1⟩; have H := H.next hb1; have HB := btr HB HB.size hb1; clear hb1))
          | (go_at_call 9; ((with_reducible refine (Fails_any fs _ _ B 0 _ H n1).mono ?_); rw [(by first | exact K0.out rfl | exact K0.out trivial | exact K0.out : failsB fs B 0 = true)]; rintro e' w1 ⟨rfl, hb1⟩; have H := H.next hb1; have HB := btr HB HB.size hb1; clear hb1))
          | (go_at_call 9; ((with_reducible refine (Fails_any fs _ _ B 1073741824 _ H n1).mono ?_); rw [(by first | exact K3.out rfl | exact K3.out trivial | exact K3.out : failsB fs B 1073741824 = true)]; rintro e' w1 ⟨rfl, hb1⟩; have H := H.next hb1; have HB := btr HB HB.size hb1; clear hb1))
          | (go_at_call 11; ((with_reducible refine (Bad_any fs _ _ B _ H n1).mono ?_); rw [KB.out]; rintro e' w1 ⟨rfl, hb1⟩; have H := H.next hb1; have HB := btr HB HB.size hb1; clear hb1))
          | (go_at_call 6; refine (awake_any _).mono ?_; rintro e' w2 ⟨rfl, hb2⟩))
        go_ret
        exact ⟨rfl, btr HB HB.size hb2⟩

end Go.Proofs.Ytibplajobggdmaa
