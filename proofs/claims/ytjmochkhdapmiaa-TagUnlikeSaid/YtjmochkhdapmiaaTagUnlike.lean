/- TagUnlike: the walk. -/
import Derived.Test.YtjmochkhdapmiaaTagOp
namespace Go.Proofs.Ytjmochkhdapmiaa
open Go.ChangeShapes Go.WideShapes Go.ChangeAt Go.RowKit
attribute [local go_sem ↓] Go.wp_at_zero Go.wp_at_succ
set_option linter.unusedSimpArgs false
set_option linter.unusedVariables false

set_option maxRecDepth 100000 in
set_option maxHeartbeats 8000000 in
theorem unlike_walk (A1 : Option Addr) (n1 c1 : Nat) (a : List Nat) (tk1 tp1 ts1 te1 : Int) (A2 : Option Addr) (n2 c2 : Nat) (b : List Nat) (tk2 tp2 ts2 te2 : Int) (w : World)
    (r1 : SlA w A1 n1 c1 (a.map byteV)) (h81 : Bytes8 a) (_ : i64in tk1 ∧ i64in tp1 ∧ i64in ts1 ∧ i64in te1) (r2 : SlA w A2 n2 c2 (b.map byteV)) (h82 : Bytes8 b) (_ : i64in tk2 ∧ i64in tp2 ∧ i64in ts2 ∧ i64in te2) :
    Calls Try.prog 7 #[.slice A1 n1 c1, .agg #[.int .i64 tk1, .int .i64 tp1, .int .i64 ts1, .int .i64 te1], .slice A2 n2 c2, .agg #[.int .i64 tk2, .int .i64 tp2, .int .i64 ts2, .int .i64 te2]] w fun e' w' => e' = .returned (.bool true) ∧ Below w.heap.size w w' := by
  obtain ⟨e1, h1, _⟩ := r1
  obtain ⟨e2, h2, _⟩ := r2
  rw [List.length_map] at e1 e2
  subst e1 e2
  have HB0 : Below w.heap.size w ((w.alloc (.cells #[.int .i64 tk1, .int .i64 tp1, .int .i64 ts1, .int .i64 te1] 24)).alloc (.cells #[.int .i64 tk2, .int .i64 tp2, .int .i64 ts2, .int .i64 te2] 24)) := ((Below.refl _ _).alloc (Nat.le_refl _) _).alloc (by simp) _
  by_cases hx : 100 < a.length ∨ 100 < b.length
  · by_cases hx1 : 100 < a.length
    all_goals
      have g1 : True := trivial
      have g2 : (100 : Int) < (a.length : Int) ∨ (100 : Int) < (b.length : Int) := by omega
      have g3 : ¬ (100 : Int) < (a.length : Int) ∨ (100 : Int) < (a.length : Int) := by omega
      rcases g3 with g3 | g3
      all_goals first
      | (have g4 : (100 : Int) < (b.length : Int) := by omega
         clear g1 g2 hx hx1
         go_enter Try.func7, Try.ntmps7
         go_wp2_with (go_at_call 9; refine (awake_any _).mono ?_; rintro e' w2 ⟨rfl, hb2⟩)
         go_ret
         exact ⟨rfl, (((Below.refl _ _).alloc (Nat.le_refl _) _).alloc (by simp) _).trans (hb2.mono (by simp; omega))⟩)
      | (clear g1 g2 hx hx1
         go_enter Try.func7, Try.ntmps7
         go_wp2_with (go_at_call 9; refine (awake_any _).mono ?_; rintro e' w2 ⟨rfl, hb2⟩)
         go_ret
         exact ⟨rfl, (((Below.refl _ _).alloc (Nat.le_refl _) _).alloc (by simp) _).trans (hb2.mono (by simp; omega))⟩)
  rw [not_or] at hx
  have g1 : ¬ (100 : Int) < (a.length : Int) := by omega
  have g2 : ¬ (100 : Int) < (b.length : Int) := by omega
  have m1 : a.length ≤ 1000000 := by omega
  have m2 : b.length ≤ 1000000 := by omega
  have H1 := h1.next HB0
  have H2 := h2.next HB0
  have G1 : Blk ((w.alloc (.cells #[.int .i64 tk1, .int .i64 tp1, .int .i64 ts1, .int .i64 te1] 24)).alloc (.cells #[.int .i64 tk2, .int .i64 tp2, .int .i64 ts2, .int .i64 te2] 24)) w.heap.size 24 #[.int .i64 tk1, .int .i64 tp1, .int .i64 ts1, .int .i64 te1] := (Blk.new_ _ _ _).alloc_ _
  have G2 : Blk ((w.alloc (.cells #[.int .i64 tk1, .int .i64 tp1, .int .i64 ts1, .int .i64 te1] 24)).alloc (.cells #[.int .i64 tk2, .int .i64 tp2, .int .i64 ts2, .int .i64 te2] 24)) (w.heap.size + 1) 24 #[.int .i64 tk2, .int .i64 tp2, .int .i64 ts2, .int .i64 te2] := by simpa using Blk.new_ (w.alloc (.cells #[.int .i64 tk1, .int .i64 tp1, .int .i64 ts1, .int .i64 te1] 24)) 24 #[.int .i64 tk2, .int .i64 tp2, .int .i64 ts2, .int .i64 te2]
  rcases lay_cases a h81 tk1 tp1 ts1 te1 with hn1 | ⟨K1, P1, S1, E1, rfl, rfl, rfl, rfl, ok1⟩
  · rcases lay_cases b h82 tk2 tp2 ts2 te2 with hn2 | ⟨K2, P2, S2, E2, rfl, rfl, rfl, rfl, ok2⟩
    · go_enter Try.func7, Try.ntmps7
      go_wp2_with (first
        | (go_at_call 11; ((with_reducible refine (lay_no a A1 c1 tk1 tp1 ts1 te1 _ hn1 (by omega)).mono ?_); rintro e' wL ⟨rfl, hb⟩; have HB0 := btr HB0 HB0.size hb; have H1 := H1.next hb; have H2 := H2.next hb; have G1 := G1.below hb G1.lt; have G2 := G2.below hb G2.lt; (try clear y0 y1 y2 y3 z0 z1 z2 z3); have y0 := G1.cell_ 0; have y1 := G1.cell_ 1; have y2 := G1.cell_ 2; have y3 := G1.cell_ 3; simp at y0 y1 y2 y3; have z0 := G2.cell_ 0; have z1 := G2.cell_ 1; have z2 := G2.cell_ 2; have z3 := G2.cell_ 3; simp at z0 z1 z2 z3; clear hb))
        | (go_at_call 11; ((with_reducible refine (lay_no b A2 c2 tk2 tp2 ts2 te2 _ hn2 (by omega)).mono ?_); rintro e' wL ⟨rfl, hb⟩; have HB0 := btr HB0 HB0.size hb; have H1 := H1.next hb; have H2 := H2.next hb; have G1 := G1.below hb G1.lt; have G2 := G2.below hb G2.lt; (try clear y0 y1 y2 y3 z0 z1 z2 z3); have y0 := G1.cell_ 0; have y1 := G1.cell_ 1; have y2 := G1.cell_ 2; have y3 := G1.cell_ 3; simp at y0 y1 y2 y3; have z0 := G2.cell_ 0; have z1 := G2.cell_ 1; have z2 := G2.cell_ 2; have z3 := G2.cell_ 3; simp at z0 z1 z2 z3; clear hb))
        | (go_at_call 9; refine (awake_any _).mono ?_; rintro e' w2 ⟨rfl, hb2⟩))
      go_ret
      exact ⟨rfl, btr HB0 HB0.size hb2⟩
    · have OK2 := Lib.hid ok2
      clear ok2
      go_enter Try.func7, Try.ntmps7
      go_wp2_with (first
        | (go_at_call 11; ((with_reducible refine (lay_no a A1 c1 tk1 tp1 ts1 te1 _ hn1 (by omega)).mono ?_); rintro e' wL ⟨rfl, hb⟩; have HB0 := btr HB0 HB0.size hb; have H1 := H1.next hb; have H2 := H2.next hb; have G1 := G1.below hb G1.lt; have G2 := G2.below hb G2.lt; (try clear y0 y1 y2 y3 z0 z1 z2 z3); have y0 := G1.cell_ 0; have y1 := G1.cell_ 1; have y2 := G1.cell_ 2; have y3 := G1.cell_ 3; simp at y0 y1 y2 y3; have z0 := G2.cell_ 0; have z1 := G2.cell_ 1; have z2 := G2.cell_ 2; have z3 := G2.cell_ 3; simp at z0 z1 z2 z3; clear hb))
        | (go_at_call 11; ((with_reducible refine (lay_yes' b _ rfl A2 c2 K2 P2 S2 E2 _ H2 OK2.out).mono ?_); rintro e' wL ⟨sv, rfl, ho, hb⟩; have HB0 := btr HB0 HB0.size hb; have H1 := H1.next hb; have H2 := H2.next hb; have G1 := G1.below hb G1.lt; have G2 := G2.below hb G2.lt; (try clear y0 y1 y2 y3 z0 z1 z2 z3); have y0 := G1.cell_ 0; have y1 := G1.cell_ 1; have y2 := G1.cell_ 2; have y3 := G1.cell_ 3; simp at y0 y1 y2 y3; have z0 := G2.cell_ 0; have z1 := G2.cell_ 1; have z2 := G2.cell_ 2; have z3 := G2.cell_ 3; simp at z0 z1 z2 z3; obtain ⟨A6, c6, rfl, hl6, _, _, _, O6⟩ := own_slice ho; have HL6 := Lib.hid hl6; clear hl6 ho hb))
        | (go_at_call 9; refine (awake_any _).mono ?_; rintro e' w2 ⟨rfl, hb2⟩))
      go_ret
      exact ⟨rfl, btr HB0 HB0.size hb2⟩
  · have OK1 := Lib.hid ok1
    rcases lay_cases b h82 tk2 tp2 ts2 te2 with hn2 | ⟨K2, P2, S2, E2, rfl, rfl, rfl, rfl, ok2⟩
    · clear ok1
      go_enter Try.func7, Try.ntmps7
      go_wp2_with (first
        | (go_at_call 11; ((with_reducible refine (lay_yes' a _ rfl A1 c1 K1 P1 S1 E1 _ H1 OK1.out).mono ?_); rintro e' wL ⟨sv, rfl, ho, hb⟩; have HB0 := btr HB0 HB0.size hb; have H1 := H1.next hb; have H2 := H2.next hb; have G1 := G1.below hb G1.lt; have G2 := G2.below hb G2.lt; (try clear y0 y1 y2 y3 z0 z1 z2 z3); have y0 := G1.cell_ 0; have y1 := G1.cell_ 1; have y2 := G1.cell_ 2; have y3 := G1.cell_ 3; simp at y0 y1 y2 y3; have z0 := G2.cell_ 0; have z1 := G2.cell_ 1; have z2 := G2.cell_ 2; have z3 := G2.cell_ 3; simp at z0 z1 z2 z3; obtain ⟨A5, c5, rfl, hl5, _, _, _, O5⟩ := own_slice ho; have HL5 := Lib.hid hl5; clear hl5 ho hb))
        | (go_at_call 11; ((with_reducible refine (lay_no b A2 c2 tk2 tp2 ts2 te2 _ hn2 (by omega)).mono ?_); rintro e' wL ⟨rfl, hb⟩; have HB0 := btr HB0 HB0.size hb; have H1 := H1.next hb; have H2 := H2.next hb; have G1 := G1.below hb G1.lt; have G2 := G2.below hb G2.lt; (try clear y0 y1 y2 y3 z0 z1 z2 z3); have y0 := G1.cell_ 0; have y1 := G1.cell_ 1; have y2 := G1.cell_ 2; have y3 := G1.cell_ 3; simp at y0 y1 y2 y3; have z0 := G2.cell_ 0; have z1 := G2.cell_ 1; have z2 := G2.cell_ 2; have z3 := G2.cell_ 3; simp at z0 z1 z2 z3; clear hb))
        | (go_at_call 9; refine (awake_any _).mono ?_; rintro e' w2 ⟨rfl, hb2⟩))
      go_ret
      exact ⟨rfl, btr HB0 HB0.size hb2⟩
    · have OK2 := Lib.hid ok2
      have hi := raw_inj ok1 ok2
      have HI := Lib.hid hi
      clear ok1 ok2 hi
      by_cases hab : a = b
      · subst hab
        by_cases hk : K1 = K2 ∧ P1 = P2 ∧ S1 = S2 ∧ E1 = E2
        · obtain ⟨rfl, rfl, rfl, rfl⟩ := hk
          go_enter Try.func7, Try.ntmps7
          go_wp2_with (first
          | (go_at_call 11; ((with_reducible refine (lay_yes' a _ rfl A1 c1 K1 P1 S1 E1 _ H1 OK1.out).mono ?_); rintro e' wL ⟨sv, rfl, ho, hb⟩; have HB0 := btr HB0 HB0.size hb; have H1 := H1.next hb; have H2 := H2.next hb; have G1 := G1.below hb G1.lt; have G2 := G2.below hb G2.lt; (try clear y0 y1 y2 y3 z0 z1 z2 z3); have y0 := G1.cell_ 0; have y1 := G1.cell_ 1; have y2 := G1.cell_ 2; have y3 := G1.cell_ 3; simp at y0 y1 y2 y3; have z0 := G2.cell_ 0; have z1 := G2.cell_ 1; have z2 := G2.cell_ 2; have z3 := G2.cell_ 3; simp at z0 z1 z2 z3; obtain ⟨A5, c5, rfl, hl5, _, _, _, O5⟩ := own_slice ho; have HL5 := Lib.hid hl5; clear hl5 ho hb))
          | (go_at_call 11; ((with_reducible refine (lay_yes' a _ rfl A2 c2 K1 P1 S1 E1 _ H2 OK1.out).mono ?_); rintro e' wL ⟨sv, rfl, ho, hb⟩; have HB0 := btr HB0 HB0.size hb; have H1 := H1.next hb; have H2 := H2.next hb; have G1 := G1.below hb G1.lt; have G2 := G2.below hb G2.lt; (try clear y0 y1 y2 y3 z0 z1 z2 z3); have y0 := G1.cell_ 0; have y1 := G1.cell_ 1; have y2 := G1.cell_ 2; have y3 := G1.cell_ 3; simp at y0 y1 y2 y3; have z0 := G2.cell_ 0; have z1 := G2.cell_ 1; have z2 := G2.cell_ 2; have z3 := G2.cell_ 3; simp at z0 z1 z2 z3; obtain ⟨A6, c6, rfl, hl6, _, _, _, O6⟩ := own_slice ho; have HL6 := Lib.hid hl6; have O5 := O5.next hb; clear hl6 ho hb))
          | (go_at_call 13; ((with_reducible refine (sameB_b true (rawB a K1 P1 S1 E1) (rawB a K1 P1 S1 E1) _ _ HL5.out HL6.out (decide_eq_true rfl) A5 A6 _ _ _ O5 O6 (by omega) (by omega)).mono ?_); rintro e' wS ⟨rfl, hb⟩; have HB0 := btr HB0 HB0.size hb; have H1 := H1.next hb; have H2 := H2.next hb; have G1 := G1.below hb G1.lt; have G2 := G2.below hb G2.lt; (try clear y0 y1 y2 y3 z0 z1 z2 z3); have y0 := G1.cell_ 0; have y1 := G1.cell_ 1; have y2 := G1.cell_ 2; have y3 := G1.cell_ 3; simp at y0 y1 y2 y3; have z0 := G2.cell_ 0; have z1 := G2.cell_ 1; have z2 := G2.cell_ 2; have z3 := G2.cell_ 3; simp at z0 z1 z2 z3; have O5 := O5.next hb; have O6 := O6.next hb; clear hb))
          | (go_at_call 13; ((with_reducible refine (sameB_b true a a _ _ rfl rfl (decide_eq_true rfl) A1 A2 _ _ _ H1 H2 (by omega) (by omega)).mono ?_); rintro e' wS ⟨rfl, hb⟩; have HB0 := btr HB0 HB0.size hb; have H1 := H1.next hb; have H2 := H2.next hb; have G1 := G1.below hb G1.lt; have G2 := G2.below hb G2.lt; (try clear y0 y1 y2 y3 z0 z1 z2 z3); have y0 := G1.cell_ 0; have y1 := G1.cell_ 1; have y2 := G1.cell_ 2; have y3 := G1.cell_ 3; simp at y0 y1 y2 y3; have z0 := G2.cell_ 0; have z1 := G2.cell_ 1; have z2 := G2.cell_ 2; have z3 := G2.cell_ 3; simp at z0 z1 z2 z3; have O5 := O5.next hb; have O6 := O6.next hb; clear hb))
          | (go_at_call 9; refine (awake_any _).mono ?_; rintro e' w2 ⟨rfl, hb2⟩))
          go_ret
          exact ⟨rfl, btr HB0 HB0.size hb2⟩
        · have hd : decide (rawB a K1 P1 S1 E1 = rawB a K2 P2 S2 E2) = false := decide_eq_false fun h => hk (HI.out.1 h).2
          have HD := Lib.hid hd
          clear hd
          have f1 : ((K1 : Int) == (K2 : Int)) = decide (K1 = K2) := by rw [Bool.eq_iff_iff]; simp; omega
          have hk' : ((K1 : Int) == (K2 : Int)) = false ∨ (((K1 : Int) == (K2 : Int)) = true ∧ ((P1 : Int) == (P2 : Int)) = false) ∨ (((K1 : Int) == (K2 : Int)) = true ∧ ((P1 : Int) == (P2 : Int)) = true ∧ ((S1 : Int) == (S2 : Int)) = false) ∨ (((K1 : Int) == (K2 : Int)) = true ∧ ((P1 : Int) == (P2 : Int)) = true ∧ ((S1 : Int) == (S2 : Int)) = true ∧ ((E1 : Int) == (E2 : Int)) = false) := by
            simp only [beq_iff_eq, beq_eq_false_iff_ne, ne_eq]
            omega
          clear f1 hk
          rcases hk' with u1 | ⟨u1, u2⟩ | ⟨u1, u2, u3⟩ | ⟨u1, u2, u3, u4⟩
          all_goals
            go_enter Try.func7, Try.ntmps7
            go_wp2_with (first
          | (go_at_call 11; ((with_reducible refine (lay_yes' a _ rfl A1 c1 K1 P1 S1 E1 _ H1 OK1.out).mono ?_); rintro e' wL ⟨sv, rfl, ho, hb⟩; have HB0 := btr HB0 HB0.size hb; have H1 := H1.next hb; have H2 := H2.next hb; have G1 := G1.below hb G1.lt; have G2 := G2.below hb G2.lt; (try clear y0 y1 y2 y3 z0 z1 z2 z3); have y0 := G1.cell_ 0; have y1 := G1.cell_ 1; have y2 := G1.cell_ 2; have y3 := G1.cell_ 3; simp at y0 y1 y2 y3; have z0 := G2.cell_ 0; have z1 := G2.cell_ 1; have z2 := G2.cell_ 2; have z3 := G2.cell_ 3; simp at z0 z1 z2 z3; obtain ⟨A5, c5, rfl, hl5, _, _, _, O5⟩ := own_slice ho; have HL5 := Lib.hid hl5; clear hl5 ho hb))
          | (go_at_call 11; ((with_reducible refine (lay_yes' a _ rfl A2 c2 K2 P2 S2 E2 _ H2 OK2.out).mono ?_); rintro e' wL ⟨sv, rfl, ho, hb⟩; have HB0 := btr HB0 HB0.size hb; have H1 := H1.next hb; have H2 := H2.next hb; have G1 := G1.below hb G1.lt; have G2 := G2.below hb G2.lt; (try clear y0 y1 y2 y3 z0 z1 z2 z3); have y0 := G1.cell_ 0; have y1 := G1.cell_ 1; have y2 := G1.cell_ 2; have y3 := G1.cell_ 3; simp at y0 y1 y2 y3; have z0 := G2.cell_ 0; have z1 := G2.cell_ 1; have z2 := G2.cell_ 2; have z3 := G2.cell_ 3; simp at z0 z1 z2 z3; obtain ⟨A6, c6, rfl, hl6, _, _, _, O6⟩ := own_slice ho; have HL6 := Lib.hid hl6; have O5 := O5.next hb; clear hl6 ho hb))
          | (go_at_call 13; ((with_reducible refine (sameB_b false (rawB a K1 P1 S1 E1) (rawB a K2 P2 S2 E2) _ _ HL5.out HL6.out HD.out A5 A6 _ _ _ O5 O6 (by omega) (by omega)).mono ?_); rintro e' wS ⟨rfl, hb⟩; have HB0 := btr HB0 HB0.size hb; have H1 := H1.next hb; have H2 := H2.next hb; have G1 := G1.below hb G1.lt; have G2 := G2.below hb G2.lt; (try clear y0 y1 y2 y3 z0 z1 z2 z3); have y0 := G1.cell_ 0; have y1 := G1.cell_ 1; have y2 := G1.cell_ 2; have y3 := G1.cell_ 3; simp at y0 y1 y2 y3; have z0 := G2.cell_ 0; have z1 := G2.cell_ 1; have z2 := G2.cell_ 2; have z3 := G2.cell_ 3; simp at z0 z1 z2 z3; have O5 := O5.next hb; have O6 := O6.next hb; clear hb))
          | (go_at_call 13; ((with_reducible refine (sameB_b true a a _ _ rfl rfl (decide_eq_true rfl) A1 A2 _ _ _ H1 H2 (by omega) (by omega)).mono ?_); rintro e' wS ⟨rfl, hb⟩; have HB0 := btr HB0 HB0.size hb; have H1 := H1.next hb; have H2 := H2.next hb; have G1 := G1.below hb G1.lt; have G2 := G2.below hb G2.lt; (try clear y0 y1 y2 y3 z0 z1 z2 z3); have y0 := G1.cell_ 0; have y1 := G1.cell_ 1; have y2 := G1.cell_ 2; have y3 := G1.cell_ 3; simp at y0 y1 y2 y3; have z0 := G2.cell_ 0; have z1 := G2.cell_ 1; have z2 := G2.cell_ 2; have z3 := G2.cell_ 3; simp at z0 z1 z2 z3; have O5 := O5.next hb; have O6 := O6.next hb; clear hb))
          | (go_at_call 9; refine (awake_any _).mono ?_; rintro e' w2 ⟨rfl, hb2⟩))
            go_ret
            exact ⟨rfl, btr HB0 HB0.size hb2⟩
      · have hd : decide (rawB a K1 P1 S1 E1 = rawB b K2 P2 S2 E2) = false := decide_eq_false fun h => hab (HI.out.1 h).1
        have HD := Lib.hid hd
        have HAA : Hid (decide (a = b) = false) := Lib.hid (decide_eq_false hab)
        clear hd hab
        go_enter Try.func7, Try.ntmps7
        go_wp2_with (first
          | (go_at_call 11; ((with_reducible refine (lay_yes' a _ rfl A1 c1 K1 P1 S1 E1 _ H1 OK1.out).mono ?_); rintro e' wL ⟨sv, rfl, ho, hb⟩; have HB0 := btr HB0 HB0.size hb; have H1 := H1.next hb; have H2 := H2.next hb; have G1 := G1.below hb G1.lt; have G2 := G2.below hb G2.lt; (try clear y0 y1 y2 y3 z0 z1 z2 z3); have y0 := G1.cell_ 0; have y1 := G1.cell_ 1; have y2 := G1.cell_ 2; have y3 := G1.cell_ 3; simp at y0 y1 y2 y3; have z0 := G2.cell_ 0; have z1 := G2.cell_ 1; have z2 := G2.cell_ 2; have z3 := G2.cell_ 3; simp at z0 z1 z2 z3; obtain ⟨A5, c5, rfl, hl5, _, _, _, O5⟩ := own_slice ho; have HL5 := Lib.hid hl5; clear hl5 ho hb))
          | (go_at_call 11; ((with_reducible refine (lay_yes' b _ rfl A2 c2 K2 P2 S2 E2 _ H2 OK2.out).mono ?_); rintro e' wL ⟨sv, rfl, ho, hb⟩; have HB0 := btr HB0 HB0.size hb; have H1 := H1.next hb; have H2 := H2.next hb; have G1 := G1.below hb G1.lt; have G2 := G2.below hb G2.lt; (try clear y0 y1 y2 y3 z0 z1 z2 z3); have y0 := G1.cell_ 0; have y1 := G1.cell_ 1; have y2 := G1.cell_ 2; have y3 := G1.cell_ 3; simp at y0 y1 y2 y3; have z0 := G2.cell_ 0; have z1 := G2.cell_ 1; have z2 := G2.cell_ 2; have z3 := G2.cell_ 3; simp at z0 z1 z2 z3; obtain ⟨A6, c6, rfl, hl6, _, _, _, O6⟩ := own_slice ho; have HL6 := Lib.hid hl6; have O5 := O5.next hb; clear hl6 ho hb))
          | (go_at_call 13; ((with_reducible refine (sameB_b false (rawB a K1 P1 S1 E1) (rawB b K2 P2 S2 E2) _ _ HL5.out HL6.out HD.out A5 A6 _ _ _ O5 O6 (by omega) (by omega)).mono ?_); rintro e' wS ⟨rfl, hb⟩; have HB0 := btr HB0 HB0.size hb; have H1 := H1.next hb; have H2 := H2.next hb; have G1 := G1.below hb G1.lt; have G2 := G2.below hb G2.lt; (try clear y0 y1 y2 y3 z0 z1 z2 z3); have y0 := G1.cell_ 0; have y1 := G1.cell_ 1; have y2 := G1.cell_ 2; have y3 := G1.cell_ 3; simp at y0 y1 y2 y3; have z0 := G2.cell_ 0; have z1 := G2.cell_ 1; have z2 := G2.cell_ 2; have z3 := G2.cell_ 3; simp at z0 z1 z2 z3; have O5 := O5.next hb; have O6 := O6.next hb; clear hb))
          | (go_at_call 13; ((with_reducible refine (sameB_b false a b _ _ rfl rfl HAA.out A1 A2 _ _ _ H1 H2 (by omega) (by omega)).mono ?_); rintro e' wS ⟨rfl, hb⟩; have HB0 := btr HB0 HB0.size hb; have H1 := H1.next hb; have H2 := H2.next hb; have G1 := G1.below hb G1.lt; have G2 := G2.below hb G2.lt; (try clear y0 y1 y2 y3 z0 z1 z2 z3); have y0 := G1.cell_ 0; have y1 := G1.cell_ 1; have y2 := G1.cell_ 2; have y3 := G1.cell_ 3; simp at y0 y1 y2 y3; have z0 := G2.cell_ 0; have z1 := G2.cell_ 1; have z2 := G2.cell_ 2; have z3 := G2.cell_ 3; simp at z0 z1 z2 z3; have O5 := O5.next hb; have O6 := O6.next hb; clear hb))
          | (go_at_call 9; refine (awake_any _).mono ?_; rintro e' w2 ⟨rfl, hb2⟩))
        go_ret
        exact ⟨rfl, btr HB0 HB0.size hb2⟩
end Go.Proofs.Ytjmochkhdapmiaa
