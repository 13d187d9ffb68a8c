/- May of sheets; the document's own whole, May, one, May. -/
import Derived.Test.YtmnfikfncbppfaaSrB
namespace Go.Proofs.Ytmnfikfncbppfaa
open Go.ChangeShapes Go.WideShapes Go.ChangeAt Go.RowKit
set_option linter.unusedSimpArgs false
set_option linter.unusedVariables false

attribute [local go_sem ↓] Go.wp_at_zero Go.wp_at_succ
theorem whole_yes (z : Int) (w : World) (h : mayZ z = true) : Calls Try.prog 38 #[.float .f64 (F z)] w fun e' w' => e' = .returned (.bool true) ∧ w = w' := by
  have hz := sm_of h
  obtain ⟨b1, b2⟩ := mayZ_bd h
  have hm : Sm (-32768) := by unfold Sm; decide
  have hM : Sm 32767 := by unfold Sm; decide
  have h00 : Sm 0 := by unfold Sm; decide
  have q0 := ord_eq (IsI.f z) (IsI.f 0) hz h00
  have q1 := ord_gt (IsI.f z) (IsI.f (-32768)) hz hm
  have q2 := ord_eq (IsI.f z) (IsI.f (-32768)) hz hm
  have q3 := ord_lt (IsI.f z) (IsI.f 32767) hz hM
  have q4 := ord_eq (IsI.f z) (IsI.f 32767) hz hM
  have q5 := ord_eq (IsI.f z) (IsI.f z) hz hz
  rw [decide_eq_true rfl] at q5
  rw [c_min] at q1 q2
  rw [c_max] at q3 q4
  rw [c_0] at q0
  have e1 : (FloatKind.f64.format.order (F z) 13898108450065350656 == some .gt || FloatKind.f64.format.order (F z) 13898108450065350656 == some .eq) = true := by
    rw [q1, q2]
    by_cases h2 : z = -32768
    · simp [h2]
    · rw [decide_eq_true (by omega : -32768 < z)]; rfl
  have e2 : (FloatKind.f64.format.order (F z) 4674736138332667904 == some .lt || FloatKind.f64.format.order (F z) 4674736138332667904 == some .eq) = true := by
    rw [q3, q4]
    by_cases h2 : z = 32767
    · simp [h2]
    · rw [decide_eq_true (by omega : z < 32767)]; rfl
  have HZ := Lib.hid hz
  clear q1 q2 q3 q4 hm hM h00 hz h b1 b2
  by_cases h0 : z = 0
  · subst h0
    rw [decide_eq_true rfl] at q0
    rw [c_0] at e1 e2 q5 q0
    have hT : Calls Try.prog 37 #[.float .f64 0] w fun e' w' => e' = .returned (.float .f64 0) ∧ w = w' := trunc_c 0 w HZ.out
    rw [c_0]
    go_enter Try.func38, Try.ntmps38
    go_wp2_with (first
      | (go_at_call 37; ((with_reducible refine (hT).mono ?_); rintro e' wN ⟨rfl, rfl⟩; skip))
      | (go_at_call 36; ((with_reducible refine (signbit_0 _).mono ?_); rintro e' wN ⟨rfl, rfl⟩; skip)))
    go_ret
    exact ⟨rfl, rfl⟩
  · rw [decide_eq_false h0] at q0
    have q6 : (FloatKind.f64.format.order (F z) 0 != some .eq) = true := by
      show (!(FloatKind.f64.format.order (F z) 0 == some .eq)) = true
      rw [q0]
      rfl
    clear h0
    go_enter Try.func38, Try.ntmps38
    go_wp2_with (first
      | (go_at_call 37; ((with_reducible refine (trunc_c _ _ HZ.out).mono ?_); rintro e' wN ⟨rfl, rfl⟩; skip)))
    go_ret
    exact ⟨rfl, rfl⟩
theorem rmay1 (x y : Int) (w : World) (hx : Hid (mayZ x = true)) (hy : Hid (mayZ y = true)) : Calls Try.prog 34 #[.complex .f64 (F x) (F y)] w fun e' w' => e' = .returned (.bool true) ∧ w = w' := by
  go_enter Try.func34, Try.ntmps34
  go_wp2_with (first
    | (go_at_call 38; ((with_reducible refine (whole_yes x _ hx.out).mono ?_); rintro e' wN ⟨rfl, rfl⟩; skip))
    | (go_at_call 38; ((with_reducible refine (whole_yes y _ hy.out).mono ?_); rintro e' wN ⟨rfl, rfl⟩; skip)))
  go_ret
  exact ⟨rfl, rfl⟩
set_option maxRecDepth 100000 in
set_option maxHeartbeats 4000000 in
theorem ronest_any (h : Nat) (ps : List Pt) (n : Nat) (A : Option Addr) (c : Nat) (w : World) (hn : ps.length = n) (hq : Sl w w.heap.size A (ps.map ptV)) (n1 : n ≤ 1000000) :
    Calls Try.prog 30 #[.agg #[.int .i64 ((h / 16 : Nat) : Int), .int .i64 ((h % 16 : Nat) : Int), .slice A n c]] w fun e' w' => e' = .returned (.bool (mayT (h, ps))) ∧ Below w.heap.size w w' := by
  rw [mayT_eq h ps n hn]
  obtain ⟨p, hp⟩ : ∃ p, h / 16 = p := ⟨_, rfl⟩
  obtain ⟨q, hq2⟩ : ∃ q, h % 16 = q := ⟨_, rfl⟩
  rw [hp, hq2]
  clear hp hq2
  have hB : Below w.heap.size w (w.alloc (.cells #[.int .i64 (p : Int), .int .i64 (q : Int), .slice A n c] 44)) := (Below.refl _ _).alloc (Nat.le_refl _) _
  by_cases g1 : p ≤ 7
  case neg =>
    rw [decide_eq_false g1]
    have i1 : (7 : Int) < (p : Int) := by omega
    have i2 : (0 : Int) ≤ (p : Int) := by omega
    clear g1 hq
    go_enter Try.func30, Try.ntmps30
    go_wp2
    go_ret
    exact ⟨rfl, hB⟩
  have i1 : ¬ (7 : Int) < (p : Int) := by omega
  have i2 : (0 : Int) ≤ (p : Int) := by omega
  rw [decide_eq_true g1]
  by_cases g2 : 1 ≤ q
  case neg =>
    rw [decide_eq_false g2]
    have j1 : (q : Int) < (1 : Int) := by omega
    clear g1 g2 hq
    go_enter Try.func30, Try.ntmps30
    go_wp2
    go_ret
    exact ⟨rfl, hB⟩
  have j1 : ¬ (q : Int) < (1 : Int) := by omega
  rw [decide_eq_true g2]
  by_cases g3 : q ≤ 9
  case neg =>
    rw [decide_eq_false g3]
    have k1 : (9 : Int) < (q : Int) := by omega
    clear g1 g2 g3 hq
    go_enter Try.func30, Try.ntmps30
    go_wp2
    go_ret
    exact ⟨rfl, hB⟩
  have k1 : ¬ (9 : Int) < (q : Int) := by omega
  rw [decide_eq_true g3]
  by_cases g4 : 1 ≤ n
  case neg =>
    rw [decide_eq_false g4]
    have l1 : (n : Int) < (1 : Int) := by omega
    clear g1 g2 g3 g4 hq
    go_enter Try.func30, Try.ntmps30
    go_wp2
    go_ret
    exact ⟨rfl, hB⟩
  have l1 : ¬ (n : Int) < (1 : Int) := by omega
  rw [decide_eq_true g4]
  by_cases g5 : n ≤ 10
  case neg =>
    rw [decide_eq_false g5]
    have m1 : (10 : Int) < (n : Int) := by omega
    clear g1 g2 g3 g4 g5 hq
    go_enter Try.func30, Try.ntmps30
    go_wp2
    go_ret
    exact ⟨rfl, hB⟩
  have m1 : ¬ (10 : Int) < (n : Int) := by omega
  rw [decide_eq_true g5]
  have HG := Lib.hid (And.intro g4 g5)
  clear g1 g2 g3
  have hq := hq.alloc_ (.cells #[.int .i64 (p : Int), .int .i64 (q : Int), .slice A n c] 44)
  have HL := Lib.hid hn
  have G1 : Blk (w.alloc (.cells #[.int .i64 (p : Int), .int .i64 (q : Int), .slice A n c] 44)) w.heap.size 44 #[.int .i64 (p : Int), .int .i64 (q : Int), .slice A n c] := Blk.new_ _ _ _
  have y2 := G1.cell_ 2
  simp at y2
  go_enter Try.func30, Try.ntmps30
  go_wp2
  go_loop [3] (fun i => ∃ k : Nat, k ≤ n ∧ i = .int .i64 (k : Int)) (fun i => n - (iOf i).toNat)
  case atStart => exact ⟨0, Nat.zero_le _, rfl⟩
  case round =>
    obtain ⟨k, hk, rfl⟩ := hrel
    by_cases hlt : k < n
    · obtain ⟨b1, o1, rfl, lt1, q1⟩ := hq.at_ (by rw [List.length_map, HL.out]; omega)
      obtain ⟨x, hx⟩ : ∃ x, ps[k]? = some x := ⟨_, List.getElem?_eq_getElem (by rw [HL.out]; exact hlt)⟩
      obtain ⟨x1, x2, x3, x4⟩ := x
      have z1 := q1 k (ptV (x1, x2, x3, x4)) (by simp [hx])
      unfold ptV at z1
      dsimp only at z1
      have HM : Hid ((mayZ (ptz x1 x2) && mayZ (ptz x3 x4)) = true) := Lib.hid (by rw [ptz_may, ptz_may]; rfl)
      have i0 : (0 : Int) ≤ (k : Int) := by omega
      have i9 : (k : Int) < (n : Int) := by omega
      clear q1 hx
      go_wp2_with (go_at_call 34; ((with_reducible refine (rmay1 (ptz x1 x2) (ptz x3 x4) _ (Lib.hid (ptz_may _ _)) (Lib.hid (ptz_may _ _))).mono ?_); rintro e' wN ⟨rfl, rfl⟩; skip))
      go_round
      case rel => exact ⟨k + 1, by omega, by go_num⟩
      case measure => simp [iOf]; omega
    · have hkn : k = n := by omega
      subst hkn
      go_wp2
      go_ret
      exact ⟨rfl, hB⟩
set_option maxRecDepth 100000 in
set_option maxHeartbeats 4000000 in
theorem smay_any (es : List (St × Value)) (n : Nat) (A : Option Addr) (c : Nat) (w : World) (hn : es.length = n) (h : ShV w w.heap.size A es) (hps : ∀ e ∈ es, e.1.2.length ≤ 1000000) (n1 : n ≤ 1000000) :
    Calls Try.prog 18 #[.slice A n c] w fun e' w' => e' = .returned (.bool (mayS (es.map Prod.fst))) ∧ Below w.heap.size w w' := by
  have hr : mayS (es.map Prod.fst) = (decide (n ≤ 6) && es.all fun e => mayT e.1) := by
    unfold mayS
    rw [List.length_map, hn, List.all_map]
    rfl
  rw [hr]
  clear hr
  by_cases g1 : n ≤ 6
  case neg =>
    rw [decide_eq_false g1]
    have i1 : (6 : Int) < (n : Int) := by omega
    clear h hps
    go_enter Try.func18, Try.ntmps18
    go_wp2
    go_ret
    exact ⟨rfl, Below.refl _ _⟩
  have i1 : ¬ (6 : Int) < (n : Int) := by omega
  rw [decide_eq_true g1, Bool.true_and]
  have HL := Lib.hid hn
  have HP := Lib.hid hps
  clear hn hps
  go_enter Try.func18, Try.ntmps18
  go_wp2
  go_loopw [10] (fun i wr => ∃ k : Nat, k ≤ n ∧ i = .int .i64 (k : Int) ∧ Hid ((es.take k).all (fun e => mayT e.1) = true) ∧ Below w.heap.size w wr) (fun i _ => n - (iOf i).toNat)
  case atStart => exact ⟨0, Nat.zero_le _, rfl, Lib.hid (by simp), Below.refl _ _⟩
  case round =>
    obtain ⟨k, hk, rfl, HT, hB⟩ := hrel
    by_cases hlt : k < n
    · obtain ⟨b1, o1, rfl, lt1, q1⟩ := (h.below hB).at_ (by rw [HL.out]; omega)
      obtain ⟨e, he⟩ : ∃ e, es[k]? = some e := ⟨_, List.getElem?_eq_getElem (by rw [HL.out]; exact hlt)⟩
      obtain ⟨x0, x1, x2⟩ := q1 k e he
      have hmem : e ∈ es := List.mem_of_getElem? he
      obtain ⟨⟨hh, ps⟩, qv⟩ := e
      obtain ⟨A2, c2, e2, hq⟩ := (h.below hB).2 _ hmem
      dsimp only at e2 x0 x1 x2 hq
      subst e2
      have hpl := HP.out _ hmem
      dsimp only at hpl
      have hsz := hB.size
      have HS : Hid ((es.take (k + 1)).all (fun e => mayT e.1) = mayT (hh, ps)) := Lib.hid (by
        rw [List.take_add_one, List.all_append, HT.out, he]
        simp)
      obtain ⟨m, hm⟩ : ∃ m, ps.length = m := ⟨_, rfl⟩
      rw [hm] at x2 hpl
      have HM := Lib.hid hm
      have i0 : (0 : Int) ≤ (k : Int) := by omega
      have i9 : (k : Int) < (n : Int) := by omega
      obtain ⟨P, hP⟩ : ∃ P, ((hh / 16 : Nat) : Int) = P := ⟨_, rfl⟩
      obtain ⟨R, hR⟩ : ∃ R, ((hh % 16 : Nat) : Int) = R := ⟨_, rfl⟩
      have hBN : Below w.heap.size w (wr.alloc (.cells #[.int .i64 P, .int .i64 R, .slice A2 m c2] 44)) := hB.alloc hsz _
      have hq := (hq.mono hsz).alloc_ (.cells #[.int .i64 P, .int .i64 R, .slice A2 m c2] 44)
      have hone : ∀ B, mayT (hh, ps) = B → Calls Try.prog 24 #[.agg #[.int .i64 P, .int .i64 R, .slice A2 m c2]] (wr.alloc (.cells #[.int .i64 P, .int .i64 R, .slice A2 m c2] 44)) fun e' w' => e' = .returned (.bool B) ∧ Below (wr.alloc (.cells #[.int .i64 P, .int .i64 R, .slice A2 m c2] 44)).heap.size (wr.alloc (.cells #[.int .i64 P, .int .i64 R, .slice A2 m c2] 44)) w' := by
        intro B hBB
        rw [← hBB]
        have h0 := mayst_any hh ps m A2 c2 _ HM.out hq hpl
        rw [hP, hR] at h0
        exact h0
      rw [hP] at x0
      rw [hR] at x1
      have l1' : b1 < wr.heap.size := by omega
      clear q1 he hm hmem
      rcases (by cases hq : mayT (hh, ps) <;> simp : mayT (hh, ps) = true ∨ mayT (hh, ps) = false) with hb | hb
      · have hc := hone true hb
        have HB := Lib.hid hb
        clear hb hone
        go_wp2_with (go_at_call 24; ((with_reducible refine (hc).mono ?_); rintro e' wN ⟨rfl, hbN⟩; skip))
        go_roundw
        case rel => exact ⟨k + 1, by omega, by go_num, Lib.hid (HS.out.trans HB.out), btr hBN hBN.size hbN⟩
        case measure => simp [iOf]; omega
      · have hc := hone false hb
        have HB := Lib.hid hb
        clear hb hone
        have HR : Hid (es.all (fun e => mayT e.1) = false) := Lib.hid (by
          have h1 := HS.out.trans HB.out
          rw [← List.take_append_drop (k + 1) es, List.all_append, h1]
          rfl)
        go_wp2_with (go_at_call 24; ((with_reducible refine (hc).mono ?_); rintro e' wN ⟨rfl, hbN⟩; skip))
        go_ret
        exact ⟨by rw [HR.out]; rfl, btr hBN hBN.size hbN⟩
    · have hkn : k = n := by omega
      subst hkn
      have hr : es.all (fun e => mayT e.1) = true := by
        have := HT.out
        rwa [List.take_of_length_le (by rw [HL.out]; omega)] at this
      have HR := Lib.hid hr
      clear hr
      go_wp2
      go_ret
      exact ⟨by rw [HR.out]; rfl, hB⟩
set_option maxRecDepth 100000 in
set_option maxHeartbeats 4000000 in
theorem rsmay_any (es : List (St × Value)) (n : Nat) (A : Option Addr) (c : Nat) (w : World) (hn : es.length = n) (h : ShV w w.heap.size A es) (hps : ∀ e ∈ es, e.1.2.length ≤ 1000000) (n1 : n ≤ 1000000) :
    Calls Try.prog 25 #[.slice A n c] w fun e' w' => e' = .returned (.bool (mayS (es.map Prod.fst))) ∧ Below w.heap.size w w' := by
  have hr : mayS (es.map Prod.fst) = (decide (n ≤ 6) && es.all fun e => mayT e.1) := by
    unfold mayS
    rw [List.length_map, hn, List.all_map]
    rfl
  rw [hr]
  clear hr
  by_cases g1 : n ≤ 6
  case neg =>
    rw [decide_eq_false g1]
    have i1 : (6 : Int) < (n : Int) := by omega
    clear h hps
    go_enter Try.func25, Try.ntmps25
    go_wp2
    go_ret
    exact ⟨rfl, Below.refl _ _⟩
  have i1 : ¬ (6 : Int) < (n : Int) := by omega
  rw [decide_eq_true g1, Bool.true_and]
  have HL := Lib.hid hn
  have HP := Lib.hid hps
  clear hn hps
  go_enter Try.func25, Try.ntmps25
  go_wp2
  go_loopw [3] (fun i wr => ∃ k : Nat, k ≤ n ∧ i = .int .i64 (k : Int) ∧ Hid ((es.take k).all (fun e => mayT e.1) = true) ∧ Below w.heap.size w wr) (fun i _ => n - (iOf i).toNat)
  case atStart => exact ⟨0, Nat.zero_le _, rfl, Lib.hid (by simp), Below.refl _ _⟩
  case round =>
    obtain ⟨k, hk, rfl, HT, hB⟩ := hrel
    by_cases hlt : k < n
    · obtain ⟨b1, o1, rfl, lt1, q1⟩ := (h.below hB).at_ (by rw [HL.out]; omega)
      obtain ⟨e, he⟩ : ∃ e, es[k]? = some e := ⟨_, List.getElem?_eq_getElem (by rw [HL.out]; exact hlt)⟩
      obtain ⟨x0, x1, x2⟩ := q1 k e he
      have hmem : e ∈ es := List.mem_of_getElem? he
      obtain ⟨⟨hh, ps⟩, qv⟩ := e
      obtain ⟨A2, c2, e2, hq⟩ := (h.below hB).2 _ hmem
      dsimp only at e2 x0 x1 x2 hq
      subst e2
      have hpl := HP.out _ hmem
      dsimp only at hpl
      have hsz := hB.size
      have HS : Hid ((es.take (k + 1)).all (fun e => mayT e.1) = mayT (hh, ps)) := Lib.hid (by
        rw [List.take_add_one, List.all_append, HT.out, he]
        simp)
      obtain ⟨m, hm⟩ : ∃ m, ps.length = m := ⟨_, rfl⟩
      rw [hm] at x2 hpl
      have HM := Lib.hid hm
      have i0 : (0 : Int) ≤ (k : Int) := by omega
      have i9 : (k : Int) < (n : Int) := by omega
      obtain ⟨P, hP⟩ : ∃ P, ((hh / 16 : Nat) : Int) = P := ⟨_, rfl⟩
      obtain ⟨R, hR⟩ : ∃ R, ((hh % 16 : Nat) : Int) = R := ⟨_, rfl⟩
      have hBN := hB
      have hq := hq.mono hsz
      have hone : ∀ B, mayT (hh, ps) = B → Calls Try.prog 30 #[.agg #[.int .i64 P, .int .i64 R, .slice A2 m c2]] wr fun e' w' => e' = .returned (.bool B) ∧ Below wr.heap.size wr w' := by
        intro B hBB
        rw [← hBB]
        have h0 := ronest_any hh ps m A2 c2 _ HM.out hq hpl
        rw [hP, hR] at h0
        exact h0
      rw [hP] at x0
      rw [hR] at x1
      have l1' : b1 < wr.heap.size := by omega
      clear q1 he hm hmem
      rcases (by cases hq : mayT (hh, ps) <;> simp : mayT (hh, ps) = true ∨ mayT (hh, ps) = false) with hb | hb
      · have hc := hone true hb
        have HB := Lib.hid hb
        clear hb hone
        go_wp2_with (go_at_call 30; ((with_reducible refine (hc).mono ?_); rintro e' wN ⟨rfl, hbN⟩; skip))
        go_roundw
        case rel => exact ⟨k + 1, by omega, by go_num, Lib.hid (HS.out.trans HB.out), btr hBN hBN.size hbN⟩
        case measure => simp [iOf]; omega
      · have hc := hone false hb
        have HB := Lib.hid hb
        clear hb hone
        have HR : Hid (es.all (fun e => mayT e.1) = false) := Lib.hid (by
          have h1 := HS.out.trans HB.out
          rw [← List.take_append_drop (k + 1) es, List.all_append, h1]
          rfl)
        go_wp2_with (go_at_call 30; ((with_reducible refine (hc).mono ?_); rintro e' wN ⟨rfl, hbN⟩; skip))
        go_ret
        exact ⟨by rw [HR.out]; rfl, btr hBN hBN.size hbN⟩
    · have hkn : k = n := by omega
      subst hkn
      have hr : es.all (fun e => mayT e.1) = true := by
        have := HT.out
        rwa [List.take_of_length_le (by rw [HL.out]; omega)] at this
      have HR := Lib.hid hr
      clear hr
      go_wp2
      go_ret
      exact ⟨by rw [HR.out]; rfl, hB⟩
end Go.Proofs.Ytmnfikfncbppfaa
