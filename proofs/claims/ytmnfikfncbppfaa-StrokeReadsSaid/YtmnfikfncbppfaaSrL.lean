/- line, point.All and stroke.Turn of it, awake. -/
import Derived.Test.YtmnfikfncbppfaaSrK
import Derived.Test.YtmnfikfncbppfaaTagOp
namespace Go.Proofs.Ytmnfikfncbppfaa
open Go.ChangeShapes Go.WideShapes Go.ChangeAt Go.RowKit
set_option linter.unusedSimpArgs false
set_option linter.unusedVariables false

attribute [local go_sem ↓] Go.wp_at_zero Go.wp_at_succ
attribute [local go_sem] build_onec
theorem c_m2 : F (-2) = 13835058055282163712 := by decide +kernel
theorem c_2 : F 2 = 4611686018427387904 := by decide +kernel
abbrev LST : St := (35, [(0, 1, 255, 254)])
abbrev TST : St := (35, [(0, 2, 0, 1)])
theorem ptV_l : ptV (0, 1, 255, 254) = (.complex .f64 4607182418800017408 13835058055282163712) := by
  have e1 : ptz 0 1 = 1 := by decide
  have e2 : ptz 255 254 = -2 := by decide
  unfold ptV
  dsimp only
  rw [e1, e2, c_1, c_m2]
theorem ptV_t : ptV (0, 2, 0, 1) = (.complex .f64 4611686018427387904 4607182418800017408) := by
  have e1 : ptz 0 2 = 2 := by decide
  have e2 : ptz 0 1 = 1 := by decide
  unfold ptV
  dsimp only
  rw [e1, e2, c_1, c_2]
theorem may_l : mayS [LST] = true := by decide
theorem ok_l : StOk LST := by
  refine ⟨by decide, fun p hp => ?_⟩
  obtain rfl : p = (0, 1, 255, 254) := by simpa using hp
  decide
theorem lay_l : layB [LST] = [1, 35, 1, 0, 1, 255, 254] := by decide
theorem sh_two {w : World} {g g' c : Nat} {s : St} (hg : Blk w g 44 #[.int .i64 ((s.1 / 16 : Nat) : Int), .int .i64 ((s.1 % 16 : Nat) : Int), .slice (some ⟨g', 0, none⟩) s.2.length c]) (hp : Sl w w.heap.size (some ⟨g', 0, none⟩) (s.2.map ptV)) : ShV w w.heap.size (some ⟨g, 0, none⟩) [(s, .slice (some ⟨g', 0, none⟩) s.2.length c)] := by
  refine ⟨Or.inr ⟨g, 0, rfl, hg.lt, fun k x hx j u hu => ?_⟩, fun e he => ?_⟩
  · match k, hx with
    | 0, hx =>
      obtain rfl := Option.some.inj hx
      rw [hg.cell_]
      rw [show 0 + 0 * 3 + j = j by omega]
      match j, hu with
      | 0, hu => exact hu
      | 1, hu => exact hu
      | 2, hu => exact hu
  · obtain rfl : e = (s, .slice (some ⟨g', 0, none⟩) s.2.length c) := by simpa using he
    exact ⟨_, _, rfl, hp⟩
set_option maxRecDepth 100000 in
set_option maxHeartbeats 4000000 in
theorem line_any (w : World) : Calls Try.prog 13 #[] w fun e' w' => ∃ A q, e' = .returned (.slice A 1 1) ∧ ShV w' w'.heap.size A [(LST, q)] ∧ Below w.heap.size w w' := by
  go_enter Try.func13, Try.ntmps13
  go_wp2
  go_ret
  refine ⟨_, .slice (some ⟨w.heap.size, 0, none⟩) 1 1, rfl, ?_, ((Below.refl _ _).alloc (Nat.le_refl _) _).alloc (by simp) _⟩
  refine sh_two (s := LST) (blk_new (by simp)) ?_
  have := (Sl.new_ w 41 [ptV (0, 1, 255, 254)]).alloc_ (.cells #[.int .i64 2, .int .i64 3, .slice (some ⟨w.heap.size, 0, none⟩) 1 1] 44)
  rw [ptV_l] at this
  show Sl _ _ _ [ptV (0, 1, 255, 254)]
  rw [ptV_l]
  exact this
theorem turn_l (w : World) : Calls Try.prog 28 #[(.complex .f64 4607182418800017408 13835058055282163712), .complex .f64 0 4607182418800017408] w fun e' w' => e' = .returned (.tuple #[(.complex .f64 4611686018427387904 4607182418800017408), .bool true]) ∧ w = w' := by
  have h := turn_yes 1 (-2) 0 1 w (by decide) (by decide) (by decide) (by decide) (by decide) (by decide)
  rw [show (1 : Int) * 0 - -2 * 1 = 2 by decide, show (1 : Int) * 1 + -2 * 0 = 1 by decide, c_1, c_2, c_m2, c_0] at h
  exact h
set_option maxRecDepth 100000 in
set_option maxHeartbeats 4000000 in
theorem pall_one (A : Option Addr) (c : Nat) (w : World) (h : Sl w w.heap.size A [(.complex .f64 4607182418800017408 13835058055282163712)]) : Calls Try.prog 22 #[.slice A 1 c, .complex .f64 0 4607182418800017408] w fun e' w' => (∃ q, e' = .returned (.tuple #[q, .bool true]) ∧ w'.ownsRow w.heap.size 41 1 q 1 [(.complex .f64 4611686018427387904 4607182418800017408)]) ∧ Below w.heap.size w w' := by
  go_enter Try.func22, Try.ntmps22
  go_wp2_with (at_make; obtain ⟨ti0, hi, hz0, hz1, hz2⟩ := info_parts infoCx; refine wpList_make_own _ rfl _ _ 42 rfl w.heap.size 41 ti0 _ 1 Try.underlying42 hi hz0 hz1 _ _ _ 1 rfl rfl rfl (by rw [hz2]; omega) (by unfold maxLen; omega) (Nat.le_refl _) ?_; intro w3 ho3 hg3; clear hi hz0 hz1 hz2)
  have hb3 := below_grown_none hg3
  clear hg3
  go_loopw [6, 16] (fun s6 s16 wr => ∃ (k : Nat), k ≤ 1 ∧ s16 = .int .i64 (k : Int) ∧ wr.ownsRow w.heap.size 41 1 s6 k ([(.complex .f64 4611686018427387904 4607182418800017408)].take k) ∧ Below w.heap.size w wr) (fun _ s16 _ => 1 - (iOf s16).toNat)
  case atStart => exact ⟨0, by omega, rfl, ho3, hb3⟩
  case round =>
    obtain ⟨k, hk, rfl, ho, hB⟩ := hrel
    obtain ⟨b1, o1, rfl, lt1, q1⟩ := h.at_ (by simp)
    have z0 := (hB.cell (p := ⟨b1, o1, none⟩) lt1).trans (q1 0 _ rfl)
    rcases (by omega : k = 0 ∨ k = 1) with rfl | rfl
    · go_wp2_with (first | (go_at_call 28; ((with_reducible refine (turn_l _).mono ?_); rintro e' wN ⟨rfl, rfl⟩)) | (at_builtin; obtain ⟨ti0, hi, hz0, hz1, hz2⟩ := info_parts infoCx; refine wpList_app _ rfl (.tmp 28) (.tmp 30) 42 rfl w.heap.size 41 ti0 _ 1 16 Try.underlying42 hi hz0 hz1 hz2 rfl (by decide) _ 0 [] rfl (ho.alloc _) _ 1 1 [(.complex .f64 4611686018427387904 4607182418800017408)] rfl (Rd.one ((Blk.new_ _ _ _).cell_ 0)) (by intro u hu; simp at hu; subst hu; rfl) (by unfold maxLen; omega) (by omega) (by have := hB.size; simp; omega) ?_; intro v2 w2 ho2 hg2 hv2))
      go_roundw
      case rel => exact ⟨1, by omega, rfl, ho2, (hB.alloc hB.size _).trans (below_app (Nat.le_refl _) (by have := hB.size; simp; omega) (ho.alloc _) hg2)⟩
      case measure => simp [iOf]
    · go_wp2
      go_ret2
      exact ⟨⟨_, rfl, ho⟩, hB⟩
set_option maxRecDepth 100000 in
set_option maxHeartbeats 4000000 in
theorem sturn_l (q : Value) (A : Option Addr) (c : Nat) (w : World) (h : ShV w w.heap.size A [(LST, q)]) : Calls Try.prog 14 #[.slice A 1 c, .complex .f64 0 4607182418800017408] w fun e' w' => (∃ v q', e' = .returned (.tuple #[v, .int .i64 0]) ∧ RowS w' w.heap.size v [(TST, q')]) ∧ Below w.heap.size w w' := by
  have hcall := smay_any [(LST, q)] 1 A c w rfl h (by intro e he; obtain rfl : e = (LST, q) := by simpa using he
                                                      show 1 ≤ 1000000
                                                      decide) (by omega)
  rw [show mayS ([(LST, q)].map Prod.fst) = true from may_l] at hcall
  go_enter Try.func14, Try.ntmps14
  go_wp2_with (first | (go_at_call 18; ((with_reducible refine (hcall).mono ?_); rintro e' w1 ⟨rfl, hb1⟩)) | (at_make; obtain ⟨ti0, hi, hz0, hz1, hz2⟩ := info_parts infoSt; refine wpList_make_own _ rfl _ _ 26 rfl w1.heap.size 44 ti0 _ 3 Try.underlying26 hi hz0 hz1 _ _ _ 1 rfl rfl rfl (by rw [hz2]; omega) (by unfold maxLen; omega) (Nat.le_refl _) ?_; intro w3 ho3 hg3; clear hi hz0 hz1 hz2))
  have hb3 := btr hb1 hb1.size (below_grown_none hg3)
  have ho4 := own_base ho3 hb1.size
  clear hg3 ho3 hcall
  go_loopw [6, 19] (fun s6 s19 wr => ∃ (k : Nat), k ≤ 1 ∧ s19 = .int .i64 (k : Int) ∧ Below w.heap.size w wr ∧ ((k = 0 ∧ s6 = .slice (some ⟨w1.heap.size, 0, none⟩) 0 1 ∧ wr.ownsRow w.heap.size 44 3 s6 0 []) ∨ (k = 1 ∧ ∃ q', RowS wr w.heap.size s6 [(TST, q')]))) (fun _ s19 _ => 1 - (iOf s19).toNat)
  case atStart => exact ⟨0, by omega, rfl, hb3, Or.inl ⟨rfl, rfl, ho4⟩⟩
  case round =>
    obtain ⟨k, hk, rfl, hB, hk2⟩ := hrel
    rcases hk2 with ⟨rfl, rfl, ho⟩ | ⟨rfl, q', hR⟩
    · obtain ⟨b1, o1, rfl, lt1, q1⟩ := h.at_ (by simp)
      obtain ⟨x0w, x1w, x2w⟩ := q1 0 _ rfl
      obtain ⟨A1, c1, e1, sP⟩ := h.2 _ (List.mem_singleton.2 rfl)
      dsimp only at e1 x0w x1w x2w sP
      subst e1
      have x0 : wr.cell? ⟨b1, o1, none⟩ = some (.int .i64 2) := (hB.cell (p := ⟨b1, o1, none⟩) lt1).trans (by simpa using x0w)
      have x1 : wr.cell? ⟨b1, o1 + 1, none⟩ = some (.int .i64 3) := (hB.cell (p := ⟨b1, o1 + 1, none⟩) lt1).trans (by simpa using x1w)
      have x2 : wr.cell? ⟨b1, o1 + 2, none⟩ = some (.slice A1 1 c1) := (hB.cell (p := ⟨b1, o1 + 2, none⟩) lt1).trans (by simpa using x2w)
      have sP2 : Sl w w.heap.size A1 [(.complex .f64 4607182418800017408 13835058055282163712)] := by
        have := sP
        simp only [List.map_cons, List.map_nil, ptV_l] at this
        exact this
      have hBa : Below w.heap.size w (wr.alloc (.cells #[.int .i64 2, .int .i64 3, .slice A1 1 c1] 44)) := hB.alloc hB.size _
      have hcA := pall_one A1 c1 _ (sP2.next hBa)
      have HX := Blk.new_ wr 44 #[.int .i64 2, .int .i64 3, .slice A1 1 c1]
      have hLT := HX.lt
      have hoA := own_below ho (show Below wr.heap.size wr (wr.alloc (.cells #[.int .i64 2, .int .i64 3, .slice A1 1 c1] 44)) from (Below.refl _ _).alloc (Nat.le_refl _) _)
      clear x0w x1w x2w q1 sP
      go_wp2_with (first | (go_at_call 22; ((with_reducible refine (hcA).mono ?_); rintro e' wQ ⟨⟨q9, rfl, hoq⟩, hbq⟩; have HXQ := HX.below hbq hLT; have y0 := HXQ.cell_ 0; have y1 := HXQ.cell_ 1; simp at y0 y1; have HQB := btr hBa hBa.size hbq; obtain ⟨A9, c9, rfl, hs9⟩ := own_slB hoq; have hoY := own_below hoA hbq)) | (at_builtin; obtain ⟨ti0, hi, hz0, hz1, hz2⟩ := info_parts infoSt; refine wpList_app _ rfl (.tmp 32) (.tmp 39) 26 rfl w.heap.size 44 ti0 _ 3 40 Try.underlying26 hi hz0 hz1 hz2 rfl (by decide) _ 0 [] rfl (hoY.alloc _) _ 1 _ [.int .i64 2, .int .i64 3, .slice A9 1 c9] rfl (rd_newS _ _ _ _ _ _ rfl) (by simp [Value.oneCell']) (by unfold maxLen; omega) (by omega) (by have := HQB.size; simp; omega) ?_; intro v2 w2 ho2 hg2 hv2))
      have hP : RowP wQ w.heap.size (.slice A9 1 c9) TST.2 := by
        unfold RowP
        have := own_base hoq hBa.size
        rw [← ptV_t] at this
        exact this
      have hav : Ap (.slice A9 1 c9) (.slice (some ⟨w1.heap.size, 0, none⟩) 0 1) := fun g hg hg2 => by
        have h1 := (own_at hoq g hg).1
        have h2 := (own_at ho g hg2).2
        simp at h1
        omega
      have hS0 : RowS wQ w.heap.size (.slice (some ⟨w1.heap.size, 0, none⟩) 0 1) [] := ⟨hoY, by simp, by simp⟩
      have hS2 : RowS w2 w.heap.size v2 ([] ++ [(TST, .slice A9 1 c9)]) := str_app (hP.alloc_ _) (hS0.alloc_ _) hav (show w2.ownsRow w.heap.size 44 3 v2 (([] : List (St × Value)).length + 1) (([] : List (St × Value)).flatMap eC ++ eC (TST, .slice A9 1 c9)) by simpa [eC] using ho2) hg2 hv2
      refine ⟨⟨1, by omega, rfl, (HQB.alloc HQB.size _).trans (below_gr hg2 (hoY.alloc _) (Nat.le_refl _) (by have := HQB.size; simp; omega)), Or.inr ⟨rfl, _, hS2⟩⟩, by simp [iOf]⟩
    · go_wp2
      go_ret2
      exact ⟨⟨_, _, rfl, hR⟩, hB⟩
end Go.Proofs.Ytmnfikfncbppfaa
