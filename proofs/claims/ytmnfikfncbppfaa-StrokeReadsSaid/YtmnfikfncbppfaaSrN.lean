/- awake. -/
import Derived.Test.YtmnfikfncbppfaaSrL
namespace Go.Proofs.Ytmnfikfncbppfaa
open Go.ChangeShapes Go.WideShapes Go.ChangeAt Go.RowKit
set_option linter.unusedSimpArgs false
set_option linter.unusedVariables false

attribute [local go_sem ↓] Go.wp_at_zero Go.wp_at_succ
theorem slay_l (q : Value) (A : Option Addr) (w : World) (h : ShV w w.heap.size A [(LST, q)]) : Calls Try.prog 12 #[.slice A 1 1] w fun e' w' => (∃ A2 c2, e' = .returned (.tuple #[.slice A2 7 c2, .int .i64 0]) ∧ Sl w' w'.heap.size A2 ([1, 35, 1, 0, 1, 255, 254].map byteV) ∧ 7 ≤ c2 ∧ c2 ≤ maxLen) ∧ Below w.heap.size w w' := by
  refine (slay_ok [(LST, q)] 1 A 1 w rfl h may_l (fun e he => (by simpa using he : e = (LST, q)) ▸ ok_l)).mono ?_
  rintro e' w' ⟨⟨v, rfl, ho⟩, hb⟩
  rw [show ([(LST, q)].map Prod.fst) = [LST] from rfl, lay_l] at ho
  refine ⟨?_, hb⟩
  rcases ho.2 with ⟨rfl, h0⟩ | ⟨g, cap, cur, rfl, h1, h2, h3, h4, h5, h6⟩
  · simp at h0
  · exact ⟨_, cap, rfl, Sl.of_own ho, h3, h4⟩
theorem sread_l (A : Option Addr) (c : Nat) (w : World) (h : Sl w w.heap.size A ([1, 35, 1, 0, 1, 255, 254].map byteV)) (hc : 7 ≤ c) (hm : c ≤ maxLen) : Calls Try.prog 6 #[.slice A 7 c] w fun e' w' => (∃ A2 c2 q, e' = .returned (.tuple #[.slice A2 1 c2, .int .i64 0]) ∧ ShV w' w'.heap.size A2 [(LST, q)]) ∧ Below w.heap.size w w' := by
  refine (sread_any [1, 35, 1, 0, 1, 255, 254] 7 A c w rfl h (by intro x hx; simp at hx; omega) hc hm (by omega)).mono ?_
  rintro e' w' ⟨hg, hb⟩
  refine ⟨?_, hb⟩
  have hr : rd [1, 35, 1, 0, 1, 255, 254] = some [LST] := by
    have := rd_lay may_l
    rw [lay_l] at this
    exact this
  rcases hg with ⟨v, es, h1, h2, rfl⟩ | ⟨h1, _⟩
  · rw [hr] at h1
    obtain ⟨A2, c2, rfl, hs⟩ := h2.sh
    have h3 : es.map Prod.fst = [LST] := (Option.some.inj h1).symm
    match es, h3 with
    | [(s, q)], h3 =>
      obtain rfl : s = LST := by simpa using h3
      exact ⟨A2, c2, q, rfl, hs⟩
  · rw [hr] at h1
    cases h1
theorem sread_0 (w : World) : Calls Try.prog 6 #[.slice none 0 0] w fun e' w' => e' = .returned (.tuple #[.slice none 0 0, .int .i64 5]) ∧ Below w.heap.size w w' := by
  refine (sread_any [] 0 none 0 w rfl Sl.nil_ (by intro x hx; simp at hx) (by omega) (by omega) (by omega)).mono ?_
  rintro e' w' ⟨hg, hb⟩
  refine ⟨?_, hb⟩
  rcases hg with ⟨v, es, h1, _⟩ | ⟨_, h1⟩
  · cases h1
  · exact h1
theorem sturn_sh (q : Value) (A : Option Addr) (w : World) (h : ShV w w.heap.size A [(LST, q)]) : Calls Try.prog 14 #[.slice A 1 1, .complex .f64 0 4607182418800017408] w fun e' w' => (∃ A2 c2 q', e' = .returned (.tuple #[.slice A2 1 c2, .int .i64 0]) ∧ ShV w' w'.heap.size A2 [(TST, q')]) ∧ Below w.heap.size w w' := by
  refine (sturn_l q A 1 w h).mono ?_
  rintro e' w' ⟨⟨v, q', rfl, hR⟩, hb⟩
  obtain ⟨A2, c2, rfl, hs⟩ := hR.sh
  exact ⟨⟨A2, c2, q', rfl, hs⟩, hb⟩
theorem sameSh_l (q q' : Value) (A B : Option Addr) (c d : Nat) (w : World) (h1 : ShV w w.heap.size A [(LST, q)]) (h2 : ShV w w.heap.size B [(LST, q')]) : Calls Try.prog 10 #[.slice A 1 c, .slice B 1 d] w fun e' w' => e' = .returned (.bool true) ∧ Below w.heap.size w w' :=
  sameSh_any [(LST, q)] [(LST, q')] 1 A B c d w rfl rfl h1 h2 rfl (fun e he => by obtain rfl : e = (LST, q) := by simpa using he
                                                                                  show 1 ≤ 1000000
                                                                                  decide) (by omega)
theorem ssize_l (q : Value) (A : Option Addr) (w : World) (h : ShV w w.heap.size A [(LST, q)]) : Calls Try.prog 16 #[.slice A 1 1] w fun e' w' => e' = .returned (.int .i64 7) ∧ Below w.heap.size w w' := by
  have := ssize_any [(LST, q)] 1 A 1 w rfl h may_l
  rw [show ([(LST, q)].map Prod.fst) = [LST] from rfl, lay_l] at this
  exact this
theorem sameB_l (A B : Option Addr) (c d : Nat) (w : World) (h1 : Sl w w.heap.size A ([1, 35, 1, 0, 1, 255, 254].map byteV)) (h2 : Sl w w.heap.size B ([1, 35, 1, 0, 1, 255, 254].map byteV)) : Calls Try.prog 15 #[.slice A 7 c, .slice B 7 d] w fun e' w' => e' = .returned (.bool true) ∧ Below w.heap.size w w' := by
  have := sameB_any [1, 35, 1, 0, 1, 255, 254] [1, 35, 1, 0, 1, 255, 254] A B c d w h1 h2 (by simp) (by simp)
  simpa using this
theorem lit_l (w : World) {g : Nat} (hg : g = w.heap.size) : Sl (w.alloc (.cells #[.int .u8 1, .int .u8 35, .int .u8 1, .int .u8 0, .int .u8 1, .int .u8 255, .int .u8 254] 5)) (w.alloc (.cells #[.int .u8 1, .int .u8 35, .int .u8 1, .int .u8 0, .int .u8 1, .int .u8 255, .int .u8 254] 5)).heap.size (some ⟨g, 0, none⟩) ([1, 35, 1, 0, 1, 255, 254].map byteV) := by
  subst hg
  exact Sl.new_ w 5 ([1, 35, 1, 0, 1, 255, 254].map byteV)
theorem tsh_cells {w : World} {B : Nat} {A : Option Addr} {q : Value} (h : ShV w B A [(TST, q)]) : ∃ b o b2 o2 c, A = some ⟨b, o, none⟩ ∧ w.cell? ⟨b, o + 2, none⟩ = some (.slice (some ⟨b2, o2, none⟩) 1 c) ∧ w.cell? ⟨b2, o2, none⟩ = some (.complex .f64 4611686018427387904 4607182418800017408) := by
  obtain ⟨b1, o1, rfl, lt1, q1⟩ := h.at_ (by simp)
  obtain ⟨_, _, x2w⟩ := q1 0 _ rfl
  obtain ⟨A1, c1, e1, sP⟩ := h.2 _ (List.mem_singleton.2 rfl)
  obtain ⟨b2, o2, rfl, lt2, q2⟩ := sP.at_ (by simp)
  have z := q2 0 _ rfl
  dsimp only at e1 x2w
  rw [e1] at x2w
  refine ⟨b1, o1, b2, o2, c1, rfl, by simpa using x2w, ?_⟩
  rw [← ptV_t]
  simpa using z
theorem cplx_eq (w : World) : (binOp .eql 41 (.complex .f64 4611686018427387904 4607182418800017408) (.complex .f64 4611686018427387904 4607182418800017408)).run Try.prog w = .ok (.bool true) w := by kernel_rfl
theorem cplx_eq0 : binOp .eql 41 (.complex .f64 4611686018427387904 4607182418800017408) (.complex .f64 4611686018427387904 4607182418800017408) = pure (.bool true) := by kernel_rfl
set_option maxRecDepth 100000 in
set_option maxHeartbeats 4000000 in
theorem awake_any (w : World) : Calls Try.prog 4 #[] w fun e' w' => e' = .returned (.bool true) ∧ Below w.heap.size w w' := by
  go_enter Try.func4, Try.ntmps4
  go_wp2_with (first
    | (go_at_call 13; ((with_reducible refine (line_any w).mono ?_); rintro e' wA ⟨A1, q1, rfl, sh1, hbA⟩))
    | (go_at_call 12; ((with_reducible refine (slay_l q1 A1 wA sh1).mono ?_); rintro e' wB ⟨⟨A2, c2, rfl, sl2, hc2, hm2⟩, hbB⟩; have HBB := hbA.trans (hbB.mono hbA.size)))
    | (go_at_call 6; ((with_reducible refine (sread_l A2 c2 wB sl2 hc2 hm2).mono ?_); rintro e' wC ⟨⟨A3, c3, q3, rfl, sh3⟩, hbC⟩; have HBC := HBB.trans (hbC.mono HBB.size); have sl2C := sl2.next hbC))
    | (go_at_call 13; ((with_reducible refine (line_any wC).mono ?_); rintro e' wD ⟨A4, q4, rfl, sh4, hbD⟩; have HBD := HBC.trans (hbD.mono HBC.size); have sl2D := sl2C.next hbD; have sh3D := sh3.next hbD))
    | (go_at_call 14; ((with_reducible refine (sturn_sh q4 A4 wD sh4).mono ?_); rintro e' wE ⟨⟨A5, c5, q5, rfl, sh5⟩, hbE⟩; have HBE := HBD.trans (hbE.mono HBD.size); have sl2E := sl2D.next hbE; have sh3E := sh3D.next hbE))
    | (go_at_call 6; ((with_reducible refine (sread_0 wE).mono ?_); rintro e' wF ⟨rfl, hbF⟩; have HBF := HBE.trans (hbF.mono HBE.size); have sl2F := (sl2E.next hbF).alloc_ (.cells #[.int .u8 1, .int .u8 35, .int .u8 1, .int .u8 0, .int .u8 1, .int .u8 255, .int .u8 254] 5); have hbF1 : Below wF.heap.size wF (wF.alloc (.cells #[.int .u8 1, .int .u8 35, .int .u8 1, .int .u8 0, .int .u8 1, .int .u8 255, .int .u8 254] 5)) := (Below.refl _ _).alloc (Nat.le_refl _) _; have sh3F := (sh3E.next hbF).next hbF1; have sh5F := (sh5.next hbF).next hbF1; have HBF1 := HBF.trans (hbF1.mono HBF.size)))
    | (go_at_call 15; ((with_reducible refine (sameB_l A2 _ c2 7 _ sl2F (lit_l wF (by simp))).mono ?_); rintro e' wG ⟨rfl, hbG⟩; have HBG := HBF1.trans (hbG.mono HBF1.size); have sh3G := sh3F.next hbG; have sh5G := sh5F.next hbG))
    | (go_at_call 13; ((with_reducible refine (line_any wG).mono ?_); rintro e' wH ⟨A6, q6, rfl, sh6, hbH⟩; have HBH := HBG.trans (hbH.mono HBG.size); have sh3H := sh3G.next hbH; have sh5H := sh5G.next hbH))
    | (go_at_call 10; ((with_reducible refine (sameSh_l q3 q6 A3 A6 c3 1 wH sh3H sh6).mono ?_); rintro e' wI ⟨rfl, hbI⟩; have HBI := HBH.trans (hbI.mono HBH.size); have sh5I := sh5H.next hbI; obtain ⟨b8, o8, b9, o9, c9, rfl, z8, z9⟩ := tsh_cells sh5I; have hce := cplx_eq wI))
    | (go_at_call 13; ((with_reducible refine (line_any wI).mono ?_); rintro e' wJ ⟨A7, q7, rfl, sh7, hbJ⟩; have HBJ := HBI.trans (hbJ.mono HBI.size)))
    | (go_at_call 16; ((with_reducible refine (ssize_l q7 A7 wJ sh7).mono ?_); rintro e' wK ⟨rfl, hbK⟩; have HBK := HBJ.trans (hbK.mono HBJ.size))))
  go_ret
  exact ⟨rfl, HBK⟩
end Go.Proofs.Ytmnfikfncbppfaa
