/- Chapter 13's own map: Pages, New. -/
import Derived.Test.YtfefjjebjjfkdaaMapRD
import Derived.Test.YtfefjjebjjfkdaaMapE
namespace Go.Proofs.Ytfefjjebjjfkdaa
open Go.ChangeShapes Go.WideShapes Go.ChangeAt Go.RowKit
set_option linter.unusedSimpArgs false
set_option linter.unusedVariables false

theorem RefW.drew {w : World} {r g : Nat} {a b c d e : Int} {L : Nat} {A : List Int} (h : RefW w r g a b c d e L A) : RefW w.drew r g a b c d e L A := h.like rfl
set_option maxHeartbeats 4000000 in
theorem rpages_any (r g : Nat) (a b c d e : Int) (L N : Nat) (A W : List Int) (w : World) (hM : RefW w r g a b c d e L A) (hI : InvM N A W) (hL : L ≤ 1000) (hN : N ≤ 1000) :
    Calls Try.prog 22 #[.pointer (some ⟨r, 0, none⟩)] w fun e' w' => (∃ v, e' = .returned v ∧ w'.ownsRow w.heap.size 3 1 v (pagesF A L).length ((pagesF A L).map (Value.int .i64))) ∧ Below w.heap.size w w' := by
  go_enter Try.func22, Try.ntmps22
  go_wp2_with fail
  go_loopw [3, 4] (fun s3 s4 wr => ∃ (j n : Nat) (v : Value), j ≤ L ∧ s4 = .int .i64 (j : Int) ∧ s3 = v ∧ (pagesF A j).length = n ∧ wr.ownsRow w.heap.size 3 1 v n ((pagesF A j).map (Value.int .i64)) ∧ Below w.heap.size w wr) (fun _ i _ => L - (intOf i).toNat)
  case atStart => exact ⟨0, 0, _, Nat.zero_le _, rfl, rfl, rfl, World.ownsRow_nil _ _ _ _, Below.refl _ _⟩
  case round =>
    obtain ⟨j, n, v, hj, rfl, e9, hn, ho, hB⟩ := hrel
    have e9' := e9.symm
    subst e9'
    have hMr := hM.below hB
    have hnl : n ≤ j := by rw [← hn]; exact pagesF_le A j
    obtain ⟨_, -, -, -, -, -, y5, ya, -, -⟩ := hMr.get
    by_cases hlt : j < L
    · have i0 : (0 : Int) ≤ (j : Int) := by omega
      have i1 : (j : Int) < (L : Int) := by omega
      have cz := ya j hlt
      clear ya
      have HN := Lib.hid hn
      clear hn
      by_cases hz : A.getD j (-1) = -1
      · have hst := pagesF_no hz
        have HST := Lib.hid hst
        rw [hz] at cz
        clear hst hz
        go_wp2_with fail
        go_roundw
        case rel => exact ⟨j + 1, n, _, by omega, by go_num, rfl, by rw [HST.out]; exact HN.out, by rw [HST.out]; exact ho, hB⟩
        case measure => simp [intOf]; omega
      · have hst := pagesF_yes hz
        have HST := Lib.hid hst
        obtain ⟨z, hzn, hze⟩ := numN hI (by rw [hM.len]; exact hlt) hz
        rw [hze] at cz
        have hzq : (0 : Int) ≤ (z : Int) := by omega
        obtain ⟨PL, hPL⟩ : ∃ PL, pagesF A j = PL := ⟨_, rfl⟩
        rw [hPL] at ho
        have HPL := Lib.hid hPL
        clear hst hze hz hPL
        obtain ⟨A3, c3, hv3, -, -, -, -⟩ := own_sliceV ho
        subst hv3
        go_wp2_with (at_builtin; obtain ⟨ti0, hi, hz0, hz1, hz2⟩ := info_parts infoInt; refine wpList_app _ rfl (.tmp 22) (.tmp 24) _ rfl w.heap.size 3 ti0 _ 1 8 Try.underlying41 hi hz0 hz1 hz2 rfl (by decide) (.slice A3 n c3) n (PL.map (Value.int .i64)) rfl (ho.alloc _) _ 1 _ [.int .i64 (j : Int)] rfl (Rd.one (by simp)) (by simp [Value.oneCell']) (by unfold maxLen; omega) (by omega) (by simp; have := hB.size; omega) ?_; intro v' w' ho' hg' hv'; clear hi hz0 hz1 hz2)
        have hlt' := ho.lt
        go_roundw
        case rel =>
          refine ⟨j + 1, n + 1, v', by omega, by go_num, rfl, ?_, ?_, ?_⟩
          · rw [HST.out, List.length_append, HN.out]
            rfl
          · rw [HST.out, HPL.out, List.map_append]
            exact ho'
          · exact (hB.alloc (by have := hB.size; omega) _).grown hg' (by simp; have := hB.size; omega) (fun g' hg'' => (hlt' g' hg'').1)
        case measure => simp [intOf]; omega
    · have hjL : j = L := by omega
      subst hjL
      subst hn
      clear ya hlt
      go_wp2_with fail
      go_ret
      exact ⟨⟨_, rfl, ho⟩, hB⟩
theorem rmay_b (a b c d e : Int) (M : Bool) (w : World) (hm : Hid (mayB a b c d e = M)) :
    Calls Try.prog 28 #[.agg #[.int .i64 a, .int .i64 b, .int .i64 c, .int .i64 d, .int .i64 e]] w fun e' w' => e' = .returned (.bool M) ∧ Below w.heap.size w w' := by
  have q := rmay_any a b c d e w
  rwa [hm.out] at q
theorem rlog_b (a b c d e : Int) (L : Nat) (w : World) (hm : Hid (mayB a b c d e = true)) (hl : Hid (logicalI a b d = (L : Int))) :
    Calls Try.prog 29 #[.agg #[.int .i64 a, .int .i64 b, .int .i64 c, .int .i64 d, .int .i64 e]] w fun e' w' => e' = .returned (.int .i64 (L : Int)) ∧ Below w.heap.size w w' := by
  have q := rLogical_any a b c d e w
  rwa [ifMay_yes _ hm.out, hl.out] at q
theorem rnew_no (a b c d e : Int) (w : World) (HM : Hid (mayB a b c d e = false)) :
    Calls Try.prog 8 #[.agg #[.int .i64 a, .int .i64 b, .int .i64 c, .int .i64 d, .int .i64 e]] w fun e' w' => e' = .returned (.pointer none) ∧ Below w.heap.size w w' := by
  have HB0 : Below w.heap.size w (w.alloc (.cells #[.int .i64 a, .int .i64 b, .int .i64 c, .int .i64 d, .int .i64 e] 23)) := (Below.refl _ _).alloc (Nat.le_refl _) _
  go_enter Try.func8, Try.ntmps8
  go_wp2_with (go_at_call 28; ((with_reducible refine (rmay_b _ _ _ _ _ _ _ HM).mono ?_); rintro e' wN ⟨rfl, hb⟩; have HB0 := btr HB0 HB0.size hb))
  go_ret
  exact ⟨rfl, HB0⟩
theorem own_below {w w' : World} {base : Nat} {e : TypeId} {size n : Nat} {v : Value} {xs : List Value} (h : w.ownsRow base e size v n xs) (hb : Below w.heap.size w w') : w'.ownsRow base e size v n xs :=
  h.kept (row := none) ⟨hb.os, hb.tape, hb.output, hb.size, fun k hk _ => hb.block k hk⟩ (by cases v.ownBlock <;> simp)
theorem own_set {w : World} {base : Nat} {e : TypeId} {n : Nat} {v : Value} {xs : List Value} (h : w.ownsRow base e 1 v n xs) {p : Addr} (hp : p.block < base) (u : Value) : (w.setCell p u).ownsRow base e 1 v n xs := by
  have hb := (Below.refl (0 : Nat) w).setCell (p := p) (Nat.zero_le _) u
  refine h.kept (row := some p.block) ⟨hb.os, hb.tape, hb.output, hb.size, fun k hk hne => Below.heap_setCell w p u k (fun e => hne (by rw [e]))⟩ ?_
  cases hv : v.ownBlock with
  | none => exact Or.inl rfl
  | some g =>
    right
    intro he
    cases he
    have := (h.lt _ hv).1
    omega
theorem blk_grown {w w' : World} {g : Nat} {t : TypeId} {cs : Array Value} {row : Option Nat} (h : Blk w g t cs) (hg : w.grownBy w' row) (hne : row ≠ some g) : Blk w' g t cs := (hg.block g h.lt (fun e => hne e.symm)).trans h
theorem own_ne {w : World} {base : Nat} {e : TypeId} {n : Nat} {v : Value} {xs : List Value} (h : w.ownsRow base e 1 v n xs) {m : Nat} (hm : m < base) : v.ownBlock ≠ some m := by
  intro he
  have := (h.lt _ he).1
  omega
theorem repl_succ (j : Nat) : (List.replicate (j + 1) (-1 : Int)).map (Value.int .i64) = (List.replicate j (-1 : Int)).map (Value.int .i64) ++ [.int .i64 (-1)] := by
  rw [List.replicate_succ', List.map_append]
  rfl
set_option maxHeartbeats 4000000 in
theorem rnew_yes (a b c d e : Int) (L : Nat) (w : World) (HM : Hid (mayB a b c d e = true)) (HLOG : Hid (logicalI a b d = (L : Int))) (n1 : 1 ≤ L) (n2 : L ≤ 1000) :
    Calls Try.prog 8 #[.agg #[.int .i64 a, .int .i64 b, .int .i64 c, .int .i64 d, .int .i64 e]] w fun e' w' => (∃ r g, e' = .returned (.pointer (some ⟨r, 0, none⟩)) ∧ RefW w' r g a b c d e L (List.replicate L (-1)) ∧ w.heap.size ≤ r ∧ w.heap.size ≤ g) ∧ Below w.heap.size w w' := by
  have HB0 : Below w.heap.size w (w.alloc (.cells #[.int .i64 a, .int .i64 b, .int .i64 c, .int .i64 d, .int .i64 e] 23)) := (Below.refl _ _).alloc (Nat.le_refl _) _
  have G1 : Blk (w.alloc (.cells #[.int .i64 a, .int .i64 b, .int .i64 c, .int .i64 d, .int .i64 e] 23)) w.heap.size 23 #[.int .i64 a, .int .i64 b, .int .i64 c, .int .i64 d, .int .i64 e] := Blk.new_ _ _ _
  go_enter Try.func8, Try.ntmps8
  go_wp2_with (go_at_call 28; ((with_reducible refine (rmay_b _ _ _ _ _ _ _ HM).mono ?_); rintro e' wN ⟨rfl, hb⟩; have HB0 := btr HB0 HB0.size hb; have G1 := G1.below hb G1.lt; have y0 := G1.cell_ 0; have y1 := G1.cell_ 1; have y2 := G1.cell_ 2; have y3 := G1.cell_ 3; have y4 := G1.cell_ 4; simp at y0 y1 y2 y3 y4))
  obtain ⟨m, hm⟩ : ∃ m, wN.heap.size = m := ⟨_, rfl⟩
  have hlm : w.heap.size < m := by rw [← hm]; exact G1.lt
  have HBm := (HB0.alloc HB0.size (.cells #[.int .i64 a, .int .i64 b, .int .i64 c, .int .i64 d, .int .i64 e, .slice none 0 0] 54))
  have Gm := G1.alloc_ (.cells #[.int .i64 a, .int .i64 b, .int .i64 c, .int .i64 d, .int .i64 e, .slice none 0 0] 54)
  have GN := Blk.new_ wN 54 #[.int .i64 a, .int .i64 b, .int .i64 c, .int .i64 d, .int .i64 e, .slice none 0 0]
  rw [hm] at GN
  have hms : m + 1 ≤ (wN.alloc (.cells #[.int .i64 a, .int .i64 b, .int .i64 c, .int .i64 d, .int .i64 e, .slice none 0 0] 54)).heap.size := by rw [← hm]; simp
  clear y0 y1 y2 y3 y4
  (try rw [hm])
  clear hm
  generalize wN.alloc (.cells #[.int .i64 a, .int .i64 b, .int .i64 c, .int .i64 d, .int .i64 e, .slice none 0 0] 54) = w2 at *
  go_loopw [4] (fun s4 wr => ∃ (j : Nat) (v : Value), j ≤ L ∧ s4 = .int .i64 (j : Int) ∧ Blk wr m 54 #[.int .i64 a, .int .i64 b, .int .i64 c, .int .i64 d, .int .i64 e, v] ∧ wr.ownsRow (m + 1) 3 1 v j ((List.replicate j (-1 : Int)).map (Value.int .i64)) ∧ Blk wr w.heap.size 23 #[.int .i64 a, .int .i64 b, .int .i64 c, .int .i64 d, .int .i64 e] ∧ Below w.heap.size w wr ∧ m + 1 ≤ wr.heap.size) (fun i _ => L - (intOf i).toNat)
  case atStart => exact ⟨0, _, Nat.zero_le _, rfl, GN, World.ownsRow_nil _ _ _ _, Gm, HBm, hms⟩
  case round =>
    clear HBm Gm GN hms
    obtain ⟨j, v, hj, rfl, GN, ho, G1, HBr, hsz⟩ := hrel
    obtain ⟨A3, c3, hv3, -, -, -, -⟩ := own_sliceV ho
    subst hv3
    have y0 := G1.cell_ 0; have y1 := G1.cell_ 1; have y2 := G1.cell_ 2; have y3 := G1.cell_ 3; have y4 := G1.cell_ 4; simp at y0 y1 y2 y3 y4
    by_cases hlt : j < L
    · have i0 : (0 : Int) ≤ (j : Int) := by omega
      have i1 : (j : Int) < (L : Int) := by omega
      go_wp2_with (first
        | (go_at_call 29; ((with_reducible refine (rlog_b _ _ _ _ _ L _ HM HLOG).mono ?_); rintro e' wL ⟨rfl, hb⟩; have GN := GN.below hb GN.lt; have ho := own_below ho hb; have G1 := G1.below hb G1.lt; have HBr := btr HBr HBr.size hb; have hsz := Nat.le_trans hsz hb.size; clear y0 y1 y2 y3 y4; have m5 := GN.cell_ 5; have mf := GN.free 5; simp at m5 mf))
        | (at_builtin; obtain ⟨ti0, hi, hz0, hz1, hz2⟩ := info_parts infoInt; refine wpList_app _ rfl (.tmp 21) (.tmp 22) _ rfl (m + 1) 3 ti0 _ 1 8 Try.underlying41 hi hz0 hz1 hz2 rfl (by decide) (.slice A3 j c3) j ((List.replicate j (-1 : Int)).map (Value.int .i64)) rfl (ho.alloc _) _ 1 _ [.int .i64 (-1)] rfl (Rd.one (by simp)) (by simp [Value.oneCell']) (by unfold maxLen; omega) (by omega) (by simp; omega) ?_; intro v' w' ho' hg' hv'; clear hi hz0 hz1 hz2 m5 mf; obtain ⟨A5, c5, hv5, -, -, -, -⟩ := own_sliceV ho'; subst hv5; have GNb := blk_grown (GN.alloc_ _) hg' (own_ne ho (Nat.lt_succ_self _)); have m5 := GNb.cell_ 5; have mf := GNb.free 5; simp at m5 mf))
      have G1b := blk_grown (G1.alloc_ _) hg' (own_ne ho (by omega))
      have HBx := (HBr.alloc HBr.size _).grown hg' (by simp; omega) (fun g' hg'' => Nat.le_trans (by omega) ((ho.alloc (.cells #[.int .i64 (-1)] 3)).lt g' hg'').1)
      have hszx := hg'.size
      simp at hszx
      have GNc := GNb.set_ 5 (.slice A5 (j + 1) c5)
      simp at GNc
      have hoc := own_set ho' (p := ⟨m, 5, none⟩) (Nat.lt_succ_self _) (.slice A5 (j + 1) c5)
      have G1c := G1b.far (p := ⟨m, 5, none⟩) (by simp; omega) (.slice A5 (j + 1) c5)
      have HBc := HBx.setCell (p := ⟨m, 5, none⟩) (by simp; omega) (.slice A5 (j + 1) c5)
      go_roundw
      case rel => exact ⟨j + 1, (.slice A5 (j + 1) c5), by omega, by go_num, GNc, by rw [repl_succ]; exact hoc, G1c, HBc, by have := (Below.refl (0 : Nat) w').setCell (p := ⟨m, 5, none⟩) (Nat.zero_le _) (.slice A5 (j + 1) c5); have := this.size; omega⟩
      case measure => simp [intOf]; omega
    · have hjL : j = L := by omega
      subst hjL
      go_wp2_with (go_at_call 29; ((with_reducible refine (rlog_b _ _ _ _ _ j _ HM HLOG).mono ?_); rintro e' wL ⟨rfl, hb⟩; have GN := GN.below hb GN.lt; have ho := own_below ho hb; have HBr := btr HBr HBr.size hb))
      go_ret
      obtain ⟨g, c9, hv, hrow, hge⟩ := own_row ho n1
      cases hv
      exact ⟨⟨m, g, rfl, ⟨⟨_, GN⟩, hrow, by omega, by simp⟩, by omega, by omega⟩, HBr⟩
end Go.Proofs.Ytfefjjebjjfkdaa
