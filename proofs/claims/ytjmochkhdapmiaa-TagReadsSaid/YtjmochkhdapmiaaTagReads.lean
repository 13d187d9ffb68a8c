/- TagReads: the walk. -/
import Derived.Test.YtjmochkhdapmiaaTagRO
namespace Go.Proofs.Ytjmochkhdapmiaa
open Go.ChangeShapes Go.WideShapes Go.ChangeAt Go.RowKit
attribute [local go_sem ↓] Go.wp_at_zero Go.wp_at_succ
set_option linter.unusedSimpArgs false
set_option linter.unusedVariables false

theorem keptB_n (xs : List Nat) (n : Nat) (hn : xs.length = n) (g : Nat) (B : Option Addr) (d : Nat) (w : World) (h1 : LentB w g (xs.map byteV)) (h2 : Sl w w.heap.size B (xs.map byteV)) (n1 : n ≤ 1000000) :
    Calls Try.prog 17 #[.slice (some ⟨g, 0, none⟩) n (n + 3), .slice B n d] w fun e w' => e = .returned (.bool true) ∧ Below w.heap.size w w' := by
  subst hn
  exact (keptB_any xs xs g B d w h1 h2 n1 n1).mono fun e w' h => ⟨by rw [h.1]; simp, h.2⟩
theorem lendB_n (bs : List Nat) (n : Nat) (hn : bs.length = n) (A : Option Addr) (c : Nat) (w : World) (h1 : Sl w w.heap.size A (bs.map byteV)) (n1 : bs.length ≤ 1000000) (hA : A = none → bs.length = 0 ∧ c = 0) :
    Calls Try.prog 10 #[.slice A n c] w fun e w' =>
      ∃ g, e = .returned (.slice (some ⟨g, 0, none⟩) n (n + 3)) ∧ w.heap.size ≤ g ∧ LentB w' g (bs.map byteV) ∧ w'.ownsRow w.heap.size 5 1 (.slice (some ⟨g, 0, none⟩) n (n + 3)) n (bs.map byteV) ∧ Below w.heap.size w w' := by
  subst hn
  exact lendB_own bs A c w h1 n1 hA
theorem sameB_nil (w : World) : Calls Try.prog 13 #[.slice none 0 0, .slice none 0 0] w fun e w' => e = .returned (.bool true) ∧ Below w.heap.size w w' :=
  sameB_b true [] [] 0 0 rfl rfl (by simp) none none 0 0 w Sl.nil_ Sl.nil_ (by omega) (by omega)
theorem blk_grown {w w' : World} {g h : Nat} {T : TypeId} {cs : Array Value} (hb : Blk w g T cs) (hg : w.grownBy w' (some h)) (hne : g ≠ h) : Blk w' g T cs :=
  (hg.block g hb.lt (fun he => hne (Option.some.inj he))).trans hb

set_option maxRecDepth 100000 in
set_option maxHeartbeats 8000000 in
theorem reads_walk (A1 : Option Addr) (n1 c1 : Nat) (raw : List Nat) (w : World) (r1 : SlA w A1 n1 c1 (raw.map byteV)) (h8 : Bytes8 raw) :
    Calls Try.prog 4 #[.slice A1 n1 c1] w fun e' w' => e' = .returned (.bool true) ∧ Below w.heap.size w w' := by
  obtain ⟨e1, h1, k1, k1p, hnil⟩ := r1
  rw [List.length_map] at e1
  have H1 := h1
  have HB0 : Below w.heap.size w w := Below.refl _ _
  have HN : Hid (raw.length = n1) := Lib.hid e1.symm
  have HNIL : Hid (A1 = none → raw.length = 0 ∧ c1 = 0) := Lib.hid (by rw [← e1]; exact hnil)
  have HK1 := Lib.hid (And.intro k1 k1p)
  clear e1 hnil h1 k1 k1p
  by_cases hx : 120 < n1
  · have g1 : (120 : Int) < (n1 : Int) := by omega
    clear hx
    go_enter Try.func4, Try.ntmps4
    go_wp2_with (go_at_call 9; refine (awake_any _).mono ?_; rintro e' wA ⟨rfl, hb⟩; have HB0 := btr HB0 HB0.size hb; clear hb)
    go_ret
    exact ⟨rfl, HB0⟩
  have g1 : ¬ (120 : Int) < (n1 : Int) := by omega
  have m1 : n1 ≤ 120 := by omega
  clear hx
  by_cases hs : readSt raw = 1
  · have hq := ok_split h8 hs
    rw [HN.out] at hq
    obtain ⟨n, D, Ka, Pa, Sa, Ea, hq⟩ := hq
    have HQ := Lib.hid hq
    have hDl : D.length = n := by rw [← hq.hD]; have := hq.hl; simp; omega
    have hn2 := hq.hn2
    have hn1 := hq.hn1
    have HDL := Lib.hid hDl
    clear hq hs hDl
    go_enter Try.func4, Try.ntmps4
    go_wp2_with (first
      | (go_at_call 10; ((with_reducible refine (lendB_n raw n1 HN.out A1 c1 _ H1 (by have := HN.out; omega) HNIL.out).mono ?_); rintro e' wL ⟨gL, rfl, hgL, LT, LO, hb⟩; have HB0 := hb; have H1 := H1.next hb; have hltL := LT.lt; clear hb))
      | (go_at_call 19; ((with_reducible refine (read_ok HQ.out (some ⟨gL, 0, none⟩) _ _ LT.sl (by omega) (by unfold maxLen; omega)).mono ?_); rintro e' wV ⟨sd, rfl, hoD, hb⟩; have hltV : gL < wV.heap.size := Nat.lt_of_lt_of_le LT.lt hb.size; have LT := LT.below hb LT.lt; have LT := LT.below ((Below.refl _ _).alloc (Nat.le_refl _) (.cells #[.int .i64 (Ka : Nat), .int .i64 (Pa : Nat), .int .i64 (Sa : Nat), .int .i64 (Ea : Nat)] 24)) LT.lt; have LO := (own_below LO hb).alloc (.cells #[.int .i64 (Ka : Nat), .int .i64 (Pa : Nat), .int .i64 (Sa : Nat), .int .i64 (Ea : Nat)] 24); have H1 := (H1.next hb).alloc_ (.cells #[.int .i64 (Ka : Nat), .int .i64 (Pa : Nat), .int .i64 (Sa : Nat), .int .i64 (Ea : Nat)] 24); have HB0 := (btr HB0 HB0.size hb).alloc (btr HB0 HB0.size hb).size (.cells #[.int .i64 (Ka : Nat), .int .i64 (Pa : Nat), .int .i64 (Sa : Nat), .int .i64 (Ea : Nat)] 24); have T1 : Blk (wV.alloc (.cells #[.int .i64 (Ka : Nat), .int .i64 (Pa : Nat), .int .i64 (Sa : Nat), .int .i64 (Ea : Nat)] 24)) wV.heap.size 24 #[.int .i64 (Ka : Nat), .int .i64 (Pa : Nat), .int .i64 (Sa : Nat), .int .i64 (Ea : Nat)] := Blk.new_ _ _ _; obtain ⟨g5, c5, rfl, -, -⟩ := hoD.form (by omega); have hD5 : gL < g5 := (by { have := (hoD.lt g5 rfl).1; omega }); have hoD := hoD.alloc (.cells #[.int .i64 (Ka : Nat), .int .i64 (Pa : Nat), .int .i64 (Sa : Nat), .int .i64 (Ea : Nat)] 24); clear hb))
      | (go_at_call 20; ((with_reducible refine (rread_ok HQ.out A1 c1 _ H1 HK1.out.1 HK1.out.2).mono ?_); rintro e' wX ⟨sx, rfl, hoX, hb⟩; have T1 := (T1.below hb T1.lt).alloc_ (.cells #[.int .i64 (Ka : Nat), .int .i64 (Pa : Nat), .int .i64 (Sa : Nat), .int .i64 (Ea : Nat)] 24); have hltX : gL < wX.heap.size := Nat.lt_of_lt_of_le LT.lt hb.size; have hltM := LT.lt; have hoD := (own_below hoD hb).alloc (.cells #[.int .i64 (Ka : Nat), .int .i64 (Pa : Nat), .int .i64 (Sa : Nat), .int .i64 (Ea : Nat)] 24); have LT := LT.below hb LT.lt; have LT := LT.below ((Below.refl _ _).alloc (Nat.le_refl _) (.cells #[.int .i64 (Ka : Nat), .int .i64 (Pa : Nat), .int .i64 (Sa : Nat), .int .i64 (Ea : Nat)] 24)) LT.lt; have LO := (own_below LO hb).alloc (.cells #[.int .i64 (Ka : Nat), .int .i64 (Pa : Nat), .int .i64 (Sa : Nat), .int .i64 (Ea : Nat)] 24); have H1 := (H1.next hb).alloc_ (.cells #[.int .i64 (Ka : Nat), .int .i64 (Pa : Nat), .int .i64 (Sa : Nat), .int .i64 (Ea : Nat)] 24); have HB0 := (btr HB0 HB0.size hb).alloc (btr HB0 HB0.size hb).size (.cells #[.int .i64 (Ka : Nat), .int .i64 (Pa : Nat), .int .i64 (Sa : Nat), .int .i64 (Ea : Nat)] 24); have T2 : Blk (wX.alloc (.cells #[.int .i64 (Ka : Nat), .int .i64 (Pa : Nat), .int .i64 (Sa : Nat), .int .i64 (Ea : Nat)] 24)) wX.heap.size 24 #[.int .i64 (Ka : Nat), .int .i64 (Pa : Nat), .int .i64 (Sa : Nat), .int .i64 (Ea : Nat)] := Blk.new_ _ _ _; obtain ⟨g6, c6, rfl, -, -⟩ := hoX.form (by omega); have hD6 : gL < g6 := (by { have := (hoX.lt g6 rfl).1; omega }); have hoX := hoX.alloc (.cells #[.int .i64 (Ka : Nat), .int .i64 (Pa : Nat), .int .i64 (Sa : Nat), .int .i64 (Ea : Nat)] 24); clear hb))
      | (go_at_call 17; ((with_reducible refine (keptB_n raw n1 HN.out gL A1 _ _ LT H1 (by omega)).mono ?_); rintro e' wK ⟨rfl, hb⟩; have HB0 := btr HB0 HB0.size hb; have LO := own_below LO hb; have T1 := T1.below hb T1.lt; have T2 := T2.below hb T2.lt; have hoD := own_below hoD hb; have hoX := own_below hoX hb; clear hb))
      | (go_at_call 18; ((with_reducible refine (over_own n1 gL (n1 + 3) _ w.heap.size _ LO HB0.size (by omega)).mono ?_); rintro e' wO ⟨⟨vO, rfl⟩, hg⟩; have HB0 := HB0.grown hg HB0.size (fun k hk => by cases hk; exact hgL); have T1 := blk_grown T1 hg (by omega); have T2 := blk_grown T2 hg (by omega); have hoD := hoD.kept hg (Or.inr (by simp [Value.ownBlock]; omega)); have hoX := hoX.kept hg (Or.inr (by simp [Value.ownBlock]; omega)); clear hg))
      | (go_at_call 13; ((with_reducible refine (sameB_b true D D n n HDL.out HDL.out (decide_eq_true rfl) _ _ _ _ _ (Sl.of_own hoD) (Sl.of_own hoX) (by omega) (by omega)).mono ?_); rintro e' wS ⟨rfl, hb⟩; have HB0 := btr HB0 HB0.size hb; have T1 := T1.below hb T1.lt; have T2 := T2.below hb T2.lt; have x0 := T1.cell_ 0; have x1 := T1.cell_ 1; have x2 := T1.cell_ 2; have x3 := T1.cell_ 3; simp at x0 x1 x2 x3; have y0 := T2.cell_ 0; have y1 := T2.cell_ 1; have y2 := T2.cell_ 2; have y3 := T2.cell_ 3; simp at y0 y1 y2 y3; clear hb))
      | (go_at_call 9; refine (awake_any _).mono ?_; rintro e' wA ⟨rfl, hb⟩; have HB0 := btr HB0 HB0.size hb; clear hb))
    go_ret
    exact ⟨rfl, HB0⟩
  · obtain ⟨st, hst⟩ : ∃ st, readSt raw = st := ⟨_, rfl⟩
    rw [hst] at hs
    have HST := Lib.hid hst
    clear hst
    go_enter Try.func4, Try.ntmps4
    go_wp2_with (first
      | (go_at_call 10; ((with_reducible refine (lendB_n raw n1 HN.out A1 c1 _ H1 (by have := HN.out; omega) HNIL.out).mono ?_); rintro e' wL ⟨gL, rfl, hgL, LT, LO, hb⟩; have HB0 := hb; have H1 := H1.next hb; have hltL := LT.lt; clear hb))
      | (go_at_call 19; ((with_reducible refine (read_bad raw n1 HN.out (some ⟨gL, 0, none⟩) _ _ LT.sl h8 (by omega) (by unfold maxLen; omega) (by omega) st HST.out (by omega)).mono ?_); rintro e' wV ⟨rfl, hb⟩; have hltV : gL < wV.heap.size := Nat.lt_of_lt_of_le LT.lt hb.size; have LT := LT.below hb LT.lt; have LT := LT.below ((Below.refl _ _).alloc (Nat.le_refl _) (.cells #[.int .i64 0, .int .i64 0, .int .i64 0, .int .i64 0] 24)) LT.lt; have LO := (own_below LO hb).alloc (.cells #[.int .i64 0, .int .i64 0, .int .i64 0, .int .i64 0] 24); have H1 := (H1.next hb).alloc_ (.cells #[.int .i64 0, .int .i64 0, .int .i64 0, .int .i64 0] 24); have HB0 := (btr HB0 HB0.size hb).alloc (btr HB0 HB0.size hb).size (.cells #[.int .i64 0, .int .i64 0, .int .i64 0, .int .i64 0] 24); have T1 : Blk (wV.alloc (.cells #[.int .i64 0, .int .i64 0, .int .i64 0, .int .i64 0] 24)) wV.heap.size 24 #[.int .i64 0, .int .i64 0, .int .i64 0, .int .i64 0] := Blk.new_ _ _ _; clear hb))
      | (go_at_call 20; ((with_reducible refine (rread_bad raw n1 HN.out A1 c1 _ H1 h8 HK1.out.1 HK1.out.2 (by omega) st HST.out (by omega)).mono ?_); rintro e' wX ⟨rfl, hb⟩; have T1 := (T1.below hb T1.lt).alloc_ (.cells #[.int .i64 0, .int .i64 0, .int .i64 0, .int .i64 0] 24); have hltX : gL < wX.heap.size := Nat.lt_of_lt_of_le LT.lt hb.size; have LT := LT.below hb LT.lt; have LT := LT.below ((Below.refl _ _).alloc (Nat.le_refl _) (.cells #[.int .i64 0, .int .i64 0, .int .i64 0, .int .i64 0] 24)) LT.lt; have LO := (own_below LO hb).alloc (.cells #[.int .i64 0, .int .i64 0, .int .i64 0, .int .i64 0] 24); have H1 := (H1.next hb).alloc_ (.cells #[.int .i64 0, .int .i64 0, .int .i64 0, .int .i64 0] 24); have HB0 := (btr HB0 HB0.size hb).alloc (btr HB0 HB0.size hb).size (.cells #[.int .i64 0, .int .i64 0, .int .i64 0, .int .i64 0] 24); have T2 : Blk (wX.alloc (.cells #[.int .i64 0, .int .i64 0, .int .i64 0, .int .i64 0] 24)) wX.heap.size 24 #[.int .i64 0, .int .i64 0, .int .i64 0, .int .i64 0] := Blk.new_ _ _ _; clear hb))
      | (go_at_call 17; ((with_reducible refine (keptB_n raw n1 HN.out gL A1 _ _ LT H1 (by omega)).mono ?_); rintro e' wK ⟨rfl, hb⟩; have HB0 := btr HB0 HB0.size hb; have LO := own_below LO hb; have T1 := T1.below hb T1.lt; have T2 := T2.below hb T2.lt; clear hb))
      | (go_at_call 18; ((with_reducible refine (over_own n1 gL (n1 + 3) _ w.heap.size _ LO HB0.size (by omega)).mono ?_); rintro e' wO ⟨⟨vO, rfl⟩, hg⟩; have HB0 := HB0.grown hg HB0.size (fun k hk => by cases hk; exact hgL); have T1 := blk_grown T1 hg (by omega); have T2 := blk_grown T2 hg (by omega); clear hg))
      | (go_at_call 13; ((with_reducible refine (sameB_nil _).mono ?_); rintro e' wS ⟨rfl, hb⟩; have HB0 := btr HB0 HB0.size hb; have T1 := T1.below hb T1.lt; have T2 := T2.below hb T2.lt; have x0 := T1.cell_ 0; have x1 := T1.cell_ 1; have x2 := T1.cell_ 2; have x3 := T1.cell_ 3; simp at x0 x1 x2 x3; have y0 := T2.cell_ 0; have y1 := T2.cell_ 1; have y2 := T2.cell_ 2; have y3 := T2.cell_ 3; simp at y0 y1 y2 y3; clear hb))
      | (go_at_call 9; refine (awake_any _).mono ?_; rintro e' wA ⟨rfl, hb⟩; have HB0 := btr HB0 HB0.size hb; clear hb))
    go_ret
    exact ⟨rfl, HB0⟩
end Go.Proofs.Ytjmochkhdapmiaa
