/- Live, Pages, Copy of a map; New. -/
import Derived.Test.YtfefjjebjjfkdaaMapD
namespace Go.Proofs.Ytfefjjebjjfkdaa
open Go.ChangeShapes Go.WideShapes Go.ChangeAt Go.RowKit
set_option linter.unusedSimpArgs false
set_option linter.unusedVariables false

theorem Row.below {w w' : World} {g : Nat} {xs : List Int} (h : Row w g xs) (hb : Below w.heap.size w w') : Row w' g xs := h.keep (hb.block _ h.lt)
theorem Row.drew {w : World} {g : Nat} {xs : List Int} (h : Row w g xs) : Row w.drew g xs := h.keep rfl
theorem own_sliceV {w : World} {base : Nat} {e : TypeId} {v : Value} {n : Nat} {vs : List Value} (h : w.ownsRow base e 1 v n vs) : ∃ (A : Option Addr) (c : Nat), v = .slice A n c ∧ vs.length = n ∧ n ≤ c ∧ c ≤ maxLen ∧ Sl w w.heap.size A vs := by
  have hl : vs.length = n := by
    have := h.1
    omega
  rcases h.2 with ⟨hv, h0⟩ | ⟨g, cap, cur, hv, hbg, hh, hnc, hm, hsz, ht⟩
  · subst h0
    exact ⟨none, 0, hv, hl, Nat.le_refl _, by unfold maxLen; omega, Or.inl (List.eq_nil_of_length_eq_zero hl)⟩
  · subst hv
    exact ⟨some ⟨g, 0, none⟩, cap, rfl, hl, hnc, hm, Sl.of_own h⟩
def liveF (a b : Int) (A : List Int) (x : Int) (j : Nat) : Nat := (List.range j).countP fun (i : Nat) => whoB a b A x (i : Int)
theorem liveF_succ (a b : Int) (A : List Int) (x : Int) (j : Nat) : liveF a b A x (j + 1) = liveF a b A x j + if whoB a b A x (j : Int) then 1 else 0 := by
  simp [liveF, List.range_succ, List.countP_append, List.countP_cons]
theorem liveF_le (a b : Int) (A : List Int) (x : Int) (j : Nat) : liveF a b A x j ≤ j := by
  have := List.countP_le_length (p := fun i : Nat => whoB a b A x (i : Int)) (l := List.range j)
  simpa [liveF] using this
theorem who_b (m g1 g2 : Nat) (a b c d e : Int) (L N : Nat) (A W : List Int) (x y : Int) (B : Bool) (w : World) (hM : MapW w m g1 g2 a b c d e L N A W) (HM : Hid (mayB a b c d e = true)) (hN : N ≤ 1000) (hab : Hid ((N : Int) = a * b)) (hB : whoB a b A x y = B) :
    Calls Try.prog 16 #[.pointer (some ⟨m, 0, none⟩), .agg #[.int .i64 x, .int .i64 y]] w fun e' w' => (∃ z, e' = .returned (.tuple #[.int .i64 z, .bool B])) ∧ Below w.heap.size w w' := by
  refine (who_any m g1 g2 a b c d e L N A W x y w hM HM hN hab.out).mono ?_
  rintro e' w' ⟨rfl, hb⟩
  rw [hB]
  exact ⟨⟨_, rfl⟩, hb⟩
theorem live_any (m g1 g2 : Nat) (a b c d e : Int) (L N : Nat) (A W : List Int) (x : Int) (w : World) (hM : MapW w m g1 g2 a b c d e L N A W) (HM : Hid (mayB a b c d e = true)) (hN : N ≤ 1000) (hab : (N : Int) = a * b) :
    Calls Try.prog 19 #[.pointer (some ⟨m, 0, none⟩), .int .i64 x] w fun e' w' => e' = .returned (.int .i64 (liveF a b A x b.toNat : Nat)) ∧ Below w.heap.size w w' := by
  have HAB := Lib.hid hab
  have hbd := may_bd HM.out
  obtain ⟨B, rfl⟩ : ∃ B : Nat, b = (B : Int) := ⟨b.toNat, by omega⟩
  rw [Int.toNat_natCast]
  have b1 : (4 : Int) ≤ (B : Int) := hbd.2.2.1
  have b2 : (B : Int) ≤ 8 := hbd.2.2.2.1
  clear hab hbd
  obtain ⟨c1, c2, y0, y1, y2, y3, y4, y5, y6, -, -, -, -, -⟩ := hM.get
  go_enter Try.func19, Try.ntmps19
  go_wp2_with fail
  go_loopw [5, 16] (fun s5 s16 wr => ∃ j : Nat, j ≤ B ∧ s16 = .int .i64 (j : Int) ∧ s5 = .int .i64 ((liveF a (B : Int) A x j : Nat) : Int) ∧ Below w.heap.size w wr) (fun _ i _ => B - (intOf i).toNat)
  case atStart => exact ⟨0, Nat.zero_le _, rfl, rfl, Below.refl _ _⟩
  case round =>
    obtain ⟨j, hj, rfl, rfl, HB0⟩ := hrel
    have hMr := hM.below HB0
    have hls := liveF_succ a (B : Int) A x j
    have hll := liveF_le a (B : Int) A x j
    obtain ⟨Q, hQ⟩ : ∃ Q, liveF a (B : Int) A x j = Q := ⟨_, rfl⟩
    rw [hQ] at hls hll ⊢
    have HQ := Lib.hid hQ
    have q0 : (0 : Int) ≤ (Q : Int) := by omega
    have q1 : (Q : Int) ≤ 100 := by omega
    clear hQ y0 y1 y2 y3 y4 y5 y6
    by_cases hlt : j < B
    · have i0 : (0 : Int) ≤ (j : Int) := by omega
      have i1 : (j : Int) < (B : Int) := by omega
      rcases (by cases hq : whoB a (B : Int) A x (j : Int) <;> simp : whoB a (B : Int) A x (j : Int) = false ∨ whoB a (B : Int) A x (j : Int) = true) with hw | hw
      all_goals
        rw [hw] at hls
        have HLS := Lib.hid hls
        have HW := Lib.hid hw
        clear hls hw
        go_wp2_with (go_at_call 16; ((with_reducible refine (who_b _ _ _ _ _ _ _ _ _ _ _ _ _ _ _ _ hMr HM hN HAB HW.out).mono ?_); rintro e' wN ⟨⟨z, rfl⟩, hb⟩; have HB0 := btr HB0 HB0.size hb))
        go_roundw
        case rel => exact ⟨j + 1, by omega, by go_num, by rw [HLS.out]; (first | rfl | go_num), HB0⟩
        case measure => simp [intOf]; omega
    · have hjB : j = B := by omega
      subst hjB
      go_wp2_with fail
      go_ret
      rw [HQ.out]
      exact ⟨rfl, HB0⟩
def pagesF (A : List Int) (j : Nat) : List Int := ((List.range j).filter fun (p : Nat) => decide (A.getD p (-1) ≠ -1)).map fun (p : Nat) => (p : Int)
theorem pagesF_yes {A : List Int} {j : Nat} (h : A.getD j (-1) ≠ -1) : pagesF A (j + 1) = pagesF A j ++ [(j : Int)] := by
  unfold pagesF
  rw [List.range_succ, List.filter_append, List.map_append]
  congr 1
  rw [List.filter_cons_of_pos (by exact decide_eq_true h)]
  rfl
theorem pagesF_no {A : List Int} {j : Nat} (h : A.getD j (-1) = -1) : pagesF A (j + 1) = pagesF A j := by
  unfold pagesF
  rw [List.range_succ, List.filter_append, List.filter_cons_of_neg (by rw [decide_eq_true_eq]; exact fun hh => hh h)]
  simp
theorem pagesF_le (A : List Int) (j : Nat) : (pagesF A j).length ≤ j := by
  have := List.length_filter_le (fun (p : Nat) => decide (A.getD p (-1) ≠ -1)) (List.range j)
  simpa [pagesF] using this
set_option maxHeartbeats 4000000 in
theorem pages_any (m g1 g2 : Nat) (a b c d e : Int) (L N : Nat) (A W : List Int) (w : World) (hM : MapW w m g1 g2 a b c d e L N A W) (hL : L ≤ 1000) :
    Calls Try.prog 18 #[.pointer (some ⟨m, 0, none⟩)] w fun e' w' => (∃ v, e' = .returned v ∧ w'.ownsRow w.heap.size 3 1 v (pagesF A L).length ((pagesF A L).map (Value.int .i64))) ∧ Below w.heap.size w w' := by
  obtain ⟨c1, c2, y0, y1, y2, y3, y4, y5, y6, -, -, -, -, -⟩ := hM.get
  go_enter Try.func18, Try.ntmps18
  go_wp2_with fail
  go_loopw [3, 13] (fun s3 s13 wr => ∃ (j n : Nat) (v : Value), j ≤ L ∧ s13 = .int .i64 (j : Int) ∧ s3 = v ∧ (pagesF A j).length = n ∧ wr.ownsRow w.heap.size 3 1 v n ((pagesF A j).map (Value.int .i64)) ∧ Below w.heap.size w wr) (fun _ i _ => L - (intOf i).toNat)
  case atStart => exact ⟨0, 0, _, Nat.zero_le _, rfl, rfl, rfl, World.ownsRow_nil _ _ _ _, Below.refl _ _⟩
  case round =>
    obtain ⟨j, n, v, hj, rfl, e9, hn, ho, hB⟩ := hrel
    have e9' := e9.symm
    subst e9'
    have hMr := hM.below hB
    have hnl : n ≤ j := by rw [← hn]; exact pagesF_le A j
    clear y0 y1 y2 y3 y4 y5 y6
    obtain ⟨_, _, -, -, -, -, -, -, -, ya, -, -, -, -⟩ := hMr.get
    by_cases hlt : j < L
    · have i0 : (0 : Int) ≤ (j : Int) := by omega
      have i1 : (j : Int) < (L : Int) := by omega
      have cz := ya j hlt
      clear ya
      have HN := Lib.hid hn
      clear hn
      by_cases hz : A.getD j (-1) = -1
      · have hst := pagesF_no hz
        have HST := Lib.hid hst
        rw [hz] at cz
        clear hst hz
        go_wp2_with fail
        go_roundw
        case rel => exact ⟨j + 1, n, _, by omega, by go_num, rfl, by rw [HST.out]; exact HN.out, by rw [HST.out]; exact ho, hB⟩
        case measure => simp [intOf]; omega
      · have hst := pagesF_yes hz
        have HST := Lib.hid hst
        obtain ⟨z, hze⟩ : ∃ z, A.getD j (-1) = z := ⟨_, rfl⟩
        rw [hze] at cz hz
        have hzq : (z != -1) = true := by simp [hz]
        obtain ⟨PL, hPL⟩ : ∃ PL, pagesF A j = PL := ⟨_, rfl⟩
        rw [hPL] at ho
        have HPL := Lib.hid hPL
        clear hst hze hz hPL
        obtain ⟨A3, c3, hv3, -, -, -, -⟩ := own_sliceV ho
        subst hv3
        go_wp2_with (at_builtin; obtain ⟨ti0, hi, hz0, hz1, hz2⟩ := info_parts infoInt; refine wpList_app _ rfl (.tmp 20) (.tmp 22) _ rfl w.heap.size 3 ti0 _ 1 8 Try.underlying41 hi hz0 hz1 hz2 rfl (by decide) (.slice A3 n c3) n (PL.map (Value.int .i64)) rfl (ho.alloc _) _ 1 _ [.int .i64 (j : Int)] rfl (Rd.one (by simp)) (by simp [Value.oneCell']) (by unfold maxLen; omega) (by omega) (by simp; have := hB.size; omega) ?_; intro v' w' ho' hg' hv'; clear hi hz0 hz1 hz2)
        have hlt' := ho.lt
        go_roundw
        case rel =>
          refine ⟨j + 1, n + 1, v', by omega, by go_num, rfl, ?_, ?_, ?_⟩
          · rw [HST.out, List.length_append, HN.out]
            rfl
          · rw [HST.out, HPL.out, List.map_append]
            exact ho'
          · exact (hB.alloc (by have := hB.size; omega) _).grown hg' (by simp; have := hB.size; omega) (fun g' hg'' => (hlt' g' hg'').1)
        case measure => simp [intOf]; omega
    · have hjL : j = L := by omega
      subst hjL
      subst hn
      clear ya hlt
      go_wp2_with fail
      go_ret
      exact ⟨⟨_, rfl, ho⟩, hB⟩
theorem own_empty (w : World) (e : TypeId) : (w.alloc (.cells #[] e)).ownsRow w.heap.size e 1 (.slice (some ⟨w.heap.size, 0, none⟩) 0 0) 0 [] :=
  ⟨by simp, Or.inr ⟨w.heap.size, 0, #[], rfl, Nat.le_refl _, heap_alloc_new w _, by omega, by unfold maxLen; omega, by simp, by simp⟩⟩
theorem own_row {w : World} {base n : Nat} {v : Value} {xs : List Int} (h : w.ownsRow base 3 1 v n (xs.map (Value.int .i64))) (hn : 1 ≤ n) : ∃ g c, v = .slice (some ⟨g, 0, none⟩) n c ∧ Row w g xs ∧ base ≤ g := by
  obtain ⟨hl, h⟩ := h
  rcases h with ⟨_, h0⟩ | ⟨g, cap, cur, rfl, hb, hh, hnc, _, hsz, ht⟩
  · rw [h0] at hl
    simp at hl
    omega
  · refine ⟨g, cap, rfl, ⟨cur.toList.drop (n * 1), ?_⟩, hb⟩
    unfold Blk
    rw [← ht, List.take_append_drop]
    exact hh
theorem Row.rd {w : World} {g n : Nat} {xs : List Int} (h : Row w g xs) (hn : xs.length = n) : Rd w (some ⟨g, 0, none⟩) n 1 (xs.map (Value.int .i64)) := by
  refine ⟨by simp [hn], Or.inr ⟨g, 0, rfl, fun j u hu => ?_⟩⟩
  obtain ⟨hlt, he⟩ := List.getElem?_eq_some_iff.1 hu
  have hj : j < xs.length := by simpa using hlt
  rw [Nat.zero_add, h.cell_ hj, ← he, List.getD_eq_getElem?_getD, List.getElem?_eq_getElem hj]
  simp
theorem sl_not_nil (g n c : Nat) (w : World) : (binOp BinOp.eql 41 (.slice (some ⟨g, 0, none⟩) n c) (.slice none 0 0)).run Try.prog w = .ok (.bool false) w := by kernel_rfl
theorem clone_any (g n c : Nat) (xs : List Int) (w : World) (hr : Row w g xs) (hl : xs.length = n) (hn : 1 ≤ n) (hn2 : n ≤ 1000) :
    Calls Try.prog 30 #[.slice (some ⟨g, 0, none⟩) n c] w fun e' w' => ∃ g' c', e' = .returned (.slice (some ⟨g', 0, none⟩) n c') ∧ Row w' g' xs ∧ w.heap.size ≤ g' ∧ Below w.heap.size w w' := by
  have HR := hr.below ((Below.refl _ _).alloc (Nat.le_refl _) (.cells #[] 3))
  have HL := Lib.hid hl
  clear hl
  have hnil := sl_not_nil g n c w
  go_enter Try.func30, Try.ntmps30
  go_upto_region 3 with fail
  refine wp_region_lit ?_
  refine wpList_plain rfl (fun K hK => ?_)
  go_simp
  refine hK _ _ ?_
  clear hK K
  try simp only [Act.put, List.setIfInBounds_toArray, List.set_cons_zero, List.set_cons_succ]
  refine wpList_plain rfl (fun K hK => ?_)
  go_simp
  refine hK _ _ ?_
  clear hK K
  try simp only [Act.put, List.setIfInBounds_toArray, List.set_cons_zero, List.set_cons_succ]
  obtain ⟨ti0, hi, hz0, hz1, hz2⟩ := info_parts infoInt
  refine wpList_app _ rfl (.tmp 5) (.tmp 6) _ rfl w.heap.size 3 ti0 _ 1 8 Try.underlying41 hi hz0 hz1 hz2 rfl (by decide) (.slice (some ⟨w.heap.size, 0, none⟩) 0 0) 0 [] rfl (own_empty w _) (some ⟨g, 0, none⟩) n c (xs.map (Value.int .i64)) rfl (HR.rd HL.out) (by intro u hu; obtain ⟨z, _, rfl⟩ := List.mem_map.1 hu; rfl) (by unfold maxLen; omega) (by omega) (by simp) ?_
  intro v' w' ho' hg' hv'
  clear hi hz0 hz1 hz2
  rw [Nat.zero_add, List.nil_append] at ho'
  obtain ⟨g', c', rfl, hR', hge⟩ := own_row ho' hn
  have HG := Lib.hid hg'
  have HRR := Lib.hid hR'
  clear hg' hR' ho' hv' hnil
  try simp only [Act.put, List.setIfInBounds_toArray, List.set_cons_zero, List.set_cons_succ]
  go_wp2_with fail
  go_ret
  exact ⟨g', c', rfl, HRR.out, hge, ((Below.refl _ _).alloc (Nat.le_refl _) _).grown HG.out (by simp) (fun g' hg'' => by simp [Value.ownBlock] at hg''; omega)⟩
theorem below7 {w w' : World} {m : Nat} {v0 v1 v2 v3 v4 v5 v6 : Value} (hb : Below w.heap.size w w') (hm : m < w.heap.size)
    (h : w.cell? ⟨m, 0, none⟩ = some v0 ∧ w.cell? ⟨m, 1, none⟩ = some v1 ∧ w.cell? ⟨m, 2, none⟩ = some v2 ∧ w.cell? ⟨m, 3, none⟩ = some v3 ∧ w.cell? ⟨m, 4, none⟩ = some v4 ∧ w.cell? ⟨m, 5, none⟩ = some v5 ∧ w.cell? ⟨m, 6, none⟩ = some v6) :
    w'.cell? ⟨m, 0, none⟩ = some v0 ∧ w'.cell? ⟨m, 1, none⟩ = some v1 ∧ w'.cell? ⟨m, 2, none⟩ = some v2 ∧ w'.cell? ⟨m, 3, none⟩ = some v3 ∧ w'.cell? ⟨m, 4, none⟩ = some v4 ∧ w'.cell? ⟨m, 5, none⟩ = some v5 ∧ w'.cell? ⟨m, 6, none⟩ = some v6 := by
  obtain ⟨h0, h1, h2, h3, h4, h5, h6⟩ := h
  have q : ∀ i, w'.cell? ⟨m, i, none⟩ = w.cell? ⟨m, i, none⟩ := fun i => hb.cell (p := ⟨m, i, none⟩) hm
  exact ⟨(q 0).trans h0, (q 1).trans h1, (q 2).trans h2, (q 3).trans h3, (q 4).trans h4, (q 5).trans h5, (q 6).trans h6⟩
set_option maxHeartbeats 4000000 in
theorem copy_any (m g1 g2 : Nat) (a b c d e : Int) (L N : Nat) (A W : List Int) (w : World) (hM : MapW w m g1 g2 a b c d e L N A W) (hL4 : 1 ≤ L) (hL : L ≤ 1000) (hN4 : 1 ≤ N) (hN : N ≤ 1000) :
    Calls Try.prog 9 #[.pointer (some ⟨m, 0, none⟩)] w fun e' w' => (∃ m' g1' g2', e' = .returned (.pointer (some ⟨m', 0, none⟩)) ∧ MapW w' m' g1' g2' a b c d e L N A W ∧ w.heap.size ≤ m' ∧ w.heap.size ≤ g1' ∧ w.heap.size ≤ g2') ∧ Below w.heap.size w w' := by
  obtain ⟨c1, c2, y0, y1, y2, y3, y4, y5, y6, -, -, -, -, -⟩ := hM.get
  go_enter Try.func9, Try.ntmps9
  go_upto_region 3 with fail
  refine wp_region_noPanic ?_
  refine wp_region_held_drew (S := (fun w' => w'.cell? ⟨m, 0, none⟩ = some (.int .i64 a) ∧ w'.cell? ⟨m, 1, none⟩ = some (.int .i64 b) ∧ w'.cell? ⟨m, 2, none⟩ = some (.int .i64 c) ∧ w'.cell? ⟨m, 3, none⟩ = some (.int .i64 d) ∧ w'.cell? ⟨m, 4, none⟩ = some (.int .i64 e) ∧ w'.cell? ⟨m, 5, none⟩ = some (.slice (some ⟨g1, 0, none⟩) L c1) ∧ w'.cell? ⟨m, 6, none⟩ = some (.slice (some ⟨g2, 0, none⟩) N c2))) (by kernel_rfl) ?_ (fun hHeld => ?_)
  · (first | exact ⟨y0, y1, y2, y3, y4, y5, y6⟩ | exact Y3 | exact Y4 | exact Y5 | assumption)
  refine wpAnyH_take (i := 0) (oi := { dst := some 5, op := Op.move (Operand.tmp 0), type := 26, pos := "maps.go:119", after := #[], guard := none }) (v := ?_) rfl (by kernel_rfl) (by kernel_rfl) (by kernel_rfl) (fun _ _ _ h => h) (Or.inl ⟨by rfl, ?_⟩) (by assumption) ?_
  rotate_left
  · (intro wS hSw; (try dsimp only at hSw); go_simp; (try with_reducible rfl))
  try simp only [Act.put, List.setIfInBounds_toArray, List.set_cons_zero, List.set_cons_succ]
  refine wpAnyH_take (i := 1) (oi := { dst := some 6, op := Op.nilCheck (Operand.tmp 5), type := 0, pos := "maps.go:119", after := #[{ on := 0, ground := Ground.data }], guard := none }) (v := ?_) rfl (by kernel_rfl) (by kernel_rfl) (by kernel_rfl) (fun _ _ _ h => h) (Or.inl ⟨by rfl, ?_⟩) (by assumption) ?_
  rotate_left
  · (intro wS hSw; (try dsimp only at hSw); go_simp; (try with_reducible rfl))
  try simp only [Act.put, List.setIfInBounds_toArray, List.set_cons_zero, List.set_cons_succ]
  refine wpAnyH_take (i := 2) (oi := { dst := some 7, op := Op.fieldAddr 52 (Operand.tmp 6) 0, type := 0, pos := "maps.go:119", after := #[{ on := 1, ground := Ground.data }], guard := none }) (v := ?_) rfl (by kernel_rfl) (by kernel_rfl) (by kernel_rfl) (fun _ _ _ h => h) (Or.inl ⟨by rfl, ?_⟩) (by assumption) ?_
  rotate_left
  · (intro wS hSw; (try dsimp only at hSw); go_simp; (try with_reducible rfl))
  try simp only [Act.put, List.setIfInBounds_toArray, List.set_cons_zero, List.set_cons_succ]
  refine wpAnyH_take (i := 3) (oi := { dst := some 8, op := Op.load 23 (Operand.tmp 7), type := 23, pos := "maps.go:119", after := #[{ on := 2, ground := Ground.data }], guard := none }) (v := ?_) rfl (by kernel_rfl) (by kernel_rfl) (by kernel_rfl) (fun _ _ _ h => h) (Or.inl ⟨by rfl, ?_⟩) (by assumption) ?_
  rotate_left
  · (intro wS hSw; (try dsimp only at hSw); go_simp; (try with_reducible rfl))
  try simp only [Act.put, List.setIfInBounds_toArray, List.set_cons_zero, List.set_cons_succ]
  refine wpAnyH_take (i := 4) (oi := { dst := some 9, op := Op.move (Operand.tmp 0), type := 26, pos := "maps.go:119", after := #[], guard := none }) (v := ?_) rfl (by kernel_rfl) (by kernel_rfl) (by kernel_rfl) (fun _ _ _ h => h) (Or.inl ⟨by rfl, ?_⟩) (by assumption) ?_
  rotate_left
  · (intro wS hSw; (try dsimp only at hSw); go_simp; (try with_reducible rfl))
  try simp only [Act.put, List.setIfInBounds_toArray, List.set_cons_zero, List.set_cons_succ]
  refine wpAnyH_take (i := 5) (oi := { dst := some 10, op := Op.nilCheck (Operand.tmp 9), type := 0, pos := "maps.go:119", after := #[{ on := 4, ground := Ground.data }], guard := none }) (v := ?_) rfl (by kernel_rfl) (by kernel_rfl) (by kernel_rfl) (fun _ _ _ h => h) (Or.inl ⟨by rfl, ?_⟩) (by assumption) ?_
  rotate_left
  · (intro wS hSw; (try dsimp only at hSw); go_simp; (try with_reducible rfl))
  try simp only [Act.put, List.setIfInBounds_toArray, List.set_cons_zero, List.set_cons_succ]
  refine wpAnyH_take (i := 6) (oi := { dst := some 11, op := Op.fieldAddr 52 (Operand.tmp 10) 1, type := 0, pos := "maps.go:119", after := #[{ on := 5, ground := Ground.data }], guard := none }) (v := ?_) rfl (by kernel_rfl) (by kernel_rfl) (by kernel_rfl) (fun _ _ _ h => h) (Or.inl ⟨by rfl, ?_⟩) (by assumption) ?_
  rotate_left
  · (intro wS hSw; (try dsimp only at hSw); go_simp; (try with_reducible rfl))
  try simp only [Act.put, List.setIfInBounds_toArray, List.set_cons_zero, List.set_cons_succ]
  refine wpAnyH_take (i := 7) (oi := { dst := some 12, op := Op.load 41 (Operand.tmp 11), type := 41, pos := "maps.go:119", after := #[{ on := 6, ground := Ground.data }], guard := none }) (v := ?_) rfl (by kernel_rfl) (by kernel_rfl) (by kernel_rfl) (fun _ _ _ h => h) (Or.inl ⟨by rfl, ?_⟩) (by assumption) ?_
  rotate_left
  · (intro wS hSw; (try dsimp only at hSw); go_simp; (try with_reducible rfl))
  try simp only [Act.put, List.setIfInBounds_toArray, List.set_cons_zero, List.set_cons_succ]
  refine wpAnyH_take (i := 9) (oi := { dst := some 14, op := Op.move (Operand.tmp 0), type := 26, pos := "maps.go:119", after := #[], guard := none }) (v := ?_) rfl (by kernel_rfl) (by kernel_rfl) (by kernel_rfl) (fun _ _ _ h => h) (Or.inl ⟨by rfl, ?_⟩) (by assumption) ?_
  rotate_left
  · (intro wS hSw; (try dsimp only at hSw); go_simp; (try with_reducible rfl))
  try simp only [Act.put, List.setIfInBounds_toArray, List.set_cons_zero, List.set_cons_succ]
  refine wpAnyH_take (i := 10) (oi := { dst := some 15, op := Op.nilCheck (Operand.tmp 14), type := 0, pos := "maps.go:119", after := #[{ on := 9, ground := Ground.data }], guard := none }) (v := ?_) rfl (by kernel_rfl) (by kernel_rfl) (by kernel_rfl) (fun _ _ _ h => h) (Or.inl ⟨by rfl, ?_⟩) (by assumption) ?_
  rotate_left
  · (intro wS hSw; (try dsimp only at hSw); go_simp; (try with_reducible rfl))
  try simp only [Act.put, List.setIfInBounds_toArray, List.set_cons_zero, List.set_cons_succ]
  refine wpAnyH_take (i := 11) (oi := { dst := some 16, op := Op.fieldAddr 52 (Operand.tmp 15) 2, type := 0, pos := "maps.go:119", after := #[{ on := 10, ground := Ground.data }], guard := none }) (v := ?_) rfl (by kernel_rfl) (by kernel_rfl) (by kernel_rfl) (fun _ _ _ h => h) (Or.inl ⟨by rfl, ?_⟩) (by assumption) ?_
  rotate_left
  · (intro wS hSw; (try dsimp only at hSw); go_simp; (try with_reducible rfl))
  try simp only [Act.put, List.setIfInBounds_toArray, List.set_cons_zero, List.set_cons_succ]
  refine wpAnyH_take (i := 12) (oi := { dst := some 17, op := Op.load 41 (Operand.tmp 16), type := 41, pos := "maps.go:119", after := #[{ on := 11, ground := Ground.data }], guard := none }) (v := ?_) rfl (by kernel_rfl) (by kernel_rfl) (by kernel_rfl) (fun _ _ _ h => h) (Or.inl ⟨by rfl, ?_⟩) (by assumption) ?_
  rotate_left
  · (intro wS hSw; (try dsimp only at hSw); go_simp; (try with_reducible rfl))
  try simp only [Act.put, List.setIfInBounds_toArray, List.set_cons_zero, List.set_cons_succ]
  refine wpAnyH_ready (rs := [8]) (by kernel_rfl) (by simp) ?_
  refine AllReadyH.cons (o := { dst := some 13, op := Op.call { callee := Callee.value (Operand.func 30), args := #[Operand.tmp 12], argTypes := #[41] }, type := 41, pos := "maps.go:119", after := #[{ on := 7, ground := Ground.data }], guard := none }) rfl (fun K hK => ?_) AllReadyH.nil
  go_simp
  (go_at_call 30; ((with_reducible refine (clone_any g1 L c1 A _ hM.rA.drew hM.len hL4 hL).mono ?_); rintro e' wN3 ⟨g3, c3, rfl, R3, hg3, hb3⟩))
  go_wp2_with fail
  have hb3 := undrew hb3
  have Y3 := below7 hb3 hM.lt.1 ⟨y0, y1, y2, y3, y4, y5, y6⟩
  have hM3 := hM.below hb3
  refine hK.out _ _ ?_ (fun hNew => ?_)
  · (first | exact ⟨y0, y1, y2, y3, y4, y5, y6⟩ | exact Y3 | exact Y4 | exact Y5 | assumption)
  clear hK K hHeld
  have hHeld := hNew
  clear hNew
  try simp only [Act.put, List.setIfInBounds_toArray, List.set_cons_zero, List.set_cons_succ]
  refine wpAnyH_ready (rs := [13]) (by kernel_rfl) (by simp) ?_
  refine AllReadyH.cons (o := { dst := some 18, op := Op.call { callee := Callee.value (Operand.func 30), args := #[Operand.tmp 17], argTypes := #[41] }, type := 41, pos := "maps.go:119", after := #[{ on := 12, ground := Ground.data }, { on := 8, ground := Ground.chain }], guard := none }) rfl (fun K hK => ?_) AllReadyH.nil
  go_simp
  (go_at_call 30; ((with_reducible refine (clone_any g2 N c2 W _ hM3.rW hM3.inv.len hN4 hN).mono ?_); rintro e' wN4 ⟨g4, c4, rfl, R4, hg4, hb4⟩))
  go_wp2_with fail
  have Y4 := below7 hb4 hM3.lt.1 Y3
  have hM4 := hM3.below hb4
  have L3 := R3.lt
  have R3 := R3.below hb4
  refine hK.out _ _ ?_ (fun hNew => ?_)
  · (first | exact ⟨y0, y1, y2, y3, y4, y5, y6⟩ | exact Y3 | exact Y4 | exact Y5 | assumption)
  clear hK K hHeld
  have hHeld := hNew
  clear hNew
  try simp only [Act.put, List.setIfInBounds_toArray, List.set_cons_zero, List.set_cons_succ]
  refine wpAnyH_take (i := 14) (oi := { dst := some 19, op := Op.build 52 #[(0, Operand.tmp 8), (1, Operand.tmp 13), (2, Operand.tmp 18)], type := 52, pos := "maps.go:119", after := #[{ on := 3, ground := Ground.data }, { on := 8, ground := Ground.data }, { on := 13, ground := Ground.data }], guard := none }) (v := ?_) rfl (by kernel_rfl) (by kernel_rfl) (by kernel_rfl) (fun _ _ _ h => h) (Or.inl ⟨by rfl, ?_⟩) (by assumption) ?_
  rotate_left
  · (intro wS hSw; (try dsimp only at hSw); go_simp; (try with_reducible rfl))
  try simp only [Act.put, List.setIfInBounds_toArray, List.set_cons_zero, List.set_cons_succ]
  refine wpAnyH_ready (rs := [15]) (by kernel_rfl) (by simp) ?_
  refine AllReadyH.cons (o := { dst := some 20, op := Op.box 52 (Operand.tmp 19), type := 26, pos := "maps.go:119", after := #[{ on := 14, ground := Ground.data }], guard := none }) rfl (fun K hK => ?_) AllReadyH.nil
  go_simp
  have HBK := Blk.new_ wN4 52 #[.int .i64 a, .int .i64 b, .int .i64 c, .int .i64 d, .int .i64 e, .slice (some ⟨g3, 0, none⟩) L c3, .slice (some ⟨g4, 0, none⟩) N c4]
  have Y5 := below7 ((Below.refl _ _).alloc (Nat.le_refl _) (.cells #[.int .i64 a, .int .i64 b, .int .i64 c, .int .i64 d, .int .i64 e, .slice (some ⟨g3, 0, none⟩) L c3, .slice (some ⟨g4, 0, none⟩) N c4] 52)) hM4.lt.1 Y4
  refine hK.out _ _ ?_ (fun hNew => ?_)
  · (first | exact ⟨y0, y1, y2, y3, y4, y5, y6⟩ | exact Y3 | exact Y4 | exact Y5 | assumption)
  clear hK K hHeld
  have hHeld := hNew
  clear hNew
  try simp only [Act.put, List.setIfInBounds_toArray, List.set_cons_zero, List.set_cons_succ]
  refine wpAnyH_take (i := 16) (oi := { dst := some 2, op := Op.assign (Operand.tmp 20), type := 26, pos := "maps.go:119", after := #[{ on := 15, ground := Ground.data }, { on := 13, ground := Ground.chain }, { on := 0, ground := Ground.phase }, { on := 1, ground := Ground.phase }, { on := 2, ground := Ground.phase }, { on := 3, ground := Ground.phase }, { on := 4, ground := Ground.phase }, { on := 5, ground := Ground.phase }, { on := 6, ground := Ground.phase }, { on := 7, ground := Ground.phase }, { on := 8, ground := Ground.phase }, { on := 9, ground := Ground.phase }, { on := 10, ground := Ground.phase }, { on := 11, ground := Ground.phase }, { on := 12, ground := Ground.phase }, { on := 13, ground := Ground.phase }, { on := 14, ground := Ground.phase }, { on := 15, ground := Ground.phase }], guard := none }) (v := ?_) rfl (by kernel_rfl) (by kernel_rfl) (by kernel_rfl) (fun _ _ _ h => h) (Or.inl ⟨by rfl, ?_⟩) (by assumption) ?_
  rotate_left
  · (intro wS hSw; (try dsimp only at hSw); go_simp; (try with_reducible rfl))
  try simp only [Act.put, List.setIfInBounds_toArray, List.set_cons_zero, List.set_cons_succ]
  refine wpAnyH_done (by kernel_rfl) ?_ _
  refine NoPanic.normal ?_
  go_wp2_with fail
  go_ret
  have s3 : w.heap.size ≤ wN3.heap.size := hb3.size
  have s4 : wN3.heap.size ≤ wN4.heap.size := hb4.size
  have l3 := R3.lt
  have l4 := R4.lt
  have hbx : Below wN4.heap.size wN4 (wN4.alloc (.cells #[.int .i64 a, .int .i64 b, .int .i64 c, .int .i64 d, .int .i64 e, .slice (some ⟨g3, 0, none⟩) L c3, .slice (some ⟨g4, 0, none⟩) N c4] 52)) := (Below.refl _ _).alloc (Nat.le_refl _) _
  refine ⟨⟨wN4.heap.size, g3, g4, rfl, ⟨⟨c3, c4, HBK⟩, R3.below hbx, R4.below hbx, ?_, by omega, by omega, hM.inv, hM.len⟩, by omega, hg3, by omega⟩, (hb3.trans (hb4.mono s3)).trans (hbx.mono (by omega))⟩
  have := (show g3 < wN3.heap.size from L3)
  omega
end Go.Proofs.Ytfefjjebjjfkdaa
