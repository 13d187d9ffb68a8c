/- ExtentGrows: the walk. -/
import Derived.Test.YtmhookkfhknljaaExtG
namespace Go.Proofs.Ytmhookkfhknljaa
open Go.ChangeShapes Go.WideShapes Go.ChangeAt Go.RowKit
set_option linter.unusedSimpArgs false
set_option linter.unusedVariables false
set_option maxRecDepth 100000 in
set_option maxHeartbeats 4000000 in
theorem egrows_walk (a b c d e : Int) (A1 : Option Addr) (n k1 : Nat) (zs : List Int) (more which : Int) (w : World) (_ : i64in a ∧ i64in b ∧ i64in c ∧ i64in d ∧ i64in e) (r1 : SlA w A1 n k1 (zs.map (Value.int .i64))) (_ : ∀ z ∈ zs, i64in z) (hmo : i64in more) (hwh : i64in which) :
    Calls Try.prog 4 #[.agg #[.int .i64 a, .int .i64 b, .int .i64 c, .int .i64 d, .int .i64 e], .slice A1 n k1, .int .i64 more, .int .i64 which] w fun e' w' => e' = .returned (.bool true) ∧ Below w.heap.size w w' := by
  obtain ⟨e1, h1, _, _, _⟩ := r1
  rw [List.length_map] at e1
  have HB0 : Below w.heap.size w (w.alloc (.cells #[.int .i64 a, .int .i64 b, .int .i64 c, .int .i64 d, .int .i64 e] 23)) := (Below.refl _ _).alloc (Nat.le_refl _) _
  have G1 : Blk (w.alloc (.cells #[.int .i64 a, .int .i64 b, .int .i64 c, .int .i64 d, .int .i64 e] 23)) w.heap.size 23 #[.int .i64 a, .int .i64 b, .int .i64 c, .int .i64 d, .int .i64 e] := Blk.new_ _ _ _
  have H1 := h1.next HB0
  have HL : Hid (zs.length = n) := Lib.hid e1.symm
  clear h1 e1
  by_cases hx : 30 < n
  · have g1 : (30 : Int) < (n : Int) := by omega
    clear hx
    go_enter Try.func4, Try.ntmps4
    go_wp2_with (go_at_call 7; ((with_reducible refine (awake_any _).mono ?_); rintro e' wA ⟨rfl, hb⟩; have HB0 := btr HB0 HB0.size hb; clear hb))
    go_ret
    exact ⟨rfl, HB0⟩
  have g1 : ¬ (30 : Int) < (n : Int) := by omega
  have n30 : n ≤ 30 := by omega
  rcases (by cases hq : mayB a b c d e <;> simp : mayB a b c d e = false ∨ mayB a b c d e = true) with hm | hm
  · have HM := Lib.hid hm
    clear hm
    go_enter Try.func4, Try.ntmps4
    go_wp2_with (first
      | (go_at_call 6; ((with_reducible refine (rmay_b _ _ _ _ _ _ _ HM).mono ?_); rintro e' wN ⟨rfl, hb⟩; have H1 := H1.next hb; have HB0 := btr HB0 HB0.size hb; have G1 := G1.below hb G1.lt; (try clear y0 y1 y2 y3 y4); have y0 := G1.cell_ 0; have y1 := G1.cell_ 1; have y2 := G1.cell_ 2; have y3 := G1.cell_ 3; have y4 := G1.cell_ 4; simp at y0 y1 y2 y3 y4; clear hb))
      | (go_at_call 7; ((with_reducible refine (awake_any _).mono ?_); rintro e' wA ⟨rfl, hb⟩; have HB0 := btr HB0 HB0.size hb; clear hb)))
    go_ret
    exact ⟨rfl, HB0⟩
  have HM := Lib.hid hm
  have hbd := may_bd hm
  have c24 : 24 ≤ c := hbd.2.2.2.2.1
  clear hm hbd hx
  go_enter Try.func4, Try.ntmps4
  go_wp2_with (go_at_call 6; ((with_reducible refine (rmay_b _ _ _ _ _ _ _ HM).mono ?_); rintro e' wN ⟨rfl, hb⟩; have H1 := H1.next hb; have HB0 := btr HB0 HB0.size hb; have G1 := G1.below hb G1.lt; (try clear y0 y1 y2 y3 y4); have y0 := G1.cell_ 0; have y1 := G1.cell_ 1; have y2 := G1.cell_ 2; have y3 := G1.cell_ 3; have y4 := G1.cell_ 4; simp at y0 y1 y2 y3 y4; clear hb))
  obtain ⟨w0, hw0⟩ : ∃ W : World, W = wN := ⟨_, rfl⟩
  rw [← hw0] at HB0 G1 H1 y0 y1 y2 y3 y4 ⊢
  clear hw0
  have hg0 : w.heap.size < w0.heap.size := G1.lt
  go_loopw [9, 10, 11] (fun s9 s10 i wr => ∃ (j : Nat) (v9 v10 : Value), j ≤ n ∧ i = .int .i64 j ∧ s9 = v9 ∧ s10 = v10 ∧ wr.ownsRow w0.heap.size 3 1 v9 j (((lowsI zs).take j).map (Value.int .i64)) ∧ wr.ownsRow w0.heap.size 3 1 v10 j ((((lowsI zs).take j).reverse).map (Value.int .i64)) ∧ (∀ g, v9.ownBlock = some g → v10.ownBlock ≠ some g) ∧ Below w0.heap.size w0 wr) (fun _ _ i _ => n - (intOf i).toNat)
  case atStart => exact ⟨0, _, _, Nat.zero_le _, rfl, rfl, rfl, World.ownsRow_nil _ _ _ _, World.ownsRow_nil _ _ _ _, fun g hg => by simp [Value.ownBlock] at hg, Below.refl _ _⟩
  case round =>
    obtain ⟨j, v9, v10, hj, rfl, e9, e10, R9, R10, AP, hB⟩ := hrel
    have e9' := e9.symm
    have e10' := e10.symm
    subst e9' e10'
    clear y0 y1 y2 y3 y4
    by_cases hlt : j < n
    · obtain ⟨A10, c10, hv10, -, -, -, -⟩ := own_sliceV R10
      subst hv10
      obtain ⟨wb, rfl⟩ : ∃ W : World, W = wr := ⟨_, rfl⟩
      have hjl : j < zs.length := by rw [HL.out]; exact hlt
      obtain ⟨b1, o1, rfl, l1, q1⟩ := H1.at_ (by rw [List.length_map]; omega)
      have cz0 : w0.cell? ⟨b1, o1 + j, none⟩ = some (.int .i64 (zs.getD j 0)) := q1 j _ (by
        rw [List.getElem?_map, List.getElem?_eq_getElem hjl, List.getD_eq_getElem?_getD, List.getElem?_eq_getElem hjl]
        rfl)
      obtain ⟨z, hz⟩ : ∃ z, zs.getD j 0 = z := ⟨_, rfl⟩
      have hst := lows_take hjl
      rw [hz] at cz0 hst
      obtain ⟨x, hx⟩ : ∃ x, lowI z 1000 = x := ⟨_, rfl⟩
      rw [hx] at hst
      obtain ⟨NL, hNL⟩ : ∃ NL, (lowsI zs).take j = NL := ⟨_, rfl⟩
      rw [hNL] at hst R9 R10
      have hr : ((lowsI zs).take (j + 1)).reverse = x :: NL.reverse := by rw [hst]; simp
      have HST := Lib.hid hst
      have HRV := Lib.hid hr
      have HX := Lib.hid hx
      have CZ := Lib.hid cz0
      have cz := (hB.cell (p := ⟨b1, o1 + j, none⟩) l1).trans cz0
      have i0 : (0 : Int) ≤ (j : Int) := by omega
      have i1 : (j : Int) < (n : Int) := by omega
      obtain ⟨BL, hBL⟩ : ∃ BL, NL.reverse = BL := ⟨_, rfl⟩
      rw [hBL] at R10
      have HBL := Lib.hid hBL
      have hBLl : BL.length = j := by have := R10.1; simpa using this
      have HBLL := Lib.hid hBLl
      clear q1 hz hst hx hNL hr cz0 hjl hBL hBLl
      go_wp2_with (first
          | (go_at_call 12; refine (low_any z 1000 _ (by omega) (by omega)).mono ?_; rw [HX.out]; rintro e' wL ⟨rfl, rfl⟩)
          | (at_builtin; obtain ⟨ti0, hi, hz0, hz1, hz2⟩ := info_parts infoInt; refine wpList_app _ rfl (.tmp 30) (.tmp 36) _ rfl w0.heap.size 3 ti0 _ 1 8 Try.underlying34 hi hz0 hz1 hz2 rfl (by decide) _ j (NL.map (Value.int .i64)) rfl (R9.alloc _) _ 1 _ [.int .i64 x] rfl (Rd.one (by simp)) (by simp [Value.oneCell']) (by unfold maxLen; omega) (by omega) (by simp; have := hB.size; omega) ?_; intro u9 w1 ho9 hg9 hv9; clear hi hz0 hz1 hz2; have hB1 := (hB.alloc hB.size (.cells #[.int .i64 x] 3)).grown hg9 (by simp; have := hB.size; omega) (fun g h => (R9.lt g h).1); have r10 := own_kept2 (R10.alloc _) hg9 (apart_sym AP); have AP1 := apart_app (R10.alloc (.cells #[.int .i64 x] 3)) (apart_sym AP) hv9; have cz := (hB1.cell (p := ⟨b1, o1 + j, none⟩) l1).trans CZ.out)
          | (at_builtin; obtain ⟨ti0, hi, hz0, hz1, hz2⟩ := info_parts infoInt; refine wpList_app _ rfl (.tmp 43) (.tmp 44) _ rfl w0.heap.size 3 ti0 _ 1 8 Try.underlying34 hi hz0 hz1 hz2 rfl (by decide) (.slice (some ⟨w1.heap.size, 0, none⟩) 1 1) 1 [.int .i64 x] rfl (own_one w1 w0.heap.size _ _ hB1.size) _ j _ (BL.map (Value.int .i64)) rfl (Rd.of_sl (own_slA (r10.alloc _)) (by rw [List.length_map]; exact HBLL.out)) (oneI BL) (by unfold maxLen; omega) (by omega) (by simp; have := hB1.size; omega) ?_; intro u10 w2 ho10 hg10 hv10; clear hi hz0 hz1 hz2; have hB2 := (hB1.alloc hB1.size (.cells #[.int .i64 x] 3)).grown hg10 (by simp; have := hB1.size; omega) (fun g h => by simp [Value.ownBlock] at h; have := hB1.size; omega); have AF : ∀ g, u9.ownBlock = some g → (Value.slice (some ⟨w1.heap.size, 0, none⟩) 1 1).ownBlock ≠ some g := (fun g h he => by have := (ho9.lt g h).2; simp [Value.ownBlock] at he; omega); have r9 := own_kept2 (ho9.alloc _) hg10 AF; have AP2 := apart_app (ho9.alloc (.cells #[.int .i64 x] 3)) AF hv10))
      go_roundw
      case rel =>
        refine ⟨j + 1, u9, u10, by omega, by go_num, rfl, rfl, ?_, ?_, AP2, hB2⟩
        · rw [HST.out, List.map_append]
          exact r9
        · rw [HRV.out, HBL.out]
          exact own_len (Nat.add_comm 1 j) (by simpa using ho10)
      case measure => simp [intOf]; omega
    · have hjn : j = n := by omega
      subst hjn
      have hLs : (lowsI zs).take j = lowsI zs := List.take_of_length_le (by rw [lows_len, HL.out]; exact Nat.le_refl _)
      rw [hLs] at R9 R10
      have hNl : (lowsI zs).length = j := by rw [lows_len, HL.out]
      have hNb := lows_bd (zs := zs)
      obtain ⟨NS, hNS⟩ : ∃ N, lowsI zs = N := ⟨_, rfl⟩
      rw [hNS] at R9 R10 hNl hNb
      obtain ⟨A9, c9, hv9, -, -, -, -⟩ := own_sliceV R9
      obtain ⟨A10, c10, hv10, -, -, -, -⟩ := own_sliceV R10
      subst hv9 hv10
      have G0 := G1
      have G1 := G0.below hB hg0
      have y0 := G1.cell_ 0
      have y1 := G1.cell_ 1
      have y2 := G1.cell_ 2
      have y3 := G1.cell_ 3
      have y4 := G1.cell_ 4
      simp at y0 y1 y2 y3 y4
      obtain ⟨x2, hx2⟩ : ∃ x, lowI more 1000 = x := ⟨_, rfl⟩
      have xb := lowI_bd more 1000 (by omega)
      rw [hx2] at xb
      have x0 : 0 ≤ x2 := xb.1
      have x1 : x2 < 1000 := xb.2
      have HX2 := Lib.hid hx2
      obtain ⟨N0, hN0⟩ : ∃ x, needI c NS = x := ⟨_, rfl⟩
      have hNR : needI c NS.reverse = N0 := by rw [need_reverse, hN0]
      obtain ⟨NA, hNA⟩ : ∃ x, needI c (NS ++ [x2]) = x := ⟨_, rfl⟩
      have hmore := need_more c24 NS x2
      rw [hN0, hNA] at hmore
      have hNb2 : ∀ z ∈ NS, 0 ≤ z ∧ z ≤ 1048576 := fun z hz => by have := hNb z hz; omega
      have hNbr : ∀ z ∈ NS.reverse, 0 ≤ z ∧ z ≤ 1048576 := fun z hz => hNb2 z (List.mem_reverse.1 hz)
      have hNba : ∀ z ∈ NS ++ [x2], 0 ≤ z ∧ z ≤ 1048576 := fun z hz => by
        rcases List.mem_append.1 hz with h | h
        · exact hNb2 z h
        · rw [List.mem_singleton] at h
          omega
      have HNL := Lib.hid hNl
      have HNB := Lib.hid hNb
      have HNB2 := Lib.hid hNb2
      have HNBR := Lib.hid hNbr
      have HNBA := Lib.hid hNba
      have HN0 := Lib.hid hN0
      have HNR := Lib.hid hNR
      have HNA := Lib.hid hNA
      have hrl : NS.reverse.length = j := by rw [List.length_reverse, hNl]
      have hal : (NS ++ [x2]).length = j + 1 := by simp [hNl]
      have HRL := Lib.hid hrl
      have HAL := Lib.hid hal
      clear hNl hNb hNb2 hNbr hNba hN0 hNR hNA hx2 xb hLs hNS hlt hrl hal
      go_upto_region 11 with (first
        | (go_at_call 13; ((with_reducible refine (eneed_any _ _ _ _ _ NS j N0 A9 c9 _ HM HNL.out (by omega) HNB2.out (own_slA R9) HN0.out).mono ?_); rintro e' wT ⟨rfl, hb⟩; replace R9 := own_below R9 hb; replace R10 := own_below R10 hb; replace hB := btr hB hB.size hb; (try clear G1); have G1 := G0.below hB hg0; (try clear y0 y1 y2 y3 y4); have y0 := G1.cell_ 0; have y1 := G1.cell_ 1; have y2 := G1.cell_ 2; have y3 := G1.cell_ 3; have y4 := G1.cell_ 4; simp at y0 y1 y2 y3 y4; clear hb))
        | (go_at_call 12; refine (low_any more 1000 _ (by omega) (by omega)).mono ?_; rw [HX2.out]; rintro e' wL ⟨rfl, rfl⟩))
      obtain ⟨W1, hW1⟩ : ∃ W : World, W = wT := ⟨_, rfl⟩
      rw [← hW1] at hB G1 R9 R10 y0 y1 y2 y3 y4 ⊢
      clear hW1
      have hgW : w.heap.size < W1.heap.size := G1.lt
      go_cut [13] (fun v wx => v = .int .i64 NA ∧ Below W1.heap.size W1 wx)
      case first =>
        have S9 := own_slA R9
        refine wp_region_noPanic ?_
        refine wp_region_held_drew (S := (fun w' => Below W1.heap.size W1 w' ∧ w'.cell? ⟨w.heap.size, 0, none⟩ = some (.int .i64 a) ∧ w'.cell? ⟨w.heap.size, 1, none⟩ = some (.int .i64 b) ∧ w'.cell? ⟨w.heap.size, 2, none⟩ = some (.int .i64 c) ∧ w'.cell? ⟨w.heap.size, 3, none⟩ = some (.int .i64 d) ∧ w'.cell? ⟨w.heap.size, 4, none⟩ = some (.int .i64 e))) (by kernel_rfl) ?_ (fun hHeld => ?_)
        · (first | exact ⟨(Below.refl _ _).drew, y0, y1, y2, y3, y4⟩ | assumption | exact ⟨HX, (HX.cell (p := ⟨w.heap.size, 0, none⟩) hgW).trans y0, (HX.cell (p := ⟨w.heap.size, 1, none⟩) hgW).trans y1, (HX.cell (p := ⟨w.heap.size, 2, none⟩) hgW).trans y2, (HX.cell (p := ⟨w.heap.size, 3, none⟩) hgW).trans y3, (HX.cell (p := ⟨w.heap.size, 4, none⟩) hgW).trans y4⟩)
        refine wpAnyH_take (i := 0) (oi := { dst := some 51, op := Op.load 23 (Operand.tmp 4), type := 23, pos := "law.go:80", after := #[], guard := none }) (v := ?_) rfl (by kernel_rfl) (by kernel_rfl) (by kernel_rfl) (fun _ _ _ h => h) (Or.inl ⟨by rfl, ?_⟩) (by assumption) ?_
        rotate_left
        · (intro wS hSw; (try dsimp only at hSw); go_simp; (try with_reducible rfl))
        try simp only [Act.put, List.setIfInBounds_toArray, List.set_cons_zero, List.set_cons_succ]
        refine wpAnyH_take (i := 1) (oi := { dst := some 52, op := Op.move (Operand.tmp 9), type := 34, pos := "law.go:80", after := #[], guard := none }) (v := ?_) rfl (by kernel_rfl) (by kernel_rfl) (by kernel_rfl) (fun _ _ _ h => h) (Or.inl ⟨by rfl, ?_⟩) (by assumption) ?_
        rotate_left
        · (intro wS hSw; (try dsimp only at hSw); go_simp; (try with_reducible rfl))
        try simp only [Act.put, List.setIfInBounds_toArray, List.set_cons_zero, List.set_cons_succ]
        refine wpAnyH_take (i := 3) (oi := { dst := some 54, op := Op.move (Operand.tmp 2), type := 3, pos := "law.go:80", after := #[], guard := none }) (v := ?_) rfl (by kernel_rfl) (by kernel_rfl) (by kernel_rfl) (fun _ _ _ h => h) (Or.inl ⟨by rfl, ?_⟩) (by assumption) ?_
        rotate_left
        · (intro wS hSw; (try dsimp only at hSw); go_simp; (try with_reducible rfl))
        try simp only [Act.put, List.setIfInBounds_toArray, List.set_cons_zero, List.set_cons_succ]
        refine wpAnyH_ready (rs := [2, 4]) (by kernel_rfl) (by simp) ?_
        refine (AllReadyH.cons (o := { dst := some 53, op := Op.call { callee := Callee.builtin Builtin.append, args := #[Operand.const (Value.slice none 0 0), Operand.tmp 52], argTypes := #[34, 34] }, type := 34, pos := "law.go:80", after := #[{ on := 1, ground := Ground.data }], guard := none }) rfl (fun K hK => ?_) (AllReadyH.cons (o := { dst := some 55, op := Op.buildSlice 34 1 #[(0, Operand.tmp 54)], type := 34, pos := "law.go:80", after := #[{ on := 3, ground := Ground.data }], guard := none }) rfl (fun K hK => ?_) AllReadyH.nil))
        · obtain ⟨ti0, hi, hz0, hz1, hz2⟩ := info_parts infoInt
          refine step_app _ rfl (.const (.slice none 0 0)) (.tmp 52) _ rfl W1.heap.size 3 ti0 _ 1 8 Try.underlying34 hi hz0 hz1 hz2 rfl (by decide) (.slice none 0 0) 0 [] rfl (World.ownsRow_nil _ _ _ _) A9 j c9 (NS.map (Value.int .i64)) rfl (Rd.of_sl (S9.below hHeld.1) (by rw [List.length_map]; exact HNL.out)) (oneI NS) (by unfold maxLen; omega) (by omega) hHeld.1.size ?_
          intro uA wX hoX hgX hvX
          clear hi hz0 hz1 hz2
          have HX := hHeld.1.grown hgX hHeld.1.size (fun k h => by simp [Value.ownBlock] at h)
          (try have DB := apart_new RB hvX)
          (try replace RB := RB.kept (row := none) hgX (by cases Value.ownBlock _ <;> simp))
          have RA := own_len (Nat.zero_add j) hoX
          rw [List.nil_append] at RA
          clear hoX hgX hvX
          refine hK.out _ _ ?_ (fun hNew => ?_)
          · (first | exact ⟨(Below.refl _ _).drew, y0, y1, y2, y3, y4⟩ | assumption | exact ⟨HX, (HX.cell (p := ⟨w.heap.size, 0, none⟩) hgW).trans y0, (HX.cell (p := ⟨w.heap.size, 1, none⟩) hgW).trans y1, (HX.cell (p := ⟨w.heap.size, 2, none⟩) hgW).trans y2, (HX.cell (p := ⟨w.heap.size, 3, none⟩) hgW).trans y3, (HX.cell (p := ⟨w.heap.size, 4, none⟩) hgW).trans y4⟩)
          clear hK K hHeld
          have hHeld := hNew
          clear hNew
          try simp only [Act.put, List.setIfInBounds_toArray, List.set_cons_zero, List.set_cons_succ]
          refine wpAnyH_ready (rs := [4]) (by kernel_rfl) (by simp) ?_
          refine AllReadyH.cons (o := { dst := some 55, op := Op.buildSlice 34 1 #[(0, Operand.tmp 54)], type := 34, pos := "law.go:80", after := #[{ on := 3, ground := Ground.data }], guard := none }) rfl (fun K hK => ?_) AllReadyH.nil
          refine wanted_then (by rfl) ?_
          refine wp_build1 _ rfl x2 rfl W1.heap.size hHeld.1.size ?_
          intro wX uB RB hgX hvX huX
          have HX := hHeld.1.grown hgX hHeld.1.size (fun k h => by cases h)
          (try have DA := apart_new RA hvX)
          (try replace RA := RA.kept (row := none) hgX (by cases Value.ownBlock _ <;> simp))
          subst huX
          clear hgX hvX
          refine hK.out _ _ ?_ (fun hNew => ?_)
          · (first | exact ⟨(Below.refl _ _).drew, y0, y1, y2, y3, y4⟩ | assumption | exact ⟨HX, (HX.cell (p := ⟨w.heap.size, 0, none⟩) hgW).trans y0, (HX.cell (p := ⟨w.heap.size, 1, none⟩) hgW).trans y1, (HX.cell (p := ⟨w.heap.size, 2, none⟩) hgW).trans y2, (HX.cell (p := ⟨w.heap.size, 3, none⟩) hgW).trans y3, (HX.cell (p := ⟨w.heap.size, 4, none⟩) hgW).trans y4⟩)
          clear hK K hHeld
          have hHeld := hNew
          clear hNew
          try simp only [Act.put, List.setIfInBounds_toArray, List.set_cons_zero, List.set_cons_succ]
          refine wpAnyH_ready (rs := [5]) (by kernel_rfl) (by simp) ?_
          refine AllReadyH.cons (o := { dst := some 56, op := Op.call { callee := Callee.builtin Builtin.append, args := #[Operand.tmp 53, Operand.tmp 55], argTypes := #[34, 34] }, type := 34, pos := "law.go:80", after := #[{ on := 2, ground := Ground.data }, { on := 4, ground := Ground.data }, { on := 2, ground := Ground.chain }], guard := none }) rfl (fun K hK => ?_) AllReadyH.nil
          obtain ⟨ti0, hi, hz0, hz1, hz2⟩ := info_parts infoInt
          refine step_app _ rfl (.tmp 53) (.tmp 55) _ rfl W1.heap.size 3 ti0 _ 1 8 Try.underlying34 hi hz0 hz1 hz2 rfl (by decide) _ j (NS.map (Value.int .i64)) rfl RA _ 1 1 [.int .i64 x2] rfl (Rd.of_sl (Sl.of_own RB) rfl) (by intro u hu; simp at hu; subst hu; rfl) (by unfold maxLen; omega) (by omega) hHeld.1.size ?_
          intro uC wX hoX hgX hvX
          clear hi hz0 hz1 hz2
          have HX := hHeld.1.grown hgX hHeld.1.size (fun k h => (RA.lt k h).1)
          obtain ⟨AC, cC, hvC, -, -, -, SC⟩ := own_sliceV hoX
          subst hvC
          have SC2 : Sl wX wX.heap.size AC ((NS ++ [x2]).map (Value.int .i64)) := by rw [List.map_append]; exact SC
          clear RA RB hoX hgX hvX SC
          refine hK.out _ _ ?_ (fun hNew => ?_)
          · (first | exact ⟨(Below.refl _ _).drew, y0, y1, y2, y3, y4⟩ | assumption | exact ⟨HX, (HX.cell (p := ⟨w.heap.size, 0, none⟩) hgW).trans y0, (HX.cell (p := ⟨w.heap.size, 1, none⟩) hgW).trans y1, (HX.cell (p := ⟨w.heap.size, 2, none⟩) hgW).trans y2, (HX.cell (p := ⟨w.heap.size, 3, none⟩) hgW).trans y3, (HX.cell (p := ⟨w.heap.size, 4, none⟩) hgW).trans y4⟩)
          clear hK K hHeld
          have hHeld := hNew
          clear hNew
          try simp only [Act.put, List.setIfInBounds_toArray, List.set_cons_zero, List.set_cons_succ]
          refine wpAnyH_ready (rs := [6]) (by kernel_rfl) (by simp) ?_
          refine AllReadyH.cons (o := { dst := some 57, op := Op.call { callee := Callee.value (Operand.func 13), args := #[Operand.tmp 51, Operand.tmp 56], argTypes := #[23, 34] }, type := 3, pos := "law.go:80", after := #[{ on := 0, ground := Ground.data }, { on := 5, ground := Ground.data }, { on := 5, ground := Ground.chain }], guard := none }) rfl (fun K hK => ?_) AllReadyH.nil
          go_simp
          (go_at_call 13; ((with_reducible refine (eneed_any _ _ _ _ _ (NS ++ [x2]) (j + 1) NA AC cC _ HM HAL.out (by omega) HNBA.out SC2 HNA.out).mono ?_); rintro e' w8 ⟨rfl, hb⟩; have HX := btr hHeld.1 hHeld.1.size hb))
          go_wp2_with fail
          refine hK.out _ _ ?_ (fun hNew => ?_)
          · (first | exact ⟨(Below.refl _ _).drew, y0, y1, y2, y3, y4⟩ | assumption | exact ⟨HX, (HX.cell (p := ⟨w.heap.size, 0, none⟩) hgW).trans y0, (HX.cell (p := ⟨w.heap.size, 1, none⟩) hgW).trans y1, (HX.cell (p := ⟨w.heap.size, 2, none⟩) hgW).trans y2, (HX.cell (p := ⟨w.heap.size, 3, none⟩) hgW).trans y3, (HX.cell (p := ⟨w.heap.size, 4, none⟩) hgW).trans y4⟩)
          clear hK K hHeld
          have hHeld := hNew
          clear hNew
          try simp only [Act.put, List.setIfInBounds_toArray, List.set_cons_zero, List.set_cons_succ]
          refine wpAnyH_take (i := 7) (oi := { dst := some 13, op := Op.assign (Operand.tmp 57), type := 3, pos := "law.go:80", after := #[{ on := 6, ground := Ground.data }, { on := 6, ground := Ground.chain }, { on := 0, ground := Ground.phase }, { on := 1, ground := Ground.phase }, { on := 2, ground := Ground.phase }, { on := 3, ground := Ground.phase }, { on := 4, ground := Ground.phase }, { on := 5, ground := Ground.phase }, { on := 6, ground := Ground.phase }], guard := none }) (v := ?_) rfl (by kernel_rfl) (by kernel_rfl) (by kernel_rfl) (fun _ _ _ h => h) (Or.inl ⟨by rfl, ?_⟩) (by assumption) ?_
          rotate_left
          · (intro wS hSw; (try dsimp only at hSw); go_simp; (try with_reducible rfl))
          try simp only [Act.put, List.setIfInBounds_toArray, List.set_cons_zero, List.set_cons_succ]
          refine wpAnyH_done (by kernel_rfl) ?_ _
          refine NoPanic.normal ?_
          go_wp2_with fail
          go_meet
          exact ⟨rfl, hHeld.1⟩
        · refine wanted_then (by rfl) ?_
          refine wp_build1 _ rfl x2 rfl W1.heap.size hHeld.1.size ?_
          intro wX uB RB hgX hvX huX
          have HX := hHeld.1.grown hgX hHeld.1.size (fun k h => by cases h)
          (try have DA := apart_new RA hvX)
          (try replace RA := RA.kept (row := none) hgX (by cases Value.ownBlock _ <;> simp))
          subst huX
          clear hgX hvX
          refine hK.out _ _ ?_ (fun hNew => ?_)
          · (first | exact ⟨(Below.refl _ _).drew, y0, y1, y2, y3, y4⟩ | assumption | exact ⟨HX, (HX.cell (p := ⟨w.heap.size, 0, none⟩) hgW).trans y0, (HX.cell (p := ⟨w.heap.size, 1, none⟩) hgW).trans y1, (HX.cell (p := ⟨w.heap.size, 2, none⟩) hgW).trans y2, (HX.cell (p := ⟨w.heap.size, 3, none⟩) hgW).trans y3, (HX.cell (p := ⟨w.heap.size, 4, none⟩) hgW).trans y4⟩)
          clear hK K hHeld
          have hHeld := hNew
          clear hNew
          try simp only [Act.put, List.setIfInBounds_toArray, List.set_cons_zero, List.set_cons_succ]
          refine wpAnyH_ready (rs := [2]) (by kernel_rfl) (by simp) ?_
          refine AllReadyH.cons (o := { dst := some 53, op := Op.call { callee := Callee.builtin Builtin.append, args := #[Operand.const (Value.slice none 0 0), Operand.tmp 52], argTypes := #[34, 34] }, type := 34, pos := "law.go:80", after := #[{ on := 1, ground := Ground.data }], guard := none }) rfl (fun K hK => ?_) AllReadyH.nil
          obtain ⟨ti0, hi, hz0, hz1, hz2⟩ := info_parts infoInt
          refine step_app _ rfl (.const (.slice none 0 0)) (.tmp 52) _ rfl W1.heap.size 3 ti0 _ 1 8 Try.underlying34 hi hz0 hz1 hz2 rfl (by decide) (.slice none 0 0) 0 [] rfl (World.ownsRow_nil _ _ _ _) A9 j c9 (NS.map (Value.int .i64)) rfl (Rd.of_sl (S9.below hHeld.1) (by rw [List.length_map]; exact HNL.out)) (oneI NS) (by unfold maxLen; omega) (by omega) hHeld.1.size ?_
          intro uA wX hoX hgX hvX
          clear hi hz0 hz1 hz2
          have HX := hHeld.1.grown hgX hHeld.1.size (fun k h => by simp [Value.ownBlock] at h)
          (try have DB := apart_new RB hvX)
          (try replace RB := RB.kept (row := none) hgX (by cases Value.ownBlock _ <;> simp))
          have RA := own_len (Nat.zero_add j) hoX
          rw [List.nil_append] at RA
          clear hoX hgX hvX
          refine hK.out _ _ ?_ (fun hNew => ?_)
          · (first | exact ⟨(Below.refl _ _).drew, y0, y1, y2, y3, y4⟩ | assumption | exact ⟨HX, (HX.cell (p := ⟨w.heap.size, 0, none⟩) hgW).trans y0, (HX.cell (p := ⟨w.heap.size, 1, none⟩) hgW).trans y1, (HX.cell (p := ⟨w.heap.size, 2, none⟩) hgW).trans y2, (HX.cell (p := ⟨w.heap.size, 3, none⟩) hgW).trans y3, (HX.cell (p := ⟨w.heap.size, 4, none⟩) hgW).trans y4⟩)
          clear hK K hHeld
          have hHeld := hNew
          clear hNew
          try simp only [Act.put, List.setIfInBounds_toArray, List.set_cons_zero, List.set_cons_succ]
          refine wpAnyH_ready (rs := [5]) (by kernel_rfl) (by simp) ?_
          refine AllReadyH.cons (o := { dst := some 56, op := Op.call { callee := Callee.builtin Builtin.append, args := #[Operand.tmp 53, Operand.tmp 55], argTypes := #[34, 34] }, type := 34, pos := "law.go:80", after := #[{ on := 2, ground := Ground.data }, { on := 4, ground := Ground.data }, { on := 2, ground := Ground.chain }], guard := none }) rfl (fun K hK => ?_) AllReadyH.nil
          obtain ⟨ti0, hi, hz0, hz1, hz2⟩ := info_parts infoInt
          refine step_app _ rfl (.tmp 53) (.tmp 55) _ rfl W1.heap.size 3 ti0 _ 1 8 Try.underlying34 hi hz0 hz1 hz2 rfl (by decide) _ j (NS.map (Value.int .i64)) rfl RA _ 1 1 [.int .i64 x2] rfl (Rd.of_sl (Sl.of_own RB) rfl) (by intro u hu; simp at hu; subst hu; rfl) (by unfold maxLen; omega) (by omega) hHeld.1.size ?_
          intro uC wX hoX hgX hvX
          clear hi hz0 hz1 hz2
          have HX := hHeld.1.grown hgX hHeld.1.size (fun k h => (RA.lt k h).1)
          obtain ⟨AC, cC, hvC, -, -, -, SC⟩ := own_sliceV hoX
          subst hvC
          have SC2 : Sl wX wX.heap.size AC ((NS ++ [x2]).map (Value.int .i64)) := by rw [List.map_append]; exact SC
          clear RA RB hoX hgX hvX SC
          refine hK.out _ _ ?_ (fun hNew => ?_)
          · (first | exact ⟨(Below.refl _ _).drew, y0, y1, y2, y3, y4⟩ | assumption | exact ⟨HX, (HX.cell (p := ⟨w.heap.size, 0, none⟩) hgW).trans y0, (HX.cell (p := ⟨w.heap.size, 1, none⟩) hgW).trans y1, (HX.cell (p := ⟨w.heap.size, 2, none⟩) hgW).trans y2, (HX.cell (p := ⟨w.heap.size, 3, none⟩) hgW).trans y3, (HX.cell (p := ⟨w.heap.size, 4, none⟩) hgW).trans y4⟩)
          clear hK K hHeld
          have hHeld := hNew
          clear hNew
          try simp only [Act.put, List.setIfInBounds_toArray, List.set_cons_zero, List.set_cons_succ]
          refine wpAnyH_ready (rs := [6]) (by kernel_rfl) (by simp) ?_
          refine AllReadyH.cons (o := { dst := some 57, op := Op.call { callee := Callee.value (Operand.func 13), args := #[Operand.tmp 51, Operand.tmp 56], argTypes := #[23, 34] }, type := 3, pos := "law.go:80", after := #[{ on := 0, ground := Ground.data }, { on := 5, ground := Ground.data }, { on := 5, ground := Ground.chain }], guard := none }) rfl (fun K hK => ?_) AllReadyH.nil
          go_simp
          (go_at_call 13; ((with_reducible refine (eneed_any _ _ _ _ _ (NS ++ [x2]) (j + 1) NA AC cC _ HM HAL.out (by omega) HNBA.out SC2 HNA.out).mono ?_); rintro e' w8 ⟨rfl, hb⟩; have HX := btr hHeld.1 hHeld.1.size hb))
          go_wp2_with fail
          refine hK.out _ _ ?_ (fun hNew => ?_)
          · (first | exact ⟨(Below.refl _ _).drew, y0, y1, y2, y3, y4⟩ | assumption | exact ⟨HX, (HX.cell (p := ⟨w.heap.size, 0, none⟩) hgW).trans y0, (HX.cell (p := ⟨w.heap.size, 1, none⟩) hgW).trans y1, (HX.cell (p := ⟨w.heap.size, 2, none⟩) hgW).trans y2, (HX.cell (p := ⟨w.heap.size, 3, none⟩) hgW).trans y3, (HX.cell (p := ⟨w.heap.size, 4, none⟩) hgW).trans y4⟩)
          clear hK K hHeld
          have hHeld := hNew
          clear hNew
          try simp only [Act.put, List.setIfInBounds_toArray, List.set_cons_zero, List.set_cons_succ]
          refine wpAnyH_take (i := 7) (oi := { dst := some 13, op := Op.assign (Operand.tmp 57), type := 3, pos := "law.go:80", after := #[{ on := 6, ground := Ground.data }, { on := 6, ground := Ground.chain }, { on := 0, ground := Ground.phase }, { on := 1, ground := Ground.phase }, { on := 2, ground := Ground.phase }, { on := 3, ground := Ground.phase }, { on := 4, ground := Ground.phase }, { on := 5, ground := Ground.phase }, { on := 6, ground := Ground.phase }], guard := none }) (v := ?_) rfl (by kernel_rfl) (by kernel_rfl) (by kernel_rfl) (fun _ _ _ h => h) (Or.inl ⟨by rfl, ?_⟩) (by assumption) ?_
          rotate_left
          · (intro wS hSw; (try dsimp only at hSw); go_simp; (try with_reducible rfl))
          try simp only [Act.put, List.setIfInBounds_toArray, List.set_cons_zero, List.set_cons_succ]
          refine wpAnyH_done (by kernel_rfl) ?_ _
          refine NoPanic.normal ?_
          go_wp2_with fail
          go_meet
          exact ⟨rfl, hHeld.1⟩
      case rest =>
      obtain ⟨rfl, hb⟩ := hcut
      obtain ⟨W2, rfl⟩ : ∃ W : World, W = wc := ⟨_, rfl⟩
      replace R9 := own_below R9 hb
      replace R10 := own_below R10 hb
      replace hB := btr hB hB.size hb
      (try clear G1)
      have G1 := G0.below hB hg0
      (try clear y0 y1 y2 y3 y4)
      have y0 := G1.cell_ 0
      have y1 := G1.cell_ 1
      have y2 := G1.cell_ 2
      have y3 := G1.cell_ 3
      have y4 := G1.cell_ 4
      simp at y0 y1 y2 y3 y4
      clear hb
      by_cases hj0 : j = 0
      · subst hj0
        have hnil : NS = [] := List.eq_nil_of_length_eq_zero HNL.out
        subst hnil
        have e0 : N0 = 1 := by rw [← HN0.out, need_none c24]
        subst e0
        obtain ⟨P1, hP1⟩ : ∃ x, partsI x2 c = x := ⟨_, rfl⟩
        obtain ⟨I1, hI1⟩ : ∃ x, idxI c [x2] = x := ⟨_, rfl⟩
        have hone := need_one c24 x2
        have ha1 : needI c [x2] = NA := HNA.out
        rw [ha1, hP1, hI1] at hone
        have p0 : 1 ≤ P1 := by rw [← hP1]; exact parts_pos _ _
        have p1 : P1 ≤ 1001 := by rw [← hP1]; have := parts_bd (s := x2) (e := c) (by omega) x0; omega
        have q0 : 1 ≤ I1 := by rw [← hI1]; exact parts_pos _ _
        have q1 : I1 ≤ 3000 := by
          rw [← hI1]
          unfold idxI
          have h1 : sumP c [x2] = P1 := by rw [← hP1]; simp [sumP]
          rw [h1]
          have := parts_bd (s := 2 + 4 * (([x2] : List Int).length : Int) + 2 * P1) (e := c - 2) (by omega) (by simp; omega)
          simp at this ⊢
          omega
        have hNAw : NA = IntKind.i64.wrap (IntKind.i64.wrap (IntKind.i64.wrap (1 + P1) + I1) - 1) := (by
          rw [IntWalk.i64_in (1 + P1) (by omega), IntWalk.i64_in (1 + P1 + I1) (by omega), IntWalk.i64_in (1 + P1 + I1 - 1) (by omega)]
          omega)
        have HNW := Lib.hid hNAw
        have e2 := eq_true hNAw
        clear hNAw
        have HP1 := Lib.hid hP1
        have HI1 := Lib.hid hI1
        have hxb : ∀ z ∈ [x2], 0 ≤ z ∧ z ≤ 1048576 := fun z hz => by rw [List.mem_singleton] at hz; omega
        have HXB := Lib.hid hxb
        clear hP1 hI1 hone ha1 hmore hxb
        go_upto_region 13 with fail
        have hgW2 : w.heap.size < W2.heap.size := G1.lt
        refine wp_region_noPanic ?_
        refine wp_region_held_drew (S := (fun w' => Below W2.heap.size W2 w' ∧ w'.cell? ⟨w.heap.size, 0, none⟩ = some (.int .i64 a) ∧ w'.cell? ⟨w.heap.size, 1, none⟩ = some (.int .i64 b) ∧ w'.cell? ⟨w.heap.size, 2, none⟩ = some (.int .i64 c) ∧ w'.cell? ⟨w.heap.size, 3, none⟩ = some (.int .i64 d) ∧ w'.cell? ⟨w.heap.size, 4, none⟩ = some (.int .i64 e))) (by kernel_rfl) ?_ (fun hHeld => ?_)
        · (first | exact ⟨(Below.refl _ _).drew, y0, y1, y2, y3, y4⟩ | assumption | exact ⟨HX, (HX.cell (p := ⟨w.heap.size, 0, none⟩) hgW2).trans y0, (HX.cell (p := ⟨w.heap.size, 1, none⟩) hgW2).trans y1, (HX.cell (p := ⟨w.heap.size, 2, none⟩) hgW2).trans y2, (HX.cell (p := ⟨w.heap.size, 3, none⟩) hgW2).trans y3, (HX.cell (p := ⟨w.heap.size, 4, none⟩) hgW2).trans y4⟩)
        refine wpAnyH_take (i := 0) (oi := { dst := some 61, op := Op.move (Operand.tmp 12), type := 3, pos := "law.go:82", after := #[], guard := none }) (v := ?_) rfl (by kernel_rfl) (by kernel_rfl) (by kernel_rfl) (fun _ _ _ h => h) (Or.inl ⟨by rfl, ?_⟩) (by assumption) ?_
        rotate_left
        · (intro wS hSw; (try dsimp only at hSw); go_simp; (try with_reducible rfl))
        try simp only [Act.put, List.setIfInBounds_toArray, List.set_cons_zero, List.set_cons_succ]
        refine wpAnyH_take (i := 1) (oi := { dst := some 62, op := Op.binOp BinOp.eql 3 (Operand.tmp 61) (Operand.const (Value.int IntKind.i64 1)) 3, type := 4, pos := "law.go:82", after := #[{ on := 0, ground := Ground.data }], guard := none }) (v := ?_) rfl (by kernel_rfl) (by kernel_rfl) (by kernel_rfl) (fun _ _ _ h => h) (Or.inl ⟨by rfl, ?_⟩) (by assumption) ?_
        rotate_left
        · (intro wS hSw; (try dsimp only at hSw); go_simp; (try with_reducible rfl))
        try simp only [Act.put, List.setIfInBounds_toArray, List.set_cons_zero, List.set_cons_succ]
        refine wpAnyH_take (i := 2) (oi := { dst := some 63, op := Op.move (Operand.tmp 62), type := 4, pos := "law.go:82", after := #[{ on := 1, ground := Ground.data }], guard := none }) (v := ?_) rfl (by kernel_rfl) (by kernel_rfl) (by kernel_rfl) (fun _ _ _ h => h) (Or.inl ⟨by rfl, ?_⟩) (by assumption) ?_
        rotate_left
        · (intro wS hSw; (try dsimp only at hSw); go_simp; (try with_reducible rfl))
        try simp only [Act.put, List.setIfInBounds_toArray, List.set_cons_zero, List.set_cons_succ]
        refine wpAnyH_take (i := 3) (oi := { dst := some 64, op := Op.move (Operand.tmp 13), type := 3, pos := "law.go:82", after := #[{ on := 2, ground := Ground.guard }], guard := some (2, true) }) (v := ?_) rfl (by kernel_rfl) (by kernel_rfl) (by kernel_rfl) (fun _ _ _ h => h) (Or.inl ⟨by rfl, ?_⟩) (by assumption) ?_
        rotate_left
        · (intro wS hSw; (try dsimp only at hSw); go_simp; (try with_reducible rfl))
        try simp only [Act.put, List.setIfInBounds_toArray, List.set_cons_zero, List.set_cons_succ]
        refine wpAnyH_take (i := 4) (oi := { dst := some 65, op := Op.move (Operand.tmp 12), type := 3, pos := "law.go:82", after := #[{ on := 2, ground := Ground.guard }], guard := some (2, true) }) (v := ?_) rfl (by kernel_rfl) (by kernel_rfl) (by kernel_rfl) (fun _ _ _ h => h) (Or.inl ⟨by rfl, ?_⟩) (by assumption) ?_
        rotate_left
        · (intro wS hSw; (try dsimp only at hSw); go_simp; (try with_reducible rfl))
        try simp only [Act.put, List.setIfInBounds_toArray, List.set_cons_zero, List.set_cons_succ]
        refine wpAnyH_take (i := 5) (oi := { dst := some 66, op := Op.load 23 (Operand.tmp 4), type := 23, pos := "law.go:82", after := #[{ on := 2, ground := Ground.guard }], guard := some (2, true) }) (v := ?_) rfl (by kernel_rfl) (by kernel_rfl) (by kernel_rfl) (fun _ _ _ h => h) (Or.inl ⟨by rfl, ?_⟩) (by assumption) ?_
        rotate_left
        · (intro wS hSw; (try dsimp only at hSw); go_simp; (try with_reducible rfl))
        try simp only [Act.put, List.setIfInBounds_toArray, List.set_cons_zero, List.set_cons_succ]
        refine wpAnyH_take (i := 6) (oi := { dst := some 67, op := Op.move (Operand.tmp 2), type := 3, pos := "law.go:82", after := #[{ on := 2, ground := Ground.guard }], guard := some (2, true) }) (v := ?_) rfl (by kernel_rfl) (by kernel_rfl) (by kernel_rfl) (fun _ _ _ h => h) (Or.inl ⟨by rfl, ?_⟩) (by assumption) ?_
        rotate_left
        · (intro wS hSw; (try dsimp only at hSw); go_simp; (try with_reducible rfl))
        try simp only [Act.put, List.setIfInBounds_toArray, List.set_cons_zero, List.set_cons_succ]
        refine wpAnyH_take (i := 9) (oi := { dst := some 70, op := Op.load 23 (Operand.tmp 4), type := 23, pos := "law.go:82", after := #[{ on := 2, ground := Ground.guard }], guard := some (2, true) }) (v := ?_) rfl (by kernel_rfl) (by kernel_rfl) (by kernel_rfl) (fun _ _ _ h => h) (Or.inl ⟨by rfl, ?_⟩) (by assumption) ?_
        rotate_left
        · (intro wS hSw; (try dsimp only at hSw); go_simp; (try with_reducible rfl))
        try simp only [Act.put, List.setIfInBounds_toArray, List.set_cons_zero, List.set_cons_succ]
        refine wpAnyH_take (i := 10) (oi := { dst := some 71, op := Op.move (Operand.tmp 2), type := 3, pos := "law.go:82", after := #[{ on := 2, ground := Ground.guard }], guard := some (2, true) }) (v := ?_) rfl (by kernel_rfl) (by kernel_rfl) (by kernel_rfl) (fun _ _ _ h => h) (Or.inl ⟨by rfl, ?_⟩) (by assumption) ?_
        rotate_left
        · (intro wS hSw; (try dsimp only at hSw); go_simp; (try with_reducible rfl))
        try simp only [Act.put, List.setIfInBounds_toArray, List.set_cons_zero, List.set_cons_succ]
        refine wpAnyH_ready (rs := [7, 11]) (by kernel_rfl) (by simp) ?_
        refine (AllReadyH.cons (o := { dst := some 68, op := Op.call { callee := Callee.value (Operand.func 10), args := #[Operand.tmp 66, Operand.tmp 67], argTypes := #[23, 3] }, type := 3, pos := "law.go:82", after := #[{ on := 5, ground := Ground.data }, { on := 6, ground := Ground.data }, { on := 2, ground := Ground.chain }, { on := 2, ground := Ground.guard }], guard := some (2, true) }) rfl (fun K hK => ?_) (AllReadyH.cons (o := { dst := some 72, op := Op.buildSlice 34 1 #[(0, Operand.tmp 71)], type := 34, pos := "law.go:82", after := #[{ on := 10, ground := Ground.data }, { on := 2, ground := Ground.guard }], guard := some (2, true) }) rfl (fun K hK => ?_) AllReadyH.nil))
        · go_simp
          (first
                    | (go_at_call 10; ((with_reducible refine (pages_any _ _ _ _ _ x2 P1 _ HM (by omega) (by omega) HP1.out).mono ?_); rintro e' w8 ⟨rfl, hb⟩; have HX := btr hHeld.1 hHeld.1.size hb; (try have SB := SB.next hb)))
                    | (go_at_call 14; ((refine (eidx_any _ _ _ _ _ [x2] 1 I1 _ _ _ HM rfl (by omega) HXB.out SB HI1.out).mono ?_); rintro e' w8 ⟨rfl, hb⟩; have HX := btr hHeld.1 hHeld.1.size hb; (try have SB := SB.next hb)))
                    | (go_at_call 7; ((with_reducible refine (awake_any _).mono ?_); rintro e' w8 ⟨rfl, hb⟩; have HX := btr hHeld.1 hHeld.1.size hb; (try have SB := SB.next hb))))
          go_wp2_with fail
          refine hK.out _ _ ?_ (fun hNew => ?_)
          · (first | exact ⟨(Below.refl _ _).drew, y0, y1, y2, y3, y4⟩ | assumption | exact ⟨HX, (HX.cell (p := ⟨w.heap.size, 0, none⟩) hgW2).trans y0, (HX.cell (p := ⟨w.heap.size, 1, none⟩) hgW2).trans y1, (HX.cell (p := ⟨w.heap.size, 2, none⟩) hgW2).trans y2, (HX.cell (p := ⟨w.heap.size, 3, none⟩) hgW2).trans y3, (HX.cell (p := ⟨w.heap.size, 4, none⟩) hgW2).trans y4⟩)
          clear hK K hHeld
          have hHeld := hNew
          clear hNew
          try simp only [Act.put, List.setIfInBounds_toArray, List.set_cons_zero, List.set_cons_succ]
          refine wpAnyH_take (i := 8) (oi := { dst := some 69, op := Op.binOp BinOp.add 3 (Operand.tmp 65) (Operand.tmp 68) 3, type := 3, pos := "law.go:82", after := #[{ on := 4, ground := Ground.data }, { on := 7, ground := Ground.data }, { on := 2, ground := Ground.guard }], guard := some (2, true) }) (v := ?_) rfl (by kernel_rfl) (by kernel_rfl) (by kernel_rfl) (fun _ _ _ h => h) (Or.inl ⟨by rfl, ?_⟩) (by assumption) ?_
          rotate_left
          · (intro wS hSw; (try dsimp only at hSw); go_simp; (try with_reducible rfl))
          try simp only [Act.put, List.setIfInBounds_toArray, List.set_cons_zero, List.set_cons_succ]
          refine wpAnyH_ready (rs := [11]) (by kernel_rfl) (by simp) ?_
          refine AllReadyH.cons (o := { dst := some 72, op := Op.buildSlice 34 1 #[(0, Operand.tmp 71)], type := 34, pos := "law.go:82", after := #[{ on := 10, ground := Ground.data }, { on := 2, ground := Ground.guard }], guard := some (2, true) }) rfl (fun K hK => ?_) AllReadyH.nil
          refine wanted_then (by rfl) ?_
          refine wp_build1 _ rfl x2 rfl W2.heap.size hHeld.1.size ?_
          intro wX uB RB hgX hvX huX
          have HX := hHeld.1.grown hgX hHeld.1.size (fun k h => by cases h)
          subst huX
          have SB : Sl wX wX.heap.size _ (([x2] : List Int).map (Value.int .i64)) := Sl.of_own RB
          clear hgX hvX RB
          refine hK.out _ _ ?_ (fun hNew => ?_)
          · (first | exact ⟨(Below.refl _ _).drew, y0, y1, y2, y3, y4⟩ | assumption | exact ⟨HX, (HX.cell (p := ⟨w.heap.size, 0, none⟩) hgW2).trans y0, (HX.cell (p := ⟨w.heap.size, 1, none⟩) hgW2).trans y1, (HX.cell (p := ⟨w.heap.size, 2, none⟩) hgW2).trans y2, (HX.cell (p := ⟨w.heap.size, 3, none⟩) hgW2).trans y3, (HX.cell (p := ⟨w.heap.size, 4, none⟩) hgW2).trans y4⟩)
          clear hK K hHeld
          have hHeld := hNew
          clear hNew
          try simp only [Act.put, List.setIfInBounds_toArray, List.set_cons_zero, List.set_cons_succ]
          refine wpAnyH_ready (rs := [12]) (by kernel_rfl) (by simp) ?_
          refine AllReadyH.cons (o := { dst := some 73, op := Op.call { callee := Callee.value (Operand.func 14), args := #[Operand.tmp 70, Operand.tmp 72], argTypes := #[23, 34] }, type := 3, pos := "law.go:82", after := #[{ on := 9, ground := Ground.data }, { on := 11, ground := Ground.data }, { on := 7, ground := Ground.chain }, { on := 2, ground := Ground.guard }], guard := some (2, true) }) rfl (fun K hK => ?_) AllReadyH.nil
          go_simp
          (first
                    | (go_at_call 10; ((with_reducible refine (pages_any _ _ _ _ _ x2 P1 _ HM (by omega) (by omega) HP1.out).mono ?_); rintro e' w8 ⟨rfl, hb⟩; have HX := btr hHeld.1 hHeld.1.size hb; (try have SB := SB.next hb)))
                    | (go_at_call 14; ((refine (eidx_any _ _ _ _ _ [x2] 1 I1 _ _ _ HM rfl (by omega) HXB.out SB HI1.out).mono ?_); rintro e' w8 ⟨rfl, hb⟩; have HX := btr hHeld.1 hHeld.1.size hb; (try have SB := SB.next hb)))
                    | (go_at_call 7; ((with_reducible refine (awake_any _).mono ?_); rintro e' w8 ⟨rfl, hb⟩; have HX := btr hHeld.1 hHeld.1.size hb; (try have SB := SB.next hb))))
          go_wp2_with fail
          refine hK.out _ _ ?_ (fun hNew => ?_)
          · (first | exact ⟨(Below.refl _ _).drew, y0, y1, y2, y3, y4⟩ | assumption | exact ⟨HX, (HX.cell (p := ⟨w.heap.size, 0, none⟩) hgW2).trans y0, (HX.cell (p := ⟨w.heap.size, 1, none⟩) hgW2).trans y1, (HX.cell (p := ⟨w.heap.size, 2, none⟩) hgW2).trans y2, (HX.cell (p := ⟨w.heap.size, 3, none⟩) hgW2).trans y3, (HX.cell (p := ⟨w.heap.size, 4, none⟩) hgW2).trans y4⟩)
          clear hK K hHeld
          have hHeld := hNew
          clear hNew
          try simp only [Act.put, List.setIfInBounds_toArray, List.set_cons_zero, List.set_cons_succ]
          refine wpAnyH_take (i := 13) (oi := { dst := some 74, op := Op.binOp BinOp.add 3 (Operand.tmp 69) (Operand.tmp 73) 3, type := 3, pos := "law.go:82", after := #[{ on := 8, ground := Ground.data }, { on := 12, ground := Ground.data }, { on := 2, ground := Ground.guard }], guard := some (2, true) }) (v := ?_) rfl (by kernel_rfl) (by kernel_rfl) (by kernel_rfl) (fun _ _ _ h => h) (Or.inl ⟨by rfl, ?_⟩) (by assumption) ?_
          rotate_left
          · (intro wS hSw; (try dsimp only at hSw); go_simp; (try with_reducible rfl))
          try simp only [Act.put, List.setIfInBounds_toArray, List.set_cons_zero, List.set_cons_succ]
          refine wpAnyH_take (i := 14) (oi := { dst := some 75, op := Op.binOp BinOp.sub 3 (Operand.tmp 74) (Operand.const (Value.int IntKind.i64 1)) 3, type := 3, pos := "law.go:82", after := #[{ on := 13, ground := Ground.data }, { on := 2, ground := Ground.guard }], guard := some (2, true) }) (v := ?_) rfl (by kernel_rfl) (by kernel_rfl) (by kernel_rfl) (fun _ _ _ h => h) (Or.inl ⟨by rfl, ?_⟩) (by assumption) ?_
          rotate_left
          · (intro wS hSw; (try dsimp only at hSw); go_simp; (try with_reducible rfl))
          try simp only [Act.put, List.setIfInBounds_toArray, List.set_cons_zero, List.set_cons_succ]
          refine wpAnyH_take (i := 15) (oi := { dst := some 76, op := Op.binOp BinOp.eql 3 (Operand.tmp 64) (Operand.tmp 75) 3, type := 4, pos := "law.go:82", after := #[{ on := 3, ground := Ground.data }, { on := 14, ground := Ground.data }, { on := 2, ground := Ground.guard }], guard := some (2, true) }) (v := ?_) rfl (by kernel_rfl) (by kernel_rfl) (by kernel_rfl) (fun _ _ _ h => h) (Or.inl ⟨by rfl, ?_⟩) (by assumption) ?_
          rotate_left
          · (intro wS hSw; (try dsimp only at hSw); go_simp; (try with_reducible rfl))
          try simp only [Act.put, List.setIfInBounds_toArray, List.set_cons_zero, List.set_cons_succ]
          refine wpAnyH_take (i := 16) (oi := { dst := some 77, op := Op.pick (Operand.tmp 63) (Operand.tmp 76) (Operand.const (Value.bool false)), type := 4, pos := "law.go:82", after := #[{ on := 2, ground := Ground.data }, { on := 15, ground := Ground.data }], guard := none }) (v := ?_) rfl (by kernel_rfl) (by kernel_rfl) (by kernel_rfl) (fun _ _ _ h => h) (Or.inl ⟨by rfl, ?_⟩) (by assumption) ?_
          rotate_left
          · (intro wS hSw; (try dsimp only at hSw); go_simp; (try with_reducible rfl))
          try simp only [Act.put, List.setIfInBounds_toArray, List.set_cons_zero, List.set_cons_succ]
          refine wpAnyH_take (i := 17) (oi := { dst := some 78, op := Op.move (Operand.tmp 77), type := 4, pos := "law.go:82", after := #[{ on := 16, ground := Ground.data }, { on := 12, ground := Ground.chain }], guard := none }) (v := ?_) rfl (by kernel_rfl) (by kernel_rfl) (by kernel_rfl) (fun _ _ _ h => h) (Or.inl ⟨by rfl, ?_⟩) (by assumption) ?_
          rotate_left
          · (intro wS hSw; (try dsimp only at hSw); go_simp; (try with_reducible rfl))
          try simp only [Act.put, List.setIfInBounds_toArray, List.set_cons_zero, List.set_cons_succ]
          refine wpAnyH_ready (rs := [18]) (by kernel_rfl) (by simp) ?_
          refine AllReadyH.cons (o := { dst := some 79, op := Op.call { callee := Callee.value (Operand.func 7), args := #[], argTypes := #[] }, type := 4, pos := "law.go:82", after := #[{ on := 17, ground := Ground.chain }, { on := 17, ground := Ground.guard }], guard := some (17, true) }) rfl (fun K hK => ?_) AllReadyH.nil
          go_simp
          (first
                    | (go_at_call 10; ((with_reducible refine (pages_any _ _ _ _ _ x2 P1 _ HM (by omega) (by omega) HP1.out).mono ?_); rintro e' w8 ⟨rfl, hb⟩; have HX := btr hHeld.1 hHeld.1.size hb; (try have SB := SB.next hb)))
                    | (go_at_call 14; ((refine (eidx_any _ _ _ _ _ [x2] 1 I1 _ _ _ HM rfl (by omega) HXB.out SB HI1.out).mono ?_); rintro e' w8 ⟨rfl, hb⟩; have HX := btr hHeld.1 hHeld.1.size hb; (try have SB := SB.next hb)))
                    | (go_at_call 7; ((with_reducible refine (awake_any _).mono ?_); rintro e' w8 ⟨rfl, hb⟩; have HX := btr hHeld.1 hHeld.1.size hb; (try have SB := SB.next hb))))
          go_wp2_with fail
          refine hK.out _ _ ?_ (fun hNew => ?_)
          · (first | exact ⟨(Below.refl _ _).drew, y0, y1, y2, y3, y4⟩ | assumption | exact ⟨HX, (HX.cell (p := ⟨w.heap.size, 0, none⟩) hgW2).trans y0, (HX.cell (p := ⟨w.heap.size, 1, none⟩) hgW2).trans y1, (HX.cell (p := ⟨w.heap.size, 2, none⟩) hgW2).trans y2, (HX.cell (p := ⟨w.heap.size, 3, none⟩) hgW2).trans y3, (HX.cell (p := ⟨w.heap.size, 4, none⟩) hgW2).trans y4⟩)
          clear hK K hHeld
          have hHeld := hNew
          clear hNew
          try simp only [Act.put, List.setIfInBounds_toArray, List.set_cons_zero, List.set_cons_succ]
          refine wpAnyH_take (i := 19) (oi := { dst := some 80, op := Op.pick (Operand.tmp 78) (Operand.tmp 79) (Operand.const (Value.bool false)), type := 4, pos := "law.go:82", after := #[{ on := 17, ground := Ground.data }, { on := 18, ground := Ground.data }], guard := none }) (v := ?_) rfl (by kernel_rfl) (by kernel_rfl) (by kernel_rfl) (fun _ _ _ h => h) (Or.inl ⟨by rfl, ?_⟩) (by assumption) ?_
          rotate_left
          · (intro wS hSw; (try dsimp only at hSw); go_simp; (try with_reducible rfl))
          try simp only [Act.put, List.setIfInBounds_toArray, List.set_cons_zero, List.set_cons_succ]
          refine wpAnyH_take (i := 20) (oi := { dst := some 8, op := Op.assign (Operand.tmp 80), type := 4, pos := "law.go:82", after := #[{ on := 19, ground := Ground.data }, { on := 18, ground := Ground.chain }, { on := 0, ground := Ground.phase }, { on := 1, ground := Ground.phase }, { on := 2, ground := Ground.phase }, { on := 3, ground := Ground.phase }, { on := 4, ground := Ground.phase }, { on := 5, ground := Ground.phase }, { on := 6, ground := Ground.phase }, { on := 7, ground := Ground.phase }, { on := 8, ground := Ground.phase }, { on := 9, ground := Ground.phase }, { on := 10, ground := Ground.phase }, { on := 11, ground := Ground.phase }, { on := 12, ground := Ground.phase }, { on := 13, ground := Ground.phase }, { on := 14, ground := Ground.phase }, { on := 15, ground := Ground.phase }, { on := 16, ground := Ground.phase }, { on := 17, ground := Ground.phase }, { on := 18, ground := Ground.phase }, { on := 19, ground := Ground.phase }], guard := none }) (v := ?_) rfl (by kernel_rfl) (by kernel_rfl) (by kernel_rfl) (fun _ _ _ h => h) (Or.inl ⟨by rfl, ?_⟩) (by assumption) ?_
          rotate_left
          · (intro wS hSw; (try dsimp only at hSw); go_simp; (try with_reducible rfl))
          try simp only [Act.put, List.setIfInBounds_toArray, List.set_cons_zero, List.set_cons_succ]
          refine wpAnyH_done (by kernel_rfl) ?_ _
          refine NoPanic.normal ?_
          go_wp2_with fail
          go_ret
          exact ⟨by simp; exact HNW.out, HB0.trans ((hB.trans (hHeld.1.mono hB.size)).mono (by omega))⟩
        · refine wanted_then (by rfl) ?_
          refine wp_build1 _ rfl x2 rfl W2.heap.size hHeld.1.size ?_
          intro wX uB RB hgX hvX huX
          have HX := hHeld.1.grown hgX hHeld.1.size (fun k h => by cases h)
          subst huX
          have SB : Sl wX wX.heap.size _ (([x2] : List Int).map (Value.int .i64)) := Sl.of_own RB
          clear hgX hvX RB
          refine hK.out _ _ ?_ (fun hNew => ?_)
          · (first | exact ⟨(Below.refl _ _).drew, y0, y1, y2, y3, y4⟩ | assumption | exact ⟨HX, (HX.cell (p := ⟨w.heap.size, 0, none⟩) hgW2).trans y0, (HX.cell (p := ⟨w.heap.size, 1, none⟩) hgW2).trans y1, (HX.cell (p := ⟨w.heap.size, 2, none⟩) hgW2).trans y2, (HX.cell (p := ⟨w.heap.size, 3, none⟩) hgW2).trans y3, (HX.cell (p := ⟨w.heap.size, 4, none⟩) hgW2).trans y4⟩)
          clear hK K hHeld
          have hHeld := hNew
          clear hNew
          try simp only [Act.put, List.setIfInBounds_toArray, List.set_cons_zero, List.set_cons_succ]
          refine wpAnyH_ready (rs := [7]) (by kernel_rfl) (by simp) ?_
          refine AllReadyH.cons (o := { dst := some 68, op := Op.call { callee := Callee.value (Operand.func 10), args := #[Operand.tmp 66, Operand.tmp 67], argTypes := #[23, 3] }, type := 3, pos := "law.go:82", after := #[{ on := 5, ground := Ground.data }, { on := 6, ground := Ground.data }, { on := 2, ground := Ground.chain }, { on := 2, ground := Ground.guard }], guard := some (2, true) }) rfl (fun K hK => ?_) AllReadyH.nil
          go_simp
          (first
                    | (go_at_call 10; ((with_reducible refine (pages_any _ _ _ _ _ x2 P1 _ HM (by omega) (by omega) HP1.out).mono ?_); rintro e' w8 ⟨rfl, hb⟩; have HX := btr hHeld.1 hHeld.1.size hb; (try have SB := SB.next hb)))
                    | (go_at_call 14; ((refine (eidx_any _ _ _ _ _ [x2] 1 I1 _ _ _ HM rfl (by omega) HXB.out SB HI1.out).mono ?_); rintro e' w8 ⟨rfl, hb⟩; have HX := btr hHeld.1 hHeld.1.size hb; (try have SB := SB.next hb)))
                    | (go_at_call 7; ((with_reducible refine (awake_any _).mono ?_); rintro e' w8 ⟨rfl, hb⟩; have HX := btr hHeld.1 hHeld.1.size hb; (try have SB := SB.next hb))))
          go_wp2_with fail
          refine hK.out _ _ ?_ (fun hNew => ?_)
          · (first | exact ⟨(Below.refl _ _).drew, y0, y1, y2, y3, y4⟩ | assumption | exact ⟨HX, (HX.cell (p := ⟨w.heap.size, 0, none⟩) hgW2).trans y0, (HX.cell (p := ⟨w.heap.size, 1, none⟩) hgW2).trans y1, (HX.cell (p := ⟨w.heap.size, 2, none⟩) hgW2).trans y2, (HX.cell (p := ⟨w.heap.size, 3, none⟩) hgW2).trans y3, (HX.cell (p := ⟨w.heap.size, 4, none⟩) hgW2).trans y4⟩)
          clear hK K hHeld
          have hHeld := hNew
          clear hNew
          try simp only [Act.put, List.setIfInBounds_toArray, List.set_cons_zero, List.set_cons_succ]
          refine wpAnyH_take (i := 8) (oi := { dst := some 69, op := Op.binOp BinOp.add 3 (Operand.tmp 65) (Operand.tmp 68) 3, type := 3, pos := "law.go:82", after := #[{ on := 4, ground := Ground.data }, { on := 7, ground := Ground.data }, { on := 2, ground := Ground.guard }], guard := some (2, true) }) (v := ?_) rfl (by kernel_rfl) (by kernel_rfl) (by kernel_rfl) (fun _ _ _ h => h) (Or.inl ⟨by rfl, ?_⟩) (by assumption) ?_
          rotate_left
          · (intro wS hSw; (try dsimp only at hSw); go_simp; (try with_reducible rfl))
          try simp only [Act.put, List.setIfInBounds_toArray, List.set_cons_zero, List.set_cons_succ]
          refine wpAnyH_ready (rs := [12]) (by kernel_rfl) (by simp) ?_
          refine AllReadyH.cons (o := { dst := some 73, op := Op.call { callee := Callee.value (Operand.func 14), args := #[Operand.tmp 70, Operand.tmp 72], argTypes := #[23, 34] }, type := 3, pos := "law.go:82", after := #[{ on := 9, ground := Ground.data }, { on := 11, ground := Ground.data }, { on := 7, ground := Ground.chain }, { on := 2, ground := Ground.guard }], guard := some (2, true) }) rfl (fun K hK => ?_) AllReadyH.nil
          go_simp
          (first
                    | (go_at_call 10; ((with_reducible refine (pages_any _ _ _ _ _ x2 P1 _ HM (by omega) (by omega) HP1.out).mono ?_); rintro e' w8 ⟨rfl, hb⟩; have HX := btr hHeld.1 hHeld.1.size hb; (try have SB := SB.next hb)))
                    | (go_at_call 14; ((refine (eidx_any _ _ _ _ _ [x2] 1 I1 _ _ _ HM rfl (by omega) HXB.out SB HI1.out).mono ?_); rintro e' w8 ⟨rfl, hb⟩; have HX := btr hHeld.1 hHeld.1.size hb; (try have SB := SB.next hb)))
                    | (go_at_call 7; ((with_reducible refine (awake_any _).mono ?_); rintro e' w8 ⟨rfl, hb⟩; have HX := btr hHeld.1 hHeld.1.size hb; (try have SB := SB.next hb))))
          go_wp2_with fail
          refine hK.out _ _ ?_ (fun hNew => ?_)
          · (first | exact ⟨(Below.refl _ _).drew, y0, y1, y2, y3, y4⟩ | assumption | exact ⟨HX, (HX.cell (p := ⟨w.heap.size, 0, none⟩) hgW2).trans y0, (HX.cell (p := ⟨w.heap.size, 1, none⟩) hgW2).trans y1, (HX.cell (p := ⟨w.heap.size, 2, none⟩) hgW2).trans y2, (HX.cell (p := ⟨w.heap.size, 3, none⟩) hgW2).trans y3, (HX.cell (p := ⟨w.heap.size, 4, none⟩) hgW2).trans y4⟩)
          clear hK K hHeld
          have hHeld := hNew
          clear hNew
          try simp only [Act.put, List.setIfInBounds_toArray, List.set_cons_zero, List.set_cons_succ]
          refine wpAnyH_take (i := 13) (oi := { dst := some 74, op := Op.binOp BinOp.add 3 (Operand.tmp 69) (Operand.tmp 73) 3, type := 3, pos := "law.go:82", after := #[{ on := 8, ground := Ground.data }, { on := 12, ground := Ground.data }, { on := 2, ground := Ground.guard }], guard := some (2, true) }) (v := ?_) rfl (by kernel_rfl) (by kernel_rfl) (by kernel_rfl) (fun _ _ _ h => h) (Or.inl ⟨by rfl, ?_⟩) (by assumption) ?_
          rotate_left
          · (intro wS hSw; (try dsimp only at hSw); go_simp; (try with_reducible rfl))
          try simp only [Act.put, List.setIfInBounds_toArray, List.set_cons_zero, List.set_cons_succ]
          refine wpAnyH_take (i := 14) (oi := { dst := some 75, op := Op.binOp BinOp.sub 3 (Operand.tmp 74) (Operand.const (Value.int IntKind.i64 1)) 3, type := 3, pos := "law.go:82", after := #[{ on := 13, ground := Ground.data }, { on := 2, ground := Ground.guard }], guard := some (2, true) }) (v := ?_) rfl (by kernel_rfl) (by kernel_rfl) (by kernel_rfl) (fun _ _ _ h => h) (Or.inl ⟨by rfl, ?_⟩) (by assumption) ?_
          rotate_left
          · (intro wS hSw; (try dsimp only at hSw); go_simp; (try with_reducible rfl))
          try simp only [Act.put, List.setIfInBounds_toArray, List.set_cons_zero, List.set_cons_succ]
          refine wpAnyH_take (i := 15) (oi := { dst := some 76, op := Op.binOp BinOp.eql 3 (Operand.tmp 64) (Operand.tmp 75) 3, type := 4, pos := "law.go:82", after := #[{ on := 3, ground := Ground.data }, { on := 14, ground := Ground.data }, { on := 2, ground := Ground.guard }], guard := some (2, true) }) (v := ?_) rfl (by kernel_rfl) (by kernel_rfl) (by kernel_rfl) (fun _ _ _ h => h) (Or.inl ⟨by rfl, ?_⟩) (by assumption) ?_
          rotate_left
          · (intro wS hSw; (try dsimp only at hSw); go_simp; (try with_reducible rfl))
          try simp only [Act.put, List.setIfInBounds_toArray, List.set_cons_zero, List.set_cons_succ]
          refine wpAnyH_take (i := 16) (oi := { dst := some 77, op := Op.pick (Operand.tmp 63) (Operand.tmp 76) (Operand.const (Value.bool false)), type := 4, pos := "law.go:82", after := #[{ on := 2, ground := Ground.data }, { on := 15, ground := Ground.data }], guard := none }) (v := ?_) rfl (by kernel_rfl) (by kernel_rfl) (by kernel_rfl) (fun _ _ _ h => h) (Or.inl ⟨by rfl, ?_⟩) (by assumption) ?_
          rotate_left
          · (intro wS hSw; (try dsimp only at hSw); go_simp; (try with_reducible rfl))
          try simp only [Act.put, List.setIfInBounds_toArray, List.set_cons_zero, List.set_cons_succ]
          refine wpAnyH_take (i := 17) (oi := { dst := some 78, op := Op.move (Operand.tmp 77), type := 4, pos := "law.go:82", after := #[{ on := 16, ground := Ground.data }, { on := 12, ground := Ground.chain }], guard := none }) (v := ?_) rfl (by kernel_rfl) (by kernel_rfl) (by kernel_rfl) (fun _ _ _ h => h) (Or.inl ⟨by rfl, ?_⟩) (by assumption) ?_
          rotate_left
          · (intro wS hSw; (try dsimp only at hSw); go_simp; (try with_reducible rfl))
          try simp only [Act.put, List.setIfInBounds_toArray, List.set_cons_zero, List.set_cons_succ]
          refine wpAnyH_ready (rs := [18]) (by kernel_rfl) (by simp) ?_
          refine AllReadyH.cons (o := { dst := some 79, op := Op.call { callee := Callee.value (Operand.func 7), args := #[], argTypes := #[] }, type := 4, pos := "law.go:82", after := #[{ on := 17, ground := Ground.chain }, { on := 17, ground := Ground.guard }], guard := some (17, true) }) rfl (fun K hK => ?_) AllReadyH.nil
          go_simp
          (first
                    | (go_at_call 10; ((with_reducible refine (pages_any _ _ _ _ _ x2 P1 _ HM (by omega) (by omega) HP1.out).mono ?_); rintro e' w8 ⟨rfl, hb⟩; have HX := btr hHeld.1 hHeld.1.size hb; (try have SB := SB.next hb)))
                    | (go_at_call 14; ((refine (eidx_any _ _ _ _ _ [x2] 1 I1 _ _ _ HM rfl (by omega) HXB.out SB HI1.out).mono ?_); rintro e' w8 ⟨rfl, hb⟩; have HX := btr hHeld.1 hHeld.1.size hb; (try have SB := SB.next hb)))
                    | (go_at_call 7; ((with_reducible refine (awake_any _).mono ?_); rintro e' w8 ⟨rfl, hb⟩; have HX := btr hHeld.1 hHeld.1.size hb; (try have SB := SB.next hb))))
          go_wp2_with fail
          refine hK.out _ _ ?_ (fun hNew => ?_)
          · (first | exact ⟨(Below.refl _ _).drew, y0, y1, y2, y3, y4⟩ | assumption | exact ⟨HX, (HX.cell (p := ⟨w.heap.size, 0, none⟩) hgW2).trans y0, (HX.cell (p := ⟨w.heap.size, 1, none⟩) hgW2).trans y1, (HX.cell (p := ⟨w.heap.size, 2, none⟩) hgW2).trans y2, (HX.cell (p := ⟨w.heap.size, 3, none⟩) hgW2).trans y3, (HX.cell (p := ⟨w.heap.size, 4, none⟩) hgW2).trans y4⟩)
          clear hK K hHeld
          have hHeld := hNew
          clear hNew
          try simp only [Act.put, List.setIfInBounds_toArray, List.set_cons_zero, List.set_cons_succ]
          refine wpAnyH_take (i := 19) (oi := { dst := some 80, op := Op.pick (Operand.tmp 78) (Operand.tmp 79) (Operand.const (Value.bool false)), type := 4, pos := "law.go:82", after := #[{ on := 17, ground := Ground.data }, { on := 18, ground := Ground.data }], guard := none }) (v := ?_) rfl (by kernel_rfl) (by kernel_rfl) (by kernel_rfl) (fun _ _ _ h => h) (Or.inl ⟨by rfl, ?_⟩) (by assumption) ?_
          rotate_left
          · (intro wS hSw; (try dsimp only at hSw); go_simp; (try with_reducible rfl))
          try simp only [Act.put, List.setIfInBounds_toArray, List.set_cons_zero, List.set_cons_succ]
          refine wpAnyH_take (i := 20) (oi := { dst := some 8, op := Op.assign (Operand.tmp 80), type := 4, pos := "law.go:82", after := #[{ on := 19, ground := Ground.data }, { on := 18, ground := Ground.chain }, { on := 0, ground := Ground.phase }, { on := 1, ground := Ground.phase }, { on := 2, ground := Ground.phase }, { on := 3, ground := Ground.phase }, { on := 4, ground := Ground.phase }, { on := 5, ground := Ground.phase }, { on := 6, ground := Ground.phase }, { on := 7, ground := Ground.phase }, { on := 8, ground := Ground.phase }, { on := 9, ground := Ground.phase }, { on := 10, ground := Ground.phase }, { on := 11, ground := Ground.phase }, { on := 12, ground := Ground.phase }, { on := 13, ground := Ground.phase }, { on := 14, ground := Ground.phase }, { on := 15, ground := Ground.phase }, { on := 16, ground := Ground.phase }, { on := 17, ground := Ground.phase }, { on := 18, ground := Ground.phase }, { on := 19, ground := Ground.phase }], guard := none }) (v := ?_) rfl (by kernel_rfl) (by kernel_rfl) (by kernel_rfl) (fun _ _ _ h => h) (Or.inl ⟨by rfl, ?_⟩) (by assumption) ?_
          rotate_left
          · (intro wS hSw; (try dsimp only at hSw); go_simp; (try with_reducible rfl))
          try simp only [Act.put, List.setIfInBounds_toArray, List.set_cons_zero, List.set_cons_succ]
          refine wpAnyH_done (by kernel_rfl) ?_ _
          refine NoPanic.normal ?_
          go_wp2_with fail
          go_ret
          exact ⟨by simp; exact HNW.out, HB0.trans ((hB.trans (hHeld.1.mono hB.size)).mono (by omega))⟩
      have k1 : (1 : Int) ≤ (j : Int) := by omega
      obtain ⟨p, hp, hp2⟩ : ∃ k : Nat, lowI which (j : Int) = (k : Int) ∧ k < j := by
        have := lowI_bd which (j : Int) k1
        exact ⟨(lowI which (j : Int)).toNat, by omega, by omega⟩
      have HPP := Lib.hid hp
      have hpl : p < NS.length := by rw [HNL.out]; exact hp2
      obtain ⟨zp, hzp⟩ : ∃ z, NS.getD p 0 = z := ⟨_, rfl⟩
      have hzm : zp ∈ NS := by
        rw [← hzp, List.getD_eq_getElem?_getD, List.getElem?_eq_getElem hpl]
        exact List.getElem_mem hpl
      have hzb := HNB.out zp hzm
      have z0 : 0 ≤ zp := hzb.1
      have z1 : zp < 1000 := hzb.2
      have hset := need_set c24 NS p hpl (zp + x2) (by omega)
      obtain ⟨NB, hNB3⟩ : ∃ x, needI c (NS.set p (zp + x2)) = x := ⟨_, rfl⟩
      rw [HN0.out, hNB3] at hset
      have hsb : ∀ z ∈ NS.set p (zp + x2), 0 ≤ z ∧ z ≤ 1048576 := fun z hz => by
        rcases List.mem_or_eq_of_mem_set hz with h | h
        · exact HNB2.out z h
        · omega
      have hsl : (NS.set p (zp + x2)).length = j := by rw [List.length_set, HNL.out]
      have HNB3 := Lib.hid hNB3
      have HSB := Lib.hid hsb
      have HSL := Lib.hid hsl
      have j0 : ((j : Int) == 0) = false := by simp; omega
      go_upto_region 14 with fail
      obtain ⟨g9, cap9, hA9, -, -⟩ := R9.form (by omega)
      cases hA9
      have fa := R9.frozenAt p
      have hga := (R9.lt g9 rfl).1
      have ca : W2.cell? ⟨g9, p, none⟩ = some (.int .i64 zp) := by
        rw [R9.cellAt p (by omega), List.getElem?_map, List.getElem?_eq_getElem hpl, ← hzp, List.getD_eq_getElem?_getD, List.getElem?_eq_getElem hpl]
        rfl
      have hst := R9.stored p (.int .i64 (zp + x2))
      rw [← List.map_set] at hst
      have R9s := hst.1
      have R10s := own_kept2 R10 hst.2 (apart_sym AP)
      have hBs := hB.setCell (p := ⟨g9, p, none⟩) hga (.int .i64 (zp + x2))
      have Gs := G0.below hBs hg0
      have i0 : (0 : Int) ≤ (p : Int) := by omega
      have i1 : (p : Int) < (j : Int) := by omega
      have t1 : N0 < NA := hmore
      have t2 : N0 ≤ NB := hset
      clear hst hp hpl hzp hzm hzb hset hNB3 hsb hsl hp2 hmore R9 R10 hB G1 y0 y1 y2 y3 y4
      have R9 := R9s
      have R10 := R10s
      have hB := hBs
      have G1 := Gs
      clear R9s R10s hBs Gs
      have y0 := G1.cell_ 0
      have y1 := G1.cell_ 1
      have y2 := G1.cell_ 2
      have y3 := G1.cell_ 3
      have y4 := G1.cell_ 4
      simp at y0 y1 y2 y3 y4
      go_wp2_with (first
        | (go_at_call 13; ((with_reducible refine (eneed_any _ _ _ _ _ (NS.set p (zp + x2)) j NB _ c9 _ HM HSL.out (by omega) HSB.out (own_slA R9) HNB3.out).mono ?_); rintro e' wT ⟨rfl, hb⟩; replace R9 := own_below R9 hb; replace R10 := own_below R10 hb; replace hB := btr hB hB.size hb; (try clear G1); have G1 := G0.below hB hg0; (try clear y0 y1 y2 y3 y4); have y0 := G1.cell_ 0; have y1 := G1.cell_ 1; have y2 := G1.cell_ 2; have y3 := G1.cell_ 3; have y4 := G1.cell_ 4; simp at y0 y1 y2 y3 y4; clear hb))
        | (go_at_call 13; ((with_reducible refine (eneed_any _ _ _ _ _ NS.reverse j N0 A10 c10 _ HM HRL.out (by omega) HNBR.out (own_slA R10) HNR.out).mono ?_); rintro e' wT ⟨rfl, hb⟩; replace R9 := own_below R9 hb; replace R10 := own_below R10 hb; replace hB := btr hB hB.size hb; (try clear G1); have G1 := G0.below hB hg0; (try clear y0 y1 y2 y3 y4); have y0 := G1.cell_ 0; have y1 := G1.cell_ 1; have y2 := G1.cell_ 2; have y3 := G1.cell_ 3; have y4 := G1.cell_ 4; simp at y0 y1 y2 y3 y4; clear hb))
        | (go_at_call 12; refine (low_any which (j : Int) _ k1 (by omega)).mono ?_; rw [HPP.out]; rintro e' wL ⟨rfl, rfl⟩)
        | (go_at_call 7; ((with_reducible refine (awake_any _).mono ?_); rintro e' wT ⟨rfl, hb⟩; replace R9 := own_below R9 hb; replace R10 := own_below R10 hb; replace hB := btr hB hB.size hb; (try clear G1); have G1 := G0.below hB hg0; (try clear y0 y1 y2 y3 y4); have y0 := G1.cell_ 0; have y1 := G1.cell_ 1; have y2 := G1.cell_ 2; have y3 := G1.cell_ 3; have y4 := G1.cell_ 4; simp at y0 y1 y2 y3 y4; clear hb)))
      go_ret
      exact ⟨by simp, HB0.trans (hB.mono (by omega))⟩
end Go.Proofs.Ytmhookkfhknljaa
