/- Draw of a sheet of one stroke. -/
import Derived.Test.YtnbiioighjdkjaaDoorRaF
namespace Go.Proofs.YtnbiioighjdkjaaDoor
open Go.ChangeShapes Go.WideShapes Go.ChangeAt Go.RowKit
set_option linter.unusedSimpArgs false
set_option linter.unusedVariables false

def picF (WW wid : Int) (ds : List (Int × Int)) : Nat → Nat := ds.foldl (stampF WW wid) (fun _ => 0)
theorem infoCS : (Tryd.prog.info? 32).map (fun i => (i.zero, i.size, i.bytes)) = some (some (.slice none 0 0), 1, 24) := by kernel_rfl
theorem infoU64 : (Tryd.prog.info? 29).map (fun i => (i.zero, i.size, i.bytes)) = some (some (.int .u64 0), 1, 8) := by kernel_rfl
theorem rowsV_zero (H : Nat) : rowsV (fun _ => 0) H = List.replicate H (Value.int .u64 0) := by
  unfold rowsV
  apply List.ext_getElem?
  intro i
  rw [List.getElem?_map, List.getElem?_replicate]
  by_cases h : i < H
  · rw [List.getElem?_range h, if_pos h]; rfl
  · rw [if_neg h, List.getElem?_eq_none (by simp; omega)]; rfl
theorem own_rowS {w : World} {base n size : Nat} {t : TypeId} {g : Nat} {xs : List Value} (h : w.ownsRow base t size (.slice (some ⟨g, 0, none⟩) n n) n xs) : RowT w g t xs := by
  obtain ⟨hl, h'⟩ := h
  rcases h' with ⟨h0, _⟩ | ⟨g', cap, cur, hv, hb, hh, hnc, _, hsz, ht⟩
  · cases h0
  · cases hv
    refine ⟨cur.toList.drop (n * size), ?_⟩
    unfold Blk
    rw [← ht, List.take_append_drop]
    exact hh
theorem toList_of_made (H : Nat) : (madeCells (Value.int .u64 0).cells (H * 1)).toList = rowsV (fun _ => 0) H := by
  rw [show (madeCells (Value.int .u64 0).cells (H * 1)).toList = List.replicate (H * 1) (Value.int .u64 0) from toList_madeCells_one _ _, Nat.mul_one, rowsV_zero]
set_option maxRecDepth 100000 in
set_option maxHeartbeats 4000000 in
theorem draw_1 (pen wid ax ay : Int) (A : Option Addr) (N c gs : Nat) (ps : List (Int × Int)) (WW : Int) (H : Nat) (w : World) (hG : Blk w gs 55 #[.int .i64 pen, .int .i64 wid, .slice A N c]) (hp : 0 ≤ pen ∧ pen ≤ 7) (hw : 1 ≤ wid ∧ wid ≤ 9) (hN : ps.length = N) (hN2 : 1 ≤ N ∧ N ≤ 10) (hs : Sl w w.heap.size A (ps.map cV)) (hok : PtsOk ps) (hax : mayZ ax = true) (hay : mayZ ay = true) (hok2 : PtsOk (ps.map (subP (ax, ay)))) (hW : 1 ≤ WW ∧ WW ≤ 64) (hH : 1 ≤ H ∧ H ≤ 64)
    (hfar : ∀ j, j + 1 < N → wayN ((ps.map (subP (ax, ay))).getD j (0, 0)) ((ps.map (subP (ax, ay))).getD (j + 1) (0, 0)) ≤ 1000) :
    Calls Tryd.prog 15 #[.slice (some ⟨gs, 0, none⟩) 1 1, .complex .f64 (F ax) (F ay), .int .i64 1, .int .i64 WW, .int .i64 (H : Int)] w fun e' w' => (∃ gr, e' = .returned (.tuple #[.slice (some ⟨gr, 0, none⟩) H H, .int .i64 0]) ∧ RowT w' gr 29 (rowsV (picF WW wid (lineD (ps.map (subP (ax, ay))) (N - 1))) H) ∧ w.heap.size ≤ gr) ∧ Below w.heap.size w w' := by
  obtain ⟨ti0, hi, hz0, hz1, hz2⟩ := info_parts infoCS
  obtain ⟨ti1, hi1, hy0, hy1, hy2⟩ := info_parts infoU64
  have HG := Lib.hid hG
  have HS := Lib.hid hs
  have HN := Lib.hid hN
  have HOK := Lib.hid hok
  have HOK2 := Lib.hid hok2
  have HFAR := Lib.hid hfar
  have HA := Lib.hid (And.intro hax hay)
  have HN2 : Hid ((ps.map (subP (ax, ay))).length = N) := Lib.hid (by simp [hN])
  have HM : Hid ((mayZ ax && mayZ ay) = true) := Lib.hid (by rw [hax, hay]; rfl)
  have HW1 : Hid ((decide (1 ≤ WW) && decide (WW ≤ 64)) = true) := Lib.hid (by rw [decide_eq_true hW.1, decide_eq_true hW.2]; rfl)
  have HH1 : Hid ((decide (1 ≤ (H : Int)) && decide ((H : Int) ≤ 64)) = true) := Lib.hid (by rw [decide_eq_true (by omega), decide_eq_true (by omega)]; rfl)
  have hgs0 := hG.lt
  have hB0 : Below w.heap.size w w := Below.refl _ _
  clear hG hs hN hok hok2 hfar hax hay
  go_enter Tryd.func15, Tryd.ntmps15
  go_wp2_with (first
    | (go_at_call 27; ((with_reducible refine (sheet_yes pen wid A N c gs ps _ (HG.out.below hB0 hgs0) hp hw HN.out hN2 ((HS.out.below hB0).mono hB0.size) HOK.out).mono ?_); rintro e' wN ⟨rfl, hb⟩; replace hB0 := btr hB0 hB0.size hb))
    | (go_at_call 24; ((with_reducible refine (may_b ax ay true _ (sm_of HA.out.1) (sm_of HA.out.2) HM).mono ?_); rintro e' wN ⟨rfl, rfl⟩; skip))
    | (go_at_call 18; ((with_reducible refine (within_b 1 64 true _ (Lib.hid rfl)).mono ?_); rintro e' wN ⟨rfl, rfl⟩; skip))
    | (go_at_call 18; ((with_reducible refine (within_b WW 64 true _ HW1).mono ?_); rintro e' wN ⟨rfl, rfl⟩; skip))
    | (go_at_call 18; ((with_reducible refine (within_b (H : Int) 64 true _ HH1).mono ?_); rintro e' wN ⟨rfl, rfl⟩; skip)))
  go_loopw [12, 45] (fun s12 s45 wr => ∃ i : Nat, i ≤ 1 ∧ s45 = .int .i64 (i : Int) ∧ Below w.heap.size w wr ∧ ((i = 0 ∧ s12 = .slice none 0 0) ∨ (i = 1 ∧ ∃ gl cl gq cq, s12 = .slice (some ⟨gl, 0, none⟩) 1 cl ∧ RowT wr gl 32 [.slice (some ⟨gq, 0, none⟩) N cq] ∧ RowT wr gq 35 ((ps.map (subP (ax, ay))).map cV)))) (fun _ s45 _ => 1 - (intOf s45).toNat)
  case atStart => exact ⟨0, by omega, rfl, hB0, Or.inl ⟨rfl, rfl⟩⟩
  case round =>
    clear hB0
    obtain ⟨i, hi1', rfl, hB, hc⟩ := hrel
    rcases hc with ⟨rfl, rfl⟩ | ⟨rfl, gl, cl, gq, cq, rfl, hL, hQ⟩
    · have G2 := HG.out.below hB hgs0
      have z0 := G2.cell_ 0; have z1 := G2.cell_ 1; have z2 := G2.cell_ 2; simp at z0 z1 z2
      have hsl := (((HS.out.below hB).mono hB.size).alloc_ (.cells #[.int .i64 pen, .int .i64 wid, .slice A N c] 55))
      have hBA : Below w.heap.size w (wr.alloc (.cells #[.int .i64 pen, .int .i64 wid, .slice A N c] 55)) := hB.alloc hB.size _
      go_wp2_with (first
        | (go_at_call 28; ((with_reducible refine (places_1 ax ay A N c ps _ HN.out hN2 hsl HOK.out HA.out.1 HA.out.2 HOK2.out).mono ?_); rintro e' wN ⟨⟨gq, cq, rfl, hQ, hgq⟩, hb⟩; have hBP := btr hBA hBA.size hb))
        | (at_builtin; refine wpList_app _ rfl (.tmp 59) (.tmp 61) _ rfl w.heap.size 32 ti0 _ 1 24 Tryd.underlying53 hi hz0 hz1 hz2 rfl (by decide) (.slice none 0 0) 0 [] rfl (World.ownsRow_nil _ _ _ _) _ 1 _ [.slice (some ⟨gq, 0, none⟩) N cq] rfl (Rd.one (by simp)) (by simp [Value.oneCell']) (by unfold maxLen; omega) (by omega) (by simp; have := hBP.size; omega) ?_; intro s2v w2 ho2 hg2 hv2))
      rw [Nat.zero_add, List.nil_append] at ho2
      have hQ2 : RowT w2 gq 35 ((ps.map (subP (ax, ay))).map cV) := (hQ.below ((Below.refl _ _).alloc (Nat.le_refl _) _)).keep (hg2.block gq (by have := hQ.lt; simp; omega) (by simp [Value.ownBlock]))
      have HF : Below w.heap.size w w2 := (hBP.alloc hBP.size _).trans (below_app (Nat.le_refl _) (by simp; have := hBP.size; omega) (World.ownsRow_nil _ w.heap.size 32 1) hg2)
      obtain ⟨gl, cl, rfl, hL, -⟩ := own_rowC ho2 (by omega)
      have HQ2 := Lib.hid hQ2
      clear hQ hQ2 ho2 hsl
      go_roundw
      case rel => exact ⟨0 + 1, by omega, by go_num, HF, Or.inr ⟨rfl, gl, cl, gq, cq, rfl, hL, HQ2.out⟩⟩
      case measure => simp [intOf]
    · go_wp2_with (at_make; refine wpList_make_full _ rfl _ _ 22 rfl wr.heap.size 29 ti1 (.int .u64 0) 1 Tryd.underlying22 hi1 hy0 hy1 _ _ _ _ H rfl rfl rfl rfl (by rw [hy2]; omega) (by unfold maxLen; omega) (Nat.le_refl _) ?_; intro w1 hown1 hgrow1)
      rw [toList_of_made] at hown1
      have hBm : Below wr.heap.size wr w1 := (Below.refl _ _).grown hgrow1 (Nat.le_refl _) (fun j hj => by cases hj)
      obtain ⟨gr, hgr⟩ : ∃ gr, wr.heap.size = gr := ⟨_, rfl⟩
      have hR1 : RowT w1 gr 29 (rowsV (fun _ => 0) H) := by rw [← hgr]; exact own_rowS hown1
      have hBw1 : Below w.heap.size w w1 := btr hB hB.size hBm
      have hgrw : w.heap.size ≤ gr := by rw [← hgr]; exact hB.size
      have hQ1 := hQ.below hBm
      have hL1 := hL.below hBm
      have hqr : gq ≠ gr := by have := hQ.lt; omega
      have hlr : gl ≠ gr := by have := hL.lt; omega
      have hgsr : gs ≠ gr := by omega
      have GK : Blk (w1.alloc (.cells #[.slice (some ⟨gr, 0, none⟩) H H, .int .i64 WW, .int .i64 (H : Int)] 58)) w1.heap.size 58 #[.slice (some ⟨gr, 0, none⟩) H H, .int .i64 WW, .int .i64 (H : Int)] := Blk.new_ _ _ _
      have hBk : Below w1.heap.size w1 (w1.alloc (.cells #[.slice (some ⟨gr, 0, none⟩) H H, .int .i64 WW, .int .i64 (H : Int)] 58)) := (Below.refl _ _).alloc (Nat.le_refl _) _
      replace hR1 := hR1.below hBk
      replace hQ1 := hQ1.below hBk
      replace hL1 := hL1.below hBk
      have hBw := btr hBw1 hBw1.size hBk
      have hGs := HG.out.below hBw hgs0
      obtain ⟨gk, hgk0⟩ : ∃ gk, w1.heap.size = gk := ⟨_, rfl⟩
      have hgkr : gk ≠ gr := by have := (own_rowS hown1).lt; omega
      have HGR := Lib.hid hgrw
      clear hown1 hgrow1 hBm hBk hBw1 hQ hL hB
      rw [hgr] at ⊢
      rw [hgk0] at GK ⊢
      obtain ⟨wk, hwk⟩ : ∃ V : World, V = w1.alloc (.cells #[.slice (some ⟨gr, 0, none⟩) H H, .int .i64 WW, .int .i64 (H : Int)] 58) := ⟨_, rfl⟩
      rw [← hwk] at GK hR1 hQ1 hL1 hBw hGs ⊢
      clear hwk
      have hgk : gk < wk.heap.size := GK.lt
      have hgs : gs < wk.heap.size := hGs.lt
      have hPk := RowT.of_blk (xs := [.slice (some ⟨gr, 0, none⟩) H H, .int .i64 WW, .int .i64 (H : Int)]) GK
      have hGs2 := RowT.of_blk (xs := [.int .i64 pen, .int .i64 wid, .slice A N c]) hGs
      replace hGs := hGs2
      clear hGs2 GK
      go_loopw [71] (fun s71 wq => ∃ i : Nat, i ≤ 1 ∧ s71 = .int .i64 (i : Int) ∧ Tch (fun k => k = gr) wk wq ∧ RowT wq gr 29 (rowsV (if i = 0 then (fun _ => 0) else picF WW wid (lineD (ps.map (subP (ax, ay))) (N - 1))) H)) (fun s71 _ => 1 - (intOf s71).toNat)
      case atStart => exact ⟨0, by omega, rfl, Tch.refl _, hR1⟩
      case round =>
        clear hR1
        obtain ⟨i, hi9, rfl, hT, hR⟩ := hrel
        have y0 := (hPk.keep (hT.far gk hgk hgkr)).cell_ (i := 0) rfl
        have y1 := (hPk.keep (hT.far gk hgk hgkr)).cell_ (i := 1) rfl
        have y2 := (hPk.keep (hT.far gk hgk hgkr)).cell_ (i := 2) rfl
        have y3 := (hGs.keep (hT.far gs hgs hgsr)).cell_ (i := 1) rfl
        have y4 := (hL1.keep (hT.far gl hL1.lt hlr)).cell_ (i := 0) rfl
        rcases (by omega : i = 0 ∨ i = 1) with rfl | rfl
        · rw [if_pos rfl] at hR
          have hQ := hQ1.keep (hT.far gq hQ1.lt hqr)
          have k0 : (0 : Int) < 1 := by omega
          go_upto_region 16 with fail
          refine wp_region_noPanic ?_
          refine wp_region_held_drew (S := (fun w' => w'.cell? ⟨gk, 0, none⟩ = some (.slice (some ⟨gr, 0, none⟩) H H) ∧ w'.cell? ⟨gk, 1, none⟩ = some (.int .i64 WW) ∧ w'.cell? ⟨gk, 2, none⟩ = some (.int .i64 (H : Int)) ∧ w'.cell? ⟨gs, 1, none⟩ = some (.int .i64 wid))) (by kernel_rfl) ?_ (fun hHeld => ?_)
          · (first | exact ⟨y0, y1, y2, y3⟩ | assumption)
          refine wpAnyH_take (i := 0) (oi := { dst := some 76, op := Op.load 58 (Operand.tmp 17), type := 58, pos := "raster.go:63", after := #[], guard := none }) (v := ?_) rfl (by kernel_rfl) (by kernel_rfl) (by kernel_rfl) (fun _ _ _ h => h) (Or.inl ⟨by rfl, ?_⟩) (by assumption) ?_
          rotate_left
          · (intro wS hSw; (try dsimp only at hSw); go_simp; (try with_reducible rfl))
          try simp only [Act.put, List.setIfInBounds_toArray, List.set_cons_zero, List.set_cons_succ]
          refine wpAnyH_take (i := 1) (oi := { dst := some 77, op := Op.move (Operand.tmp 19), type := 32, pos := "raster.go:63", after := #[], guard := none }) (v := ?_) rfl (by kernel_rfl) (by kernel_rfl) (by kernel_rfl) (fun _ _ _ h => h) (Or.inl ⟨by rfl, ?_⟩) (by assumption) ?_
          rotate_left
          · (intro wS hSw; (try dsimp only at hSw); go_simp; (try with_reducible rfl))
          try simp only [Act.put, List.setIfInBounds_toArray, List.set_cons_zero, List.set_cons_succ]
          refine wpAnyH_take (i := 2) (oi := { dst := some 78, op := Op.move (Operand.tmp 0), type := 40, pos := "raster.go:63", after := #[], guard := none }) (v := ?_) rfl (by kernel_rfl) (by kernel_rfl) (by kernel_rfl) (fun _ _ _ h => h) (Or.inl ⟨by rfl, ?_⟩) (by assumption) ?_
          rotate_left
          · (intro wS hSw; (try dsimp only at hSw); go_simp; (try with_reducible rfl))
          try simp only [Act.put, List.setIfInBounds_toArray, List.set_cons_zero, List.set_cons_succ]
          refine wpAnyH_take (i := 3) (oi := { dst := some 79, op := Op.move (Operand.tmp 18), type := 3, pos := "raster.go:63", after := #[], guard := none }) (v := ?_) rfl (by kernel_rfl) (by kernel_rfl) (by kernel_rfl) (fun _ _ _ h => h) (Or.inl ⟨by rfl, ?_⟩) (by assumption) ?_
          rotate_left
          · (intro wS hSw; (try dsimp only at hSw); go_simp; (try with_reducible rfl))
          try simp only [Act.put, List.setIfInBounds_toArray, List.set_cons_zero, List.set_cons_succ]
          refine wpAnyH_take (i := 4) (oi := { dst := some 80, op := Op.indexAddr 40 (Operand.tmp 78) (Operand.tmp 79), type := 0, pos := "raster.go:63", after := #[{ on := 2, ground := Ground.data }, { on := 3, ground := Ground.data }], guard := none }) (v := ?_) rfl (by kernel_rfl) (by kernel_rfl) (by kernel_rfl) (fun _ _ _ h => h) (Or.inl ⟨by rfl, ?_⟩) (by assumption) ?_
          rotate_left
          · (intro wS hSw; (try dsimp only at hSw); go_simp; (try with_reducible rfl))
          try simp only [Act.put, List.setIfInBounds_toArray, List.set_cons_zero, List.set_cons_succ]
          refine wpAnyH_take (i := 5) (oi := { dst := some 81, op := Op.fieldAddr 55 (Operand.tmp 80) 1, type := 0, pos := "raster.go:63", after := #[{ on := 4, ground := Ground.data }], guard := none }) (v := ?_) rfl (by kernel_rfl) (by kernel_rfl) (by kernel_rfl) (fun _ _ _ h => h) (Or.inl ⟨by rfl, ?_⟩) (by assumption) ?_
          rotate_left
          · (intro wS hSw; (try dsimp only at hSw); go_simp; (try with_reducible rfl))
          try simp only [Act.put, List.setIfInBounds_toArray, List.set_cons_zero, List.set_cons_succ]
          refine wpAnyH_take (i := 6) (oi := { dst := some 82, op := Op.load 3 (Operand.tmp 81), type := 3, pos := "raster.go:63", after := #[{ on := 5, ground := Ground.data }], guard := none }) (v := ?_) rfl (by kernel_rfl) (by kernel_rfl) (by kernel_rfl) (fun _ _ _ h => h) (Or.inl ⟨by rfl, ?_⟩) (by assumption) ?_
          rotate_left
          · (intro wS hSw; (try dsimp only at hSw); go_simp; (try with_reducible rfl))
          try simp only [Act.put, List.setIfInBounds_toArray, List.set_cons_zero, List.set_cons_succ]
          refine wpAnyH_ready (rs := [7]) (by kernel_rfl) (by simp) ?_
          refine AllReadyH.cons (o := { dst := some 83, op := Op.call { callee := Callee.value (Operand.func 29), args := #[Operand.tmp 76, Operand.tmp 77, Operand.tmp 82], argTypes := #[58, 32, 3] }, type := 4, pos := "raster.go:63", after := #[{ on := 0, ground := Ground.data }, { on := 1, ground := Ground.data }, { on := 6, ground := Ground.data }], guard := none }) rfl (fun K hK => ?_) AllReadyH.nil
          go_simp
          (go_at_call 29; ((with_reducible refine (line_any gr H H WW (fun _ => 0) gq N cq (ps.map (subP (ax, ay))) wid _ (by first | exact hR | exact RowT.like_ hR) (Nat.le_refl _) hW hH hw (fun _ => by decide) (by first | exact hQ | exact RowT.like_ hQ) hqr HN2.out hN2 HOK2.out HFAR.out).mono ?_); rintro e' wN ⟨rfl, hR2, hT2⟩; clear hR; have hR := hR2; clear hR2; replace hT := (by first | exact hT.trans hT2 | exact tchd hT hT2); clear hT2 y0 y1 y2 y3; have y0 := (hPk.keep (hT.far gk hgk hgkr)).cell_ (i := 0) rfl; have y1 := (hPk.keep (hT.far gk hgk hgkr)).cell_ (i := 1) rfl; have y2 := (hPk.keep (hT.far gk hgk hgkr)).cell_ (i := 2) rfl; have y3 := (hGs.keep (hT.far gs hgs hgsr)).cell_ (i := 1) rfl))
          go_wp2_with fail
          refine hK.out _ _ ?_ (fun hNew => ?_)
          · (first | exact ⟨y0, y1, y2, y3⟩ | assumption)
          clear hK K hHeld
          have hHeld := hNew
          clear hNew
          try simp only [Act.put, List.setIfInBounds_toArray, List.set_cons_zero, List.set_cons_succ]
          refine wpAnyH_take (i := 8) (oi := { dst := some 84, op := Op.unOp UnOp.not 4 (Operand.tmp 83), type := 4, pos := "raster.go:63", after := #[{ on := 7, ground := Ground.data }], guard := none }) (v := ?_) rfl (by kernel_rfl) (by kernel_rfl) (by kernel_rfl) (fun _ _ _ h => h) (Or.inl ⟨by rfl, ?_⟩) (by assumption) ?_
          rotate_left
          · (intro wS hSw; (try dsimp only at hSw); go_simp; (try with_reducible rfl))
          try simp only [Act.put, List.setIfInBounds_toArray, List.set_cons_zero, List.set_cons_succ]
          refine wpAnyH_done (by kernel_rfl) ?_ _
          refine NoPanic.normal ?_
          go_wp2_with fail
          have HRR := Lib.hid hR
          clear hR
          go_roundw
          case rel => exact ⟨0 + 1, by omega, by go_num, (by first | exact hT | exact hT.like), by rw [if_neg (by decide)]; exact HRR.out⟩
          case measure => simp [intOf]
        · rw [if_neg (by decide)] at hR
          have HRR := Lib.hid hR
          clear hR
          go_wp2_with fail
          go_ret2
          first
          | exact ⟨⟨gr, rfl, HRR.out, HGR.out⟩, (by first | exact hBw.trans (hT.below hBw.size (fun g hg => by rw [hg]; exact HGR.out)) | exact ((hBw.trans (hT.below hBw.size (fun g hg => by rw [hg]; exact HGR.out)))).drew)⟩
          | (show False)
end Go.Proofs.YtnbiioighjdkjaaDoor
