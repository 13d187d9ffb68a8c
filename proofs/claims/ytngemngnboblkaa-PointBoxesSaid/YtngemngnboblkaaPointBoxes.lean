/- PointBoxes: the walk. -/
import Derived.Test.YtngemngnboblkaaFlG
namespace Go.Proofs.Ytngemngnboblkaa
open Go.ChangeShapes Go.WideShapes Go.ChangeAt Go.RowKit
set_option linter.unusedSimpArgs false
set_option linter.unusedVariables false

theorem row_sl {w : World} {g : Nat} {t : TypeId} {vs : List Value} (h : RowT w g t vs) (k : Nat) : Sl w w.heap.size (some ⟨g, k, none⟩) (vs.drop k) := by
  refine Or.inr ⟨g, k, rfl, h.lt, fun i u hu => h.cell_ ?_⟩
  rw [List.getElem?_drop] at hu
  exact hu
theorem row_tk {w : World} {g : Nat} {t : TypeId} {vs : List Value} (h : RowT w g t vs) (k : Nat) : Sl w w.heap.size (some ⟨g, 0, none⟩) (vs.take k) := by
  refine Or.inr ⟨g, 0, rfl, h.lt, fun i u hu => h.cell_ ?_⟩
  rw [Nat.zero_add, ← hu]
  rw [List.getElem?_take] at hu ⊢
  split at hu
  · rename_i hlt
    rw [if_pos hlt]
  · cases hu
theorem box_b (ps : List (Int × Int)) (L : Nat) (A : Option Addr) (cap : Nat) (lo hi : Int × Int) (w : World) (hs : Sl w w.heap.size A (ps.map cV)) (hp : PtsOk ps) (hl : ps.length = L) (h0 : 0 < L) (hb : L ≤ 1000000) (hbx : Hid (IsBox ps lo hi)) :
    Calls Try.prog 14 #[.slice A L cap] w fun e' w' => e' = .returned (.tuple #[.complex .f64 (F lo.1) (F lo.2), .complex .f64 (F hi.1) (F hi.2), .bool true]) ∧ Below w.heap.size w w' := by
  subst hl
  obtain ⟨e1, e2⟩ := hbx.out.uniq (box_is ps h0)
  rw [e1, e2]
  exact box_any ps A cap w hs hp h0 hb
theorem ptsok_take {ps : List (Int × Int)} (h : PtsOk ps) (k : Nat) : PtsOk (ps.take k) := fun p hp => h p (List.mem_of_mem_take hp)
theorem ptsok_drop {ps : List (Int × Int)} (h : PtsOk ps) (k : Nat) : PtsOk (ps.drop k) := fun p hp => h p (List.mem_of_mem_drop hp)
theorem IsBox.ok {ps : List (Int × Int)} {lo hi : Int × Int} (h : IsBox ps lo hi) (hp : PtsOk ps) : (mayZ lo.1 = true ∧ mayZ lo.2 = true) ∧ mayZ hi.1 = true ∧ mayZ hi.2 = true := by
  obtain ⟨⟨-, p1, i1, e1⟩, ⟨-, p2, i2, e2⟩, ⟨-, p3, i3, e3⟩, ⟨-, p4, i4, e4⟩⟩ := h
  exact ⟨⟨by rw [← e1]; exact (hp p1 i1).1, by rw [← e2]; exact (hp p2 i2).2⟩, by rw [← e3]; exact (hp p3 i3).1, by rw [← e4]; exact (hp p4 i4).2⟩
/-- Does one of the first i points touch? -/
def hit (f : Int × Int → Int) (v : Int) (ps : List (Int × Int)) (i : Nat) : Bool := (ps.take i).any fun p => decide (f p = v)
theorem hit_step {f : Int × Int → Int} {v : Int} {ps : List (Int × Int)} {i : Nat} {p : Int × Int} (h : ps[i]? = some p) : hit f v ps (i + 1) = (hit f v ps i || decide (f p = v)) := by
  obtain ⟨hlt, rfl⟩ := List.getElem?_eq_some_iff.1 h
  unfold hit
  rw [List.take_succ_eq_append_getElem hlt, List.any_append]
  simp
theorem hit_all {f : Int × Int → Int} {v : Int} {ps : List (Int × Int)} (h : ∃ p ∈ ps, f p = v) : hit f v ps ps.length = true := by
  unfold hit
  rw [List.take_length, List.any_eq_true]
  obtain ⟨p, hp, e⟩ := h
  exact ⟨p, hp, decide_eq_true e⟩
set_option maxRecDepth 100000 in
set_option maxHeartbeats 8000000 in
theorem boxes_walk (A : Option Addr) (n cap : Nat) (zs : List Int) (k : Int) (w : World) (hns : n = zs.length ∧ Sl w w.heap.size A (zs.map (Value.int .i64))) (_ : i64in k) : Calls Try.prog 5 #[.slice A n cap, .int .i64 k] w fun e' w' => e' = .returned (.bool true) ∧ Below w.heap.size w w' := by
  obtain ⟨hn, hs⟩ := hns
  have HN := Lib.hid hn
  clear hn
  have HB0 : Below w.heap.size w w := Below.refl _ _
  by_cases h60 : 60 < n
  · have g1 : (60 : Int) < (n : Int) := by omega
    go_enter Try.func5, Try.ntmps5
    go_wp2_with (go_at_call 12; ((with_reducible refine (awake_any _).mono ?_); rintro e' wN ⟨rfl, hb⟩; skip))
    go_ret
    exact ⟨rfl, hb⟩
  have g1 : ¬ (60 : Int) < (n : Int) := by omega
  by_cases h4 : n < 4
  · have g2 : (n : Int) < 4 := by omega
    go_enter Try.func5, Try.ntmps5
    go_wp2_with (go_at_call 12; ((with_reducible refine (awake_any _).mono ?_); rintro e' wN ⟨rfl, hb⟩; skip))
    go_ret
    exact ⟨rfl, hb⟩
  have g2 : ¬ (n : Int) < 4 := by omega
  obtain ⟨g, off, rfl, hg, hc⟩ := hs.at_ (by have := HN.out; simp; omega)
  have HC := Lib.hid hc
  clear hs hc
  go_enter Try.func5, Try.ntmps5
  go_wp2_with fail
  go_loopw [5, 6] (fun s5 s6 wr => ∃ (i j : Nat) (v : Value), Hid (i = 2 * j) ∧ i ≤ n ∧ s5 = v ∧ s6 = .int .i64 (i : Int) ∧ wr.ownsRow w.heap.size 22 1 v j ((ptsOf zs j).map cV) ∧ Below w.heap.size w wr) (fun _ s6 _ => n - (intOf s6).toNat)
  case atStart => exact ⟨0, 0, .slice none 0 0, Lib.hid rfl, by omega, rfl, rfl, ⟨rfl, Or.inl ⟨rfl, rfl⟩⟩, (by first | exact HB0 | exact HB0.drew)⟩
  case round =>
    obtain ⟨i, j, v, HI, hj, rfl, rfl, hown, hB⟩ := hrel
    by_cases hlt : i + 1 < n
    · have i0 : (0 : Int) ≤ (i : Int) := by omega
      have i1 : (i : Int) + 1 < (n : Int) := by omega
      have i2 : (i : Int) < (n : Int) := by omega
      have i9 : (0 : Int) ≤ (i : Int) + 1 := by omega
      have hwi : IntKind.i64.wrap ((i : Int) + 1) = (i : Int) + 1 := by rw [IntKind.wrap_i64]; omega
      obtain ⟨z1, hz1⟩ : ∃ z, zs.getD i 0 = z := ⟨_, rfl⟩
      obtain ⟨z2, hz2⟩ : ∃ z, zs.getD (i + 1) 0 = z := ⟨_, rfl⟩
      have c1 : wr.cell? ⟨g, off + i, none⟩ = some (.int .i64 z1) := (hB.cell (p := ⟨g, off + i, none⟩) hg).trans (HC.out i _ (by rw [List.getElem?_map, List.getElem?_eq_getElem (by have := HN.out; omega), ← hz1, List.getD_eq_getElem?_getD, List.getElem?_eq_getElem (by have := HN.out; omega)]; rfl))
      have c2 : wr.cell? ⟨g, off + (i + 1), none⟩ = some (.int .i64 z2) := (hB.cell (p := ⟨g, off + (i + 1), none⟩) hg).trans (HC.out (i + 1) _ (by rw [List.getElem?_map, List.getElem?_eq_getElem (by have := HN.out; omega), ← hz2, List.getD_eq_getElem?_getD, List.getElem?_eq_getElem (by have := HN.out; omega)]; rfl))
      have HPT : Hid ((ptsOf zs j).map cV ++ [.complex .f64 (F (ofZ z1 1000)) (F (ofZ z2 1000))] = (ptsOf zs (j + 1)).map cV) := Lib.hid (by rw [ptsOf_step, List.map_append, ← HI.out, hz1, hz2]; rfl)
      clear hz1 hz2
      go_upto_region 7 with fail
      replace hown := own_below hown ((Below.refl wr.heap.size wr).drew)
      replace hB := hB.drew
      have HSZ := hB.size
      refine wp_region_noPanic ?_
      refine wp_region_held_drew (S := (fun w' => w'.cell? ⟨g, off + i, none⟩ = some (.int .i64 z1) ∧ w'.cell? ⟨g, off + (i + 1), none⟩ = some (.int .i64 z2))) (by kernel_rfl) ?_ (fun hHeld => ?_)
      · (first | exact ⟨c1, c2⟩ | assumption)
      refine wpAnyH_take (i := 0) (oi := { dst := some 42, op := Op.move (Operand.tmp 5), type := 33, pos := "law.go:92", after := #[], guard := none }) (v := ?_) rfl (by kernel_rfl) (by kernel_rfl) (by kernel_rfl) (fun _ _ _ h => h) (Or.inl ⟨by rfl, ?_⟩) (by assumption) ?_
      rotate_left
      · (intro wS hSw; (try dsimp only at hSw); go_simp; (try with_reducible rfl))
      try simp only [Act.put, List.setIfInBounds_toArray, List.set_cons_zero, List.set_cons_succ]
      refine wpAnyH_take (i := 1) (oi := { dst := some 43, op := Op.move (Operand.tmp 0), type := 32, pos := "law.go:92", after := #[], guard := none }) (v := ?_) rfl (by kernel_rfl) (by kernel_rfl) (by kernel_rfl) (fun _ _ _ h => h) (Or.inl ⟨by rfl, ?_⟩) (by assumption) ?_
      rotate_left
      · (intro wS hSw; (try dsimp only at hSw); go_simp; (try with_reducible rfl))
      try simp only [Act.put, List.setIfInBounds_toArray, List.set_cons_zero, List.set_cons_succ]
      refine wpAnyH_take (i := 2) (oi := { dst := some 44, op := Op.move (Operand.tmp 6), type := 3, pos := "law.go:92", after := #[], guard := none }) (v := ?_) rfl (by kernel_rfl) (by kernel_rfl) (by kernel_rfl) (fun _ _ _ h => h) (Or.inl ⟨by rfl, ?_⟩) (by assumption) ?_
      rotate_left
      · (intro wS hSw; (try dsimp only at hSw); go_simp; (try with_reducible rfl))
      try simp only [Act.put, List.setIfInBounds_toArray, List.set_cons_zero, List.set_cons_succ]
      refine wpAnyH_take (i := 3) (oi := { dst := some 45, op := Op.indexAddr 32 (Operand.tmp 43) (Operand.tmp 44), type := 0, pos := "law.go:92", after := #[{ on := 1, ground := Ground.data }, { on := 2, ground := Ground.data }], guard := none }) (v := ?_) rfl (by kernel_rfl) (by kernel_rfl) (by kernel_rfl) (fun _ _ _ h => h) (Or.inl ⟨by rfl, ?_⟩) (by assumption) ?_
      rotate_left
      · (intro wS hSw; (try dsimp only at hSw); go_simp; (try with_reducible rfl))
      try simp only [Act.put, List.setIfInBounds_toArray, List.set_cons_zero, List.set_cons_succ]
      refine wpAnyH_take (i := 4) (oi := { dst := some 46, op := Op.load 3 (Operand.tmp 45), type := 3, pos := "law.go:92", after := #[{ on := 3, ground := Ground.data }], guard := none }) (v := ?_) rfl (by kernel_rfl) (by kernel_rfl) (by kernel_rfl) (fun _ _ _ h => h) (Or.inl ⟨by rfl, ?_⟩) (by assumption) ?_
      rotate_left
      · (intro wS hSw; (try dsimp only at hSw); go_simp; (try with_reducible rfl))
      try simp only [Act.put, List.setIfInBounds_toArray, List.set_cons_zero, List.set_cons_succ]
      refine wpAnyH_take (i := 5) (oi := { dst := some 47, op := Op.move (Operand.tmp 0), type := 32, pos := "law.go:92", after := #[], guard := none }) (v := ?_) rfl (by kernel_rfl) (by kernel_rfl) (by kernel_rfl) (fun _ _ _ h => h) (Or.inl ⟨by rfl, ?_⟩) (by assumption) ?_
      rotate_left
      · (intro wS hSw; (try dsimp only at hSw); go_simp; (try with_reducible rfl))
      try simp only [Act.put, List.setIfInBounds_toArray, List.set_cons_zero, List.set_cons_succ]
      refine wpAnyH_take (i := 6) (oi := { dst := some 48, op := Op.move (Operand.tmp 6), type := 3, pos := "law.go:92", after := #[], guard := none }) (v := ?_) rfl (by kernel_rfl) (by kernel_rfl) (by kernel_rfl) (fun _ _ _ h => h) (Or.inl ⟨by rfl, ?_⟩) (by assumption) ?_
      rotate_left
      · (intro wS hSw; (try dsimp only at hSw); go_simp; (try with_reducible rfl))
      try simp only [Act.put, List.setIfInBounds_toArray, List.set_cons_zero, List.set_cons_succ]
      refine wpAnyH_take (i := 7) (oi := { dst := some 49, op := Op.binOp BinOp.add 3 (Operand.tmp 48) (Operand.const (Value.int IntKind.i64 1)) 3, type := 3, pos := "law.go:92", after := #[{ on := 6, ground := Ground.data }], guard := none }) (v := ?_) rfl (by kernel_rfl) (by kernel_rfl) (by kernel_rfl) (fun _ _ _ h => h) (Or.inl ⟨by rfl, ?_⟩) (by assumption) ?_
      rotate_left
      · (intro wS hSw; (try dsimp only at hSw); go_simp; (try with_reducible rfl))
      try simp only [Act.put, List.setIfInBounds_toArray, List.set_cons_zero, List.set_cons_succ]
      refine wpAnyH_take (i := 8) (oi := { dst := some 50, op := Op.indexAddr 32 (Operand.tmp 47) (Operand.tmp 49), type := 0, pos := "law.go:92", after := #[{ on := 5, ground := Ground.data }, { on := 7, ground := Ground.data }], guard := none }) (v := ?_) rfl (by kernel_rfl) (by kernel_rfl) (by kernel_rfl) (fun _ _ _ h => h) (Or.inl ⟨by rfl, ?_⟩) (by assumption) ?_
      rotate_left
      · (intro wS hSw; (try dsimp only at hSw); go_simp; (try with_reducible rfl))
      try simp only [Act.put, List.setIfInBounds_toArray, List.set_cons_zero, List.set_cons_succ]
      refine wpAnyH_take (i := 9) (oi := { dst := some 51, op := Op.load 3 (Operand.tmp 50), type := 3, pos := "law.go:92", after := #[{ on := 8, ground := Ground.data }], guard := none }) (v := ?_) rfl (by kernel_rfl) (by kernel_rfl) (by kernel_rfl) (fun _ _ _ h => h) (Or.inl ⟨by rfl, ?_⟩) (by assumption) ?_
      rotate_left
      · (intro wS hSw; (try dsimp only at hSw); go_simp; (try with_reducible rfl))
      try simp only [Act.put, List.setIfInBounds_toArray, List.set_cons_zero, List.set_cons_succ]
      refine wpAnyH_ready (rs := [10]) (by kernel_rfl) (by simp) ?_
      refine AllReadyH.cons (o := { dst := some 52, op := Op.call { callee := Callee.value (Operand.func 8), args := #[Operand.tmp 46, Operand.tmp 51, Operand.const (Value.int IntKind.i64 1000)], argTypes := #[3, 3, 3] }, type := 22, pos := "law.go:92", after := #[{ on := 4, ground := Ground.data }, { on := 9, ground := Ground.data }], guard := none }) rfl (fun K hK => ?_) AllReadyH.nil
      go_simp
      (go_at_call 8; ((with_reducible refine (of_any z1 z2 1000 _ (by omega) (by omega)).mono ?_); rintro e' wN ⟨rfl, rfl⟩; skip))
      go_wp2_with fail
      refine hK.out _ _ ?_ (fun hNew => ?_)
      · (first | exact ⟨c1, c2⟩ | assumption)
      clear hK K hHeld
      have hHeld := hNew
      clear hNew
      try simp only [Act.put, List.setIfInBounds_toArray, List.set_cons_zero, List.set_cons_succ]
      refine wpAnyH_ready (rs := [11]) (by kernel_rfl) (by simp) ?_
      refine AllReadyH.cons (o := { dst := some 53, op := Op.buildSlice 33 1 #[(0, Operand.tmp 52)], type := 33, pos := "law.go:92", after := #[{ on := 10, ground := Ground.data }], guard := none }) rfl (fun K hK => ?_) AllReadyH.nil
      refine wp_build1c _ rfl (F (ofZ z1 1000)) (F (ofZ z2 1000)) rfl ?_
      intro wN b3 B3 hqb hb
      replace hown := own_below hown hb
      have hsz9 := Nat.lt_of_lt_of_le hg hB.size
      replace hB := btr hB hB.size hb
      have c1 := (hb.cell (p := ⟨g, off + i, none⟩) hsz9).trans hHeld.1
      have c2 := (hb.cell (p := ⟨g, off + (i + 1), none⟩) hsz9).trans hHeld.2
      refine hK.out _ _ ?_ (fun hNew => ?_)
      · (first | exact ⟨c1, c2⟩ | assumption)
      clear hK K hHeld
      have hHeld := hNew
      clear hNew
      try simp only [Act.put, List.setIfInBounds_toArray, List.set_cons_zero, List.set_cons_succ]
      refine wpAnyH_ready (rs := [12]) (by kernel_rfl) (by simp) ?_
      refine AllReadyH.cons (o := { dst := some 54, op := Op.call { callee := Callee.builtin Builtin.append, args := #[Operand.tmp 42, Operand.tmp 53], argTypes := #[33, 33] }, type := 33, pos := "law.go:92", after := #[{ on := 0, ground := Ground.data }, { on := 11, ground := Ground.data }, { on := 10, ground := Ground.chain }], guard := none }) rfl (fun K hK => ?_) AllReadyH.nil
      obtain ⟨ti0, hi9, hz0, hz1, hz2⟩ := info_parts infoC
      refine wp_app _ (.tmp 42) (.tmp 53) 33 rfl w.heap.size 22 ti0 _ 1 16 Try.underlying33 hi9 hz0 hz1 hz2 rfl (by decide) _ j _ rfl hown _ 1 1 [.complex .f64 (F (ofZ z1 1000)) (F (ofZ z2 1000))] rfl (Rd.one (B3.cell_ 0)) (by intro u hu; simp at hu; subst hu; rfl) (by have := HI.out; unfold maxLen; omega) (by have := HI.out; omega) hB.size ?_
      intro v2 wX hoX hgX hvX
      clear hi9 hz0 hz1 hz2
      have hbX := below_app (Nat.le_refl _) hB.size hown hgX
      have c1 := (hbX.cell (p := ⟨g, off + i, none⟩) hg).trans c1
      have c2 := (hbX.cell (p := ⟨g, off + (i + 1), none⟩) hg).trans c2
      replace hB := hB.trans hbX
      rw [HPT.out] at hoX
      refine hK.out _ _ ?_ (fun hNew => ?_)
      · (first | exact ⟨c1, c2⟩ | assumption)
      clear hK K hHeld
      have hHeld := hNew
      clear hNew
      try simp only [Act.put, List.setIfInBounds_toArray, List.set_cons_zero, List.set_cons_succ]
      refine wpAnyH_take (i := 13) (oi := { dst := some 5, op := Op.assign (Operand.tmp 54), type := 33, pos := "law.go:92", after := #[{ on := 12, ground := Ground.data }, { on := 12, ground := Ground.chain }, { on := 0, ground := Ground.phase }, { on := 1, ground := Ground.phase }, { on := 2, ground := Ground.phase }, { on := 3, ground := Ground.phase }, { on := 4, ground := Ground.phase }, { on := 5, ground := Ground.phase }, { on := 6, ground := Ground.phase }, { on := 7, ground := Ground.phase }, { on := 8, ground := Ground.phase }, { on := 9, ground := Ground.phase }, { on := 10, ground := Ground.phase }, { on := 11, ground := Ground.phase }, { on := 12, ground := Ground.phase }], guard := none }) (v := ?_) rfl (by kernel_rfl) (by kernel_rfl) (by kernel_rfl) (fun _ _ _ h => h) (Or.inl ⟨by rfl, ?_⟩) (by assumption) ?_
      rotate_left
      · (intro wS hSw; (try dsimp only at hSw); go_simp; (try with_reducible rfl))
      try simp only [Act.put, List.setIfInBounds_toArray, List.set_cons_zero, List.set_cons_succ]
      refine wpAnyH_done (by kernel_rfl) ?_ _
      refine NoPanic.normal ?_
      clear hown
      go_wp2_with fail
      go_roundw
      case rel => exact ⟨i + 2, j + 1, v2, Lib.hid (by have := HI.out; omega), by omega, rfl, by go_num, (by first | exact hoX | exact own_below hoX ((Below.refl _ _).drew)), (by first | exact hB | exact hB.drew)⟩
      case measure => simp [intOf]; omega
    · have i1 : ¬ (i : Int) + 1 < (n : Int) := by omega
      have hj30 : 2 ≤ j ∧ j ≤ 30 := by have := HI.out; omega
      obtain ⟨gp, cp, rfl, hRW, hgp, hjc, hcm⟩ := own_rowC hown (by omega)
      have hok := ptsOf_ok zs j
      have hln := ptsOf_len zs j
      obtain ⟨ps, hps⟩ : ∃ ps, ptsOf zs j = ps := ⟨_, rfl⟩
      rw [hps] at hok hln hRW
      have hbx := box_is ps (by omega)
      obtain ⟨lo, hlo⟩ : ∃ q, loF ps ps.length = q := ⟨_, rfl⟩
      obtain ⟨hh, hhh⟩ : ∃ q, hiF ps ps.length = q := ⟨_, rfl⟩
      rw [hlo, hhh] at hbx
      obtain ⟨k1, hk1⟩ : ∃ k1 : Nat, 1 + lowI k ((j : Int) - 1) = (k1 : Int) := ⟨(1 + lowI k ((j : Int) - 1)).toNat, by have := lowI_bd k ((j : Int) - 1) (by omega); omega⟩
      have hk2 : 1 ≤ k1 ∧ k1 < j := by have := lowI_bd k ((j : Int) - 1) (by omega); omega
      have hba := box_is (ps.take k1) (by rw [List.length_take]; omega)
      have hbb := box_is (ps.drop k1) (by rw [List.length_drop]; omega)
      obtain ⟨a, ha⟩ : ∃ q, loF (ps.take k1) (ps.take k1).length = q := ⟨_, rfl⟩
      obtain ⟨b, hb9⟩ : ∃ q, hiF (ps.take k1) (ps.take k1).length = q := ⟨_, rfl⟩
      obtain ⟨c, hc9⟩ : ∃ q, loF (ps.drop k1) (ps.drop k1).length = q := ⟨_, rfl⟩
      obtain ⟨d, hd⟩ : ∃ q, hiF (ps.drop k1) (ps.drop k1).length = q := ⟨_, rfl⟩
      rw [ha, hb9] at hba
      rw [hc9, hd] at hbb
      have hb4 := box_two hba hbb (by rw [List.take_append_drop]; exact hbx)
      have HBX := Lib.hid hbx
      have HBA := Lib.hid hba
      have HBB := Lib.hid hbb
      have HB4 := Lib.hid hb4
      have HOK := Lib.hid hok
      have HLN := Lib.hid hln
      have HTL : Hid ((ps.take k1).length = k1) := Lib.hid (by rw [List.length_take]; omega)
      have HDL : Hid ((ps.drop k1).length = j - k1) := Lib.hid (by rw [List.length_drop]; omega)
      have j0 : (2 : Int) ≤ (j : Int) := by omega
      have k3 : (0 : Int) ≤ (k1 : Int) := by omega
      have k4 : (k1 : Int) ≤ (cp : Int) := by omega
      have k5 : (k1 : Int) ≤ (j : Int) := by omega
      have k6 : ¬ cp - k1 = 0 := by omega
      have k7 : ¬ cp = k1 := by omega
      have k8 : (j : Int) ≤ (cp : Int) := by omega
      clear hbx hba hbb hb4 hok hln hlo hhh ha hb9 hc9 hd hown hps
      go_upto_region 12 with (first
        | (go_at_call 14; ((with_reducible refine (box_b ps j _ _ lo hh _ (by have := row_tk hRW j; rwa [List.take_of_length_le (by rw [List.length_map, HLN.out]; omega)] at this) HOK.out HLN.out (by omega) (by omega) HBX).mono ?_); rintro e' wN ⟨rfl, hb⟩; replace hRW := hRW.below hb; replace hB := btr hB hB.size hb; clear hb))
        | (go_at_call 15; ((with_reducible refine (low_any _ _ _ (by omega) (by omega)).mono ?_); rintro e' wN ⟨rfl, rfl⟩; skip))
        | (go_at_call 14; ((with_reducible refine (box_b (ps.take k1) k1 _ _ a b _ (by rw [List.map_take]; exact row_tk hRW k1) (ptsok_take HOK.out k1) HTL.out (by omega) (by omega) HBA).mono ?_); rintro e' wN ⟨rfl, hb⟩; replace hRW := hRW.below hb; replace hB := btr hB hB.size hb; clear hb))
        | (go_at_call 14; ((with_reducible refine (box_b (ps.drop k1) (j - k1) _ _ c d _ (by rw [List.map_drop]; exact row_sl hRW k1) (ptsok_drop HOK.out k1) HDL.out (by omega) (by omega) HBB).mono ?_); rintro e' wN ⟨rfl, hb⟩; replace hRW := hRW.below hb; replace hB := btr hB hB.size hb; clear hb)))
      obtain ⟨w12, hw12⟩ : ∃ V : World, V = wN := ⟨_, rfl⟩
      rw [← hw12] at hRW hB ⊢
      clear hw12
      have HBB0 := hB
      go_wp2_with fail
      go_loopw [16, 17, 18, 19, 20] (fun s16 s17 s18 s19 s20 wr => ∃ i : Nat, i ≤ j ∧ s16 = .bool (hit Prod.fst lo.1 ps i) ∧ s17 = .bool (hit Prod.fst hh.1 ps i) ∧ s18 = .bool (hit Prod.snd lo.2 ps i) ∧ s19 = .bool (hit Prod.snd hh.2 ps i) ∧ s20 = .int .i64 (i : Int) ∧ Below w12.heap.size w12 wr) (fun _ _ _ _ s20 _ => j - (intOf s20).toNat)
      case atStart => exact ⟨0, Nat.zero_le _, rfl, rfl, rfl, rfl, rfl, (by first | exact Below.refl _ _ | exact (Below.refl _ _).drew)⟩
      case round =>
        clear hB
        obtain ⟨i, hi, rfl, rfl, rfl, rfl, rfl, hB⟩ := hrel
        have i0 : (0 : Int) ≤ (i : Int) := by omega
        obtain ⟨⟨ok1, ok2⟩, ok3, ok4⟩ := HBX.out.ok HOK.out
        by_cases hlt : i < j
        · have i1 : (i : Int) < (j : Int) := by omega
          obtain ⟨p, hpg⟩ : ∃ p, ps[i]? = some p := ⟨_, List.getElem?_eq_getElem (by have := HLN.out; omega)⟩
          have hpm : p ∈ ps := List.mem_of_getElem? hpg
          have ci : wr.cell? ⟨gp, i, none⟩ = some (.complex .f64 (F p.1) (F p.2)) := (hRW.below hB).cell_ (by rw [List.getElem?_map, hpg]; rfl)
          have op := HOK.out p hpm
          have HPG := Lib.hid hpg
          have f1 : (FloatKind.f64.format.order (F p.1) (F lo.1) == some .lt) = false := by rw [ord_lt (IsI.f _) (IsI.f _) (sm_of op.1) (sm_of ok1)]; exact decide_eq_false (by have := HBX.out.l1.1 p hpm; omega)
          have f2 : (FloatKind.f64.format.order (F p.1) (F hh.1) == some .gt) = false := by rw [ord_gt (IsI.f _) (IsI.f _) (sm_of op.1) (sm_of ok3)]; exact decide_eq_false (by have := HBX.out.h1.1 p hpm; omega)
          have f3 : (FloatKind.f64.format.order (F p.2) (F lo.2) == some .lt) = false := by rw [ord_lt (IsI.f _) (IsI.f _) (sm_of op.2) (sm_of ok2)]; exact decide_eq_false (by have := HBX.out.l2.1 p hpm; omega)
          have f4 : (FloatKind.f64.format.order (F p.2) (F hh.2) == some .gt) = false := by rw [ord_gt (IsI.f _) (IsI.f _) (sm_of op.2) (sm_of ok4)]; exact decide_eq_false (by have := HBX.out.h2.1 p hpm; omega)
          have e1 := ord_eq (IsI.f p.1) (IsI.f lo.1) (sm_of op.1) (sm_of ok1)
          have e2 := ord_eq (IsI.f p.1) (IsI.f hh.1) (sm_of op.1) (sm_of ok3)
          have e3 := ord_eq (IsI.f p.2) (IsI.f lo.2) (sm_of op.2) (sm_of ok2)
          have e4 := ord_eq (IsI.f p.2) (IsI.f hh.2) (sm_of op.2) (sm_of ok4)
          clear hpg hpm op ok1 ok2 ok3 ok4
          go_upto_region 16 with fail
          replace hB := hB.drew
          refine wp_region_noPanic ?_
          refine wp_region_held_drew (S := (fun w' => w'.cell? ⟨gp, i, none⟩ = some (.complex .f64 (F p.1) (F p.2)))) (by kernel_rfl) ?_ (fun hHeld => ?_)
          · (first | exact ci | assumption)
          refine wpAnyH_take (i := 0) (oi := { dst := some 89, op := Op.move (Operand.tmp 5), type := 33, pos := "law.go:100", after := #[], guard := none }) (v := ?_) rfl (by kernel_rfl) (by kernel_rfl) (by kernel_rfl) (fun _ _ _ h => h) (Or.inl ⟨by rfl, ?_⟩) (by assumption) ?_
          rotate_left
          · (intro wS hSw; (try dsimp only at hSw); go_simp; (try with_reducible rfl))
          try simp only [Act.put, List.setIfInBounds_toArray, List.set_cons_zero, List.set_cons_succ]
          refine wpAnyH_take (i := 1) (oi := { dst := some 90, op := Op.move (Operand.tmp 20), type := 3, pos := "law.go:100", after := #[], guard := none }) (v := ?_) rfl (by kernel_rfl) (by kernel_rfl) (by kernel_rfl) (fun _ _ _ h => h) (Or.inl ⟨by rfl, ?_⟩) (by assumption) ?_
          rotate_left
          · (intro wS hSw; (try dsimp only at hSw); go_simp; (try with_reducible rfl))
          try simp only [Act.put, List.setIfInBounds_toArray, List.set_cons_zero, List.set_cons_succ]
          refine wpAnyH_take (i := 2) (oi := { dst := some 91, op := Op.indexAddr 33 (Operand.tmp 89) (Operand.tmp 90), type := 0, pos := "law.go:100", after := #[{ on := 0, ground := Ground.data }, { on := 1, ground := Ground.data }], guard := none }) (v := ?_) rfl (by kernel_rfl) (by kernel_rfl) (by kernel_rfl) (fun _ _ _ h => h) (Or.inl ⟨by rfl, ?_⟩) (by assumption) ?_
          rotate_left
          · (intro wS hSw; (try dsimp only at hSw); go_simp; (try with_reducible rfl))
          try simp only [Act.put, List.setIfInBounds_toArray, List.set_cons_zero, List.set_cons_succ]
          refine wpAnyH_take (i := 3) (oi := { dst := some 92, op := Op.load 22 (Operand.tmp 91), type := 22, pos := "law.go:100", after := #[{ on := 2, ground := Ground.data }], guard := none }) (v := ?_) rfl (by kernel_rfl) (by kernel_rfl) (by kernel_rfl) (fun _ _ _ h => h) (Or.inl ⟨by rfl, ?_⟩) (by assumption) ?_
          rotate_left
          · (intro wS hSw; (try dsimp only at hSw); go_simp; (try with_reducible rfl))
          try simp only [Act.put, List.setIfInBounds_toArray, List.set_cons_zero, List.set_cons_succ]
          refine wpAnyH_take (i := 4) (oi := { dst := some 93, op := Op.call { callee := Callee.builtin Builtin.real, args := #[Operand.tmp 92], argTypes := #[22] }, type := 26, pos := "law.go:100", after := #[{ on := 3, ground := Ground.data }], guard := none }) (v := ?_) rfl (by kernel_rfl) (by kernel_rfl) (by kernel_rfl) (fun _ _ _ h => h) (Or.inl ⟨by rfl, ?_⟩) (by assumption) ?_
          rotate_left
          · (intro wS hSw; (try dsimp only at hSw); go_simp; (try with_reducible rfl))
          try simp only [Act.put, List.setIfInBounds_toArray, List.set_cons_zero, List.set_cons_succ]
          refine wpAnyH_take (i := 5) (oi := { dst := some 94, op := Op.move (Operand.tmp 5), type := 33, pos := "law.go:100", after := #[], guard := none }) (v := ?_) rfl (by kernel_rfl) (by kernel_rfl) (by kernel_rfl) (fun _ _ _ h => h) (Or.inl ⟨by rfl, ?_⟩) (by assumption) ?_
          rotate_left
          · (intro wS hSw; (try dsimp only at hSw); go_simp; (try with_reducible rfl))
          try simp only [Act.put, List.setIfInBounds_toArray, List.set_cons_zero, List.set_cons_succ]
          refine wpAnyH_take (i := 6) (oi := { dst := some 95, op := Op.move (Operand.tmp 20), type := 3, pos := "law.go:100", after := #[], guard := none }) (v := ?_) rfl (by kernel_rfl) (by kernel_rfl) (by kernel_rfl) (fun _ _ _ h => h) (Or.inl ⟨by rfl, ?_⟩) (by assumption) ?_
          rotate_left
          · (intro wS hSw; (try dsimp only at hSw); go_simp; (try with_reducible rfl))
          try simp only [Act.put, List.setIfInBounds_toArray, List.set_cons_zero, List.set_cons_succ]
          refine wpAnyH_take (i := 7) (oi := { dst := some 96, op := Op.indexAddr 33 (Operand.tmp 94) (Operand.tmp 95), type := 0, pos := "law.go:100", after := #[{ on := 5, ground := Ground.data }, { on := 6, ground := Ground.data }], guard := none }) (v := ?_) rfl (by kernel_rfl) (by kernel_rfl) (by kernel_rfl) (fun _ _ _ h => h) (Or.inl ⟨by rfl, ?_⟩) (by assumption) ?_
          rotate_left
          · (intro wS hSw; (try dsimp only at hSw); go_simp; (try with_reducible rfl))
          try simp only [Act.put, List.setIfInBounds_toArray, List.set_cons_zero, List.set_cons_succ]
          refine wpAnyH_take (i := 8) (oi := { dst := some 97, op := Op.load 22 (Operand.tmp 96), type := 22, pos := "law.go:100", after := #[{ on := 7, ground := Ground.data }], guard := none }) (v := ?_) rfl (by kernel_rfl) (by kernel_rfl) (by kernel_rfl) (fun _ _ _ h => h) (Or.inl ⟨by rfl, ?_⟩) (by assumption) ?_
          rotate_left
          · (intro wS hSw; (try dsimp only at hSw); go_simp; (try with_reducible rfl))
          try simp only [Act.put, List.setIfInBounds_toArray, List.set_cons_zero, List.set_cons_succ]
          refine wpAnyH_take (i := 9) (oi := { dst := some 98, op := Op.call { callee := Callee.builtin Builtin.imag, args := #[Operand.tmp 97], argTypes := #[22] }, type := 26, pos := "law.go:100", after := #[{ on := 8, ground := Ground.data }], guard := none }) (v := ?_) rfl (by kernel_rfl) (by kernel_rfl) (by kernel_rfl) (fun _ _ _ h => h) (Or.inl ⟨by rfl, ?_⟩) (by assumption) ?_
          rotate_left
          · (intro wS hSw; (try dsimp only at hSw); go_simp; (try with_reducible rfl))
          try simp only [Act.put, List.setIfInBounds_toArray, List.set_cons_zero, List.set_cons_succ]
          refine wpAnyH_take (i := 10) (oi := { dst := some 21, op := Op.assign (Operand.tmp 93), type := 26, pos := "law.go:100", after := #[{ on := 4, ground := Ground.data }, { on := 0, ground := Ground.phase }, { on := 1, ground := Ground.phase }, { on := 2, ground := Ground.phase }, { on := 3, ground := Ground.phase }, { on := 4, ground := Ground.phase }, { on := 5, ground := Ground.textOnly Departure.lateStores }, { on := 6, ground := Ground.textOnly Departure.lateStores }, { on := 7, ground := Ground.textOnly Departure.lateStores }, { on := 8, ground := Ground.textOnly Departure.lateStores }, { on := 9, ground := Ground.textOnly Departure.lateStoresUnsure }], guard := none }) (v := ?_) rfl (by kernel_rfl) (by kernel_rfl) (by kernel_rfl) (fun _ _ _ h => h) (Or.inl ⟨by rfl, ?_⟩) (by assumption) ?_
          rotate_left
          · (intro wS hSw; (try dsimp only at hSw); go_simp; (try with_reducible rfl))
          try simp only [Act.put, List.setIfInBounds_toArray, List.set_cons_zero, List.set_cons_succ]
          refine wpAnyH_take (i := 11) (oi := { dst := some 22, op := Op.assign (Operand.tmp 98), type := 26, pos := "law.go:100", after := #[{ on := 9, ground := Ground.data }, { on := 10, ground := Ground.chain }, { on := 0, ground := Ground.phase }, { on := 1, ground := Ground.phase }, { on := 2, ground := Ground.phase }, { on := 3, ground := Ground.phase }, { on := 4, ground := Ground.phase }, { on := 5, ground := Ground.phase }, { on := 6, ground := Ground.phase }, { on := 7, ground := Ground.phase }, { on := 8, ground := Ground.phase }, { on := 9, ground := Ground.phase }, { on := 10, ground := Ground.phase }], guard := none }) (v := ?_) rfl (by kernel_rfl) (by kernel_rfl) (by kernel_rfl) (fun _ _ _ h => h) (Or.inl ⟨by rfl, ?_⟩) (by assumption) ?_
          rotate_left
          · (intro wS hSw; (try dsimp only at hSw); go_simp; (try with_reducible rfl))
          try simp only [Act.put, List.setIfInBounds_toArray, List.set_cons_zero, List.set_cons_succ]
          refine wpAnyH_done (by kernel_rfl) ?_ _
          refine NoPanic.normal ?_
          go_upto_region 19 with fail
          obtain ⟨b1, hb1⟩ : ∃ q, hit Prod.fst lo.1 ps i = q := ⟨_, rfl⟩
          obtain ⟨b2, hb2⟩ : ∃ q, hit Prod.fst hh.1 ps i = q := ⟨_, rfl⟩
          obtain ⟨b3, hb3⟩ : ∃ q, hit Prod.snd lo.2 ps i = q := ⟨_, rfl⟩
          obtain ⟨b4, hb4⟩ : ∃ q, hit Prod.snd hh.2 ps i = q := ⟨_, rfl⟩
          obtain ⟨d1, hd1⟩ : ∃ q, decide (p.1 = lo.1) = q := ⟨_, rfl⟩
          obtain ⟨d2, hd2⟩ : ∃ q, decide (p.1 = hh.1) = q := ⟨_, rfl⟩
          obtain ⟨d3, hd3⟩ : ∃ q, decide (p.2 = lo.2) = q := ⟨_, rfl⟩
          obtain ⟨d4, hd4⟩ : ∃ q, decide (p.2 = hh.2) = q := ⟨_, rfl⟩
          rw [hd1] at e1
          rw [hd2] at e2
          rw [hd3] at e3
          rw [hd4] at e4
          have HT1 : Hid (hit Prod.fst lo.1 ps (i + 1) = (b1 || d1)) := Lib.hid (by rw [hit_step HPG.out, hb1, ← hd1])
          have HT2 : Hid (hit Prod.fst hh.1 ps (i + 1) = (b2 || d2)) := Lib.hid (by rw [hit_step HPG.out, hb2, ← hd2])
          have HT3 : Hid (hit Prod.snd lo.2 ps (i + 1) = (b3 || d3)) := Lib.hid (by rw [hit_step HPG.out, hb3, ← hd3])
          have HT4 : Hid (hit Prod.snd hh.2 ps (i + 1) = (b4 || d4)) := Lib.hid (by rw [hit_step HPG.out, hb4, ← hd4])
          rw [hb1, hb2, hb3, hb4]
          clear hb1 hb2 hb3 hb4 hd1 hd2 hd3 hd4 f1 f2 f3 f4
          cases b1 <;> cases b2 <;> cases b3 <;> cases b4
          all_goals (
            go_wp2_with fail
            go_roundw
            case rel => exact ⟨i + 1, by omega, by rw [HT1.out]; simp, by rw [HT2.out]; simp, by rw [HT3.out]; simp, by rw [HT4.out]; simp, by go_num, (by first | exact hB | exact hB.drew)⟩
            case measure => simp [intOf]; omega)
        · have i1 : ¬ (i : Int) < (j : Int) := by omega
          obtain rfl : i = j := by omega
          have hi1 : hit Prod.fst lo.1 ps i = true := by rw [← HLN.out]; exact hit_all HBX.out.l1.2
          have hi2 : hit Prod.fst hh.1 ps i = true := by rw [← HLN.out]; exact hit_all HBX.out.h1.2
          have hi3 : hit Prod.snd lo.2 ps i = true := by rw [← HLN.out]; exact hit_all HBX.out.l2.2
          have hi4 : hit Prod.snd hh.2 ps i = true := by rw [← HLN.out]; exact hit_all HBX.out.h2.2
          rw [hi1, hi2, hi3, hi4]
          have GA : Blk (wr.alloc (.cells #[.complex .f64 (F a.1) (F a.2), .complex .f64 (F b.1) (F b.2), .complex .f64 (F c.1) (F c.2), .complex .f64 (F d.1) (F d.2)] 22)) wr.heap.size 22 #[.complex .f64 (F a.1) (F a.2), .complex .f64 (F b.1) (F b.2), .complex .f64 (F c.1) (F c.2), .complex .f64 (F d.1) (F d.2)] := Blk.new_ _ _ _
          have HSL : Sl (wr.alloc (.cells #[.complex .f64 (F a.1) (F a.2), .complex .f64 (F b.1) (F b.2), .complex .f64 (F c.1) (F c.2), .complex .f64 (F d.1) (F d.2)] 22)) (wr.alloc (.cells #[.complex .f64 (F a.1) (F a.2), .complex .f64 (F b.1) (F b.2), .complex .f64 (F c.1) (F c.2), .complex .f64 (F d.1) (F d.2)] 22)).heap.size (some ⟨wr.heap.size, 0, none⟩) ([a, b, c, d].map cV) := by
            refine Or.inr ⟨wr.heap.size, 0, rfl, GA.lt, fun q u hu => ?_⟩
            rw [Nat.zero_add, GA.cell_ q]
            simpa [cV] using hu
          have HOK4 : Hid (PtsOk [a, b, c, d]) := Lib.hid (by
            have oa := HBA.out.ok (ptsok_take HOK.out k1)
            have ob := HBB.out.ok (ptsok_drop HOK.out k1)
            intro q hq
            simp only [List.mem_cons, List.not_mem_nil, or_false] at hq
            rcases hq with rfl | rfl | rfl | rfl
            · exact oa.1
            · exact oa.2
            · exact ob.1
            · exact ob.2)
          replace hB := hB.alloc hB.size (.cells #[.complex .f64 (F a.1) (F a.2), .complex .f64 (F b.1) (F b.2), .complex .f64 (F c.1) (F c.2), .complex .f64 (F d.1) (F d.2)] 22)
          have q1 : (FloatKind.f64.format.order (F lo.1) (F lo.1) == some .eq) = true := by rw [ord_eq (IsI.f _) (IsI.f _) (sm_of ok1) (sm_of ok1)]; exact decide_eq_true rfl
          have q2 : (FloatKind.f64.format.order (F lo.2) (F lo.2) == some .eq) = true := by rw [ord_eq (IsI.f _) (IsI.f _) (sm_of ok2) (sm_of ok2)]; exact decide_eq_true rfl
          have q3 : (FloatKind.f64.format.order (F hh.1) (F hh.1) == some .eq) = true := by rw [ord_eq (IsI.f _) (IsI.f _) (sm_of ok3) (sm_of ok3)]; exact decide_eq_true rfl
          have q4 : (FloatKind.f64.format.order (F hh.2) (F hh.2) == some .eq) = true := by rw [ord_eq (IsI.f _) (IsI.f _) (sm_of ok4) (sm_of ok4)]; exact decide_eq_true rfl
          clear hi1 hi2 hi3 hi4 ok1 ok2 ok3 ok4 GA
          go_wp2_with (first
            | (go_at_call 14; ((with_reducible refine (box_b [a, b, c, d] 4 _ _ lo hh _ HSL HOK4.out rfl (by omega) (by omega) HB4).mono ?_); rintro e' wN ⟨rfl, hb⟩; replace hB := btr hB hB.size hb; clear hb))
            | (go_at_call 12; ((with_reducible refine (awake_any _).mono ?_); rintro e' wN ⟨rfl, hb⟩; replace hB := btr hB hB.size hb)))
          go_ret
          exact ⟨rfl, btr HBB0 HBB0.size hB⟩
end Go.Proofs.Ytngemngnboblkaa
