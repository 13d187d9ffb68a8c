/- Pictures that are moved; sameRows. -/
import Derived.Test.YtnbiioighjdkjaaDoorRaI
namespace Go.Proofs.YtnbiioighjdkjaaDoor
open Go.ChangeShapes Go.WideShapes Go.ChangeAt Go.RowKit
set_option linter.unusedSimpArgs false
set_option linter.unusedVariables false

theorem mask_half {l r : Nat} (h : l ≤ r) (hr : 1 ≤ r) : maskN l r >>> 1 = maskN (l - 1) (r - 1) := by
  rw [Nat.shiftRight_eq_div_pow, Nat.pow_one]
  unfold maskN
  rcases Nat.eq_zero_or_pos l with rfl | hl
  · obtain ⟨k, rfl⟩ : ∃ k, r = k + 1 := ⟨r - 1, by omega⟩
    have e : 2 ^ (k + 1 + 1) = 2 * 2 ^ (k + 1) := by rw [Nat.pow_succ (n := 2) (m := k + 1)]; omega
    have : 0 < 2 ^ (k + 1) := Nat.pow_pos (by omega)
    simp only [Nat.sub_zero, Nat.pow_zero, Nat.mul_one, Nat.zero_sub, Nat.add_sub_cancel]
    omega
  · obtain ⟨k, rfl⟩ : ∃ k, l = k + 1 := ⟨l - 1, by omega⟩
    rw [show r + 1 - (k + 1) = r - 1 + 1 - (k + 1 - 1) by omega, Nat.add_sub_cancel, Nat.pow_succ, ← Nat.mul_assoc, Nat.mul_div_cancel _ (by omega)]
theorem stamp_half (wid : Int) (f g : Nat → Nat) (d : Int × Int) (h : ∀ y, g y = f y >>> 1) : ∀ y, stampF 63 wid g (subP (1, 0) d) y = stampF 64 wid f d y >>> 1 := by
  intro y
  unfold stampF subP loX hiX
  dsimp only
  rw [h y, Int.sub_zero]
  obtain ⟨B, hB⟩ : ∃ B, (wid - 1) / 2 = B := ⟨_, rfl⟩
  obtain ⟨E, hE⟩ : ∃ E, wid / 2 = E := ⟨_, rfl⟩
  rw [hB, hE]
  by_cases c1 : (max 0 (d.1 - B) ≤ min (64 - 1) (d.1 + E) ∧ d.2 - B ≤ (y : Int) ∧ (y : Int) ≤ d.2 + E)
  · rw [if_pos c1, Nat.shiftRight_or_distrib]
    by_cases c2 : (max 0 (d.1 - 1 - B) ≤ min (63 - 1) (d.1 - 1 + E) ∧ d.2 - B ≤ (y : Int) ∧ (y : Int) ≤ d.2 + E)
    · rw [if_pos c2, mask_half (by omega) (by omega), show (max 0 (d.1 - 1 - B)).toNat = (max 0 (d.1 - B)).toNat - 1 by omega, show (min (63 - 1) (d.1 - 1 + E)).toNat = (min (64 - 1) (d.1 + E)).toNat - 1 by omega]
    · rw [if_neg c2]
      have e1 : (max 0 (d.1 - B)).toNat = 0 := by omega
      have e2 : (min (64 - 1) (d.1 + E)).toNat = 0 := by omega
      rw [e1, e2, show maskN 0 0 >>> 1 = 0 by decide, Nat.or_zero]
  · have c2 : ¬ (max 0 (d.1 - 1 - B) ≤ min (63 - 1) (d.1 - 1 + E) ∧ d.2 - B ≤ (y : Int) ∧ (y : Int) ≤ d.2 + E) := fun q => c1 ⟨by have := q.1; omega, q.2⟩
    rw [if_neg c1, if_neg c2]
theorem stamps_half (wid : Int) : ∀ (ds : List (Int × Int)) (f g : Nat → Nat), (∀ y, g y = f y >>> 1) → ∀ y, (ds.map (subP (1, 0))).foldl (stampF 63 wid) g y = ds.foldl (stampF 64 wid) f y >>> 1
  | [], f, g, h, y => h y
  | d :: ds, f, g, h, y => stamps_half wid ds _ _ (stamp_half wid f g d h) y
theorem dots_sub (a p q : Int × Int) : dotsL (subP a p) (subP a q) = (dotsL p q).map (subP a) := by
  have e1 : (subP a q).1 - (subP a p).1 = q.1 - p.1 := by unfold subP; dsimp only; omega
  have e2 : (subP a q).2 - (subP a p).2 = q.2 - p.2 := by unfold subP; dsimp only; omega
  have ew : wayN (subP a p) (subP a q) = wayN p q := by unfold wayN; rw [e1, e2]
  unfold dotsL
  rw [ew]
  unfold dotsN
  rw [List.map_map]
  apply List.map_congr_left
  intro k _
  unfold dotK
  rw [e1, e2]
  dsimp only [Function.comp, subP]
  rw [show p.1 - a.1 + shareZ (q.1 - p.1) k (wayN p q) = p.1 + shareZ (q.1 - p.1) k (wayN p q) - a.1 by omega, show p.2 - a.2 + shareZ (q.2 - p.2) k (wayN p q) = p.2 + shareZ (q.2 - p.2) k (wayN p q) - a.2 by omega]
theorem getD_sub (a : Int × Int) (ps : List (Int × Int)) (j : Nat) (h : j < ps.length) : (ps.map (subP a)).getD j (0, 0) = subP a (ps.getD j (0, 0)) := by
  rw [List.getD_eq_getElem?_getD, List.getD_eq_getElem?_getD, List.getElem?_map, List.getElem?_eq_getElem h]
  rfl
theorem segs_sub (a : Int × Int) (ps : List (Int × Int)) : ∀ i, i < ps.length → segs (ps.map (subP a)) i = (segs ps i).map (subP a)
  | 0, _ => rfl
  | i + 1, h => by
    rw [segs_succ, segs_succ, segs_sub a ps i (by omega), List.map_append, getD_sub a ps i (by omega), getD_sub a ps (i + 1) h, dots_sub]
theorem line_sub (a : Int × Int) (ps : List (Int × Int)) (i : Nat) (h : i < ps.length) : lineD (ps.map (subP a)) i = (lineD ps i).map (subP a) := by
  unfold lineD
  rw [segs_sub a ps i h, getD_sub a ps 0 (by omega)]
  rfl
/-- What the picture from one dot further to the right shows. -/
theorem pic_half (wid : Int) (ps : List (Int × Int)) (i : Nat) (h : i < ps.length) (y : Nat) : picF 63 wid (lineD (ps.map (subP (1, 0))) i) y = picF 64 wid (lineD ps i) y >>> 1 := by
  rw [line_sub _ _ _ h]
  exact stamps_half wid _ (fun _ => 0) (fun _ => 0) (fun _ => by rfl) y
theorem pic_lt (wid WW : Int) (ds : List (Int × Int)) (hW : WW ≤ 64) (y : Nat) : picF WW wid ds y < 18446744073709551616 := stamps_lt' WW wid hW ds (fun _ => 0) (fun _ => by decide) y
theorem sub_0 (ps : List (Int × Int)) : ps.map (subP (0, 0)) = ps := by
  have : subP (0, 0) = id := by funext p; unfold subP; simp
  rw [this, List.map_id]
def addP (a p : Int × Int) : Int × Int := (p.1 + a.1, p.2 + a.2)
theorem sub_add (a : Int × Int) (ps : List (Int × Int)) : (ps.map (addP a)).map (subP a) = ps := by
  rw [List.map_map]
  have : subP a ∘ addP a = id := by funext p; unfold subP addP; dsimp only [Function.comp]; rw [Int.add_sub_cancel, Int.add_sub_cancel]; rfl
  rw [this, List.map_id]
/-- The points that the law makes. -/
def ptL (zs : List Int) (j : Nat) : List (Int × Int) := (List.range j).map fun k => (lowI (zs.getD (2 * k) 0) 60, lowI (zs.getD (2 * k + 1) 0) 60)
theorem ptL_len (zs : List Int) (j : Nat) : (ptL zs j).length = j := by simp [ptL]
theorem ptL_succ (zs : List Int) (j : Nat) : ptL zs (j + 1) = ptL zs j ++ [(lowI (zs.getD (2 * j) 0) 60, lowI (zs.getD (2 * j + 1) 0) 60)] := by
  unfold ptL
  rw [List.range_succ, List.map_append]
  rfl
theorem ptL_bd (zs : List Int) (j : Nat) : ∀ p ∈ ptL zs j, (0 ≤ p.1 ∧ p.1 < 60) ∧ 0 ≤ p.2 ∧ p.2 < 60 := by
  intro p hp
  obtain ⟨k, _, rfl⟩ := List.mem_map.1 hp
  exact ⟨lowI_bd _ 60 (by omega), lowI_bd _ 60 (by omega)⟩
theorem ptL_getD (zs : List Int) (j k : Nat) : (0 ≤ ((ptL zs j).getD k (0, 0)).1 ∧ ((ptL zs j).getD k (0, 0)).1 < 60) ∧ 0 ≤ ((ptL zs j).getD k (0, 0)).2 ∧ ((ptL zs j).getD k (0, 0)).2 < 60 := by
  by_cases h : k < (ptL zs j).length
  · have := ptL_bd zs j ((ptL zs j)[k]) (List.getElem_mem h)
    rwa [List.getD_eq_getElem?_getD, List.getElem?_eq_getElem h]
  · rw [List.getD_eq_getElem?_getD, List.getElem?_eq_none (by omega)]
    decide
theorem ptL_far (zs : List Int) (j k m : Nat) : wayN ((ptL zs j).getD k (0, 0)) ((ptL zs j).getD m (0, 0)) ≤ 1000 := by
  have a := ptL_getD zs j k
  have b := ptL_getD zs j m
  unfold wayN
  omega
theorem ptL_far1 (zs : List Int) (j k : Nat) (h : k + 1 < j) : wayN (((ptL zs j).map (subP (1, 0))).getD k (0, 0)) (((ptL zs j).map (subP (1, 0))).getD (k + 1) (0, 0)) ≤ 1000 := by
  have hl := ptL_len zs j
  rw [getD_sub _ _ _ (by omega), getD_sub _ _ _ (by omega)]
  have a := ptL_getD zs j k
  have b := ptL_getD zs j (k + 1)
  unfold wayN subP
  dsimp only
  omega
theorem ptL_ok (zs : List Int) (j : Nat) : PtsOk (ptL zs j) := fun p hp => ⟨mayZ_of (by have := ptL_bd zs j p hp; omega), mayZ_of (by have := ptL_bd zs j p hp; omega)⟩
theorem ptL_ok1 (zs : List Int) (j : Nat) : PtsOk ((ptL zs j).map (subP (1, 0))) := by
  intro p hp
  obtain ⟨q, hq, rfl⟩ := List.mem_map.1 hp
  have := ptL_bd zs j q hq
  unfold subP
  exact ⟨mayZ_of (by dsimp only; omega), mayZ_of (by dsimp only; omega)⟩
theorem ptL_okA (zs : List Int) (j : Nat) (m : Int) (hm : 0 ≤ m ∧ m < 100) : PtsOk ((ptL zs j).map (addP (m, 3))) := by
  intro p hp
  obtain ⟨q, hq, rfl⟩ := List.mem_map.1 hp
  have := ptL_bd zs j q hq
  unfold addP
  exact ⟨mayZ_of (by dsimp only; omega), mayZ_of (by dsimp only; omega)⟩
set_option maxRecDepth 100000 in
set_option maxHeartbeats 4000000 in
theorem samerows_b (f : Nat → Nat) (H g1 g2 : Nat) (w : World) (hH : H ≤ 64) (h1 : RowT w g1 29 (rowsV f H)) (h2 : RowT w g2 29 (rowsV f H)) : Calls Tryd.prog 9 #[.slice (some ⟨g1, 0, none⟩) H H, .slice (some ⟨g2, 0, none⟩) H H] w fun e' w' => e' = .returned (.bool true) ∧ Below w.heap.size w w' := by
  have H1 := Lib.hid h1
  have H2 := Lib.hid h2
  have l1 := h1.lt
  have l2 := h2.lt
  clear h1 h2
  go_enter Tryd.func9, Tryd.ntmps9
  go_wp2
  go_loopw [5] (fun s5 wr => ∃ k : Nat, k ≤ H ∧ s5 = .int .i64 (k : Int) ∧ Below w.heap.size w wr) (fun s5 _ => H - (intOf s5).toNat)
  case atStart => exact ⟨0, Nat.zero_le _, rfl, Below.refl _ _⟩
  case round =>
    obtain ⟨k, hk, rfl, hB⟩ := hrel
    by_cases hlt : k < H
    · have cx : wr.cell? ⟨g1, k, none⟩ = some (.int .u64 ((f k : Nat) : Int)) := (hB.cell (p := ⟨g1, k, none⟩) l1).trans (H1.out.cell_ (rowsV_at f H k hlt))
      have cy : wr.cell? ⟨g2, k, none⟩ = some (.int .u64 ((f k : Nat) : Int)) := (hB.cell (p := ⟨g2, k, none⟩) l2).trans (H2.out.cell_ (rowsV_at f H k hlt))
      have k0 : (0 : Int) ≤ (k : Int) := by omega
      have k1 : (k : Int) < (H : Int) := by omega
      go_upto_region 6 with fail
      refine wp_region_noPanic ?_
      refine wp_region_held_drew (S := (fun w' => w'.cell? ⟨g1, k, none⟩ = some (.int .u64 ((f k : Nat) : Int)) ∧ w'.cell? ⟨g2, k, none⟩ = some (.int .u64 ((f k : Nat) : Int)))) (by kernel_rfl) ?_ (fun hHeld => ?_)
      · (first | exact ⟨cx, cy⟩ | assumption)
      refine wpAnyH_take (i := 0) (oi := { dst := some 17, op := Op.move (Operand.tmp 0), type := 22, pos := "law.go:29", after := #[], guard := none }) (v := ?_) rfl (by kernel_rfl) (by kernel_rfl) (by kernel_rfl) (fun _ _ _ h => h) (Or.inl ⟨by rfl, ?_⟩) (by assumption) ?_
      rotate_left
      · (intro wS hSw; (try dsimp only at hSw); go_simp; (try with_reducible rfl))
      try simp only [Act.put, List.setIfInBounds_toArray, List.set_cons_zero, List.set_cons_succ]
      refine wpAnyH_take (i := 1) (oi := { dst := some 18, op := Op.move (Operand.tmp 5), type := 3, pos := "law.go:29", after := #[], guard := none }) (v := ?_) rfl (by kernel_rfl) (by kernel_rfl) (by kernel_rfl) (fun _ _ _ h => h) (Or.inl ⟨by rfl, ?_⟩) (by assumption) ?_
      rotate_left
      · (intro wS hSw; (try dsimp only at hSw); go_simp; (try with_reducible rfl))
      try simp only [Act.put, List.setIfInBounds_toArray, List.set_cons_zero, List.set_cons_succ]
      refine wpAnyH_take (i := 2) (oi := { dst := some 19, op := Op.indexAddr 22 (Operand.tmp 17) (Operand.tmp 18), type := 0, pos := "law.go:29", after := #[{ on := 0, ground := Ground.data }, { on := 1, ground := Ground.data }], guard := none }) (v := ?_) rfl (by kernel_rfl) (by kernel_rfl) (by kernel_rfl) (fun _ _ _ h => h) (Or.inl ⟨by rfl, ?_⟩) (by assumption) ?_
      rotate_left
      · (intro wS hSw; (try dsimp only at hSw); go_simp; (try with_reducible rfl))
      try simp only [Act.put, List.setIfInBounds_toArray, List.set_cons_zero, List.set_cons_succ]
      refine wpAnyH_take (i := 3) (oi := { dst := some 20, op := Op.load 29 (Operand.tmp 19), type := 29, pos := "law.go:29", after := #[{ on := 2, ground := Ground.data }], guard := none }) (v := ?_) rfl (by kernel_rfl) (by kernel_rfl) (by kernel_rfl) (fun _ _ _ h => h) (Or.inl ⟨by rfl, ?_⟩) (by assumption) ?_
      rotate_left
      · (intro wS hSw; (try dsimp only at hSw); go_simp; (try with_reducible rfl))
      try simp only [Act.put, List.setIfInBounds_toArray, List.set_cons_zero, List.set_cons_succ]
      refine wpAnyH_take (i := 4) (oi := { dst := some 21, op := Op.move (Operand.tmp 1), type := 22, pos := "law.go:29", after := #[], guard := none }) (v := ?_) rfl (by kernel_rfl) (by kernel_rfl) (by kernel_rfl) (fun _ _ _ h => h) (Or.inl ⟨by rfl, ?_⟩) (by assumption) ?_
      rotate_left
      · (intro wS hSw; (try dsimp only at hSw); go_simp; (try with_reducible rfl))
      try simp only [Act.put, List.setIfInBounds_toArray, List.set_cons_zero, List.set_cons_succ]
      refine wpAnyH_take (i := 5) (oi := { dst := some 22, op := Op.move (Operand.tmp 5), type := 3, pos := "law.go:29", after := #[], guard := none }) (v := ?_) rfl (by kernel_rfl) (by kernel_rfl) (by kernel_rfl) (fun _ _ _ h => h) (Or.inl ⟨by rfl, ?_⟩) (by assumption) ?_
      rotate_left
      · (intro wS hSw; (try dsimp only at hSw); go_simp; (try with_reducible rfl))
      try simp only [Act.put, List.setIfInBounds_toArray, List.set_cons_zero, List.set_cons_succ]
      refine wpAnyH_take (i := 6) (oi := { dst := some 23, op := Op.indexAddr 22 (Operand.tmp 21) (Operand.tmp 22), type := 0, pos := "law.go:29", after := #[{ on := 4, ground := Ground.data }, { on := 5, ground := Ground.data }], guard := none }) (v := ?_) rfl (by kernel_rfl) (by kernel_rfl) (by kernel_rfl) (fun _ _ _ h => h) (Or.inl ⟨by rfl, ?_⟩) (by assumption) ?_
      rotate_left
      · (intro wS hSw; (try dsimp only at hSw); go_simp; (try with_reducible rfl))
      try simp only [Act.put, List.setIfInBounds_toArray, List.set_cons_zero, List.set_cons_succ]
      refine wpAnyH_take (i := 7) (oi := { dst := some 24, op := Op.load 29 (Operand.tmp 23), type := 29, pos := "law.go:29", after := #[{ on := 6, ground := Ground.data }], guard := none }) (v := ?_) rfl (by kernel_rfl) (by kernel_rfl) (by kernel_rfl) (fun _ _ _ h => h) (Or.inl ⟨by rfl, ?_⟩) (by assumption) ?_
      rotate_left
      · (intro wS hSw; (try dsimp only at hSw); go_simp; (try with_reducible rfl))
      try simp only [Act.put, List.setIfInBounds_toArray, List.set_cons_zero, List.set_cons_succ]
      refine wpAnyH_take (i := 8) (oi := { dst := some 25, op := Op.binOp BinOp.neq 29 (Operand.tmp 20) (Operand.tmp 24) 29, type := 4, pos := "law.go:29", after := #[{ on := 3, ground := Ground.data }, { on := 7, ground := Ground.data }], guard := none }) (v := ?_) rfl (by kernel_rfl) (by kernel_rfl) (by kernel_rfl) (fun _ _ _ h => h) (Or.inl ⟨by rfl, ?_⟩) (by assumption) ?_
      rotate_left
      · (intro wS hSw; (try dsimp only at hSw); go_simp; (try with_reducible rfl))
      try simp only [Act.put, List.setIfInBounds_toArray, List.set_cons_zero, List.set_cons_succ]
      refine wpAnyH_done (by kernel_rfl) ?_ _
      refine NoPanic.normal ?_
      go_wp2_with fail
      go_roundw
      case rel => exact ⟨k + 1, by omega, by go_num, (by first | exact hB | exact hB.drew)⟩
      case measure => simp [intOf]; omega
    · obtain rfl : k = H := by omega
      go_wp2
      go_ret
      exact ⟨rfl, hB⟩
end Go.Proofs.YtnbiioighjdkjaaDoor
