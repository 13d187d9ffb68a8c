/- line. -/
import Derived.Test.YtnbiioighjdkjaaDoorRaE
namespace Go.Proofs.YtnbiioighjdkjaaDoor
open Go.ChangeShapes Go.WideShapes Go.ChangeAt Go.RowKit
set_option linter.unusedSimpArgs false
set_option linter.unusedVariables false

def segs (ps : List (Int × Int)) (i : Nat) : List (Int × Int) := (List.range i).flatMap fun j => dotsL (ps.getD j (0, 0)) (ps.getD (j + 1) (0, 0))
theorem segs_succ (ps : List (Int × Int)) (i : Nat) : segs ps (i + 1) = segs ps i ++ dotsL (ps.getD i (0, 0)) (ps.getD (i + 1) (0, 0)) := by
  unfold segs
  rw [List.range_succ, List.flatMap_append]
  simp
def lineD (ps : List (Int × Int)) (i : Nat) : List (Int × Int) := ps.getD 0 (0, 0) :: segs ps i
theorem tchd {S : Nat → Prop} {w w1 w2 : World} (h : Tch S w w1) (k : Tch S w1.drew w2) : Tch S w w2 := h.trans k.like0
theorem undrew {w w' : World} (h : Below w.drew.heap.size w.drew w') : Below w.heap.size w w' := ⟨h.os, h.tape, h.output, h.size, h.block⟩
theorem RowT.like_ {w : World} {g : Nat} {t : TypeId} {xs : List Value} (h : RowT w g t xs) : RowT w.drew g t xs := h
theorem stamp_lt (WW width : Int) (f : Nat → Nat) (d : Int × Int) (hf : ∀ y, f y < 18446744073709551616) (hW : WW ≤ 64) : ∀ y, stampF WW width f d y < 18446744073709551616 := by
  intro y
  unfold stampF
  split
  · next h =>
    have h1 : (0 : Int) ≤ loX d.1 width := by unfold loX; omega
    have h2 : hiX WW d.1 width ≤ 63 := by unfold hiX; omega
    exact Nat.or_lt_two_pow (n := 64) (hf y) (mask_lt (by omega) (by omega))
  · exact hf y
theorem stamps_lt' (WW width : Int) (hW : WW ≤ 64) : ∀ (ds : List (Int × Int)) (f : Nat → Nat), (∀ y, f y < 18446744073709551616) → ∀ y, ds.foldl (stampF WW width) f y < 18446744073709551616
  | [], f, hf, y => hf y
  | d :: ds, f, hf, y => stamps_lt' WW width hW ds _ (stamp_lt WW width f d hf hW) y
theorem dots_h (x y u v : Int) (n : Nat) (w : World) (hx : mayZ x = true) (hy : mayZ y = true) (hu : mayZ u = true) (hv : mayZ v = true) (hN : wayN (x, y) (u, v) = (n : Int)) (hn : n ≤ 1000) :
    Calls Tryd.prog 14 #[.complex .f64 (F x) (F y), .complex .f64 (F u) (F v)] w fun e' w' => (∃ g c, e' = .returned (.tuple #[.slice (some ⟨g, 0, none⟩) (n + 1) c, .bool true]) ∧ RowT w' g 35 ((dotsL (x, y) (u, v)).map cV) ∧ w.heap.size ≤ g) ∧ Below w.heap.size w w' := dots_yes x y u v n w hx hy hu hv hN hn
set_option maxRecDepth 100000 in
set_option maxHeartbeats 4000000 in
theorem line_any (g H cR : Nat) (WW : Int) (f : Nat → Nat) (gp N c : Nat) (ps : List (Int × Int)) (width : Int) (w : World) (hR : RowT w g 29 (rowsV f H)) (hcR : H ≤ cR) (hW : 1 ≤ WW ∧ WW ≤ 64) (hH : 1 ≤ H ∧ H ≤ 64) (hwd : 1 ≤ width ∧ width ≤ 9) (hf : ∀ y, f y < 18446744073709551616) (hP : RowT w gp 35 (ps.map cV)) (hpg : gp ≠ g) (hN : ps.length = N) (hN2 : 1 ≤ N ∧ N ≤ 10) (hok : PtsOk ps) (hfar : ∀ j, j + 1 < N → wayN (ps.getD j (0, 0)) (ps.getD (j + 1) (0, 0)) ≤ 1000) :
    Calls Tryd.prog 29 #[.agg #[.slice (some ⟨g, 0, none⟩) H cR, .int .i64 WW, .int .i64 (H : Int)], .slice (some ⟨gp, 0, none⟩) N c, .int .i64 width] w fun e' w' => e' = .returned (.bool true) ∧ RowT w' g 29 (rowsV ((lineD ps (N - 1)).foldl (stampF WW width) f) H) ∧ Tch (fun k => k = g) w w' := by
  have GB : Blk (w.alloc (.cells #[.slice (some ⟨g, 0, none⟩) H cR, .int .i64 WW, .int .i64 (H : Int)] 58)) w.heap.size 58 #[.slice (some ⟨g, 0, none⟩) H cR, .int .i64 WW, .int .i64 (H : Int)] := Blk.new_ _ _ _
  have G1 := GB
  have hgw := hR.lt
  have hB0 : Below w.heap.size w (w.alloc (.cells #[.slice (some ⟨g, 0, none⟩) H cR, .int .i64 WW, .int .i64 (H : Int)] 58)) := (Below.refl _ _).alloc (Nat.le_refl _) _
  have hpw0 := hP.lt
  have hpw : gp < (w.alloc (.cells #[.slice (some ⟨g, 0, none⟩) H cR, .int .i64 WW, .int .i64 (H : Int)] 58)).heap.size := Nat.lt_of_lt_of_le hpw0 hB0.size
  have hPb : RowT (w.alloc (.cells #[.slice (some ⟨g, 0, none⟩) H cR, .int .i64 WW, .int .i64 (H : Int)] 58)) gp 35 (ps.map cV) := hP.below hB0
  replace hR := hR.below hB0
  replace hP := hPb
  have HB0 := Lib.hid hB0
  have hTb : Tch (fun k => k = g) (w.alloc (.cells #[.slice (some ⟨g, 0, none⟩) H cR, .int .i64 WW, .int .i64 (H : Int)] 58)) (w.alloc (.cells #[.slice (some ⟨g, 0, none⟩) H cR, .int .i64 WW, .int .i64 (H : Int)] 58)) := Tch.refl _
  obtain ⟨p0, hp0⟩ : ∃ p, ps[0]? = some p := ⟨_, List.getElem?_eq_getElem (by omega)⟩
  have hm0 := hok p0 (List.mem_of_getElem? hp0)
  obtain ⟨x0, y0⟩ := p0
  have hx0 := mayZ_bd hm0.1
  have hy0 := mayZ_bd hm0.2
  dsimp only at hx0 hy0
  have hc0 : (ps.map cV)[0]? = some (.complex .f64 (F x0) (F y0)) := by rw [List.getElem?_map, hp0]; rfl
  have c0 : (w.alloc (.cells #[.slice (some ⟨g, 0, none⟩) H cR, .int .i64 WW, .int .i64 (H : Int)] 58)).cell? ⟨gp, 0, none⟩ = some (.complex .f64 (F x0) (F y0)) := hP.cell_ hc0
  have z0 : (w.alloc (.cells #[.slice (some ⟨g, 0, none⟩) H cR, .int .i64 WW, .int .i64 (H : Int)] 58)).cell? ⟨w.heap.size, 0, none⟩ = some (.slice (some ⟨g, 0, none⟩) H cR) := G1.cell_ 0
  have z1 : (w.alloc (.cells #[.slice (some ⟨g, 0, none⟩) H cR, .int .i64 WW, .int .i64 (H : Int)] 58)).cell? ⟨w.heap.size, 1, none⟩ = some (.int .i64 WW) := G1.cell_ 1
  have z2 : (w.alloc (.cells #[.slice (some ⟨g, 0, none⟩) H cR, .int .i64 WW, .int .i64 (H : Int)] 58)).cell? ⟨w.heap.size, 2, none⟩ = some (.int .i64 (H : Int)) := G1.cell_ 2
  have hfirst : ps.getD 0 (0, 0) = (x0, y0) := by rw [List.getD_eq_getElem?_getD, hp0]; rfl
  have HOK := Lib.hid hok
  have HFAR := Lib.hid hfar
  have HN := Lib.hid hN
  have HF := Lib.hid (And.intro hfirst (And.intro hp0 hm0))
  have HWW := Lib.hid (And.intro hcR (And.intro hW (And.intro hH hwd)))
  have hc0' := Lib.hid hc0
  clear hok hfar hN hfirst hp0 hm0 hB0
  have hc0 := hc0'.out
  clear hc0'
  have hWW := hW.2
  have hN0 : 0 < N := by omega
  have hg2 : g ≠ w.heap.size := by omega
  go_enter Tryd.func29, Tryd.ntmps29
  go_upto_region 1 with fail
  refine wp_region_noPanic ?_
  refine wp_region_held_drew (S := (fun w' => w'.cell? ⟨w.heap.size, 0, none⟩ = some (.slice (some ⟨g, 0, none⟩) H cR) ∧ w'.cell? ⟨w.heap.size, 1, none⟩ = some (.int .i64 WW) ∧ w'.cell? ⟨w.heap.size, 2, none⟩ = some (.int .i64 (H : Int)) ∧ w'.cell? ⟨gp, 0, none⟩ = some (.complex .f64 (F x0) (F y0)))) (by kernel_rfl) ?_ (fun hHeld => ?_)
  · (first | exact ⟨z0, z1, z2, c0⟩ | assumption)
  refine wpAnyH_take (i := 0) (oi := { dst := some 12, op := Op.load 58 (Operand.tmp 3), type := 58, pos := "raster.go:90", after := #[], guard := none }) (v := ?_) rfl (by kernel_rfl) (by kernel_rfl) (by kernel_rfl) (fun _ _ _ h => h) (Or.inl ⟨by rfl, ?_⟩) (by assumption) ?_
  rotate_left
  · (intro wS hSw; (try dsimp only at hSw); go_simp; (try with_reducible rfl))
  try simp only [Act.put, List.setIfInBounds_toArray, List.set_cons_zero, List.set_cons_succ]
  refine wpAnyH_take (i := 1) (oi := { dst := some 13, op := Op.move (Operand.tmp 1), type := 32, pos := "raster.go:90", after := #[], guard := none }) (v := ?_) rfl (by kernel_rfl) (by kernel_rfl) (by kernel_rfl) (fun _ _ _ h => h) (Or.inl ⟨by rfl, ?_⟩) (by assumption) ?_
  rotate_left
  · (intro wS hSw; (try dsimp only at hSw); go_simp; (try with_reducible rfl))
  try simp only [Act.put, List.setIfInBounds_toArray, List.set_cons_zero, List.set_cons_succ]
  refine wpAnyH_take (i := 2) (oi := { dst := some 14, op := Op.indexAddr 32 (Operand.tmp 13) (Operand.const (Value.int IntKind.i64 0)), type := 0, pos := "raster.go:90", after := #[{ on := 1, ground := Ground.data }], guard := none }) (v := ?_) rfl (by kernel_rfl) (by kernel_rfl) (by kernel_rfl) (fun _ _ _ h => h) (Or.inl ⟨by rfl, ?_⟩) (by assumption) ?_
  rotate_left
  · (intro wS hSw; (try dsimp only at hSw); go_simp; (try with_reducible rfl))
  try simp only [Act.put, List.setIfInBounds_toArray, List.set_cons_zero, List.set_cons_succ]
  refine wpAnyH_take (i := 3) (oi := { dst := some 15, op := Op.load 35 (Operand.tmp 14), type := 35, pos := "raster.go:90", after := #[{ on := 2, ground := Ground.data }], guard := none }) (v := ?_) rfl (by kernel_rfl) (by kernel_rfl) (by kernel_rfl) (fun _ _ _ h => h) (Or.inl ⟨by rfl, ?_⟩) (by assumption) ?_
  rotate_left
  · (intro wS hSw; (try dsimp only at hSw); go_simp; (try with_reducible rfl))
  try simp only [Act.put, List.setIfInBounds_toArray, List.set_cons_zero, List.set_cons_succ]
  refine wpAnyH_take (i := 4) (oi := { dst := some 16, op := Op.move (Operand.tmp 2), type := 3, pos := "raster.go:90", after := #[], guard := none }) (v := ?_) rfl (by kernel_rfl) (by kernel_rfl) (by kernel_rfl) (fun _ _ _ h => h) (Or.inl ⟨by rfl, ?_⟩) (by assumption) ?_
  rotate_left
  · (intro wS hSw; (try dsimp only at hSw); go_simp; (try with_reducible rfl))
  try simp only [Act.put, List.setIfInBounds_toArray, List.set_cons_zero, List.set_cons_succ]
  refine wpAnyH_ready (rs := [5]) (by kernel_rfl) (by simp) ?_
  refine AllReadyH.cons (o := { dst := some 17, op := Op.call { callee := Callee.value (Operand.func 36), args := #[Operand.tmp 12, Operand.tmp 15, Operand.tmp 16], argTypes := #[58, 35, 3] }, type := 0, pos := "raster.go:90", after := #[{ on := 0, ground := Ground.data }, { on := 3, ground := Ground.data }, { on := 4, ground := Ground.data }], guard := none }) rfl (fun K hK => ?_) AllReadyH.nil
  go_simp
  (go_at_call 36; ((with_reducible refine (stamp_any g H cR WW (f) x0 y0 width _ (by first | exact hR | exact RowT.like_ hR) hcR hW hH (by omega) (by omega) hwd hf).mono ?_); rintro e' wN ⟨⟨v, rfl⟩, hR2, hT⟩; clear hR; have hR := hR2; clear hR2; replace hTb := (by first | exact hTb.trans hT | exact tchd hTb hT); clear hT; replace G1 := hTb.blk GB (Nat.ne_of_gt hgw); replace hP := hPb.keep (hTb.far gp hpw hpg); clear z0 z1 z2 c0; have z0 := G1.cell_ 0; have z1 := G1.cell_ 1; have z2 := G1.cell_ 2; simp at z0 z1 z2; have c0 := hP.cell_ hc0))
  go_wp2_with fail
  refine hK.out _ _ ?_ (fun hNew => ?_)
  · (first | exact ⟨z0, z1, z2, c0⟩ | assumption)
  clear hK K hHeld
  have hHeld := hNew
  clear hNew
  try simp only [Act.put, List.setIfInBounds_toArray, List.set_cons_zero, List.set_cons_succ]
  refine wpAnyH_done (by kernel_rfl) ?_ _
  refine NoPanic.normal ?_
  go_wp2_with fail
  obtain ⟨wb, hwb⟩ : ∃ V : World, V = w.alloc (.cells #[.slice (some ⟨g, 0, none⟩) H cR, .int .i64 WW, .int .i64 (H : Int)] 58) := ⟨_, rfl⟩
  rw [← hwb] at hTb GB hPb hpw
  have HPB := Lib.hid hPb
  have HWB := Lib.hid hwb
  have hbs : w.heap.size < wb.heap.size := GB.lt
  clear hwb hP G1 z0 z1 z2 c0 hc0
  go_loopw [21] (fun s21 wr => ∃ i : Nat, i + 1 ≤ N ∧ s21 = .int .i64 (i : Int) ∧ RowT wr g 29 (rowsV ((lineD ps i).foldl (stampF WW width) f) H) ∧ Tch (fun k => k = g) wb wr) (fun s21 _ => N - (intOf s21).toNat)
  case atStart => exact ⟨0, by omega, rfl, by unfold lineD segs; rw [HF.out.1]; exact hR, hTb⟩
  case round =>
    clear hR hTb
    obtain ⟨i, hi, rfl, hR, hT⟩ := hrel
    by_cases hlt : i + 1 < N
    · obtain ⟨p, hp'⟩ : ∃ p, ps[i]? = some p := ⟨_, List.getElem?_eq_getElem (by have := HN.out; omega)⟩
      obtain ⟨q, hq'⟩ : ∃ q, ps[i + 1]? = some q := ⟨_, List.getElem?_eq_getElem (by have := HN.out; omega)⟩
      have hm1 := HOK.out p (List.mem_of_getElem? hp')
      have hm2 := HOK.out q (List.mem_of_getElem? hq')
      obtain ⟨x, y⟩ := p
      obtain ⟨u, v⟩ := q
      have hcx : Hid ((ps.map cV)[i]? = some (.complex .f64 (F x) (F y)) ∧ (ps.map cV)[i + 1]? = some (.complex .f64 (F u) (F v))) := Lib.hid ⟨by rw [List.getElem?_map, hp']; rfl, by rw [List.getElem?_map, hq']; rfl⟩
      have hcx2 : Hid (ps.getD i (0, 0) = (x, y) ∧ ps.getD (i + 1) (0, 0) = (u, v)) := Lib.hid ⟨by rw [List.getD_eq_getElem?_getD, hp']; rfl, by rw [List.getD_eq_getElem?_getD, hq']; rfl⟩
      have hfr := HFAR.out i hlt
      rw [hcx2.out.1, hcx2.out.2] at hfr
      obtain ⟨n, hn⟩ : ∃ n : Nat, wayN (x, y) (u, v) = (n : Int) := ⟨(wayN (x, y) (u, v)).toNat, by have := (way_bd (x, y) (u, v)).1; omega⟩
      have HWN : Hid (wayN (x, y) (u, v) = (n : Int) ∧ n ≤ 1000) := Lib.hid ⟨hn, by omega⟩
      have HXY := Lib.hid hm1
      have HUV := Lib.hid hm2
      have d0 := (HPB.out.keep (hT.far gp hpw hpg)).cell_ hcx.out.1
      have d1 := (HPB.out.keep (hT.far gp hpw hpg)).cell_ hcx.out.2
      have i0 : (0 : Int) ≤ (i : Int) := by omega
      have i1 : (i : Int) + 1 < (N : Int) := by omega
      have i2 : (i : Int) < (N : Int) := by omega
      have i3 : (i : Int) < (N : Int) - 1 := by omega
      have i4 : (0 : Int) ≤ (i : Int) + 1 := by omega
      have ew : IntKind.i64.wrap ((i : Int) + 1) = (i : Int) + 1 := wrapS _ (by omega) (by omega)
      clear hp' hq' hm1 hm2 hfr hn
      go_upto_region 5 with fail
      refine wp_region_noPanic ?_
      refine wp_region_held_drew (S := (fun w' => w'.cell? ⟨gp, i, none⟩ = some (.complex .f64 (F x) (F y)) ∧ w'.cell? ⟨gp, i + 1, none⟩ = some (.complex .f64 (F u) (F v)))) (by kernel_rfl) ?_ (fun hHeld => ?_)
      · (first | exact ⟨d0, d1⟩ | assumption)
      refine wpAnyH_take (i := 0) (oi := { dst := some 25, op := Op.move (Operand.tmp 1), type := 32, pos := "raster.go:92", after := #[], guard := none }) (v := ?_) rfl (by kernel_rfl) (by kernel_rfl) (by kernel_rfl) (fun _ _ _ h => h) (Or.inl ⟨by rfl, ?_⟩) (by assumption) ?_
      rotate_left
      · (intro wS hSw; (try dsimp only at hSw); go_simp; (try with_reducible rfl))
      try simp only [Act.put, List.setIfInBounds_toArray, List.set_cons_zero, List.set_cons_succ]
      refine wpAnyH_take (i := 1) (oi := { dst := some 26, op := Op.move (Operand.tmp 7), type := 3, pos := "raster.go:92", after := #[], guard := none }) (v := ?_) rfl (by kernel_rfl) (by kernel_rfl) (by kernel_rfl) (fun _ _ _ h => h) (Or.inl ⟨by rfl, ?_⟩) (by assumption) ?_
      rotate_left
      · (intro wS hSw; (try dsimp only at hSw); go_simp; (try with_reducible rfl))
      try simp only [Act.put, List.setIfInBounds_toArray, List.set_cons_zero, List.set_cons_succ]
      refine wpAnyH_take (i := 2) (oi := { dst := some 27, op := Op.indexAddr 32 (Operand.tmp 25) (Operand.tmp 26), type := 0, pos := "raster.go:92", after := #[{ on := 0, ground := Ground.data }, { on := 1, ground := Ground.data }], guard := none }) (v := ?_) rfl (by kernel_rfl) (by kernel_rfl) (by kernel_rfl) (fun _ _ _ h => h) (Or.inl ⟨by rfl, ?_⟩) (by assumption) ?_
      rotate_left
      · (intro wS hSw; (try dsimp only at hSw); go_simp; (try with_reducible rfl))
      try simp only [Act.put, List.setIfInBounds_toArray, List.set_cons_zero, List.set_cons_succ]
      refine wpAnyH_take (i := 3) (oi := { dst := some 28, op := Op.load 35 (Operand.tmp 27), type := 35, pos := "raster.go:92", after := #[{ on := 2, ground := Ground.data }], guard := none }) (v := ?_) rfl (by kernel_rfl) (by kernel_rfl) (by kernel_rfl) (fun _ _ _ h => h) (Or.inl ⟨by rfl, ?_⟩) (by assumption) ?_
      rotate_left
      · (intro wS hSw; (try dsimp only at hSw); go_simp; (try with_reducible rfl))
      try simp only [Act.put, List.setIfInBounds_toArray, List.set_cons_zero, List.set_cons_succ]
      refine wpAnyH_take (i := 4) (oi := { dst := some 29, op := Op.move (Operand.tmp 1), type := 32, pos := "raster.go:92", after := #[], guard := none }) (v := ?_) rfl (by kernel_rfl) (by kernel_rfl) (by kernel_rfl) (fun _ _ _ h => h) (Or.inl ⟨by rfl, ?_⟩) (by assumption) ?_
      rotate_left
      · (intro wS hSw; (try dsimp only at hSw); go_simp; (try with_reducible rfl))
      try simp only [Act.put, List.setIfInBounds_toArray, List.set_cons_zero, List.set_cons_succ]
      refine wpAnyH_take (i := 5) (oi := { dst := some 30, op := Op.move (Operand.tmp 7), type := 3, pos := "raster.go:92", after := #[], guard := none }) (v := ?_) rfl (by kernel_rfl) (by kernel_rfl) (by kernel_rfl) (fun _ _ _ h => h) (Or.inl ⟨by rfl, ?_⟩) (by assumption) ?_
      rotate_left
      · (intro wS hSw; (try dsimp only at hSw); go_simp; (try with_reducible rfl))
      try simp only [Act.put, List.setIfInBounds_toArray, List.set_cons_zero, List.set_cons_succ]
      refine wpAnyH_take (i := 6) (oi := { dst := some 31, op := Op.binOp BinOp.add 3 (Operand.tmp 30) (Operand.const (Value.int IntKind.i64 1)) 3, type := 3, pos := "raster.go:92", after := #[{ on := 5, ground := Ground.data }], guard := none }) (v := ?_) rfl (by kernel_rfl) (by kernel_rfl) (by kernel_rfl) (fun _ _ _ h => h) (Or.inl ⟨by rfl, ?_⟩) (by assumption) ?_
      rotate_left
      · (intro wS hSw; (try dsimp only at hSw); go_simp; (try with_reducible rfl))
      try simp only [Act.put, List.setIfInBounds_toArray, List.set_cons_zero, List.set_cons_succ]
      refine wpAnyH_take (i := 7) (oi := { dst := some 32, op := Op.indexAddr 32 (Operand.tmp 29) (Operand.tmp 31), type := 0, pos := "raster.go:92", after := #[{ on := 4, ground := Ground.data }, { on := 6, ground := Ground.data }], guard := none }) (v := ?_) rfl (by kernel_rfl) (by kernel_rfl) (by kernel_rfl) (fun _ _ _ h => h) (Or.inl ⟨by rfl, ?_⟩) (by assumption) ?_
      rotate_left
      · (intro wS hSw; (try dsimp only at hSw); go_simp; (try with_reducible rfl))
      try simp only [Act.put, List.setIfInBounds_toArray, List.set_cons_zero, List.set_cons_succ]
      refine wpAnyH_take (i := 8) (oi := { dst := some 33, op := Op.load 35 (Operand.tmp 32), type := 35, pos := "raster.go:92", after := #[{ on := 7, ground := Ground.data }], guard := none }) (v := ?_) rfl (by kernel_rfl) (by kernel_rfl) (by kernel_rfl) (fun _ _ _ h => h) (Or.inl ⟨by rfl, ?_⟩) (by assumption) ?_
      rotate_left
      · (intro wS hSw; (try dsimp only at hSw); go_simp; (try with_reducible rfl))
      try simp only [Act.put, List.setIfInBounds_toArray, List.set_cons_zero, List.set_cons_succ]
      refine wpAnyH_ready (rs := [9]) (by kernel_rfl) (by simp) ?_
      refine AllReadyH.cons (o := { dst := some 34, op := Op.call { callee := Callee.value (Operand.func 14), args := #[Operand.tmp 28, Operand.tmp 33], argTypes := #[35, 35] }, type := 33, pos := "raster.go:92", after := #[{ on := 3, ground := Ground.data }, { on := 8, ground := Ground.data }], guard := none }) rfl (fun K hK => ?_) AllReadyH.nil
      go_simp
      (go_at_call 14; ((with_reducible refine (dots_h x y u v n _ HXY.out.1 HXY.out.2 HUV.out.1 HUV.out.2 HWN.out.1 HWN.out.2).mono ?_); rintro e' wN ⟨⟨g9, c9, rfl, hD, hg9⟩, hb⟩; (try have hb := undrew hb); have hq9 := Nat.le_trans hT.size hg9; replace hR := hR.below hb; replace hT := hT.then hb; clear d0 d1; have d0 := (HPB.out.keep (hT.far gp hpw hpg)).cell_ hcx.out.1; have d1 := (HPB.out.keep (hT.far gp hpw hpg)).cell_ hcx.out.2))
      go_wp2_with fail
      refine hK.out _ _ ?_ (fun hNew => ?_)
      · (first | exact ⟨d0, d1⟩ | assumption)
      clear hK K hHeld
      have hHeld := hNew
      clear hNew
      try simp only [Act.put, List.setIfInBounds_toArray, List.set_cons_zero, List.set_cons_succ]
      refine wpAnyH_take (i := 10) (oi := { dst := some 24, op := Op.move (Operand.tmp 34), type := 33, pos := "raster.go:92", after := #[{ on := 9, ground := Ground.data }], guard := none }) (v := ?_) rfl (by kernel_rfl) (by kernel_rfl) (by kernel_rfl) (fun _ _ _ h => h) (Or.inl ⟨by rfl, ?_⟩) (by assumption) ?_
      rotate_left
      · (intro wS hSw; (try dsimp only at hSw); go_simp; (try with_reducible rfl))
      try simp only [Act.put, List.setIfInBounds_toArray, List.set_cons_zero, List.set_cons_succ]
      refine wpAnyH_take (i := 11) (oi := { dst := some 35, op := Op.extract (Operand.tmp 24) 0, type := 32, pos := "raster.go:92", after := #[{ on := 10, ground := Ground.data }], guard := none }) (v := ?_) rfl (by kernel_rfl) (by kernel_rfl) (by kernel_rfl) (fun _ _ _ h => h) (Or.inl ⟨by rfl, ?_⟩) (by assumption) ?_
      rotate_left
      · (intro wS hSw; (try dsimp only at hSw); go_simp; (try with_reducible rfl))
      try simp only [Act.put, List.setIfInBounds_toArray, List.set_cons_zero, List.set_cons_succ]
      refine wpAnyH_take (i := 12) (oi := { dst := some 36, op := Op.extract (Operand.tmp 24) 1, type := 4, pos := "raster.go:92", after := #[{ on := 10, ground := Ground.data }, { on := 13, ground := Ground.gcOnly Departure.lateStores }], guard := none }) (v := ?_) rfl (by kernel_rfl) (by kernel_rfl) (by kernel_rfl) (fun _ _ _ h => h) (Or.inl ⟨by rfl, ?_⟩) (by assumption) ?_
      rotate_left
      · (intro wS hSw; (try dsimp only at hSw); go_simp; (try with_reducible rfl))
      try simp only [Act.put, List.setIfInBounds_toArray, List.set_cons_zero, List.set_cons_succ]
      refine wpAnyH_take (i := 13) (oi := { dst := some 8, op := Op.assign (Operand.tmp 35), type := 32, pos := "raster.go:92", after := #[{ on := 11, ground := Ground.data }, { on := 9, ground := Ground.chain }, { on := 0, ground := Ground.phase }, { on := 1, ground := Ground.phase }, { on := 2, ground := Ground.phase }, { on := 3, ground := Ground.phase }, { on := 4, ground := Ground.phase }, { on := 5, ground := Ground.phase }, { on := 6, ground := Ground.phase }, { on := 7, ground := Ground.phase }, { on := 8, ground := Ground.phase }, { on := 9, ground := Ground.phase }, { on := 10, ground := Ground.phase }, { on := 11, ground := Ground.phase }, { on := 12, ground := Ground.textOnly Departure.lateStores }], guard := none }) (v := ?_) rfl (by kernel_rfl) (by kernel_rfl) (by kernel_rfl) (fun _ _ _ h => h) (Or.inl ⟨by rfl, ?_⟩) (by assumption) ?_
      rotate_left
      · (intro wS hSw; (try dsimp only at hSw); go_simp; (try with_reducible rfl))
      try simp only [Act.put, List.setIfInBounds_toArray, List.set_cons_zero, List.set_cons_succ]
      refine wpAnyH_take (i := 14) (oi := { dst := some 9, op := Op.assign (Operand.tmp 36), type := 4, pos := "raster.go:92", after := #[{ on := 12, ground := Ground.data }, { on := 13, ground := Ground.chain }, { on := 0, ground := Ground.phase }, { on := 1, ground := Ground.phase }, { on := 2, ground := Ground.phase }, { on := 3, ground := Ground.phase }, { on := 4, ground := Ground.phase }, { on := 5, ground := Ground.phase }, { on := 6, ground := Ground.phase }, { on := 7, ground := Ground.phase }, { on := 8, ground := Ground.phase }, { on := 9, ground := Ground.phase }, { on := 10, ground := Ground.phase }, { on := 11, ground := Ground.phase }, { on := 12, ground := Ground.phase }, { on := 13, ground := Ground.phase }], guard := none }) (v := ?_) rfl (by kernel_rfl) (by kernel_rfl) (by kernel_rfl) (fun _ _ _ h => h) (Or.inl ⟨by rfl, ?_⟩) (by assumption) ?_
      rotate_left
      · (intro wS hSw; (try dsimp only at hSw); go_simp; (try with_reducible rfl))
      try simp only [Act.put, List.setIfInBounds_toArray, List.set_cons_zero, List.set_cons_succ]
      refine wpAnyH_done (by kernel_rfl) ?_ _
      refine NoPanic.normal ?_
      go_wp2_with fail
      obtain ⟨wd, hwd'⟩ : ∃ V : World, V = wN := ⟨_, rfl⟩
      rw [← hwd'] at hT hD hR ⊢
      clear hwd' hb d0 d1
      have hg9g : g9 ≠ g := by omega
      go_loopw [41] (fun s41 wq => ∃ k : Nat, k ≤ n + 1 ∧ s41 = .int .i64 (k : Int) ∧ RowT wq g 29 (rowsV ((lineD ps i ++ (dotsL (x, y) (u, v)).take k).foldl (stampF WW width) f) H) ∧ Tch (fun k => k = g) wd wq) (fun s41 _ => n + 1 - (intOf s41).toNat)
      case atStart => exact ⟨0, Nat.zero_le _, rfl, by rw [List.take_zero, List.append_nil]; exact hR, (by first | exact Tch.refl _ | exact (Tch.refl _).like)⟩
      case round =>
        clear hR
        obtain ⟨k, hk, rfl, hR, hTd⟩ := hrel
        have hTb := hT.trans hTd
        have G1 := hTb.blk GB (fun e => hg2 e.symm)
        have z0 := G1.cell_ 0; have z1 := G1.cell_ 1; have z2 := G1.cell_ 2; simp at z0 z1 z2
        have hDq := hD.keep (hTd.far g9 hD.lt hg9g)
        have hlen : (dotsL (x, y) (u, v)).length = n + 1 := by rw [dotsL_len, HWN.out.1]; simp
        by_cases hkn : k < n + 1
        · obtain ⟨dd, hdd⟩ : ∃ dd, (dotsL (x, y) (u, v))[k]? = some dd := ⟨_, List.getElem?_eq_getElem (by omega)⟩
          have hmd := dotsL_ok HXY.out HUV.out dd (List.mem_of_getElem? hdd)
          obtain ⟨a, b⟩ := dd
          have ha := mayZ_bd hmd.1
          have hb := mayZ_bd hmd.2
          dsimp only at ha hb
          have c0 : wr.cell? ⟨g9, k, none⟩ = some (.complex .f64 (F a) (F b)) := hDq.cell_ (by rw [List.getElem?_map, hdd]; rfl)
          have HK : Hid (((lineD ps i ++ (dotsL (x, y) (u, v)).take (k + 1)).foldl (stampF WW width) f) = stampF WW width ((lineD ps i ++ (dotsL (x, y) (u, v)).take k).foldl (stampF WW width) f) (a, b)) := Lib.hid (by
            rw [List.take_add_one, hdd, ← List.append_assoc, List.foldl_append]
            rfl)
          obtain ⟨fk, hfk⟩ : ∃ fk, (lineD ps i ++ (dotsL (x, y) (u, v)).take k).foldl (stampF WW width) f = fk := ⟨_, rfl⟩
          have HFK : Hid (∀ y, fk y < 18446744073709551616) := Lib.hid (by rw [← hfk]; exact stamps_lt' WW width hWW _ f hf)
          rw [hfk] at hR HK
          have HDQ := Lib.hid hDq
          have k0 : (0 : Int) ≤ (k : Int) := by omega
          have kn := HWN.out.2
          have k1 : (k : Int) < (n : Int) + 1 := by omega
          clear hdd hmd hfk hDq hlen
          go_wp2_with (go_at_call 36; ((with_reducible refine (stamp_any g H cR WW fk a b width _ hR hcR hW hH (by omega) (by omega) hwd HFK.out).mono ?_); rintro e' wN ⟨⟨v, rfl⟩, hR2, hT2⟩; clear hR; have hR := hR2; clear hR2; replace hTd := hTd.trans hT2; replace hTb := hTb.trans hT2; clear hT2))
          go_roundw
          case rel => exact ⟨k + 1, by omega, by go_num, by rw [HK.out]; exact hR, hTd⟩
          case measure => simp [intOf]; omega
        · obtain rfl : k = n + 1 := by omega
          have hR3 : RowT wr g 29 (rowsV ((lineD ps (i + 1)).foldl (stampF WW width) f) H) := by
            rw [List.take_of_length_le (by omega)] at hR
            have e : lineD ps (i + 1) = lineD ps i ++ dotsL (x, y) (u, v) := by
              unfold lineD
              rw [segs_succ, hcx2.out.1, hcx2.out.2]
              simp
            rw [e]
            exact hR
          have HR3 := Lib.hid hR3
          clear hR hR3 hlen hDq
          go_wp2_with fail
          go_roundw
          case rel => exact ⟨i + 1, by omega, by go_num, HR3.out, hTb⟩
          case measure => simp [intOf]; omega
    · obtain rfl : i + 1 = N := by omega
      have HR := Lib.hid hR
      clear hR
      go_wp2_with fail
      go_ret
      exact ⟨rfl, by rw [Nat.add_sub_cancel]; exact HR.out, (Tch.of_below (S := fun k => k = g) HB0.out).trans (by rw [← HWB.out]; exact hT)⟩
end Go.Proofs.YtnbiioighjdkjaaDoor
