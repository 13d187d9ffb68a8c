/- slices.Delete on rows of the call's own; Remove. -/
import Derived.Test.YtkaoechjekffmaaDoorNz2
import Derived.Test.YtkaoechjekffmaaDoorNz1
import Derived.Shelf.SlicesE.Delete
import Derived.Lib.OwnBridge
set_option linter.unusedSimpArgs false
set_option linter.unusedVariables false
set_option maxRecDepth 100000
set_option maxHeartbeats 16000000
namespace Go.Proofs.YtkaoechjekffmaaDoor
open Go.ChangeShapes Go.WideShapes Go.ChangeAt Go.RowKit
attribute [local go_sem ↓] Go.wp_at_zero Go.wp_at_succ
theorem delInt (w : World) (base g L c i : Nat) (xs : List Int) (h : w.ownsRow base 3 1 (.slice (some ⟨g, 0, none⟩) L c) L (xs.map (Value.int .i64))) (hi : i < L) :
    Calls Tryd.prog 53 #[.slice (some ⟨g, 0, none⟩) L c, .int .i64 (i : Int), .int .i64 ((i : Int) + 1)] w fun e' w' => e' = .returned (.slice (some ⟨g, 0, none⟩) (L - 1) c) ∧ w'.ownsRow base 3 1 (.slice (some ⟨g, 0, none⟩) (L - 1) c) (L - 1) ((xs.eraseIdx i).map (Value.int .i64)) ∧ w.grownBy w' (some g) := by
  obtain ⟨g', c', hv, hb, hlt, hnc, hm, hl, hH⟩ := Lib.holds_of_ownsRow h (by simp)
  cases hv
  have hs : xs.toArray.size = L := by simp [hl]
  obtain ⟨ti0, hi0, hz0, hz1, hz2⟩ := info_parts info_clInt
  have hC := AnyE.slices_Delete Tryd.laysDelI (Value.int .i64) (fun _ => rfl) 0 Tryd.zeroValue3 ti0 hi0 hz1 g 0 c i (i + 1) xs.toArray w hH (by rw [hs]; exact hnc) (by unfold maxLen at hm; omega) (by omega) (by rw [hs]; omega)
  rw [hs] at hC
  refine Calls.mono (show Calls Tryd.prog 53 #[.slice (some ⟨g, 0, none⟩) L c, .int .i64 (i : Int), .int .i64 ((i : Int) + 1)] w _ from hC) ?_
  rintro e' w' ⟨he, q, rfl⟩
  have hys : (xs.toArray.toList.take i ++ xs.toArray.toList.drop (i + 1) ++ List.replicate (i + 1 - i) 0).length = L := by
    simp
    omega
  have hcut : (xs.toArray.toList.take i ++ xs.toArray.toList.drop (i + 1) ++ List.replicate (i + 1 - i) 0).take (L - 1) = xs.eraseIdx i := by
    rw [List.eraseIdx_eq_take_drop_succ]
    exact List.take_left' (by simp; omega)
  refine ⟨by rw [he, show i + 1 - i = 1 by omega], ?_, ⟨rfl, rfl, rfl, by simp [Sort.putRow, Sort.mapBlock, Sort.ahead], fun k hk hne => ?_⟩⟩
  · have := Lib.ownsRow_putRow (q := q) h hys (show L - 1 ≤ L by omega)
    rw [hcut] at this
    exact this
  · have hgk : g ≠ k := fun e => hne (by rw [e])
    simp [Sort.putRow, Sort.mapBlock, Sort.ahead, Array.getElem?_modify, hgk]
theorem delStr (w : World) (base g L c i : Nat) (xs : List ByteArray) (h : w.ownsRow base 9 1 (.slice (some ⟨g, 0, none⟩) L c) L (xs.map strV)) (hi : i < L) :
    Calls Tryd.prog 52 #[.slice (some ⟨g, 0, none⟩) L c, .int .i64 (i : Int), .int .i64 ((i : Int) + 1)] w fun e' w' => e' = .returned (.slice (some ⟨g, 0, none⟩) (L - 1) c) ∧ w'.ownsRow base 9 1 (.slice (some ⟨g, 0, none⟩) (L - 1) c) (L - 1) ((xs.eraseIdx i).map strV) ∧ w.grownBy w' (some g) := by
  obtain ⟨g', c', hv, hb, hlt, hnc, hm, hl, hH⟩ := Lib.holds_of_ownsRow h (by simp)
  cases hv
  have hs : xs.toArray.size = L := by simp [hl]
  obtain ⟨ti0, hi0, hz0, hz1, hz2⟩ := info_parts info_clStr
  have hC := AnyE.slices_Delete Tryd.laysDelS strV (fun _ => rfl) ByteArray.empty Tryd.zeroValue9 ti0 hi0 hz1 g 0 c i (i + 1) xs.toArray w hH (by rw [hs]; exact hnc) (by unfold maxLen at hm; omega) (by omega) (by rw [hs]; omega)
  rw [hs] at hC
  refine Calls.mono (show Calls Tryd.prog 52 #[.slice (some ⟨g, 0, none⟩) L c, .int .i64 (i : Int), .int .i64 ((i : Int) + 1)] w _ from hC) ?_
  rintro e' w' ⟨he, q, rfl⟩
  have hys : (xs.toArray.toList.take i ++ xs.toArray.toList.drop (i + 1) ++ List.replicate (i + 1 - i) ByteArray.empty).length = L := by
    simp
    omega
  have hcut : (xs.toArray.toList.take i ++ xs.toArray.toList.drop (i + 1) ++ List.replicate (i + 1 - i) ByteArray.empty).take (L - 1) = xs.eraseIdx i := by
    rw [List.eraseIdx_eq_take_drop_succ]
    exact List.take_left' (by simp; omega)
  refine ⟨by rw [he, show i + 1 - i = 1 by omega], ?_, ⟨rfl, rfl, rfl, by simp [Sort.putRow, Sort.mapBlock, Sort.ahead], fun k hk hne => ?_⟩⟩
  · have := Lib.ownsRow_putRow (q := q) h hys (show L - 1 ≤ L by omega)
    rw [hcut] at this
    exact this
  · have hgk : g ≠ k := fun e => hne (by rw [e])
    simp [Sort.putRow, Sort.mapBlock, Sort.ahead, Array.getElem?_modify, hgk]
theorem nrem_no (s : Sf) (v : Value) (y : Int) (i : Int) (w : World) (hS : ShR w w.heap.size v s) (hT : Tabs w) (c : Int) (hc : shtC s y i = c) (hne : c ≠ 0) :
    Calls Tryd.prog 22 #[v, .int .i64 y, .int .i64 i] w fun e' w' => e' = .returned (.tuple #[.agg #[.int .i64 0, .int .i64 0, .int .i64 0, .slice none 0 0, .slice none 0 0], .int .i64 0, .int .i64 c]) ∧ Below w.heap.size w w' := by
  have hS0 := hS
  obtain ⟨Ab, cb, An, cn, rfl, hB, hN, hcb, hmb, hcn, hmn⟩ := hS.ex
  clear hS
  obtain ⟨HB, B1, B2, S1⟩ := pre2 hS0
  have T1 := hT.next HB
  have HC := Lib.hid hc
  have HE := Lib.hid hne
  have he0 : ¬ c = 0 := hne
  clear hc hne hS0 hT hB hN hcb hmb hcn hmn
  go_enter Tryd.func22, Tryd.ntmps22
  go_wp2_with (first | (go_at_call 34; ((with_reducible refine (nfs_no s _ y i _ S1 T1 c HC.out HE.out).mono ?_); rintro e' w3 ⟨rfl, bx⟩; (try clear k0 k1 k2 k3 k4 r0 r1 r2 r3 r4 t0 t1 t2 t3 t4); obtain ⟨S1, T1, B1, B2, HB, k0, k1, k2, k3, k4, r0, r1, r2, r3, r4, t0, t1, t2, t3, t4⟩ := keepT S1 T1 B1 B2 HB bx; clear bx)))
  have B2u := z5_blk B2
  have hb2 := z5_below HB (g := w.heap.size + 1) (by omega)
  change bodyPost _ _ _ _ _ (z5 w3 (w.heap.size + 1))
  generalize z5 w3 (w.heap.size + 1) = Wd at B2u hb2 ⊢
  apply bodyPost_ret (v := .tuple #[.agg #[.int .i64 0, .int .i64 0, .int .i64 0, .slice none 0 0, .slice none 0 0], .int .i64 0, .int .i64 c])
  · exact results_cell2 Tryd.results22 _ Wd _ 25 #[.int .i64 0, .int .i64 0, .int .i64 0, .slice none 0 0, .slice none 0 0] (0, 0) _ rfl B2u Tryd.underlying25 rfl (by kernel_rfl)
  · rfl
  · exact ⟨rfl, hb2⟩
theorem nrem_yes (s : Sf) (v : Value) (y : Int) (w : World) (hS : ShR w w.heap.size v s) (hT : Tabs w) (k : Nat) (n : Nt) (h : FdF s y k n) (i : Nat) (x : Int) (hx : n.sh[i]? = some x) :
    Calls Tryd.prog 22 #[v, .int .i64 y, .int .i64 (i : Int)] w fun e' w' => ∃ v', e' = .returned (.tuple #[v', .int .i64 x, .int .i64 0]) ∧ ShW w' w.heap.size v' (remS s y (i : Int)) ∧ Below w.heap.size w w' := by
  have hS0 := hS
  obtain ⟨Ab, cb, An, cn, rfl, hB, hN, hcb, hmb, hcn, hmn⟩ := hS.ex
  clear hS
  obtain ⟨HB, B1, B2, S1⟩ := pre2 hS0
  have T1 := hT.next HB
  have HNN := Lib.hid h.nt
  have hMF := h.may
  have HLB : Hid (s.bs.length ≤ 100000) := Lib.hid (by have := hMF.bl; omega)
  have HLN : Hid (s.ts.length ≤ 100000) := Lib.hid (by have := hMF.tl; omega)
  have HLR := Lib.hid hMF.small
  have HKL : Hid (k < s.ts.length) := Lib.hid (List.getElem?_eq_some_iff.1 h.nt).1
  have HF := Lib.hid h
  have HRS : Hid (remS s y (i : Int) = { s with ts := s.ts.set k { n with sh := n.sh.eraseIdx i } }) := Lib.hid (by unfold remS; rw [h.of_, h.put]; rfl)
  obtain ⟨L, hL⟩ : ∃ L, n.sh.length = L := ⟨_, rfl⟩
  obtain ⟨T, hTe⟩ : ∃ T, s.ts.length = T := ⟨_, rfl⟩
  have HLL := Lib.hid hL
  have HTT := Lib.hid hTe
  have hiL : i < L := by rw [← hL]; exact (List.getElem?_eq_some_iff.1 hx).1
  have hL8 : L ≤ 100000 := by rw [← hL]; exact (hMF.small n (List.mem_of_getElem? h.nt)).2
  have HXX := Lib.hid hx
  have HG0 : Hid (¬ (i : Int) < 0) := Lib.hid (by omega)
  have HG1 : Hid (¬ (n.sh.length : Int) ≤ (i : Int)) := Lib.hid (by omega)
  have i0 : (0 : Int) ≤ (k : Int) := by omega
  have i1 : (k : Int) < (T : Int) := by have := HKL.out; omega
  have j0 : (0 : Int) ≤ (i : Int) := by omega
  have j1 : (i : Int) < (L : Int) := by omega
  have j3 : IntKind.i64.wrap ((i : Int) + 1) = (i : Int) + 1 := wrapS _ (by omega) (by omega)
  rw [hTe] at HB B1 B2 S1 T1 ⊢
  clear h hL hTe hB hN hS0 hT hcb hmb hcn hmn hMF hx
  go_enter Tryd.func22, Tryd.ntmps22
  go_upto_region 4 with (first | (go_at_call 34; ((with_reducible refine (nfs_yes s _ y _ _ S1 T1 k n HF.out HG0.out HG1.out).mono ?_); rintro e' w3 ⟨rfl, bx⟩; (try clear k0 k1 k2 k3 k4 r0 r1 r2 r3 r4 t0 t1 t2 t3 t4); obtain ⟨S1, T1, B1, B2, HB, k0, k1, k2, k3, k4, r0, r1, r2, r3, r4, t0, t1, t2, t3, t4⟩ := keepT S1 T1 B1 B2 HB bx; clear bx)))
  have hW5 : w.heap.size + 2 ≤ w3.heap.size := by have := B2.lt; omega
  go_upto_region 5 with (go_at_call 47; ((with_reducible refine (clone_ap s _ _ S1 HLB.out HLN.out HLR.out).mono ?_); rintro e' w9 ⟨v6, rfl, hQ, b6⟩; obtain ⟨Ab6, cb6, An6, cn6, rfl, hBk, hNt, q1, q2, q3, q4⟩ := ShA.parts hQ; have B1 := B1.below b6 B1.lt; have B2 := B2.below b6 B2.lt; have HB := btr HB HB.size b6; have hz6 := b6.size; (try clear k0 k1 k2 k3 k4 r0 r1 r2 r3 r4 t0 t1 t2 t3 t4); have k0 := B1.cell_ 0; have t0 := B1.free 0; have k1 := B1.cell_ 1; have t1 := B1.free 1; have k2 := B1.cell_ 2; have t2 := B1.free 2; have k3 := B1.cell_ 3; have t3 := B1.free 3; have k4 := B1.cell_ 4; have t4 := B1.free 4; simp at k0 k1 k2 k3 k4; clear b6 hQ S1 T1))
  have B1u := B1.st5_ (.int .i64 s.nb) (.int .i64 s.nn) (.int .i64 s.ns) (.slice Ab6 s.bs.length cb6) (.slice An6 s.ts.length cn6)
  have hg6 := st5_grown w9 w.heap.size 0 (.int .i64 s.nb) (.int .i64 s.nn) (.int .i64 s.ns) (.slice Ab6 s.bs.length cb6) (.slice An6 s.ts.length cn6)
  have B2u := B2.grown hg6 (by omega)
  have hBk2 := hBk.far hg6 (by omega)
  have hNt2 := hNt.far hg6 (by omega)
  have hb2 := below_grown HB hg6 (Nat.le_refl _) HB.size
  have HSZ : Hid (w3.heap.size ≤ (st5 w9 w.heap.size 0 (.int .i64 s.nb) (.int .i64 s.nn) (.int .i64 s.ns) (.slice Ab6 s.bs.length cb6) (.slice An6 s.ts.length cn6)).heap.size) := Lib.hid (by have := hz6; have := hg6.size; omega)
  clear hg6
  obtain ⟨Wd, hWd⟩ : ∃ V : World, V = (st5 w9 w.heap.size 0 (.int .i64 s.nb) (.int .i64 s.nn) (.int .i64 s.ns) (.slice Ab6 s.bs.length cb6) (.slice An6 s.ts.length cn6)) := ⟨_, rfl⟩
  change Code.wp _ _ _ _ (st5 w9 w.heap.size 0 (.int .i64 s.nb) (.int .i64 s.nn) (.int .i64 s.ns) (.slice Ab6 s.bs.length cb6) (.slice An6 s.ts.length cn6))
  rw [← hWd] at B1u B2u hBk2 hNt2 hb2 HSZ ⊢
  clear hWd B1 B2 HB hBk hNt k0 k1 k2 k3 k4 t0 t1 t2 t3 t4 hz6
  have HW5 := Lib.hid hW5
  obtain ⟨es, hel, hon, hnt, hap⟩ := hNt2
  have hkT := (List.getElem?_eq_some_iff.1 HNN.out).1
  obtain ⟨e0, he⟩ : ∃ e, es[k]? = some e := ⟨_, List.getElem?_eq_getElem (by omega)⟩
  obtain ⟨vt, vs, rfl, q1, q2⟩ := hnt k n e0 HNN.out he
  obtain ⟨At9, ct9, rfl, ht1, ht2⟩ := own_shape q1
  obtain ⟨As9, cs9, rfl, hs1, hs2⟩ := own_shape q2
  obtain ⟨gn, hgn, hgn2⟩ : ∃ gn, An6 = some ⟨gn, 0, none⟩ ∧ w3.heap.size ≤ gn := by
    rcases hon.2 with ⟨h, h0⟩ | ⟨g, c, cu, h, hb, _⟩
    · omega
    · injection h with h1 h2 h3
      exact ⟨g, h1, hb⟩
  subst hgn
  have h5 := es_five hel hnt
  have hga : gn ≠ Wd.heap.size := by
    have := (hon.lt gn rfl).2
    omega
  have HE := Lib.hid he
  have HEL := Lib.hid hel
  have HON := Lib.hid hon
  rw [HLL.out] at he q2
  rw [HTT.out] at hon hel
  obtain ⟨gs, hgs, hgs2⟩ : ∃ gs, As9 = some ⟨gs, 0, none⟩ ∧ w3.heap.size ≤ gs := by
    rcases q2.2 with ⟨h, h0⟩ | ⟨g, c, cu, h, hb, _⟩
    · omega
    · injection h with h1 h2 h3
      exact ⟨g, h1, hb⟩
  subst hgs
  have k0 := B1u.cell_ 0
  have k1 := B1u.cell_ 1
  have k2 := B1u.cell_ 2
  have k3 := B1u.cell_ 3
  have k4 := B1u.cell_ 4
  simp at k0 k1 k2 k3 k4
  rw [HTT.out] at k4
  have x4 := own_cellE hon h5 he (j := 4) rfl
  have x5 : Wd.cell? ⟨gs, i, none⟩ = some (.int .i64 x) := by
    rw [World.ownsRow.cellAt q2 i (by omega), List.getElem?_map, HXX.out]
    rfl
  go_upto_region 6 with fail
  have kd : Wd.drew.cell? ⟨w.heap.size, 4, none⟩ = some (.slice (some ⟨gn, 0, none⟩) T cn6) := drew_cell k4
  have xd : Wd.drew.cell? ⟨gn, k * 5 + 4, none⟩ = some (.slice (some ⟨gs, 0, none⟩) L cs9) := drew_cell x4
  have hqb : ∀ g, (Value.slice (some ⟨gs, 0, none⟩) L cs9).ownBlock = some g → w3.heap.size ≤ g := fun g hg => (q2.lt g hg).1
  clear k0 k1 k2 k3 k4 x4 x5
  refine wp_region_noPanic ?_
  refine wp_region_held_drew (S := (fun w_ => w_.cell? ⟨w.heap.size, 4, none⟩ = some (.slice (some ⟨gn, 0, none⟩) T cn6))) (by kernel_rfl) ?_ (fun hHeld => ?_)
  · (first | with_reducible exact kd | with_reducible exact k4' | with_reducible exact kb)
  refine tk 0 ?_; try simp only [Act.put, pz1, pz2, pz3]
  refine tk 1 ?_; try simp only [Act.put, pz1, pz2, pz3]
  refine tk 2 ?_; try simp only [Act.put, pz1, pz2, pz3]
  refine tk 3 ?_; try simp only [Act.put, pz1, pz2, pz3]
  refine tk 4 ?_; try simp only [Act.put, pz1, pz2, pz3]
  refine tk 5 ?_; try simp only [Act.put, pz1, pz2, pz3]
  refine tk 6 ?_; try simp only [Act.put, pz1, pz2, pz3]
  refine tk 7 ?_; try simp only [Act.put, pz1, pz2, pz3]
  refine tk 9 ?_; try simp only [Act.put, pz1, pz2, pz3]
  refine tk 10 ?_; try simp only [Act.put, pz1, pz2, pz3]
  refine tk 11 ?_; try simp only [Act.put, pz1, pz2, pz3]
  refine wpAnyH_ready (rs := [8]) (by kernel_rfl) (by simp) ?_
  refine AllReadyH.cons (o := ⟨some 42, .load 47 (.tmp 41), 47, "note.go:106", #[⟨7, .data⟩], none⟩) rfl (fun K hK => ?_) AllReadyH.nil
  go_simp
  refine hK.out _ _ ?_ (fun hNew => ?_)
  · (first | with_reducible exact kd | with_reducible exact k4' | with_reducible exact kb)
  clear hK K hHeld
  have hHeld := hNew
  clear hNew
  try simp only [Act.put, pz1, pz2, pz3]
  refine wpAnyH_ready (rs := [12]) (by kernel_rfl) (by simp) ?_
  refine AllReadyH.cons (o := ⟨some 46, .call { callee := .value (.func 53), args := #[.tmp 42, .tmp 43, .tmp 45], argTypes := #[47, 3, 3] }, 47, "note.go:106", #[⟨8, .data⟩, ⟨9, .data⟩, ⟨11, .data⟩], none⟩) rfl (fun K hK => ?_) AllReadyH.nil
  go_simp
  (go_at_call 53; ((with_reducible refine (delInt _ _ _ _ _ _ _ (drew_own q2) hiL).mono ?_); rintro e' w7 ⟨rfl, ho', hg'⟩; have hof : ∀ j, j < w3.heap.size → (Value.slice (some ⟨gs, 0, none⟩) L cs9).ownBlock ≠ some j := fun j hj h => (by have := hqb j h; omega); have B1a := (drew_blk B1u).grownR hg' (hof _ (by have := HW5.out; omega)); have B2a := (drew_blk B2u).grownR hg' (hof _ (by have := HW5.out; omega)); have HBa := (drew_below hb2).trans (below_app (B := w.heap.size) (by have := HW5.out; omega) HSZ.out (drew_own q2) hg'); have hon7 := (drew_own hon).kept hg' (own_apart (drew_own hon) (drew_own q2) (by decide)); have k4' := B1a.cell_ 4; simp at k4'; rw [HTT.out] at k4'; have x7 := own_cellE hon7 h5 he (j := 4) rfl; have f7 := World.ownsRow.frozenAt hon7 (k * 5 + 4); have kb : (w7.setCell ⟨gn, k * 5 + 4, none⟩ (.slice (some ⟨gs, 0, none⟩) (L - 1) cs9)).cell? ⟨w.heap.size, 4, none⟩ = some (.slice (some ⟨gn, 0, none⟩) T cn6) := (by have := (B1a.grown (set1_grown w7 gn (k * 5 + 4) (.slice (some ⟨gs, 0, none⟩) (L - 1) cs9)) (by have := HW5.out; omega)).cell_ 4; simp at this; rw [HTT.out] at this; exact this)))
  go_wp2_with fail
  refine hK.out _ _ ?_ (fun hNew => ?_)
  · (first | with_reducible exact kd | with_reducible exact k4' | with_reducible exact kb)
  clear hK K hHeld
  have hHeld := hNew
  clear hNew
  try simp only [Act.put, pz1, pz2, pz3]
  refine tk 13 ?_; try simp only [Act.put, pz1, pz2, pz3]
  refine tk 14 ?_; try simp only [Act.put, pz1, pz2, pz3]
  refine wpAnyH_ready (rs := [15]) (by kernel_rfl) (by simp) ?_
  refine AllReadyH.cons (o := ⟨none, .store 47 (.tmp 48) (.tmp 46), 0, "note.go:106", #[⟨14, .data⟩, ⟨12, .data⟩, ⟨12, .chain⟩, ⟨0, .phase⟩, ⟨1, .phase⟩, ⟨2, .phase⟩, ⟨3, .phase⟩, ⟨4, .phase⟩, ⟨5, .phase⟩, ⟨6, .phase⟩, ⟨7, .phase⟩, ⟨8, .phase⟩, ⟨9, .phase⟩, ⟨10, .phase⟩, ⟨11, .phase⟩, ⟨12, .phase⟩], none⟩) rfl (fun K hK => ?_) AllReadyH.nil
  go_simp
  refine hK.out _ _ ?_ (fun hNew => ?_)
  · (first | with_reducible exact kd | with_reducible exact k4' | with_reducible exact kb)
  clear hK K hHeld
  have hHeld := hNew
  clear hNew
  try simp only [Act.put, pz1, pz2, pz3]
  refine wpAnyH_done (by kernel_rfl) ?_ _
  refine NoPanic.normal ?_
  have hb0 : Below Wd.heap.size Wd Wd.drew := below_dr Wd
  have hl9 : (n.sh.eraseIdx i).length = L - 1 := by have := HLL.out; rw [List.length_eraseIdx, if_pos (by omega), this]
  obtain ⟨hNw, hgw⟩ := nt_sheets (xs := n.sh.eraseIdx i) HEL.out (drew_own HON.out) (fun k n e a b => (hnt k n e a b).below hb0) hap HNN.out HE.out (by rw [HLL.out]; exact hg') (by rw [hl9]; exact ho')
  have B1w := B1a.grown hgw (by have := HW5.out; omega)
  have B2w := B2a.grown hgw (by have := HW5.out; omega)
  have hB7 : BksW w7 w3.heap.size (.slice Ab6 s.bs.length cb6) s.bs := World.ownsRow.kept (own_belowW hBk2 hb0) hg' (own_apart (own_belowW hBk2 hb0) (drew_own q2) (by decide))
  have hBw := BksW.apartN hB7 hon7 hgw
  have hbw := below_grown HBa hgw (by have := HW5.out; omega) HBa.size
  obtain ⟨Wx, hWx⟩ : ∃ V : World, V = w7.setCell ⟨gn, k * 5 + 4, none⟩ (.slice (some ⟨gs, 0, none⟩) (L - 1) cs9) := ⟨_, rfl⟩
  rw [← hWx] at hNw B1w B2w hBw hbw ⊢
  clear hWx hgw hB7 hb0 hl9 B1a B2a HBa ho' hg' hon7 k4' x7 f7 kb hof
  have k0 := B1w.cell_ 0
  have r0 := B2w.cell_ 0
  have t0 := B2w.free 0
  have k1 := B1w.cell_ 1
  have r1 := B2w.cell_ 1
  have t1 := B2w.free 1
  have k2 := B1w.cell_ 2
  have r2 := B2w.cell_ 2
  have t2 := B2w.free 2
  have k3 := B1w.cell_ 3
  have r3 := B2w.cell_ 3
  have t3 := B2w.free 3
  have k4 := B1w.cell_ 4
  have r4 := B2w.cell_ 4
  have t4 := B2w.free 4
  simp at k0 k1 k2 k3 k4 r0 r1 r2 r3 r4
  go_wp2_with fail
  have B2e := B2w.st5_ (.int .i64 s.nb) (.int .i64 s.nn) (.int .i64 s.ns) (.slice Ab6 s.bs.length cb6) (.slice (some ⟨gn, 0, none⟩) s.ts.length cn6)
  have hgE := st5_grown Wx (w.heap.size + 1) 0 (.int .i64 s.nb) (.int .i64 s.nn) (.int .i64 s.ns) (.slice Ab6 s.bs.length cb6) (.slice (some ⟨gn, 0, none⟩) s.ts.length cn6)
  have hBe := hBw.far hgE (by have := HW5.out; omega)
  have hNe := hNw.far hgE (by have := HW5.out; omega)
  have hbe := below_grown hbw hgE (by omega) hbw.size
  change bodyPost _ _ _ _ _ (st5 Wx (w.heap.size + 1) 0 (.int .i64 s.nb) (.int .i64 s.nn) (.int .i64 s.ns) (.slice Ab6 s.bs.length cb6) (.slice (some ⟨gn, 0, none⟩) s.ts.length cn6))
  clear hgE
  generalize st5 Wx (w.heap.size + 1) 0 (.int .i64 s.nb) (.int .i64 s.nn) (.int .i64 s.ns) (.slice Ab6 s.bs.length cb6) (.slice (some ⟨gn, 0, none⟩) s.ts.length cn6) = WF at B2e hBe hNe hbe ⊢
  apply bodyPost_ret (v := .tuple #[.agg #[.int .i64 s.nb, .int .i64 s.nn, .int .i64 s.ns, .slice Ab6 s.bs.length cb6, .slice (some ⟨gn, 0, none⟩) s.ts.length cn6], .int .i64 x, .int .i64 0])
  · exact results_cell2 Tryd.results22 _ WF (w.heap.size + 1) 25 _ (0, 0) _ rfl B2e Tryd.underlying25 rfl (by kernel_rfl)
  · rfl
  · refine ⟨_, rfl, ?_, hbe⟩
    rw [HRS.out]
    exact ShW.base_ (ShW.make (s := { s with ts := s.ts.set k { n with sh := n.sh.eraseIdx i } }) (w := WF) (base := w3.heap.size) (vb := .slice Ab6 s.bs.length cb6) (vn := .slice (some ⟨gn, 0, none⟩) s.ts.length cn6) hBe hNe) (by have := HW5.out; omega)
end Go.Proofs.YtkaoechjekffmaaDoor
namespace Go.Proofs.YtkaoechjekffmaaDoor
open Go.ChangeShapes Go.WideShapes Go.ChangeAt Go.RowKit
theorem rmay_any3 (s : ByteArray) (B : Bool) (w : World) (hs : s.size ≤ 100000) (hB : nameB s.data.toList = B) :
    Calls Tryd.prog 55 #[.string s] w fun e w' => e = .returned (.bool B) ∧ w = w' := by
  have hsz := size_L s
  have HS : Hid (s.size ≤ 100000) := Lib.hid hs
  by_cases h1 : s.size < 1
  · rw [name_short (by omega)] at hB
    subst hB
    have q1 : (s.size : Int) < 1 := by omega
    clear hs hsz h1
    go_enter Tryd.func55, Tryd.ntmps55
    go_wp2
    go_ret
    exact ⟨rfl, rfl⟩
  have q1 : ¬ (s.size : Int) < 1 := by omega
  by_cases h2 : 20 < s.size
  · rw [name_short (by omega)] at hB
    subst hB
    have q2 : (20 : Int) < (s.size : Int) := by omega
    clear hs hsz h1 h2
    go_enter Tryd.func55, Tryd.ntmps55
    go_wp2
    go_ret
    exact ⟨rfl, rfl⟩
  have q2 : ¬ (20 : Int) < (s.size : Int) := by omega
  have a0 : 0 < s.size := by omega
  have a1 : s.size - 1 < s.size := by omega
  obtain ⟨V, hV⟩ : ∃ V, validL s.data.toList = V := ⟨_, rfl⟩
  obtain ⟨P, hP⟩ : ∃ V, (btL s.data.toList 0 == 32) = V := ⟨_, rfl⟩
  obtain ⟨F, hF⟩ : ∃ V, (btL s.data.toList (s.data.toList.length - 1) == 32) = V := ⟨_, rfl⟩
  obtain ⟨A, hA⟩ : ∃ V, mayFrom s.data.toList s.data.toList.length 0 = V := ⟨_, rfl⟩
  have hB2 : (!P && (!F && A)) = B := by
    have := name_parts (by omega) (by omega) hV hP hF rfl
    rw [← hB, this, ← hA, may_split, show okFrom s.data.toList s.data.toList.length 0 = V from hV]
  have at0 : (((s[0]'a0).toNat : Int) == 32) = P := by
    rw [at_L s 0 a0, ← hP, Bool.eq_iff_iff, beq_iff_eq, beq_iff_eq]
    omega
  have at1 : (((s[s.size - 1]'a1).toNat : Int) == 32) = F := by
    rw [at_L s _ a1, ← hF, hsz, Bool.eq_iff_iff, beq_iff_eq, beq_iff_eq]
    omega
  obtain ⟨L, hL⟩ : ∃ L, s.data.toList = L := ⟨_, rfl⟩
  rw [hL] at hA hsz
  have HLS := Lib.hid hL
  have AT0 := Lib.hid at0
  have AT1 := Lib.hid at1
  have HB2 := Lib.hid hB2
  have hA0 : mayFrom L L.length 0 = A := hA
  have HA := Lib.hid hA0
  have HSZ := Lib.hid hsz
  clear hV hP hF hL hs h1 hA hB hB2 at0 at1 hA0 hsz h2
  have z0 : (0 : Int) < (s.size : Int) := by omega
  have z1 : (0 : Int) ≤ (s.size : Int) - 1 := by omega
  go_enter Tryd.func55, Tryd.ntmps55
  go_upto_region 1 with fail
  go_cut [26] (fun v wx => v = .bool (P || F) ∧ wx = w)
  case first =>
    go_wp2
    all_goals (go_meet; refine ⟨?_, rfl⟩; (rw [← AT0.out, ← AT1.out] <;> first | rfl | simp [*]))
  case rest =>
  obtain ⟨rfl, rfl⟩ := hcut
  cases hD : (P || F)
  case true =>
    have hb : B = false := by
      rw [← HB2.out]
      cases P
      · simp only [Bool.false_or] at hD
        rw [hD]
        rfl
      · rfl
    subst hb
    clear hD
    go_wp2
    go_ret
    exact ⟨rfl, rfl⟩
  have hb : A = B := by
    rw [← HB2.out]
    cases P
    · simp only [Bool.false_or] at hD
      rw [hD]
      rfl
    · cases hD
  subst hb
  clear hD HB2
  go_wp2_with fail
  go_loop [3] (fun i => ∃ p b : Nat, i = .int .i64 p ∧ Hid (mayFrom L b p = A ∧ L.length ≤ p + b ∧ p ≤ L.length)) (fun i => s.size - (intOf i).toNat)
  case atStart => exact ⟨0, L.length, rfl, Lib.hid ⟨HA.out, by omega, by omega⟩⟩
  case round =>
    obtain ⟨p, b, rfl, HI⟩ := hrel
    obtain ⟨i2, i3, i5⟩ := HI.out
    have hsz := HSZ.out
    by_cases hlt : p < L.length
    · obtain ⟨b', rfl⟩ : ∃ b', b = b' + 1 := ⟨b - 1, by omega⟩
      have hp2 : p < s.size := by omega
      have j0 : (p : Int) < (s.size : Int) := by omega
      rw [mayFrom, if_pos hlt] at i2
      obtain ⟨R, N, hrn⟩ : ∃ R N, r1L L p = (R, N) := ⟨_, _, rfl⟩
      have HRN : Hid (r1L s.data.toList p = (R, N)) := Lib.hid (by rw [HLS.out]; exact hrn)
      unfold r1L at hrn
      by_cases hb : badL L p = true
      · rw [if_pos hb] at hrn i2
        simp only [Prod.mk.injEq] at hrn
        obtain ⟨rfl, rfl⟩ := hrn
        subst i2
        clear i3 i5 hb hlt hsz HA
        go_wp2_with (go_at_call 75; refine (rune1_any s p _ _ _ hp2 HS.out HRN.out).mono ?_; rintro e' w1 ⟨rfl, rfl⟩)
        go_ret
        exact ⟨rfl, rfl⟩
      · rw [if_neg hb] at hrn i2
        have hb' : badL L p = false := by simpa using hb
        have hw := runed_w (good_of hb') (by omega)
        rw [hrn] at hw i2
        simp only [] at hw i2
        have n0 : ((N : Int) == 0) = false := by simp; omega
        have k1 : p + N ≤ 100000 := by have := HS.out; omega
        have k3 : 1 ≤ N := hw.1
        have hle : p + N ≤ L.length := by omega
        clear i5 hb hb' hw hrn HA
        by_cases hm : mayR R = true
        · rw [if_pos hm] at i2
          have HK : Hid (mayFrom L b' (p + N) = A ∧ L.length ≤ p + N + b' ∧ p + N ≤ L.length) := Lib.hid ⟨i2, by omega, hle⟩
          have hr : (32 ≤ R ∧ R < 127 ∧ R ≠ 47) ∨ (32 ≤ R ∧ 160 ≤ R ∧ R ≠ 47) := by
            unfold mayR at hm
            simp only [Bool.and_eq_true, Bool.not_eq_true', Bool.or_eq_false_iff, Bool.and_eq_false_iff, decide_eq_false_iff_not, beq_eq_false_iff_ne] at hm
            omega
          clear i2 i3 hm hlt hsz hle
          rcases hr with ⟨r1, r2, r3⟩ | ⟨r1, r2, r3⟩
          · have t1 : ¬ (R : Int) < 32 := by omega
            have t2 : ¬ (127 : Int) ≤ (R : Int) := by omega
            have t3 : ((R : Int) == 47) = false := by simp; omega
            clear r1 r2 r3
            go_wp2_with (go_at_call 75; refine (rune1_any s p _ _ _ hp2 HS.out HRN.out).mono ?_; rintro e' w1 ⟨rfl, rfl⟩)
            go_round
            case rel => exact ⟨p + N, b', by go_num, HK⟩
            case measure => simp [intOf]; omega
          · have t1 : ¬ (R : Int) < 32 := by omega
            have t2 : (127 : Int) ≤ (R : Int) := by omega
            have t4 : ¬ (R : Int) < 160 := by omega
            have t3 : ((R : Int) == 47) = false := by simp; omega
            clear r1 r2 r3
            go_wp2_with (go_at_call 75; refine (rune1_any s p _ _ _ hp2 HS.out HRN.out).mono ?_; rintro e' w1 ⟨rfl, rfl⟩)
            go_round
            case rel => exact ⟨p + N, b', by go_num, HK⟩
            case measure => simp [intOf]; omega
        · rw [if_neg hm] at i2
          subst i2
          have hr : R < 32 ∨ (32 ≤ R ∧ R < 127 ∧ R = 47) ∨ (127 ≤ R ∧ R < 160) := by
            unfold mayR at hm
            simp only [Bool.and_eq_true, Bool.not_eq_true', Bool.or_eq_false_iff, Bool.and_eq_false_iff, decide_eq_false_iff_not, beq_eq_false_iff_ne] at hm
            omega
          clear i3 hm hlt hsz hle
          rcases hr with r1 | ⟨r1, r2, rfl⟩ | ⟨r1, r2⟩
          · have t1 : (R : Int) < 32 := by omega
            clear r1
            go_wp2_with (go_at_call 75; refine (rune1_any s p _ _ _ hp2 HS.out HRN.out).mono ?_; rintro e' w1 ⟨rfl, rfl⟩)
            go_ret
            exact ⟨rfl, rfl⟩
          · clear r1 r2
            go_wp2_with (go_at_call 75; refine (rune1_any s p _ _ _ hp2 HS.out HRN.out).mono ?_; rintro e' w1 ⟨rfl, rfl⟩)
            go_ret
            exact ⟨rfl, rfl⟩
          · have t1 : ¬ (R : Int) < 32 := by omega
            have t2 : (127 : Int) ≤ (R : Int) := by omega
            have t4 : (R : Int) < 160 := by omega
            clear r1 r2
            go_wp2_with (go_at_call 75; refine (rune1_any s p _ _ _ hp2 HS.out HRN.out).mono ?_; rintro e' w1 ⟨rfl, rfl⟩)
            go_ret
            exact ⟨rfl, rfl⟩
    · have j0 : ¬ (p : Int) < (s.size : Int) := by omega
      have hv : A = true := by
        rw [← i2]
        cases b with
        | zero => rfl
        | succ b => rw [mayFrom, if_neg hlt]
      subst hv
      clear i2 i3 i5 hlt hsz
      go_wp2
      go_ret
      exact ⟨rfl, rfl⟩
end Go.Proofs.YtkaoechjekffmaaDoor
namespace Go.Proofs.YtkaoechjekffmaaDoor
open Go.ChangeShapes Go.WideShapes Go.ChangeAt Go.RowKit
attribute [local go_sem ↓] Go.wp_at_zero Go.wp_at_succ
theorem rBook_any (s : Sf) (v : Value) (x : Int) (w : World) (hS : ShR w w.heap.size v s) (hsm : s.bs.length ≤ 100000 ∧ s.ts.length ≤ 100000) :
    Calls Tryd.prog 89 #[v, .int .i64 x] w fun e' w' => e' = .returned (.int .i64 (bookAt s x)) ∧ Below w.heap.size w w' := by
  have hS0 := hS
  obtain ⟨Ab, cb, An, cn, rfl, hB, hN, hcb, hmb, hcn, hmn⟩ := hS.ex
  clear hS
  have HB : Below w.heap.size w (w.alloc (.cells #[.int .i64 s.nb, .int .i64 s.nn, .int .i64 s.ns, .slice Ab s.bs.length cb, .slice An s.ts.length cn] 25)) := ((Below.refl w.heap.size w).alloc (by first | (simp; done) | (simp; omega)) _)
  have B1 : Blk (w.alloc (.cells #[.int .i64 s.nb, .int .i64 s.nn, .int .i64 s.ns, .slice Ab s.bs.length cb, .slice An s.ts.length cn] 25)) w.heap.size 25 #[.int .i64 s.nb, .int .i64 s.nn, .int .i64 s.ns, .slice Ab s.bs.length cb, .slice An s.ts.length cn] := Blk.new_ w 25 #[.int .i64 s.nb, .int .i64 s.nn, .int .i64 s.ns, .slice Ab s.bs.length cb, .slice An s.ts.length cn]
  obtain ⟨n, hn⟩ : ∃ n, s.bs.length = n := ⟨_, rfl⟩
  have hnm : n ≤ 100000 := by rw [← hn]; exact hsm.1
  have HN := Lib.hid hn
  rw [hn] at HB B1 ⊢
  have H0 : Hid ((s.bs.take 0).any (fun b : Bk => b.id == x) = false) := Lib.hid rfl
  clear hn hsm hS0
  go_enter Tryd.func89, Tryd.ntmps89
  go_wp2_with fail
  go_loop [5] (fun i => ∃ k : Nat, k ≤ n ∧ i = .int .i64 k ∧ Hid ((s.bs.take k).any (fun b : Bk => b.id == x) = false)) (fun i => n - (intOf i).toNat)
  case atStart => exact ⟨0, by omega, rfl, H0⟩
  case round =>
    obtain ⟨k, hk, rfl, HK⟩ := hrel
    clear H0
    by_cases hlt : k < n
    · have hlx : k < s.bs.length := by have := HN.out; omega
      have i0 : (0 : Int) ≤ (k : Int) := by omega
      have i1 : (k : Int) < (n : Int) := by omega
      obtain ⟨y, hx⟩ : ∃ y, s.bs[k]? = some y := ⟨_, List.getElem?_eq_getElem hlx⟩
      have he : (s.bs.map bkC)[k]? = some (bkC y) := by rw [List.getElem?_map, hx]; rfl
      obtain ⟨b1, o1, rfl, l1, q1⟩ := SlE.at_ hB (by rw [List.length_map]; omega)
      have y0 : World.cell? ((w.alloc (.cells #[.int .i64 s.nb, .int .i64 s.nn, .int .i64 s.ns, .slice (some ⟨b1, o1, none⟩) n cb, .slice An s.ts.length cn] 25))) ⟨b1, o1 + k * 2, none⟩ = some (.int .i64 y.id) := (HB.cell (p := ⟨b1, _, none⟩) l1).trans (q1 k _ he 0 _ rfl)
      have y1 : World.cell? ((w.alloc (.cells #[.int .i64 s.nb, .int .i64 s.nn, .int .i64 s.ns, .slice (some ⟨b1, o1, none⟩) n cb, .slice An s.ts.length cn] 25))) ⟨b1, o1 + k * 2 + 1, none⟩ = some (.string y.nm) := (HB.cell (p := ⟨b1, _, none⟩) l1).trans (q1 k _ he 1 _ rfl)
      have HX := Lib.hid hx
      clear hx q1 he hlx
      rcases (by cases hq : (y.id == x) <;> simp : (y.id == x) = true ∨ (y.id == x) = false) with hp | hp
      · have HP := Lib.hid hp
        go_wp2_with fail
        go_ret
        exact ⟨by rw [show bookAt s x = (k : Int) from idxP_at HK.out HX.out HP.out]; rfl, HB⟩
      · have HP := Lib.hid hp
        go_wp2_with fail
        go_round
        case rel => exact ⟨k + 1, by omega, by go_num, Lib.hid (any_next HK.out HX.out HP.out)⟩
        case measure => simp [intOf]; omega
    · have hjn : k = n := by omega
      subst hjn
      go_wp2_with fail
      go_ret
      refine ⟨?_, HB⟩
      have := HK.out
      rw [List.take_of_length_le (by rw [HN.out]; exact Nat.le_refl _)] at this
      rw [show bookAt s x = -1 from idxP_no this]
      rfl
theorem rNote_any (s : Sf) (v : Value) (x : Int) (w : World) (hS : ShR w w.heap.size v s) (hsm : s.bs.length ≤ 100000 ∧ s.ts.length ≤ 100000) :
    Calls Tryd.prog 58 #[v, .int .i64 x] w fun e' w' => e' = .returned (.int .i64 (noteAt s x)) ∧ Below w.heap.size w w' := by
  have hS0 := hS
  obtain ⟨Ab, cb, An, cn, rfl, hB, hN, hcb, hmb, hcn, hmn⟩ := hS.ex
  clear hS
  have HB : Below w.heap.size w (w.alloc (.cells #[.int .i64 s.nb, .int .i64 s.nn, .int .i64 s.ns, .slice Ab s.bs.length cb, .slice An s.ts.length cn] 25)) := ((Below.refl w.heap.size w).alloc (by first | (simp; done) | (simp; omega)) _)
  have B1 : Blk (w.alloc (.cells #[.int .i64 s.nb, .int .i64 s.nn, .int .i64 s.ns, .slice Ab s.bs.length cb, .slice An s.ts.length cn] 25)) w.heap.size 25 #[.int .i64 s.nb, .int .i64 s.nn, .int .i64 s.ns, .slice Ab s.bs.length cb, .slice An s.ts.length cn] := Blk.new_ w 25 #[.int .i64 s.nb, .int .i64 s.nn, .int .i64 s.ns, .slice Ab s.bs.length cb, .slice An s.ts.length cn]
  obtain ⟨es, hel, hse, hnt⟩ := hN.ex
  obtain ⟨n, hn⟩ : ∃ n, s.ts.length = n := ⟨_, rfl⟩
  have hnm : n ≤ 100000 := by rw [← hn]; exact hsm.2
  have HN := Lib.hid hn
  rw [hn] at HB B1 ⊢
  have H0 : Hid ((s.ts.take 0).any (fun b : Nt => b.id == x) = false) := Lib.hid rfl
  clear hn hsm hS0
  go_enter Tryd.func58, Tryd.ntmps58
  go_wp2_with fail
  go_loop [5] (fun i => ∃ k : Nat, k ≤ n ∧ i = .int .i64 k ∧ Hid ((s.ts.take k).any (fun b : Nt => b.id == x) = false)) (fun i => n - (intOf i).toNat)
  case atStart => exact ⟨0, by omega, rfl, H0⟩
  case round =>
    obtain ⟨k, hk, rfl, HK⟩ := hrel
    clear H0
    by_cases hlt : k < n
    · have hlx : k < s.ts.length := by have := HN.out; omega
      have i0 : (0 : Int) ≤ (k : Int) := by omega
      have i1 : (k : Int) < (n : Int) := by omega
      obtain ⟨y, hx⟩ : ∃ y, s.ts[k]? = some y := ⟨_, List.getElem?_eq_getElem hlx⟩
      obtain ⟨e0, he⟩ : ∃ e, es[k]? = some e := ⟨_, List.getElem?_eq_getElem (by omega)⟩
      obtain ⟨At, ct, As, cs, rfl, -⟩ := (hnt k y e0 hx he).ex
      obtain ⟨b1, o1, rfl, l1, q1⟩ := hse.at_ (by omega)
      have y0 : World.cell? ((w.alloc (.cells #[.int .i64 s.nb, .int .i64 s.nn, .int .i64 s.ns, .slice Ab s.bs.length cb, .slice (some ⟨b1, o1, none⟩) n cn] 25))) ⟨b1, o1 + k * 5, none⟩ = some (.int .i64 y.id) := (HB.cell (p := ⟨b1, _, none⟩) l1).trans (q1 k _ he 0 _ rfl)
      have y1 : World.cell? ((w.alloc (.cells #[.int .i64 s.nb, .int .i64 s.nn, .int .i64 s.ns, .slice Ab s.bs.length cb, .slice (some ⟨b1, o1, none⟩) n cn] 25))) ⟨b1, o1 + k * 5 + 1, none⟩ = some (.int .i64 y.bk) := (HB.cell (p := ⟨b1, _, none⟩) l1).trans (q1 k _ he 1 _ rfl)
      have y2 : World.cell? ((w.alloc (.cells #[.int .i64 s.nb, .int .i64 s.nn, .int .i64 s.ns, .slice Ab s.bs.length cb, .slice (some ⟨b1, o1, none⟩) n cn] 25))) ⟨b1, o1 + k * 5 + 2, none⟩ = some (.string y.nm) := (HB.cell (p := ⟨b1, _, none⟩) l1).trans (q1 k _ he 2 _ rfl)
      have y3 : World.cell? ((w.alloc (.cells #[.int .i64 s.nb, .int .i64 s.nn, .int .i64 s.ns, .slice Ab s.bs.length cb, .slice (some ⟨b1, o1, none⟩) n cn] 25))) ⟨b1, o1 + k * 5 + 3, none⟩ = some (.slice At y.tg.length ct) := (HB.cell (p := ⟨b1, _, none⟩) l1).trans (q1 k _ he 3 _ rfl)
      have y4 : World.cell? ((w.alloc (.cells #[.int .i64 s.nb, .int .i64 s.nn, .int .i64 s.ns, .slice Ab s.bs.length cb, .slice (some ⟨b1, o1, none⟩) n cn] 25))) ⟨b1, o1 + k * 5 + 4, none⟩ = some (.slice As y.sh.length cs) := (HB.cell (p := ⟨b1, _, none⟩) l1).trans (q1 k _ he 4 _ rfl)
      have HX := Lib.hid hx
      clear hx q1 he hlx
      rcases (by cases hq : (y.id == x) <;> simp : (y.id == x) = true ∨ (y.id == x) = false) with hp | hp
      · have HP := Lib.hid hp
        go_wp2_with fail
        go_ret
        exact ⟨by rw [show noteAt s x = (k : Int) from idxP_at HK.out HX.out HP.out]; rfl, HB⟩
      · have HP := Lib.hid hp
        go_wp2_with fail
        go_round
        case rel => exact ⟨k + 1, by omega, by go_num, Lib.hid (any_next HK.out HX.out HP.out)⟩
        case measure => simp [intOf]; omega
    · have hjn : k = n := by omega
      subst hjn
      go_wp2_with fail
      go_ret
      refine ⟨?_, HB⟩
      have := HK.out
      rw [List.take_of_length_le (by rw [HN.out]; exact Nat.le_refl _)] at this
      rw [show noteAt s x = -1 from idxP_no this]
      rfl
end Go.Proofs.YtkaoechjekffmaaDoor
namespace Go.Proofs.YtkaoechjekffmaaDoor
open Go.ChangeShapes Go.WideShapes Go.ChangeAt Go.RowKit
attribute [local go_sem ↓] Go.wp_at_zero Go.wp_at_succ
theorem RdB.toRd {w : World} {B : Nat} {A : Option Addr} {n C : Nat} {vs : List Value} (h : RdB w B A n C vs) (h0 : 0 < C) : Rd w A n C vs := by
  obtain ⟨h1, h2⟩ := h
  refine ⟨h1, ?_⟩
  rcases h2 with h | ⟨b, off, e, _, hc⟩
  · left
    rw [h] at h1
    rcases Nat.eq_zero_or_pos n with h3 | h3
    · exact h3
    · have := Nat.mul_pos h3 h0
      simp at h1
      omega
  · exact Or.inr ⟨b, off, e, hc⟩
theorem set_f3 (es : List (List Value)) (k : Nat) (p0 p1 p2 p3 p4 u : Value) (h : es[k]? = some [p0, p1, p2, p3, p4]) (hC : ∀ x ∈ es, x.length = 5) : es.flatten.set (k * 5 + 3) u = (es.set k [p0, p1, p2, u, p4]).flatten := by
  have hs : ∀ (l : List Value) (i : Nat) (u : Value), l[i]? = some u → l.set i u = l := by
    intro l i u hu
    obtain ⟨hlt, he⟩ := List.getElem?_eq_some_iff.1 hu
    rw [← he]
    exact List.set_getElem_self hlt
  have g : ∀ j, j < 5 → es.flatten[k * 5 + j]? = ([p0, p1, p2, p3, p4] : List Value)[j]? := fun j hj => flat_at es hC k _ h j hj
  have h1 := set_five es k p0 p1 p2 p3 p4 p0 p1 p2 u p4 h hC
  have n0 := hs es.flatten (k * 5 + 0) p0 (g 0 (by decide))
  rw [n0] at h1
  have n1 := hs es.flatten (k * 5 + 1) p1 (g 1 (by decide))
  rw [n1] at h1
  have n2 := hs es.flatten (k * 5 + 2) p2 (g 2 (by decide))
  rw [n2] at h1
  have n4 : (es.flatten.set (k * 5 + 3) u).set (k * 5 + 4) p4 = es.flatten.set (k * 5 + 3) u := hs _ _ _ (by rw [List.getElem?_set_ne (by omega)]; exact g 4 (by decide))
  rw [n4] at h1
  exact h1
theorem set_f4 (es : List (List Value)) (k : Nat) (p0 p1 p2 p3 p4 u : Value) (h : es[k]? = some [p0, p1, p2, p3, p4]) (hC : ∀ x ∈ es, x.length = 5) : es.flatten.set (k * 5 + 4) u = (es.set k [p0, p1, p2, p3, u]).flatten := by
  have hs : ∀ (l : List Value) (i : Nat) (u : Value), l[i]? = some u → l.set i u = l := by
    intro l i u hu
    obtain ⟨hlt, he⟩ := List.getElem?_eq_some_iff.1 hu
    rw [← he]
    exact List.set_getElem_self hlt
  have g : ∀ j, j < 5 → es.flatten[k * 5 + j]? = ([p0, p1, p2, p3, p4] : List Value)[j]? := fun j hj => flat_at es hC k _ h j hj
  have h1 := set_five es k p0 p1 p2 p3 p4 p0 p1 p2 p3 u h hC
  have n0 := hs es.flatten (k * 5 + 0) p0 (g 0 (by decide))
  rw [n0] at h1
  have n1 := hs es.flatten (k * 5 + 1) p1 (g 1 (by decide))
  rw [n1] at h1
  have n2 := hs es.flatten (k * 5 + 2) p2 (g 2 (by decide))
  rw [n2] at h1
  have n3 := hs es.flatten (k * 5 + 3) p3 (g 3 (by decide))
  rw [n3] at h1
  exact h1
def ApV (u : Value) (f : List Value) : Prop := ∀ u' ∈ f, u.ownBlock = none ∨ u.ownBlock ≠ u'.ownBlock
theorem ApV.new_ {w w5 : World} {B b C k : Nat} {ty : TypeId} {m : Nt} {f : List Value} {v1 : Value} {xs : List Value} (h1 : w5.ownsRow B ty C v1 k xs) (hB : w.heap.size ≤ B) (hf : NtW w b m f) : ApV v1 f := by
  obtain ⟨vt, vs, rfl, q1, q2⟩ := hf
  intro u' hu'
  cases hc : v1.ownBlock with
  | none => exact Or.inl rfl
  | some g =>
    refine Or.inr (fun e => ?_)
    have h0 := (h1.lt g hc).1
    simp only [ntC, List.mem_cons, List.not_mem_nil, or_false] at hu'
    rcases hu' with rfl | rfl | rfl | rfl | rfl
    · cases e
    · cases e
    · cases e
    · have := (q1.lt g e.symm).2
      omega
    · have := (q2.lt g e.symm).2
      omega
theorem ApE.of_two {a c : Int} {x : ByteArray} {v1 v2 : Value} {f : List Value} (h1 : ApV v1 f) (h2 : ApV v2 f) : ApE [.int .i64 a, .int .i64 c, .string x, v1, v2] f := by
  intro u hu u' hu'
  simp only [List.mem_cons, List.not_mem_nil, or_false] at hu
  rcases hu with rfl | rfl | rfl | rfl | rfl
  · exact Or.inl rfl
  · exact Or.inl rfl
  · exact Or.inl rfl
  · exact h1 u' hu'
  · exact h2 u' hu'
structure HalfI (s : Sf) (vb : Value) (A : Option Addr) (cn : Nat) (w0 : World) (B0 : Nat) (k : Nat) (n : Nt) (As : Option Addr) (cs : Nat) (wr : World) : Prop where
  box : Blk wr B0 25 #[.int .i64 s.nb, .int .i64 s.nn, .int .i64 s.ns, vb, .slice A s.ts.length cn]
  res : Blk wr (B0 + 1) 25 #[.int .i64 0, .int .i64 0, .int .i64 0, .slice none 0 0, .slice none 0 0]
  ob : wr.ownsRow (B0 + 2) 61 2 vb s.bs.length (s.bs.map bkC).flatten
  sl : Sl wr B0 As (n.sh.map (Value.int .i64))
  es : ∃ (es : List (List Value)) (vt : Value), es.length = s.ts.length ∧ (∀ x ∈ es, x.length = 5) ∧ wr.ownsRow (B0 + 2) 49 5 (.slice A s.ts.length cn) s.ts.length es.flatten ∧ (∀ (j : Nat) (n : Nt) (e : List Value), j < k → s.ts[j]? = some n → es[j]? = some e → NtW wr (B0 + 2) n e) ∧ (es[k]? = some (ntC n vt (.slice As n.sh.length cs)) ∧ wr.ownsRow (B0 + 2) 9 1 vt n.tg.length (n.tg.map strV)) ∧ (∀ (j : Nat) (n : Nt) (e : List Value), k < j → s.ts[j]? = some n → es[j]? = some e → NtIn wr B0 n e) ∧ ApK k es ∧ (∀ (j : Nat) (f : List Value), j < k → es[j]? = some f → ApV vt f)
  be : Below B0 w0 wr
  sz : B0 + 2 ≤ wr.heap.size
theorem HalfI.below {s : Sf} {vb : Value} {A : Option Addr} {cn : Nat} {w0 wr wr' : World} {B0 k : Nat} {n : Nt} {As : Option Addr} {cs : Nat} (h : HalfI s vb A cn w0 B0 k n As cs wr) (hb : Below wr.heap.size wr wr') : HalfI s vb A cn w0 B0 k n As cs wr' := by
  obtain ⟨es, vt, h1, h2, h3, h4, ⟨h5, h6⟩, h7, h8, h9⟩ := h.es
  have hB := hb.mono (show B0 ≤ wr.heap.size by have := h.sz; omega)
  exact ⟨h.box.below hb h.box.lt, h.res.below hb h.res.lt, own_belowW h.ob hb, h.sl.below hB, ⟨es, vt, h1, h2, own_belowW h3 hb, fun j n e a b c => (h4 j n e a b c).below hb, ⟨h5, own_belowW h6 hb⟩, fun j n e a b c => (h7 j n e a b c).below hB, h8, h9⟩, h.be.trans hB, by have := hb.size; have := h.sz; omega⟩
theorem CloneI.half {s : Sf} {vb : Value} {gn cn : Nat} {w0 wr : World} {B0 k : Nat} (h : CloneI s vb (some ⟨gn, 0, none⟩) cn w0 B0 k wr) {n : Nt} (hn : s.ts[k]? = some n) (hgn : B0 + 2 ≤ gn) : ∃ At ct As cs, (wr.cell? ⟨gn, k * 5 + 3, none⟩ = some (.slice At n.tg.length ct) ∧ Sl wr B0 At (n.tg.map strV)) ∧ ∀ (w5 : World) (v1 : Value), Below wr.heap.size wr w5 → w5.ownsRow wr.heap.size 9 1 v1 n.tg.length (n.tg.map strV) → HalfI s vb (some ⟨gn, 0, none⟩) cn w0 B0 k n As cs (w5.setCell ⟨gn, k * 5 + 3, none⟩ v1) := by
  obtain ⟨hbox, hres, hob, ⟨es, hel, hC, hon, hnew, hold, hap⟩, hbe, hsz⟩ := h
  have hkl : k < es.length := by
    have := (List.getElem?_eq_some_iff.1 hn).1
    omega
  have hk := List.getElem?_eq_getElem hkl
  obtain ⟨At, ct, As, cs, he, hAt, hAs, _⟩ := (hold k n _ (Nat.le_refl _) hn hk).ex
  rw [he] at hk
  refine ⟨At, ct, As, cs, ⟨own_cellE hon hC hk (j := 3) rfl, hAt⟩, fun w5 v1 hb h1 => ?_⟩
  have hB := hb.mono (show B0 ≤ wr.heap.size by omega)
  have hon5 := own_belowW hon hb
  have q1 := (World.ownsRow.stored hon5 (k * 5 + 3) v1).1
  rw [set_f3 es k _ _ _ _ _ v1 hk hC] at q1
  have q2 := set1_grown w5 gn (k * 5 + 3) v1
  have hob5 := own_belowW hob hb
  have hbG : Below B0 w5 (w5.setCell ⟨gn, k * 5 + 3, none⟩ v1) := below_grown (Below.refl _ _) q2 (by omega) (by have := hb.size; omega)
  refine ⟨(hbox.below hb hbox.lt).grown q2 (by omega), (hres.below hb hres.lt).grown q2 (by omega), hob5.kept q2 (own_apart hob5 hon5 (by decide)), (hAs.below hB).below hbG, ⟨es.set k [.int .i64 n.id, .int .i64 n.bk, .string n.nm, v1, .slice As n.sh.length cs], v1, by rw [List.length_set]; exact hel, ?_, q1, ?_, ⟨by rw [List.getElem?_set, if_pos rfl, if_pos hkl]; rfl, ?_⟩, ?_, ?_, ?_⟩, (hbe.trans hB).trans hbG, by have := hb.size; have := q2.size; omega⟩
  · intro x hx
    rcases List.mem_or_eq_of_mem_set hx with h | rfl
    · exact hC x h
    · rfl
  · intro j m e hj hm hej
    rw [List.getElem?_set, if_neg (by omega)] at hej
    exact ((hnew j m e hj hm hej).below hb).kept hon5 q2 (by decide) (by decide)
  · have h2 := own_base h1 hsz
    exact h2.kept q2 (own_apart h2 hon5 (by decide))
  · intro j m e hj hm hej
    rw [List.getElem?_set, if_neg (by omega)] at hej
    exact ((hold j m e (by omega) hm hej).below hB).below hbG
  · intro i j e f hi hj hne he hf
    rw [List.getElem?_set, if_neg (by omega)] at he hf
    exact hap i j e f hi hj hne he hf
  · intro j f hj hf
    rw [List.getElem?_set, if_neg (by omega)] at hf
    have hjl : j < s.ts.length := by omega
    exact ApV.new_ h1 (Nat.le_refl _) (hnew j _ f hj (List.getElem?_eq_getElem hjl) hf)
theorem HalfI.whole {s : Sf} {vb : Value} {gn cn : Nat} {w0 wr : World} {B0 k : Nat} {n : Nt} {As : Option Addr} {cs : Nat} (h : HalfI s vb (some ⟨gn, 0, none⟩) cn w0 B0 k n As cs wr) (hn : s.ts[k]? = some n) (hgn : B0 + 2 ≤ gn) : wr.cell? ⟨gn, k * 5 + 4, none⟩ = some (.slice As n.sh.length cs) ∧ ∀ (w5 : World) (v2 : Value), Below wr.heap.size wr w5 → w5.ownsRow wr.heap.size 3 1 v2 n.sh.length (n.sh.map (Value.int .i64)) → CloneI s vb (some ⟨gn, 0, none⟩) cn w0 B0 (k + 1) (w5.setCell ⟨gn, k * 5 + 4, none⟩ v2) := by
  obtain ⟨hbox, hres, hob, hAs, ⟨es, vt, hel, hC, hon, hnew, ⟨hk, hvt⟩, hold, hap, hvap⟩, hbe, hsz⟩ := h
  have hkl : k < es.length := (List.getElem?_eq_some_iff.1 hk).1
  refine ⟨own_cellE hon hC hk (j := 4) rfl, fun w5 v2 hb h1 => ?_⟩
  have hB := hb.mono (show B0 ≤ wr.heap.size by omega)
  have hon5 := own_belowW hon hb
  have hvt5 := own_belowW hvt hb
  have q1 := (World.ownsRow.stored hon5 (k * 5 + 4) v2).1
  rw [set_f4 es k _ _ _ _ _ v2 hk hC] at q1
  have q2 := set1_grown w5 gn (k * 5 + 4) v2
  have hob5 := own_belowW hob hb
  have hbG : Below B0 w5 (w5.setCell ⟨gn, k * 5 + 4, none⟩ v2) := below_grown (Below.refl _ _) q2 (by omega) (by have := hb.size; omega)
  refine ⟨(hbox.below hb hbox.lt).grown q2 (by omega), (hres.below hb hres.lt).grown q2 (by omega), hob5.kept q2 (own_apart hob5 hon5 (by decide)), ⟨es.set k [.int .i64 n.id, .int .i64 n.bk, .string n.nm, vt, v2], by rw [List.length_set]; exact hel, ?_, q1, ?_, ?_, ?_⟩, (hbe.trans hB).trans hbG, by have := hb.size; have := q2.size; omega⟩
  · intro x hx
    rcases List.mem_or_eq_of_mem_set hx with h | rfl
    · exact hC x h
    · rfl
  · intro j m e hj hm hej
    rw [List.getElem?_set] at hej
    split at hej
    · rename_i hjk
      subst hjk
      rw [hn] at hm
      cases hm
      simp only [hkl, if_true, Option.some.injEq] at hej
      subst hej
      exact NtW.kept (w := w5) ⟨vt, v2, rfl, hvt5, own_base h1 hsz⟩ hon5 q2 (by decide) (by decide)
    · exact ((hnew j m e (by omega) hm hej).below hb).kept hon5 q2 (by decide) (by decide)
  · intro j m e hj hm hej
    rw [List.getElem?_set, if_neg (by omega)] at hej
    exact ((hold j m e (by omega) hm hej).below hB).below hbG
  · have hone : ∀ (j : Nat) (f : List Value), j < k → es[j]? = some f → ApE [.int .i64 n.id, .int .i64 n.bk, .string n.nm, vt, v2] f := fun j f hj hf =>
      ApE.of_two (hvap j f hj hf) (ApV.new_ h1 (Nat.le_refl _) (hnew j _ f hj (List.getElem?_eq_getElem (show j < s.ts.length by omega)) hf))
    intro i j e f hi hj hne he hf
    rw [List.getElem?_set] at he hf
    by_cases hik : k = i
    · subst hik
      rw [if_pos rfl, if_pos hkl] at he
      rw [if_neg hne] at hf
      cases he
      exact hone j f (by omega) hf
    · rw [if_neg hik] at he
      by_cases hjk : k = j
      · subst hjk
        rw [if_pos rfl, if_pos hkl] at hf
        cases hf
        exact (hone i e (by omega) he).symm
      · rw [if_neg hjk] at hf
        exact hap i j e f (by omega) (by omega) hne he hf
theorem rcopy_ap (s : Sf) (v : Value) (w : World) (hS : ShR w w.heap.size v s) (hlb : s.bs.length ≤ 100000) (hln : s.ts.length ≤ 100000) (hlr : ∀ n ∈ s.ts, n.tg.length ≤ 100000 ∧ n.sh.length ≤ 100000) :
    Calls Tryd.prog 10 #[v] w fun e' w' => ∃ v', e' = .returned v' ∧ ShA w' w.heap.size v' s ∧ Below w.heap.size w w' := by
  obtain ⟨Ab, cb, An, cn, rfl, hB, hN, hcb, hmb, hcn, hmn⟩ := hS.ex
  clear hS
  obtain ⟨es, hel, hse, hnt⟩ := hN.ex
  have HB : Below w.heap.size w ((w.alloc (.cells #[.int .i64 s.nb, .int .i64 s.nn, .int .i64 s.ns, .slice Ab s.bs.length cb, .slice An s.ts.length cn] 25)).alloc (.cells #[.int .i64 0, .int .i64 0, .int .i64 0, .slice none 0 0, .slice none 0 0] 25)) := (((Below.refl w.heap.size w).alloc (by first | (simp; done) | (simp; omega)) _).alloc (by first | (simp; done) | (simp; omega)) _)
  have B1 : Blk ((w.alloc (.cells #[.int .i64 s.nb, .int .i64 s.nn, .int .i64 s.ns, .slice Ab s.bs.length cb, .slice An s.ts.length cn] 25)).alloc (.cells #[.int .i64 0, .int .i64 0, .int .i64 0, .slice none 0 0, .slice none 0 0] 25)) w.heap.size 25 #[.int .i64 s.nb, .int .i64 s.nn, .int .i64 s.ns, .slice Ab s.bs.length cb, .slice An s.ts.length cn] := (Blk.new_ w 25 #[.int .i64 s.nb, .int .i64 s.nn, .int .i64 s.ns, .slice Ab s.bs.length cb, .slice An s.ts.length cn]).alloc_ (.cells #[.int .i64 0, .int .i64 0, .int .i64 0, .slice none 0 0, .slice none 0 0] 25)
  have B2 : Blk ((w.alloc (.cells #[.int .i64 s.nb, .int .i64 s.nn, .int .i64 s.ns, .slice Ab s.bs.length cb, .slice An s.ts.length cn] 25)).alloc (.cells #[.int .i64 0, .int .i64 0, .int .i64 0, .slice none 0 0, .slice none 0 0] 25)) (w.heap.size + 1) 25 #[.int .i64 0, .int .i64 0, .int .i64 0, .slice none 0 0, .slice none 0 0] := by
    have := Blk.new_ (w.alloc (.cells #[.int .i64 s.nb, .int .i64 s.nn, .int .i64 s.ns, .slice Ab s.bs.length cb, .slice An s.ts.length cn] 25)) 25 #[.int .i64 0, .int .i64 0, .int .i64 0, .slice none 0 0, .slice none 0 0]
    simpa using this
  have hs : ((w.alloc (.cells #[.int .i64 s.nb, .int .i64 s.nn, .int .i64 s.ns, .slice Ab s.bs.length cb, .slice An s.ts.length cn] 25)).alloc (.cells #[.int .i64 0, .int .i64 0, .int .i64 0, .slice none 0 0, .slice none 0 0] 25)).heap.size = w.heap.size + 2 := by simp
  go_enter Tryd.func10, Tryd.ntmps10
  go_upto_region 1 with fail
  obtain ⟨W, hW⟩ : ∃ V : World, V = ((w.alloc (.cells #[.int .i64 s.nb, .int .i64 s.nn, .int .i64 s.ns, .slice Ab s.bs.length cb, .slice An s.ts.length cn] 25)).alloc (.cells #[.int .i64 0, .int .i64 0, .int .i64 0, .slice none 0 0, .slice none 0 0] 25)) := ⟨_, rfl⟩
  rw [← hW] at HB B1 B2 hs ⊢
  clear hW
  have R1 : RdB W W.heap.size Ab s.bs.length 2 (s.bs.map bkC).flatten := rdB_slE ((SlE.below hB HB).mono HB.size) (bkC_two _) (by rw [List.length_map])
  have hC0 : ∀ x ∈ es, x.length = 5 := by
    intro x hx
    obtain ⟨k, hk, rfl⟩ := List.mem_iff_getElem.1 hx
    obtain ⟨_, _, _, _, e, _⟩ := (hnt k _ _ (List.getElem?_eq_getElem (by omega)) (List.getElem?_eq_getElem hk)).ex
    rw [e]
    rfl
  have o1 : ∀ u ∈ (s.bs.map bkC).flatten, u.oneCell' = true := by
    intro u hu
    obtain ⟨x, hx, hu⟩ := List.mem_flatten.1 hu
    obtain ⟨b, _, rfl⟩ := List.mem_map.1 hx
    simp [bkC] at hu
    rcases hu with rfl | rfl <;> rfl
  have o2 : ∀ u ∈ es.flatten, u.oneCell' = true := by
    intro u hu
    obtain ⟨x, hx, hu⟩ := List.mem_flatten.1 hu
    obtain ⟨k, hk, rfl⟩ := List.mem_iff_getElem.1 hx
    obtain ⟨_, _, _, _, e, _⟩ := (hnt k _ _ (List.getElem?_eq_getElem (by omega)) (List.getElem?_eq_getElem hk)).ex
    rw [e] at hu
    simp [ntC] at hu
    rcases hu with rfl | rfl | rfl | rfl | rfl <;> rfl
  have k3 := B1.cell_ 3
  have f3 := B1.free 3
  simp at k3
  go_upto_region 2 with (at_builtin; obtain ⟨ti0, hi, hz0, hz1, hz2⟩ := info_parts info_clBk; refine wpList_app _ rfl (.const (.slice none 0 0)) (.tmp 5) _ rfl W.heap.size 61 ti0 _ 2 24 Tryd.underlying22 hi hz0 hz1 hz2 rfl (by decide) (.slice none 0 0) 0 [] rfl (World.ownsRow_nil _ _ _ _) Ab s.bs.length cb (s.bs.map bkC).flatten rfl (R1.toRd (by decide)) o1 (by unfold maxLen; omega) (by omega) (Nat.le_refl _) ?_; intro v' w3 ho' hg' hv'; clear hi hz0 hz1 hz2 hv'; rw [Nat.zero_add, List.nil_append] at ho'; have b3 : Below W.heap.size W w3 := (Below.refl _ _).grown hg' (Nat.le_refl _) (fun j hj => by simp [Value.ownBlock] at hj); clear hg'; obtain ⟨A3, c3, rfl, hc3, hm3⟩ := own_shape ho'; have ho1 := ho'; clear ho'; (have B1 := B1.below b3 B1.lt); (have B2 := B2.below b3 B2.lt); (have HB := btr HB HB.size b3); (have k3' := B1.cell_ 3); (have f3' := B1.free 3); simp at k3')
  have B1s := B1.set_ 3 (.slice A3 s.bs.length c3)
  have B2s := B2.far (p := ⟨w.heap.size, 3, none⟩) (by show w.heap.size + 1 ≠ w.heap.size; omega) (.slice A3 s.bs.length c3)
  have ho1s := own_far (p := ⟨w.heap.size, 3, none⟩) ho1 (by show w.heap.size < W.heap.size; omega) (.slice A3 s.bs.length c3)
  have HBs := HB.setCell (p := ⟨w.heap.size, 3, none⟩) (Nat.le_refl _) (.slice A3 s.bs.length c3)
  have hz3 : w.heap.size + 2 ≤ w3.heap.size := by have := b3.size; omega
  clear B1 B2 ho1 HB
  obtain ⟨Wb, hWb⟩ : ∃ V : World, V = w3.setCell ⟨w.heap.size, 3, none⟩ (.slice A3 s.bs.length c3) := ⟨_, rfl⟩
  have hzb : Wb.heap.size = w3.heap.size := by rw [hWb]; simp [World.setCell]
  rw [← hWb] at B1s B2s ho1s HBs ⊢
  clear hWb k3' f3' o1 R1
  simp at B1s
  have R2 : RdB Wb Wb.heap.size An s.ts.length 5 es.flatten := rdB_slE ((SlE.below hse HBs).mono HBs.size) hC0 hel
  have k4 := B1s.cell_ 4
  have f4 := B1s.free 4
  simp at k4
  go_upto_region 3 with (at_builtin; obtain ⟨ti0, hi, hz0, hz1, hz2⟩ := info_parts info_clNt; refine wpList_app _ rfl (.const (.slice none 0 0)) (.tmp 9) _ rfl Wb.heap.size 49 ti0 _ 5 80 Tryd.underlying23 hi hz0 hz1 hz2 rfl (by decide) (.slice none 0 0) 0 [] rfl (World.ownsRow_nil _ _ _ _) An s.ts.length cn es.flatten rfl (R2.toRd (by decide)) o2 (by unfold maxLen; omega) (by omega) (Nat.le_refl _) ?_; intro v' w5 ho' hg' hv'; clear hi hz0 hz1 hz2 hv'; rw [Nat.zero_add, List.nil_append] at ho'; have b5 : Below Wb.heap.size Wb w5 := (Below.refl _ _).grown hg' (Nat.le_refl _) (fun j hj => by simp [Value.ownBlock] at hj); clear hg'; obtain ⟨A5, c5, rfl, hc5, hm5⟩ := own_shape ho'; have ho2 := ho'; clear ho'; (have B1s := B1s.below b5 B1s.lt); (have B2s := B2s.below b5 B2s.lt); (have HBs := btr HBs HBs.size b5); (have ho1s := own_belowW ho1s b5); (have k4' := B1s.cell_ 4); (have f4' := B1s.free 4); simp at k4')
  have B1t := B1s.set_ 4 (.slice A5 s.ts.length c5)
  have B2t := B2s.far (p := ⟨w.heap.size, 4, none⟩) (by show w.heap.size + 1 ≠ w.heap.size; omega) (.slice A5 s.ts.length c5)
  have ho1t := own_far (p := ⟨w.heap.size, 4, none⟩) ho1s (by show w.heap.size < W.heap.size; omega) (.slice A5 s.ts.length c5)
  have ho2t := own_far (p := ⟨w.heap.size, 4, none⟩) ho2 (by show w.heap.size < Wb.heap.size; omega) (.slice A5 s.ts.length c5)
  have HBt := HBs.setCell (p := ⟨w.heap.size, 4, none⟩) (Nat.le_refl _) (.slice A5 s.ts.length c5)
  have hz5 : w.heap.size + 2 ≤ w5.heap.size := by have := b5.size; omega
  clear B1s B2s ho1s ho2 HBs
  obtain ⟨Wc, hWc⟩ : ∃ V : World, V = w5.setCell ⟨w.heap.size, 4, none⟩ (.slice A5 s.ts.length c5) := ⟨_, rfl⟩
  have hzc : Wc.heap.size = w5.heap.size := by rw [hWc]; simp [World.setCell]
  rw [← hWc] at B1t B2t ho1t ho2t HBt ⊢
  clear hWc k4' f4' o2 R2
  simp at B1t
  replace ho1t := own_base ho1t (show w.heap.size + 2 ≤ W.heap.size by omega)
  replace ho2t := own_base ho2t (show w.heap.size + 2 ≤ Wb.heap.size by omega)
  have hB0 : ∃ gn, A5 = some ⟨gn, 0, none⟩ ∧ w.heap.size + 2 ≤ gn ∨ s.ts.length = 0 := by
    rcases ho2t.2 with ⟨h, h0⟩ | ⟨g, c, cu, h, hb, _⟩
    · exact ⟨0, Or.inr h0⟩
    · injection h with h1 h2 h3
      exact ⟨g, Or.inl ⟨h1, hb⟩⟩
  obtain ⟨m, hm⟩ : ∃ m, s.ts.length = m := ⟨_, rfl⟩
  have HM := Lib.hid hm
  have HI0 : CloneI s (.slice A3 s.bs.length c3) A5 c5 w w.heap.size 0 Wc := ⟨B1t, B2t, ho1t, ⟨es, hel, hC0, ho2t, fun j n e hj => absurd hj (Nat.not_lt_zero _), fun j n e _ a b => (hnt j n e a b).below HBt, fun i j e f hi => absurd hi (Nat.not_lt_zero _)⟩, HBt, by omega⟩
  have hlr' := Lib.hid hlr
  have hgn := Lib.hid hB0
  have k4 := B1t.cell_ 4
  simp at k4
  clear B1t B2t ho1t ho2t HBt hlr hB0 hnt hse hC0 hel hB hN
  rw [hm] at k4
  clear hm
  go_wp2_with fail
  go_loopw [3] (fun i wr => ∃ k : Nat, k ≤ m ∧ i = .int .i64 k ∧ CloneI s (.slice A3 s.bs.length c3) A5 c5 w w.heap.size k wr) (fun i _ => m - (intOf i).toNat)
  case atStart => exact ⟨0, by omega, rfl, HI0⟩
  case round =>
    obtain ⟨k, hk, rfl, HI⟩ := hrel
    clear HI0 k4
    by_cases hlt : k < m
    · have hlx : k < s.ts.length := by have := HM.out; omega
      have i0 : (0 : Int) ≤ (k : Int) := by omega
      have i1 : (k : Int) < (m : Int) := by omega
      obtain ⟨gn, hg⟩ := hgn.out
      obtain ⟨rfl, hgw⟩ := hg.resolve_right (by omega)
      clear hg
      obtain ⟨n, hn⟩ : ∃ n, s.ts[k]? = some n := ⟨_, List.getElem?_eq_getElem hlx⟩
      have HN := Lib.hid hn
      clear hn
      have kb := HI.box.cell_ 4
      simp at kb
      rw [HM.out] at kb
      have kb' : wr.drew.cell? ⟨w.heap.size, 4, none⟩ = some (.slice (some ⟨gn, 0, none⟩) m c5) := kb
      obtain ⟨es, -, -, hon, -⟩ := HI.es
      obtain ⟨At, ct, As, cs, ⟨ycell, hAt⟩, hmk⟩ := HI.half HN.out hgw
      have ycd : wr.drew.cell? ⟨gn, k * 5 + 3, none⟩ = some (.slice At n.tg.length ct) := ycell
      have hAt2 : Sl wr.drew wr.drew.heap.size At (n.tg.map strV) := (hAt.below ((below_dr wr).mono HI.be.size)).mono_ HI.be.size
      have o1 : ∀ u ∈ n.tg.map strV, u.oneCell' = true := fun u hu => by obtain ⟨x, _, rfl⟩ := List.mem_map.1 hu; rfl
      have o2 : ∀ u ∈ n.sh.map (Value.int .i64), u.oneCell' = true := fun u hu => by obtain ⟨x, _, rfl⟩ := List.mem_map.1 hu; rfl
      have hr := hlr'.out n (List.mem_of_getElem? HN.out)
      have hr1 := hr.1
      have hr2 := hr.2
      clear hr hAt
      go_upto_region 6 with fail
      refine wp_region_noPanic ?_
      refine wp_region_held_drew (S := (fun w_ => w_.cell? ⟨w.heap.size, 4, none⟩ = some (.slice (some ⟨gn, 0, none⟩) m c5))) (by kernel_rfl) ?_ (fun hHeld => ?_)
      · (first | with_reducible assumption | exact kbH | exact kbJ)
      refine tk 0 ?_; try simp only [Act.put, pz1, pz2, pz3]
      refine tk 1 ?_; try simp only [Act.put, pz1, pz2, pz3]
      refine tk 2 ?_; try simp only [Act.put, pz1, pz2, pz3]
      refine tk 3 ?_; try simp only [Act.put, pz1, pz2, pz3]
      refine tk 4 ?_; try simp only [Act.put, pz1, pz2, pz3]
      refine tk 5 ?_; try simp only [Act.put, pz1, pz2, pz3]
      refine tk 6 ?_; try simp only [Act.put, pz1, pz2, pz3]
      refine tk 7 ?_; try simp only [Act.put, pz1, pz2, pz3]
      refine wpAnyH_ready (rs := [8]) (by kernel_rfl) (by simp) ?_
      refine AllReadyH.cons (o := ⟨some 27, .load 46 (.tmp 26), 46, "ref.go:113", #[⟨7, .data⟩], none⟩) rfl (fun K hK => ?_) AllReadyH.nil
      go_simp
      refine hK.out _ _ ?_ (fun hNew => ?_)
      · (first | with_reducible assumption | exact kbH | exact kbJ)
      clear hK K hHeld
      have hHeld := hNew
      clear hNew
      try simp only [Act.put, pz1, pz2, pz3]
      refine wpAnyH_ready (rs := [9]) (by kernel_rfl) (by simp) ?_
      refine AllReadyH.cons (o := ⟨some 28, .call { callee := .builtin .append, args := #[.const (.slice none 0 0), .tmp 27], argTypes := #[46, 46] }, 46, "ref.go:113", #[⟨8, .data⟩], none⟩) rfl (fun K hK => ?_) AllReadyH.nil
      obtain ⟨ti0, hi, hz0, hz1, hz2⟩ := info_parts info_clStr
      refine step_app _ rfl (.const (.slice none 0 0)) (.tmp 27) _ rfl wr.drew.heap.size 9 ti0 _ 1 16 Tryd.underlying46 hi hz0 hz1 hz2 rfl (by decide) (.slice none 0 0) 0 [] rfl (World.ownsRow_nil _ _ _ _) At n.tg.length ct (n.tg.map strV) rfl (Rd.of_sl hAt2 (by rw [List.length_map])) o1 (by unfold maxLen; omega) (by omega) (Nat.le_refl _) ?_
      intro v9 w9 ho9 hg9 hv9
      clear hi hz0 hz1 hz2 hv9
      rw [Nat.zero_add, List.nil_append] at ho9
      have b9 : Below wr.heap.size wr w9 := btr (below_dr wr) (below_dr wr).size ((Below.refl _ _).grown hg9 (Nat.le_refl _) (fun j hj => by simp [Value.ownBlock] at hj))
      clear hg9
      obtain ⟨A9, c9, rfl, -, -⟩ := own_shape ho9
      have HH := hmk w9 _ b9 ho9
      have kb9 : w9.cell? ⟨w.heap.size, 4, none⟩ = some (.slice (some ⟨gn, 0, none⟩) m c5) := (b9.cell (p := ⟨w.heap.size, 4, none⟩) HI.box.lt).trans kb
      have kbH : (w9.setCell ⟨gn, k * 5 + 3, none⟩ (.slice A9 n.tg.length c9)).cell? ⟨w.heap.size, 4, none⟩ = some (.slice (some ⟨gn, 0, none⟩) s.ts.length c5) := HH.box.cell_ 4
      rw [HM.out] at kbH
      have z3 := World.ownsRow.frozenAt (own_belowW hon b9) (k * 5 + 3)
      have x3 := (b9.cell (p := ⟨gn, k * 5 + 3, none⟩) (World.ownsRow.lt hon gn rfl).2).trans ycell
      refine hK.out _ _ ?_ (fun hNew => ?_)
      · (first | with_reducible assumption | exact kbH | exact kbJ)
      clear hK K hHeld
      have hHeld := hNew
      clear hNew
      try simp only [Act.put, pz1, pz2, pz3]
      refine tk 10 ?_; try simp only [Act.put, pz1, pz2, pz3]
      refine tk 11 ?_; try simp only [Act.put, pz1, pz2, pz3]
      refine wpAnyH_ready (rs := [12]) (by kernel_rfl) (by simp) ?_
      refine AllReadyH.cons (o := ⟨none, .store 46 (.tmp 30) (.tmp 28), 0, "ref.go:113", #[⟨11, .data⟩, ⟨9, .data⟩, ⟨9, .chain⟩, ⟨0, .phase⟩, ⟨1, .phase⟩, ⟨2, .phase⟩, ⟨3, .phase⟩, ⟨4, .phase⟩, ⟨5, .phase⟩, ⟨6, .phase⟩, ⟨7, .phase⟩, ⟨8, .phase⟩, ⟨9, .phase⟩], none⟩) rfl (fun K hK => ?_) AllReadyH.nil
      go_simp
      refine hK.out _ _ ?_ (fun hNew => ?_)
      · (first | with_reducible assumption | exact kbH | exact kbJ)
      clear hK K hHeld
      have hHeld := hNew
      clear hNew
      try simp only [Act.put, pz1, pz2, pz3]
      refine wpAnyH_done (by kernel_rfl) ?_ _
      refine NoPanic.normal ?_
      go_upto_region 7 with fail
      obtain ⟨wh, hwh⟩ : ∃ V : World, V = w9.setCell ⟨gn, k * 5 + 3, none⟩ (.slice A9 n.tg.length c9) := ⟨_, rfl⟩
      rw [← hwh] at HH kbH ⊢
      clear hwh kb kb' kb9 z3 x3 ycell ycd hmk hHeld ho9 hon HI b9
      have kb2 := kbH
      have kb2' : wh.drew.cell? ⟨w.heap.size, 4, none⟩ = some (.slice (some ⟨gn, 0, none⟩) m c5) := kb2
      clear kbH
      obtain ⟨ycell2, hmk2⟩ := HH.whole HN.out hgw
      have ycd2 : wh.drew.cell? ⟨gn, k * 5 + 4, none⟩ = some (.slice As n.sh.length cs) := ycell2
      obtain ⟨es2, vt2, -, -, hon2, -, -, -⟩ := HH.es
      have hAs2 : Sl wh.drew wh.drew.heap.size As (n.sh.map (Value.int .i64)) := (HH.sl.below ((below_dr wh).mono HH.be.size)).mono_ HH.be.size
      refine wp_region_noPanic ?_
      refine wp_region_held_drew (S := (fun w_ => w_.cell? ⟨w.heap.size, 4, none⟩ = some (.slice (some ⟨gn, 0, none⟩) m c5))) (by kernel_rfl) ?_ (fun hHeld => ?_)
      · (first | with_reducible assumption | exact kbH | exact kbJ)
      refine tk 0 ?_; try simp only [Act.put, pz1, pz2, pz3]
      refine tk 1 ?_; try simp only [Act.put, pz1, pz2, pz3]
      refine tk 2 ?_; try simp only [Act.put, pz1, pz2, pz3]
      refine tk 3 ?_; try simp only [Act.put, pz1, pz2, pz3]
      refine tk 4 ?_; try simp only [Act.put, pz1, pz2, pz3]
      refine tk 5 ?_; try simp only [Act.put, pz1, pz2, pz3]
      refine tk 6 ?_; try simp only [Act.put, pz1, pz2, pz3]
      refine tk 7 ?_; try simp only [Act.put, pz1, pz2, pz3]
      refine wpAnyH_ready (rs := [8]) (by kernel_rfl) (by simp) ?_
      refine AllReadyH.cons (o := ⟨some 39, .load 47 (.tmp 38), 47, "ref.go:114", #[⟨7, .data⟩], none⟩) rfl (fun K hK => ?_) AllReadyH.nil
      go_simp
      refine hK.out _ _ ?_ (fun hNew => ?_)
      · (first | with_reducible assumption | exact kbH | exact kbJ)
      clear hK K hHeld
      have hHeld := hNew
      clear hNew
      try simp only [Act.put, pz1, pz2, pz3]
      refine wpAnyH_ready (rs := [9]) (by kernel_rfl) (by simp) ?_
      refine AllReadyH.cons (o := ⟨some 40, .call { callee := .builtin .append, args := #[.const (.slice none 0 0), .tmp 39], argTypes := #[47, 47] }, 47, "ref.go:114", #[⟨8, .data⟩], none⟩) rfl (fun K hK => ?_) AllReadyH.nil
      obtain ⟨ti0, hi, hz0, hz1, hz2⟩ := info_parts info_clInt
      refine step_app _ rfl (.const (.slice none 0 0)) (.tmp 39) _ rfl wh.drew.heap.size 3 ti0 _ 1 8 Tryd.underlying47 hi hz0 hz1 hz2 rfl (by decide) (.slice none 0 0) 0 [] rfl (World.ownsRow_nil _ _ _ _) As n.sh.length cs (n.sh.map (Value.int .i64)) rfl (Rd.of_sl hAs2 (by rw [List.length_map])) o2 (by unfold maxLen; omega) (by omega) (Nat.le_refl _) ?_
      intro v8 w8 ho9 hg9 hv9
      clear hi hz0 hz1 hz2 hv9
      rw [Nat.zero_add, List.nil_append] at ho9
      have b8 : Below wh.heap.size wh w8 := btr (below_dr wh) (below_dr wh).size ((Below.refl _ _).grown hg9 (Nat.le_refl _) (fun j hj => by simp [Value.ownBlock] at hj))
      clear hg9
      obtain ⟨A8, c8, rfl, -, -⟩ := own_shape ho9
      have HJ := hmk2 w8 _ b8 ho9
      have kb8 : w8.cell? ⟨w.heap.size, 4, none⟩ = some (.slice (some ⟨gn, 0, none⟩) m c5) := (b8.cell (p := ⟨w.heap.size, 4, none⟩) HH.box.lt).trans kb2
      have kbJ : (w8.setCell ⟨gn, k * 5 + 4, none⟩ (.slice A8 n.sh.length c8)).cell? ⟨w.heap.size, 4, none⟩ = some (.slice (some ⟨gn, 0, none⟩) s.ts.length c5) := HJ.box.cell_ 4
      rw [HM.out] at kbJ
      have z4 := World.ownsRow.frozenAt (own_belowW hon2 b8) (k * 5 + 4)
      have x4 := (b8.cell (p := ⟨gn, k * 5 + 4, none⟩) (World.ownsRow.lt hon2 gn rfl).2).trans ycell2
      refine hK.out _ _ ?_ (fun hNew => ?_)
      · (first | with_reducible assumption | exact kbH | exact kbJ)
      clear hK K hHeld
      have hHeld := hNew
      clear hNew
      try simp only [Act.put, pz1, pz2, pz3]
      refine tk 10 ?_; try simp only [Act.put, pz1, pz2, pz3]
      refine tk 11 ?_; try simp only [Act.put, pz1, pz2, pz3]
      refine wpAnyH_ready (rs := [12]) (by kernel_rfl) (by simp) ?_
      refine AllReadyH.cons (o := ⟨none, .store 47 (.tmp 42) (.tmp 40), 0, "ref.go:114", #[⟨11, .data⟩, ⟨9, .data⟩, ⟨9, .chain⟩, ⟨0, .phase⟩, ⟨1, .phase⟩, ⟨2, .phase⟩, ⟨3, .phase⟩, ⟨4, .phase⟩, ⟨5, .phase⟩, ⟨6, .phase⟩, ⟨7, .phase⟩, ⟨8, .phase⟩, ⟨9, .phase⟩], none⟩) rfl (fun K hK => ?_) AllReadyH.nil
      go_simp
      refine hK.out _ _ ?_ (fun hNew => ?_)
      · (first | with_reducible assumption | exact kbH | exact kbJ)
      clear hK K hHeld
      have hHeld := hNew
      clear hNew
      try simp only [Act.put, pz1, pz2, pz3]
      refine wpAnyH_done (by kernel_rfl) ?_ _
      refine NoPanic.normal ?_
      go_wp2_with fail
      go_roundw
      case rel => exact ⟨k + 1, by omega, by go_num, HJ⟩
      case measure => simp [intOf]; omega
    · have hjn : k = m := by omega
      subst hjn
      clear hlt
      obtain ⟨es, hel, hC, hon, hnew, -, hap⟩ := HI.es
      have p0 := HI.box.cell_ 0
      have p1 := HI.box.cell_ 1
      have p2 := HI.box.cell_ 2
      have p3 := HI.box.cell_ 3
      have p4 := HI.box.cell_ 4
      simp at p0 p1 p2 p3 p4
      have t0 := HI.res.free 0
      have t1 := HI.res.free 1
      have t2 := HI.res.free 2
      have t3 := HI.res.free 3
      have t4 := HI.res.free 4
      have r0 := HI.res.cell_ 0
      have r1 := HI.res.cell_ 1
      have r2 := HI.res.cell_ 2
      have r3 := HI.res.cell_ 3
      have r4 := HI.res.cell_ 4
      simp at r0 r1 r2 r3 r4
      obtain ⟨hbe, hsz, hob, hres⟩ : Below w.heap.size w wr ∧ w.heap.size + 2 ≤ wr.heap.size ∧ wr.ownsRow (w.heap.size + 2) 61 2 (.slice A3 s.bs.length c3) s.bs.length (s.bs.map bkC).flatten ∧ Blk wr (w.heap.size + 1) 25 #[.int .i64 0, .int .i64 0, .int .i64 0, .slice none 0 0, .slice none 0 0] := ⟨HI.be, HI.sz, HI.ob, HI.res⟩
      rw [HM.out] at p4
      clear HI
      go_wp2_with fail
      have B2u := (Blk.set_ (Blk.set_ (Blk.set_ (Blk.set_ (Blk.set_ hres 0 (.int .i64 s.nb)) 1 (.int .i64 s.nn)) 2 (.int .i64 s.ns)) 3 (.slice A3 s.bs.length c3)) 4 (.slice A5 k c5))
      simp at B2u
      have hG : wr.grownBy (st5 wr (w.heap.size + 1) 0 (.int .i64 s.nb) (.int .i64 s.nn) (.int .i64 s.ns) (.slice A3 s.bs.length c3) (.slice A5 k c5)) (some (w.heap.size + 1)) := grown_set (grown_set (grown_set (grown_set (grown_set (World.grownBy.refl wr _) _ _) _ _) _ _) _ _) _ _
      have hb2 := below_grown hbe hG (by omega) hbe.size
      have hob2 := hob.kept hG (own_off hob (by omega))
      have hon2 := hon.kept hG (own_off hon (by omega))
      have hnew2 : ∀ (j : Nat) (n : Nt) (e : List Value), s.ts[j]? = some n → es[j]? = some e → NtW (st5 wr (w.heap.size + 1) 0 (.int .i64 s.nb) (.int .i64 s.nn) (.int .i64 s.ns) (.slice A3 s.bs.length c3) (.slice A5 k c5)) (w.heap.size + 2) n e := by
        intro j n e a b
        obtain ⟨vt, vs, r, q1, q2⟩ := hnew j n e (by rw [← HM.out]; exact (List.getElem?_eq_some_iff.1 a).1) a b
        exact ⟨vt, vs, r, q1.kept hG (own_off q1 (by omega)), q2.kept hG (own_off q2 (by omega))⟩
      change bodyPost _ _ _ _ _ (st5 wr (w.heap.size + 1) 0 (.int .i64 s.nb) (.int .i64 s.nn) (.int .i64 s.ns) (.slice A3 s.bs.length c3) (.slice A5 k c5))
      change Blk (st5 wr (w.heap.size + 1) 0 (.int .i64 s.nb) (.int .i64 s.nn) (.int .i64 s.ns) (.slice A3 s.bs.length c3) (.slice A5 k c5)) _ _ _ at B2u
      generalize st5 wr (w.heap.size + 1) 0 (.int .i64 s.nb) (.int .i64 s.nn) (.int .i64 s.ns) (.slice A3 s.bs.length c3) (.slice A5 k c5) = Wd at B2u hb2 hob2 hon2 hnew2 ⊢
      have s0 := B2u.cell_ 0
      have s1 := B2u.cell_ 1
      have s2 := B2u.cell_ 2
      have s3 := B2u.cell_ 3
      have s4 := B2u.cell_ 4
      simp at s0 s1 s2 s3 s4
      apply bodyPost_ret (v := .agg #[.int .i64 s.nb, .int .i64 s.nn, .int .i64 s.ns, .slice A3 s.bs.length c3, .slice A5 k c5]) 
      · exact results_cell_row Tryd.results10 _ Wd (w.heap.size + 1) 25 #[.int .i64 s.nb, .int .i64 s.nn, .int .i64 s.ns, .slice A3 s.bs.length c3, .slice A5 k c5] (0, 0) _ rfl B2u Tryd.underlying25 rfl (by kernel_rfl)
      · rfl
      · rw [HM.out] at hon2
        exact ⟨_, rfl, ⟨_, _, rfl, own_base hob2 (by omega), es, hel, by rw [HM.out]; exact own_base hon2 (by omega), fun j n e a b => by
          obtain ⟨vt, vs, r, q1, q2⟩ := hnew2 j n e a b
          exact ⟨vt, vs, r, own_base q1 (by omega), own_base q2 (by omega)⟩, fun i j e f hne a b => hap i j e f (by have := (List.getElem?_eq_some_iff.1 a).1; have := HM.out; omega) (by have := (List.getElem?_eq_some_iff.1 b).1; have := HM.out; omega) hne a b⟩, hb2⟩
end Go.Proofs.YtkaoechjekffmaaDoor
namespace Go.Proofs.YtkaoechjekffmaaDoor
open Go.ChangeShapes Go.WideShapes Go.ChangeAt Go.RowKit
attribute [local go_sem ↓] Go.wp_at_zero Go.wp_at_succ
theorem rSheets_any (s : Sf) (v : Value) (w : World) (hS : ShR w w.heap.size v s) (hln : s.ts.length ≤ 100000) (hlL : (s.ts.flatMap Nt.sh).length ≤ 100000) :
    Calls Tryd.prog 91 #[v] w fun e' w' => ∃ A c, e' = .returned (.slice A (s.ts.flatMap Nt.sh).length c) ∧ Sl w' w'.heap.size A ((s.ts.flatMap Nt.sh).map (Value.int .i64)) ∧ (s.ts.flatMap Nt.sh).length ≤ c ∧ c ≤ maxLen ∧ Below w.heap.size w w' := by
  have hS0 := hS
  obtain ⟨Ab, cb, An, cn, rfl, hB, hN, hcb, hmb, hcn, hmn⟩ := hS.ex
  clear hS
  have HB : Below w.heap.size w (w.alloc (.cells #[.int .i64 s.nb, .int .i64 s.nn, .int .i64 s.ns, .slice Ab s.bs.length cb, .slice An s.ts.length cn] 25)) := ((Below.refl w.heap.size w).alloc (by first | (simp; done) | (simp; omega)) _)
  have B1 : Blk (w.alloc (.cells #[.int .i64 s.nb, .int .i64 s.nn, .int .i64 s.ns, .slice Ab s.bs.length cb, .slice An s.ts.length cn] 25)) w.heap.size 25 #[.int .i64 s.nb, .int .i64 s.nn, .int .i64 s.ns, .slice Ab s.bs.length cb, .slice An s.ts.length cn] := Blk.new_ w 25 #[.int .i64 s.nb, .int .i64 s.nn, .int .i64 s.ns, .slice Ab s.bs.length cb, .slice An s.ts.length cn]
  obtain ⟨es, hel, hse, hnt⟩ := hN.ex
  obtain ⟨n, hn⟩ : ∃ n, s.ts.length = n := ⟨_, rfl⟩
  have HN := Lib.hid hn
  clear hn
  obtain ⟨W, hW⟩ : ∃ V : World, V = (w.alloc (.cells #[.int .i64 s.nb, .int .i64 s.nn, .int .i64 s.ns, .slice Ab s.bs.length cb, .slice An s.ts.length cn] 25)) := ⟨_, rfl⟩
  have hlw : w.heap.size < W.heap.size := by rw [hW]; simp
  have HLL := Lib.hid hlL
  go_enter Tryd.func91, Tryd.ntmps91
  go_upto_region 1 with fail
  rw [← hW] at HB B1 ⊢
  clear hW hS0 hB
  have k4 := B1.cell_ 4
  simp at k4
  rw [HN.out] at k4 hln
  go_wp2_with fail
  go_loopw [3, 4] (fun sv iv wr => ∃ k : Nat, k ≤ n ∧ iv = .int .i64 k ∧ Hid (wr.ownsRow W.heap.size 3 1 sv ((s.ts.take k).flatMap Nt.sh).length (((s.ts.take k).flatMap Nt.sh).map (Value.int .i64))) ∧ Below w.heap.size w wr ∧ wr.cell? ⟨w.heap.size, 4, none⟩ = some (.slice An n cn) ∧ W.heap.size ≤ wr.heap.size) (fun _ iv _ => n - (intOf iv).toNat)
  case atStart => exact ⟨0, by omega, rfl, Lib.hid (World.ownsRow_nil _ _ _ _), HB, k4, Nat.le_refl _⟩
  case round =>
    clear k4 HB B1
    obtain ⟨k, hk, rfl, HR, HBr, k4, hsz⟩ := hrel
    by_cases hlt : k < n
    · have hlx : k < s.ts.length := by have := HN.out; omega
      have i0 : (0 : Int) ≤ (k : Int) := by omega
      have i1 : (k : Int) < (n : Int) := by omega
      obtain ⟨y, hx⟩ : ∃ y, s.ts[k]? = some y := ⟨_, List.getElem?_eq_getElem hlx⟩
      obtain ⟨e0, he⟩ : ∃ e, es[k]? = some e := ⟨_, List.getElem?_eq_getElem (by have := HN.out; omega)⟩
      obtain ⟨At, ct, As, cs, rfl, hAt, hAs, -⟩ := (hnt k y e0 hx he).ex
      obtain ⟨b1, o1, rfl, l1, q1⟩ := hse.at_ (by have := HN.out; omega)
      have y4 : wr.cell? ⟨b1, o1 + k * 5 + 4, none⟩ = some (.slice As y.sh.length cs) := (HBr.cell (p := ⟨b1, _, none⟩) l1).trans (q1 k _ he 4 _ rfl)
      obtain ⟨L, hL⟩ : ∃ L, (s.ts.take k).flatMap Nt.sh = L := ⟨_, rfl⟩
      have hLn : (s.ts.take (k + 1)).flatMap Nt.sh = L ++ y.sh := by rw [List.take_add_one, hx, List.flatMap_append, hL]; simp
      have hsub : (L ++ y.sh).length ≤ 100000 := by
        rw [← hLn]
        exact Nat.le_trans (flat_sub (List.take_sublist _ _)).length_le HLL.out
      rw [List.length_append] at hsub
      rw [hL] at HR
      have hon := HR.out
      have hAs2 := (hAs.below HBr).mono_ HBr.size
      have o2 : ∀ u ∈ y.sh.map (Value.int .i64), u.oneCell' = true := fun u hu => by obtain ⟨x, _, rfl⟩ := List.mem_map.1 hu; rfl
      have HLN := Lib.hid hLn
      have hrow := World.ownsRow.lt hon
      have HROW := Lib.hid hrow
      clear hx he q1 hL hLn hlx HR hrow hAs hAt
      go_wp2_with (at_builtin; obtain ⟨ti0, hi, hz0, hz1, hz2⟩ := info_parts info_clInt; refine wpList_app _ rfl (.tmp 12) (.tmp 18) _ rfl W.heap.size 3 ti0 _ 1 8 Tryd.underlying47 hi hz0 hz1 hz2 rfl (by decide) _ L.length (L.map (Value.int .i64)) rfl hon As y.sh.length cs (y.sh.map (Value.int .i64)) rfl (Rd.of_sl hAs2 (by rw [List.length_map])) o2 (by unfold maxLen; omega) (by omega) hsz ?_; intro v' w' ho' hg' hv'; clear hi hz0 hz1 hz2 hv')
      have hk4 := hg'.cell k4 (fun h => by have h2 : W.heap.size ≤ w.heap.size ∧ w.heap.size < wr.heap.size := HROW.out _ h.symm; omega)
      have HF : Below w.heap.size w w' := HBr.grown hg' HBr.size (fun g h => by have := HROW.out g h; omega)
      have hsz2 := Nat.le_trans hsz hg'.size
      have HR2 : Hid (w'.ownsRow W.heap.size 3 1 v' ((s.ts.take (k + 1)).flatMap Nt.sh).length (((s.ts.take (k + 1)).flatMap Nt.sh).map (Value.int .i64))) := Lib.hid (by rw [HLN.out, List.length_append, List.map_append]; exact ho')
      clear ho' hg' hon y4 HROW hAs2
      go_roundw
      case rel => exact ⟨k + 1, by omega, by go_num, HR2, HF, hk4, hsz2⟩
      case measure => simp [intOf]; omega
    · have hjn : k = n := by omega
      subst hjn
      have hfull : (s.ts.take k).flatMap Nt.sh = s.ts.flatMap Nt.sh := by rw [List.take_of_length_le (by rw [HN.out]; exact Nat.le_refl _)]
      rw [hfull] at HR
      obtain ⟨A9, c9, rfl, h9, h10⟩ := own_shape HR.out
      go_wp2_with fail
      go_ret
      exact ⟨A9, c9, rfl, Sl.of_own HR.out, h9, h10, HBr⟩
theorem leq_not {p c : ByteArray} (h : lessS p c = false) : (Op.bytesLess c.toList p.toList || c.toList == p.toList) = true := by
  cases h1 : Op.bytesLess c.toList p.toList
  · have h2 : ¬ Lib.compareBytes c.data.toList p.data.toList < 0 := by
      rw [cmp_less, ByteArray.toList_eq, ByteArray.toList_eq] at h1
      exact of_decide_eq_false h1
    have h3 : ¬ Lib.compareBytes p.data.toList c.data.toList < 0 := by
      unfold lessS at h
      rw [cmp_less, ByteArray.toList_eq, ByteArray.toList_eq] at h
      exact of_decide_eq_false h
    rw [ByteArray.toList_eq, ByteArray.toList_eq, cmp_tri _ _ h2 h3]
    simp
  · rfl
def tgOk (l : List ByteArray) (k : Nat) : Bool := match l[k]? with
  | some t => mayN t && (match k with
    | 0 => true
    | j + 1 => match l[j]? with
      | some p => lessS p t
      | none => true)
  | none => true
theorem lt_not {p c : ByteArray} (h : lessS p c = true) : Op.bytesLess c.toList p.toList = false ∧ (c.toList == p.toList) = false := by
  constructor
  · cases h2 : Op.bytesLess c.toList p.toList
    · rfl
    · unfold lessS at h
      rw [cmp_less] at h h2
      exact absurd (cmpB_trans _ _ _ (of_decide_eq_true h) (of_decide_eq_true h2)) (by rw [cmpB_refl]; decide)
  · rw [beq_eq_false_iff_ne]
    intro he
    unfold lessS at h
    rw [he, less_irr] at h
    cases h
theorem rtags_any (l : List ByteArray) (A : Option Addr) (cp : Nat) (w : World) (hS : Sl w w.heap.size A (l.map strV)) (hsz : ∀ t ∈ l, t.size ≤ 100000) (hl : l.length ≤ 100000) (T : Bool) (hB : mayTg l = T) :
    Calls Tryd.prog 90 #[.slice A l.length cp] w fun e' w' => e' = .returned (.bool T) ∧ Below w.heap.size w w' := by
  obtain ⟨n, hn⟩ : ∃ n, l.length = n := ⟨_, rfl⟩
  rw [hn] at hl ⊢
  unfold mayTg at hB
  rw [hn] at hB
  have HB0 : Below w.heap.size w w := Below.refl _ _
  have HN := Lib.hid hn
  have HSZ := Lib.hid hsz
  clear hn hsz
  by_cases h4 : n ≤ 4
  · rw [decide_eq_true h4, Bool.true_and] at hB
    have HTG : Hid (tagsFrom (prevT l 0) (l.drop 0) = T) := Lib.hid (by rw [List.drop_zero]; exact hB)
    have g4 : (n : Int) ≤ 4 := by omega
    clear hB
    go_enter Tryd.func90, Tryd.ntmps90
    go_wp2_with fail
    go_loopw [3] (fun i wr => ∃ k : Nat, k ≤ n ∧ i = .int .i64 k ∧ Hid (tagsFrom (prevT l k) (l.drop k) = T) ∧ Below w.heap.size w wr) (fun i _ => n - (intOf i).toNat)
    case atStart => exact ⟨0, by omega, rfl, HTG, HB0⟩
    case round =>
      clear HB0 HTG
      obtain ⟨k, hk, rfl, HK, HBr⟩ := hrel
      by_cases hlt : k < n
      · have hlx : k < l.length := by have := HN.out; omega
        obtain ⟨b1, o1, rfl, l1, q1⟩ := hS.at_ (by rw [List.length_map]; omega)
        obtain ⟨t, ht0⟩ : ∃ t, l[k]? = some t := ⟨_, List.getElem?_eq_getElem hlx⟩
        have cx : wr.cell? ⟨b1, o1 + k, none⟩ = some (.string t) := (HBr.cell (p := ⟨b1, o1 + k, none⟩) l1).trans (q1 k (.string t) (by rw [List.getElem?_map, ht0]; rfl))
        have ht := HSZ.out t (List.mem_of_getElem? ht0)
        have i0 : (0 : Int) ≤ (k : Int) := by omega
        have i1 : (k : Int) < (n : Int) := by omega
        have HT0 := Lib.hid ht0
        have HQ1 := Lib.hid q1
        obtain ⟨N, hN⟩ : ∃ N, mayN t = N := ⟨_, rfl⟩
        have HNM : Hid (nameB t.data.toList = N) := Lib.hid hN
        clear ht0 q1 hlx
        rcases (by omega : k = 0 ∨ 0 < k) with hk0 | hk0
        · have HST : Hid (T = (N && tagsFrom (prevT l (k + 1)) (l.drop (k + 1)))) := Lib.hid (by
            have h1 := HK.out
            have h2 := HT0.out
            subst hk0
            rw [tags_first h2, hN] at h1
            exact h1.symm)
          have hdk : decide (0 < k) = false := decide_eq_false (by omega)
          have QD : wr.drew.cell? ⟨b1, o1 + k, none⟩ = some (.string t) := drew_cell cx
          clear hk0 hN
          go_upto_region 4 with fail
          cases N
          · have HTT : Hid (T = false) := Lib.hid HST.out
            refine wp_region_noPanic ?_
            refine wp_region_held_drew (S := (fun w_ => w_.cell? ⟨b1, o1 + k, none⟩ = some (.string t))) (by kernel_rfl) ?_ (fun hHeld => ?_)
            · (first | with_reducible exact QD | with_reducible assumption)
            refine tk 0 ?_; try simp only [Act.put, pz1, pz2, pz3]
            refine tk 1 ?_; try simp only [Act.put, pz1, pz2, pz3]
            refine tk 2 ?_; try simp only [Act.put, pz1, pz2, pz3]
            refine tk 3 ?_; try simp only [Act.put, pz1, pz2, pz3]
            refine wpAnyH_ready (rs := [4]) (by kernel_rfl) (by simp) ?_
            refine AllReadyH.cons (o := ⟨some 19, .call { callee := .value (.func 55), args := #[.tmp 18], argTypes := #[9] }, 4, "ref.go:31", #[⟨3, .data⟩], none⟩) rfl (fun K hK => ?_) AllReadyH.nil
            go_simp
            (go_at_call 55; ((with_reducible refine (rmay_any3 t _ _ ht HNM.out).mono ?_); rintro e' wN ⟨rfl, rfl⟩))
            go_wp2_with fail
            refine hK.out _ _ ?_ (fun hNew => ?_)
            · (first | with_reducible exact QD | with_reducible assumption)
            clear hK K hHeld
            have hHeld := hNew
            clear hNew
            try simp only [Act.put, pz1, pz2, pz3]
            refine tk 5 ?_; try simp only [Act.put, pz1, pz2, pz3]
            refine tk 6 ?_; try simp only [Act.put, pz1, pz2, pz3]
            refine tu 7 ?_
            try simp only [Act.put, pz1, pz2, pz3]
            refine tu 8 ?_
            try simp only [Act.put, pz1, pz2, pz3]
            refine tu 9 ?_
            try simp only [Act.put, pz1, pz2, pz3]
            refine tu 10 ?_
            try simp only [Act.put, pz1, pz2, pz3]
            refine tu 11 ?_
            try simp only [Act.put, pz1, pz2, pz3]
            refine tu 12 ?_
            try simp only [Act.put, pz1, pz2, pz3]
            refine tu 13 ?_
            try simp only [Act.put, pz1, pz2, pz3]
            refine tu 14 ?_
            try simp only [Act.put, pz1, pz2, pz3]
            refine tu 15 ?_
            try simp only [Act.put, pz1, pz2, pz3]
            refine tu 16 ?_
            try simp only [Act.put, pz1, pz2, pz3]
            refine tu 17 ?_
            try simp only [Act.put, pz1, pz2, pz3]
            refine tu 18 ?_
            try simp only [Act.put, pz1, pz2, pz3]
            refine tu 19 ?_
            try simp only [Act.put, pz1, pz2, pz3]
            refine tu 20 ?_
            try simp only [Act.put, pz1, pz2, pz3]
            refine tk 21 ?_; try simp only [Act.put, pz1, pz2, pz3]
            refine wpAnyH_done (by kernel_rfl) ?_ _
            refine NoPanic.normal ?_
            go_wp2_with fail
            go_ret
            exact ⟨by rw [HTT.out]; rfl, (by first | exact HBr | exact drew_below HBr)⟩
          · have HNX : Hid (tagsFrom (prevT l (k + 1)) (l.drop (k + 1)) = T) := Lib.hid (by have := HST.out; rw [Bool.true_and] at this; exact this.symm)
            refine wp_region_noPanic ?_
            refine wp_region_held_drew (S := (fun w_ => w_.cell? ⟨b1, o1 + k, none⟩ = some (.string t))) (by kernel_rfl) ?_ (fun hHeld => ?_)
            · (first | with_reducible exact QD | with_reducible assumption)
            refine tk 0 ?_; try simp only [Act.put, pz1, pz2, pz3]
            refine tk 1 ?_; try simp only [Act.put, pz1, pz2, pz3]
            refine tk 2 ?_; try simp only [Act.put, pz1, pz2, pz3]
            refine tk 3 ?_; try simp only [Act.put, pz1, pz2, pz3]
            refine wpAnyH_ready (rs := [4]) (by kernel_rfl) (by simp) ?_
            refine AllReadyH.cons (o := ⟨some 19, .call { callee := .value (.func 55), args := #[.tmp 18], argTypes := #[9] }, 4, "ref.go:31", #[⟨3, .data⟩], none⟩) rfl (fun K hK => ?_) AllReadyH.nil
            go_simp
            (go_at_call 55; ((with_reducible refine (rmay_any3 t _ _ ht HNM.out).mono ?_); rintro e' wN ⟨rfl, rfl⟩))
            go_wp2_with fail
            refine hK.out _ _ ?_ (fun hNew => ?_)
            · (first | with_reducible exact QD | with_reducible assumption)
            clear hK K hHeld
            have hHeld := hNew
            clear hNew
            try simp only [Act.put, pz1, pz2, pz3]
            refine tk 5 ?_; try simp only [Act.put, pz1, pz2, pz3]
            refine tk 6 ?_; try simp only [Act.put, pz1, pz2, pz3]
            refine tk 7 ?_; try simp only [Act.put, pz1, pz2, pz3]
            refine tk 8 ?_; try simp only [Act.put, pz1, pz2, pz3]
            refine tk 9 ?_; try simp only [Act.put, pz1, pz2, pz3]
            refine tu 10 ?_
            try simp only [Act.put, pz1, pz2, pz3]
            refine tu 11 ?_
            try simp only [Act.put, pz1, pz2, pz3]
            refine tu 12 ?_
            try simp only [Act.put, pz1, pz2, pz3]
            refine tu 13 ?_
            try simp only [Act.put, pz1, pz2, pz3]
            refine tu 14 ?_
            try simp only [Act.put, pz1, pz2, pz3]
            refine tu 15 ?_
            try simp only [Act.put, pz1, pz2, pz3]
            refine tu 16 ?_
            try simp only [Act.put, pz1, pz2, pz3]
            refine tu 17 ?_
            try simp only [Act.put, pz1, pz2, pz3]
            refine tu 18 ?_
            try simp only [Act.put, pz1, pz2, pz3]
            refine tu 19 ?_
            try simp only [Act.put, pz1, pz2, pz3]
            refine tk 20 ?_; try simp only [Act.put, pz1, pz2, pz3]
            refine tk 21 ?_; try simp only [Act.put, pz1, pz2, pz3]
            refine wpAnyH_done (by kernel_rfl) ?_ _
            refine NoPanic.normal ?_
            go_wp2_with fail
            go_roundw
            case rel => exact ⟨k + 1, by omega, by go_num, HNX, (by first | exact HBr | exact drew_below HBr)⟩
            case measure => simp [intOf]; omega
        · obtain ⟨j, hj⟩ : ∃ j, k = j + 1 := ⟨k - 1, by omega⟩
          obtain ⟨p, hp0⟩ : ∃ p, l[j]? = some p := ⟨_, List.getElem?_eq_getElem (by have := HN.out; omega)⟩
          have cy : wr.cell? ⟨b1, o1 + j, none⟩ = some (.string p) := (HBr.cell (p := ⟨b1, o1 + j, none⟩) l1).trans (HQ1.out j (.string p) (by rw [List.getElem?_map, hp0]; rfl))
          obtain ⟨LS, hLS⟩ : ∃ b, lessS p t = b := ⟨_, rfl⟩
          have HST : Hid (T = (N && (LS && tagsFrom (prevT l (k + 1)) (l.drop (k + 1))))) := Lib.hid (by
            have h1 := HK.out
            have h2 := HT0.out
            subst hj
            rw [tags_next h2 hp0, hN, hLS] at h1
            exact h1.symm)
          have j00 : (0 : Int) ≤ (j : Int) := by omega
          have j01 : (j : Int) < (n : Int) := by omega
          have jsub : (k : Int) - 1 = (j : Int) := by omega
          have jwr : IntKind.i64.wrap (j : Int) = (j : Int) := wrapS _ (by omega) (by omega)
          have QD : wr.drew.cell? ⟨b1, o1 + k, none⟩ = some (.string t) ∧ wr.drew.cell? ⟨b1, o1 + j, none⟩ = some (.string p) := ⟨drew_cell cx, drew_cell cy⟩
          clear hj hp0 hN
          go_upto_region 4 with fail
          cases N
          · have HTT : Hid (T = false) := Lib.hid HST.out
            refine wp_region_noPanic ?_
            refine wp_region_held_drew (S := (fun w_ => w_.cell? ⟨b1, o1 + k, none⟩ = some (.string t) ∧ w_.cell? ⟨b1, o1 + j, none⟩ = some (.string p))) (by kernel_rfl) ?_ (fun hHeld => ?_)
            · (first | with_reducible exact QD | with_reducible assumption)
            refine tk 0 ?_; try simp only [Act.put, pz1, pz2, pz3]
            refine tk 1 ?_; try simp only [Act.put, pz1, pz2, pz3]
            refine tk 2 ?_; try simp only [Act.put, pz1, pz2, pz3]
            refine tk 3 ?_; try simp only [Act.put, pz1, pz2, pz3]
            refine wpAnyH_ready (rs := [4]) (by kernel_rfl) (by simp) ?_
            refine AllReadyH.cons (o := ⟨some 19, .call { callee := .value (.func 55), args := #[.tmp 18], argTypes := #[9] }, 4, "ref.go:31", #[⟨3, .data⟩], none⟩) rfl (fun K hK => ?_) AllReadyH.nil
            go_simp
            (go_at_call 55; ((with_reducible refine (rmay_any3 t _ _ ht HNM.out).mono ?_); rintro e' wN ⟨rfl, rfl⟩))
            go_wp2_with fail
            refine hK.out _ _ ?_ (fun hNew => ?_)
            · (first | with_reducible exact QD | with_reducible assumption)
            clear hK K hHeld
            have hHeld := hNew
            clear hNew
            try simp only [Act.put, pz1, pz2, pz3]
            refine tk 5 ?_; try simp only [Act.put, pz1, pz2, pz3]
            refine tk 6 ?_; try simp only [Act.put, pz1, pz2, pz3]
            refine tu 7 ?_
            try simp only [Act.put, pz1, pz2, pz3]
            refine tu 8 ?_
            try simp only [Act.put, pz1, pz2, pz3]
            refine tu 9 ?_
            try simp only [Act.put, pz1, pz2, pz3]
            refine tu 10 ?_
            try simp only [Act.put, pz1, pz2, pz3]
            refine tu 11 ?_
            try simp only [Act.put, pz1, pz2, pz3]
            refine tu 12 ?_
            try simp only [Act.put, pz1, pz2, pz3]
            refine tu 13 ?_
            try simp only [Act.put, pz1, pz2, pz3]
            refine tu 14 ?_
            try simp only [Act.put, pz1, pz2, pz3]
            refine tu 15 ?_
            try simp only [Act.put, pz1, pz2, pz3]
            refine tu 16 ?_
            try simp only [Act.put, pz1, pz2, pz3]
            refine tu 17 ?_
            try simp only [Act.put, pz1, pz2, pz3]
            refine tu 18 ?_
            try simp only [Act.put, pz1, pz2, pz3]
            refine tu 19 ?_
            try simp only [Act.put, pz1, pz2, pz3]
            refine tu 20 ?_
            try simp only [Act.put, pz1, pz2, pz3]
            refine tk 21 ?_; try simp only [Act.put, pz1, pz2, pz3]
            refine wpAnyH_done (by kernel_rfl) ?_ _
            refine NoPanic.normal ?_
            go_wp2_with fail
            go_ret
            exact ⟨by rw [HTT.out]; rfl, (by first | exact HBr | exact drew_below HBr)⟩
          · cases LS
            · have HTT : Hid (T = false) := Lib.hid HST.out
              have hle := leq_not hLS
              clear hLS
              refine wp_region_noPanic ?_
              refine wp_region_held_drew (S := (fun w_ => w_.cell? ⟨b1, o1 + k, none⟩ = some (.string t) ∧ w_.cell? ⟨b1, o1 + j, none⟩ = some (.string p))) (by kernel_rfl) ?_ (fun hHeld => ?_)
              · (first | with_reducible exact QD | with_reducible assumption)
              refine tk 0 ?_; try simp only [Act.put, pz1, pz2, pz3]
              refine tk 1 ?_; try simp only [Act.put, pz1, pz2, pz3]
              refine tk 2 ?_; try simp only [Act.put, pz1, pz2, pz3]
              refine tk 3 ?_; try simp only [Act.put, pz1, pz2, pz3]
              refine wpAnyH_ready (rs := [4]) (by kernel_rfl) (by simp) ?_
              refine AllReadyH.cons (o := ⟨some 19, .call { callee := .value (.func 55), args := #[.tmp 18], argTypes := #[9] }, 4, "ref.go:31", #[⟨3, .data⟩], none⟩) rfl (fun K hK => ?_) AllReadyH.nil
              go_simp
              (go_at_call 55; ((with_reducible refine (rmay_any3 t _ _ ht HNM.out).mono ?_); rintro e' wN ⟨rfl, rfl⟩))
              go_wp2_with fail
              refine hK.out _ _ ?_ (fun hNew => ?_)
              · (first | with_reducible exact QD | with_reducible assumption)
              clear hK K hHeld
              have hHeld := hNew
              clear hNew
              try simp only [Act.put, pz1, pz2, pz3]
              refine tk 5 ?_; try simp only [Act.put, pz1, pz2, pz3]
              refine tk 6 ?_; try simp only [Act.put, pz1, pz2, pz3]
              refine tk 7 ?_; try simp only [Act.put, pz1, pz2, pz3]
              refine tk 8 ?_; try simp only [Act.put, pz1, pz2, pz3]
              refine tk 9 ?_; try simp only [Act.put, pz1, pz2, pz3]
              refine tk 10 ?_; try simp only [Act.put, pz1, pz2, pz3]
              refine tk 11 ?_; try simp only [Act.put, pz1, pz2, pz3]
              refine tk 12 ?_; try simp only [Act.put, pz1, pz2, pz3]
              refine tk 13 ?_; try simp only [Act.put, pz1, pz2, pz3]
              refine tk 14 ?_; try simp only [Act.put, pz1, pz2, pz3]
              refine tk 15 ?_; try simp only [Act.put, pz1, pz2, pz3]
              refine tk 16 ?_; try simp only [Act.put, pz1, pz2, pz3]
              refine tk 17 ?_; try simp only [Act.put, pz1, pz2, pz3]
              refine tk 18 ?_; try simp only [Act.put, pz1, pz2, pz3]
              refine tk 19 ?_; try simp only [Act.put, pz1, pz2, pz3]
              refine tk 20 ?_; try simp only [Act.put, pz1, pz2, pz3]
              refine tk 21 ?_; try simp only [Act.put, pz1, pz2, pz3]
              refine wpAnyH_done (by kernel_rfl) ?_ _
              refine NoPanic.normal ?_
              go_wp2_with fail
              go_ret
              exact ⟨by rw [HTT.out]; rfl, (by first | exact HBr | exact drew_below HBr)⟩
            · have hle := lt_not hLS
              have hA := hle.1
              have hE := hle.2
              clear hLS hle
              have HNX : Hid (tagsFrom (prevT l (k + 1)) (l.drop (k + 1)) = T) := Lib.hid (by have := HST.out; rw [Bool.true_and, Bool.true_and] at this; exact this.symm)
              refine wp_region_noPanic ?_
              refine wp_region_held_drew (S := (fun w_ => w_.cell? ⟨b1, o1 + k, none⟩ = some (.string t) ∧ w_.cell? ⟨b1, o1 + j, none⟩ = some (.string p))) (by kernel_rfl) ?_ (fun hHeld => ?_)
              · (first | with_reducible exact QD | with_reducible assumption)
              refine tk 0 ?_; try simp only [Act.put, pz1, pz2, pz3]
              refine tk 1 ?_; try simp only [Act.put, pz1, pz2, pz3]
              refine tk 2 ?_; try simp only [Act.put, pz1, pz2, pz3]
              refine tk 3 ?_; try simp only [Act.put, pz1, pz2, pz3]
              refine wpAnyH_ready (rs := [4]) (by kernel_rfl) (by simp) ?_
              refine AllReadyH.cons (o := ⟨some 19, .call { callee := .value (.func 55), args := #[.tmp 18], argTypes := #[9] }, 4, "ref.go:31", #[⟨3, .data⟩], none⟩) rfl (fun K hK => ?_) AllReadyH.nil
              go_simp
              (go_at_call 55; ((with_reducible refine (rmay_any3 t _ _ ht HNM.out).mono ?_); rintro e' wN ⟨rfl, rfl⟩))
              go_wp2_with fail
              refine hK.out _ _ ?_ (fun hNew => ?_)
              · (first | with_reducible exact QD | with_reducible assumption)
              clear hK K hHeld
              have hHeld := hNew
              clear hNew
              try simp only [Act.put, pz1, pz2, pz3]
              refine tk 5 ?_; try simp only [Act.put, pz1, pz2, pz3]
              refine tk 6 ?_; try simp only [Act.put, pz1, pz2, pz3]
              refine tk 7 ?_; try simp only [Act.put, pz1, pz2, pz3]
              refine tk 8 ?_; try simp only [Act.put, pz1, pz2, pz3]
              refine tk 9 ?_; try simp only [Act.put, pz1, pz2, pz3]
              refine tk 10 ?_; try simp only [Act.put, pz1, pz2, pz3]
              refine tk 11 ?_; try simp only [Act.put, pz1, pz2, pz3]
              refine tk 12 ?_; try simp only [Act.put, pz1, pz2, pz3]
              refine tk 13 ?_; try simp only [Act.put, pz1, pz2, pz3]
              refine tk 14 ?_; try simp only [Act.put, pz1, pz2, pz3]
              refine tk 15 ?_; try simp only [Act.put, pz1, pz2, pz3]
              refine tk 16 ?_; try simp only [Act.put, pz1, pz2, pz3]
              refine tk 17 ?_; try simp only [Act.put, pz1, pz2, pz3]
              refine tk 18 ?_; try simp only [Act.put, pz1, pz2, pz3]
              refine tk 19 ?_; try simp only [Act.put, pz1, pz2, pz3]
              refine tk 20 ?_; try simp only [Act.put, pz1, pz2, pz3]
              refine tk 21 ?_; try simp only [Act.put, pz1, pz2, pz3]
              refine wpAnyH_done (by kernel_rfl) ?_ _
              refine NoPanic.normal ?_
              go_wp2_with fail
              go_roundw
              case rel => exact ⟨k + 1, by omega, by go_num, HNX, (by first | exact HBr | exact drew_below HBr)⟩
              case measure => simp [intOf]; omega
      · have hjn : k = n := by omega
        subst hjn
        have HTT : Hid (T = true) := Lib.hid (by have := HK.out; rw [← HN.out, tags_end] at this; exact this.symm)
        go_wp2_with fail
        go_ret
        exact ⟨by rw [HTT.out]; rfl, HBr⟩
  · have g4 : ¬ (n : Int) ≤ 4 := by omega
    have HTT : Hid (T = false) := Lib.hid (by rw [← hB, decide_eq_false h4]; rfl)
    clear hB h4
    go_enter Tryd.func90, Tryd.ntmps90
    go_wp2_with fail
    go_loop [3] (fun i => i = .int .i64 0) (fun i => 0)
    case atStart => rfl
    case round =>
      obtain rfl := hrel
      rcases Nat.eq_zero_or_pos n with h0 | h0
      · omega
      · have g0 : (0 : Int) < (n : Int) := by omega
        go_wp2_with fail
        go_ret
        exact ⟨by rw [HTT.out]; show Ending.returned (.bool (decide ((n : Int) ≤ 4))) = _; rw [decide_eq_false (by omega)], HB0⟩
end Go.Proofs.YtkaoechjekffmaaDoor
namespace Go.Proofs.YtkaoechjekffmaaDoor
open Go.ChangeShapes Go.WideShapes Go.ChangeAt Go.RowKit
attribute [local go_sem ↓] Go.wp_at_zero Go.wp_at_succ
theorem shIn_step {ns : Int} {L : List Int} {i : Nat} {x : Int} (h : L[i]? = some x) : sheetsIn ns (L.take i).reverse (L.drop i) = (inI x 1 (ns - 1) && (!(L.take i).any (fun y => y == x) && sheetsIn ns (L.take (i + 1)).reverse (L.drop (i + 1)))) := by
  have h1 : (L.take (i + 1)).reverse = x :: (L.take i).reverse := by rw [List.take_add_one, h]; simp
  have h2 : (L.take i).reverse.contains x = (L.take i).any (fun y => y == x) := by
    rw [Bool.eq_iff_iff, List.contains_iff_mem, List.mem_reverse, List.any_eq_true]
    constructor
    · intro hx
      exact ⟨x, hx, by simp⟩
    · rintro ⟨y, hy, he⟩
      have : y = x := by simpa using he
      exact this ▸ hy
  rw [drop_next h, h1, ← h2]
  rfl
theorem shIn_end {ns : Int} {L : List Int} {q : List Int} : sheetsIn ns q (L.drop L.length) = true := by
  rw [List.drop_length]
  rfl
def rshB (s : Sf) : Bool := inI s.ns 1 4096 && sheetsIn s.ns [] (s.ts.flatMap Nt.sh)
theorem rsheets_any (s : Sf) (v : Value) (w : World) (hS : ShR w w.heap.size v s) (hln : s.ts.length ≤ 100000) (hlL : (s.ts.flatMap Nt.sh).length ≤ 100000) (T : Bool) (hB0 : rshB s = T) :
    Calls Tryd.prog 78 #[v] w fun e' w' => e' = .returned (.bool T) ∧ Below w.heap.size w w' := by
  have hS0 := hS
  obtain ⟨Ab, cb, An, cn, rfl, hB, hN, hcb, hmb, hcn, hmn⟩ := hS.ex
  clear hS
  have HB : Below w.heap.size w (w.alloc (.cells #[.int .i64 s.nb, .int .i64 s.nn, .int .i64 s.ns, .slice Ab s.bs.length cb, .slice An s.ts.length cn] 25)) := ((Below.refl w.heap.size w).alloc (by first | (simp; done) | (simp; omega)) _)
  have B1 : Blk (w.alloc (.cells #[.int .i64 s.nb, .int .i64 s.nn, .int .i64 s.ns, .slice Ab s.bs.length cb, .slice An s.ts.length cn] 25)) w.heap.size 25 #[.int .i64 s.nb, .int .i64 s.nn, .int .i64 s.ns, .slice Ab s.bs.length cb, .slice An s.ts.length cn] := Blk.new_ w 25 #[.int .i64 s.nb, .int .i64 s.nn, .int .i64 s.ns, .slice Ab s.bs.length cb, .slice An s.ts.length cn]
  have S1 : ShR (w.alloc (.cells #[.int .i64 s.nb, .int .i64 s.nn, .int .i64 s.ns, .slice Ab s.bs.length cb, .slice An s.ts.length cn] 25)) ((w.alloc (.cells #[.int .i64 s.nb, .int .i64 s.nn, .int .i64 s.ns, .slice Ab s.bs.length cb, .slice An s.ts.length cn] 25))).heap.size (.agg #[.int .i64 s.nb, .int .i64 s.nn, .int .i64 s.ns, .slice Ab s.bs.length cb, .slice An s.ts.length cn]) s := hS0.next HB
  have HTB := Lib.hid hB0
  clear hB hN hcb hmb hcn hmn hS0 hB0
  by_cases c1 : s.ns < 1
  · have HTT : Hid (T = false) := Lib.hid (by rw [← HTB.out]; unfold rshB inI; rw [decide_eq_false (by omega : ¬ 1 ≤ s.ns)]; rfl)
    go_enter Tryd.func78, Tryd.ntmps78
    go_wp2_with fail
    go_ret
    exact ⟨by rw [HTT.out]; rfl, HB⟩
  · by_cases c2 : 4096 < s.ns
    · have HTT : Hid (T = false) := Lib.hid (by rw [← HTB.out]; unfold rshB inI; rw [decide_eq_false (by omega : ¬ s.ns ≤ 4096)]; simp)
      go_enter Tryd.func78, Tryd.ntmps78
      go_wp2_with fail
      go_ret
      exact ⟨by rw [HTT.out]; rfl, HB⟩
    · obtain ⟨L, hL⟩ : ∃ L, s.ts.flatMap Nt.sh = L := ⟨_, rfl⟩
      have HT0 : Hid (sheetsIn s.ns (L.take 0).reverse (L.drop 0) = T) := Lib.hid (by rw [← HTB.out, ← hL]; unfold rshB inI; rw [decide_eq_true (by omega : 1 ≤ s.ns), decide_eq_true (by omega : s.ns ≤ 4096)]; simp)
      have hcall := rSheets_any s _ _ S1 hln hlL
      rw [hL] at hcall hlL
      obtain ⟨n, hn⟩ : ∃ n, L.length = n := ⟨_, rfl⟩
      rw [hn] at hcall hlL
      have HN := Lib.hid hn
      have HC := Lib.hid hcall
      clear hL hn hcall S1 HTB
      go_enter Tryd.func78, Tryd.ntmps78
      go_upto_region 4 with (go_at_call 91; ((with_reducible refine HC.out.mono ?_); rintro e' w3 ⟨A, c, rfl, hrow, hlc, hcm, b3⟩; have B1 := B1.below b3 B1.lt; have HB := btr HB HB.size b3; clear b3))
      clear HC hlc hcm
      go_wp2_with fail
      go_loopw [4] (fun iv wr => ∃ i : Nat, i ≤ n ∧ iv = .int .i64 i ∧ Hid (sheetsIn s.ns (L.take i).reverse (L.drop i) = T) ∧ Below w3.heap.size w3 wr) (fun iv _ => n - (intOf iv).toNat)
      case atStart => exact ⟨0, by omega, rfl, HT0, Below.refl _ _⟩
      case round =>
        clear HT0
        obtain ⟨i, hi, rfl, HI, hbr⟩ := hrel
        obtain ⟨wo, hwo⟩ : ∃ V : World, V = wr := ⟨_, rfl⟩
        subst hwo
        have HBr := btr HB HB.size hbr
        have C1 := B1.below hbr B1.lt
        have ROW := hrow.next hbr
        clear HB B1
        have k2 := C1.cell_ 2
        simp at k2
        by_cases hlt : i < n
        · have hlx : i < L.length := by have := HN.out; omega
          obtain ⟨x, hx⟩ : ∃ x, L[i]? = some x := ⟨_, List.getElem?_eq_getElem hlx⟩
          obtain ⟨b1, o1, rfl, l3, q3⟩ := hrow.at_ (by rw [List.length_map]; omega)
          have HQ3 := Lib.hid q3
          have HX3 : Hid ((L.map (Value.int .i64))[i]? = some (.int .i64 x)) := Lib.hid (by rw [List.getElem?_map, hx]; rfl)
          have q1 : ∀ q u, (L.map (Value.int .i64))[q]? = some u → wo.cell? ⟨b1, o1 + q, none⟩ = some u := fun q u hu => (hbr.cell (p := ⟨b1, o1 + q, none⟩) l3).trans (q3 q u hu)
          clear q3
          have cx : wo.cell? ⟨b1, o1 + i, none⟩ = some (.int .i64 x) := q1 i (.int .i64 x) (by rw [List.getElem?_map, hx]; rfl)
          have i0 : (0 : Int) ≤ (i : Int) := by omega
          have i1 : (i : Int) < (n : Int) := by omega
          have HST := Lib.hid (shIn_step (ns := s.ns) hx)
          have HQ1 := Lib.hid q1
          have HX := Lib.hid hx
          have QD : wo.drew.cell? ⟨b1, o1 + i, none⟩ = some (.int .i64 x) ∧ wo.drew.cell? ⟨w.heap.size, 2, none⟩ = some (.int .i64 s.ns) := ⟨drew_cell cx, drew_cell k2⟩
          clear hx q1 hlx
          go_upto_region 7 with fail
          by_cases d1 : x < 1
          · have HTT : Hid (T = false) := Lib.hid (by rw [← HI.out, HST.out]; unfold inI; rw [decide_eq_false (by omega : ¬ 1 ≤ x)]; rfl)
            refine wp_region_noPanic ?_
            refine wp_region_held_drew (S := (fun w_ => w_.cell? ⟨b1, o1 + i, none⟩ = some (.int .i64 x) ∧ w_.cell? ⟨w.heap.size, 2, none⟩ = some (.int .i64 s.ns))) (by kernel_rfl) ?_ (fun hHeld => ?_)
            · (first | with_reducible exact QD | with_reducible assumption)
            refine tk 0 ?_; try simp only [Act.put, pz1, pz2, pz3]
            refine tk 1 ?_; try simp only [Act.put, pz1, pz2, pz3]
            refine tk 2 ?_; try simp only [Act.put, pz1, pz2, pz3]
            refine tk 3 ?_; try simp only [Act.put, pz1, pz2, pz3]
            refine tk 4 ?_; try simp only [Act.put, pz1, pz2, pz3]
            refine tk 5 ?_; try simp only [Act.put, pz1, pz2, pz3]
            refine tu 6 ?_
            try simp only [Act.put, pz1, pz2, pz3]
            refine tu 7 ?_
            try simp only [Act.put, pz1, pz2, pz3]
            refine tu 8 ?_
            try simp only [Act.put, pz1, pz2, pz3]
            refine tu 9 ?_
            try simp only [Act.put, pz1, pz2, pz3]
            refine tu 10 ?_
            try simp only [Act.put, pz1, pz2, pz3]
            refine tu 11 ?_
            try simp only [Act.put, pz1, pz2, pz3]
            refine tu 12 ?_
            try simp only [Act.put, pz1, pz2, pz3]
            refine tk 13 ?_; try simp only [Act.put, pz1, pz2, pz3]
            refine wpAnyH_done (by kernel_rfl) ?_ _
            refine NoPanic.normal ?_
            go_wp2_with fail
            go_ret
            exact ⟨by rw [HTT.out]; rfl, (by first | exact HBr | exact drew_below HBr)⟩
          · by_cases d2 : s.ns ≤ x
            · have HTT : Hid (T = false) := Lib.hid (by rw [← HI.out, HST.out]; unfold inI; rw [decide_eq_false (by omega : ¬ x ≤ s.ns - 1)]; simp)
              refine wp_region_noPanic ?_
              refine wp_region_held_drew (S := (fun w_ => w_.cell? ⟨b1, o1 + i, none⟩ = some (.int .i64 x) ∧ w_.cell? ⟨w.heap.size, 2, none⟩ = some (.int .i64 s.ns))) (by kernel_rfl) ?_ (fun hHeld => ?_)
              · (first | with_reducible exact QD | with_reducible assumption)
              refine tk 0 ?_; try simp only [Act.put, pz1, pz2, pz3]
              refine tk 1 ?_; try simp only [Act.put, pz1, pz2, pz3]
              refine tk 2 ?_; try simp only [Act.put, pz1, pz2, pz3]
              refine tk 3 ?_; try simp only [Act.put, pz1, pz2, pz3]
              refine tk 4 ?_; try simp only [Act.put, pz1, pz2, pz3]
              refine tk 5 ?_; try simp only [Act.put, pz1, pz2, pz3]
              refine tk 6 ?_; try simp only [Act.put, pz1, pz2, pz3]
              refine tk 7 ?_; try simp only [Act.put, pz1, pz2, pz3]
              refine tk 8 ?_; try simp only [Act.put, pz1, pz2, pz3]
              refine tk 9 ?_; try simp only [Act.put, pz1, pz2, pz3]
              refine tk 10 ?_; try simp only [Act.put, pz1, pz2, pz3]
              refine tk 11 ?_; try simp only [Act.put, pz1, pz2, pz3]
              refine tk 12 ?_; try simp only [Act.put, pz1, pz2, pz3]
              refine tk 13 ?_; try simp only [Act.put, pz1, pz2, pz3]
              refine wpAnyH_done (by kernel_rfl) ?_ _
              refine NoPanic.normal ?_
              go_wp2_with fail
              go_ret
              exact ⟨by rw [HTT.out]; rfl, (by first | exact HBr | exact drew_below HBr)⟩
            · have HIN : Hid (inI x 1 (s.ns - 1) = true) := Lib.hid (inI_of (by omega) (by omega))
              refine wp_region_noPanic ?_
              refine wp_region_held_drew (S := (fun w_ => w_.cell? ⟨b1, o1 + i, none⟩ = some (.int .i64 x) ∧ w_.cell? ⟨w.heap.size, 2, none⟩ = some (.int .i64 s.ns))) (by kernel_rfl) ?_ (fun hHeld => ?_)
              · (first | with_reducible exact QD | with_reducible assumption)
              refine tk 0 ?_; try simp only [Act.put, pz1, pz2, pz3]
              refine tk 1 ?_; try simp only [Act.put, pz1, pz2, pz3]
              refine tk 2 ?_; try simp only [Act.put, pz1, pz2, pz3]
              refine tk 3 ?_; try simp only [Act.put, pz1, pz2, pz3]
              refine tk 4 ?_; try simp only [Act.put, pz1, pz2, pz3]
              refine tk 5 ?_; try simp only [Act.put, pz1, pz2, pz3]
              refine tk 6 ?_; try simp only [Act.put, pz1, pz2, pz3]
              refine tk 7 ?_; try simp only [Act.put, pz1, pz2, pz3]
              refine tk 8 ?_; try simp only [Act.put, pz1, pz2, pz3]
              refine tk 9 ?_; try simp only [Act.put, pz1, pz2, pz3]
              refine tk 10 ?_; try simp only [Act.put, pz1, pz2, pz3]
              refine tk 11 ?_; try simp only [Act.put, pz1, pz2, pz3]
              refine tk 12 ?_; try simp only [Act.put, pz1, pz2, pz3]
              refine tk 13 ?_; try simp only [Act.put, pz1, pz2, pz3]
              refine wpAnyH_done (by kernel_rfl) ?_ _
              refine NoPanic.normal ?_
              go_wp2_with fail
              obtain ⟨wn, hwn⟩ : ∃ V : World, V = wo.drew := ⟨_, rfl⟩
              have hDn := below_dr wo
              rw [← hwn] at hDn ⊢
              have HBn := btr HBr HBr.size hDn
              have hbn := btr hbr hbr.size hDn
              clear hwn hDn QD cx k2 HBr hbr C1 ROW HX
              have H0 : Hid ((L.take 0).any (fun y => y == x) = false) := Lib.hid rfl
              go_loopw [5] (fun kv wr => ∃ k : Nat, k ≤ i ∧ kv = .int .i64 k ∧ Hid ((L.take k).any (fun y => y == x) = false) ∧ Below w.heap.size w wr ∧ Below w3.heap.size w3 wr) (fun kv _ => i - (intOf kv).toNat)
              case atStart => exact ⟨0, by omega, rfl, H0, HBn, hbn⟩
              case round =>
                clear H0 HBn hbn
                obtain ⟨k, hk, rfl, HZ, HBq, hbq⟩ := hrel
                by_cases hlk : k < i
                · obtain ⟨z, hz⟩ : ∃ z, L[k]? = some z := ⟨_, List.getElem?_eq_getElem (by have := HN.out; omega)⟩
                  have cz0 := HQ3.out k (.int .i64 z) (by rw [List.getElem?_map, hz]; rfl)
                  have cx0 := HQ3.out i (.int .i64 x) HX3.out
                  have cz : wr.cell? ⟨b1, o1 + k, none⟩ = some (.int .i64 z) := (hbq.cell (p := ⟨b1, _, none⟩) l3).trans cz0
                  have cx : wr.cell? ⟨b1, o1 + i, none⟩ = some (.int .i64 x) := (hbq.cell (p := ⟨b1, _, none⟩) l3).trans cx0
                  have HZK := Lib.hid hz
                  have k0 : (0 : Int) ≤ (k : Int) := by omega
                  have k1 : (k : Int) < (i : Int) := by omega
                  have k3 : (k : Int) < (n : Int) := by omega
                  have QE : wr.drew.cell? ⟨b1, o1 + k, none⟩ = some (.int .i64 z) ∧ wr.drew.cell? ⟨b1, o1 + i, none⟩ = some (.int .i64 x) := ⟨drew_cell cz, drew_cell cx⟩
                  clear hz cz0 cx0
                  go_upto_region 12 with fail
                  rcases (by cases hq : (z == x) <;> simp : (z == x) = true ∨ (z == x) = false) with hp | hp
                  · have HTT : Hid (T = false) := Lib.hid (by rw [← HI.out, HST.out, List.any_eq_true.2 ⟨z, List.mem_take_iff_getElem.2 ⟨k, by have := HN.out; omega, (List.getElem?_eq_some_iff.1 HZK.out).2⟩, hp⟩]; simp)
                    refine wp_region_noPanic ?_
                    refine wp_region_held_drew (S := (fun w_ => w_.cell? ⟨b1, o1 + k, none⟩ = some (.int .i64 z) ∧ w_.cell? ⟨b1, o1 + i, none⟩ = some (.int .i64 x))) (by kernel_rfl) ?_ (fun hHeld => ?_)
                    · (first | with_reducible exact QE | with_reducible assumption)
                    refine tk 0 ?_; try simp only [Act.put, pz1, pz2, pz3]
                    refine tk 1 ?_; try simp only [Act.put, pz1, pz2, pz3]
                    refine tk 2 ?_; try simp only [Act.put, pz1, pz2, pz3]
                    refine tk 3 ?_; try simp only [Act.put, pz1, pz2, pz3]
                    refine tk 4 ?_; try simp only [Act.put, pz1, pz2, pz3]
                    refine tk 5 ?_; try simp only [Act.put, pz1, pz2, pz3]
                    refine tk 6 ?_; try simp only [Act.put, pz1, pz2, pz3]
                    refine tk 7 ?_; try simp only [Act.put, pz1, pz2, pz3]
                    refine tk 8 ?_; try simp only [Act.put, pz1, pz2, pz3]
                    refine wpAnyH_done (by kernel_rfl) ?_ _
                    refine NoPanic.normal ?_
                    go_wp2_with fail
                    go_ret
                    exact ⟨by rw [HTT.out]; rfl, (by first | exact HBq | exact drew_below HBq)⟩
                  · have HZX : Hid ((fun y => y == x) z = false) := Lib.hid hp
                    refine wp_region_noPanic ?_
                    refine wp_region_held_drew (S := (fun w_ => w_.cell? ⟨b1, o1 + k, none⟩ = some (.int .i64 z) ∧ w_.cell? ⟨b1, o1 + i, none⟩ = some (.int .i64 x))) (by kernel_rfl) ?_ (fun hHeld => ?_)
                    · (first | with_reducible exact QE | with_reducible assumption)
                    refine tk 0 ?_; try simp only [Act.put, pz1, pz2, pz3]
                    refine tk 1 ?_; try simp only [Act.put, pz1, pz2, pz3]
                    refine tk 2 ?_; try simp only [Act.put, pz1, pz2, pz3]
                    refine tk 3 ?_; try simp only [Act.put, pz1, pz2, pz3]
                    refine tk 4 ?_; try simp only [Act.put, pz1, pz2, pz3]
                    refine tk 5 ?_; try simp only [Act.put, pz1, pz2, pz3]
                    refine tk 6 ?_; try simp only [Act.put, pz1, pz2, pz3]
                    refine tk 7 ?_; try simp only [Act.put, pz1, pz2, pz3]
                    refine tk 8 ?_; try simp only [Act.put, pz1, pz2, pz3]
                    refine wpAnyH_done (by kernel_rfl) ?_ _
                    refine NoPanic.normal ?_
                    go_wp2_with fail
                    go_roundw
                    case rel => exact ⟨k + 1, by omega, by go_num, Lib.hid (any_next HZ.out HZK.out HZX.out), (by first | exact HBq | exact drew_below HBq), (by first | exact hbq | exact drew_below hbq)⟩
                    case measure => simp [intOf]; omega
                · have hki : k = i := by omega
                  subst hki
                  have HNX : Hid (sheetsIn s.ns (L.take (k + 1)).reverse (L.drop (k + 1)) = T) := Lib.hid (by rw [← HI.out, HST.out, HIN.out, HZ.out]; rfl)
                  go_wp2_with fail
                  go_roundw
                  case rel => exact ⟨k + 1, by omega, by go_num, HNX, hbq⟩
                  case measure => simp [intOf]; omega
        · have hjn : i = n := by omega
          subst hjn
          have HTT : Hid (T = true) := Lib.hid (by have := HI.out; rw [← HN.out, shIn_end] at this; exact this.symm)
          go_wp2_with fail
          go_ret
          exact ⟨by rw [HTT.out]; rfl, HBr⟩
end Go.Proofs.YtkaoechjekffmaaDoor
