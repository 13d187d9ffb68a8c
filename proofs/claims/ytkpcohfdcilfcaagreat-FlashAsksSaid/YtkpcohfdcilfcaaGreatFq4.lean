/- blank: a flash over a chip of which nothing is known. -/
import Derived.Test.YtkpcohfdcilfcaaGreatFq3
import Derived.Test.YtkpcohfdcilfcaaGreatFq1
import Derived.Deep.Slices
import Derived.Deep.Fields
import Derived.ChangeSame
import Derived.Test.YtkpcohfdcilfcaaGreatChecked
import Derived.WalkKit
import Derived.ProofKit
import Derived.WalkSpells
import Derived.WalkLawsBesides
import Derived.Lib.Hide
import Derived.Outline
import Derived.Maps.OwnSet
import Derived.Maps.OwnOps
import Derived.Shelf.SlIterI.Nil
import Derived.Shelf.SortM.Plain
import Derived.Shelf.SortM.SortNone
import Derived.Ground.GgzProg
import Derived.Ground.SlgmProg
import Derived.Shelf.SlGeneric
import Derived.Test.YtkpcohfdcilfcaaGreatProg
import Derived.Lib.MinMax
set_option linter.unusedSimpArgs false
set_option linter.unusedVariables false
set_option maxRecDepth 100000
set_option maxHeartbeats 16000000
namespace Go.Proofs.YtkpcohfdcilfcaaGreat
open Go.ChangeShapes Go.WideShapes Go.ChangeAt Go.RowKit
attribute [local go_sem ↓] Go.wp_at_zero Go.wp_at_succ
theorem MapW.farF {w : World} {m g1 g2 : Nat} {a b c d e : Int} {L N : Nat} {A W : List Int} (h : MapW w m g1 g2 a b c d e L N A W) {p : Addr} (hp : m ≠ p.block ∧ g1 ≠ p.block ∧ g2 ≠ p.block) (u : Value) : MapW (w.setCell p u) m g1 g2 a b c d e L N A W :=
  h.keep (Below.heap_setCell w p u m hp.1) (Below.heap_setCell w p u g1 hp.2.1) (Below.heap_setCell w p u g2 hp.2.2)
def blankS (s : ChS) (L : Nat) : FlS := ⟨s, s.cuts, false, 0, 0, List.replicate L (-1), List.replicate L (-1), List.replicate L false, 0, 0, false, List.replicate L ⟨0, []⟩, List.replicate L false⟩
theorem MapW.nx {w w' : World} {m g1 g2 : Nat} {a b c d e : Int} {L N : Nat} {A W : List Int} (h : MapW w m g1 g2 a b c d e L N A W) (hb : Below w.heap.size w w') : MapW w' m g1 g2 a b c d e L N A W := h.below hb
theorem blank_any (m gx gb : Nat) (Af : Option Addr) (nf cf : Nat) (a b c d e : Int) (fs : List Flt) (s : ChS) (L N : Nat) (w : World) (hC : ChipW w m gx gb Af nf cf a b c d e fs s) (hL : logicalI a b d = (L : Int)) (hN : (N : Int) = a * b) :
    Calls Tryz.prog 60 #[.pointer (some ⟨m, 0, none⟩)] w fun e' w' => (∃ F : FlK, e' = .returned (.pointer (some ⟨F.fm, 0, none⟩)) ∧ FlW w' F a b c d e fs L N (blankS s L) ∧ (F.m = m ∧ F.gx = gx ∧ F.gb = gb ∧ F.Af = Af ∧ F.nf = nf ∧ F.cf = cf) ∧ (∀ g, FlB F g → chB m gx gb g ∨ w.heap.size ≤ g) ∧ (∀ g ∈ F.dat, fs ≠ [] ∧ ∃ off, Af = some ⟨g, off, none⟩)) ∧ Below w.heap.size w w' := by
  have hm := (planMay_bd hC.may).1
  obtain ⟨ha1, ha2, hb1, hb2, -, -, hd1, hd2, -⟩ := may_bd hm
  have HM := Lib.hid hm
  have HLG := Lib.hid hL
  have hLb : 1 ≤ L ∧ L ≤ 1000 := by
    obtain ⟨p1, p2⟩ := prod_bd (x := a - d - 3) (b := b) (by omega) (by omega) hb1 hb2
    have h9 := (may_bd hm).2.2.2.2.2.2.2.2.2.2
    unfold logicalI at hL h9
    omega
  have hNb : 1 ≤ N ∧ N ≤ 1000 := by
    have h7 : a * b ≤ 20 * 8 := Int.mul_le_mul ha2 hb2 (by omega) (by omega)
    have h8 : 8 * 4 ≤ a * b := Int.mul_le_mul ha1 hb1 (by omega) (by omega)
    omega
  obtain ⟨n1, n2⟩ := hLb
  obtain ⟨m1, m2⟩ := hNb
  obtain ⟨cu, hcu⟩ : ∃ z, s.cuts = z := ⟨_, rfl⟩
  have HCU := Lib.hid hcu
  clear hcu hm hL
  go_enter Tryz.func60, Tryz.ntmps60
  go_upto_region 2 with (go_at_call 51; ((with_reducible refine (geometry_any m gx gb Af nf cf a b c d e fs _ s hC).mono ?_); rintro e' w1 ⟨rfl, b1⟩; skip))
  obtain ⟨w2, hw2⟩ : ∃ V : World, V = w1.alloc (.cells #[.int .i64 a, .int .i64 b, .int .i64 c, .int .i64 d, .int .i64 e] 23) := ⟨_, rfl⟩
  have H2 : Below w.heap.size w w2 := by rw [hw2]; exact b1.alloc b1.size _
  have BG : Blk w2 w1.heap.size 23 #[.int .i64 a, .int .i64 b, .int .i64 c, .int .i64 d, .int .i64 e] := by rw [hw2]; exact Blk.new_ _ _ _
  rw [← hw2]
  obtain ⟨g0, hg0⟩ : ∃ g, w1.heap.size = g := ⟨_, rfl⟩
  rw [hg0] at BG ⊢
  clear hw2 hg0
  have HALL : Hid (∀ w_, Below w2.heap.size w2 w_ → w_.cell? ⟨g0, 0, none⟩ = some (.int .i64 a) ∧ w_.cell? ⟨g0, 1, none⟩ = some (.int .i64 b) ∧ w_.cell? ⟨g0, 2, none⟩ = some (.int .i64 c) ∧ w_.cell? ⟨g0, 3, none⟩ = some (.int .i64 d) ∧ w_.cell? ⟨g0, 4, none⟩ = some (.int .i64 e)) := Lib.hid (fun w_ h => by
    have B := BG.below h BG.lt
    have c0 := B.cell_ 0
    have c1 := B.cell_ 1
    have c2 := B.cell_ 2
    have c3 := B.cell_ 3
    have c4 := B.cell_ 4
    simp at c0 c1 c2 c3 c4
    exact ⟨c0, c1, c2, c3, c4⟩)
  have QD : (Below w2.heap.size w2 w2.drew ∧ w2.drew.cell? ⟨g0, 0, none⟩ = some (.int .i64 a) ∧ w2.drew.cell? ⟨g0, 1, none⟩ = some (.int .i64 b) ∧ w2.drew.cell? ⟨g0, 2, none⟩ = some (.int .i64 c) ∧ w2.drew.cell? ⟨g0, 3, none⟩ = some (.int .i64 d) ∧ w2.drew.cell? ⟨g0, 4, none⟩ = some (.int .i64 e)) := ⟨below_dr w2, HALL.out _ (below_dr w2)⟩
  have hz3 : w2.heap.size ≤ w2.drew.heap.size := Nat.le_refl _
  go_cut [4] (fun v wx => ∃ fm km k1 k2 fr f1 f2 X1 X2 : Nat, v = .pointer (some ⟨fm, 0, none⟩) ∧ Blk wx fm 86 #[.pointer (some ⟨m, 0, none⟩), .int .i64 a, .int .i64 b, .int .i64 c, .int .i64 d, .int .i64 e, .int .i64 cu, .bool false, .int .i64 0, .int .i64 0, .pointer (some ⟨km, 0, none⟩), .slice none 0 0, .pointer (some ⟨fr, 0, none⟩), .int .i64 0, .int .i64 0, .bool false, .slice none 0 0, .slice none 0 0] ∧ (∃ W, MapW wx km k1 k2 a b c d e L N (List.replicate L (-1)) W) ∧ (∃ W, MapW wx fr f1 f2 a b c d e L N (List.replicate L (-1)) W) ∧ Hid (w2.heap.size ≤ km ∧ w2.heap.size ≤ k1 ∧ w2.heap.size ≤ k2 ∧ km < X1 ∧ k1 < X1 ∧ k2 < X1 ∧ X1 ≤ fr ∧ X1 ≤ f1 ∧ X1 ≤ f2 ∧ fr < X2 ∧ f1 < X2 ∧ f2 < X2 ∧ X2 ≤ fm) ∧ Below w2.heap.size w2 wx)
  case first =>
    refine wp_region_noPanic ?_
    refine wp_region_held_drew (S := (fun w_ => Below w2.heap.size w2 w_ ∧ w_.cell? ⟨g0, 0, none⟩ = some (.int .i64 a) ∧ w_.cell? ⟨g0, 1, none⟩ = some (.int .i64 b) ∧ w_.cell? ⟨g0, 2, none⟩ = some (.int .i64 c) ∧ w_.cell? ⟨g0, 3, none⟩ = some (.int .i64 d) ∧ w_.cell? ⟨g0, 4, none⟩ = some (.int .i64 e))) (by kernel_rfl) ?_ (fun hHeld => ?_)
    · (first | with_reducible exact QD | with_reducible exact hNext | exact ⟨HZ6, HALL.out _ HZ6⟩ | assumption)
    refine tk 0 ?_; try simp only [Act.put, pz1, pz2, pz3]
    refine tk 1 ?_; try simp only [Act.put, pz1, pz2, pz3]
    refine tk 2 ?_; try simp only [Act.put, pz1, pz2, pz3]
    refine tk 4 ?_; try simp only [Act.put, pz1, pz2, pz3]
    refine tk 6 ?_; try simp only [Act.put, pz1, pz2, pz3]
    refine wpAnyH_ready (rs := [3]) (by kernel_rfl) (by simp) ?_
    refine AllReadyH.cons (o := ⟨some 11, .call { callee := .value (.func 57), args := #[.tmp 10], argTypes := #[27] }, 3, "mount.go:42", #[⟨2, .data⟩], none⟩) rfl (fun K hK => ?_) AllReadyH.nil
    go_simp
    (go_at_call 57; ((with_reducible refine (cuts_any m gx gb Af nf cf a b c d e fs _ s (hC.below (btr H2 H2.size hHeld.1))).mono ?_); rintro e' w3 ⟨rfl, rfl⟩; rw [HCU.out]))
    go_wp2_with fail
    refine hK.out _ _ ?_ (fun hNew => ?_)
    · (first | with_reducible exact QD | with_reducible exact hNext | exact ⟨HZ6, HALL.out _ HZ6⟩ | assumption)
    clear hK K hHeld
    have hHeld := hNew
    clear hNew
    try simp only [Act.put, pz1, pz2, pz3]
    refine wpAnyH_ready (rs := [5]) (by kernel_rfl) (by simp) ?_
    refine AllReadyH.cons (o := ⟨some 13, .call { callee := .value (.func 76), args := #[.tmp 12], argTypes := #[23] }, 82, "mount.go:42", #[⟨4, .data⟩, ⟨3, .chain⟩], none⟩) rfl (fun K hK => ?_) AllReadyH.nil
    go_simp
    (go_at_call 76; ((with_reducible refine (new_yes a b c d e L N _ HM HLG hN n1 n2 m1 m2).mono ?_); rintro e' w4 ⟨⟨km, k1, k2, rfl, hM1, q1, q2, q3⟩, b4⟩; have l4 := hM1.lt; have HZ9 := btr hHeld.1 hHeld.1.size b4; have hNext : (Below w2.heap.size w2 w4 ∧ w4.cell? ⟨g0, 0, none⟩ = some (.int .i64 a) ∧ w4.cell? ⟨g0, 1, none⟩ = some (.int .i64 b) ∧ w4.cell? ⟨g0, 2, none⟩ = some (.int .i64 c) ∧ w4.cell? ⟨g0, 3, none⟩ = some (.int .i64 d) ∧ w4.cell? ⟨g0, 4, none⟩ = some (.int .i64 e)) := ⟨HZ9, HALL.out _ HZ9⟩))
    go_wp2_with fail
    refine hK.out _ _ ?_ (fun hNew => ?_)
    · (first | with_reducible exact QD | with_reducible exact hNext | exact ⟨HZ6, HALL.out _ HZ6⟩ | assumption)
    clear hK K hHeld
    have hHeld := hNew
    clear hNew
    try simp only [Act.put, pz1, pz2, pz3]
    refine wpAnyH_ready (rs := [7]) (by kernel_rfl) (by simp) ?_
    refine AllReadyH.cons (o := ⟨some 15, .call { callee := .value (.func 76), args := #[.tmp 14], argTypes := #[23] }, 82, "mount.go:42", #[⟨6, .data⟩, ⟨5, .chain⟩], none⟩) rfl (fun K hK => ?_) AllReadyH.nil
    go_simp
    (go_at_call 76; ((with_reducible refine (new_yes a b c d e L N _ HM HLG hN n1 n2 m1 m2).mono ?_); rintro e' w5 ⟨⟨fr, f1, f2, rfl, hM2, q4, q5, q6⟩, b5⟩; have HZ9 := btr hHeld.1 hHeld.1.size b5; have hNext : (Below w2.heap.size w2 w5 ∧ w5.cell? ⟨g0, 0, none⟩ = some (.int .i64 a) ∧ w5.cell? ⟨g0, 1, none⟩ = some (.int .i64 b) ∧ w5.cell? ⟨g0, 2, none⟩ = some (.int .i64 c) ∧ w5.cell? ⟨g0, 3, none⟩ = some (.int .i64 d) ∧ w5.cell? ⟨g0, 4, none⟩ = some (.int .i64 e)) := ⟨HZ9, HALL.out _ HZ9⟩; have hM1 := hM1.nx b5; have hz5 := b5.size))
    go_wp2_with fail
    refine hK.out _ _ ?_ (fun hNew => ?_)
    · (first | with_reducible exact QD | with_reducible exact hNext | exact ⟨HZ6, HALL.out _ HZ6⟩ | assumption)
    clear hK K hHeld
    have hHeld := hNew
    clear hNew
    try simp only [Act.put, pz1, pz2, pz3]
    refine tk 8 ?_; try simp only [Act.put, pz1, pz2, pz3]
    refine wpAnyH_ready (rs := [9]) (by kernel_rfl) (by simp) ?_
    refine AllReadyH.cons (o := ⟨some 17, .box 86 (.tmp 16), 28, "mount.go:42", #[⟨8, .data⟩], none⟩) rfl (fun K hK => ?_) AllReadyH.nil
    refine wp_boxFl _ rfl a b c d e cu rfl ?_
    intro w6 fm hBF q7 b6
    have hm1 := hM1.nx b6
    have hm2 := hM2.nx b6
    have HZ6 := btr hHeld.1 hHeld.1.size b6
    refine hK.out _ _ ?_ (fun hNew => ?_)
    · (first | with_reducible exact QD | with_reducible exact hNext | exact ⟨HZ6, HALL.out _ HZ6⟩ | assumption)
    clear hK K hHeld
    have hHeld := hNew
    clear hNew
    try simp only [Act.put, pz1, pz2, pz3]
    refine tk 10 ?_; try simp only [Act.put, pz1, pz2, pz3]
    refine wpAnyH_done (by kernel_rfl) ?_ _
    refine NoPanic.normal ?_
    go_wp2_with fail
    go_meet
    have l2 := hM2.lt
    have hdz : w2.drew.heap.size = w2.heap.size := rfl
    have hz4 : w2.heap.size ≤ w4.heap.size := Nat.le_trans hz3 b4.size
    exact ⟨fm, km, k1, k2, fr, f1, f2, w4.heap.size, w5.heap.size, rfl, by first | exact hBF | exact hBF.like_, ⟨_, hm1.like rfl⟩, ⟨_, hm2.like rfl⟩, Lib.hid (by omega), by first | exact HZ6 | exact below_dn HZ6 1⟩
  case rest =>
    obtain ⟨fm, km, k1, k2, fr, f1, f2, X1, X2, rfl, BF, ⟨U1, hM1⟩, ⟨U2, hM2⟩, HX, HB⟩ := hcut
    have HX1 : Hid ((km ≠ fm ∧ k1 ≠ fm ∧ k2 ≠ fm) ∧ (fr ≠ fm ∧ f1 ≠ fm ∧ f2 ≠ fm)) := Lib.hid (by have := HX.out; omega)
    have HX2 : Hid (w2.heap.size ≤ fm) := Lib.hid (by have := HX.out; omega)
    obtain ⟨c0, c1, c2, c3, c4⟩ := HALL.out _ HB
    go_upto_region 4 with (go_at_call 89; ((with_reducible refine (logi_b a b c d e L _ HM HLG).mono ?_); rintro e' w7 ⟨rfl, b7⟩; have BF := BF.below b7 BF.lt; have hM1 := hM1.nx b7; have hM2 := hM2.nx b7; have HB := btr HB HB.size b7))
    have hFM := BF.lt
    have h7M := hM1.lt
    have h7N := hM2.lt
    go_upto_region 5 with (at_make; obtain ⟨ti0, hi, hz0, hz1, hz2⟩ := info_parts infoBoolF; refine wpList_make_full _ rfl _ _ 83 rfl w7.heap.size 4 ti0 (.bool false) 1 Tryz.underlying83 hi hz0 hz1 _ _ _ _ L rfl rfl rfl rfl (by rw [hz2]; omega) (by unfold maxLen; omega) (Nat.le_refl _) ?_; intro wM hown1 hgrow1; clear hi hz0 hz1 hz2; have hBM : Below w7.heap.size w7 wM := (Below.refl _ _).grown hgrow1 (Nat.le_refl _) (fun j hj => by cases hj); have BF := BF.below hBM BF.lt; have yF := BF.cell_ 11; have fF := BF.free 11; simp at yF)
    obtain ⟨hg1, he1⟩ : ∃ g, w7.heap.size = g := ⟨_, rfl⟩
    have hR1 : RowT wM w7.heap.size 4 ((List.replicate L false).map Value.bool) := by
      have h0 := own_rowS hown1
      rw [show (madeCells (Value.bool false).cells (L * 1)).toList = (List.replicate L false).map Value.bool from (toList_madeCells_one _ _).trans (show List.replicate (L * 1) (Value.bool false) = (List.replicate L false).map Value.bool by rw [Nat.mul_one, List.map_replicate])] at h0
      exact h0
    have hlM : w7.heap.size < wM.heap.size := hR1.lt
    have hM1 := hM1.nx hBM
    have hM2 := hM2.nx hBM
    have HB := btr HB HB.size hBM
    rw [he1] at hR1 hlM ⊢
    have hge1 : fm < hg1 := by omega
    have BF := BF.set_ 11 (.slice (some ⟨hg1, 0, none⟩) L L)
    simp at BF
    have hR1 := hR1.far (p := ⟨fm, 11, none⟩) (show hg1 ≠ fm by omega) (.slice (some ⟨hg1, 0, none⟩) L L)
    have hM1 := hM1.farF (p := ⟨fm, 11, none⟩) HX1.out.1 (.slice (some ⟨hg1, 0, none⟩) L L)
    have hM2 := hM2.farF (p := ⟨fm, 11, none⟩) HX1.out.2 (.slice (some ⟨hg1, 0, none⟩) L L)
    have HB := HB.setCell (p := ⟨fm, 11, none⟩) HX2.out (.slice (some ⟨hg1, 0, none⟩) L L)
    obtain ⟨v1, hw1⟩ : ∃ V : World, V = wM.setCell ⟨fm, 11, none⟩ (.slice (some ⟨hg1, 0, none⟩) L L) := ⟨_, rfl⟩
    rw [← hw1] at BF HB hM1 hM2 hR1  ⊢
    have hlw1 : hg1 < v1.heap.size := by rw [hw1]; simpa using hlM
    clear hw1 yF fF hown1 hgrow1 hBM hlM
    have hFM := BF.lt
    go_upto_region 6 with (at_make; obtain ⟨ti0, hi, hz0, hz1, hz2⟩ := info_parts infoBoolF; refine wpList_make_full _ rfl _ _ 83 rfl v1.heap.size 4 ti0 (.bool false) 1 Tryz.underlying83 hi hz0 hz1 _ _ _ _ L rfl rfl rfl rfl (by rw [hz2]; omega) (by unfold maxLen; omega) (Nat.le_refl _) ?_; intro wM hown1 hgrow1; clear hi hz0 hz1 hz2; have hBM : Below v1.heap.size v1 wM := (Below.refl _ _).grown hgrow1 (Nat.le_refl _) (fun j hj => by cases hj); have BF := BF.below hBM BF.lt; have yF := BF.cell_ 17; have fF := BF.free 17; simp at yF)
    obtain ⟨hg2, he2⟩ : ∃ g, v1.heap.size = g := ⟨_, rfl⟩
    have hR2 : RowT wM v1.heap.size 4 ((List.replicate L false).map Value.bool) := by
      have h0 := own_rowS hown1
      rw [show (madeCells (Value.bool false).cells (L * 1)).toList = (List.replicate L false).map Value.bool from (toList_madeCells_one _ _).trans (show List.replicate (L * 1) (Value.bool false) = (List.replicate L false).map Value.bool by rw [Nat.mul_one, List.map_replicate])] at h0
      exact h0
    have hlM : v1.heap.size < wM.heap.size := hR2.lt
    have hM1 := hM1.nx hBM
    have hM2 := hM2.nx hBM
    have HB := btr HB HB.size hBM
    rw [he2] at hR2 hlM ⊢
    have hge2 : fm < hg2 := by omega
    have BF := BF.set_ 17 (.slice (some ⟨hg2, 0, none⟩) L L)
    simp at BF
    have hR1 := hR1.below hBM
    have hR1 := hR1.far (p := ⟨fm, 17, none⟩) (show hg1 ≠ fm by omega) (.slice (some ⟨hg2, 0, none⟩) L L)
    have hR2 := hR2.far (p := ⟨fm, 17, none⟩) (show hg2 ≠ fm by omega) (.slice (some ⟨hg2, 0, none⟩) L L)
    have hM1 := hM1.farF (p := ⟨fm, 17, none⟩) HX1.out.1 (.slice (some ⟨hg2, 0, none⟩) L L)
    have hM2 := hM2.farF (p := ⟨fm, 17, none⟩) HX1.out.2 (.slice (some ⟨hg2, 0, none⟩) L L)
    have HB := HB.setCell (p := ⟨fm, 17, none⟩) HX2.out (.slice (some ⟨hg2, 0, none⟩) L L)
    obtain ⟨v2, hw2⟩ : ∃ V : World, V = wM.setCell ⟨fm, 17, none⟩ (.slice (some ⟨hg2, 0, none⟩) L L) := ⟨_, rfl⟩
    rw [← hw2] at BF HB hM1 hM2 hR2 hR1 ⊢
    have hlw2 : hg2 < v2.heap.size := by rw [hw2]; simpa using hlM
    clear hw2 yF fF hown1 hgrow1 hBM hlM
    have hFM := BF.lt
    go_upto_region 7 with (at_make; obtain ⟨ti0, hi, hz0, hz1, hz2⟩ := info_parts infoChg; refine wpList_make_full _ rfl _ _ 84 rfl v2.heap.size 88 ti0 (.agg #[.int .i64 0, .slice none 0 0]) 2 Tryz.underlying84 hi hz0 hz1 _ _ _ _ L rfl rfl rfl rfl (by rw [hz2]; omega) (by unfold maxLen; omega) (Nat.le_refl _) ?_; intro wM hown1 hgrow1; clear hi hz0 hz1 hz2; have hBM : Below v2.heap.size v2 wM := (Below.refl _ _).grown hgrow1 (Nat.le_refl _) (fun j hj => by cases hj); have BF := BF.below hBM BF.lt; have yF := BF.cell_ 16; have fF := BF.free 16; simp at yF)
    obtain ⟨hg3, he3⟩ : ∃ g, v2.heap.size = g := ⟨_, rfl⟩
    have hR3 : RowT wM v2.heap.size 88 (wtV (List.replicate L ⟨0, []⟩) (List.replicate L (none, 0))) := by
      have h0 := own_rowS hown1
      rw [made_chg] at h0
      exact h0
    have hlM : v2.heap.size < wM.heap.size := hR3.lt
    have hM1 := hM1.nx hBM
    have hM2 := hM2.nx hBM
    have HB := btr HB HB.size hBM
    rw [he3] at hR3 hlM ⊢
    have hge3 : fm < hg3 := by omega
    have BF := BF.set_ 16 (.slice (some ⟨hg3, 0, none⟩) L L)
    simp at BF
    have hR1 := hR1.below hBM
    have hR1 := hR1.far (p := ⟨fm, 16, none⟩) (show hg1 ≠ fm by omega) (.slice (some ⟨hg3, 0, none⟩) L L)
    have hR2 := hR2.below hBM
    have hR2 := hR2.far (p := ⟨fm, 16, none⟩) (show hg2 ≠ fm by omega) (.slice (some ⟨hg3, 0, none⟩) L L)
    have hR3 := hR3.far (p := ⟨fm, 16, none⟩) (show hg3 ≠ fm by omega) (.slice (some ⟨hg3, 0, none⟩) L L)
    have hM1 := hM1.farF (p := ⟨fm, 16, none⟩) HX1.out.1 (.slice (some ⟨hg3, 0, none⟩) L L)
    have hM2 := hM2.farF (p := ⟨fm, 16, none⟩) HX1.out.2 (.slice (some ⟨hg3, 0, none⟩) L L)
    have HB := HB.setCell (p := ⟨fm, 16, none⟩) HX2.out (.slice (some ⟨hg3, 0, none⟩) L L)
    obtain ⟨v3, hw3⟩ : ∃ V : World, V = wM.setCell ⟨fm, 16, none⟩ (.slice (some ⟨hg3, 0, none⟩) L L) := ⟨_, rfl⟩
    rw [← hw3] at BF HB hM1 hM2 hR3 hR1 hR2 ⊢
    have hlw3 : hg3 < v3.heap.size := by rw [hw3]; simpa using hlM
    clear hw3 yF fF hown1 hgrow1 hBM hlM
    have hFM := BF.lt
    go_wp2_with fail
    go_ret
    have hcu := HCU.out
    subst hcu
    have HBw : Below w.heap.size w v3 := btr H2 H2.size HB
    obtain ⟨dat, hd1, hd2⟩ : ∃ dat : List Nat, (∀ g ∈ dat, g < w.heap.size ∧ g ≠ m ∧ g ≠ gx ∧ g ≠ gb ∧ fs ≠ [] ∧ ∃ off, Af = some ⟨g, off, none⟩) ∧ (fs = [] ∨ ∃ g off, Af = some ⟨g, off, none⟩ ∧ g ∈ dat) := by
      by_cases hfs : fs = []
      · exact ⟨[], fun g hg => by simp at hg, Or.inl hfs⟩
      · rcases hC.flt with h | ⟨g, off, hA, hl, e1, e2, e3, -⟩
        · exact absurd h hfs
        · exact ⟨[g], fun x hx => by
            have hx : x = g := by simpa using hx
            subst hx
            exact ⟨hl, e1, e2, e3, hfs, off, hA⟩, Or.inr ⟨g, off, hA, by simp⟩⟩
    obtain ⟨z1, z2, z3⟩ := hC.lt
    have x1 := hC.nx
    have x2 := hC.nb
    have x3 := hC.nxb
    have y1 := hM1.n1
    have y2 := hM1.n2
    have y3 := hM1.n12
    have y4 := hM2.n1
    have y5 := hM2.n2
    have y6 := hM2.n12
    have hX := HX.out
    have hs2 := H2.size
    have hlv := hM1.lt
    have hlu := hM2.lt
    refine ⟨⟨⟨fm, m, gx, gb, km, k1, k2, fr, f1, f2, hg1, hg3, hg2, Af, nf, cf, dat, List.replicate L (none, 0)⟩, rfl, ⟨BF, hC.below HBw, ⟨U1, hM1⟩, ⟨U2, hM2⟩, hR1, hR3, hR2, ?_, ?_, ?_, hd2, ?_, ?_, ?_, ?_, ?_, HM.out, HLG.out, hN⟩, ⟨rfl, rfl, rfl, rfl, rfl, rfl⟩, ?_, fun g hg => (hd1 g hg).2.2.2.2⟩, HBw⟩
    · unfold FlK.all
      simp only [List.nodup_cons, List.mem_cons, List.not_mem_nil, or_false, not_or, not_false_eq_true, List.nodup_nil, and_true]
      omega
    · rintro g (h | h)
      · unfold FlK.all at h
        simp only [List.mem_cons, List.not_mem_nil, or_false] at h
        have := HBw.size
        omega
      · have := (hd1 g h).1
        have := HBw.size
        omega
    · intro g hg h
      obtain ⟨q1, q2, q3, q4, -⟩ := hd1 g hg
      unfold FlK.all at h
      simp only [List.mem_cons, List.not_mem_nil, or_false] at h
      omega
    · exact List.length_replicate
    · exact List.length_replicate
    · exact List.length_replicate
    · exact List.length_replicate
    · intro i x A hx hA
      have hx' : (List.replicate L (⟨0, []⟩ : Wt))[i]? = some x := hx
      have hA' : (List.replicate L ((none, 0) : Option Addr × Nat))[i]? = some A := hA
      rw [List.getElem?_replicate] at hx' hA'
      split at hx'
      · rename_i hi
        rw [if_pos hi] at hA'
        cases hx'
        cases hA'
        exact ⟨Nat.le_refl _, by unfold maxLen; omega, Or.inl rfl⟩
      · cases hx'
    · intro g hg
      unfold FlB FlK.all at hg
      simp only [List.mem_cons, List.not_mem_nil, or_false] at hg
      unfold chB
      omega
end Go.Proofs.YtkpcohfdcilfcaaGreat
namespace Go.Proofs.YtkpcohfdcilfcaaGreat
open Go.ChangeShapes Go.WideShapes Go.ChangeAt Go.RowKit
theorem FlW.keptT {w w' : World} {F : FlK} {a b c d e : Int} {fs : List Flt} {L N : Nat} {s : FlS} (hF : FlW w F a b c d e fs L N s) {A : List Int} {W : List Int} (hT : Tch (fun g => g = F.k1 ∨ g = F.k2) w w') (hM : MapW w' F.km F.k1 F.k2 a b c d e L N A W) : FlW w' F a b c d e fs L N { s with kA := A } := by
  have hdq : ∀ g ∈ F.dat, w'.heap[g]? = w.heap[g]? := fun g h => hT.far g (hF.lt g (Or.inr h)) (fun e => hF.dj g h (by 
      rcases e with e | e
      · rw [e]; exact flB_k1
      · rw [e]; exact flB_k2))
  have q_fm : w'.heap[F.fm]? = w.heap[F.fm]? := hT.far _ (hF.blt flB_fm) (fun e => by
      rcases e with e | e
      · exact absurd e (hF.ne 0 5)
      · exact absurd e (hF.ne 0 6))
  have q_m : w'.heap[F.m]? = w.heap[F.m]? := hT.far _ (hF.blt flB_m) (fun e => by
      rcases e with e | e
      · exact absurd e (hF.ne 1 5)
      · exact absurd e (hF.ne 1 6))
  have q_gx : w'.heap[F.gx]? = w.heap[F.gx]? := hT.far _ (hF.blt flB_gx) (fun e => by
      rcases e with e | e
      · exact absurd e (hF.ne 2 5)
      · exact absurd e (hF.ne 2 6))
  have q_gb : w'.heap[F.gb]? = w.heap[F.gb]? := hT.far _ (hF.blt flB_gb) (fun e => by
      rcases e with e | e
      · exact absurd e (hF.ne 3 5)
      · exact absurd e (hF.ne 3 6))
  have q_km : w'.heap[F.km]? = w.heap[F.km]? := hT.far _ (hF.blt flB_km) (fun e => by
      rcases e with e | e
      · exact absurd e (hF.ne 4 5)
      · exact absurd e (hF.ne 4 6))
  have q_fr : w'.heap[F.fr]? = w.heap[F.fr]? := hT.far _ (hF.blt flB_fr) (fun e => by
      rcases e with e | e
      · exact absurd e.symm (hF.ne 5 7)
      · exact absurd e.symm (hF.ne 6 7))
  have q_f1 : w'.heap[F.f1]? = w.heap[F.f1]? := hT.far _ (hF.blt flB_f1) (fun e => by
      rcases e with e | e
      · exact absurd e.symm (hF.ne 5 8)
      · exact absurd e.symm (hF.ne 6 8))
  have q_f2 : w'.heap[F.f2]? = w.heap[F.f2]? := hT.far _ (hF.blt flB_f2) (fun e => by
      rcases e with e | e
      · exact absurd e.symm (hF.ne 5 9)
      · exact absurd e.symm (hF.ne 6 9))
  have q_gt : w'.heap[F.gt]? = w.heap[F.gt]? := hT.far _ (hF.blt flB_gt) (fun e => by
      rcases e with e | e
      · exact absurd e.symm (hF.ne 5 10)
      · exact absurd e.symm (hF.ne 6 10))
  have q_gw : w'.heap[F.gw]? = w.heap[F.gw]? := hT.far _ (hF.blt flB_gw) (fun e => by
      rcases e with e | e
      · exact absurd e.symm (hF.ne 5 11)
      · exact absurd e.symm (hF.ne 6 11))
  have q_gs : w'.heap[F.gs]? = w.heap[F.gs]? := hT.far _ (hF.blt flB_gs) (fun e => by
      rcases e with e | e
      · exact absurd e.symm (hF.ne 5 12)
      · exact absurd e.symm (hF.ne 6 12))
  obtain ⟨W1, m1⟩ := hF.kept
  obtain ⟨W2, m2⟩ := hF.fresh
  exact ⟨q_fm.trans hF.box, hF.chipk hT.size q_m q_gx q_gb hdq, ⟨W, hM⟩, ⟨W2, m2.keep q_fr q_f1 q_f2⟩, hF.tr.keepb q_gt, hF.wt.keepb q_gw, hF.st.keepb q_gs, hF.nd, fun g h => Nat.lt_of_lt_of_le (hF.lt g h) hT.size, hF.dj, hF.fl, hF.ltr, hF.lwt, hF.lwa, hF.lst, hF.datk hdq, hF.may, hF.hL, hF.hN⟩
theorem FlW.freshT {w w' : World} {F : FlK} {a b c d e : Int} {fs : List Flt} {L N : Nat} {s : FlS} (hF : FlW w F a b c d e fs L N s) {A : List Int} {W : List Int} (hT : Tch (fun g => g = F.f1 ∨ g = F.f2) w w') (hM : MapW w' F.fr F.f1 F.f2 a b c d e L N A W) : FlW w' F a b c d e fs L N { s with fA := A } := by
  have hdq : ∀ g ∈ F.dat, w'.heap[g]? = w.heap[g]? := fun g h => hT.far g (hF.lt g (Or.inr h)) (fun e => hF.dj g h (by 
      rcases e with e | e
      · rw [e]; exact flB_f1
      · rw [e]; exact flB_f2))
  have q_fm : w'.heap[F.fm]? = w.heap[F.fm]? := hT.far _ (hF.blt flB_fm) (fun e => by
      rcases e with e | e
      · exact absurd e (hF.ne 0 8)
      · exact absurd e (hF.ne 0 9))
  have q_m : w'.heap[F.m]? = w.heap[F.m]? := hT.far _ (hF.blt flB_m) (fun e => by
      rcases e with e | e
      · exact absurd e (hF.ne 1 8)
      · exact absurd e (hF.ne 1 9))
  have q_gx : w'.heap[F.gx]? = w.heap[F.gx]? := hT.far _ (hF.blt flB_gx) (fun e => by
      rcases e with e | e
      · exact absurd e (hF.ne 2 8)
      · exact absurd e (hF.ne 2 9))
  have q_gb : w'.heap[F.gb]? = w.heap[F.gb]? := hT.far _ (hF.blt flB_gb) (fun e => by
      rcases e with e | e
      · exact absurd e (hF.ne 3 8)
      · exact absurd e (hF.ne 3 9))
  have q_km : w'.heap[F.km]? = w.heap[F.km]? := hT.far _ (hF.blt flB_km) (fun e => by
      rcases e with e | e
      · exact absurd e (hF.ne 4 8)
      · exact absurd e (hF.ne 4 9))
  have q_k1 : w'.heap[F.k1]? = w.heap[F.k1]? := hT.far _ (hF.blt flB_k1) (fun e => by
      rcases e with e | e
      · exact absurd e (hF.ne 5 8)
      · exact absurd e (hF.ne 5 9))
  have q_k2 : w'.heap[F.k2]? = w.heap[F.k2]? := hT.far _ (hF.blt flB_k2) (fun e => by
      rcases e with e | e
      · exact absurd e (hF.ne 6 8)
      · exact absurd e (hF.ne 6 9))
  have q_fr : w'.heap[F.fr]? = w.heap[F.fr]? := hT.far _ (hF.blt flB_fr) (fun e => by
      rcases e with e | e
      · exact absurd e (hF.ne 7 8)
      · exact absurd e (hF.ne 7 9))
  have q_gt : w'.heap[F.gt]? = w.heap[F.gt]? := hT.far _ (hF.blt flB_gt) (fun e => by
      rcases e with e | e
      · exact absurd e.symm (hF.ne 8 10)
      · exact absurd e.symm (hF.ne 9 10))
  have q_gw : w'.heap[F.gw]? = w.heap[F.gw]? := hT.far _ (hF.blt flB_gw) (fun e => by
      rcases e with e | e
      · exact absurd e.symm (hF.ne 8 11)
      · exact absurd e.symm (hF.ne 9 11))
  have q_gs : w'.heap[F.gs]? = w.heap[F.gs]? := hT.far _ (hF.blt flB_gs) (fun e => by
      rcases e with e | e
      · exact absurd e.symm (hF.ne 8 12)
      · exact absurd e.symm (hF.ne 9 12))
  obtain ⟨W1, m1⟩ := hF.kept
  obtain ⟨W2, m2⟩ := hF.fresh
  exact ⟨q_fm.trans hF.box, hF.chipk hT.size q_m q_gx q_gb hdq, ⟨W1, m1.keep q_km q_k1 q_k2⟩, ⟨W, hM⟩, hF.tr.keepb q_gt, hF.wt.keepb q_gw, hF.st.keepb q_gs, hF.nd, fun g h => Nat.lt_of_lt_of_le (hF.lt g h) hT.size, hF.dj, hF.fl, hF.ltr, hF.lwt, hF.lwa, hF.lst, hF.datk hdq, hF.may, hF.hL, hF.hN⟩
theorem FlW.trT {w w' : World} {F : FlK} {a b c d e : Int} {fs : List Flt} {L N : Nat} {s : FlS} (hF : FlW w F a b c d e fs L N s) {l : List Bool} (hT : Tch (fun g => g = F.gt) w w') (hR : RowT w' F.gt 4 (l.map Value.bool)) (hl : l.length = L) : FlW w' F a b c d e fs L N { s with tr := l } := by
  have hdq : ∀ g ∈ F.dat, w'.heap[g]? = w.heap[g]? := fun g h => hT.far g (hF.lt g (Or.inr h)) (fun e => hF.dj g h (by rw [e]; exact flB_gt))
  have q_fm : w'.heap[F.fm]? = w.heap[F.fm]? := hT.far _ (hF.blt flB_fm) (fun e => by exact absurd e (hF.ne 0 10))
  have q_m : w'.heap[F.m]? = w.heap[F.m]? := hT.far _ (hF.blt flB_m) (fun e => by exact absurd e (hF.ne 1 10))
  have q_gx : w'.heap[F.gx]? = w.heap[F.gx]? := hT.far _ (hF.blt flB_gx) (fun e => by exact absurd e (hF.ne 2 10))
  have q_gb : w'.heap[F.gb]? = w.heap[F.gb]? := hT.far _ (hF.blt flB_gb) (fun e => by exact absurd e (hF.ne 3 10))
  have q_km : w'.heap[F.km]? = w.heap[F.km]? := hT.far _ (hF.blt flB_km) (fun e => by exact absurd e (hF.ne 4 10))
  have q_k1 : w'.heap[F.k1]? = w.heap[F.k1]? := hT.far _ (hF.blt flB_k1) (fun e => by exact absurd e (hF.ne 5 10))
  have q_k2 : w'.heap[F.k2]? = w.heap[F.k2]? := hT.far _ (hF.blt flB_k2) (fun e => by exact absurd e (hF.ne 6 10))
  have q_fr : w'.heap[F.fr]? = w.heap[F.fr]? := hT.far _ (hF.blt flB_fr) (fun e => by exact absurd e (hF.ne 7 10))
  have q_f1 : w'.heap[F.f1]? = w.heap[F.f1]? := hT.far _ (hF.blt flB_f1) (fun e => by exact absurd e (hF.ne 8 10))
  have q_f2 : w'.heap[F.f2]? = w.heap[F.f2]? := hT.far _ (hF.blt flB_f2) (fun e => by exact absurd e (hF.ne 9 10))
  have q_gw : w'.heap[F.gw]? = w.heap[F.gw]? := hT.far _ (hF.blt flB_gw) (fun e => by exact absurd e.symm (hF.ne 10 11))
  have q_gs : w'.heap[F.gs]? = w.heap[F.gs]? := hT.far _ (hF.blt flB_gs) (fun e => by exact absurd e.symm (hF.ne 10 12))
  obtain ⟨W1, m1⟩ := hF.kept
  obtain ⟨W2, m2⟩ := hF.fresh
  exact ⟨q_fm.trans hF.box, hF.chipk hT.size q_m q_gx q_gb hdq, ⟨W1, m1.keep q_km q_k1 q_k2⟩, ⟨W2, m2.keep q_fr q_f1 q_f2⟩, hR, hF.wt.keepb q_gw, hF.st.keepb q_gs, hF.nd, fun g h => Nat.lt_of_lt_of_le (hF.lt g h) hT.size, hF.dj, hF.fl, hl, hF.lwt, hF.lwa, hF.lst, hF.datk hdq, hF.may, hF.hL, hF.hN⟩
theorem FlW.stT {w w' : World} {F : FlK} {a b c d e : Int} {fs : List Flt} {L N : Nat} {s : FlS} (hF : FlW w F a b c d e fs L N s) {l : List Bool} (hT : Tch (fun g => g = F.gs) w w') (hR : RowT w' F.gs 4 (l.map Value.bool)) (hl : l.length = L) : FlW w' F a b c d e fs L N { s with st := l } := by
  have hdq : ∀ g ∈ F.dat, w'.heap[g]? = w.heap[g]? := fun g h => hT.far g (hF.lt g (Or.inr h)) (fun e => hF.dj g h (by rw [e]; exact flB_gs))
  have q_fm : w'.heap[F.fm]? = w.heap[F.fm]? := hT.far _ (hF.blt flB_fm) (fun e => by exact absurd e (hF.ne 0 12))
  have q_m : w'.heap[F.m]? = w.heap[F.m]? := hT.far _ (hF.blt flB_m) (fun e => by exact absurd e (hF.ne 1 12))
  have q_gx : w'.heap[F.gx]? = w.heap[F.gx]? := hT.far _ (hF.blt flB_gx) (fun e => by exact absurd e (hF.ne 2 12))
  have q_gb : w'.heap[F.gb]? = w.heap[F.gb]? := hT.far _ (hF.blt flB_gb) (fun e => by exact absurd e (hF.ne 3 12))
  have q_km : w'.heap[F.km]? = w.heap[F.km]? := hT.far _ (hF.blt flB_km) (fun e => by exact absurd e (hF.ne 4 12))
  have q_k1 : w'.heap[F.k1]? = w.heap[F.k1]? := hT.far _ (hF.blt flB_k1) (fun e => by exact absurd e (hF.ne 5 12))
  have q_k2 : w'.heap[F.k2]? = w.heap[F.k2]? := hT.far _ (hF.blt flB_k2) (fun e => by exact absurd e (hF.ne 6 12))
  have q_fr : w'.heap[F.fr]? = w.heap[F.fr]? := hT.far _ (hF.blt flB_fr) (fun e => by exact absurd e (hF.ne 7 12))
  have q_f1 : w'.heap[F.f1]? = w.heap[F.f1]? := hT.far _ (hF.blt flB_f1) (fun e => by exact absurd e (hF.ne 8 12))
  have q_f2 : w'.heap[F.f2]? = w.heap[F.f2]? := hT.far _ (hF.blt flB_f2) (fun e => by exact absurd e (hF.ne 9 12))
  have q_gt : w'.heap[F.gt]? = w.heap[F.gt]? := hT.far _ (hF.blt flB_gt) (fun e => by exact absurd e (hF.ne 10 12))
  have q_gw : w'.heap[F.gw]? = w.heap[F.gw]? := hT.far _ (hF.blt flB_gw) (fun e => by exact absurd e (hF.ne 11 12))
  obtain ⟨W1, m1⟩ := hF.kept
  obtain ⟨W2, m2⟩ := hF.fresh
  exact ⟨q_fm.trans hF.box, hF.chipk hT.size q_m q_gx q_gb hdq, ⟨W1, m1.keep q_km q_k1 q_k2⟩, ⟨W2, m2.keep q_fr q_f1 q_f2⟩, hF.tr.keepb q_gt, hF.wt.keepb q_gw, hR, hF.nd, fun g h => Nat.lt_of_lt_of_le (hF.lt g h) hT.size, hF.dj, hF.fl, hF.ltr, hF.lwt, hF.lwa, hl, hF.datk hdq, hF.may, hF.hL, hF.hN⟩
theorem FlW.trSet {w : World} {F : FlK} {a b c d e : Int} {fs : List Flt} {L N : Nat} {s : FlS} (hF : FlW w F a b c d e fs L N s) {k : Nat} (hk : k < L) (v : Bool) : FlW (w.setCell ⟨F.gt, k, none⟩ (.bool v)) F a b c d e fs L N { s with tr := s.tr.set k v } ∧ Tch (FlB F) w (w.setCell ⟨F.gt, k, none⟩ (.bool v)) := by
  have hT : Tch (fun g => g = F.gt) w (w.setCell ⟨F.gt, k, none⟩ (.bool v)) := Tch.setm w F.gt k _
  have hl := hF.ltr
  refine ⟨hF.trT hT ?_ (by rw [List.length_set]; exact hl), hT.mono (fun g h => by rw [h]; exact flB_gt)⟩
  rw [List.map_set]
  exact hF.tr.set_ (by rw [List.length_map]; omega) _
theorem FlW.stSet {w : World} {F : FlK} {a b c d e : Int} {fs : List Flt} {L N : Nat} {s : FlS} (hF : FlW w F a b c d e fs L N s) {k : Nat} (hk : k < L) (v : Bool) : FlW (w.setCell ⟨F.gs, k, none⟩ (.bool v)) F a b c d e fs L N { s with st := s.st.set k v } ∧ Tch (FlB F) w (w.setCell ⟨F.gs, k, none⟩ (.bool v)) := by
  have hT : Tch (fun g => g = F.gs) w (w.setCell ⟨F.gs, k, none⟩ (.bool v)) := Tch.setm w F.gs k _
  have hl := hF.lst
  refine ⟨hF.stT hT ?_ (by rw [List.length_set]; exact hl), hT.mono (fun g h => by rw [h]; exact flB_gs)⟩
  rw [List.map_set]
  exact hF.st.set_ (by rw [List.length_map]; omega) _
theorem FlW.seqSet {w : World} {F : FlK} {a b c d e : Int} {fs : List Flt} {L N : Nat} {s : FlS} (hF : FlW w F a b c d e fs L N s) (v : Int) : FlW (w.setCell ⟨F.fm, 8, none⟩ (.int .i64 v)) F a b c d e fs L N { s with seq := v } ∧ Tch (FlB F) w (w.setCell ⟨F.fm, 8, none⟩ (.int .i64 v)) := by
  have hT : Tch (fun g => g = F.fm) w (w.setCell ⟨F.fm, 8, none⟩ (.int .i64 v)) := Tch.setm w F.fm 8 _
  exact ⟨hF.put hT (by have := hF.box.set_ 8 (.int .i64 v); simpa using this), hT.mono (fun g h => by rw [h]; exact flB_fm)⟩
theorem FlW.epoSet {w : World} {F : FlK} {a b c d e : Int} {fs : List Flt} {L N : Nat} {s : FlS} (hF : FlW w F a b c d e fs L N s) (v : Int) : FlW (w.setCell ⟨F.fm, 9, none⟩ (.int .i64 v)) F a b c d e fs L N { s with epoch := v } ∧ Tch (FlB F) w (w.setCell ⟨F.fm, 9, none⟩ (.int .i64 v)) := by
  have hT : Tch (fun g => g = F.fm) w (w.setCell ⟨F.fm, 9, none⟩ (.int .i64 v)) := Tch.setm w F.fm 9 _
  exact ⟨hF.put hT (by have := hF.box.set_ 9 (.int .i64 v); simpa using this), hT.mono (fun g h => by rw [h]; exact flB_fm)⟩
theorem FlW.comSet {w : World} {F : FlK} {a b c d e : Int} {fs : List Flt} {L N : Nat} {s : FlS} (hF : FlW w F a b c d e fs L N s) (x y : Int) : FlW (((w.setCell ⟨F.fm, 13, none⟩ (.int .i64 x)).setCell ⟨F.fm, 14, none⟩ (.int .i64 y)).setCell ⟨F.fm, 15, none⟩ (.bool true)) F a b c d e fs L N { s with cx := x, cy := y, sld := true } ∧ Tch (FlB F) w (((w.setCell ⟨F.fm, 13, none⟩ (.int .i64 x)).setCell ⟨F.fm, 14, none⟩ (.int .i64 y)).setCell ⟨F.fm, 15, none⟩ (.bool true)) := by
  have hT : Tch (fun g => g = F.fm) w (((w.setCell ⟨F.fm, 13, none⟩ (.int .i64 x)).setCell ⟨F.fm, 14, none⟩ (.int .i64 y)).setCell ⟨F.fm, 15, none⟩ (.bool true)) := ((Tch.setm w F.fm 13 _).trans (Tch.setm _ F.fm 14 _)).trans (Tch.setm _ F.fm 15 _)
  refine ⟨hF.put hT ?_, hT.mono (fun g h => by rw [h]; exact flB_fm)⟩
  have h1 := hF.box.set_ 13 (.int .i64 x)
  have h2 := h1.set_ 14 (.int .i64 y)
  have h3 := h2.set_ 15 (.bool true)
  simpa using h3
theorem FlW.keptPut {w w' : World} {F : FlK} {a b c d e : Int} {fs : List Flt} {L N : Nat} {s : FlS} (hF : FlW w F a b c d e fs L N s) {A W : List Int} (hM : MapW w' F.km F.k1 F.k2 a b c d e L N A W) (hT : Touch F.k1 F.k2 w w') (ho : w'.os = w.os ∧ w'.tape = w.tape ∧ w'.output = w.output) : FlW w' F a b c d e fs L N { s with kA := A } ∧ Tch (FlB F) w w' := by
  have hT2 : Tch (fun g => g = F.k1 ∨ g = F.k2) w w' := ⟨hT.size, fun g hg h => hT.far g hg (fun e => h (Or.inl e)) (fun e => h (Or.inr e)), ho.1, ho.2.1, ho.2.2⟩
  exact ⟨hF.keptT hT2 hM, hT2.mono (fun g h => by rcases h with h | h <;> rw [h]; exact flB_k1; exact flB_k2)⟩
theorem Touch.out {g1 g2 : Nat} {w w' : World} (h : Touch g1 g2 w w') : w'.os = w.os ∧ w'.tape = w.tape ∧ w'.output = w.output := by
  have hb := h.bel 0 (Nat.zero_le _) (Nat.zero_le _) (Nat.zero_le _)
  exact ⟨hb.os, hb.tape, hb.output⟩
end Go.Proofs.YtkpcohfdcilfcaaGreat
namespace Go.Proofs.YtkpcohfdcilfcaaGreat
structure Fd where
  b : Int
  g : Int
  k : Int
  p : Int
  s : Int
  e : Int
def lastS (n : Int) (f : Fd) : Int := if f.k = 3 then max n f.e else n
def lastZ (fs : List Fd) : Int := fs.foldl lastS 0
def newer (a b : Fd) : Bool := if a.e = b.e then decide (b.s < a.s) else decide (b.e < a.e)
def counts (last : Int) (f : Fd) : Bool := (decide (f.k = 1) || decide (f.k = 2)) && decide (f.e ≤ last)
def stepN (last p : Int) (o : Option Fd) (f : Fd) : Option Fd :=
  if counts last f = true ∧ f.p = p then
    match o with
    | none => some f
    | some x => if newer f x = true then some f else some x
  else o
def newestZ (last : Int) (fs : List Fd) (p : Int) : Option Fd := fs.foldl (stepN last p) none
def staleZ (fs : List Fd) : List Fd := fs.filter (fun f => decide (lastZ fs < f.e))
def IsAll (fs L : List Fd) : Prop := L.Pairwise (fun x y => x.p < y.p) ∧ ∀ x, x ∈ L ↔ (newestZ (lastZ fs) fs x.p = some x ∧ x.k = 1)
/-! ### last -/
/-! ### newer -/
theorem newer_false {a b : Fd} (h : newer a b = false) : a.e < b.e ∨ (a.e = b.e ∧ a.s ≤ b.s) := by
  unfold newer at h
  split at h
  · rename_i he
    have := of_decide_eq_false h
    right
    exact ⟨he, by omega⟩
  · have := of_decide_eq_false h
    left
    omega
theorem newer_true {a b : Fd} (h : newer a b = true) : b.e < a.e ∨ (a.e = b.e ∧ b.s < a.s) := by
  unfold newer at h
  split at h
  · rename_i he
    exact Or.inr ⟨he, of_decide_eq_true h⟩
  · exact Or.inl (of_decide_eq_true h)
theorem newer_irrefl (a : Fd) : newer a a = false := by
  unfold newer
  simp
/-! ### newest -/
def Cand (last p : Int) (x : Fd) : Prop := counts last x = true ∧ x.p = p
theorem newestF_spec (last p : Int) : ∀ (fs : List Fd) (o : Option Fd), (∀ x, o = some x → Cand last p x) →
    match fs.foldl (stepN last p) o with
    | none => o = none ∧ ∀ y ∈ fs, ¬ Cand last p y
    | some x => (o = some x ∨ x ∈ fs) ∧ Cand last p x ∧ (∀ y, o = some y → newer y x = false) ∧ ∀ y ∈ fs, Cand last p y → newer y x = false
  | [], o, ho => by
    cases o with
    | none => exact ⟨rfl, by simp⟩
    | some x => exact ⟨Or.inl rfl, ho x rfl, fun y hy => by cases hy; exact newer_irrefl x, by simp⟩
  | f :: fs, o, ho => by
    rw [List.foldl_cons]
    have ho2 : ∀ x, stepN last p o f = some x → Cand last p x := by
      intro x hx
      unfold stepN at hx
      split at hx
      · rename_i hc
        cases o with
        | none => cases hx; exact hc
        | some y =>
          dsimp only at hx
          split at hx
          · cases hx; exact hc
          · cases hx; exact ho _ rfl
      · exact ho x hx
    have ih := newestF_spec last p fs (stepN last p o f) ho2
    generalize fs.foldl (stepN last p) (stepN last p o f) = r at ih ⊢
    cases r with
    | none =>
      obtain ⟨h1, h2⟩ := ih
      have h3 : o = none ∧ ¬ Cand last p f := by
        unfold stepN at h1
        split at h1
        · cases o with
          | none => cases h1
          | some y => dsimp only at h1; split at h1 <;> cases h1
        · rename_i hc
          exact ⟨h1, hc⟩
      refine ⟨h3.1, fun y hy => ?_⟩
      rcases List.mem_cons.1 hy with rfl | hy
      · exact h3.2
      · exact h2 y hy
    | some x =>
      obtain ⟨h1, h2, h3, h4⟩ := ih
      have hmid : (∀ y, o = some y → newer y x = false) ∧ (Cand last p f → newer f x = false) ∧ (stepN last p o f = some x → o = some x ∨ f = x) := by
        unfold stepN at h3 ⊢
        by_cases hc : counts last f = true ∧ f.p = p
        · rw [if_pos hc] at h3 ⊢
          cases o with
          | none =>
            refine ⟨by simp, fun _ => h3 f rfl, fun h => ?_⟩
            cases h
            exact Or.inr rfl
          | some z =>
            dsimp only at h3 ⊢
            by_cases hn : newer f z = true
            · rw [if_pos hn] at h3 ⊢
              have := h3 f rfl
              refine ⟨fun y hy => ?_, fun _ => this, fun h => ?_⟩
              · cases hy
                have a1 := newer_true hn
                have a2 := newer_false this
                apply Bool.eq_false_iff.2
                intro a3
                have a3 := newer_true a3
                omega
              · cases h
                exact Or.inr rfl
            · rw [if_neg hn] at h3 ⊢
              have := h3 z rfl
              refine ⟨fun y hy => ?_, fun _ => ?_, fun h => ?_⟩
              · cases hy
                exact this
              · have a1 := newer_false (Bool.eq_false_iff.2 hn)
                have a2 := newer_false this
                apply Bool.eq_false_iff.2
                intro a3
                have a3 := newer_true a3
                omega
              · exact Or.inl h
        · rw [if_neg hc] at h3 ⊢
          exact ⟨h3, fun h => absurd h hc, fun h => Or.inl h⟩
      refine ⟨?_, h2, hmid.1, fun y hy hcy => ?_⟩
      · rcases h1 with h1 | h1
        · rcases hmid.2.2 h1 with h | h
          · exact Or.inl h
          · exact Or.inr (by simp [h])
        · exact Or.inr (by simp [h1])
      · rcases List.mem_cons.1 hy with rfl | hy
        · exact hmid.2.1 hcy
        · exact h4 y hy hcy
theorem newestZ_some {last p : Int} {fs : List Fd} {x : Fd} (h : newestZ last fs p = some x) : x ∈ fs ∧ counts last x = true ∧ x.p = p ∧ ∀ y ∈ fs, counts last y = true → y.p = p → newer y x = false := by
  have := newestF_spec last p fs none (by simp)
  unfold newestZ at h
  rw [h] at this
  obtain ⟨h1, h2, _, h4⟩ := this
  refine ⟨?_, h2.1, h2.2, fun y hy a b => h4 y hy ⟨a, b⟩⟩
  rcases h1 with h1 | h1
  · cases h1
  · exact h1
theorem newestZ_snoc (last p : Int) (fs : List Fd) (x : Fd) : newestZ last (fs ++ [x]) p = stepN last p (newestZ last fs p) x := by
  unfold newestZ
  rw [List.foldl_append]
  rfl
/-! ### all -/
theorem sorted_unique : ∀ (a b : List Fd), a.Pairwise (fun x y => x.p < y.p) → b.Pairwise (fun x y => x.p < y.p) → (∀ x, x ∈ a ↔ x ∈ b) → a = b
  | [], [], _, _, _ => rfl
  | [], y :: b, _, _, h => by have := (h y).2 (by simp); simp at this
  | x :: a, [], _, _, h => by have := (h x).1 (by simp); simp at this
  | x :: a, y :: b, ha, hb, h => by
    obtain ⟨ha1, ha2⟩ := List.pairwise_cons.1 ha
    obtain ⟨hb1, hb2⟩ := List.pairwise_cons.1 hb
    have exy : x = y := by
      rcases List.mem_cons.1 ((h x).1 (by simp)) with e | e
      · exact e
      · rcases List.mem_cons.1 ((h y).2 (by simp)) with e2 | e2
        · exact e2.symm
        · have := hb1 x e
          have := ha1 y e2
          omega
    subst exy
    congr 1
    refine sorted_unique a b ha2 hb2 (fun z => ?_)
    constructor
    · intro hz
      rcases List.mem_cons.1 ((h z).1 (by simp [hz])) with e | e
      · subst e
        have := ha1 z hz
        omega
      · exact e
    · intro hz
      rcases List.mem_cons.1 ((h z).2 (by simp [hz])) with e | e
      · subst e
        have := hb1 z hz
        omega
      · exact e
theorem IsAll.unique {fs a b : List Fd} (ha : IsAll fs a) (hb : IsAll fs b) : a = b :=
  sorted_unique a b ha.1 hb.1 (fun x => (ha.2 x).trans (hb.2 x).symm)
theorem IsAll.congr {fs gs a b : List Fd} (ha : IsAll fs a) (hb : IsAll gs b) (h : ∀ p, newestZ (lastZ fs) fs p = newestZ (lastZ gs) gs p) : a = b :=
  sorted_unique a b ha.1 hb.1 (fun x => by rw [ha.2 x, hb.2 x, h x.p])
/-! ### the laws -/
def lastOf (p : Int) (o : Option Fd) (f : Fd) : Option Fd := if f.p = p then some f else o
end Go.Proofs.YtkpcohfdcilfcaaGreat
namespace Go.Proofs.YtkpcohfdcilfcaaGreat
open Go.ChangeShapes Go.WideShapes Go.ChangeAt Go.RowKit Go.Deep
def LeafOk : Option IntKind → Value → Prop
  | some k, v => ∃ z, v = .int k z ∧ (Lit.int k z).wf = true
  | none, v => ∃ b, v = .bool b
def Flat : List (Option IntKind) → List Value → Prop
  | [], cs => cs = []
  | l :: ls, cs => ∃ v r, cs = v :: r ∧ LeafOk l v ∧ Flat ls r
theorem Flat.append : ∀ {ls ms : List (Option IntKind)} {cs ds : List Value}, Flat ls cs → Flat ms ds → Flat (ls ++ ms) (cs ++ ds)
  | [], _, cs, ds, h, k => by
    obtain rfl : cs = [] := h
    exact k
  | _ :: ls, _, _, _, h, k => by
    obtain ⟨v, r, rfl, h1, h2⟩ := h
    exact ⟨v, r ++ _, rfl, h1, h2.append k⟩
theorem Flat.length : ∀ {ls : List (Option IntKind)} {cs : List Value}, Flat ls cs → cs.length = ls.length
  | [], cs, h => by
    obtain rfl : cs = [] := h
    rfl
  | _ :: ls, _, h => by
    obtain ⟨v, r, rfl, _, h2⟩ := h
    simp [h2.length]
def flatFields (P : Program) (sh : TypeId → Option (List (Option IntKind))) : List Field → Nat → Option (List (Option IntKind))
  | [], _ => some []
  | f :: fs, o =>
    if f.offset = o then
      match sh f.type with
      | some l => if P.cellsOf f.type = l.length then
          match flatFields P sh fs (o + l.length) with
          | some r => some (l ++ r)
          | none => none
        else none
      | none => none
    else none
def flatShape (P : Program) : Nat → TypeId → Option (List (Option IntKind))
  | 0, _ => none
  | n + 1, t => match P.underlying t with
    | some (.int k) => some [some k]
    | some .bool => some [none]
    | some (.struct fs) => match flatFields P (flatShape P n) fs.toList 0 with
      | some l => if P.cellsOf t = l.length then some l else none
      | none => none
    | _ => none
section
variable {H : Type} {enc : TypeId × Value → H} {P : Program} {w : World} {base : Nat} {spare : Nat → Bool} {held : Bool}
end
def SlE (C : Nat) (w : World) (B : Nat) (A : Option Addr) (es : List (List Value)) : Prop :=
  es = [] ∨ ∃ b off, A = some ⟨b, off, none⟩ ∧ b < B ∧ ∀ k x, es[k]? = some x → ∀ j u, x[j]? = some u → w.cell? ⟨b, off + k * C + j, none⟩ = some u
theorem SlE.at_ {C : Nat} {w : World} {B : Nat} {A : Option Addr} {es : List (List Value)} (h : SlE C w B A es) (hn : 0 < es.length) :
    ∃ b off, A = some ⟨b, off, none⟩ ∧ b < B ∧ ∀ k x, es[k]? = some x → ∀ j u, x[j]? = some u → w.cell? ⟨b, off + k * C + j, none⟩ = some u := by
  rcases h with rfl | h
  · simp at hn
  · exact h
theorem SlE.below {C : Nat} {w w' : World} {B : Nat} {A : Option Addr} {es : List (List Value)} (h : SlE C w B A es) (hb : Below B w w') : SlE C w' B A es := by
  rcases h with h | ⟨b, off, e, hlt, hc⟩
  · exact Or.inl h
  · exact Or.inr ⟨b, off, e, hlt, fun k x hx j u hu => (hb.cell (p := ⟨b, _, none⟩) hlt).trans (hc k x hx j u hu)⟩
theorem SlE.mono {C : Nat} {w : World} {B B' : Nat} {A : Option Addr} {es : List (List Value)} (h : SlE C w B A es) (hB : B ≤ B') : SlE C w B' A es := by
  rcases h with h | ⟨b, off, e, hlt, hc⟩
  · exact Or.inl h
  · exact Or.inr ⟨b, off, e, by omega, hc⟩
theorem SlE.next {C : Nat} {w w' : World} {A : Option Addr} {es : List (List Value)} (h : SlE C w w.heap.size A es) (hb : Below w.heap.size w w') : SlE C w' w'.heap.size A es := (h.below hb).mono hb.size
section
variable {H : Type} {enc : TypeId × Value → H} {P : Program} {w : World} {base : Nat} {spare : Nat → Bool} {held : Bool}
def eltOf (w : World) (b off C i : Nat) : List Value := (List.range C).map fun j => (w.cell? ⟨b, off + i * C + j, none⟩).getD undef
end
theorem Flat.int {k : IntKind} {ls : List (Option IntKind)} {cs : List Value} (h : Flat (some k :: ls) cs) : ∃ z r, cs = .int k z :: r ∧ (Lit.int k z).wf = true ∧ Flat ls r := by
  obtain ⟨v, r, rfl, ⟨z, rfl, hw⟩, h2⟩ := h
  exact ⟨z, r, rfl, hw, h2⟩
theorem Flat.bool {ls : List (Option IntKind)} {cs : List Value} (h : Flat (none :: ls) cs) : ∃ z r, cs = .bool z :: r ∧ Flat ls r := by
  obtain ⟨v, r, rfl, ⟨z, rfl⟩, h2⟩ := h
  exact ⟨z, r, rfl, h2⟩
theorem Flat.nil {cs : List Value} (h : Flat [] cs) : cs = [] := h
end Go.Proofs.YtkpcohfdcilfcaaGreat
namespace Go.Proofs.YtkpcohfdcilfcaaGreat
open Go.ChangeShapes Go.WideShapes Go.ChangeAt Go.RowKit
def lowI (x n : Int) : Int := (x % 18446744073709551616) % n
end Go.Proofs.YtkpcohfdcilfcaaGreat
namespace Go.Proofs.YtkpcohfdcilfcaaGreat
open Go.ChangeShapes Go.WideShapes Go.ChangeAt Go.RowKit
theorem Sl.held {W w' : World} {A : Option Addr} {vs : List Value} (h : Sl W W.heap.size A vs) (hz : W.heap.size ≤ w'.heap.size) (hc : ∀ b o, b < W.heap.size → w'.cell? ⟨b, o, none⟩ = W.cell? ⟨b, o, none⟩) : Sl w' w'.heap.size A vs := by
  rcases h with h | ⟨b, off, e, hlt, hq⟩
  · exact Or.inl h
  · exact Or.inr ⟨b, off, e, by omega, fun k v hv => (hc b (off + k) hlt).trans (hq k v hv)⟩
end Go.Proofs.YtkpcohfdcilfcaaGreat
namespace Go.Proofs.YtkpcohfdcilfcaaGreat
open Go.ChangeShapes Go.WideShapes Go.ChangeAt Go.RowKit
def iOf : Value → Int
  | .int _ q => q
  | _ => 0
def fCs (x : Fd) : List Value := [.int .i64 x.b, .int .i64 x.g, .int .i64 x.k, .int .i64 x.p, .int .i64 x.s, .int .i64 x.e]
def FdOk (x : Fd) : Prop := i64in x.b ∧ i64in x.g ∧ i64in x.k ∧ i64in x.p ∧ i64in x.s ∧ i64in x.e
def SlFd (w : World) (B : Nat) (A : Option Addr) (fs : List Fd) : Prop := SlE 6 w B A (fs.map fCs)
theorem SlFd.next {w w' : World} {A : Option Addr} {fs : List Fd} (h : SlFd w w.heap.size A fs) (hb : Below w.heap.size w w') : SlFd w' w'.heap.size A fs := SlE.next h hb
theorem SlFd.below {w w' : World} {B : Nat} {A : Option Addr} {fs : List Fd} (h : SlFd w B A fs) (hb : Below B w w') : SlFd w' B A fs := SlE.below h hb
theorem SlFd.mono {w : World} {B B' : Nat} {A : Option Addr} {fs : List Fd} (h : SlFd w B A fs) (hB : B ≤ B') : SlFd w B' A fs := SlE.mono h hB
theorem SlFd.nil_ {w : World} {B : Nat} {A : Option Addr} : SlFd w B A [] := Or.inl rfl
theorem SlFd.at_ {w : World} {B : Nat} {A : Option Addr} {fs : List Fd} (h : SlFd w B A fs) (hn : 0 < fs.length) :
    ∃ b off, A = some ⟨b, off, none⟩ ∧ b < B ∧ ∀ (k : Nat) (x : Fd), fs[k]? = some x →
      w.cell? ⟨b, off + k * 6, none⟩ = some (.int .i64 x.b) ∧ w.cell? ⟨b, off + k * 6 + 1, none⟩ = some (.int .i64 x.g) ∧ w.cell? ⟨b, off + k * 6 + 2, none⟩ = some (.int .i64 x.k) ∧ w.cell? ⟨b, off + k * 6 + 3, none⟩ = some (.int .i64 x.p) ∧ w.cell? ⟨b, off + k * 6 + 4, none⟩ = some (.int .i64 x.s) ∧ w.cell? ⟨b, off + k * 6 + 5, none⟩ = some (.int .i64 x.e) := by
  obtain ⟨b, off, e, hb, hc⟩ := SlE.at_ h (by simpa using hn)
  refine ⟨b, off, e, hb, fun k x hk => ?_⟩
  have hx : (fs.map fCs)[k]? = some (fCs x) := by simp [hk]
  exact ⟨hc k _ hx 0 _ rfl, hc k _ hx 1 _ rfl, hc k _ hx 2 _ rfl, hc k _ hx 3 _ rfl, hc k _ hx 4 _ rfl, hc k _ hx 5 _ rfl⟩
theorem flat_get : ∀ (L : List Fd) (k j : Nat) (x : Fd), L[k]? = some x → j < 6 → (L.flatMap fCs)[k * 6 + j]? = (fCs x)[j]?
  | y :: L, 0, j, x, h, hj => by
    simp at h
    subst h
    rw [List.flatMap_cons, List.getElem?_append_left (by simp [fCs]; omega)]
    simp
  | y :: L, k + 1, j, x, h, hj => by
    rw [List.flatMap_cons, List.getElem?_append_right (by simp [fCs]; omega), show (k + 1) * 6 + j - (fCs y).length = k * 6 + j by simp [fCs]; omega]
    exact flat_get L k j x (by simpa using h) hj
theorem flat_one1 (x : Fd) : ∀ u ∈ fCs x, u.oneCell' = true := by
  intro u hu
  simp [fCs] at hu
  rcases hu with rfl | rfl | rfl | rfl | rfl | rfl <;> rfl
def RowFd (w : World) (base : Nat) (v : Value) (L : List Fd) : Prop := w.ownsRow base 119 6 v L.length (L.flatMap fCs)
theorem RowFd.nil_ (w : World) (base : Nat) : RowFd w base (.slice none 0 0) [] := World.ownsRow_nil w base _ _
theorem RowFd.below {w w' : World} {base : Nat} {v : Value} {L : List Fd} (h : RowFd w base v L) (hb : Below w.heap.size w w') : RowFd w' base v L :=
  World.ownsRow.kept h (row := none) ⟨hb.os, hb.tape, hb.output, hb.size, fun k hk _ => hb.block k hk⟩ (by cases v.ownBlock <;> simp)
theorem RowFd.base {w : World} {B B' : Nat} {v : Value} {L : List Fd} (h : RowFd w B v L) (hB : B' ≤ B) : RowFd w B' v L := by
  obtain ⟨h1, h2⟩ := h
  refine ⟨h1, ?_⟩
  rcases h2 with h2 | ⟨g, cap, cur, hv, hb, h⟩
  · exact Or.inl h2
  · exact Or.inr ⟨g, cap, cur, hv, by omega, h⟩
theorem RowFd.sl {w : World} {base : Nat} {v : Value} {L : List Fd} (h : RowFd w base v L) : ∃ A c, v = .slice A L.length c ∧ SlFd w w.heap.size A L ∧ L.length ≤ c ∧ c ≤ maxLen := by
  obtain ⟨hl, h2⟩ := h
  rcases h2 with ⟨rfl, h0⟩ | ⟨g, cap, cur, hv, hb, hh, hnc, hcm, hsz, ht⟩
  · obtain rfl := List.eq_nil_of_length_eq_zero h0
    exact ⟨none, 0, rfl, SlFd.nil_, Nat.le_refl _, by unfold maxLen; omega⟩
  · refine ⟨_, cap, hv, Or.inr ⟨g, 0, rfl, ?_, fun k x hx j u hu => ?_⟩, hnc, hcm⟩
    · rcases Nat.lt_or_ge g w.heap.size with hx | hx
      · exact hx
      · rw [Array.getElem?_eq_none hx] at hh
        cases hh
    · rw [List.getElem?_map] at hx
      obtain ⟨y, hy, rfl⟩ := Option.map_eq_some_iff.1 hx
      have hj : j < 6 := (List.getElem?_eq_some_iff.1 hu).1
      have hk : k < L.length := (List.getElem?_eq_some_iff.1 hy).1
      have e := flat_get L k j y hy hj
      rw [hu, ← ht, List.getElem?_take_of_lt (by omega)] at e
      rw [Joins.cell_of_block hh, Nat.zero_add]
      simpa using e
theorem take_next {α : Type} {fs : List α} {k : Nat} {x : α} (h : fs[k]? = some x) : fs.take (k + 1) = fs.take k ++ [x] := by
  obtain ⟨hlt, rfl⟩ := List.getElem?_eq_some_iff.1 h
  rw [List.take_succ_eq_append_getElem hlt]
theorem lastZ_take {fs : List Fd} {k : Nat} {x : Fd} (h : fs[k]? = some x) : lastZ (fs.take (k + 1)) = lastS (lastZ (fs.take k)) x := by
  rw [take_next h]
  unfold lastZ
  rw [List.foldl_append]
  rfl
def newerZ (e s e' s' : Int) : Bool := if e = e' then decide (s' < s) else decide (e' < e)
theorem newer_any (k p s e k' p' s' e' : Int) (w : World) : Calls Tryz.prog 164 #[.agg #[.int .i64 k, .int .i64 p, .int .i64 s, .int .i64 e], .agg #[.int .i64 k', .int .i64 p', .int .i64 s', .int .i64 e']] w fun e2 w' => e2 = .returned (.bool (newerZ e s e' s')) ∧ Below w.heap.size w w' := by
  have hB : Below w.heap.size w ((w.alloc (.cells #[.int .i64 k, .int .i64 p, .int .i64 s, .int .i64 e] 109)).alloc (.cells #[.int .i64 k', .int .i64 p', .int .i64 s', .int .i64 e'] 109)) := ((Below.refl _ _).alloc (Nat.le_refl _) _).alloc (by simp) _
  by_cases he : e = e'
  · subst he
    rcases (by cases hq : decide (s' < s) <;> simp : decide (s' < s) = true ∨ decide (s' < s) = false) with hs | hs
    all_goals
      have hr : newerZ e s e s' = decide (s' < s) := by unfold newerZ; rw [if_pos rfl]
      rw [hr, hs]
      clear hr
      go_enter Tryz.func164, Tryz.ntmps164
      go_wp2
      go_ret
      exact ⟨rfl, hB⟩
  · rcases (by cases hq : decide (e' < e) <;> simp : decide (e' < e) = true ∨ decide (e' < e) = false) with hs | hs
    all_goals
      have hr : newerZ e s e' s' = decide (e' < e) := by unfold newerZ; rw [if_neg he]
      rw [hr, hs]
      clear hr
      go_enter Tryz.func164, Tryz.ntmps164
      go_wp2
      go_ret
      exact ⟨rfl, hB⟩
theorem last_any (fs : List Fd) (A : Option Addr) (c : Nat) (w : World) (h : SlFd w w.heap.size A fs) (n1 : fs.length ≤ 1000000) : Calls Tryz.prog 137 #[.slice A fs.length c] w fun e' w' => e' = .returned (.int .i64 (lastZ fs)) ∧ Below w.heap.size w w' := by
  go_enter Tryz.func137, Tryz.ntmps137
  go_wp2
  go_loopw [3, 8] (fun s3 s8 wr => ∃ (k : Nat) (m : Int), k ≤ fs.length ∧ s8 = .int .i64 (k : Int) ∧ s3 = .int .i64 m ∧ Hid (lastZ (fs.take k) = m) ∧ Below w.heap.size w wr) (fun _ s8 _ => fs.length - (iOf s8).toNat)
  case atStart => exact ⟨0, 0, Nat.zero_le _, rfl, rfl, Lib.hid rfl, Below.refl _ _⟩
  case round =>
    obtain ⟨k, m, hk, rfl, rfl, HM, hB⟩ := hrel
    by_cases hlt : k < fs.length
    · obtain ⟨b1, o1, rfl, l1, q1⟩ := (h.below hB).at_ (by omega)
      obtain ⟨x, hx⟩ : ∃ x, fs[k]? = some x := ⟨_, List.getElem?_eq_getElem hlt⟩
      obtain ⟨x0, x1, x2, x3, x4, x5⟩ := q1 k x hx
      have hsz := hB.size
      have l1' : b1 < wr.heap.size := by omega
      have i0 : (0 : Int) ≤ (k : Int) := by omega
      have i1 : (k : Int) < (fs.length : Int) := by omega
      have HL : Hid (lastZ (fs.take (k + 1)) = lastS m x) := Lib.hid (by rw [lastZ_take hx, HM.out])
      have HBN : Below w.heap.size w (wr.alloc (.cells #[.int .i64 x.b, .int .i64 x.g, .int .i64 x.k, .int .i64 x.p, .int .i64 x.s, .int .i64 x.e] 119)) := hB.alloc hsz _
      clear q1 hx
      by_cases hk3 : x.k = 3
      · have hk3b : (x.k == 3) = true := by simpa using hk3
        rcases (by omega : m < x.e ∨ x.e ≤ m) with hm | hm
        · have HL2 : Hid (lastZ (fs.take (k + 1)) = x.e) := Lib.hid (by rw [HL.out]; unfold lastS; rw [if_pos hk3]; omega)
          clear HL hk3
          go_wp2
          all_goals
            go_roundw
            case rel => exact ⟨k + 1, x.e, by omega, by go_num, by (try rfl); (try (simp; omega)), HL2, HBN⟩
            case measure => simp [iOf]; omega
        · have HL2 : Hid (lastZ (fs.take (k + 1)) = m) := Lib.hid (by rw [HL.out]; unfold lastS; rw [if_pos hk3]; omega)
          clear HL hk3
          go_wp2
          all_goals
            go_roundw
            case rel => exact ⟨k + 1, m, by omega, by go_num, by (try rfl); (try (simp; omega)), HL2, HBN⟩
            case measure => simp [iOf]; omega
      · have hk3b : (x.k == 3) = false := by simpa using hk3
        have HL2 : Hid (lastZ (fs.take (k + 1)) = m) := Lib.hid (by rw [HL.out]; unfold lastS; rw [if_neg hk3])
        clear HL hk3
        go_wp2
        go_roundw
        case rel => exact ⟨k + 1, m, by omega, by go_num, rfl, HL2, HBN⟩
        case measure => simp [iOf]; omega
    · obtain rfl : k = fs.length := by omega
      obtain rfl : m = lastZ fs := by rw [← HM.out, List.take_length]
      clear HM
      go_wp2
      go_ret
      exact ⟨rfl, hB⟩
end Go.Proofs.YtkpcohfdcilfcaaGreat
namespace Go.Proofs.YtkpcohfdcilfcaaGreat
open Go.ChangeShapes Go.WideShapes Go.ChangeAt Go.RowKit
theorem infoFd : (Tryz.prog.info? 119).map (fun i => (i.zero, i.size, i.bytes)) = some (some (.agg #[.int .i64 0, .int .i64 0, .int .i64 0, .int .i64 0, .int .i64 0, .int .i64 0]), 6, 48) := by kernel_rfl
@[go_sem] theorem build_fdK (x : Fd) (w : World) : (Instr.buildSlice 93 1 #[(0, (.agg #[.int .i64 x.b, .int .i64 x.g, .int .i64 x.k, .int .i64 x.p, .int .i64 x.s, .int .i64 x.e]))]).run Tryz.prog w = .ok (.slice (some ⟨w.heap.size, 0, none⟩) 1 1) (w.alloc (.cells #[.int .i64 x.b, .int .i64 x.g, .int .i64 x.k, .int .i64 x.p, .int .i64 x.s, .int .i64 x.e] 119)) := by kernel_rfl
theorem rd_new (w : World) (x : Fd) {g : Nat} (hg : g = w.heap.size) : Rd (w.alloc (.cells #[.int .i64 x.b, .int .i64 x.g, .int .i64 x.k, .int .i64 x.p, .int .i64 x.s, .int .i64 x.e] 119)) (some ⟨g, 0, none⟩) 1 6 (fCs x) := by
  subst hg
  refine ⟨rfl, Or.inr ⟨_, 0, rfl, fun j u hj => ?_⟩⟩
  rw [Joins.cell_of_block (heap_alloc_new w _), Nat.zero_add]
  simpa [fCs] using hj
theorem flat_snoc (L : List Fd) (x : Fd) : (L ++ [x]).flatMap fCs = L.flatMap fCs ++ fCs x := by
  rw [List.flatMap_append]
  simp
theorem RowFd.snocK {w : World} {base : Nat} {v : Value} {L : List Fd} {x : Fd} (h : w.ownsRow base 119 6 v (L.length + 1) (L.flatMap fCs ++ fCs x)) : RowFd w base v (L ++ [x]) := by
  unfold RowFd
  rw [List.length_append, flat_snoc]
  exact h
/-! ### maps -/
def zFd : Fd := ⟨0, 0, 0, 0, 0, 0⟩
def RFd : Value → Option (DataW Fd × List MemPlace)
  | .agg cs => match cs.toList with
    | [.int .i64 b, .int .i64 g, .int .i64 k, .int .i64 p, .int .i64 s, .int .i64 e] => some (.held ⟨b, g, k, p, s, e⟩, [])
    | _ => none
  | _ => none
theorem RFd_mk (x : Fd) : RFd (.agg #[.int .i64 x.b, .int .i64 x.g, .int .i64 x.k, .int .i64 x.p, .int .i64 x.s, .int .i64 x.e]) = some (.held x, []) := rfl
theorem RFd_inv {v : Value} {x : Fd} {ps : List MemPlace} (h : RFd v = some (.held x, ps)) : v = (.agg #[.int .i64 x.b, .int .i64 x.g, .int .i64 x.k, .int .i64 x.p, .int .i64 x.s, .int .i64 x.e]) := by
  unfold RFd at h
  split at h
  · rename_i cs
    split at h
    · rename_i e
      injection h with h
      injection h with h1 _
      injection h1 with h1
      subst h1
      obtain ⟨l⟩ := cs
      simp at e
      subst e
      rfl
    · cases h
  · cases h
def OwnM (w : World) (b n : Nat) (M : Int → Option Fd) : Prop :=
  ∃ D : DataW Fd, w.ownsMap Tryz.prog 3 RFd b n D ∧ ∀ p, Maps.has D (.int .i64 p) = (M p).isSome ∧ D.atKey (.int .i64 p) (.held zFd) = .held ((M p).getD zFd)
theorem OwnM.made (w : World) : OwnM (w.alloc (.map #[] 0)) w.heap.size 0 (fun _ => none) :=
  ⟨.map [], World.ownsMap_made w _ _ _, fun p => ⟨rfl, rfl⟩⟩
theorem OwnM.lt {w : World} {b n : Nat} {M : Int → Option Fd} (h : OwnM w b n M) : b < w.heap.size := by
  obtain ⟨D, h, _⟩ := h
  exact h.lt
theorem OwnM.below {w w' : World} {b n : Nat} {M : Int → Option Fd} (h : OwnM w b n M) (hb : Below w.heap.size w w') : OwnM w' b n M := by
  obtain ⟨D, h, k⟩ := h
  exact ⟨D, h.kept (row := none) ⟨hb.os, hb.tape, hb.output, hb.size, fun k hk _ => hb.block k hk⟩ (by simp), k⟩
theorem OwnM.alloc_ {w : World} {b n : Nat} {M : Int → Option Fd} (h : OwnM w b n M) (o : Obj) : OwnM (w.alloc o) b n M := h.below ((Below.refl _ _).alloc (Nat.le_refl _) _)
theorem OwnM.mono {w : World} {b n m : Nat} {M : Int → Option Fd} (h : OwnM w b n M) (hn : n ≤ m) : OwnM w b m M := by
  obtain ⟨D, h, k⟩ := h
  exact ⟨D, h.mono hn, k⟩
theorem lawI : Maps.Keyed Tryz.prog 3 := Maps.int_keyed Tryz.underlying3
theorem zeroFd (w : World) : (zeroValue 119).run Tryz.prog w = .ok (.agg #[.int .i64 0, .int .i64 0, .int .i64 0, .int .i64 0, .int .i64 0, .int .i64 0]) w := by kernel_rfl
theorem wfI {p : Int} (h : i64in p) : (Lit.int .i64 p).wf = true := by
  have e1 : IntKind.i64.min = -9223372036854775808 := rfl
  have e2 : IntKind.i64.max = 9223372036854775807 := rfl
  unfold i64in at h
  simp only [Lit.wf, Bool.and_eq_true, decide_eq_true_eq, e1, e2]
  exact h
section
variable (w : World) {ops : Array Oper} {rest : List Oper} {o : Oper} {a : Act} {Q : Exit → Act → World → Prop}
theorem wpList_look_ok (hg : o.guard = none) (m x : Operand) (hop : o.op = Op.lookup 149 m x true) (b n : Nat) (M : Int → Option Fd) (hm : a.eval m = .map (some b)) (hown : OwnM w b n M) (p : Int) (hx : a.eval x = .int .i64 p) (hp : i64in p) (y : Fd) (ok : Bool) (hy : (M p).getD zFd = y ∧ (M p).isSome = ok)
    (hK : wpList Tryz.prog ops Q rest (a.put o.dst (.tuple #[(.agg #[.int .i64 y.b, .int .i64 y.g, .int .i64 y.k, .int .i64 y.p, .int .i64 y.s, .int .i64 y.e]), .bool ok])) w) : wpList Tryz.prog ops Q (o :: rest) a w := by
  obtain ⟨D, h, k⟩ := hown
  refine wpList_plain hg fun K' hK' => ?_
  obtain ⟨v, ps, hrun, hv⟩ := h.look_ok lawI Tryz.underlying149 (zeroFd w) (RFd_mk zFd) (Maps.keyOf_int_mk Tryz.underlying3 (wfI hp))
  rw [(k p).2, hy.1] at hv
  rw [(k p).1, hy.2] at hrun
  obtain rfl := RFd_inv hv
  unfold Oper.wp
  simp [execOp, hop, hm, hx, hrun, Result.andThen]
  exact hK' _ _ hK
theorem wpList_look (hg : o.guard = none) (m x : Operand) (hop : o.op = Op.lookup 149 m x false) (b n : Nat) (M : Int → Option Fd) (hm : a.eval m = .map (some b)) (hown : OwnM w b n M) (p : Int) (hx : a.eval x = .int .i64 p) (hp : i64in p) (y : Fd) (hy : (M p).getD zFd = y)
    (hK : wpList Tryz.prog ops Q rest (a.put o.dst (.agg #[.int .i64 y.b, .int .i64 y.g, .int .i64 y.k, .int .i64 y.p, .int .i64 y.s, .int .i64 y.e])) w) : wpList Tryz.prog ops Q (o :: rest) a w := by
  obtain ⟨D, h, k⟩ := hown
  refine wpList_plain hg fun K' hK' => ?_
  obtain ⟨v, ps, hrun, hv⟩ := h.lookup lawI Tryz.underlying149 (zeroFd w) (RFd_mk zFd) (Maps.keyOf_int_mk Tryz.underlying3 (wfI hp))
  rw [(k p).2, hy] at hv
  obtain rfl := RFd_inv hv
  unfold Oper.wp
  simp [execOp, hop, hm, hx, hrun, Result.andThen]
  exact hK' _ _ hK
theorem wpList_put (hg : o.guard = none) (m x v : Operand) (hop : o.op = Op.mapUpdate 149 m x v) (b n : Nat) (M : Int → Option Fd) (hm : a.eval m = .map (some b)) (hown : OwnM w b n M) (hn : n ≤ 1000000) (p : Int) (hx : a.eval x = .int .i64 p) (hp : i64in p) (y : Fd) (hv : a.eval v = (.agg #[.int .i64 y.b, .int .i64 y.g, .int .i64 y.k, .int .i64 y.p, .int .i64 y.s, .int .i64 y.e]))
    (hK : ∀ w', OwnM w' b (n + 1) (fun q => if q = p then some y else M q) → w.grownBy w' (some b) → wpList Tryz.prog ops Q rest (a.put o.dst undef) w') : wpList Tryz.prog ops Q (o :: rest) a w := by
  obtain ⟨D, h, k⟩ := hown
  refine wpList_plain hg fun K' hK' => ?_
  obtain ⟨w', hrun, r1, r2⟩ := h.update lawI Tryz.underlying149 (by unfold maxLen; omega) (Maps.keyOf_int_mk Tryz.underlying3 (wfI hp)) (RFd_mk y)
  unfold Oper.wp
  simp [execOp, hop, hm, hx, hv, hrun, Result.andThen]
  refine hK' _ _ (hK w' ⟨_, r1, fun q => ?_⟩ r2)
  show _ = (if q = p then some y else M q).isSome ∧ _ = DataW.held ((if q = p then some y else M q).getD zFd)
  by_cases hq : q = p
  · subst hq
    rw [if_pos rfl]
    exact ⟨Maps.has_put_same h.isMap (by simp [WideAt.IsKeyLit]) _, Maps.atKey_put_same h.isMap (by simp [WideAt.IsKeyLit]) _ _⟩
  · rw [if_neg hq]
    have hne : (Lit.int .i64 q) ≠ Lit.int .i64 p := fun e => hq (by injection e)
    exact ⟨(Maps.has_put_other hne _).trans (k q).1, (Maps.atKey_put_other hne _ _).trans (k q).2⟩
end
/-! ### Stale -/
def staleK (last : Int) (fs : List Fd) : List Fd := fs.filter (fun f => decide (last < f.e))
theorem stale_take {last : Int} {fs : List Fd} {k : Nat} {x : Fd} (h : fs[k]? = some x) : staleK last (fs.take (k + 1)) = if last < x.e then staleK last (fs.take k) ++ [x] else staleK last (fs.take k) := by
  rw [take_next h]
  unfold staleK
  rw [List.filter_append]
  by_cases hl : last < x.e
  · rw [if_pos hl]
    simp [hl]
  · rw [if_neg hl]
    simp [hl]
theorem stale_any (fs : List Fd) (A : Option Addr) (c : Nat) (w : World) (h : SlFd w w.heap.size A fs) (n1 : fs.length ≤ 1000000) : Calls Tryz.prog 93 #[.slice A fs.length c] w fun e' w' => (∃ v, e' = .returned v ∧ RowFd w' w.heap.size v (staleZ fs)) ∧ Below w.heap.size w w' := by
  go_enter Tryz.func93, Tryz.ntmps93
  go_wp2_with (go_at_call 137; ((with_reducible refine (last_any fs A c _ h n1).mono ?_); rintro e' w1 ⟨rfl, hb1⟩))
  obtain ⟨last, hlast⟩ : ∃ l, lastZ fs = l := ⟨_, rfl⟩
  have HLA := Lib.hid hlast
  rw [hlast]
  clear hlast
  have H1 := h.next hb1
  have hz1 := hb1.size
  go_loopw [4, 11] (fun s4 s11 wr => ∃ (k : Nat) (v : Value) (S : List Fd), k ≤ fs.length ∧ s11 = .int .i64 (k : Int) ∧ s4 = v ∧ Hid (staleK last (fs.take k) = S) ∧ RowFd wr w1.heap.size v S ∧ S.length ≤ k ∧ Below w1.heap.size w1 wr ∧ Below w.heap.size w wr) (fun _ s11 _ => fs.length - (iOf s11).toNat)
  case atStart => exact ⟨0, _, [], Nat.zero_le _, rfl, rfl, Lib.hid rfl, RowFd.nil_ _ _, Nat.le_refl _, Below.refl _ _, hb1⟩
  case round =>
    obtain ⟨k, v, S, hk, rfl, e4, HS, ho, hSk, hB1, hBw⟩ := hrel
    have e4' := e4.symm
    subst e4'
    obtain ⟨A3, c3, hv3, -, -, -⟩ := ho.sl
    subst hv3
    by_cases hlt : k < fs.length
    · obtain ⟨b1, o1, rfl, l1, q1⟩ := (H1.below hB1).at_ (by omega)
      obtain ⟨x, hx⟩ : ∃ x, fs[k]? = some x := ⟨_, List.getElem?_eq_getElem hlt⟩
      obtain ⟨x0, x1, x2, x3, x4, x5⟩ := q1 k x hx
      have hsz := hB1.size
      have l1' : b1 < wr.heap.size := by omega
      have i0 : (0 : Int) ≤ (k : Int) := by omega
      have i1 : (k : Int) < (fs.length : Int) := by omega
      have hst := stale_take (last := last) hx
      rw [HS.out] at hst
      have hBn : Below w.heap.size w (wr.alloc (.cells #[.int .i64 x.b, .int .i64 x.g, .int .i64 x.k, .int .i64 x.p, .int .i64 x.s, .int .i64 x.e] 119)) := hBw.alloc hBw.size _
      have hBn1 : Below w1.heap.size w1 (wr.alloc (.cells #[.int .i64 x.b, .int .i64 x.g, .int .i64 x.k, .int .i64 x.p, .int .i64 x.s, .int .i64 x.e] 119)) := hB1.alloc hB1.size _
      have hon : RowFd (wr.alloc (.cells #[.int .i64 x.b, .int .i64 x.g, .int .i64 x.k, .int .i64 x.p, .int .i64 x.s, .int .i64 x.e] 119)) w1.heap.size (.slice A3 S.length c3) S := ho.below ((Below.refl _ _).alloc (Nat.le_refl _) _)
      have hws := hBw.size
      clear q1 hx
      by_cases hl : last < x.e
      · rw [if_pos hl] at hst
        have HST := Lib.hid hst
        clear hst
        go_wp2_with (at_builtin; obtain ⟨ti0, hi, hz0, hz1, hz2⟩ := info_parts infoFd; refine wpList_app _ rfl (.tmp 20) (.tmp 22) _ rfl w1.heap.size 119 ti0 _ 6 48 Tryz.underlying93 hi hz0 hz1 hz2 rfl (by decide) _ S.length (S.flatMap fCs) rfl (hon.below ((Below.refl _ _).alloc (Nat.le_refl _) _)) _ 1 _ (fCs x) rfl (rd_new _ x (by simp)) (flat_one1 x) (by unfold maxLen; omega) (by omega) (by simp; omega) ?_; intro v' w' ho' hg' hv'; clear hi hz0 hz1 hz2)
        have hlt' := ho.lt
        go_roundw
        case rel => exact ⟨k + 1, v', S ++ [x], by omega, by go_num, rfl, HST, RowFd.snocK ho', by rw [List.length_append]; simp; omega, (hBn1.alloc (by simp; omega) _).grown hg' (by simp; omega) (fun g hg => (hlt' g hg).1), (hBn.alloc (by simp; omega) _).grown hg' (by simp; omega) (fun g hg => Nat.le_trans hz1 (hlt' g hg).1)⟩
        case measure => simp [iOf]; omega
      · rw [if_neg hl] at hst
        have HST := Lib.hid hst
        clear hst
        go_wp2
        go_roundw
        case rel => exact ⟨k + 1, _, S, by omega, by go_num, rfl, HST, hon, by omega, hBn1, hBn⟩
        case measure => simp [iOf]; omega
    · obtain rfl : k = fs.length := by omega
      obtain rfl : S = staleZ fs := by rw [← HS.out, List.take_length, ← HLA.out]; rfl
      clear HS
      go_wp2
      go_ret
      exact ⟨⟨_, rfl, ho.base hz1⟩, hBw⟩
end Go.Proofs.YtkpcohfdcilfcaaGreat
namespace Go.Proofs.YtkpcohfdcilfcaaGreat
open Go.ChangeShapes Go.WideShapes Go.ChangeAt Go.RowKit
theorem newest_take {last : Int} {fs : List Fd} {k : Nat} {x : Fd} (h : fs[k]? = some x) (p : Int) : newestZ last (fs.take (k + 1)) p = stepN last p (newestZ last (fs.take k) p) x := by
  rw [take_next h, newestZ_snoc]
theorem newest_skip {last : Int} {fs : List Fd} {k : Nat} {x : Fd} (h : fs[k]? = some x) (hc : counts last x = false) : newestZ last (fs.take (k + 1)) = newestZ last (fs.take k) := by
  funext p
  rw [newest_take h]
  unfold stepN
  rw [if_neg (by rw [hc]; simp)]
theorem newest_put {last : Int} {fs : List Fd} {k : Nat} {x : Fd} (h : fs[k]? = some x) (hc : counts last x = true) (hn : ∀ y, newestZ last (fs.take k) x.p = some y → newer x y = true) : newestZ last (fs.take (k + 1)) = fun q => if q = x.p then some x else newestZ last (fs.take k) q := by
  funext p
  rw [newest_take h]
  unfold stepN
  by_cases hp : p = x.p
  · subst hp
    rw [if_pos ⟨hc, rfl⟩, if_pos rfl]
    cases hq : newestZ last (fs.take k) x.p with
    | none => rfl
    | some y =>
      dsimp only
      rw [if_pos (hn y hq)]
  · rw [if_neg (fun h => hp h.2.symm), if_neg hp]
theorem newest_keep {last : Int} {fs : List Fd} {k : Nat} {x y : Fd} (h : fs[k]? = some x) (hq : newestZ last (fs.take k) x.p = some y) (hn : newer x y = false) : newestZ last (fs.take (k + 1)) = newestZ last (fs.take k) := by
  funext p
  rw [newest_take h]
  unfold stepN
  split
  · rename_i hc
    obtain rfl := hc.2
    rw [hq]
    dsimp only
    rw [if_neg (by rw [hn]; simp)]
  · rfl
theorem counts_no1 {last : Int} {x : Fd} (h1 : ¬ x.k = 1) (h2 : ¬ x.k = 2) : counts last x = false := by
  unfold counts
  rw [decide_eq_false h1, decide_eq_false h2]
  rfl
theorem counts_no2 {last : Int} {x : Fd} (h : last < x.e) : counts last x = false := by
  unfold counts
  rw [decide_eq_false (by omega : ¬ x.e ≤ last), Bool.and_false]
theorem counts_yes {last : Int} {x : Fd} (h : x.k = 1 ∨ x.k = 2) (h2 : x.e ≤ last) : counts last x = true := by
  unfold counts
  rw [decide_eq_true h2, Bool.and_true]
  rcases h with h | h
  · rw [decide_eq_true h]; rfl
  · rw [decide_eq_true h, Bool.or_true]
theorem newest_any (fs : List Fd) (A : Option Addr) (c : Nat) (w : World) (h : SlFd w w.heap.size A fs) (n1 : fs.length ≤ 1000000) (hok : ∀ x ∈ fs, FdOk x) : Calls Tryz.prog 133 #[.slice A fs.length c] w fun e' w' => (∃ g, e' = .returned (.map (some g)) ∧ OwnM w' g fs.length (newestZ (lastZ fs) fs) ∧ w.heap.size ≤ g) ∧ Below w.heap.size w w' := by
  have hmm := @run_makeMap Tryz.prog
  go_enter Tryz.func133, Tryz.ntmps133
  go_wp2_with (go_at_call 137; ((with_reducible refine (last_any fs A c _ h n1).mono ?_); rintro e' w1 ⟨rfl, hb1⟩))
  obtain ⟨last, hlast⟩ : ∃ l, lastZ fs = l := ⟨_, rfl⟩
  have HLA := Lib.hid hlast
  rw [hlast]
  clear hlast hmm
  have H1 := h.next hb1
  have hz1 := hb1.size
  have HM0 := OwnM.made w1
  have HB0 : Below w1.heap.size w1 (w1.alloc (.map #[] 0)) := (Below.refl _ _).alloc (Nat.le_refl _) _
  go_loopw [14] (fun s14 wr => ∃ (k : Nat), k ≤ fs.length ∧ s14 = .int .i64 (k : Int) ∧ OwnM wr w1.heap.size k (newestZ last (fs.take k)) ∧ Below w1.heap.size w1 wr) (fun s14 _ => fs.length - (iOf s14).toNat)
  case atStart => exact ⟨0, Nat.zero_le _, rfl, HM0, HB0⟩
  case round =>
    clear HM0 HB0
    obtain ⟨k, hk, rfl, hO, hB⟩ := hrel
    have hgl := hO.lt
    by_cases hlt : k < fs.length
    · obtain ⟨b1, o1, rfl, l1, q1⟩ := (H1.below hB).at_ (by omega)
      obtain ⟨x, hx⟩ : ∃ x, fs[k]? = some x := ⟨_, List.getElem?_eq_getElem hlt⟩
      obtain ⟨x0, x1, x2, x3, x4, x5⟩ := q1 k x hx
      have hsz := hB.size
      have l1' : b1 < wr.heap.size := by omega
      have i0 : (0 : Int) ≤ (k : Int) := by omega
      have i1 : (k : Int) < (fs.length : Int) := by omega
      have hp : i64in x.p := (hok x (List.mem_of_getElem? hx)).2.2.2.1
      clear q1
      by_cases k1 : x.k = 1
      · by_cases he : last < x.e
        · have hn := newest_skip (last := last) hx (counts_no2 he)
          have HN := Lib.hid hn
          clear hn hx
          go_wp2
          go_roundw
          case rel => exact ⟨k + 1, by omega, by go_num, by rw [HN.out]; exact (hO.alloc_ _).mono (by omega), hB.alloc hsz _⟩
          case measure => simp [iOf]; omega
        · have hcn := counts_yes (last := last) (Or.inl k1) (by omega)
          cases hq : newestZ last (fs.take k) x.p with
          | none =>
            have hn := newest_put hx hcn (fun y hy => by rw [hq] at hy; cases hy)
            have HN := Lib.hid hn
            have HQ := Lib.hid hq
            have HC := Lib.hid hcn
            have HX := Lib.hid hx
            clear hn hq hcn hx
            go_wp2_with (first
              | (at_lookup; refine wpList_look_ok _ rfl _ _ rfl w1.heap.size k _ rfl (hO.alloc_ _) x.p rfl hp zFd false (by rw [HQ.out]; exact ⟨rfl, rfl⟩) ?_)
              | (at_mapUpdate; refine wpList_put _ rfl _ _ _ rfl w1.heap.size k _ rfl ((hO.alloc_ _).alloc_ _) (by omega) x.p rfl hp x (by simp only [k1]; rfl) ?_; intro w4 ho4 hg4))
            go_roundw
            case rel => exact ⟨k + 1, by omega, by go_num, by rw [HN.out]; exact ho4, ((hB.alloc hsz _).alloc (by simp; omega) _).grown hg4 (by simp; omega) (fun j hj => by cases hj; omega)⟩
            case measure => simp [iOf]; omega
          | some y =>
            rcases (by cases hqn : newer x y <;> simp : newer x y = true ∨ newer x y = false) with hnw | hnw
            · have hn := newest_put hx hcn (fun z hz => by rw [hq] at hz; cases hz; exact hnw)
              have HN := Lib.hid hn
              have HQ0 := Lib.hid hq
              have HQ : Hid (newerZ x.e x.s y.e y.s = _) := Lib.hid hnw
              have HC := Lib.hid hcn
              have HX := Lib.hid hx
              clear hn hq hcn hx hnw
              go_wp2_with (first
                | (at_lookup; refine wpList_look_ok _ rfl _ _ rfl w1.heap.size k _ rfl (hO.alloc_ _) x.p rfl hp y true (by rw [HQ0.out]; exact ⟨rfl, rfl⟩) ?_)
                | (go_at_call 164; ((with_reducible refine (newer_any _ _ x.s x.e _ _ y.s y.e _).mono ?_); rw [HQ.out]; rintro e' w3 ⟨rfl, hb3⟩; (have hd3 : Blk w3 wr.heap.size 119 #[.int .i64 x.b, .int .i64 x.g, .int .i64 1, .int .i64 x.p, .int .i64 x.s, .int .i64 x.e] := by (refine Blk.below ((Blk.new_ wr 119 #[.int .i64 x.b, .int .i64 x.g, .int .i64 1, .int .i64 x.p, .int .i64 x.s, .int .i64 x.e]).alloc_ _) hb3 ?_; first | omega | (simp; done) | (simp; omega))); have d0 : w3.cell? ⟨wr.heap.size, 0, none⟩ = some (.int .i64 x.b) := hd3.cell_ 0; have d1 : w3.cell? ⟨wr.heap.size, 1, none⟩ = some (.int .i64 x.g) := hd3.cell_ 1; have d2 : w3.cell? ⟨wr.heap.size, 2, none⟩ = some (.int .i64 1) := hd3.cell_ 2; have d3 : w3.cell? ⟨wr.heap.size, 3, none⟩ = some (.int .i64 x.p) := hd3.cell_ 3; have d4 : w3.cell? ⟨wr.heap.size, 4, none⟩ = some (.int .i64 x.s) := hd3.cell_ 4; have d5 : w3.cell? ⟨wr.heap.size, 5, none⟩ = some (.int .i64 x.e) := hd3.cell_ 5; clear hd3))
                | (at_mapUpdate; refine wpList_put _ rfl _ _ _ rfl w1.heap.size k _ rfl (((hO.alloc_ _).alloc_ _).below hb3) (by omega) x.p rfl hp x (by simp only [k1]; rfl) ?_; intro w4 ho4 hg4))
              have hz3 := hb3.size
              simp at hz3
              go_roundw
              case rel => exact ⟨k + 1, by omega, by go_num, by rw [HN.out]; exact ho4, ((btr ((hB.alloc hsz _).alloc (by simp; omega) _) (by simp; omega) hb3)).grown hg4 (by omega) (fun j hj => by cases hj; omega)⟩
              case measure => simp [iOf]; omega
            · have hn := newest_keep hx hq hnw
              have HN := Lib.hid hn
              have HQ0 := Lib.hid hq
              have HQ : Hid (newerZ x.e x.s y.e y.s = _) := Lib.hid hnw
              have HC := Lib.hid hcn
              have HX := Lib.hid hx
              clear hn hq hcn hx hnw
              go_wp2_with (first
                | (at_lookup; refine wpList_look_ok _ rfl _ _ rfl w1.heap.size k _ rfl (hO.alloc_ _) x.p rfl hp y true (by rw [HQ0.out]; exact ⟨rfl, rfl⟩) ?_)
                | (go_at_call 164; ((with_reducible refine (newer_any _ _ x.s x.e _ _ y.s y.e _).mono ?_); rw [HQ.out]; rintro e' w3 ⟨rfl, hb3⟩; (have hd3 : Blk w3 wr.heap.size 119 #[.int .i64 x.b, .int .i64 x.g, .int .i64 1, .int .i64 x.p, .int .i64 x.s, .int .i64 x.e] := by (refine Blk.below ((Blk.new_ wr 119 #[.int .i64 x.b, .int .i64 x.g, .int .i64 1, .int .i64 x.p, .int .i64 x.s, .int .i64 x.e]).alloc_ _) hb3 ?_; first | omega | (simp; done) | (simp; omega))); have d0 : w3.cell? ⟨wr.heap.size, 0, none⟩ = some (.int .i64 x.b) := hd3.cell_ 0; have d1 : w3.cell? ⟨wr.heap.size, 1, none⟩ = some (.int .i64 x.g) := hd3.cell_ 1; have d2 : w3.cell? ⟨wr.heap.size, 2, none⟩ = some (.int .i64 1) := hd3.cell_ 2; have d3 : w3.cell? ⟨wr.heap.size, 3, none⟩ = some (.int .i64 x.p) := hd3.cell_ 3; have d4 : w3.cell? ⟨wr.heap.size, 4, none⟩ = some (.int .i64 x.s) := hd3.cell_ 4; have d5 : w3.cell? ⟨wr.heap.size, 5, none⟩ = some (.int .i64 x.e) := hd3.cell_ 5; clear hd3)))
              go_roundw
              case rel => exact ⟨k + 1, by omega, by go_num, by rw [HN.out]; exact (((hO.alloc_ _).alloc_ _).below hb3).mono (by omega), btr ((hB.alloc hsz _).alloc (by simp; omega) _) (by simp; omega) hb3⟩
              case measure => simp [iOf]; omega
      · by_cases k2 : x.k = 2
        · by_cases he : last < x.e
          · have hn := newest_skip (last := last) hx (counts_no2 he)
            have HN := Lib.hid hn
            clear hn hx
            go_wp2
            go_roundw
            case rel => exact ⟨k + 1, by omega, by go_num, by rw [HN.out]; exact (hO.alloc_ _).mono (by omega), hB.alloc hsz _⟩
            case measure => simp [iOf]; omega
          · have hcn := counts_yes (last := last) (Or.inr k2) (by omega)
            cases hq : newestZ last (fs.take k) x.p with
            | none =>
              have hn := newest_put hx hcn (fun y hy => by rw [hq] at hy; cases hy)
              have HN := Lib.hid hn
              have HQ := Lib.hid hq
              have HC := Lib.hid hcn
              have HX := Lib.hid hx
              clear hn hq hcn hx
              go_wp2_with (first
                | (at_lookup; refine wpList_look_ok _ rfl _ _ rfl w1.heap.size k _ rfl (hO.alloc_ _) x.p rfl hp zFd false (by rw [HQ.out]; exact ⟨rfl, rfl⟩) ?_)
                | (at_mapUpdate; refine wpList_put _ rfl _ _ _ rfl w1.heap.size k _ rfl ((hO.alloc_ _).alloc_ _) (by omega) x.p rfl hp x (by simp only [k2]; rfl) ?_; intro w4 ho4 hg4))
              go_roundw
              case rel => exact ⟨k + 1, by omega, by go_num, by rw [HN.out]; exact ho4, ((hB.alloc hsz _).alloc (by simp; omega) _).grown hg4 (by simp; omega) (fun j hj => by cases hj; omega)⟩
              case measure => simp [iOf]; omega
            | some y =>
              rcases (by cases hqn : newer x y <;> simp : newer x y = true ∨ newer x y = false) with hnw | hnw
              · have hn := newest_put hx hcn (fun z hz => by rw [hq] at hz; cases hz; exact hnw)
                have HN := Lib.hid hn
                have HQ0 := Lib.hid hq
                have HQ : Hid (newerZ x.e x.s y.e y.s = _) := Lib.hid hnw
                have HC := Lib.hid hcn
                have HX := Lib.hid hx
                clear hn hq hcn hx hnw
                go_wp2_with (first
                  | (at_lookup; refine wpList_look_ok _ rfl _ _ rfl w1.heap.size k _ rfl (hO.alloc_ _) x.p rfl hp y true (by rw [HQ0.out]; exact ⟨rfl, rfl⟩) ?_)
                  | (go_at_call 164; ((with_reducible refine (newer_any _ _ x.s x.e _ _ y.s y.e _).mono ?_); rw [HQ.out]; rintro e' w3 ⟨rfl, hb3⟩; (have hd3 : Blk w3 wr.heap.size 119 #[.int .i64 x.b, .int .i64 x.g, .int .i64 2, .int .i64 x.p, .int .i64 x.s, .int .i64 x.e] := by (refine Blk.below ((Blk.new_ wr 119 #[.int .i64 x.b, .int .i64 x.g, .int .i64 2, .int .i64 x.p, .int .i64 x.s, .int .i64 x.e]).alloc_ _) hb3 ?_; first | omega | (simp; done) | (simp; omega))); have d0 : w3.cell? ⟨wr.heap.size, 0, none⟩ = some (.int .i64 x.b) := hd3.cell_ 0; have d1 : w3.cell? ⟨wr.heap.size, 1, none⟩ = some (.int .i64 x.g) := hd3.cell_ 1; have d2 : w3.cell? ⟨wr.heap.size, 2, none⟩ = some (.int .i64 2) := hd3.cell_ 2; have d3 : w3.cell? ⟨wr.heap.size, 3, none⟩ = some (.int .i64 x.p) := hd3.cell_ 3; have d4 : w3.cell? ⟨wr.heap.size, 4, none⟩ = some (.int .i64 x.s) := hd3.cell_ 4; have d5 : w3.cell? ⟨wr.heap.size, 5, none⟩ = some (.int .i64 x.e) := hd3.cell_ 5; clear hd3))
                  | (at_mapUpdate; refine wpList_put _ rfl _ _ _ rfl w1.heap.size k _ rfl (((hO.alloc_ _).alloc_ _).below hb3) (by omega) x.p rfl hp x (by simp only [k2]; rfl) ?_; intro w4 ho4 hg4))
                have hz3 := hb3.size
                simp at hz3
                go_roundw
                case rel => exact ⟨k + 1, by omega, by go_num, by rw [HN.out]; exact ho4, ((btr ((hB.alloc hsz _).alloc (by simp; omega) _) (by simp; omega) hb3)).grown hg4 (by omega) (fun j hj => by cases hj; omega)⟩
                case measure => simp [iOf]; omega
              · have hn := newest_keep hx hq hnw
                have HN := Lib.hid hn
                have HQ0 := Lib.hid hq
                have HQ : Hid (newerZ x.e x.s y.e y.s = _) := Lib.hid hnw
                have HC := Lib.hid hcn
                have HX := Lib.hid hx
                clear hn hq hcn hx hnw
                go_wp2_with (first
                  | (at_lookup; refine wpList_look_ok _ rfl _ _ rfl w1.heap.size k _ rfl (hO.alloc_ _) x.p rfl hp y true (by rw [HQ0.out]; exact ⟨rfl, rfl⟩) ?_)
                  | (go_at_call 164; ((with_reducible refine (newer_any _ _ x.s x.e _ _ y.s y.e _).mono ?_); rw [HQ.out]; rintro e' w3 ⟨rfl, hb3⟩; (have hd3 : Blk w3 wr.heap.size 119 #[.int .i64 x.b, .int .i64 x.g, .int .i64 2, .int .i64 x.p, .int .i64 x.s, .int .i64 x.e] := by (refine Blk.below ((Blk.new_ wr 119 #[.int .i64 x.b, .int .i64 x.g, .int .i64 2, .int .i64 x.p, .int .i64 x.s, .int .i64 x.e]).alloc_ _) hb3 ?_; first | omega | (simp; done) | (simp; omega))); have d0 : w3.cell? ⟨wr.heap.size, 0, none⟩ = some (.int .i64 x.b) := hd3.cell_ 0; have d1 : w3.cell? ⟨wr.heap.size, 1, none⟩ = some (.int .i64 x.g) := hd3.cell_ 1; have d2 : w3.cell? ⟨wr.heap.size, 2, none⟩ = some (.int .i64 2) := hd3.cell_ 2; have d3 : w3.cell? ⟨wr.heap.size, 3, none⟩ = some (.int .i64 x.p) := hd3.cell_ 3; have d4 : w3.cell? ⟨wr.heap.size, 4, none⟩ = some (.int .i64 x.s) := hd3.cell_ 4; have d5 : w3.cell? ⟨wr.heap.size, 5, none⟩ = some (.int .i64 x.e) := hd3.cell_ 5; clear hd3)))
                go_roundw
                case rel => exact ⟨k + 1, by omega, by go_num, by rw [HN.out]; exact (((hO.alloc_ _).alloc_ _).below hb3).mono (by omega), btr ((hB.alloc hsz _).alloc (by simp; omega) _) (by simp; omega) hb3⟩
                case measure => simp [iOf]; omega
        · have hn := newest_skip (last := last) hx (counts_no1 k1 k2)
          skip
          have HN := Lib.hid hn
          clear hn hx
          go_wp2
          go_roundw
          case rel => exact ⟨k + 1, by omega, by go_num, by rw [HN.out]; exact (hO.alloc_ _).mono (by omega), hB.alloc hsz _⟩
          case measure => simp [iOf]; omega
    · obtain rfl : k = fs.length := by omega
      rw [List.take_length] at hO
      obtain rfl := HLA.out
      go_wp2
      go_ret
      exact ⟨⟨_, rfl, hO, hz1⟩, btr hb1 hz1 hB⟩
end Go.Proofs.YtkpcohfdcilfcaaGreat
namespace Go.Proofs
open Go.Shelf
def Tryz.keysA_ren : Go.Shelf.Ren := ⟨fun | 7 => 135 | 10 => 167 | n => n, fun | 23 => 149 | 26 => 3 | 3 => 119 | 28 => 153 | 0 => 0 | 27 => 152 | 33 => 72 | 4 => 4 | n => n, fun | n => n⟩
theorem Tryz.keysA : Go.Proofs.SlLaysZI.n7 Tryz.prog Tryz.keysA_ren := {
  mixed := by kernel_rfl
  f7 := ⟨Tryz.f135.name, by decide, Tryz.func135.trans (congrArg some (by kernel_rfl))⟩
  f10 := ⟨Tryz.f167.name, by decide, Tryz.func167.trans (congrArg some (by kernel_rfl))⟩
  t0 := Tryz.underlying0
  a0 := Tryz.isAgg0
  z0 := Tryz.sizeOf0
  v0 := Tryz.zeroValue0
  t4 := Tryz.underlying4
  a4 := Tryz.isAgg4
  z4 := Tryz.sizeOf4
  v4 := Tryz.zeroValue4
  t23 := Tryz.underlying149
  a23 := Tryz.isAgg149
  z23 := Tryz.sizeOf149
  v23 := Tryz.zeroValue149
  t26 := Tryz.underlying3
  a26 := Tryz.isAgg3
  z26 := Tryz.sizeOf3
  v26 := Tryz.zeroValue3
  t27 := Tryz.underlying152
  a27 := Tryz.isAgg152
  z27 := Tryz.sizeOf152
  v27 := Tryz.zeroValue152
  t28 := Tryz.underlying153
  a28 := Tryz.isAgg153
  z28 := Tryz.sizeOf153
  v28 := Tryz.zeroValue153
  t33 := Tryz.underlying72
  a33 := Tryz.isAgg72
  z33 := Tryz.sizeOf72
  v33 := Tryz.zeroValue72 }
def Tryz.sortedA_ren : Go.Shelf.Ren := ⟨fun | 6 => 134 | 8 => 165 | 9 => 166 | 11 => 181 | 13 => 183 | 12 => 182 | 23 => 197 | 24 => 198 | 14 => 188 | 15 => 189 | 16 => 190 | 17 => 191 | 18 => 192 | 19 => 193 | 20 => 194 | 21 => 195 | 22 => 196 | 25 => 200 | 26 => 201 | 27 => 202 | 28 => 203 | 29 => 204 | 30 => 205 | 31 => 206 | n => n, fun | 26 => 3 | 28 => 153 | 24 => 24 | 0 => 0 | 3 => 3 | 37 => 89 | 48 => 164 | 50 => 167 | 4 => 4 | 40 => 197 | 39 => 196 | 45 => 156 | 5 => 5 | 9 => 9 | 51 => 205 | 55 => 209 | 57 => 211 | 58 => 212 | 33 => 72 | n => n, fun | n => n⟩
theorem Tryz.sortedA : Go.Proofs.SlLaysZI.n6 Tryz.prog Tryz.sortedA_ren := {
  mixed := by kernel_rfl
  f6 := ⟨Tryz.f134.name, by decide, Tryz.func134.trans (congrArg some (by kernel_rfl))⟩
  f8 := ⟨Tryz.f165.name, by decide, Tryz.func165.trans (congrArg some (by kernel_rfl))⟩
  f11 := ⟨Tryz.f181.name, by decide, Tryz.func181.trans (congrArg some (by kernel_rfl))⟩
  t0 := Tryz.underlying0
  a0 := Tryz.isAgg0
  z0 := Tryz.sizeOf0
  v0 := Tryz.zeroValue0
  t24 := Tryz.underlying24
  a24 := Tryz.isAgg24
  z24 := Tryz.sizeOf24
  v24 := Tryz.zeroValue24
  t26 := Tryz.underlying3
  a26 := Tryz.isAgg3
  z26 := Tryz.sizeOf3
  v26 := Tryz.zeroValue3
  t28 := Tryz.underlying153
  a28 := Tryz.isAgg153
  z28 := Tryz.sizeOf153
  v28 := Tryz.zeroValue153
  i26 := by kernel_rfl }
def Tryz.sortA_ren : Go.Shelf.Ren := ⟨fun | 5 => 166 | 8 => 183 | 7 => 182 | 19 => 197 | 20 => 198 | 10 => 188 | 11 => 189 | 12 => 190 | 13 => 191 | 14 => 192 | 15 => 193 | 16 => 194 | 17 => 195 | 18 => 196 | 30 => 200 | 31 => 201 | 32 => 202 | 33 => 203 | 34 => 204 | 35 => 205 | 40 => 206 | n => n, fun | 23 => 24 | 25 => 3 | 3 => 3 | 32 => 89 | 22 => 24 | 0 => 0 | 44 => 164 | 46 => 167 | 4 => 4 | 36 => 197 | 35 => 196 | 41 => 156 | 5 => 5 | 9 => 9 | 53 => 205 | 57 => 209 | 63 => 211 | 64 => 212 | n => n, fun | n => n⟩
theorem Tryz.sortA : Go.Proofs.SlLaysM.n5 Tryz.prog Tryz.sortA_ren := {
  mixed := by kernel_rfl
  f5 := ⟨Tryz.f166.name, by decide, Tryz.func166.trans (congrArg some (by kernel_rfl))⟩
  f7 := ⟨Tryz.f182.name, by decide, Tryz.func182.trans (congrArg some (by kernel_rfl))⟩
  f8 := Tryz.func183.trans (congrArg some (by kernel_rfl))
  f10 := ⟨Tryz.f188.name, by decide, Tryz.func188.trans (congrArg some (by kernel_rfl))⟩
  f11 := ⟨Tryz.f189.name, by decide, Tryz.func189.trans (congrArg some (by kernel_rfl))⟩
  f12 := ⟨Tryz.f190.name, by decide, Tryz.func190.trans (congrArg some (by kernel_rfl))⟩
  f13 := ⟨Tryz.f191.name, by decide, Tryz.func191.trans (congrArg some (by kernel_rfl))⟩
  f14 := ⟨Tryz.f192.name, by decide, Tryz.func192.trans (congrArg some (by kernel_rfl))⟩
  f15 := ⟨Tryz.f193.name, by decide, Tryz.func193.trans (congrArg some (by kernel_rfl))⟩
  f16 := ⟨Tryz.f194.name, by decide, Tryz.func194.trans (congrArg some (by kernel_rfl))⟩
  f17 := ⟨Tryz.f195.name, by decide, Tryz.func195.trans (congrArg some (by kernel_rfl))⟩
  f18 := ⟨Tryz.f196.name, by decide, Tryz.func196.trans (congrArg some (by kernel_rfl))⟩
  f19 := Tryz.func197.trans (congrArg some (by kernel_rfl))
  f20 := Tryz.func198.trans (congrArg some (by kernel_rfl))
  f30 := ⟨Tryz.f200.name, by decide, Tryz.func200.trans (congrArg some (by kernel_rfl))⟩
  f31 := Tryz.func201.trans (congrArg some (by kernel_rfl))
  f32 := Tryz.func202.trans (congrArg some (by kernel_rfl))
  f33 := ⟨Tryz.f203.name, by decide, Tryz.func203.trans (congrArg some (by kernel_rfl))⟩
  f34 := ⟨Tryz.f204.name, by decide, Tryz.func204.trans (congrArg some (by kernel_rfl))⟩
  f35 := ⟨Tryz.f205.name, by decide, Tryz.func205.trans (congrArg some (by kernel_rfl))⟩
  f40 := ⟨Tryz.f206.name, by decide, Tryz.func206.trans (congrArg some (by kernel_rfl))⟩
  t0 := Tryz.underlying0
  a0 := Tryz.isAgg0
  z0 := Tryz.sizeOf0
  v0 := Tryz.zeroValue0
  t3 := Tryz.underlying3
  a3 := Tryz.isAgg3
  z3 := Tryz.sizeOf3
  v3 := Tryz.zeroValue3
  t4 := Tryz.underlying4
  a4 := Tryz.isAgg4
  z4 := Tryz.sizeOf4
  v4 := Tryz.zeroValue4
  t5 := Tryz.underlying5
  a5 := Tryz.isAgg5
  z5 := Tryz.sizeOf5
  v5 := Tryz.zeroValue5
  t9 := Tryz.underlying9
  a9 := Tryz.isAgg9
  z9 := Tryz.sizeOf9
  v9 := Tryz.zeroValue9
  t22 := Tryz.underlying24
  a22 := Tryz.isAgg24
  z22 := Tryz.sizeOf24
  v22 := Tryz.zeroValue24
  t23 := Tryz.underlying24
  a23 := Tryz.isAgg24
  z23 := Tryz.sizeOf24
  v23 := Tryz.zeroValue24
  t25 := Tryz.underlying3
  a25 := Tryz.isAgg3
  z25 := Tryz.sizeOf3
  v25 := Tryz.zeroValue3
  t32 := Tryz.underlying89
  a32 := Tryz.isAgg89
  z32 := Tryz.sizeOf89
  v32 := Tryz.zeroValue89
  t35 := Tryz.underlying196
  a35 := Tryz.isAgg196
  z35 := Tryz.sizeOf196
  v35 := Tryz.zeroValue196
  t36 := Tryz.underlying197
  a36 := Tryz.isAgg197
  z36 := Tryz.sizeOf197
  v36 := Tryz.zeroValue197
  t41 := Tryz.underlying156
  a41 := Tryz.isAgg156
  z41 := Tryz.sizeOf156
  v41 := Tryz.zeroValue156
  t44 := Tryz.underlying164
  a44 := Tryz.isAgg164
  z44 := Tryz.sizeOf164
  v44 := Tryz.zeroValue164
  t46 := Tryz.underlying167
  a46 := Tryz.isAgg167
  z46 := Tryz.sizeOf167
  v46 := Tryz.zeroValue167
  t53 := Tryz.underlying205
  a53 := Tryz.isAgg205
  z53 := Tryz.sizeOf205
  v53 := Tryz.zeroValue205
  t57 := Tryz.underlying209
  a57 := Tryz.isAgg209
  z57 := Tryz.sizeOf209
  v57 := Tryz.zeroValue209
  t63 := Tryz.underlying211
  a63 := Tryz.isAgg211
  z63 := Tryz.sizeOf211
  v63 := Tryz.zeroValue211
  t64 := Tryz.underlying212
  a64 := Tryz.isAgg212
  z64 := Tryz.sizeOf212
  v64 := Tryz.zeroValue212 }
end Go.Proofs
namespace Go.Proofs.YtkpcohfdcilfcaaGreat
open Go.ChangeShapes Go.WideShapes Go.ChangeAt Go.RowKit
theorem Tryz.sortsA (m : Nat) : AnyZI.SortsIn Tryz.prog Tryz.sortedA_ren Fence.wide m :=
  ⟨fun blk off cap ss W hH hblk hsz => callsIn_wide.2 (AnyM.slices_Sort_int Tryz.sortA blk off cap ss W hH hblk hsz),
   fun p cap W => callsIn_wide.2 (AnyM.slices_Sort_int_none Tryz.sortA p cap W)⟩
theorem keys_mem {H : Type} {es : List (Lit × DataW H)} (hk : ∀ p ∈ es, ∃ x, p.1 = Lit.int .i64 x) (x : Int) : x ∈ intKeys (.map es) ↔ Maps.has (.map es) (.int .i64 x) = true := by
  rw [Maps.has_eq, List.any_eq_true]
  show x ∈ (es.map fun p => Go.intOf p.1) ↔ _
  rw [List.mem_map]
  constructor
  · rintro ⟨p, hp, rfl⟩
    obtain ⟨a, ha⟩ := hk p hp
    refine ⟨p, hp, ?_⟩
    rw [ha]
    simp [Lit.sameKey, Go.intOf]
  · rintro ⟨p, hp, hs⟩
    obtain ⟨a, ha⟩ := hk p hp
    refine ⟨p, hp, ?_⟩
    rw [ha] at hs ⊢
    simpa [Lit.sameKey, Go.intOf] using hs
theorem keys_nodup {H : Type} {es : List (Lit × DataW H)} (hp : es.Pairwise (fun p q => p.1 ≠ q.1)) (hk : ∀ p ∈ es, ∃ x, p.1 = Lit.int .i64 x) : (intKeys (.map es)).Nodup := by
  show (es.map fun p => Go.intOf p.1).Nodup
  refine List.pairwise_map.2 (hp.imp_of_mem fun {p q} h1 h2 hne e => hne ?_)
  obtain ⟨a, ha⟩ := hk p h1
  obtain ⟨c, hc⟩ := hk q h2
  rw [ha, hc] at e ⊢
  simp [Go.intOf] at e
  rw [e]
theorem sorted_lt {ss : List Int} (h : ss.Nodup) : (ss.mergeSort (fun x y => decide (x ≤ y))).Pairwise (· < ·) := by
  have tr : ∀ a b c : Int, decide (a ≤ b) = true → decide (b ≤ c) = true → decide (a ≤ c) = true := fun a b c h1 h2 => by
    have := of_decide_eq_true h1
    have := of_decide_eq_true h2
    exact decide_eq_true (by omega)
  have tot : ∀ a b : Int, (decide (a ≤ b) || decide (b ≤ a)) = true := fun a b => by
    rcases Int.le_total a b with h | h
    · rw [decide_eq_true h]; rfl
    · rw [decide_eq_true h, Bool.or_true]
  have h1 := List.pairwise_mergeSort (le := fun x y : Int => decide (x ≤ y)) tr tot ss
  have h2 : (ss.mergeSort (fun x y => decide (x ≤ y))).Nodup := ((List.mergeSort_perm ss _).nodup_iff).2 h
  refine (h1.and h2).imp fun {a b} hab => ?_
  have := of_decide_eq_true hab.1
  have := hab.2
  omega
theorem keys_any (b : Nat) (w : World) : Calls Tryz.prog 135 #[.map (some b)] w fun e' w' => e' = .returned (.func (.func 167) #[] #[.pointer (some ⟨w.heap.size, 0, none⟩)]) ∧ w' = (w.alloc (.cells #[.map (some b)] 149)) :=
  callsIn_wide.1 (AnyZI.keys_in Tryz.keysA Fence.wide 5 trivial rfl (some b) w)
theorem sorted_any (b n : Nat) (M : Int → Option Fd) (w : World) (hown : OwnM w b n M) (hn : n ≤ 1000000) :
    Calls Tryz.prog 134 #[.func (.func 167) #[] #[.pointer (some ⟨w.heap.size, 0, none⟩)]] (w.alloc (.cells #[.map (some b)] 149)) fun e' w' => ∃ (v : Value) (ks : List Int), e' = .returned v ∧ Hid (ks.Pairwise (· < ·) ∧ (∀ p, p ∈ ks ↔ (M p).isSome = true) ∧ ks.length ≤ n ∧ ∀ p ∈ ks, i64in p) ∧
      w'.ownsRow (w.alloc (.cells #[.map (some b)] 149)).heap.size 3 1 v ks.length (ks.map (Value.int .i64)) ∧ Below (w.alloc (.cells #[.map (some b)] 149)).heap.size (w.alloc (.cells #[.map (some b)] 149)) w' := by
  obtain ⟨D, hD, hM⟩ := hown
  obtain ⟨es, hes, hpw, _⟩ := hD.entries lawI
  obtain ⟨es', hes', hko⟩ := hD.keysOf
  obtain rfl : es = es' := by rw [hes] at hes'; simpa using hes'
  have hk : ∀ p ∈ es, ∃ x, p.1 = Lit.int .i64 x := fun p hp => by
    obtain ⟨v, hv⟩ := hko p hp
    obtain ⟨x, _, hx, _⟩ := Maps.keyOf_i64 Tryz.underlying3 hv
    exact ⟨x, hx⟩
  have hwf := intKeys_wf hD Tryz.underlying3
  have hsz := hD.size_le
  have hbl := hD.lt
  have hseq : SeqGives Fence.wide 2 Tryz.prog 167 #[.pointer (some ⟨w.heap.size, 0, none⟩)] encZ (fun ss => ss.Perm (intKeys D)) (Maps.size D) (w.alloc (.cells #[.map (some b)] 149)) :=
    AnyZI.keys_gives (ρ := Tryz.keysA_ren) { Tryz.keysA with } Fence.wide _ trivial rfl (by omega) w.heap.size b n D _ (by simp) (by simp) (by
      obtain ⟨es, clock, hb, Ft, hs, hD⟩ := hD
      exact ⟨es, clock, (Below.heap_alloc _ _ b hbl).trans hb, Ft, hs, hD⟩)
  have cS := AnyZI.sorted_in Tryz.sortedA Fence.wide 5 trivial trivial trivial trivial rfl (by omega) (Tryz.sortsA _) (enters_of Tryz.func166 (by kernel_rfl) rfl) 167 #[.pointer (some ⟨w.heap.size, 0, none⟩)] trivial (enters_of Tryz.func167 (by kernel_rfl) rfl) _ _ (by unfold maxLen; omega) (by omega) _ hseq
  refine (callsIn_wide.1 cS).mono ?_
  rintro e' w' ⟨v, ss, rfl, hS, hrow, _, hb⟩
  have hlen : (ss.mergeSort (fun x y => decide (x ≤ y))).length = ss.length := List.length_mergeSort ss
  subst hes
  have hmem : ∀ p, p ∈ ss.mergeSort (fun x y => decide (x ≤ y)) ↔ p ∈ intKeys (.map es) := fun p => ((List.mergeSort_perm ss _).mem_iff).trans hS.mem_iff
  refine ⟨v, ss.mergeSort (fun x y => decide (x ≤ y)), rfl, Lib.hid ⟨sorted_lt ((hS.nodup_iff).2 (keys_nodup hpw hk)), fun p => ?_, ?_, fun p hp => i64in_of (hwf p ((hmem p).1 hp))⟩, ?_, hb⟩
  · rw [hmem p, keys_mem hk, (hM p).1]
  · rw [hlen, hS.length_eq]
    show (es.map _).length ≤ n
    rw [List.length_map]
    exact hsz
  · rw [hlen]
    exact hrow
end Go.Proofs.YtkpcohfdcilfcaaGreat
namespace Go.Proofs.YtkpcohfdcilfcaaGreat
open Go.ChangeShapes Go.WideShapes Go.ChangeAt Go.RowKit
theorem own_sl {w : World} {base n : Nat} {e : TypeId} {v : Value} {zs : List Value} (h : w.ownsRow base e 1 v n zs) : ∃ A c, v = .slice A n c ∧ Sl w w.heap.size A zs ∧ n ≤ c ∧ c ≤ maxLen := by
  have h0 := h
  rcases h.2 with ⟨rfl, rfl⟩ | ⟨g, cap, cur, rfl, hb, hh, hnc, hcm, hsz, ht⟩
  · exact ⟨none, 0, rfl, Sl.of_own h0, Nat.le_refl _, by unfold maxLen; omega⟩
  · exact ⟨_, cap, rfl, Sl.of_own h0, hnc, hcm⟩
def liveOf (M : Int → Option Fd) (p : Int) : Option Fd := match M p with
  | some y => if y.k = 1 then some y else none
  | none => none
def allK (M : Int → Option Fd) (ks : List Int) : List Fd := ks.filterMap (liveOf M)
theorem allK_len (M : Int → Option Fd) (ks : List Int) : (allK M ks).length ≤ ks.length := List.length_filterMap_le _ _
theorem allK_take {M : Int → Option Fd} {ks : List Int} {k : Nat} {p : Int} (h : ks[k]? = some p) : allK M (ks.take (k + 1)) = allK M (ks.take k) ++ (liveOf M p).toList := by
  rw [take_next h]
  unfold allK
  rw [List.filterMap_append]
  congr 1
theorem liveOf_some {M : Int → Option Fd} {p : Int} {y : Fd} : liveOf M p = some y ↔ M p = some y ∧ y.k = 1 := by
  unfold liveOf
  cases hq : M p with
  | none => simp
  | some z =>
    dsimp only
    by_cases hk : z.k = 1
    · rw [if_pos hk]
      constructor
      · intro h
        cases h
        exact ⟨rfl, hk⟩
      · exact fun h => h.1
    · rw [if_neg hk]
      constructor
      · intro h
        cases h
      · rintro ⟨h, h2⟩
        cases h
        exact absurd h2 hk
theorem allK_isAll {fs : List Fd} {ks : List Int} (hk : ks.Pairwise (· < ·)) (hm : ∀ p, p ∈ ks ↔ (newestZ (lastZ fs) fs p).isSome = true) : IsAll fs (allK (newestZ (lastZ fs) fs) ks) := by
  constructor
  · unfold allK
    rw [List.pairwise_filterMap]
    refine hk.imp fun {a b} hab y hy z hz => ?_
    obtain ⟨h1, _⟩ := liveOf_some.1 hy
    obtain ⟨h2, _⟩ := liveOf_some.1 hz
    have := (newestZ_some h1).2.2.1
    have := (newestZ_some h2).2.2.1
    omega
  · intro x
    unfold allK
    rw [List.mem_filterMap]
    constructor
    · rintro ⟨p, _, h⟩
      obtain ⟨h1, h2⟩ := liveOf_some.1 h
      obtain rfl := (newestZ_some h1).2.2.1
      exact ⟨h1, h2⟩
    · rintro ⟨h1, h2⟩
      exact ⟨x.p, (hm _).2 (by rw [h1]; rfl), liveOf_some.2 ⟨h1, h2⟩⟩
theorem all_any (fs : List Fd) (A : Option Addr) (c : Nat) (w : World) (h : SlFd w w.heap.size A fs) (n1 : fs.length ≤ 1000000) (hok : ∀ x ∈ fs, FdOk x) : Calls Tryz.prog 90 #[.slice A fs.length c] w fun e' w' => (∃ v L, e' = .returned v ∧ RowFd w' w.heap.size v L ∧ Hid (IsAll fs L ∧ L.length ≤ fs.length)) ∧ Below w.heap.size w w' := by
  obtain ⟨M, hM⟩ : ∃ M, newestZ (lastZ fs) fs = M := ⟨_, rfl⟩
  have HM := Lib.hid hM
  go_enter Tryz.func90, Tryz.ntmps90
  go_wp2_with (first
    | (go_at_call 133; ((with_reducible refine (newest_any fs A c _ h n1 hok).mono ?_); rw [hM]; rintro e' w1 ⟨⟨g, rfl, hO, hgw⟩, hb1⟩))
    | (go_at_call 135; ((with_reducible refine (keys_any g _).mono ?_); rintro e' wk ⟨rfl, rfl⟩))
    | (go_at_call 134; ((with_reducible refine (sorted_any g fs.length _ _ hO (by omega)).mono ?_); rintro e' w2 ⟨vk, ks, rfl, HK, hrow, hb2⟩; obtain ⟨Ak, ck, rfl, hsl, hck, hcm⟩ := own_sl hrow)))
  have hz1 := hb1.size
  have hz2 := hb2.size
  have hB12 : Below w1.heap.size w1 w2 := ((Below.refl _ _).alloc (Nat.le_refl _) _).trans (hb2.mono (by simp))
  have HO2 := hO.below hB12
  have hBw2 := btr hb1 hz1 hB12
  have hkl := HK.out.2.2.1
  have hzz := hB12.size
  clear hrow hb2 hO hb1 hB12 hM
  go_loopw [3, 14] (fun s3 s14 wr => ∃ (k : Nat) (v : Value) (L : List Fd), k ≤ ks.length ∧ s14 = .int .i64 (k : Int) ∧ s3 = v ∧ Hid (allK M (ks.take k) = L) ∧ RowFd wr w2.heap.size v L ∧ L.length ≤ k ∧ Below w2.heap.size w2 wr) (fun _ s14 _ => ks.length - (iOf s14).toNat)
  case atStart => exact ⟨0, _, [], Nat.zero_le _, rfl, rfl, Lib.hid rfl, RowFd.nil_ _ _, Nat.le_refl _, Below.refl _ _⟩
  case round =>
    obtain ⟨k, v, L, hk, rfl, e3, HL, ho, hLk, hB⟩ := hrel
    have e3' := e3.symm
    subst e3'
    obtain ⟨A3, c3, hv3, -, -, -⟩ := ho.sl
    subst hv3
    by_cases hlt : k < ks.length
    · obtain ⟨p, hp⟩ : ∃ p, ks[k]? = some p := ⟨_, List.getElem?_eq_getElem hlt⟩
      obtain ⟨b1, o1, rfl, l1, q1⟩ := (hsl.below hB).at_ (by simpa using (by omega : 0 < ks.length))
      have x0 : wr.cell? ⟨b1, o1 + k, none⟩ = some (.int .i64 p) := q1 k _ (by simp [hp])
      have hpm : p ∈ ks := List.mem_of_getElem? hp
      have hpi := HK.out.2.2.2 p hpm
      obtain ⟨y, hy⟩ := Option.isSome_iff_exists.1 ((HK.out.2.1 p).1 hpm)
      have hst := allK_take (M := M) hp
      rw [HL.out] at hst
      have HOr := HO2.below hB
      have hsz := hB.size
      have l1' : b1 < wr.heap.size := by omega
      have i0 : (0 : Int) ≤ (k : Int) := by omega
      have i1 : (k : Int) < (ks.length : Int) := by omega
      have hBn : Below w2.heap.size w2 (wr.alloc (.cells #[.int .i64 y.b, .int .i64 y.g, .int .i64 y.k, .int .i64 y.p, .int .i64 y.s, .int .i64 y.e] 119)) := hB.alloc hB.size _
      have hon : RowFd (wr.alloc (.cells #[.int .i64 y.b, .int .i64 y.g, .int .i64 y.k, .int .i64 y.p, .int .i64 y.s, .int .i64 y.e] 119)) w2.heap.size (.slice A3 L.length c3) L := ho.below ((Below.refl _ _).alloc (Nat.le_refl _) _)
      have HY : Hid ((M p).getD zFd = y) := Lib.hid (by rw [hy]; rfl)
      clear q1 hp hpm
      by_cases k1 : y.k = 1
      · rw [liveOf_some.2 ⟨hy, k1⟩] at hst
        have HST : Hid (allK M (ks.take (k + 1)) = L ++ [y]) := Lib.hid hst
        have k1b : (y.k == 1) = true := by simpa using k1
        clear hst hy k1
        go_wp2_with (first
          | (at_lookup; refine wpList_look _ rfl _ _ rfl g fs.length _ rfl HOr p rfl hpi y HY.out ?_)
          | (at_builtin; obtain ⟨ti0, hi, hz0, hz1, hz2⟩ := info_parts infoFd; refine wpList_app _ rfl (.tmp 25) (.tmp 27) _ rfl w2.heap.size 119 ti0 _ 6 48 Tryz.underlying93 hi hz0 hz1 hz2 rfl (by decide) _ L.length (L.flatMap fCs) rfl (hon.below ((Below.refl _ _).alloc (Nat.le_refl _) _)) _ 1 _ (fCs y) rfl (rd_new _ y (by simp)) (flat_one1 y) (by unfold maxLen; omega) (by omega) (by simp; omega) ?_; intro v' w' ho' hg' hv'; clear hi hz0 hz1 hz2))
        have hlt' := ho.lt
        go_roundw
        case rel => exact ⟨k + 1, v', L ++ [y], by omega, by go_num, rfl, HST, RowFd.snocK ho', by rw [List.length_append]; simp; omega, (hBn.alloc (by simp; omega) _).grown hg' (by simp; omega) (fun g hg => (hlt' g hg).1)⟩
        case measure => simp [iOf]; omega
      · have hln : liveOf M p = none := by
          cases hq : liveOf M p with
          | none => rfl
          | some z =>
            obtain ⟨h1, h2⟩ := liveOf_some.1 hq
            rw [hy] at h1
            cases h1
            exact absurd h2 k1
        rw [hln] at hst
        have HST : Hid (allK M (ks.take (k + 1)) = L) := Lib.hid (by simpa using hst)
        have k1b : (y.k == 1) = false := by simpa using k1
        clear hst hy k1 hln
        go_wp2_with (at_lookup; refine wpList_look _ rfl _ _ rfl g fs.length _ rfl HOr p rfl hpi y HY.out ?_)
        go_roundw
        case rel => exact ⟨k + 1, _, L, by omega, by go_num, rfl, HST, hon, by omega, hBn⟩
        case measure => simp [iOf]; omega
    · obtain rfl : k = ks.length := by omega
      have HA : Hid (IsAll fs L ∧ L.length ≤ fs.length) := Lib.hid (by
        have e := HL.out
        rw [List.take_length] at e
        subst e
        obtain rfl := HM.out
        exact ⟨allK_isAll HK.out.1 HK.out.2.1, by have := allK_len (newestZ (lastZ fs) fs) ks; omega⟩)
      clear HL
      go_wp2
      go_ret
      exact ⟨⟨_, L, rfl, ho.base (by omega), HA⟩, btr hBw2 (by omega) hB⟩
def st6K (w : World) (g : Nat) (u0 u1 u2 u3 u4 u5 : Value) : World := (((((w.setCell ⟨g, 0, none⟩ u0).setCell ⟨g, 1, none⟩ u1).setCell ⟨g, 2, none⟩ u2).setCell ⟨g, 3, none⟩ u3).setCell ⟨g, 4, none⟩ u4).setCell ⟨g, 5, none⟩ u5
end Go.Proofs.YtkpcohfdcilfcaaGreat
namespace Go.Proofs.YtkpcohfdcilfcaaGreat
open Go.ChangeShapes Go.WideShapes Go.ChangeAt Go.RowKit
attribute [local go_sem ↓] Go.wp_at_zero Go.wp_at_succ
theorem grown_set {w w1 : World} {g : Nat} (hg : w.grownBy w1 (some g)) (i : Nat) (u : Value) : w.grownBy (w1.setCell ⟨g, i, none⟩ u) (some g) := by
  have hb := (Below.refl (0 : Nat) w1).setCell (p := ⟨g, i, none⟩) (Nat.zero_le _) u
  exact ⟨hb.os.trans hg.os, hb.tape.trans hg.tape, hb.output.trans hg.output, Nat.le_trans hg.size hb.size, fun k hk hne => (Below.heap_setCell w1 ⟨g, i, none⟩ u k (fun e => hne (by rw [e]))).trans (hg.block k hk hne)⟩
theorem set1_grown (w : World) (g i : Nat) (u : Value) : w.grownBy (w.setCell ⟨g, i, none⟩ u) (some g) := grown_set (World.grownBy.refl w _) _ _
theorem own_far {w : World} {g o : Nat} {cs : Array Value} {T : TypeId} {base : Nat} {v : Value} {S : List Fd} {u : Value} (h : RowFd w base v S) (hB : Blk w g T cs) (hne : v.ownBlock ≠ some g := by assumption) : RowFd (w.setCell ⟨g, o, none⟩ u) base v S :=
  World.ownsRow.kept h (row := some g) (set1_grown w g o u) (Or.inr hne)
def toData (x : Fd) : Fd := if x.k = 2 then ⟨x.b, x.g, 1, x.p, x.s, x.e⟩ else x
def trimL (L : List Fd) : List Fd := L.map toData
theorem trimL_next {fs : List Fd} {k : Nat} {x : Fd} (h : fs[k]? = some x) : trimL (fs.take (k + 1)) = trimL (fs.take k) ++ [toData x] := by
  unfold trimL
  rw [List.take_add_one, h, List.map_append]
  rfl
theorem trimL_len (L : List Fd) : (trimL L).length = L.length := by simp [trimL]
theorem bx6 {w : World} {g : Nat} {T : TypeId} {a b c d e f : Value} (h : Blk w g T #[a, b, c, d, e, f]) : w.cell? ⟨g, 0, none⟩ = some a ∧ w.cell? ⟨g, 1, none⟩ = some b ∧ w.cell? ⟨g, 2, none⟩ = some c ∧ w.cell? ⟨g, 3, none⟩ = some d ∧ w.cell? ⟨g, 4, none⟩ = some e ∧ w.cell? ⟨g, 5, none⟩ = some f := by
  have h0 := h.cell_ 0
  have h1 := h.cell_ 1
  have h2 := h.cell_ 2
  have h3 := h.cell_ 3
  have h4 := h.cell_ 4
  have h5 := h.cell_ 5
  simp at h0 h1 h2 h3 h4 h5
  exact ⟨h0, h1, h2, h3, h4, h5⟩
theorem trims_any (fs : List Fd) (n : Nat) (hn : fs.length = n) (A : Option Addr) (c : Nat) (w : World) (h : SlFd w w.heap.size A fs) (n1 : n ≤ 100000) :
    Calls Tryz.prog 91 #[.slice A n c] w fun e' w' => (∃ v, e' = .returned v ∧ RowFd w' w.heap.size v (trimL fs)) ∧ Below w.heap.size w w' := by
  have HN := Lib.hid hn
  clear hn
  go_enter Tryz.func91, Tryz.ntmps91
  go_upto_region 2 with (at_make; obtain ⟨ti0, hi, hz0, hz1, hz2⟩ := info_parts infoFd; refine wpList_make_own _ rfl _ _ 93 rfl w.heap.size 119 ti0 _ 6 Tryz.underlying93 hi hz0 hz1 _ _ _ n rfl rfl rfl (by rw [hz2]; omega) (by unfold maxLen; omega) (Nat.le_refl _) ?_; intro w1 hown1 hgrow1; clear hi hz0 hz1 hz2)
  have hB1 : Below w.heap.size w w1 := (Below.refl _ _).grown hgrow1 (Nat.le_refl _) (fun j hj => by cases hj)
  have HR0 : Hid (∃ S, trimL (fs.take 0) = S ∧ RowFd w1 w.heap.size (.slice (some ⟨w.heap.size, 0, none⟩) 0 n) S) := Lib.hid ⟨[], rfl, hown1⟩
  clear hown1 hgrow1
  go_wp2_with fail
  go_loopw [3, 11] (fun av i wr => ∃ k : Nat, k ≤ n ∧ i = .int .i64 k ∧ Hid (∃ S, trimL (fs.take k) = S ∧ RowFd wr w.heap.size av S) ∧ Below w.heap.size w wr) (fun _ i _ => n - (intOf i).toNat)
  case atStart => exact ⟨0, by omega, rfl, HR0, hB1⟩
  case round =>
    clear HR0
    obtain ⟨k, hk, rfl, HR, HB⟩ := hrel
    obtain ⟨S, hS, hon0⟩ := HR.out
    have HS := Lib.hid hS
    clear HR hS
    obtain ⟨A3, c3, hv3, -, -, -⟩ := hon0.sl
    subst hv3
    have hSk : Hid (S.length ≤ k) := Lib.hid (by rw [← HS.out, trimL_len, List.length_take]; omega)
    by_cases hlt : k < n
    · have hlx : k < fs.length := by have := HN.out; omega
      obtain ⟨b1, o1, rfl, l1, q1⟩ := (h.below HB).at_ (by omega)
      obtain ⟨x, hx⟩ : ∃ x, fs[k]? = some x := ⟨_, List.getElem?_eq_getElem hlx⟩
      obtain ⟨x0, x1, x2, x3, x4, x5⟩ := q1 k x hx
      have hsz := HB.size
      have l1' : b1 < wr.heap.size := by omega
      have i0 : (0 : Int) ≤ (k : Int) := by omega
      have i1 : (k : Int) < (n : Int) := by omega
      have hst := trimL_next hx
      rw [HS.out] at hst
      have hSl := hSk.out
      clear q1 hx hlx hSk
      go_upto_region 5 with fail
      obtain ⟨W, hW⟩ : ∃ V : World, V = wr.alloc (.cells #[.int .i64 x.b, .int .i64 x.g, .int .i64 x.k, .int .i64 x.p, .int .i64 x.s, .int .i64 x.e] 119) := ⟨_, rfl⟩
      have BX : Blk W wr.heap.size 119 #[.int .i64 x.b, .int .i64 x.g, .int .i64 x.k, .int .i64 x.p, .int .i64 x.s, .int .i64 x.e] := by rw [hW]; exact Blk.new_ _ _ _
      have hal : Below wr.heap.size wr W := by rw [hW]; exact (Below.refl _ _).alloc (Nat.le_refl _) _
      rw [← hW]
      have HBX := btr HB HB.size hal
      have honW := hon0.below hal
      obtain ⟨g, hg⟩ : ∃ g, wr.heap.size = g := ⟨_, rfl⟩
      have hgw : w.heap.size ≤ g := by omega
      rw [hg] at BX ⊢
      have HNB : Hid ((Value.slice A3 S.length c3).ownBlock ≠ some g) := Lib.hid (fun e => by
        have := (World.ownsRow.lt hon0 _ e).2
        omega)
      clear hW hg hal x0 x1 x2 x3 x4 x5 HB hon0
      by_cases h2 : x.k = 2
      · have BY := BX.set_ 2 (.int .i64 1)
        simp at BY
        obtain ⟨y0, y1, y2, y3, y4, y5⟩ := bx6 BX
        obtain ⟨z0, z1, z2, z3, z4, z5⟩ := bx6 BY
        have fz := BX.free 2
        have e2 : (x.k == 2) = true := by rw [h2]; rfl
        rw [h2] at y2
        have hnb : (Value.slice A3 S.length c3).ownBlock ≠ some g := HNB.out
        have hon : RowFd (W.setCell ⟨g, 2, none⟩ (.int .i64 1)) w.heap.size (.slice A3 S.length c3) S := own_far honW BX
        have HST : Hid (trimL (fs.take (k + 1)) = S ++ [⟨x.b, x.g, 1, x.p, x.s, x.e⟩]) := Lib.hid (by rw [hst]; unfold toData; rw [if_pos h2])
        have hsW2 := HBX.size
        replace HBX : Below w.heap.size w (W.setCell ⟨g, 2, none⟩ (.int .i64 1)) := HBX.setCell hgw _
        have hsW := HBX.size
        clear hst h2 BX BY honW e2
        go_wp2_with (at_builtin; obtain ⟨ti0, hi, hz0, hz1, hz2⟩ := info_parts infoFd; refine wpList_app _ rfl (.tmp 21) (.tmp 23) _ rfl w.heap.size 119 ti0 _ 6 48 Tryz.underlying93 hi hz0 hz1 hz2 rfl (by decide) _ S.length (S.flatMap fCs) rfl (hon.below ((Below.refl _ _).alloc (Nat.le_refl _) _)) _ 1 _ (fCs ⟨x.b, x.g, 1, x.p, x.s, x.e⟩) rfl (rd_new _ (⟨x.b, x.g, 1, x.p, x.s, x.e⟩ : Fd) (by simp)) (flat_one1 ⟨x.b, x.g, 1, x.p, x.s, x.e⟩) (by unfold maxLen; omega) (by omega) (by simp; omega) ?_; intro v' w' ho' hg' hv'; clear hi hz0 hz1 hz2)
        have hlt' := hon.lt
        go_roundw
        case rel => exact ⟨k + 1, by omega, by go_num, Lib.hid ⟨S ++ [⟨x.b, x.g, 1, x.p, x.s, x.e⟩], HST.out, RowFd.snocK ho'⟩, HBX.alloc HBX.size _ |>.trans (below_app (Nat.le_refl _) (by simp; omega) (hon.below ((Below.refl _ _).alloc (Nat.le_refl _) _)) hg')⟩
        case measure => simp [intOf]; omega
      · obtain ⟨y0, y1, y2, y3, y4, y5⟩ := bx6 BX
        have e2 : (x.k == 2) = false := by simpa using h2
        have hon := honW
        have HST : Hid (trimL (fs.take (k + 1)) = S ++ [x]) := Lib.hid (by rw [hst]; unfold toData; rw [if_neg h2])
        have hsW := HBX.size
        clear hst h2 BX honW
        go_wp2_with (at_builtin; obtain ⟨ti0, hi, hz0, hz1, hz2⟩ := info_parts infoFd; refine wpList_app _ rfl (.tmp 21) (.tmp 23) _ rfl w.heap.size 119 ti0 _ 6 48 Tryz.underlying93 hi hz0 hz1 hz2 rfl (by decide) _ S.length (S.flatMap fCs) rfl (hon.below ((Below.refl _ _).alloc (Nat.le_refl _) _)) _ 1 _ (fCs x) rfl (rd_new _ x (by simp)) (flat_one1 x) (by unfold maxLen; omega) (by omega) (by simp; omega) ?_; intro v' w' ho' hg' hv'; clear hi hz0 hz1 hz2)
        have hlt' := hon.lt
        go_roundw
        case rel => exact ⟨k + 1, by omega, by go_num, Lib.hid ⟨S ++ [x], HST.out, RowFd.snocK ho'⟩, HBX.alloc HBX.size _ |>.trans (below_app (Nat.le_refl _) (by simp; omega) (hon.below ((Below.refl _ _).alloc (Nat.le_refl _) _)) hg')⟩
        case measure => simp [intOf]; omega
    · obtain rfl : k = n := by omega
      have hS9 : S = trimL fs := by rw [← HS.out, List.take_of_length_le (by rw [HN.out]; exact Nat.le_refl _)]
      subst hS9
      have HO := Lib.hid hon0
      clear HS hSk hon0
      go_wp2_with fail
      go_ret
      exact ⟨⟨_, rfl, HO.out⟩, HB⟩
end Go.Proofs.YtkpcohfdcilfcaaGreat
namespace Go.Proofs.YtkpcohfdcilfcaaGreat
open Go.ChangeShapes Go.WideShapes Go.ChangeAt Go.RowKit
attribute [local go_sem ↓] Go.wp_at_zero Go.wp_at_succ
def FdsAt (w : World) (F : FlK) (A : Option Addr) (fs : List Fd) : Prop := fs = [] ∨ ∃ b off, A = some ⟨b, off, none⟩ ∧ b < w.heap.size ∧ ¬ FlU F b ∧ ∀ (k : Nat) (x : Fd), fs[k]? = some x → w.cell? ⟨b, off + k * 6, none⟩ = some (.int .i64 x.b) ∧ w.cell? ⟨b, off + k * 6 + 1, none⟩ = some (.int .i64 x.g) ∧ w.cell? ⟨b, off + k * 6 + 2, none⟩ = some (.int .i64 x.k) ∧ w.cell? ⟨b, off + k * 6 + 3, none⟩ = some (.int .i64 x.p) ∧ w.cell? ⟨b, off + k * 6 + 4, none⟩ = some (.int .i64 x.s) ∧ w.cell? ⟨b, off + k * 6 + 5, none⟩ = some (.int .i64 x.e)
theorem FdsAt.tch {w w' : World} {F : FlK} {A : Option Addr} {fs : List Fd} (h : FdsAt w F A fs) (hT : Tch (FlB F) w w') : FdsAt w' F A fs := by
  rcases h with h | ⟨b, off, hA, hl, hn, hq⟩
  · exact Or.inl h
  · have hb := hT.far b hl (fun e => hn (Or.inl e))
    refine Or.inr ⟨b, off, hA, Nat.lt_of_lt_of_le hl hT.size, hn, fun k x hx => ?_⟩
    obtain ⟨q0, q1, q2, q3, q4, q5⟩ := hq k x hx
    exact ⟨(cell_of_heap hb _).trans q0, (cell_of_heap hb _).trans q1, (cell_of_heap hb _).trans q2, (cell_of_heap hb _).trans q3, (cell_of_heap hb _).trans q4, (cell_of_heap hb _).trans q5⟩
theorem FdsAt.sl {w : World} {F : FlK} {A : Option Addr} {fs : List Fd} (h : FdsAt w F A fs) : SlFd w w.heap.size A fs := by
  rcases h with rfl | ⟨b, off, hA, hl, hn, hq⟩
  · exact SlFd.nil_
  · refine Or.inr ⟨b, off, hA, hl, fun k e hk j u hu => ?_⟩
    rw [List.getElem?_map] at hk
    obtain ⟨x, hx, rfl⟩ := Option.map_eq_some_iff.1 hk
    obtain ⟨q0, q1, q2, q3, q4, q5⟩ := hq k x hx
    match j, hu with
    | 0, hu => cases hu; exact q0
    | 1, hu => cases hu; exact q1
    | 2, hu => cases hu; exact q2
    | 3, hu => cases hu; exact q3
    | 4, hu => cases hu; exact q4
    | 5, hu => cases hu; exact q5
    | j + 6, hu => simp [fCs] at hu
theorem FdsAt.at_ {w : World} {F : FlK} {A : Option Addr} {fs : List Fd} (h : FdsAt w F A fs) (hn : 0 < fs.length) : ∃ b off, A = some ⟨b, off, none⟩ ∧ b < w.heap.size ∧ ∀ (k : Nat) (x : Fd), fs[k]? = some x → w.cell? ⟨b, off + k * 6, none⟩ = some (.int .i64 x.b) ∧ w.cell? ⟨b, off + k * 6 + 1, none⟩ = some (.int .i64 x.g) ∧ w.cell? ⟨b, off + k * 6 + 2, none⟩ = some (.int .i64 x.k) ∧ w.cell? ⟨b, off + k * 6 + 3, none⟩ = some (.int .i64 x.p) ∧ w.cell? ⟨b, off + k * 6 + 4, none⟩ = some (.int .i64 x.s) ∧ w.cell? ⟨b, off + k * 6 + 5, none⟩ = some (.int .i64 x.e) := by
  rcases h with rfl | ⟨b, off, hA, hl, _, hq⟩
  · simp at hn
  · exact ⟨b, off, hA, hl, hq⟩
def comStep (last : Int) (s : FlS) (x : Fd) : FlS := if x.k = 3 ∧ x.e = last then { s with cx := x.b, cy := x.g, sld := true } else s
def comF (last : Int) (s : FlS) (L : List Fd) : FlS := L.foldl (comStep last) s
theorem comF_next {last : Int} {s : FlS} {fs : List Fd} {k : Nat} {x : Fd} (h : fs[k]? = some x) : comF last s (fs.take (k + 1)) = comStep last (comF last s (fs.take k)) x := by
  unfold comF
  rw [List.take_add_one, h, List.foldl_append]
  rfl
theorem last_n (fs : List Fd) (n : Nat) (hn : fs.length = n) (A : Option Addr) (c : Nat) (w : World) (h : SlFd w w.heap.size A fs) (n1 : n ≤ 1000000) : Calls Tryz.prog 137 #[.slice A n c] w fun e' w' => e' = .returned (.int .i64 (lastZ fs)) ∧ Below w.heap.size w w' := by
  subst hn
  exact last_any fs A c w h n1
theorem findCommit_f (F : FlK) (a b c d e : Int) (fs : List Flt) (L N : Nat) (s : FlS) (fds : List Fd) (n : Nat) (hn : fds.length = n) (A : Option Addr) (cA : Nat) (w : World) (hF : FlW w F a b c d e fs L N s) (hA : FdsAt w F A fds) (n1 : n ≤ 100000) :
    Calls Tryz.prog 94 #[.pointer (some ⟨F.fm, 0, none⟩), .slice A n cA] w fun e' w' => (∃ v, e' = .returned v) ∧ FlW w' F a b c d e fs L N (comF (lastZ fds) s fds) ∧ Tch (FlB F) w w' := by
  have HN := Lib.hid hn
  have hSl := hA.sl
  clear hn
  go_enter Tryz.func94, Tryz.ntmps94
  go_wp2_with ((go_at_call 137; ((with_reducible refine (last_n fds n HN.out A cA _ hSl (by omega)).mono ?_); rintro e' w1 ⟨rfl, b1⟩; skip)))
  obtain ⟨last, hlast⟩ : ∃ l, lastZ fds = l := ⟨_, rfl⟩
  have HLA := Lib.hid hlast
  rw [hlast]
  clear hlast hSl
  go_loopw [11] (fun i wr => ∃ k : Nat, k ≤ n ∧ i = .int .i64 k ∧ Hid (∃ S, comF last s (fds.take k) = S ∧ FlW wr F a b c d e fs L N S) ∧ Tch (FlB F) w wr) (fun i _ => n - (intOf i).toNat)
  case atStart => exact ⟨0, by omega, rfl, Lib.hid ⟨s, rfl, hF.below b1⟩, tch_bel b1⟩
  case round =>
    obtain ⟨k, hk, rfl, HR, HT⟩ := hrel
    obtain ⟨S, hS, hG⟩ := HR.out
    have HS := Lib.hid hS
    clear HR hS
    by_cases hlt : k < n
    · have hlx : k < fds.length := by have := HN.out; omega
      obtain ⟨b1, o1, rfl, l1, q1⟩ := (hA.tch HT).at_ (by omega)
      obtain ⟨x, hx⟩ : ∃ x, fds[k]? = some x := ⟨_, List.getElem?_eq_getElem hlx⟩
      obtain ⟨x0, x1, x2, x3, x4, x5⟩ := q1 k x hx
      have i0 : (0 : Int) ≤ (k : Int) := by omega
      have i1 : (k : Int) < (n : Int) := by omega
      have hst := comF_next (last := last) (s := s) hx
      rw [HS.out] at hst
      clear q1 hx hlx
      go_upto_region 4 with fail
      obtain ⟨W, hW⟩ : ∃ V : World, V = wr.alloc (.cells #[.int .i64 x.b, .int .i64 x.g, .int .i64 x.k, .int .i64 x.p, .int .i64 x.s, .int .i64 x.e] 119) := ⟨_, rfl⟩
      have BX : Blk W wr.heap.size 119 #[.int .i64 x.b, .int .i64 x.g, .int .i64 x.k, .int .i64 x.p, .int .i64 x.s, .int .i64 x.e] := by rw [hW]; exact Blk.new_ _ _ _
      have hal : Below wr.heap.size wr W := by rw [hW]; exact (Below.refl _ _).alloc (Nat.le_refl _) _
      rw [← hW]
      have HTW := HT.trans (tch_bel hal)
      have hGW := hG.below hal
      obtain ⟨g, hg⟩ : ∃ g, wr.heap.size = g := ⟨_, rfl⟩
      have hgf : F.fm ≠ g := by
        have := hG.blt flB_fm
        omega
      rw [hg] at BX ⊢
      clear hW hg hal x0 x1 x2 x3 x4 x5 HT hG
      obtain ⟨y0, y1, y2, y3, y4, y5⟩ := bx6 BX
      rcases (by cases h : (x.k == 3) <;> simp : (x.k == 3) = true ∨ (x.k == 3) = false) with e3 | e3
      · rcases (by cases h : (x.e == last) <;> simp : (x.e == last) = true ∨ (x.e == last) = false) with e4 | e4
        · have HNX : Hid (comF last s (fds.take (k + 1)) = { S with cx := x.b, cy := x.g, sld := true }) := Lib.hid (by rw [hst]; unfold comStep; rw [if_pos ⟨by simpa using e3, by simpa using e4⟩])
          have hC := hGW.comSet x.b x.g
          have k13 := hGW.c13
          have k14 := hGW.c14
          have k15 := hGW.c15
          have f13 := hGW.free 13
          have f14 := hGW.free 14
          have f15 := hGW.free 15
          clear hst
          go_wp2_with fail
          go_roundw
          case rel => exact ⟨k + 1, by omega, by go_num, Lib.hid ⟨_, HNX.out, hC.1⟩, HTW.trans hC.2⟩
          case measure => simp [intOf]; omega
        · have HNX : Hid (comF last s (fds.take (k + 1)) = S) := Lib.hid (by rw [hst]; unfold comStep; rw [if_neg (fun h => by have : (x.e == last) = true := (by simpa using h.2); rw [e4] at this; cases this)])
          clear hst
          go_wp2_with fail
          go_roundw
          case rel => exact ⟨k + 1, by omega, by go_num, Lib.hid ⟨_, HNX.out, hGW⟩, HTW⟩
          case measure => simp [intOf]; omega
      · have HNX : Hid (comF last s (fds.take (k + 1)) = S) := Lib.hid (by rw [hst]; unfold comStep; rw [if_neg (fun h => by have : (x.k == 3) = true := (by simpa using h.1); rw [e3] at this; cases this)])
        clear hst
        go_wp2_with fail
        go_roundw
        case rel => exact ⟨k + 1, by omega, by go_num, Lib.hid ⟨_, HNX.out, hGW⟩, HTW⟩
        case measure => simp [intOf]; omega
    · obtain rfl : k = n := by omega
      have hS9 : S = comF last s fds := by rw [← HS.out, List.take_of_length_le (by rw [HN.out]; exact Nat.le_refl _)]
      subst hS9
      have HO := Lib.hid hG
      clear HS hG
      go_wp2_with fail
      refine bodyPost_end (v := .tuple #[]) (by simp [results, Tryz.results94, go_sem]) rfl ⟨⟨_, rfl⟩, ?_, HT⟩
      rw [HLA.out]
      exact HO.out
end Go.Proofs.YtkpcohfdcilfcaaGreat
namespace Go.Proofs.YtkpcohfdcilfcaaGreat
open Go.ChangeShapes Go.WideShapes Go.ChangeAt Go.RowKit
attribute [local go_sem ↓] Go.wp_at_zero Go.wp_at_succ
def seqF (L : List Fd) (n : Int) : Int := L.foldl (fun n x => max n x.s) n
def epoF (L : List Fd) (n : Int) : Int := L.foldl (fun n x => max n x.e) n
theorem Blk.drew_F {w : World} {g : Nat} {t : TypeId} {cs : Array Value} (h : Blk w g t cs) : Blk w.drew g t cs := h
theorem rowB {w : World} {g : Nat} {l : List Bool} {L k : Nat} (h : RowT w g 4 (l.map Value.bool)) (hl : l.length = L) (hk : k < L) : ∃ v, w.cell? ⟨g, k, none⟩ = some (.bool v) :=
  ⟨l[k], h.cell_ (by rw [List.getElem?_map, List.getElem?_eq_getElem (by omega)]; rfl)⟩
theorem FlW.lkp {w : World} {F : FlK} {a b c d e : Int} {fs : List Flt} {L N : Nat} {s : FlS} {A : List Int} (hF : FlW w F a b c d e fs L N { s with kA := A }) : A.length = L := hF.lk
theorem put_in {a b : Int} {A : List Int} {p x y : Int} {L : Nat} (h : putB a b A p x y = true) (hl : (putL a b A p x y).length = L) : ∃ k : Nat, p = (k : Int) ∧ k < L := by
  rw [putL_len] at hl
  unfold putB at h
  simp only [Bool.and_eq_true, decide_eq_true_eq] at h
  exact ⟨p.toNat, by omega, by omega⟩
theorem seqF_next {fs : List Fd} {k : Nat} {x : Fd} (h : fs[k]? = some x) (n : Int) : seqF (fs.take (k + 1)) n = max (seqF (fs.take k) n) x.s := by
  unfold seqF
  rw [List.take_add_one, h, List.foldl_append]
  rfl
theorem epoF_next {fs : List Fd} {k : Nat} {x : Fd} (h : fs[k]? = some x) (n : Int) : epoF (fs.take (k + 1)) n = max (epoF (fs.take k) n) x.e := by
  unfold epoF
  rw [List.take_add_one, h, List.foldl_append]
  rfl
def putStep (a b : Int) (s : FlS) (x : Fd) : FlS := if putB a b s.kA x.p x.b x.g then { s with kA := putL a b s.kA x.p x.b x.g, tr := s.tr.set x.p.toNat true } else s
def datStep (L : Nat) (s : FlS) (x : Fd) : FlS := if mayP L x.p then { s with tr := s.tr.set x.p.toNat false } else s
def staStep (L : Nat) (s : FlS) (x : Fd) : FlS := if mayP L x.p then { s with st := s.st.set x.p.toNat true } else s
theorem put_f (F : FlK) (a b c d e : Int) (fs : List Flt) (L N : Nat) (s : FlS) (p x y : Int) (w : World) (hF : FlW w F a b c d e fs L N s) (B : Bool) (hB : putB a b s.kA p x y = B) :
    Calls Tryz.prog 92 #[.pointer (some ⟨F.km, 0, none⟩), .int .i64 p, .agg #[.int .i64 x, .int .i64 y]] w fun e' w' => e' = .returned (.bool B) ∧ FlW w' F a b c d e fs L N { s with kA := putL a b s.kA p x y } ∧ Tch (FlB F) w w' := by
  subst hB
  obtain ⟨W, hM⟩ := hF.kept
  obtain ⟨l1, l2, -⟩ := hF.bL
  refine (put_anyM _ _ _ a b c d e L N s.kA W p x y w hM (Lib.hid hF.may) l1 l2 hF.hN).mono ?_
  rintro e' w' ⟨rfl, ⟨W', hM'⟩, hT⟩
  have h := hF.keptPut hM' hT hT.out
  exact ⟨rfl, h.1, h.2⟩
theorem fds_row {w : World} {F : FlK} {base : Nat} {A : Option Addr} {n c : Nat} {L : List Fd} (h : RowFd w base (.slice A n c) L) (hb : ∀ g, FlU F g → g < base) : FdsAt w F A L := by
  obtain ⟨A', c', hv, hs, -, -⟩ := h.sl
  cases hv
  by_cases hn : L = []
  · exact Or.inl hn
  · obtain ⟨b, off, hA, hl, hq⟩ := hs.at_ (List.length_pos_iff.2 hn)
    subst hA
    have hlt := World.ownsRow.lt h b rfl
    exact Or.inr ⟨b, off, rfl, hl, fun hu => by have := hb _ hu; omega, hq⟩
theorem okL {L : List Fd} (h : ∀ x ∈ L, FdOk x) : ∀ x ∈ trimL L, FdOk x := by
  intro x hx
  unfold trimL at hx
  obtain ⟨y, hy, rfl⟩ := List.mem_map.1 hx
  have q := h y hy
  unfold toData
  split
  · exact ⟨q.1, q.2.1, show i64in 1 by unfold i64in; decide, q.2.2.2.1, q.2.2.2.2.1, q.2.2.2.2.2⟩
  · exact q
theorem all_n (fs : List Fd) (n : Nat) (hn : fs.length = n) (A : Option Addr) (c : Nat) (w : World) (h : SlFd w w.heap.size A fs) (n1 : n ≤ 1000000) (hok : ∀ x ∈ fs, FdOk x) : Calls Tryz.prog 90 #[.slice A n c] w fun e' w' => (∃ (A' : Option Addr) (n' c' : Nat) (L : List Fd), e' = .returned (.slice A' n' c') ∧ Hid (L.length = n' ∧ IsAll fs L) ∧ n' ≤ n ∧ RowFd w' w.heap.size (.slice A' n' c') L) ∧ Below w.heap.size w w' := by
  subst hn
  refine (all_any fs A c w h n1 hok).mono ?_
  rintro e' w' ⟨⟨v, L, rfl, hR, hI⟩, hb⟩
  obtain ⟨A', c', rfl, -, -, -⟩ := hR.sl
  exact ⟨⟨A', _, c', L, rfl, Lib.hid ⟨rfl, hI.out.1⟩, hI.out.2, hR⟩, hb⟩
theorem stale_n (fs : List Fd) (n : Nat) (hn : fs.length = n) (A : Option Addr) (c : Nat) (w : World) (h : SlFd w w.heap.size A fs) (n1 : n ≤ 1000000) : Calls Tryz.prog 93 #[.slice A n c] w fun e' w' => (∃ (A' : Option Addr) (n' c' : Nat), e' = .returned (.slice A' n' c') ∧ Hid ((staleZ fs).length = n') ∧ n' ≤ n ∧ RowFd w' w.heap.size (.slice A' n' c') (staleZ fs)) ∧ Below w.heap.size w w' := by
  subst hn
  refine (stale_any fs A c w h n1).mono ?_
  rintro e' w' ⟨⟨v, rfl, hR⟩, hb⟩
  obtain ⟨A', c', rfl, -, -, -⟩ := hR.sl
  exact ⟨⟨A', _, c', rfl, Lib.hid rfl, List.length_filter_le _ _, hR⟩, hb⟩
theorem may_in {L : Nat} {p : Int} (h : mayP L p = true) : ∃ k : Nat, p = (k : Int) ∧ k < L := by
  unfold mayP at h
  simp only [Bool.and_eq_true, decide_eq_true_eq] at h
  exact ⟨p.toNat, by omega, by omega⟩
theorem fold_next {f : FlS → Fd → FlS} {s : FlS} {fs : List Fd} {k : Nat} {x : Fd} (h : fs[k]? = some x) : (fs.take (k + 1)).foldl f s = f ((fs.take k).foldl f s) x := by
  rw [List.take_add_one, h, List.foldl_append]
  rfl
theorem learn_f (F : FlK) (a b c d e : Int) (fs : List Flt) (L N : Nat) (s : FlS) (fds : List Fd) (n : Nat) (hn : fds.length = n) (A : Option Addr) (cA : Nat) (w : World) (hF : FlW w F a b c d e fs L N s) (hA : FdsAt w F A fds) (n1 : n ≤ 100000) (hok : ∀ x ∈ fds, FdOk x) :
    Calls Tryz.prog 61 #[.pointer (some ⟨F.fm, 0, none⟩), .slice A n cA] w fun e' w' => (∃ v, e' = .returned v) ∧ (∃ L1 L2 : List Fd, IsAll (trimL fds) L1 ∧ IsAll fds L2 ∧ FlW w' F a b c d e fs L N (comF (lastZ fds) ((staleZ fds).foldl (staStep L) (L2.foldl (datStep L) (L1.foldl (putStep a b) { s with seq := seqF fds s.seq, epoch := epoF fds s.epoch }))) fds)) ∧ Tch (FlB F) w w' := by
  have HN := Lib.hid hn
  have HOK := Lib.hid hok
  clear hn hok
  go_enter Tryz.func61, Tryz.ntmps61
  go_wp2_with fail
  go_loopw [14] (fun i wr => ∃ (k : Nat) (q p : Int), k ≤ n ∧ i = .int .i64 k ∧ Hid (seqF (fds.take k) s.seq = q ∧ epoF (fds.take k) s.epoch = p) ∧ FlW wr F a b c d e fs L N { s with seq := q, epoch := p } ∧ Tch (FlB F) w wr) (fun i _ => n - (intOf i).toNat)
  case atStart => exact ⟨0, s.seq, s.epoch, by omega, rfl, Lib.hid ⟨rfl, rfl⟩, hF, Tch.refl w⟩
  case round =>
    obtain ⟨k, q, p, hk, rfl, HQ, hG, HT⟩ := hrel
    by_cases hlt : k < n
    · have hlx : k < fds.length := by have := HN.out; omega
      obtain ⟨b1, o1, rfl, l1, q1⟩ := (hA.tch HT).at_ (by omega)
      obtain ⟨x, hx⟩ : ∃ x, fds[k]? = some x := ⟨_, List.getElem?_eq_getElem hlx⟩
      obtain ⟨x0, x1, x2, x3, x4, x5⟩ := q1 k x hx
      have i0 : (0 : Int) ≤ (k : Int) := by omega
      have i1 : (k : Int) < (n : Int) := by omega
      have HNX : Hid (seqF (fds.take (k + 1)) s.seq = max q x.s ∧ epoF (fds.take (k + 1)) s.epoch = max p x.e) := Lib.hid ⟨by rw [seqF_next hx, HQ.out.1], by rw [epoF_next hx, HQ.out.2]⟩
      clear q1 hx hlx HQ
      go_upto_region 3 with fail
      obtain ⟨W, hW⟩ : ∃ V : World, V = wr.alloc (.cells #[.int .i64 x.b, .int .i64 x.g, .int .i64 x.k, .int .i64 x.p, .int .i64 x.s, .int .i64 x.e] 119) := ⟨_, rfl⟩
      have BX : Blk W wr.heap.size 119 #[.int .i64 x.b, .int .i64 x.g, .int .i64 x.k, .int .i64 x.p, .int .i64 x.s, .int .i64 x.e] := by rw [hW]; exact Blk.new_ _ _ _
      have hal : Below wr.heap.size wr W := by rw [hW]; exact (Below.refl _ _).alloc (Nat.le_refl _) _
      rw [← hW]
      have HTW := HT.trans (tch_bel hal)
      have hGW := hG.below hal
      obtain ⟨g, hg⟩ : ∃ g, wr.heap.size = g := ⟨_, rfl⟩
      have hgf : ∀ h, FlB F h → g ≠ h := fun h hb e => by
        have := hG.blt hb
        omega
      rw [hg] at BX ⊢
      clear hW hg x0 x1 x2 x3 x4 x5
      have hD := hGW.drew_
      have k8 := hD.c8
      have fz8 := hGW.free 8
      have fzD8 := hD.free 8
      have y4 : W.drew.cell? ⟨g, 4, none⟩ = some (.int .i64 x.s) := (bx6 BX).2.2.2.2.1
      have hC := hGW.seqSet (max q x.s)
      have BS := BX.far (p := ⟨F.fm, 8, none⟩) (hgf _ flB_fm) (.int .i64 (max q x.s))
      have HTC := HTW.trans hC.2
      go_upto_region 3 with fail
      refine wp_region_noPanic ?_
      refine wp_region_held_drew (S := (fun w_ => w_.cell? ⟨g, 4, none⟩ = some (.int .i64 x.s))) (by kernel_rfl) ?_ (fun hHeld => ?_)
      · (first | with_reducible exact y4 | exact (bx6 BS).2.2.2.2.1 | assumption)
      refine tk 0 ?_; try simp only [Act.put, pz1, pz2, pz3]
      refine tk 1 ?_; try simp only [Act.put, pz1, pz2, pz3]
      refine tk 2 ?_; try simp only [Act.put, pz1, pz2, pz3]
      refine tk 3 ?_; try simp only [Act.put, pz1, pz2, pz3]
      refine tk 5 ?_; try simp only [Act.put, pz1, pz2, pz3]
      refine tk 6 ?_; try simp only [Act.put, pz1, pz2, pz3]
      refine tk 7 ?_; try simp only [Act.put, pz1, pz2, pz3]
      refine wpAnyH_ready (rs := [4]) (by kernel_rfl) (by simp) ?_
      refine AllReadyH.cons (o := ⟨some 22, .load 3 (.tmp 21), 3, "mount.go:53", #[⟨3, .data⟩], none⟩) rfl (fun K hK => ?_) AllReadyH.nil
      go_simp
      refine hK.out _ _ ?_ (fun hNew => ?_)
      · (first | with_reducible exact y4 | exact (bx6 BS).2.2.2.2.1 | assumption)
      clear hK K hHeld
      have hHeld := hNew
      clear hNew
      try simp only [Act.put, pz1, pz2, pz3]
      refine tk 8 ?_; try simp only [Act.put, pz1, pz2, pz3]
      refine tk 9 ?_; try simp only [Act.put, pz1, pz2, pz3]
      refine tk 10 ?_; try simp only [Act.put, pz1, pz2, pz3]
      refine wpAnyH_ready (rs := [11]) (by kernel_rfl) (by simp) ?_
      refine AllReadyH.cons (o := ⟨none, .store 3 (.tmp 28) (.tmp 26), 0, "mount.go:53", #[⟨10, .data⟩, ⟨8, .data⟩, ⟨0, .phase⟩, ⟨1, .phase⟩, ⟨2, .phase⟩, ⟨3, .phase⟩, ⟨4, .phase⟩, ⟨5, .phase⟩, ⟨6, .phase⟩, ⟨7, .phase⟩, ⟨8, .phase⟩], none⟩) rfl (fun K hK => ?_) AllReadyH.nil
      go_simp
      refine hK.out _ _ ?_ (fun hNew => ?_)
      · (first | with_reducible exact y4 | exact (bx6 BS).2.2.2.2.1 | assumption)
      clear hK K hHeld
      have hHeld := hNew
      clear hNew
      try simp only [Act.put, pz1, pz2, pz3]
      refine wpAnyH_done (by kernel_rfl) ?_ _
      refine NoPanic.normal ?_
      obtain ⟨V3, hV⟩ : ∃ V : World, V = (W.setCell ⟨F.fm, 8, none⟩ (.int .i64 (max q x.s))).drew := ⟨_, rfl⟩
      have hGN := hC.1.like (w' := V3) (by rw [hV]; rfl)
      have HTW := HTC.like (w2 := V3) (by rw [hV]; rfl) (by rw [hV]; rfl) (by rw [hV]; rfl) (by rw [hV]; rfl)
      have BX : Blk V3 g 119 #[.int .i64 x.b, .int .i64 x.g, .int .i64 x.k, .int .i64 x.p, .int .i64 x.s, .int .i64 x.e] := by rw [hV]; exact BS
      rw [← hV]
      clear hV hC BS HTC hD k8 fz8 fzD8
      have hG3 := hGN
      clear hGN
      have hD := hG3.drew_
      have k9 := hD.c9
      have fz9 := hG3.free 9
      have fzD9 := hD.free 9
      have y5 : V3.drew.cell? ⟨g, 5, none⟩ = some (.int .i64 x.e) := (bx6 BX).2.2.2.2.2
      have hC := hG3.epoSet (max p x.e)
      have BS := BX.far (p := ⟨F.fm, 9, none⟩) (hgf _ flB_fm) (.int .i64 (max p x.e))
      have HTC := HTW.trans hC.2
      go_upto_region 4 with fail
      refine wp_region_noPanic ?_
      refine wp_region_held_drew (S := (fun w_ => w_.cell? ⟨g, 5, none⟩ = some (.int .i64 x.e))) (by kernel_rfl) ?_ (fun hHeld => ?_)
      · (first | with_reducible exact y5 | exact (bx6 BS).2.2.2.2.2 | assumption)
      refine tk 0 ?_; try simp only [Act.put, pz1, pz2, pz3]
      refine tk 1 ?_; try simp only [Act.put, pz1, pz2, pz3]
      refine tk 2 ?_; try simp only [Act.put, pz1, pz2, pz3]
      refine tk 3 ?_; try simp only [Act.put, pz1, pz2, pz3]
      refine tk 5 ?_; try simp only [Act.put, pz1, pz2, pz3]
      refine tk 6 ?_; try simp only [Act.put, pz1, pz2, pz3]
      refine tk 7 ?_; try simp only [Act.put, pz1, pz2, pz3]
      refine wpAnyH_ready (rs := [4]) (by kernel_rfl) (by simp) ?_
      refine AllReadyH.cons (o := ⟨some 33, .load 3 (.tmp 32), 3, "mount.go:54", #[⟨3, .data⟩], none⟩) rfl (fun K hK => ?_) AllReadyH.nil
      go_simp
      refine hK.out _ _ ?_ (fun hNew => ?_)
      · (first | with_reducible exact y5 | exact (bx6 BS).2.2.2.2.2 | assumption)
      clear hK K hHeld
      have hHeld := hNew
      clear hNew
      try simp only [Act.put, pz1, pz2, pz3]
      refine tk 8 ?_; try simp only [Act.put, pz1, pz2, pz3]
      refine tk 9 ?_; try simp only [Act.put, pz1, pz2, pz3]
      refine tk 10 ?_; try simp only [Act.put, pz1, pz2, pz3]
      refine wpAnyH_ready (rs := [11]) (by kernel_rfl) (by simp) ?_
      refine AllReadyH.cons (o := ⟨none, .store 3 (.tmp 39) (.tmp 37), 0, "mount.go:54", #[⟨10, .data⟩, ⟨8, .data⟩, ⟨0, .phase⟩, ⟨1, .phase⟩, ⟨2, .phase⟩, ⟨3, .phase⟩, ⟨4, .phase⟩, ⟨5, .phase⟩, ⟨6, .phase⟩, ⟨7, .phase⟩, ⟨8, .phase⟩], none⟩) rfl (fun K hK => ?_) AllReadyH.nil
      go_simp
      refine hK.out _ _ ?_ (fun hNew => ?_)
      · (first | with_reducible exact y5 | exact (bx6 BS).2.2.2.2.2 | assumption)
      clear hK K hHeld
      have hHeld := hNew
      clear hNew
      try simp only [Act.put, pz1, pz2, pz3]
      refine wpAnyH_done (by kernel_rfl) ?_ _
      refine NoPanic.normal ?_
      obtain ⟨V4, hV⟩ : ∃ V : World, V = (V3.setCell ⟨F.fm, 9, none⟩ (.int .i64 (max p x.e))).drew := ⟨_, rfl⟩
      have hGN := hC.1.like (w' := V4) (by rw [hV]; rfl)
      have HTW := HTC.like (w2 := V4) (by rw [hV]; rfl) (by rw [hV]; rfl) (by rw [hV]; rfl) (by rw [hV]; rfl)
      have BX : Blk V4 g 119 #[.int .i64 x.b, .int .i64 x.g, .int .i64 x.k, .int .i64 x.p, .int .i64 x.s, .int .i64 x.e] := by rw [hV]; exact BS
      rw [← hV]
      clear hV hC BS HTC hD k9 fz9 fzD9
      go_wp2_with fail
      go_roundw
      case rel => exact ⟨k + 1, _, _, by omega, by go_num, HNX, hGN, HTW⟩
      case measure => simp [intOf]; omega
    · obtain rfl : n = k := by omega
      have HQ9 : Hid (seqF fds s.seq = q ∧ epoF fds s.epoch = p) := Lib.hid (by
        have := HQ.out
        rwa [List.take_of_length_le (by rw [HN.out]; exact Nat.le_refl _)] at this)
      clear HQ hlt hk
      obtain ⟨S1, hS1⟩ : ∃ S : FlS, ({ s with seq := q, epoch := p } : FlS) = S := ⟨_, rfl⟩
      rw [hS1] at hG
      have HS1 := Lib.hid hS1
      have HT1 := HT
      clear hS1
      go_wp2_with (first | (go_at_call 91; ((with_reducible refine (trims_any fds n HN.out A cA _ (hA.tch HT1).sl n1).mono ?_); rintro e' w2 ⟨⟨v2, rfl, hR2⟩, b2⟩; (obtain ⟨A2, c2, rfl, hs2, -, -⟩ := hR2.sl); have hlen2 : Hid ((trimL fds).length = n) := Lib.hid (by rw [trimL_len]; exact HN.out); rw [hlen2.out])) | (go_at_call 90; ((with_reducible refine (all_n (trimL fds) n hlen2.out A2 c2 _ hs2 (by omega) (okL HOK.out)).mono ?_); rintro e' w3 ⟨⟨A3, m3, c3, L3, rfl, HI3, hm3, hR3⟩, b3⟩; skip)))
      have hG2 := hG.below b2
      have hG3 := hG2.below b3
      have HT3 := (HT1.trans (tch_bel b2)).trans (tch_bel b3)
      have hA3 : FdsAt w3 F A3 L3 := fds_row hR3 (fun g h => hG2.lt g h)
      clear hR2 hs2 hR3 HT hG
      go_loopw [45] (fun i wr => ∃ k : Nat, k ≤ m3 ∧ i = .int .i64 k ∧ Hid (∃ S, (L3.take k).foldl (putStep a b) S1 = S ∧ FlW wr F a b c d e fs L N S) ∧ Tch (FlB F) w3 wr) (fun i _ => m3 - (intOf i).toNat)
      case atStart => exact ⟨0, by omega, rfl, Lib.hid ⟨S1, rfl, hG3⟩, Tch.refl w3⟩
      case round =>
        obtain ⟨k, hk, rfl, HR, HT⟩ := hrel
        obtain ⟨S, hS, hG⟩ := HR.out
        have HS := Lib.hid hS
        clear HR hS
        by_cases hlt : k < m3
        · have hlx : k < L3.length := by have := HI3.out.1; omega
          obtain ⟨b1, o1, rfl, l1, q1⟩ := (hA3.tch HT).at_ (by have := HI3.out.1; omega)
          obtain ⟨x, hx⟩ : ∃ x, L3[k]? = some x := ⟨_, List.getElem?_eq_getElem hlx⟩
          obtain ⟨x0, x1, x2, x3, x4, x5⟩ := q1 k x hx
          have i0 : (0 : Int) ≤ (k : Int) := by omega
          have i1 : (k : Int) < (m3 : Int) := by omega
          have hst := fold_next (f := putStep a b) (s := S1) hx
          rw [HS.out] at hst
          clear q1 hx hlx
          go_upto_region 9 with fail
          obtain ⟨W, hW⟩ : ∃ V : World, V = wr.alloc (.cells #[.int .i64 x.b, .int .i64 x.g, .int .i64 x.k, .int .i64 x.p, .int .i64 x.s, .int .i64 x.e] 119) := ⟨_, rfl⟩
          have BX : Blk W wr.heap.size 119 #[.int .i64 x.b, .int .i64 x.g, .int .i64 x.k, .int .i64 x.p, .int .i64 x.s, .int .i64 x.e] := by rw [hW]; exact Blk.new_ _ _ _
          have hal : Below wr.heap.size wr W := by rw [hW]; exact (Below.refl _ _).alloc (Nat.le_refl _) _
          rw [← hW]
          have HTW := HT.trans (tch_bel hal)
          have hGW := hG.below hal
          obtain ⟨g, hg⟩ : ∃ g, wr.heap.size = g := ⟨_, rfl⟩
          have hgf : ∀ h, FlB F h → g ≠ h := fun h hb e => by
            have := hG.blt hb
            omega
          rw [hg] at BX ⊢
          clear hW hg x0 x1 x2 x3 x4 x5
          obtain ⟨B, hB⟩ : ∃ B, putB a b S.kA x.p x.b x.g = B := ⟨_, rfl⟩
          have HB := Lib.hid hB
          have hst2 : (L3.take (k + 1)).foldl (putStep a b) S1 = if B then { S with kA := putL a b S.kA x.p x.b x.g, tr := S.tr.set x.p.toNat true } else S := by
            rw [hst]
            unfold putStep
            rw [hB]
          have HST := Lib.hid hst2
          clear hst hst2 hB
          have hGD := hGW.drew_
          have BXD := BX.drew_F
          have QD : W.drew.cell? ⟨F.fm, 10, none⟩ = some (.pointer (some ⟨F.km, 0, none⟩)) ∧ W.drew.cell? ⟨g, 0, none⟩ = some (.int .i64 x.b) ∧ W.drew.cell? ⟨g, 1, none⟩ = some (.int .i64 x.g) ∧ W.drew.cell? ⟨g, 3, none⟩ = some (.int .i64 x.p) := ⟨hGD.c10, (bx6 BXD).1, (bx6 BXD).2.1, (bx6 BXD).2.2.2.1⟩
          go_cut [58] (fun v wx => v = .bool B ∧ FlW wx F a b c d e fs L N { S with kA := putL a b S.kA x.p x.b x.g } ∧ Tch (FlB F) W wx ∧ Blk wx g 119 #[.int .i64 x.b, .int .i64 x.g, .int .i64 x.k, .int .i64 x.p, .int .i64 x.s, .int .i64 x.e])
          case first =>
            refine wp_region_noPanic ?_
            refine wp_region_held_drew (S := (fun w_ => w_.cell? ⟨F.fm, 10, none⟩ = some (.pointer (some ⟨F.km, 0, none⟩)) ∧ w_.cell? ⟨g, 0, none⟩ = some (.int .i64 x.b) ∧ w_.cell? ⟨g, 1, none⟩ = some (.int .i64 x.g) ∧ w_.cell? ⟨g, 3, none⟩ = some (.int .i64 x.p))) (by kernel_rfl) ?_ (fun hHeld => ?_)
            · (first | with_reducible exact QD | with_reducible exact hNext | assumption)
            refine tk 0 ?_; try simp only [Act.put, pz1, pz2, pz3]
            refine tk 1 ?_; try simp only [Act.put, pz1, pz2, pz3]
            refine tk 2 ?_; try simp only [Act.put, pz1, pz2, pz3]
            refine tk 3 ?_; try simp only [Act.put, pz1, pz2, pz3]
            refine tk 4 ?_; try simp only [Act.put, pz1, pz2, pz3]
            refine tk 5 ?_; try simp only [Act.put, pz1, pz2, pz3]
            refine tk 6 ?_; try simp only [Act.put, pz1, pz2, pz3]
            refine tk 7 ?_; try simp only [Act.put, pz1, pz2, pz3]
            refine tk 8 ?_; try simp only [Act.put, pz1, pz2, pz3]
            refine wpAnyH_ready (rs := [9]) (by kernel_rfl) (by simp) ?_
            refine AllReadyH.cons (o := ⟨some 58, .call { callee := .value (.func 92), args := #[.tmp 52, .tmp 55, .tmp 57], argTypes := #[82, 3, 68] }, 4, "mount.go:57", #[⟨3, .data⟩, ⟨6, .data⟩, ⟨8, .data⟩], none⟩) rfl (fun K hK => ?_) AllReadyH.nil
            go_simp
            (go_at_call 92; ((with_reducible refine (put_f F a b c d e fs L N S x.p x.b x.g _ hGD _ HB.out).mono ?_); rintro e' w5 ⟨rfl, hG5, hT5⟩; have BX5 := hT5.blk BXD (fun h => hgf _ h rfl); have y5 := bx6 BX5; have hNext : w5.cell? ⟨F.fm, 10, none⟩ = some (.pointer (some ⟨F.km, 0, none⟩)) ∧ w5.cell? ⟨g, 0, none⟩ = some (.int .i64 x.b) ∧ w5.cell? ⟨g, 1, none⟩ = some (.int .i64 x.g) ∧ w5.cell? ⟨g, 3, none⟩ = some (.int .i64 x.p) := ⟨hG5.c10, y5.1, y5.2.1, y5.2.2.2.1⟩))
            go_wp2_with fail
            refine hK.out _ _ ?_ (fun hNew => ?_)
            · (first | with_reducible exact QD | with_reducible exact hNext | assumption)
            clear hK K hHeld
            have hHeld := hNew
            clear hNew
            try simp only [Act.put, pz1, pz2, pz3]
            refine wpAnyH_done (by kernel_rfl) ?_ _
            refine NoPanic.normal ?_
            go_wp2_with fail
            go_meet
            exact ⟨rfl, hG5, (tch_bel (below_dr W)).trans hT5, BX5⟩
          case rest =>
            obtain ⟨rfl, hG9, hT9, BX⟩ := hcut
            have HTW := HTW.trans hT9
            clear QD hGD BXD hGW HT hG
            cases B
            · have HNX : Hid ((L3.take (k + 1)).foldl (putStep a b) S1 = { S with kA := putL a b S.kA x.p x.b x.g }) := Lib.hid (by
                rw [HST.out]
                unfold putL
                rw [HB.out]
                rfl)
              go_wp2_with fail
              go_roundw
              case rel => exact ⟨k + 1, by omega, by go_num, Lib.hid ⟨_, HNX.out, hG9⟩, HTW⟩
              case measure => simp [intOf]; omega
            · obtain ⟨kp, hkp, hkl⟩ := put_in HB.out hG9.lkp
              have HNX : Hid ((L3.take (k + 1)).foldl (putStep a b) S1 = { S with kA := putL a b S.kA x.p x.b x.g, tr := S.tr.set kp true }) := Lib.hid (by
                rw [HST.out, hkp]
                simp)
              have hD := hG9.drew_
              have BXD := BX.drew_F
              have QD : (wc.drew.cell? ⟨F.fm, 11, none⟩ = some (.slice (some ⟨F.gt, 0, none⟩) L L) ∧ wc.drew.cell? ⟨g, 3, none⟩ = some (.int .i64 (kp : Int))) := ⟨hD.c11, by rw [← hkp]; exact (bx6 BXD).2.2.2.1⟩
              have hC := hG9.trSet hkl true
              have fz := RowT.free hG9.tr kp
              have fzD := RowT.free hD.tr kp
              obtain ⟨tv, htv⟩ := rowB hG9.tr hG9.ltr hkl
              have htD : wc.drew.cell? ⟨F.gt, kp, none⟩ = some (.bool tv) := htv
              have HTC := HTW.trans hC.2
              have QS : ((wc.setCell ⟨F.gt, kp, none⟩ (.bool true)).drew.cell? ⟨F.fm, 11, none⟩ = some (.slice (some ⟨F.gt, 0, none⟩) L L) ∧ (wc.setCell ⟨F.gt, kp, none⟩ (.bool true)).drew.cell? ⟨g, 3, none⟩ = some (.int .i64 (kp : Int))) := ⟨hC.1.c11, by rw [← hkp]; exact (bx6 (BX.far (p := ⟨F.gt, kp, none⟩) (hgf _ flB_gt) (.bool true))).2.2.2.1⟩
              go_upto_region 10 with fail
              refine wp_region_noPanic ?_
              refine wp_region_held_drew (S := (fun w_ => w_.cell? ⟨F.fm, 11, none⟩ = some (.slice (some ⟨F.gt, 0, none⟩) L L) ∧ w_.cell? ⟨g, 3, none⟩ = some (.int .i64 (kp : Int)))) (by kernel_rfl) ?_ (fun hHeld => ?_)
              · (first | with_reducible exact QD | exact QS | assumption)
              refine tk 0 ?_; try simp only [Act.put, pz1, pz2, pz3]
              refine tk 1 ?_; try simp only [Act.put, pz1, pz2, pz3]
              refine tk 2 ?_; try simp only [Act.put, pz1, pz2, pz3]
              refine tk 3 ?_; try simp only [Act.put, pz1, pz2, pz3]
              refine tk 4 ?_; try simp only [Act.put, pz1, pz2, pz3]
              refine tk 5 ?_; try simp only [Act.put, pz1, pz2, pz3]
              refine tk 6 ?_; try simp only [Act.put, pz1, pz2, pz3]
              refine tk 7 ?_; try simp only [Act.put, pz1, pz2, pz3]
              refine wpAnyH_ready (rs := [8]) (by kernel_rfl) (by simp) ?_
              refine AllReadyH.cons (o := ⟨none, .store 4 (.tmp 66) (.const (.bool true)), 0, "mount.go:58", #[⟨7, .data⟩, ⟨0, .phase⟩, ⟨1, .phase⟩, ⟨2, .phase⟩, ⟨3, .phase⟩, ⟨4, .phase⟩, ⟨5, .phase⟩, ⟨6, .phase⟩], none⟩) rfl (fun K hK => ?_) AllReadyH.nil
              go_simp
              refine hK.out _ _ ?_ (fun hNew => ?_)
              · (first | with_reducible exact QD | exact QS | assumption)
              clear hK K hHeld
              have hHeld := hNew
              clear hNew
              try simp only [Act.put, pz1, pz2, pz3]
              refine wpAnyH_done (by kernel_rfl) ?_ _
              refine NoPanic.normal ?_
              go_wp2_with fail
              go_roundw
              case rel => exact ⟨k + 1, by omega, by go_num, Lib.hid ⟨_, HNX.out, hC.1.like⟩, HTC.like⟩
              case measure => simp [intOf]; omega
        · obtain rfl : m3 = k := by omega
          have HS2 : Hid (L3.foldl (putStep a b) S1 = S) := Lib.hid (by
            have := HS.out
            rwa [List.take_of_length_le (by rw [HI3.out.1]; exact Nat.le_refl _)] at this)
          clear HS hlt hk
          have HT4 := HT3.trans HT
          go_wp2_with ((go_at_call 90; ((with_reducible refine (all_n fds n HN.out A cA _ (hA.tch HT4).sl (by omega) HOK.out).mono ?_); rintro e' w5 ⟨⟨A5, m5, c5, L5, rfl, HI5, hm5, hR5⟩, b5⟩; skip)))
          have hGS := hG.below b5
          have HT5 := HT4.trans (tch_bel b5)
          have hA5 : FdsAt w5 F A5 L5 := fds_row hR5 (fun g h => hG.lt g h)
          obtain ⟨S4, hS4⟩ : ∃ X : FlS, X = S := ⟨_, rfl⟩
          rw [← hS4] at hGS HS2
          clear hS4 hR5 HT hG
          go_loopw [71] (fun i wr => ∃ k : Nat, k ≤ m5 ∧ i = .int .i64 k ∧ Hid (∃ S, (L5.take k).foldl (datStep L) S4 = S ∧ FlW wr F a b c d e fs L N S) ∧ Tch (FlB F) w5 wr) (fun i _ => m5 - (intOf i).toNat)
          case atStart => exact ⟨0, by omega, rfl, Lib.hid ⟨S4, rfl, hGS⟩, Tch.refl w5⟩
          case round =>
            obtain ⟨k, hk, rfl, HR, HT⟩ := hrel
            obtain ⟨S, hS, hG⟩ := HR.out
            have HS := Lib.hid hS
            clear HR hS
            by_cases hlt : k < m5
            · have hlx : k < L5.length := by have := HI5.out.1; omega
              obtain ⟨b1, o1, rfl, l1, q1⟩ := (hA5.tch HT).at_ (by have := HI5.out.1; omega)
              obtain ⟨x, hx⟩ : ∃ x, L5[k]? = some x := ⟨_, List.getElem?_eq_getElem hlx⟩
              obtain ⟨x0, x1, x2, x3, x4, x5⟩ := q1 k x hx
              have i0 : (0 : Int) ≤ (k : Int) := by omega
              have i1 : (k : Int) < (m5 : Int) := by omega
              have hst := fold_next (f := datStep L) (s := S4) hx
              rw [HS.out] at hst
              clear q1 hx hlx
              go_upto_region 15 with fail
              obtain ⟨W, hW⟩ : ∃ V : World, V = wr.alloc (.cells #[.int .i64 x.b, .int .i64 x.g, .int .i64 x.k, .int .i64 x.p, .int .i64 x.s, .int .i64 x.e] 119) := ⟨_, rfl⟩
              have BX : Blk W wr.heap.size 119 #[.int .i64 x.b, .int .i64 x.g, .int .i64 x.k, .int .i64 x.p, .int .i64 x.s, .int .i64 x.e] := by rw [hW]; exact Blk.new_ _ _ _
              have hal : Below wr.heap.size wr W := by rw [hW]; exact (Below.refl _ _).alloc (Nat.le_refl _) _
              rw [← hW]
              have HTW := HT.trans (tch_bel hal)
              have hGW := hG.below hal
              obtain ⟨g, hg⟩ : ∃ g, wr.heap.size = g := ⟨_, rfl⟩
              have hgf : ∀ h, FlB F h → g ≠ h := fun h hb e => by
                have := hG.blt hb
                omega
              rw [hg] at BX ⊢
              clear hW hg x0 x1 x2 x3 x4 x5
              obtain ⟨y0, y1, y2, y3, y4, y5⟩ := bx6 BX
              obtain ⟨B, hB⟩ : ∃ B, mayP L x.p = B := ⟨_, rfl⟩
              have HB := Lib.hid hB
              have hst2 : (L5.take (k + 1)).foldl (datStep L) S4 = if B then { S with tr := S.tr.set x.p.toNat false } else S := by
                rw [hst]
                unfold datStep
                rw [hB]
              have HST := Lib.hid hst2
              clear hst hst2 hB
              cases B
              · have HNX : Hid ((L5.take (k + 1)).foldl (datStep L) S4 = S) := Lib.hid (by rw [HST.out]; rfl)
                go_wp2_with ((go_at_call 47; ((with_reducible refine (may_f F a b c d e fs L N S x.p _ hGW _ HB.out).mono ?_); rintro e' w5 ⟨rfl, rfl⟩; skip)))
                go_roundw
                case rel => exact ⟨k + 1, by omega, by go_num, Lib.hid ⟨_, HNX.out, hGW⟩, HTW⟩
                case measure => simp [intOf]; omega
              · go_upto_region 16 with ((go_at_call 47; ((with_reducible refine (may_f F a b c d e fs L N S x.p _ hGW _ HB.out).mono ?_); rintro e' w5 ⟨rfl, rfl⟩; skip)))
                obtain ⟨kp, hkp, hkl⟩ := may_in HB.out
                have HNX : Hid ((L5.take (k + 1)).foldl (datStep L) S4 = { S with tr := S.tr.set kp false }) := Lib.hid (by
                  rw [HST.out, hkp]
                  simp)
                have hD := hGW.drew_
                have BXD := BX.drew_F
                have QD : (W.drew.cell? ⟨F.fm, 11, none⟩ = some (.slice (some ⟨F.gt, 0, none⟩) L L) ∧ W.drew.cell? ⟨g, 3, none⟩ = some (.int .i64 (kp : Int))) := ⟨hD.c11, by rw [← hkp]; exact (bx6 BXD).2.2.2.1⟩
                have hC := hGW.trSet hkl false
                have fz := RowT.free hGW.tr kp
                have fzD := RowT.free hD.tr kp
                obtain ⟨tv, htv⟩ := rowB hGW.tr hGW.ltr hkl
                have htD : W.drew.cell? ⟨F.gt, kp, none⟩ = some (.bool tv) := htv
                have HTC := HTW.trans hC.2
                have QS : ((W.setCell ⟨F.gt, kp, none⟩ (.bool false)).drew.cell? ⟨F.fm, 11, none⟩ = some (.slice (some ⟨F.gt, 0, none⟩) L L) ∧ (W.setCell ⟨F.gt, kp, none⟩ (.bool false)).drew.cell? ⟨g, 3, none⟩ = some (.int .i64 (kp : Int))) := ⟨hC.1.c11, by rw [← hkp]; exact (bx6 (BX.far (p := ⟨F.gt, kp, none⟩) (hgf _ flB_gt) (.bool false))).2.2.2.1⟩
                refine wp_region_noPanic ?_
                refine wp_region_held_drew (S := (fun w_ => w_.cell? ⟨F.fm, 11, none⟩ = some (.slice (some ⟨F.gt, 0, none⟩) L L) ∧ w_.cell? ⟨g, 3, none⟩ = some (.int .i64 (kp : Int)))) (by kernel_rfl) ?_ (fun hHeld => ?_)
                · (first | with_reducible exact QD | exact QS | assumption)
                refine tk 0 ?_; try simp only [Act.put, pz1, pz2, pz3]
                refine tk 1 ?_; try simp only [Act.put, pz1, pz2, pz3]
                refine tk 2 ?_; try simp only [Act.put, pz1, pz2, pz3]
                refine tk 3 ?_; try simp only [Act.put, pz1, pz2, pz3]
                refine tk 4 ?_; try simp only [Act.put, pz1, pz2, pz3]
                refine tk 5 ?_; try simp only [Act.put, pz1, pz2, pz3]
                refine tk 6 ?_; try simp only [Act.put, pz1, pz2, pz3]
                refine tk 7 ?_; try simp only [Act.put, pz1, pz2, pz3]
                refine wpAnyH_ready (rs := [8]) (by kernel_rfl) (by simp) ?_
                refine AllReadyH.cons (o := ⟨none, .store 4 (.tmp 87) (.const (.bool false)), 0, "mount.go:63", #[⟨7, .data⟩, ⟨0, .phase⟩, ⟨1, .phase⟩, ⟨2, .phase⟩, ⟨3, .phase⟩, ⟨4, .phase⟩, ⟨5, .phase⟩, ⟨6, .phase⟩], none⟩) rfl (fun K hK => ?_) AllReadyH.nil
                go_simp
                refine hK.out _ _ ?_ (fun hNew => ?_)
                · (first | with_reducible exact QD | exact QS | assumption)
                clear hK K hHeld
                have hHeld := hNew
                clear hNew
                try simp only [Act.put, pz1, pz2, pz3]
                refine wpAnyH_done (by kernel_rfl) ?_ _
                refine NoPanic.normal ?_
                go_wp2_with fail
                go_roundw
                case rel => exact ⟨k + 1, by omega, by go_num, Lib.hid ⟨_, HNX.out, hC.1.like⟩, HTC.like⟩
                case measure => simp [intOf]; omega
            · obtain rfl : m5 = k := by omega
              have HS4 : Hid (L5.foldl (datStep L) S4 = S) := Lib.hid (by
                have := HS.out
                rwa [List.take_of_length_le (by rw [HI5.out.1]; exact Nat.le_refl _)] at this)
              clear HS hlt hk
              have HT6 := HT5.trans HT
              go_wp2_with ((go_at_call 93; ((with_reducible refine (stale_n fds n HN.out A cA _ (hA.tch HT6).sl (by omega)).mono ?_); rintro e' w7 ⟨⟨A7, m7, c7, rfl, HI7, hm7, hR7⟩, b7⟩; skip)))
              have hGS := hG.below b7
              have HT7 := HT6.trans (tch_bel b7)
              have hA7 : FdsAt w7 F A7 (staleZ fds) := fds_row hR7 (fun g h => hG.lt g h)
              obtain ⟨S5, hS5⟩ : ∃ X : FlS, X = S := ⟨_, rfl⟩
              rw [← hS5] at hGS HS4
              clear hS5 hR7 HT hG
              go_loopw [92] (fun i wr => ∃ k : Nat, k ≤ m7 ∧ i = .int .i64 k ∧ Hid (∃ S, ((staleZ fds).take k).foldl (staStep L) S5 = S ∧ FlW wr F a b c d e fs L N S) ∧ Tch (FlB F) w7 wr) (fun i _ => m7 - (intOf i).toNat)
              case atStart => exact ⟨0, by omega, rfl, Lib.hid ⟨S5, rfl, hGS⟩, Tch.refl w7⟩
              case round =>
                obtain ⟨k, hk, rfl, HR, HT⟩ := hrel
                obtain ⟨S, hS, hG⟩ := HR.out
                have HS := Lib.hid hS
                clear HR hS
                by_cases hlt : k < m7
                · have hlx : k < (staleZ fds).length := by have := HI7.out; omega
                  obtain ⟨b1, o1, rfl, l1, q1⟩ := (hA7.tch HT).at_ (by have := HI7.out; omega)
                  obtain ⟨x, hx⟩ : ∃ x, (staleZ fds)[k]? = some x := ⟨_, List.getElem?_eq_getElem hlx⟩
                  obtain ⟨x0, x1, x2, x3, x4, x5⟩ := q1 k x hx
                  have i0 : (0 : Int) ≤ (k : Int) := by omega
                  have i1 : (k : Int) < (m7 : Int) := by omega
                  have hst := fold_next (f := staStep L) (s := S5) hx
                  rw [HS.out] at hst
                  clear q1 hx hlx
                  go_upto_region 21 with fail
                  obtain ⟨W, hW⟩ : ∃ V : World, V = wr.alloc (.cells #[.int .i64 x.b, .int .i64 x.g, .int .i64 x.k, .int .i64 x.p, .int .i64 x.s, .int .i64 x.e] 119) := ⟨_, rfl⟩
                  have BX : Blk W wr.heap.size 119 #[.int .i64 x.b, .int .i64 x.g, .int .i64 x.k, .int .i64 x.p, .int .i64 x.s, .int .i64 x.e] := by rw [hW]; exact Blk.new_ _ _ _
                  have hal : Below wr.heap.size wr W := by rw [hW]; exact (Below.refl _ _).alloc (Nat.le_refl _) _
                  rw [← hW]
                  have HTW := HT.trans (tch_bel hal)
                  have hGW := hG.below hal
                  obtain ⟨g, hg⟩ : ∃ g, wr.heap.size = g := ⟨_, rfl⟩
                  have hgf : ∀ h, FlB F h → g ≠ h := fun h hb e => by
                    have := hG.blt hb
                    omega
                  rw [hg] at BX ⊢
                  clear hW hg x0 x1 x2 x3 x4 x5
                  obtain ⟨y0, y1, y2, y3, y4, y5⟩ := bx6 BX
                  obtain ⟨B, hB⟩ : ∃ B, mayP L x.p = B := ⟨_, rfl⟩
                  have HB := Lib.hid hB
                  have hst2 : ((staleZ fds).take (k + 1)).foldl (staStep L) S5 = if B then { S with st := S.st.set x.p.toNat true } else S := by
                    rw [hst]
                    unfold staStep
                    rw [hB]
                  have HST := Lib.hid hst2
                  clear hst hst2 hB
                  cases B
                  · have HNX : Hid (((staleZ fds).take (k + 1)).foldl (staStep L) S5 = S) := Lib.hid (by rw [HST.out]; rfl)
                    go_wp2_with ((go_at_call 47; ((with_reducible refine (may_f F a b c d e fs L N S x.p _ hGW _ HB.out).mono ?_); rintro e' w5 ⟨rfl, rfl⟩; skip)))
                    go_roundw
                    case rel => exact ⟨k + 1, by omega, by go_num, Lib.hid ⟨_, HNX.out, hGW⟩, HTW⟩
                    case measure => simp [intOf]; omega
                  · go_upto_region 22 with ((go_at_call 47; ((with_reducible refine (may_f F a b c d e fs L N S x.p _ hGW _ HB.out).mono ?_); rintro e' w5 ⟨rfl, rfl⟩; skip)))
                    obtain ⟨kp, hkp, hkl⟩ := may_in HB.out
                    have HNX : Hid (((staleZ fds).take (k + 1)).foldl (staStep L) S5 = { S with st := S.st.set kp true }) := Lib.hid (by
                      rw [HST.out, hkp]
                      simp)
                    have hD := hGW.drew_
                    have BXD := BX.drew_F
                    have QD : (W.drew.cell? ⟨F.fm, 17, none⟩ = some (.slice (some ⟨F.gs, 0, none⟩) L L) ∧ W.drew.cell? ⟨g, 3, none⟩ = some (.int .i64 (kp : Int))) := ⟨hD.c17, by rw [← hkp]; exact (bx6 BXD).2.2.2.1⟩
                    have hC := hGW.stSet hkl true
                    have fz := RowT.free hGW.st kp
                    have fzD := RowT.free hD.st kp
                    obtain ⟨tv, htv⟩ := rowB hGW.st hGW.lst hkl
                    have htD : W.drew.cell? ⟨F.gs, kp, none⟩ = some (.bool tv) := htv
                    have HTC := HTW.trans hC.2
                    have QS : ((W.setCell ⟨F.gs, kp, none⟩ (.bool true)).drew.cell? ⟨F.fm, 17, none⟩ = some (.slice (some ⟨F.gs, 0, none⟩) L L) ∧ (W.setCell ⟨F.gs, kp, none⟩ (.bool true)).drew.cell? ⟨g, 3, none⟩ = some (.int .i64 (kp : Int))) := ⟨hC.1.c17, by rw [← hkp]; exact (bx6 (BX.far (p := ⟨F.gs, kp, none⟩) (hgf _ flB_gs) (.bool true))).2.2.2.1⟩
                    refine wp_region_noPanic ?_
                    refine wp_region_held_drew (S := (fun w_ => w_.cell? ⟨F.fm, 17, none⟩ = some (.slice (some ⟨F.gs, 0, none⟩) L L) ∧ w_.cell? ⟨g, 3, none⟩ = some (.int .i64 (kp : Int)))) (by kernel_rfl) ?_ (fun hHeld => ?_)
                    · (first | with_reducible exact QD | exact QS | assumption)
                    refine tk 0 ?_; try simp only [Act.put, pz1, pz2, pz3]
                    refine tk 1 ?_; try simp only [Act.put, pz1, pz2, pz3]
                    refine tk 2 ?_; try simp only [Act.put, pz1, pz2, pz3]
                    refine tk 3 ?_; try simp only [Act.put, pz1, pz2, pz3]
                    refine tk 4 ?_; try simp only [Act.put, pz1, pz2, pz3]
                    refine tk 5 ?_; try simp only [Act.put, pz1, pz2, pz3]
                    refine tk 6 ?_; try simp only [Act.put, pz1, pz2, pz3]
                    refine tk 7 ?_; try simp only [Act.put, pz1, pz2, pz3]
                    refine wpAnyH_ready (rs := [8]) (by kernel_rfl) (by simp) ?_
                    refine AllReadyH.cons (o := ⟨none, .store 4 (.tmp 108) (.const (.bool true)), 0, "mount.go:68", #[⟨7, .data⟩, ⟨0, .phase⟩, ⟨1, .phase⟩, ⟨2, .phase⟩, ⟨3, .phase⟩, ⟨4, .phase⟩, ⟨5, .phase⟩, ⟨6, .phase⟩], none⟩) rfl (fun K hK => ?_) AllReadyH.nil
                    go_simp
                    refine hK.out _ _ ?_ (fun hNew => ?_)
                    · (first | with_reducible exact QD | exact QS | assumption)
                    clear hK K hHeld
                    have hHeld := hNew
                    clear hNew
                    try simp only [Act.put, pz1, pz2, pz3]
                    refine wpAnyH_done (by kernel_rfl) ?_ _
                    refine NoPanic.normal ?_
                    go_wp2_with fail
                    go_roundw
                    case rel => exact ⟨k + 1, by omega, by go_num, Lib.hid ⟨_, HNX.out, hC.1.like⟩, HTC.like⟩
                    case measure => simp [intOf]; omega
                · obtain rfl : m7 = k := by omega
                  have HS6 : Hid ((staleZ fds).foldl (staStep L) S5 = S) := Lib.hid (by
                    have := HS.out
                    rwa [List.take_of_length_le (by rw [HI7.out]; exact Nat.le_refl _)] at this)
                  clear HS hlt hk
                  have HT9 := HT7.trans HT
                  go_wp2_with ((go_at_call 94; ((with_reducible refine (findCommit_f F a b c d e fs L N S fds n HN.out A cA _ hG (hA.tch HT9) n1).mono ?_); rintro e' w9 ⟨⟨v9, rfl⟩, hGF, hTF⟩; skip)))
                  refine bodyPost_end (v := .tuple #[]) (by simp [results, Tryz.results61, go_sem]) rfl ⟨⟨_, rfl⟩, ⟨L3, L5, HI3.out.2, HI5.out.2, ?_⟩, HT9.trans hTF⟩
                  rw [HQ9.out.1, HQ9.out.2, HS1.out, HS2.out, HS4.out, HS6.out]
                  exact hGF
end Go.Proofs.YtkpcohfdcilfcaaGreat
namespace Go.Proofs.YtkpcohfdcilfcaaGreat
open Go.ChangeShapes Go.WideShapes Go.ChangeAt Go.RowKit
attribute [local go_sem ↓] Go.wp_at_zero Go.wp_at_succ
theorem who_k (F : FlK) (a b c d e : Int) (fs : List Flt) (L N : Nat) (s : FlS) (x y : Int) (w : World) (hF : FlW w F a b c d e fs L N s) (B : Bool) (hB : whoB a b s.kA x y = B) : Calls Tryz.prog 138 #[.pointer (some ⟨F.km, 0, none⟩), .agg #[.int .i64 x, .int .i64 y]] w fun e' w' => (∃ z : Int, e' = .returned (.tuple #[.int .i64 z, .bool B]) ∧ (B = true → z = whoI s.kA (x * b + y))) ∧ Below w.heap.size w w' := by
  obtain ⟨W, hM⟩ := hF.kept
  obtain ⟨l1, l2, -⟩ := hF.bL
  refine (who_any _ _ _ a b c d e L N s.kA W x y w hM (Lib.hid hF.may) l2 hF.hN).mono ?_
  rintro e' w' ⟨rfl, h⟩
  refine ⟨⟨_, by rw [hB], fun h => ?_⟩, h⟩
  unfold whoR
  rw [hB, h]
  rfl
theorem who_fr (F : FlK) (a b c d e : Int) (fs : List Flt) (L N : Nat) (s : FlS) (x y : Int) (w : World) (hF : FlW w F a b c d e fs L N s) (B : Bool) (hB : whoB a b s.fA x y = B) : Calls Tryz.prog 138 #[.pointer (some ⟨F.fr, 0, none⟩), .agg #[.int .i64 x, .int .i64 y]] w fun e' w' => (∃ z : Int, e' = .returned (.tuple #[.int .i64 z, .bool B]) ∧ (B = true → z = whoI s.fA (x * b + y))) ∧ Below w.heap.size w w' := by
  obtain ⟨W, hM⟩ := hF.fresh
  obtain ⟨l1, l2, -⟩ := hF.bL
  refine (who_any _ _ _ a b c d e L N s.fA W x y w hM (Lib.hid hF.may) l2 hF.hN).mono ?_
  rintro e' w' ⟨rfl, h⟩
  refine ⟨⟨_, by rw [hB], fun h => ?_⟩, h⟩
  unfold whoR
  rw [hB, h]
  rfl
def needB (a b : Int) (s : FlS) (x y : Int) : Bool := whoB a b s.kA x y || (whoB a b s.fA x y || (s.sld && (s.cx == x && s.cy == y)))
theorem counts_f (F : FlK) (a b c d e : Int) (fs : List Flt) (L N : Nat) (s : FlS) (x y : Int) (w : World) (hF : FlW w F a b c d e fs L N s) (T : Bool) (hT : needB a b s x y = T) :
    Calls Tryz.prog 95 #[.pointer (some ⟨F.fm, 0, none⟩), .agg #[.int .i64 x, .int .i64 y]] w fun e' w' => e' = .returned (.bool T) ∧ Below w.heap.size w w' := by
  obtain ⟨B1, hB1⟩ : ∃ B, whoB a b s.kA x y = B := ⟨_, rfl⟩
  obtain ⟨B2, hB2⟩ : ∃ B, whoB a b s.fA x y = B := ⟨_, rfl⟩
  obtain ⟨sl, hsl⟩ : ∃ B, s.sld = B := ⟨_, rfl⟩
  have HB1 := Lib.hid hB1
  have HB2 := Lib.hid hB2
  unfold needB at hT
  rw [hB1, hB2, hsl] at hT
  have HSL := Lib.hid hsl
  obtain ⟨W0, hW0⟩ : ∃ V : World, V = w.alloc (.cells #[.int .i64 x, .int .i64 y] 68) := ⟨_, rfl⟩
  have hal : Below w.heap.size w W0 := by rw [hW0]; exact (Below.refl _ _).alloc (Nat.le_refl _) _
  have BP : Blk W0 w.heap.size 68 #[.int .i64 x, .int .i64 y] := by rw [hW0]; exact Blk.new_ _ _ _
  have hG := hF.below hal
  have HC : Hid (∀ w_, Below W0.heap.size W0 w_ → (w_.cell? ⟨F.fm, 10, none⟩ = some (.pointer (some ⟨F.km, 0, none⟩)) ∧ w_.cell? ⟨w.heap.size, 0, none⟩ = some (.int .i64 x) ∧ w_.cell? ⟨w.heap.size, 1, none⟩ = some (.int .i64 y)) ∧ (w_.cell? ⟨F.fm, 12, none⟩ = some (.pointer (some ⟨F.fr, 0, none⟩)) ∧ w_.cell? ⟨w.heap.size, 0, none⟩ = some (.int .i64 x) ∧ w_.cell? ⟨w.heap.size, 1, none⟩ = some (.int .i64 y)) ∧ w_.cell? ⟨F.fm, 15, none⟩ = some (.bool sl) ∧ w_.cell? ⟨F.fm, 13, none⟩ = some (.int .i64 s.cx) ∧ w_.cell? ⟨F.fm, 14, none⟩ = some (.int .i64 s.cy)) := Lib.hid (fun w_ h => by
    have q := hG.below h
    have p := BP.below h BP.lt
    have p0 := p.cell_ 0
    have p1 := p.cell_ 1
    simp at p0 p1
    have c15 := q.c15
    rw [HSL.out] at c15
    exact ⟨⟨q.c10, p0, p1⟩, ⟨q.c12, p0, p1⟩, c15, q.c13, q.c14⟩)
  clear hB1 hB2 hsl
  go_enter Tryz.func95, Tryz.ntmps95
  go_upto_region 1 with fail
  rw [← hW0]
  clear hW0
  have QD : (Below W0.heap.size W0 W0.drew ∧ (W0.drew.cell? ⟨F.fm, 10, none⟩ = some (.pointer (some ⟨F.km, 0, none⟩)) ∧ W0.drew.cell? ⟨w.heap.size, 0, none⟩ = some (.int .i64 x) ∧ W0.drew.cell? ⟨w.heap.size, 1, none⟩ = some (.int .i64 y))) := ⟨below_dr W0, (HC.out _ (below_dr W0)).1⟩
  go_cut [6] (fun v wx => v = .bool B1 ∧ Below W0.heap.size W0 wx)
  case first =>
    refine wp_region_noPanic ?_
    refine wp_region_held_drew (S := (fun w_ => Below W0.heap.size W0 w_ ∧ (w_.cell? ⟨F.fm, 10, none⟩ = some (.pointer (some ⟨F.km, 0, none⟩)) ∧ w_.cell? ⟨w.heap.size, 0, none⟩ = some (.int .i64 x) ∧ w_.cell? ⟨w.heap.size, 1, none⟩ = some (.int .i64 y)))) (by kernel_rfl) ?_ (fun hHeld => ?_)
    · (first | with_reducible exact QD | with_reducible exact hNext | assumption)
    refine tk 0 ?_; try simp only [Act.put, pz1, pz2, pz3]
    refine tk 1 ?_; try simp only [Act.put, pz1, pz2, pz3]
    refine tk 2 ?_; try simp only [Act.put, pz1, pz2, pz3]
    refine tk 3 ?_; try simp only [Act.put, pz1, pz2, pz3]
    refine tk 4 ?_; try simp only [Act.put, pz1, pz2, pz3]
    refine wpAnyH_ready (rs := [5]) (by kernel_rfl) (by simp) ?_
    refine AllReadyH.cons (o := ⟨some 15, .call { callee := .value (.func 138), args := #[.tmp 13, .tmp 14], argTypes := #[82, 68] }, 156, "clear.go:42", #[⟨3, .data⟩, ⟨4, .data⟩], none⟩) rfl (fun K hK => ?_) AllReadyH.nil
    go_simp
    (go_at_call 138; ((with_reducible refine (who_k F a b c d e fs L N s x y _ (hG.below hHeld.1) _ HB1.out).mono ?_); rintro e' w2 ⟨⟨z, rfl, -⟩, b2⟩; have HZ9 := btr hHeld.1 hHeld.1.size b2; have hNext : (Below W0.heap.size W0 w2 ∧ (w2.cell? ⟨F.fm, 10, none⟩ = some (.pointer (some ⟨F.km, 0, none⟩)) ∧ w2.cell? ⟨w.heap.size, 0, none⟩ = some (.int .i64 x) ∧ w2.cell? ⟨w.heap.size, 1, none⟩ = some (.int .i64 y))) := ⟨HZ9, (HC.out _ HZ9).1⟩))
    go_wp2_with fail
    refine hK.out _ _ ?_ (fun hNew => ?_)
    · (first | with_reducible exact QD | with_reducible exact hNext | assumption)
    clear hK K hHeld
    have hHeld := hNew
    clear hNew
    try simp only [Act.put, pz1, pz2, pz3]
    refine tk 6 ?_; try simp only [Act.put, pz1, pz2, pz3]
    refine tk 7 ?_; try simp only [Act.put, pz1, pz2, pz3]
    refine tk 8 ?_; try simp only [Act.put, pz1, pz2, pz3]
    refine tk 9 ?_; try simp only [Act.put, pz1, pz2, pz3]
    refine tk 10 ?_; try simp only [Act.put, pz1, pz2, pz3]
    refine wpAnyH_done (by kernel_rfl) ?_ _
    refine NoPanic.normal ?_
    go_wp2_with fail
    go_meet
    exact ⟨rfl, hHeld.1⟩
  case rest =>
    obtain ⟨rfl, HBa⟩ := hcut
    cases B1
    · have QD : (Below W0.heap.size W0 wc.drew ∧ (wc.drew.cell? ⟨F.fm, 12, none⟩ = some (.pointer (some ⟨F.fr, 0, none⟩)) ∧ wc.drew.cell? ⟨w.heap.size, 0, none⟩ = some (.int .i64 x) ∧ wc.drew.cell? ⟨w.heap.size, 1, none⟩ = some (.int .i64 y))) := ⟨drew_belowF HBa, (HC.out _ (drew_belowF HBa)).2.1⟩
      go_upto_region 4 with fail
      go_cut [8] (fun v wx => v = .bool B2 ∧ Below W0.heap.size W0 wx)
      case first =>
        refine wp_region_noPanic ?_
        refine wp_region_held_drew (S := (fun w_ => Below W0.heap.size W0 w_ ∧ (w_.cell? ⟨F.fm, 12, none⟩ = some (.pointer (some ⟨F.fr, 0, none⟩)) ∧ w_.cell? ⟨w.heap.size, 0, none⟩ = some (.int .i64 x) ∧ w_.cell? ⟨w.heap.size, 1, none⟩ = some (.int .i64 y)))) (by kernel_rfl) ?_ (fun hHeld => ?_)
        · (first | with_reducible exact QD | with_reducible exact hNext | assumption)
        refine tk 0 ?_; try simp only [Act.put, pz1, pz2, pz3]
        refine tk 1 ?_; try simp only [Act.put, pz1, pz2, pz3]
        refine tk 2 ?_; try simp only [Act.put, pz1, pz2, pz3]
        refine tk 3 ?_; try simp only [Act.put, pz1, pz2, pz3]
        refine tk 4 ?_; try simp only [Act.put, pz1, pz2, pz3]
        refine wpAnyH_ready (rs := [5]) (by kernel_rfl) (by simp) ?_
        refine AllReadyH.cons (o := ⟨some 25, .call { callee := .value (.func 138), args := #[.tmp 23, .tmp 24], argTypes := #[82, 68] }, 156, "clear.go:45", #[⟨3, .data⟩, ⟨4, .data⟩], none⟩) rfl (fun K hK => ?_) AllReadyH.nil
        go_simp
        (go_at_call 138; ((with_reducible refine (who_fr F a b c d e fs L N s x y _ (hG.below hHeld.1) _ HB2.out).mono ?_); rintro e' w2 ⟨⟨z, rfl, -⟩, b2⟩; have HZ9 := btr hHeld.1 hHeld.1.size b2; have hNext : (Below W0.heap.size W0 w2 ∧ (w2.cell? ⟨F.fm, 12, none⟩ = some (.pointer (some ⟨F.fr, 0, none⟩)) ∧ w2.cell? ⟨w.heap.size, 0, none⟩ = some (.int .i64 x) ∧ w2.cell? ⟨w.heap.size, 1, none⟩ = some (.int .i64 y))) := ⟨HZ9, (HC.out _ HZ9).2.1⟩))
        go_wp2_with fail
        refine hK.out _ _ ?_ (fun hNew => ?_)
        · (first | with_reducible exact QD | with_reducible exact hNext | assumption)
        clear hK K hHeld
        have hHeld := hNew
        clear hNew
        try simp only [Act.put, pz1, pz2, pz3]
        refine tk 6 ?_; try simp only [Act.put, pz1, pz2, pz3]
        refine tk 7 ?_; try simp only [Act.put, pz1, pz2, pz3]
        refine tk 8 ?_; try simp only [Act.put, pz1, pz2, pz3]
        refine tk 9 ?_; try simp only [Act.put, pz1, pz2, pz3]
        refine tk 10 ?_; try simp only [Act.put, pz1, pz2, pz3]
        refine wpAnyH_done (by kernel_rfl) ?_ _
        refine NoPanic.normal ?_
        go_wp2_with fail
        go_meet
        exact ⟨rfl, hHeld.1⟩
      case rest =>
        obtain ⟨rfl, HBb⟩ := hcut
        cases B2
        · obtain ⟨-, ⟨-, p0, p1⟩, k15, k13, k14⟩ := HC.out _ (drew_belowF HBb)
          have QD := And.intro k15 (And.intro k13 (And.intro k14 (And.intro p0 p1)))
          have hT2 : (sl && (s.cx == x && s.cy == y)) = T := hT
          cases sl
          · obtain rfl : false = T := hT2
            go_upto_region 7 with fail
            refine wp_region_noPanic ?_
            refine wp_region_held_drew (S := (fun w_ => w_.cell? ⟨F.fm, 15, none⟩ = some (.bool false) ∧ w_.cell? ⟨F.fm, 13, none⟩ = some (.int .i64 s.cx) ∧ w_.cell? ⟨F.fm, 14, none⟩ = some (.int .i64 s.cy) ∧ w_.cell? ⟨w.heap.size, 0, none⟩ = some (.int .i64 x) ∧ w_.cell? ⟨w.heap.size, 1, none⟩ = some (.int .i64 y))) (by kernel_rfl) ?_ (fun hHeld => ?_)
            · (first | with_reducible exact QD | with_reducible exact hNext | assumption)
            refine tk 0 ?_; try simp only [Act.put, pz1, pz2, pz3]
            refine tk 1 ?_; try simp only [Act.put, pz1, pz2, pz3]
            refine tk 2 ?_; try simp only [Act.put, pz1, pz2, pz3]
            refine tk 3 ?_; try simp only [Act.put, pz1, pz2, pz3]
            refine tk 4 ?_; try simp only [Act.put, pz1, pz2, pz3]
            refine tu 5 ?_
            try simp only [Act.put, pz1, pz2, pz3]
            refine tu 6 ?_
            try simp only [Act.put, pz1, pz2, pz3]
            refine tu 7 ?_
            try simp only [Act.put, pz1, pz2, pz3]
            refine tu 8 ?_
            try simp only [Act.put, pz1, pz2, pz3]
            refine tu 9 ?_
            try simp only [Act.put, pz1, pz2, pz3]
            refine tu 10 ?_
            try simp only [Act.put, pz1, pz2, pz3]
            refine tk 11 ?_; try simp only [Act.put, pz1, pz2, pz3]
            refine tk 12 ?_; try simp only [Act.put, pz1, pz2, pz3]
            refine wpAnyH_done (by kernel_rfl) ?_ _
            refine NoPanic.normal ?_
            go_wp2_with fail
            go_ret
            exact ⟨rfl, hal.trans ((drew_belowF HBb).mono hal.size)⟩
          · by_cases h1 : s.cx = x
            · subst h1
              by_cases h2 : s.cy = y
              · subst h2
                obtain rfl : true = T := by rw [← hT2]; simp
                go_upto_region 7 with fail
                refine wp_region_noPanic ?_
                refine wp_region_held_drew (S := (fun w_ => w_.cell? ⟨F.fm, 15, none⟩ = some (.bool true) ∧ w_.cell? ⟨F.fm, 13, none⟩ = some (.int .i64 s.cx) ∧ w_.cell? ⟨F.fm, 14, none⟩ = some (.int .i64 s.cy) ∧ w_.cell? ⟨w.heap.size, 0, none⟩ = some (.int .i64 s.cx) ∧ w_.cell? ⟨w.heap.size, 1, none⟩ = some (.int .i64 s.cy))) (by kernel_rfl) ?_ (fun hHeld => ?_)
                · (first | with_reducible exact QD | with_reducible exact hNext | assumption)
                refine tk 0 ?_; try simp only [Act.put, pz1, pz2, pz3]
                refine tk 1 ?_; try simp only [Act.put, pz1, pz2, pz3]
                refine tk 2 ?_; try simp only [Act.put, pz1, pz2, pz3]
                refine tk 3 ?_; try simp only [Act.put, pz1, pz2, pz3]
                refine tk 4 ?_; try simp only [Act.put, pz1, pz2, pz3]
                refine tk 5 ?_; try simp only [Act.put, pz1, pz2, pz3]
                refine tk 6 ?_; try simp only [Act.put, pz1, pz2, pz3]
                refine tk 7 ?_; try simp only [Act.put, pz1, pz2, pz3]
                refine tk 8 ?_; try simp only [Act.put, pz1, pz2, pz3]
                refine tk 9 ?_; try simp only [Act.put, pz1, pz2, pz3]
                refine tk 10 ?_; try simp only [Act.put, pz1, pz2, pz3]
                refine tk 11 ?_; try simp only [Act.put, pz1, pz2, pz3]
                refine tk 12 ?_; try simp only [Act.put, pz1, pz2, pz3]
                refine wpAnyH_done (by kernel_rfl) ?_ _
                refine NoPanic.normal ?_
                go_wp2_with fail
                go_ret
                exact ⟨rfl, hal.trans ((drew_belowF HBb).mono hal.size)⟩
              · obtain rfl : false = T := by rw [← hT2]; simp [h2]
                go_upto_region 7 with fail
                refine wp_region_noPanic ?_
                refine wp_region_held_drew (S := (fun w_ => w_.cell? ⟨F.fm, 15, none⟩ = some (.bool true) ∧ w_.cell? ⟨F.fm, 13, none⟩ = some (.int .i64 s.cx) ∧ w_.cell? ⟨F.fm, 14, none⟩ = some (.int .i64 s.cy) ∧ w_.cell? ⟨w.heap.size, 0, none⟩ = some (.int .i64 s.cx) ∧ w_.cell? ⟨w.heap.size, 1, none⟩ = some (.int .i64 y))) (by kernel_rfl) ?_ (fun hHeld => ?_)
                · (first | with_reducible exact QD | with_reducible exact hNext | assumption)
                refine tk 0 ?_; try simp only [Act.put, pz1, pz2, pz3]
                refine tk 1 ?_; try simp only [Act.put, pz1, pz2, pz3]
                refine tk 2 ?_; try simp only [Act.put, pz1, pz2, pz3]
                refine tk 3 ?_; try simp only [Act.put, pz1, pz2, pz3]
                refine tk 4 ?_; try simp only [Act.put, pz1, pz2, pz3]
                refine tk 5 ?_; try simp only [Act.put, pz1, pz2, pz3]
                refine tk 6 ?_; try simp only [Act.put, pz1, pz2, pz3]
                refine tk 7 ?_; try simp only [Act.put, pz1, pz2, pz3]
                refine tk 8 ?_; try simp only [Act.put, pz1, pz2, pz3]
                refine tk 9 ?_; try simp only [Act.put, pz1, pz2, pz3]
                refine tk 10 ?_; try simp only [Act.put, pz1, pz2, pz3]
                refine tk 11 ?_; try simp only [Act.put, pz1, pz2, pz3]
                refine tk 12 ?_; try simp only [Act.put, pz1, pz2, pz3]
                refine wpAnyH_done (by kernel_rfl) ?_ _
                refine NoPanic.normal ?_
                go_wp2_with fail
                go_ret
                exact ⟨rfl, hal.trans ((drew_belowF HBb).mono hal.size)⟩
            · obtain rfl : false = T := by rw [← hT2]; simp [h1]
              go_upto_region 7 with fail
              refine wp_region_noPanic ?_
              refine wp_region_held_drew (S := (fun w_ => w_.cell? ⟨F.fm, 15, none⟩ = some (.bool true) ∧ w_.cell? ⟨F.fm, 13, none⟩ = some (.int .i64 s.cx) ∧ w_.cell? ⟨F.fm, 14, none⟩ = some (.int .i64 s.cy) ∧ w_.cell? ⟨w.heap.size, 0, none⟩ = some (.int .i64 x) ∧ w_.cell? ⟨w.heap.size, 1, none⟩ = some (.int .i64 y))) (by kernel_rfl) ?_ (fun hHeld => ?_)
              · (first | with_reducible exact QD | with_reducible exact hNext | assumption)
              refine tk 0 ?_; try simp only [Act.put, pz1, pz2, pz3]
              refine tk 1 ?_; try simp only [Act.put, pz1, pz2, pz3]
              refine tk 2 ?_; try simp only [Act.put, pz1, pz2, pz3]
              refine tk 3 ?_; try simp only [Act.put, pz1, pz2, pz3]
              refine tk 4 ?_; try simp only [Act.put, pz1, pz2, pz3]
              refine tk 5 ?_; try simp only [Act.put, pz1, pz2, pz3]
              refine tk 6 ?_; try simp only [Act.put, pz1, pz2, pz3]
              refine tk 7 ?_; try simp only [Act.put, pz1, pz2, pz3]
              refine tk 8 ?_; try simp only [Act.put, pz1, pz2, pz3]
              refine tk 9 ?_; try simp only [Act.put, pz1, pz2, pz3]
              refine tk 10 ?_; try simp only [Act.put, pz1, pz2, pz3]
              refine tk 11 ?_; try simp only [Act.put, pz1, pz2, pz3]
              refine tk 12 ?_; try simp only [Act.put, pz1, pz2, pz3]
              refine wpAnyH_done (by kernel_rfl) ?_ _
              refine NoPanic.normal ?_
              go_wp2_with fail
              go_ret
              exact ⟨rfl, hal.trans ((drew_belowF HBb).mono hal.size)⟩
        · obtain rfl : true = T := hT
          go_wp2_with fail
          go_ret
          exact ⟨rfl, hal.trans (HBb.mono hal.size)⟩
    · obtain rfl : true = T := hT
      go_wp2_with fail
      go_ret
      exact ⟨rfl, hal.trans (HBa.mono hal.size)⟩
end Go.Proofs.YtkpcohfdcilfcaaGreat
namespace Go.Proofs.YtkpcohfdcilfcaaGreat
open Go.ChangeShapes Go.WideShapes Go.ChangeAt Go.RowKit
theorem putX_get {X : List Nat} {F : Nat} {vs : List Nat} (h : F + vs.length ≤ X.length) (j : Nat) : (putX X F vs)[j]? = if j < F then X[j]? else if j < F + vs.length then vs[j - F]? else X[j]? := by
  have ht : (X.take F).length = F := by rw [List.length_take]; omega
  unfold putX
  by_cases h1 : j < F
  · rw [if_pos h1, List.append_assoc, List.getElem?_append_left (by rw [ht]; exact h1), List.getElem?_take_of_lt h1]
  · rw [if_neg h1]
    by_cases h2 : j < F + vs.length
    · rw [if_pos h2, List.append_assoc, List.getElem?_append_right (by rw [ht]; omega), ht, List.getElem?_append_left (by omega)]
    · rw [if_neg h2, List.getElem?_append_right (by rw [List.length_append, ht]; omega), List.length_append, ht, List.getElem?_drop]
      congr 1
      omega
def ChS.wipe (s : ChS) (b : Int) (k SZ f : Nat) : ChS := { s with X := putX s.X (k * SZ) (List.replicate SZ f), K := ((s.K.set (k * 3) (if f = 255 then 0 else b)).set (k * 3 + 1) (s.k (k : Int) 1 + 1)).set (k * 3 + 2) (s.k (k : Int) 2 + 1) }
end Go.Proofs.YtkpcohfdcilfcaaGreat
namespace Go.Proofs.YtkpcohfdcilfcaaGreat
open Go.ChangeShapes Go.WideShapes Go.ChangeAt Go.RowKit
theorem tick_bnd {s : ChS} {n : Int} (h : s.Bnd n) : s.tick.Bnd (n + 1) := by
  obtain ⟨o0, o1, c0, c1, k0, k1⟩ := h
  have hk : ∀ i, s.tick.K.getD i 0 = s.K.getD i 0 := fun i => by rw [tick_K]
  refine ⟨?_, ?_, ?_, ?_, fun i => by rw [hk]; exact k0 i, fun i => by rw [hk]; have := k1 i; omega⟩
  all_goals
    unfold ChS.tick
    split <;> dsimp only <;> omega
end Go.Proofs.YtkpcohfdcilfcaaGreat
