/- Program of a chip: that goes well; with a cut. -/
import Derived.Test.YtplniojeaodjiaaChH
namespace Go.Proofs.Ytplniojeaodjiaa
open Go.ChangeShapes Go.WideShapes Go.ChangeAt Go.RowKit
set_option linter.unusedSimpArgs false
set_option linter.unusedVariables false

theorem rd_keep {w wN : World} {m gx gb : Nat} (HT : Tch (chB m gx gb) w wN) {gA oA : Nat} (hgA : gA < w.heap.size) (hgn : ¬ chB m gx gb gA) {bs vs : List Nat} (hsl : ∀ j u, (bs.map byteV)[j]? = some u → w.cell? ⟨gA, oA + j, none⟩ = some u) (hv : ∀ (j : Nat) (u : Value), (vs.map byteV)[j]? = some u → (bs.map byteV)[j]? = some u) :
    ∀ j u, (vs.map byteV)[j]? = some u → wN.cell? ((⟨gA, oA, none⟩ : Addr).add j) = some u := by
  intro j u hu
  have e : (⟨gA, oA, none⟩ : Addr).add j = ⟨gA, oA + j, none⟩ := by
    unfold Addr.add
    split <;> simp_all
  rw [e]
  exact (World.cell?_of_block (w := w) (HT.far gA hgA hgn)).trans (hsl j u (hv j u hu))
theorem getD_setN (A : List Int) (p q : Nat) (v d : Int) : (A.set p v).getD q d = if p = q ∧ p < A.length then v else A.getD q d := by
  rw [List.getD_eq_getElem?_getD, List.getD_eq_getElem?_getD, List.getElem?_set]
  by_cases h : p = q
  · subst h
    by_cases h2 : p < A.length
    · simp [h2]
    · simp [h2]
  · simp [h]
theorem take_sub {bs : List Nat} {q : Nat} : ∀ (j : Nat) (u : Value), ((bs.take q).map byteV)[j]? = some u → (bs.map byteV)[j]? = some u := by
  intro j u hu
  rw [List.map_take, List.getElem?_take] at hu
  split at hu
  · exact hu
  · cases hu
def ChS.prog (s : ChS) (k N RW : Nat) (bs : List Nat) : ChS := (({ s.tick with X := putX s.X (N * RW) bs } : ChS).inc k 0).inc k 2
def ChS.progCut (s : ChS) (k N RW : Nat) (bs : List Nat) : ChS := ({ s.tick with X := putX s.X (N * RW) bs } : ChS).inc k 0
set_option maxRecDepth 100000 in
set_option maxHeartbeats 4000000 in
theorem prog_ok (m gx gb : Nat) (Af : Option Addr) (nf cf : Nat) (a b c d e : Int) (fs : List Flt) (k l N RW : Nat) (n : Int) (bs : List Nat) (gA oA cA : Nat) (w : World) (s : ChS) (hC : ChipW w m gx gb Af nf cf a b c d e fs s) (hbn : s.Bnd n) (hn : n ≤ 1000000000) (ho : s.on = true) (hk : (k : Int) < a) (hl : (l : Int) < b) (hnum : Hid (numberI a b (k : Int) (l : Int) = (N : Int))) (HRW : Hid ((RW : Int) = c + 16)) (hfit0 : Hid (N * RW + RW ≤ s.X.length)) (r1 : 40 ≤ RW) (r2 : RW ≤ 80) (hN2 : N < 200) (hsl : ∀ j u, (bs.map byteV)[j]? = some u → w.cell? ⟨gA, oA + j, none⟩ = some u) (hgA : gA < w.heap.size) (hgn : ¬ chB m gx gb gA) (hbl : bs.length = RW) (hcu : Hid (s.cutB = false)) (hwr0 : s.wrong a fs k l = 0) : Calls Try.prog 17 #[.pointer (some ⟨m, 0, none⟩), .agg #[.int .i64 (k : Int), .int .i64 (l : Int)], .slice (some ⟨gA, oA, none⟩) RW cA] w fun e' w' => e' = .returned (.int .i64 0) ∧ ChipW w' m gx gb Af nf cf a b c d e fs (s.prog k N RW bs) ∧ Tch (chB m gx gb) w w' := by
  have KB : ∀ i, 0 ≤ s.k (k : Int) i ∧ s.k (k : Int) i ≤ n + 1 := fun i => ⟨hbn.k0 _, by have := hbn.k1 (3 * (k : Int).toNat + i); unfold ChS.k; omega⟩
  have KB : ∀ i, 0 ≤ (({ s.tick with X := putX s.tick.X (N * RW) bs } : ChS)).k (k : Int) i ∧ (({ s.tick with X := putX s.tick.X (N * RW) bs } : ChS)).k (k : Int) i ≤ n + 1 := fun i => by
    have := KB i
    unfold ChS.k at this ⊢
    dsimp only
    rw [tick_K]
    exact this
  have HKB := Lib.hid KB
  clear KB
  have hnb : ¬ chB m gx gb w.heap.size := by have := hC.lt; unfold chB; omega
  have ht : Hid (thereB a b (k : Int) (l : Int) = true) := Lib.hid (by unfold thereB withinB; simp; omega)
  have HM := Lib.hid (planMay_bd hC.may).1
  have hwr : Hid (s.tick.wrong a fs k l = 0) := Lib.hid (by rw [wrong_tick]; exact hwr0)
  have hfit : Hid (N * RW + RW ≤ s.tick.X.length) := Lib.hid (by rw [tick_X]; exact hfit0.out)
  have HSL := Lib.hid hsl
  have HBL := Lib.hid hbl
  clear hsl hbl hwr0
  have HB0 : Below w.heap.size w (w.alloc (.cells #[.int .i64 (k : Int), .int .i64 (l : Int)] 33)) := (Below.refl _ _).alloc (Nat.le_refl _) _
  have G1 : Blk (w.alloc (.cells #[.int .i64 (k : Int), .int .i64 (l : Int)] 33)) w.heap.size 33 #[.int .i64 (k : Int), .int .i64 (l : Int)] := Blk.new_ _ _ _
  have z0 : (w.alloc (.cells #[.int .i64 (k : Int), .int .i64 (l : Int)] 33)).cell? ⟨w.heap.size, 0, none⟩ = some (.int .i64 (k : Int)) := G1.cell_ 0
  have z1 : (w.alloc (.cells #[.int .i64 (k : Int), .int .i64 (l : Int)] 33)).cell? ⟨w.heap.size, 1, none⟩ = some (.int .i64 (l : Int)) := G1.cell_ 1
  have hC := hC.below HB0
  have y10 := cell10 hC
  rw [ho] at y10
  clear ho
  go_enter Try.func17, Try.ntmps17
  go_upto_region 18 with (first
    | (go_at_call 53; ((with_reducible refine (hasPage_b _ _ _ _ _ _ _ _ _ _ _ _ _ _ _ _ _ hC ht).mono ?_); rintro e' wN ⟨rfl, hb⟩; replace hC := hC.below hb; replace HB0 := btr HB0 HB0.size hb; replace G1 := G1.below hb G1.lt; clear z0 z1 y10; have z0 := G1.cell_ 0; have z1 := G1.cell_ 1; simp at z0 z1; obtain ⟨y0, y1, y2, y3, y4⟩ := geo5 hC))
    | (go_at_call 34; ((with_reducible refine (raw_bb _ _ _ _ _ RW _ HM HRW).mono ?_); rintro e' wN ⟨rfl, hb⟩; replace hC := hC.below hb; replace HB0 := btr HB0 HB0.size hb; replace G1 := G1.below hb G1.lt; clear z0 z1 y0 y1 y2 y3 y4; have z0 := G1.cell_ 0; have z1 := G1.cell_ 1; simp at z0 z1))
    | (go_at_call 54; ((with_reducible refine (begin_b _ _ _ _ _ _ _ _ _ _ _ _ _ _ _ _ hC hbn hn hcu).mono ?_); rintro e' wN ⟨rfl, hC2, hT⟩; have HT := (Tch.of_below (S := chB m gx gb) HB0).trans hT; have hlt0 := hT.far w.heap.size G1.lt hnb; replace G1 : Blk wN w.heap.size _ _ := hlt0.trans G1; clear hlt0 hC; have hC := hC2; clear hC2 z0 z1; have z0 := G1.cell_ 0; have z1 := G1.cell_ 1; simp at z0 z1))
    | (go_at_call 55; ((with_reducible refine (refusal_b _ _ _ _ _ _ _ _ _ _ _ _ k l _ _ _ hC hk hwr).mono ?_); rintro e' wN ⟨rfl, hb⟩; (try have hb := undrew hb); replace hC := ChipW.likeB hC hb; replace HT := HT.then hb; replace G1 := G1.below hb G1.lt; clear z0 z1; have z0 := G1.cell_ 0; have z1 := G1.cell_ 1; simp at z0 z1))
    | (go_at_call 56; ((with_reducible refine (page_any _ _ _ _ _ _ _ _ _ _ _ _ k l N RW _ _ (by first | exact hC | exact ChipW.drew hC) hk hl hnum HRW.out hfit.out r1 r2 hN2).mono ?_); rintro e' wN ⟨⟨q, hq, rfl⟩, hb⟩; (try have hb := undrew hb); replace hC := ChipW.likeB hC hb; replace HT := HT.then hb; replace G1 := G1.below hb G1.lt; clear z0 z1; have z0 := G1.cell_ 0; have z1 := G1.cell_ 1; simp at z0 z1; have hrd : ∀ j u, ((bs).map byteV)[j]? = some u → wN.cell? ((⟨gA, oA, none⟩ : Addr).add j) = some u := rd_keep HT hgA hgn HSL.out (fun _ _ h => h); obtain ⟨wY, hrun, hCY, hTY⟩ := copy_chip (q := q) hC ⟨gA, oA, none⟩ RW cA (bs) hfit.out (by rw [HBL.out]; omega) hrd)))
  replace hC := hCY
  have hz9 := HT.size
  replace G1 := hTY.blk G1 hnb
  replace HT := HT.trans hTY
  clear hCY hTY z0 z1 hrun
  have z0 := G1.cell_ 0
  have z1 := G1.cell_ 1
  simp at z0 z1
  obtain ⟨S0, hS0⟩ : ∃ S0 : ChS, S0 = { s.tick with X := putX s.tick.X (N * RW) bs } := ⟨_, rfl⟩
  rw [← hS0] at hC HKB
  have HS0 := Lib.hid hS0
  have i0 : (0 : Int) ≤ (k : Int) := by omega
  clear hS0
  obtain ⟨cb0, NB0, hkN0, y7, cz, fb, hKl⟩ := chip_k (j := 0) hC hk (by omega)
  obtain ⟨v0, hv0⟩ : ∃ v, ChS.k S0 (k : Int) 0 = v := ⟨_, rfl⟩
  rw [hv0] at cz
  have HV0 := Lib.hid hv0
  have hbd0 : 0 ≤ v0 ∧ v0 ≤ n + 1 := by rw [← hv0]; exact HKB.out _
  obtain ⟨b00, b10⟩ := hbd0
  have hwr0 : IntKind.i64.wrap (v0 + 1) = v0 + 1 := wrapS _ (by omega) (by omega)
  (try rw [Nat.add_zero] at cz hKl)
  clear hv0
  go_still_tail 12, (by kernel_rfl)
  change wpList _ _ _ _ _ wY.drew
  go_wp2_with fail
  have hS := setK_chip hC hKl (v0 + 1)
  have hSd := ChipW.drew hS.1
  have hTd : Tch (chB m gx gb) w ((wY.setCell ⟨gb, k * 3, none⟩ (.int .i64 (v0 + 1))).drew) := (HT.trans hS.2).like
  have hG : Blk ((wY.setCell ⟨gb, k * 3, none⟩ (.int .i64 (v0 + 1))).drew) w.heap.size 33 #[.int .i64 (k : Int), .int .i64 (l : Int)] := G1.far (p := ⟨gb, k * 3, none⟩) (fun e => hnb (Or.inr (Or.inr e))) _
  clear HT hC G1 z0 z1 y7 cz fb hS hwr0
  generalize (wY.setCell ⟨gb, k * 3, none⟩ (.int .i64 (v0 + 1))).drew = w2 at hSd hTd hG ⊢
  have hC := hSd
  have HT := hTd
  have G1 := hG
  clear hSd hTd hG
  have z0 := G1.cell_ 0
  have z1 := G1.cell_ 1
  simp at z0 z1
  obtain ⟨S1, hS1⟩ : ∃ S1 : ChS, S1 = { S0 with K := S0.K.set (k * 3) (v0 + 1) } := ⟨_, rfl⟩
  rw [← hS1] at hC
  have KB1 : 0 ≤ S1.k (k : Int) 2 ∧ S1.k (k : Int) 2 ≤ n + 1 := by
    have := HKB.out 2
    rw [hS1]
    unfold ChS.k at this ⊢
    dsimp only
    rw [Int.toNat_natCast] at this ⊢
    rw [getD_setN, if_neg (by omega)]
    exact this
  have HS1 := Lib.hid hS1
  clear hS1
  go_upto_region 19 with fail
  obtain ⟨cb2, NB2, hkN2, y7, cz, fb, hKl⟩ := chip_k (j := 2) hC hk (by omega)
  obtain ⟨v2, hv2⟩ : ∃ v, ChS.k S1 (k : Int) 2 = v := ⟨_, rfl⟩
  rw [hv2] at cz
  have HV2 := Lib.hid hv2
  have hbd2 : 0 ≤ v2 ∧ v2 ≤ n + 1 := by rw [← hv2]; exact KB1
  obtain ⟨b02, b12⟩ := hbd2
  have hwr2 : IntKind.i64.wrap (v2 + 1) = v2 + 1 := wrapS _ (by omega) (by omega)
  (try rw [Nat.add_zero] at cz hKl)
  clear hv2
  go_still_tail 12, (by kernel_rfl)
  change wpList _ _ _ _ _ w2.drew
  go_wp2_with fail
  have hS := setK_chip hC hKl (v2 + 1)
  have hSd := ChipW.drew hS.1
  have hTd : Tch (chB m gx gb) w ((w2.setCell ⟨gb, k * 3 + 2, none⟩ (.int .i64 (v2 + 1))).drew) := (HT.trans hS.2).like
  have hG : Blk ((w2.setCell ⟨gb, k * 3 + 2, none⟩ (.int .i64 (v2 + 1))).drew) w.heap.size 33 #[.int .i64 (k : Int), .int .i64 (l : Int)] := G1.far (p := ⟨gb, k * 3 + 2, none⟩) (fun e => hnb (Or.inr (Or.inr e))) _
  clear HT hC G1 z0 z1 y7 cz fb hS hwr2
  generalize (w2.setCell ⟨gb, k * 3 + 2, none⟩ (.int .i64 (v2 + 1))).drew = w3 at hSd hTd hG ⊢
  have hC := hSd
  have HT := hTd
  have G1 := hG
  clear hSd hTd hG
  have z0 := G1.cell_ 0
  have z1 := G1.cell_ 1
  simp at z0 z1
  go_wp2_with fail
  go_ret
  have hfin : { S1 with K := S1.K.set (k * 3 + 2) (v2 + 1) } = s.prog k N RW bs := by
    rw [← HV2.out, HS1.out, ← HV0.out, HS0.out]
    unfold ChS.prog ChS.inc
    rw [tick_X]
    rfl
  rw [← hfin]
  exact ⟨rfl, hC, HT⟩
end Go.Proofs.Ytplniojeaodjiaa
