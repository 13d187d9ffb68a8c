/- Program of a chip, with a cut. -/
import Derived.Test.YtplniojeaodjiaaChI
namespace Go.Proofs.Ytplniojeaodjiaa
open Go.ChangeShapes Go.WideShapes Go.ChangeAt Go.RowKit
set_option linter.unusedSimpArgs false
set_option linter.unusedVariables false

theorem tick_cby (s : ChS) : s.tick.cby = s.cby := by unfold ChS.tick; split <;> rfl
set_option maxRecDepth 100000 in
set_option maxHeartbeats 4000000 in
theorem prog_cut (m gx gb : Nat) (Af : Option Addr) (nf cf : Nat) (a b c d e : Int) (fs : List Flt) (k l N RW : Nat) (n : Int) (bs : List Nat) (gA oA cA : Nat) (w : World) (s : ChS) (hC : ChipW w m gx gb Af nf cf a b c d e fs s) (hbn : s.Bnd n) (hn : n ≤ 1000000000) (ho : s.on = true) (hk : (k : Int) < a) (hl : (l : Int) < b) (hnum : Hid (numberI a b (k : Int) (l : Int) = (N : Int))) (HRW : Hid ((RW : Int) = c + 16)) (hfit0 : Hid (N * RW + RW ≤ s.X.length)) (r1 : 40 ≤ RW) (r2 : RW ≤ 80) (hN2 : N < 200) (hsl : ∀ j u, (bs.map byteV)[j]? = some u → w.cell? ⟨gA, oA + j, none⟩ = some u) (hgA : gA < w.heap.size) (hgn : ¬ chB m gx gb gA) (hbl : bs.length = RW) (hcu : Hid (s.cutB = true)) (hwr0 : s.wrong a fs k l = 0) (Q : Nat) (hcb : 0 ≤ s.cby) (hQ : min RW s.cby.toNat = Q) (hcA : RW ≤ cA) (hcA2 : cA ≤ maxLen) : Calls Try.prog 17 #[.pointer (some ⟨m, 0, none⟩), .agg #[.int .i64 (k : Int), .int .i64 (l : Int)], .slice (some ⟨gA, oA, none⟩) RW cA] w fun e' w' => e' = .returned (.int .i64 9) ∧ ChipW w' m gx gb Af nf cf a b c d e fs (s.progCut k N RW (bs.take Q)) ∧ Tch (chB m gx gb) w w' := by
  have KB : ∀ i, 0 ≤ (({ s.tick with X := putX s.tick.X (N * RW) (bs.take Q) } : ChS)).k (k : Int) i ∧ (({ s.tick with X := putX s.tick.X (N * RW) (bs.take Q) } : ChS)).k (k : Int) i ≤ n + 1 := fun i => by
    have h1 := hbn.k0 (3 * (k : Int).toNat + i)
    have h2 := hbn.k1 (3 * (k : Int).toNat + i)
    unfold ChS.k
    dsimp only
    rw [tick_K]
    omega
  have HKB := Lib.hid KB
  have HQ := Lib.hid hQ
  obtain ⟨CB, hCB⟩ : ∃ z, s.tick.cby = z := ⟨_, rfl⟩
  have hmin : (if CB < (RW : Int) then CB else (RW : Int)) = (Q : Int) := by
    rw [← hCB, tick_cby]
    split <;> omega
  have q0 : (0 : Int) ≤ (Q : Int) := by omega
  have q1 : (Q : Int) ≤ (cA : Int) := by omega
  have q2 : Q ≤ cA := by omega
  unfold maxLen at hcA2
  have HCB := Lib.hid hCB
  clear KB hQ hCB hcb
  have hnb : ¬ chB m gx gb w.heap.size := by have := hC.lt; unfold chB; omega
  have ht : Hid (thereB a b (k : Int) (l : Int) = true) := Lib.hid (by unfold thereB withinB; simp; omega)
  have HM := Lib.hid (planMay_bd hC.may).1
  have hwr : Hid (s.tick.wrong a fs k l = 0) := Lib.hid (by rw [wrong_tick]; exact hwr0)
  have hfit : Hid (N * RW + RW ≤ s.tick.X.length) := Lib.hid (by rw [tick_X]; exact hfit0.out)
  have HSL := Lib.hid hsl
  have HBL := Lib.hid hbl
  clear hsl hbl hwr0
  have HB0 : Below w.heap.size w (w.alloc (.cells #[.int .i64 (k : Int), .int .i64 (l : Int)] 33)) := (Below.refl _ _).alloc (Nat.le_refl _) _
  have G1 : Blk (w.alloc (.cells #[.int .i64 (k : Int), .int .i64 (l : Int)] 33)) w.heap.size 33 #[.int .i64 (k : Int), .int .i64 (l : Int)] := Blk.new_ _ _ _
  have z0 : (w.alloc (.cells #[.int .i64 (k : Int), .int .i64 (l : Int)] 33)).cell? ⟨w.heap.size, 0, none⟩ = some (.int .i64 (k : Int)) := G1.cell_ 0
  have z1 : (w.alloc (.cells #[.int .i64 (k : Int), .int .i64 (l : Int)] 33)).cell? ⟨w.heap.size, 1, none⟩ = some (.int .i64 (l : Int)) := G1.cell_ 1
  have hC := hC.below HB0
  have y10 := cell10 hC
  rw [ho] at y10
  clear ho
  have HPG : True := trivial
  go_enter Try.func17, Try.ntmps17
  go_upto_region 10 with (first
    | (go_at_call 53; ((with_reducible refine (hasPage_b _ _ _ _ _ _ _ _ _ _ _ _ _ _ _ _ _ hC ht).mono ?_); rintro e' wN ⟨rfl, hb⟩; replace hC := hC.below hb; replace HB0 := btr HB0 HB0.size hb; replace G1 := G1.below hb G1.lt; clear z0 z1 y10; have z0 := G1.cell_ 0; have z1 := G1.cell_ 1; simp at z0 z1; obtain ⟨y0, y1, y2, y3, y4⟩ := geo5 hC))
    | (go_at_call 34; ((with_reducible refine (raw_bb _ _ _ _ _ RW _ HM HRW).mono ?_); rintro e' wN ⟨rfl, hb⟩; replace hC := hC.below hb; replace HB0 := btr HB0 HB0.size hb; replace G1 := G1.below hb G1.lt; clear z0 z1 y0 y1 y2 y3 y4; have z0 := G1.cell_ 0; have z1 := G1.cell_ 1; simp at z0 z1))
    | (go_at_call 54; ((with_reducible refine (begin_b _ _ _ _ _ _ _ _ _ _ _ _ _ _ _ _ hC hbn hn hcu).mono ?_); rintro e' wN ⟨rfl, hC2, hT⟩; have HT := (Tch.of_below (S := chB m gx gb) HB0).trans hT; have hlt0 := hT.far w.heap.size G1.lt hnb; replace G1 : Blk wN w.heap.size _ _ := hlt0.trans G1; clear hlt0 hC; have hC := hC2; clear hC2 z0 z1; have z0 := G1.cell_ 0; have z1 := G1.cell_ 1; simp at z0 z1))
    | (go_at_call 55; ((with_reducible refine (refusal_b _ _ _ _ _ _ _ _ _ _ _ _ k l _ _ _ hC hk hwr).mono ?_); rintro e' wN ⟨rfl, hb⟩; (try have hb := undrew hb); replace hC := ChipW.likeB hC hb; replace HT := HT.then hb; replace G1 := G1.below hb G1.lt; clear z0 z1; have z0 := G1.cell_ 0; have z1 := G1.cell_ 1; simp at z0 z1)))
  have y14 := cell14 hC
  rw [HCB.out] at y14
  refine wp_region_noPanic ?_
  refine wp_region_held_drew (S := (fun w' => w'.cell? ⟨m, 14, none⟩ = some (.int .i64 CB) ∧ w'.cell? ⟨w.heap.size, 0, none⟩ = some (.int .i64 (k : Int)) ∧ w'.cell? ⟨w.heap.size, 1, none⟩ = some (.int .i64 (l : Int)))) (by kernel_rfl) ?_ (fun hHeld => ?_)
  · (first | exact ⟨y14, z0, z1⟩ | exact ⟨c14, zz0, zz1⟩ | assumption)
  refine wpAnyH_take (i := 0) (oi := { dst := some 44, op := Op.move (Operand.tmp 0), type := 27, pos := "chip.go:116", after := #[], guard := none }) (v := ?_) rfl (by kernel_rfl) (by kernel_rfl) (by kernel_rfl) (fun _ _ _ h => h) (Or.inl ⟨by rfl, ?_⟩) (by assumption) ?_
  rotate_left
  · (intro wS hSw; (try dsimp only at hSw); go_simp; (try with_reducible rfl))
  try simp only [Act.put, List.setIfInBounds_toArray, List.set_cons_zero, List.set_cons_succ]
  refine wpAnyH_take (i := 1) (oi := { dst := some 45, op := Op.load 33 (Operand.tmp 4), type := 33, pos := "chip.go:116", after := #[], guard := none }) (v := ?_) rfl (by kernel_rfl) (by kernel_rfl) (by kernel_rfl) (fun _ _ _ h => h) (Or.inl ⟨by rfl, ?_⟩) (by assumption) ?_
  rotate_left
  · (intro wS hSw; (try dsimp only at hSw); go_simp; (try with_reducible rfl))
  try simp only [Act.put, List.setIfInBounds_toArray, List.set_cons_zero, List.set_cons_succ]
  refine wpAnyH_take (i := 3) (oi := { dst := some 47, op := Op.move (Operand.tmp 2), type := 48, pos := "chip.go:116", after := #[], guard := none }) (v := ?_) rfl (by kernel_rfl) (by kernel_rfl) (by kernel_rfl) (fun _ _ _ h => h) (Or.inl ⟨by rfl, ?_⟩) (by assumption) ?_
  rotate_left
  · (intro wS hSw; (try dsimp only at hSw); go_simp; (try with_reducible rfl))
  try simp only [Act.put, List.setIfInBounds_toArray, List.set_cons_zero, List.set_cons_succ]
  refine wpAnyH_take (i := 4) (oi := { dst := some 48, op := Op.move (Operand.tmp 2), type := 48, pos := "chip.go:116", after := #[], guard := none }) (v := ?_) rfl (by kernel_rfl) (by kernel_rfl) (by kernel_rfl) (fun _ _ _ h => h) (Or.inl ⟨by rfl, ?_⟩) (by assumption) ?_
  rotate_left
  · (intro wS hSw; (try dsimp only at hSw); go_simp; (try with_reducible rfl))
  try simp only [Act.put, List.setIfInBounds_toArray, List.set_cons_zero, List.set_cons_succ]
  refine wpAnyH_take (i := 5) (oi := { dst := some 49, op := Op.call { callee := Callee.builtin Builtin.len, args := #[Operand.tmp 48], argTypes := #[48] }, type := 3, pos := "chip.go:116", after := #[{ on := 4, ground := Ground.data }], guard := none }) (v := ?_) rfl (by kernel_rfl) (by kernel_rfl) (by kernel_rfl) (fun _ _ _ h => h) (Or.inl ⟨by rfl, ?_⟩) (by assumption) ?_
  rotate_left
  · (intro wS hSw; (try dsimp only at hSw); go_simp; (try with_reducible rfl))
  try simp only [Act.put, List.setIfInBounds_toArray, List.set_cons_zero, List.set_cons_succ]
  refine wpAnyH_take (i := 6) (oi := { dst := some 50, op := Op.move (Operand.tmp 0), type := 27, pos := "chip.go:116", after := #[], guard := none }) (v := ?_) rfl (by kernel_rfl) (by kernel_rfl) (by kernel_rfl) (fun _ _ _ h => h) (Or.inl ⟨by rfl, ?_⟩) (by assumption) ?_
  rotate_left
  · (intro wS hSw; (try dsimp only at hSw); go_simp; (try with_reducible rfl))
  try simp only [Act.put, List.setIfInBounds_toArray, List.set_cons_zero, List.set_cons_succ]
  refine wpAnyH_take (i := 7) (oi := { dst := some 51, op := Op.nilCheck (Operand.tmp 50), type := 0, pos := "chip.go:116", after := #[{ on := 6, ground := Ground.data }], guard := none }) (v := ?_) rfl (by kernel_rfl) (by kernel_rfl) (by kernel_rfl) (fun _ _ _ h => h) (Or.inl ⟨by rfl, ?_⟩) (by assumption) ?_
  rotate_left
  · (intro wS hSw; (try dsimp only at hSw); go_simp; (try with_reducible rfl))
  try simp only [Act.put, List.setIfInBounds_toArray, List.set_cons_zero, List.set_cons_succ]
  refine wpAnyH_take (i := 8) (oi := { dst := some 52, op := Op.fieldAddr 71 (Operand.tmp 51) 9, type := 0, pos := "chip.go:116", after := #[{ on := 7, ground := Ground.data }], guard := none }) (v := ?_) rfl (by kernel_rfl) (by kernel_rfl) (by kernel_rfl) (fun _ _ _ h => h) (Or.inl ⟨by rfl, ?_⟩) (by assumption) ?_
  rotate_left
  · (intro wS hSw; (try dsimp only at hSw); go_simp; (try with_reducible rfl))
  try simp only [Act.put, List.setIfInBounds_toArray, List.set_cons_zero, List.set_cons_succ]
  refine wpAnyH_take (i := 9) (oi := { dst := some 53, op := Op.fieldAddr 35 (Operand.tmp 52) 1, type := 0, pos := "chip.go:116", after := #[{ on := 8, ground := Ground.data }], guard := none }) (v := ?_) rfl (by kernel_rfl) (by kernel_rfl) (by kernel_rfl) (fun _ _ _ h => h) (Or.inl ⟨by rfl, ?_⟩) (by assumption) ?_
  rotate_left
  · (intro wS hSw; (try dsimp only at hSw); go_simp; (try with_reducible rfl))
  try simp only [Act.put, List.setIfInBounds_toArray, List.set_cons_zero, List.set_cons_succ]
  refine wpAnyH_take (i := 10) (oi := { dst := some 54, op := Op.load 3 (Operand.tmp 53), type := 3, pos := "chip.go:116", after := #[{ on := 9, ground := Ground.data }], guard := none }) (v := ?_) rfl (by kernel_rfl) (by kernel_rfl) (by kernel_rfl) (fun _ _ _ h => h) (Or.inl ⟨by rfl, ?_⟩) (by assumption) ?_
  rotate_left
  · (intro wS hSw; (try dsimp only at hSw); go_simp; (try with_reducible rfl))
  try simp only [Act.put, List.setIfInBounds_toArray, List.set_cons_zero, List.set_cons_succ]
  refine wpAnyH_take (i := 11) (oi := { dst := some 55, op := Op.call { callee := Callee.builtin Builtin.min, args := #[Operand.tmp 49, Operand.tmp 54], argTypes := #[3, 3] }, type := 3, pos := "chip.go:116", after := #[{ on := 5, ground := Ground.data }, { on := 10, ground := Ground.data }], guard := none }) (v := ?_) rfl (by kernel_rfl) (by kernel_rfl) (by kernel_rfl) (fun _ _ _ h => h) (Or.inl ⟨by rfl, ?_⟩) (by assumption) ?_
  rotate_left
  · (intro wS hSw; (try dsimp only at hSw); go_simp; (try with_reducible rfl))
  try simp only [Act.put, List.setIfInBounds_toArray, List.set_cons_zero, List.set_cons_succ]
  refine wpAnyH_take (i := 12) (oi := { dst := some 56, op := Op.slice 48 (Operand.tmp 47) none (some (Operand.tmp 55)) none, type := 48, pos := "chip.go:116", after := #[{ on := 3, ground := Ground.data }, { on := 11, ground := Ground.data }], guard := none }) (v := ?_) rfl (by kernel_rfl) (by kernel_rfl) (by kernel_rfl) (fun _ _ _ h => h) (Or.inl ⟨by rfl, ?_⟩) (by assumption) ?_
  rotate_left
  · (intro wS hSw; (try dsimp only at hSw); go_simp; (try with_reducible rfl))
  try simp only [Act.put, List.setIfInBounds_toArray, List.set_cons_zero, List.set_cons_succ]
  refine wpAnyH_ready (rs := [2]) (by kernel_rfl) (by simp) ?_
  refine AllReadyH.cons (o := { dst := some 46, op := Op.call { callee := Callee.value (Operand.func 56), args := #[Operand.tmp 44, Operand.tmp 45], argTypes := #[27, 33] }, type := 48, pos := "chip.go:116", after := #[{ on := 0, ground := Ground.data }, { on := 1, ground := Ground.data }], guard := none }) rfl (fun K hK => ?_) AllReadyH.nil
  go_simp
  (go_at_call 56; ((with_reducible refine (page_any _ _ _ _ _ _ _ _ _ _ _ _ k l N RW _ _ (by first | exact hC | exact ChipW.drew hC) hk hl hnum HRW.out hfit.out r1 r2 hN2).mono ?_); rintro e' wN ⟨⟨q, hq, rfl⟩, hb⟩; (try have hb := undrew hb); replace hC := ChipW.likeB hC hb; replace HT := HT.then hb; replace G1 := G1.below hb G1.lt; clear z0 z1; have z0 := G1.cell_ 0; have z1 := G1.cell_ 1; simp at z0 z1; have hrd : ∀ j u, (((bs.take Q)).map byteV)[j]? = some u → wN.cell? ((⟨gA, oA, none⟩ : Addr).add j) = some u := rd_keep HT hgA hgn HSL.out take_sub; obtain ⟨wY, hrun, hCY, hTY⟩ := copy_chip (q := q) hC ⟨gA, oA, none⟩ Q cA ((bs.take Q)) hfit.out (by rw [List.length_take, HBL.out]) hrd; have y14 := cell14 hC; have c14 := cell14 hCY; rw [HCB.out] at y14; rw [show ({ s.tick with X := putX s.tick.X (N * RW) (bs.take Q) } : ChS).cby = CB from HCB.out] at c14; replace G1 := hTY.blk G1 hnb; have zz0 := G1.cell_ 0; have zz1 := G1.cell_ 1; simp at zz0 zz1))
  go_wp2_with fail
  refine hK.out _ _ ?_ (fun hNew => ?_)
  · (first | exact ⟨y14, z0, z1⟩ | exact ⟨c14, zz0, zz1⟩ | assumption)
  clear hK K hHeld
  have hHeld := hNew
  clear hNew
  try simp only [Act.put, List.setIfInBounds_toArray, List.set_cons_zero, List.set_cons_succ]
  refine wpAnyH_ready (rs := [13]) (by kernel_rfl) (by simp) ?_
  refine AllReadyH.cons (o := { dst := some 57, op := Op.call { callee := Callee.builtin Builtin.copy, args := #[Operand.tmp 46, Operand.tmp 56], argTypes := #[48, 48] }, type := 3, pos := "chip.go:116", after := #[{ on := 2, ground := Ground.data }, { on := 12, ground := Ground.data }, { on := 2, ground := Ground.chain }], guard := none }) rfl (fun K hK => ?_) AllReadyH.nil
  refine wp_copy _ _ 48 rfl _ _ _ _ rfl rfl hrun ?_
  refine hK.out _ _ ?_ (fun hNew => ?_)
  · (first | exact ⟨y14, z0, z1⟩ | exact ⟨c14, zz0, zz1⟩ | assumption)
  clear hK K hHeld
  have hHeld := hNew
  clear hNew
  try simp only [Act.put, List.setIfInBounds_toArray, List.set_cons_zero, List.set_cons_succ]
  refine wpAnyH_done (by kernel_rfl) ?_ _
  refine NoPanic.normal ?_
  go_wp2_with fail
  go_upto_region 11 with fail
  replace hC := hCY
  have hz9 := HT.size
  replace HT := HT.trans hTY
  clear hCY hTY z0 z1 zz0 zz1 hrun y14 c14 hmin
  have z0 := G1.cell_ 0
  have z1 := G1.cell_ 1
  simp at z0 z1
  obtain ⟨S0, hS0⟩ : ∃ S0 : ChS, S0 = { s.tick with X := putX s.tick.X (N * RW) (bs.take Q) } := ⟨_, rfl⟩
  rw [← hS0] at hC HKB
  have HS0 := Lib.hid hS0
  have i0 : (0 : Int) ≤ (k : Int) := by omega
  clear hS0
  obtain ⟨cb0, NB0, hkN0, y7, cz, fb, hKl⟩ := chip_k (j := 0) hC hk (by omega)
  obtain ⟨v0, hv0⟩ : ∃ v, ChS.k S0 (k : Int) 0 = v := ⟨_, rfl⟩
  rw [hv0] at cz
  have HV0 := Lib.hid hv0
  have hbd0 : 0 ≤ v0 ∧ v0 ≤ n + 1 := by rw [← hv0]; exact HKB.out _
  obtain ⟨b00, b10⟩ := hbd0
  have hwr0 : IntKind.i64.wrap (v0 + 1) = v0 + 1 := wrapS _ (by omega) (by omega)
  (try rw [Nat.add_zero] at cz hKl)
  clear hv0
  go_still_tail 12, (by kernel_rfl)
  change wpList _ _ _ _ _ wY.drew
  go_wp2_with fail
  have hS := setK_chip hC hKl (v0 + 1)
  have hSd := ChipW.drew hS.1
  have hTd : Tch (chB m gx gb) w ((wY.setCell ⟨gb, k * 3, none⟩ (.int .i64 (v0 + 1))).drew) := (HT.trans hS.2).like
  have hG : Blk ((wY.setCell ⟨gb, k * 3, none⟩ (.int .i64 (v0 + 1))).drew) w.heap.size 33 #[.int .i64 (k : Int), .int .i64 (l : Int)] := G1.far (p := ⟨gb, k * 3, none⟩) (fun e => hnb (Or.inr (Or.inr e))) _
  clear HT hC G1 z0 z1 y7 cz fb hS hwr0
  generalize (wY.setCell ⟨gb, k * 3, none⟩ (.int .i64 (v0 + 1))).drew = w2 at hSd hTd hG ⊢
  have hC := hSd
  have HT := hTd
  have G1 := hG
  clear hSd hTd hG
  have z0 := G1.cell_ 0
  have z1 := G1.cell_ 1
  simp at z0 z1
  go_wp2_with fail
  go_ret
  have hfin : { S0 with K := S0.K.set (k * 3) (v0 + 1) } = s.progCut k N RW (bs.take Q) := by
    rw [← HV0.out, HS0.out]
    unfold ChS.progCut ChS.inc
    rw [tick_X]
    rfl
  rw [← hfin]
  exact ⟨rfl, hC, HT⟩
end Go.Proofs.Ytplniojeaodjiaa
