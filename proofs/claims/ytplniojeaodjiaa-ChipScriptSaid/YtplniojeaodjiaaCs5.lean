/- Program of chapter 7's own chip: with a cut. -/
import Derived.Test.YtplniojeaodjiaaCs4
import Derived.Test.YtplniojeaodjiaaCs2
import Derived.Test.YtplniojeaodjiaaCs3
namespace Go.Proofs.Ytplniojeaodjiaa
open Go.ChangeShapes Go.WideShapes Go.ChangeAt Go.RowKit
set_option linter.unusedSimpArgs false
set_option linter.unusedVariables false
set_option maxRecDepth 100000 in
set_option maxHeartbeats 8000000 in
theorem rprog_cut (m gB gN gW gD L : Nat) (Af : Option Addr) (nf cf : Nat) (a b c d e : Int) (fs : List Flt) (k l N : Nat) (n : Int) (gA RW : Nat) (bs : List Nat) (w : World) (s : ChS) (hC : RefW w m gB gN gW gD L Af nf cf a b c d e fs s) (hbn : s.Bnd n) (hn : n ≤ 900000000) (hwt : s.Wt) (ho : s.on = true) (hk : (k : Int) < a) (hl : (l : Int) < b) (HRW : Hid ((RW : Int) = c + 16)) (hfl8 : fs.length ≤ 8) (hcu : Hid (s.cutB = true)) (hfb : failsB fs (k : Int) (s.k (k : Int) 2) = false) (hln : (l : Int) = s.k (k : Int) 0) (hnum : Hid (numberI a b (k : Int) (l : Int) = (N : Int))) (hfit0 : N * RW + RW ≤ s.X.length) (r1 : 40 ≤ RW) (r2 : RW ≤ 80) (hN2 : N < 200) (hNab : (N : Int) < a * b) (hR : RowT w gA 5 (bs.map byteV)) (hgA : ¬ rfB m gB gN gW gD gA) (hbl : bs.length = RW) (hcb : 0 ≤ s.cby) : Calls Try.prog 44 #[.pointer (some ⟨m, 0, none⟩), .agg #[.int .i64 (k : Int), .int .i64 (l : Int)], .slice (some ⟨gA, 0, none⟩) RW RW] w fun e' w' => e' = .returned (.int .i64 9) ∧ RefW w' m gB gN gW gD L Af nf cf a b c d e fs (s.progCut k N RW (bs.take (min RW s.cby.toNat))) ∧ Tch (rfB m gB gN gW gD) w w' ∧ Fresh w w' gB := by
  have ht : Hid (thereB a b (k : Int) (l : Int) = true) := Lib.hid (by unfold thereB withinB; simp; omega)
  have HK := Lib.hid hk
  have tk : ∀ j : Nat, s.tick.k (k : Int) j = s.k (k : Int) j := fun j => by unfold ChS.k; rw [tick_K]
  obtain ⟨v2, hv2⟩ : ∃ v, s.tick.k (k : Int) 2 = v := ⟨_, rfl⟩
  obtain ⟨v0, hv0⟩ : ∃ v, s.tick.k (k : Int) 0 = v := ⟨_, rfl⟩
  have HV2 := Lib.hid hv2
  have HV0 := Lib.hid hv0
  have HFL : Hid (failsB fs (k : Int) v2 = false) := Lib.hid (by rw [← hv2, tk]; exact hfb)
  rw [← tk, hv0] at hln
  have hnq : ((l : Int) != v0) = false := by simp; omega
  have hnp : ((l : Int) == v0) = true := by simp; omega
  have hfit : N * RW + RW ≤ s.tick.X.length := by rw [tick_X]; exact hfit0
  have HNAB := Lib.hid hNab
  have HFIT := Lib.hid hfit
  have HBL := Lib.hid hbl
  have HAR := Lib.hid hR
  have hC0L : Hid (∀ g, rfB m gB gN gW gD g → g < w.heap.size) := Lib.hid hC.lts
  have hgm : gA ≠ m := fun e => hgA (Or.inl e)
  obtain ⟨vb0, vb1⟩ : 0 ≤ v0 ∧ v0 ≤ n := by rw [← hv0, tk]; exact ⟨hbn.k0 _, hbn.k1 _⟩
  obtain ⟨vc0, vc1⟩ : 0 ≤ v2 ∧ v2 ≤ n := by rw [← hv2, tk]; exact ⟨hbn.k0 _, hbn.k1 _⟩
  clear hln hfit0 hfit hNab hbl hR
  have hcy : s.tick.cby = s.cby := by unfold ChS.tick; split <;> rfl
  obtain ⟨Q, hQ⟩ : ∃ Q, min RW s.cby.toNat = Q := ⟨_, rfl⟩
  have hQR : Q ≤ RW := by omega
  have hmm : (if s.tick.cby < (RW : Int) then s.tick.cby else (RW : Int)) = (Q : Int) := by rw [hcy]; split <;> omega
  have hmm2 : min (RW : Int) s.tick.cby = (Q : Int) := by rw [hcy]; omega
  have HQE := Lib.hid hQ
  clear hQ hcb hcy
  have HQ := Lib.hid hQR
  clear hv2 hv0 tk hk hl
  have HM := Lib.hid (planMay_bd hC.may).1
  have hmw := hC.lt
  have HB0 : Below w.heap.size w (w.alloc (.cells #[.int .i64 (k : Int), .int .i64 (l : Int)] 33)) := (Below.refl _ _).alloc (Nat.le_refl _) _
  have G1 : Blk (w.alloc (.cells #[.int .i64 (k : Int), .int .i64 (l : Int)] 33)) w.heap.size 33 #[.int .i64 (k : Int), .int .i64 (l : Int)] := Blk.new_ _ _ _
  have z0 : (w.alloc (.cells #[.int .i64 (k : Int), .int .i64 (l : Int)] 33)).cell? ⟨w.heap.size, 0, none⟩ = some (.int .i64 (k : Int)) := G1.cell_ 0
  have z1 : (w.alloc (.cells #[.int .i64 (k : Int), .int .i64 (l : Int)] 33)).cell? ⟨w.heap.size, 1, none⟩ = some (.int .i64 (l : Int)) := G1.cell_ 1
  have hC := hC.below HB0
  obtain ⟨NP, NB, RWc, cB, HCC⟩ := hC.cells
  have y0 := HCC.y0; have y1 := HCC.y1; have y2 := HCC.y2; have y3 := HCC.y3; have y4 := HCC.y4; have y12 := HCC.y12
  have hnm : ¬ w.heap.size = m := by omega
  rw [show (!s.on) = false by rw [ho]; rfl] at y12
  clear ho
  go_enter Try.func44, Try.ntmps44
  go_upto_region 3 with fail
  refine wp_region_noPanic ?_
  refine wp_region_held_drew (S := (fun w' => w'.cell? ⟨m, 0, none⟩ = some (.int .i64 a) ∧ w'.cell? ⟨m, 1, none⟩ = some (.int .i64 b) ∧ w'.cell? ⟨m, 2, none⟩ = some (.int .i64 c) ∧ w'.cell? ⟨m, 3, none⟩ = some (.int .i64 d) ∧ w'.cell? ⟨m, 4, none⟩ = some (.int .i64 e) ∧ w'.cell? ⟨w.heap.size, 0, none⟩ = some (.int .i64 (k : Int)) ∧ w'.cell? ⟨w.heap.size, 1, none⟩ = some (.int .i64 (l : Int)))) (by kernel_rfl) ?_ (fun hHeld => ?_)
  · (first | exact ⟨y0, y1, y2, y3, y4, z0, z1⟩ | assumption)
  refine wpAnyH_take (i := 0) (oi := ⟨some 15, .move (.tmp 0), 29, "ref.go:79", #[], none⟩) (v := ?_) rfl (by kernel_rfl) (by kernel_rfl) (by kernel_rfl) (fun _ _ _ h => h) (Or.inl ⟨by rfl, ?_⟩) (by assumption) ?_
  rotate_left
  · (intro wS hSw; (try dsimp only at hSw); go_simp; (try with_reducible rfl))
  try simp only [Act.put, pz1, pz2, pz3]
  refine wpAnyH_take (i := 1) (oi := ⟨some 16, .nilCheck (.tmp 15), 0, "ref.go:79", #[⟨0, .data⟩], none⟩) (v := ?_) rfl (by kernel_rfl) (by kernel_rfl) (by kernel_rfl) (fun _ _ _ h => h) (Or.inl ⟨by rfl, ?_⟩) (by assumption) ?_
  rotate_left
  · (intro wS hSw; (try dsimp only at hSw); go_simp; (try with_reducible rfl))
  try simp only [Act.put, pz1, pz2, pz3]
  refine wpAnyH_take (i := 2) (oi := ⟨some 17, .fieldAddr 42 (.tmp 16) 0, 0, "ref.go:79", #[⟨1, .data⟩], none⟩) (v := ?_) rfl (by kernel_rfl) (by kernel_rfl) (by kernel_rfl) (fun _ _ _ h => h) (Or.inl ⟨by rfl, ?_⟩) (by assumption) ?_
  rotate_left
  · (intro wS hSw; (try dsimp only at hSw); go_simp; (try with_reducible rfl))
  try simp only [Act.put, pz1, pz2, pz3]
  refine wpAnyH_take (i := 3) (oi := ⟨some 18, .load 23 (.tmp 17), 23, "ref.go:79", #[⟨2, .data⟩], none⟩) (v := ?_) rfl (by kernel_rfl) (by kernel_rfl) (by kernel_rfl) (fun _ _ _ h => h) (Or.inl ⟨by rfl, ?_⟩) (by assumption) ?_
  rotate_left
  · (intro wS hSw; (try dsimp only at hSw); go_simp; (try with_reducible rfl))
  try simp only [Act.put, pz1, pz2, pz3]
  refine wpAnyH_take (i := 4) (oi := ⟨some 19, .load 33 (.tmp 4), 33, "ref.go:79", #[], none⟩) (v := ?_) rfl (by kernel_rfl) (by kernel_rfl) (by kernel_rfl) (fun _ _ _ h => h) (Or.inl ⟨by rfl, ?_⟩) (by assumption) ?_
  rotate_left
  · (intro wS hSw; (try dsimp only at hSw); go_simp; (try with_reducible rfl))
  try simp only [Act.put, pz1, pz2, pz3]
  refine wpAnyH_ready (rs := [5]) (by kernel_rfl) (by simp) ?_
  refine AllReadyH.cons (o := ⟨some 20, .call { callee := .value (.func 67), args := #[.tmp 18, .tmp 19], argTypes := #[23, 33] }, 4, "ref.go:79", #[⟨3, .data⟩, ⟨4, .data⟩], none⟩) rfl (fun K hK => ?_) AllReadyH.nil
  go_simp
  (first | (go_at_call 67; ((with_reducible refine (rthr_b _ _ _ _ _ (k : Int) (l : Int) _ _ HM ht).mono ?_); rintro e' wN ⟨rfl, hb⟩; (try have hb := undrew hb); replace hC := RefW.likeB hC hb; replace HB0 := btr HB0 HB0.size hb; replace G1 := G1.below hb G1.lt; replace HCC := RefC.below HCC hb; clear z0 z1; clear y0 y1 y2 y3 y4 y12; have z0 := G1.cell_ 0; have z1 := G1.cell_ 1; simp at z0 z1; have y0 := HCC.y0; have y1 := HCC.y1; have y2 := HCC.y2; have y3 := HCC.y3; have y4 := HCC.y4; have y12 := HCC.y12)) | (go_at_call 39; ((with_reducible refine (rraw_b _ _ _ _ _ RW _ HM HRW).mono ?_); rintro e' wN ⟨rfl, hb⟩; (try have hb := undrew hb); replace hC := RefW.likeB hC hb; replace HB0 := btr HB0 HB0.size hb; replace G1 := G1.below hb G1.lt; replace HCC := RefC.below HCC hb; clear z0 z1; clear y0 y1 y2 y3 y4 y12; have z0 := G1.cell_ 0; have z1 := G1.cell_ 1; simp at z0 z1; have y0 := HCC.y0; have y1 := HCC.y1; have y2 := HCC.y2; have y3 := HCC.y3; have y4 := HCC.y4; have y12 := HCC.y12)))
  go_wp2_with fail
  refine hK.out _ _ ?_ (fun hNew => ?_)
  · (first | exact ⟨y0, y1, y2, y3, y4, z0, z1⟩ | assumption)
  clear hK K hHeld
  have hHeld := hNew
  clear hNew
  try simp only [Act.put, pz1, pz2, pz3]
  refine wpAnyH_take (i := 6) (oi := ⟨some 21, .unOp .not 4 (.tmp 20), 4, "ref.go:79", #[⟨5, .data⟩], none⟩) (v := ?_) rfl (by kernel_rfl) (by kernel_rfl) (by kernel_rfl) (fun _ _ _ h => h) (Or.inl ⟨by rfl, ?_⟩) (by assumption) ?_
  rotate_left
  · (intro wS hSw; (try dsimp only at hSw); go_simp; (try with_reducible rfl))
  try simp only [Act.put, pz1, pz2, pz3]
  refine wpAnyH_take (i := 7) (oi := ⟨some 22, .move (.tmp 21), 4, "ref.go:79", #[⟨6, .data⟩, ⟨5, .chain⟩], none⟩) (v := ?_) rfl (by kernel_rfl) (by kernel_rfl) (by kernel_rfl) (fun _ _ _ h => h) (Or.inl ⟨by rfl, ?_⟩) (by assumption) ?_
  rotate_left
  · (intro wS hSw; (try dsimp only at hSw); go_simp; (try with_reducible rfl))
  try simp only [Act.put, pz1, pz2, pz3]
  refine wpAnyH_take (i := 8) (oi := ⟨some 23, .move (.tmp 2), 48, "ref.go:79", #[⟨7, .guard⟩], some (7, false)⟩) (v := ?_) rfl (by kernel_rfl) (by kernel_rfl) (by kernel_rfl) (fun _ _ _ h => h) (Or.inl ⟨by rfl, ?_⟩) (by assumption) ?_
  rotate_left
  · (intro wS hSw; (try dsimp only at hSw); go_simp; (try with_reducible rfl))
  try simp only [Act.put, pz1, pz2, pz3]
  refine wpAnyH_take (i := 9) (oi := ⟨some 24, .call { callee := .builtin .len, args := #[.tmp 23], argTypes := #[48] }, 3, "ref.go:79", #[⟨8, .data⟩, ⟨7, .guard⟩], some (7, false)⟩) (v := ?_) rfl (by kernel_rfl) (by kernel_rfl) (by kernel_rfl) (fun _ _ _ h => h) (Or.inl ⟨by rfl, ?_⟩) (by assumption) ?_
  rotate_left
  · (intro wS hSw; (try dsimp only at hSw); go_simp; (try with_reducible rfl))
  try simp only [Act.put, pz1, pz2, pz3]
  refine wpAnyH_take (i := 10) (oi := ⟨some 25, .move (.tmp 0), 29, "ref.go:79", #[⟨7, .guard⟩], some (7, false)⟩) (v := ?_) rfl (by kernel_rfl) (by kernel_rfl) (by kernel_rfl) (fun _ _ _ h => h) (Or.inl ⟨by rfl, ?_⟩) (by assumption) ?_
  rotate_left
  · (intro wS hSw; (try dsimp only at hSw); go_simp; (try with_reducible rfl))
  try simp only [Act.put, pz1, pz2, pz3]
  refine wpAnyH_take (i := 11) (oi := ⟨some 26, .nilCheck (.tmp 25), 0, "ref.go:79", #[⟨10, .data⟩, ⟨7, .guard⟩], some (7, false)⟩) (v := ?_) rfl (by kernel_rfl) (by kernel_rfl) (by kernel_rfl) (fun _ _ _ h => h) (Or.inl ⟨by rfl, ?_⟩) (by assumption) ?_
  rotate_left
  · (intro wS hSw; (try dsimp only at hSw); go_simp; (try with_reducible rfl))
  try simp only [Act.put, pz1, pz2, pz3]
  refine wpAnyH_take (i := 12) (oi := ⟨some 27, .fieldAddr 42 (.tmp 26) 0, 0, "ref.go:79", #[⟨11, .data⟩, ⟨7, .guard⟩], some (7, false)⟩) (v := ?_) rfl (by kernel_rfl) (by kernel_rfl) (by kernel_rfl) (fun _ _ _ h => h) (Or.inl ⟨by rfl, ?_⟩) (by assumption) ?_
  rotate_left
  · (intro wS hSw; (try dsimp only at hSw); go_simp; (try with_reducible rfl))
  try simp only [Act.put, pz1, pz2, pz3]
  refine wpAnyH_take (i := 13) (oi := ⟨some 28, .load 23 (.tmp 27), 23, "ref.go:79", #[⟨12, .data⟩, ⟨7, .guard⟩], some (7, false)⟩) (v := ?_) rfl (by kernel_rfl) (by kernel_rfl) (by kernel_rfl) (fun _ _ _ h => h) (Or.inl ⟨by rfl, ?_⟩) (by assumption) ?_
  rotate_left
  · (intro wS hSw; (try dsimp only at hSw); go_simp; (try with_reducible rfl))
  try simp only [Act.put, pz1, pz2, pz3]
  refine wpAnyH_ready (rs := [14]) (by kernel_rfl) (by simp) ?_
  refine AllReadyH.cons (o := ⟨some 29, .call { callee := .value (.func 39), args := #[.tmp 28], argTypes := #[23] }, 3, "ref.go:79", #[⟨13, .data⟩, ⟨7, .chain⟩, ⟨7, .guard⟩], some (7, false)⟩) rfl (fun K hK => ?_) AllReadyH.nil
  go_simp
  (first | (go_at_call 67; ((with_reducible refine (rthr_b _ _ _ _ _ (k : Int) (l : Int) _ _ HM ht).mono ?_); rintro e' wN ⟨rfl, hb⟩; (try have hb := undrew hb); replace hC := RefW.likeB hC hb; replace HB0 := btr HB0 HB0.size hb; replace G1 := G1.below hb G1.lt; replace HCC := RefC.below HCC hb; clear z0 z1; clear y0 y1 y2 y3 y4 y12; have z0 := G1.cell_ 0; have z1 := G1.cell_ 1; simp at z0 z1; have y0 := HCC.y0; have y1 := HCC.y1; have y2 := HCC.y2; have y3 := HCC.y3; have y4 := HCC.y4; have y12 := HCC.y12)) | (go_at_call 39; ((with_reducible refine (rraw_b _ _ _ _ _ RW _ HM HRW).mono ?_); rintro e' wN ⟨rfl, hb⟩; (try have hb := undrew hb); replace hC := RefW.likeB hC hb; replace HB0 := btr HB0 HB0.size hb; replace G1 := G1.below hb G1.lt; replace HCC := RefC.below HCC hb; clear z0 z1; clear y0 y1 y2 y3 y4 y12; have z0 := G1.cell_ 0; have z1 := G1.cell_ 1; simp at z0 z1; have y0 := HCC.y0; have y1 := HCC.y1; have y2 := HCC.y2; have y3 := HCC.y3; have y4 := HCC.y4; have y12 := HCC.y12)))
  go_wp2_with fail
  refine hK.out _ _ ?_ (fun hNew => ?_)
  · (first | exact ⟨y0, y1, y2, y3, y4, z0, z1⟩ | assumption)
  clear hK K hHeld
  have hHeld := hNew
  clear hNew
  try simp only [Act.put, pz1, pz2, pz3]
  refine wpAnyH_take (i := 15) (oi := ⟨some 30, .binOp .neq 3 (.tmp 24) (.tmp 29) 3, 4, "ref.go:79", #[⟨9, .data⟩, ⟨14, .data⟩, ⟨7, .guard⟩], some (7, false)⟩) (v := ?_) rfl (by kernel_rfl) (by kernel_rfl) (by kernel_rfl) (fun _ _ _ h => h) (Or.inl ⟨by rfl, ?_⟩) (by assumption) ?_
  rotate_left
  · (intro wS hSw; (try dsimp only at hSw); go_simp; (try with_reducible rfl))
  try simp only [Act.put, pz1, pz2, pz3]
  refine wpAnyH_take (i := 16) (oi := ⟨some 31, .pick (.tmp 22) (.const (.bool true)) (.tmp 30), 4, "ref.go:79", #[⟨7, .data⟩, ⟨15, .data⟩], none⟩) (v := ?_) rfl (by kernel_rfl) (by kernel_rfl) (by kernel_rfl) (fun _ _ _ h => h) (Or.inl ⟨by rfl, ?_⟩) (by assumption) ?_
  rotate_left
  · (intro wS hSw; (try dsimp only at hSw); go_simp; (try with_reducible rfl))
  try simp only [Act.put, pz1, pz2, pz3]
  refine wpAnyH_done (by kernel_rfl) ?_ _
  refine NoPanic.normal ?_
  go_upto_region 7 with (go_at_call 68; ((with_reducible refine (rturn_b _ _ _ _ _ _ _ _ _ _ _ _ _ _ _ _ _ _ _ hC hbn (by omega) hwt hcu).mono ?_); rintro e' wN ⟨rfl, hC2, hT⟩; have HT := (Tch.of_below (S := fun g => g = m) HB0).trans (Tch.like0 hT); have hlt0 := hT.far w.heap.size G1.lt hnm; replace G1 : Blk wN w.heap.size _ _ := hlt0.trans G1; clear hlt0 hC HCC; have hC := hC2; clear hC2 z0 z1; clear y0 y1 y2 y3 y4 y12; have z0 := G1.cell_ 0; have z1 := G1.cell_ 1; simp at z0 z1))
  obtain ⟨NP, NB, RWc, cB, HCC⟩ := hC.cells
  have y0 := HCC.y0; have y1 := HCC.y1; have y2 := HCC.y2; have y3 := HCC.y3; have y4 := HCC.y4; have y5 := HCC.y5; have y6 := HCC.y6; have y7 := HCC.y7; have y9 := HCC.y9; have y15 := HCC.y15
  have i0 : (0 : Int) ≤ (k : Int) := by omega
  have i1 : (k : Int) < (NB : Int) := by have := HCC.hNB.out; have := HK.out; omega
  have cD := HCC.n2 k (by omega)
  have cX := HCC.n0 k (by omega)
  rw [HV2.out] at cD
  rw [HV0.out] at cX
  refine wp_region_noPanic ?_
  refine wp_region_held_drew (S := (fun w' => w'.cell? ⟨m, 5, none⟩ = some (.slice Af nf cf) ∧ w'.cell? ⟨m, 9, none⟩ = some (.slice (some ⟨gD, 0, none⟩) NB NB) ∧ w'.cell? ⟨w.heap.size, 0, none⟩ = some (.int .i64 (k : Int)) ∧ w'.cell? ⟨gD, k, none⟩ = some (.int .i64 v2))) (by kernel_rfl) ?_ (fun hHeld => ?_)
  · (first | exact ⟨y5, y9, z0, cD⟩ | assumption)
  refine wpAnyH_take (i := 0) (oi := ⟨some 35, .move (.tmp 0), 29, "ref.go:85", #[], none⟩) (v := ?_) rfl (by kernel_rfl) (by kernel_rfl) (by kernel_rfl) (fun _ _ _ h => h) (Or.inl ⟨by rfl, ?_⟩) (by assumption) ?_
  rotate_left
  · (intro wS hSw; (try dsimp only at hSw); go_simp; (try with_reducible rfl))
  try simp only [Act.put, pz1, pz2, pz3]
  refine wpAnyH_take (i := 1) (oi := ⟨some 36, .nilCheck (.tmp 35), 0, "ref.go:85", #[⟨0, .data⟩], none⟩) (v := ?_) rfl (by kernel_rfl) (by kernel_rfl) (by kernel_rfl) (fun _ _ _ h => h) (Or.inl ⟨by rfl, ?_⟩) (by assumption) ?_
  rotate_left
  · (intro wS hSw; (try dsimp only at hSw); go_simp; (try with_reducible rfl))
  try simp only [Act.put, pz1, pz2, pz3]
  refine wpAnyH_take (i := 2) (oi := ⟨some 37, .fieldAddr 42 (.tmp 36) 1, 0, "ref.go:85", #[⟨1, .data⟩], none⟩) (v := ?_) rfl (by kernel_rfl) (by kernel_rfl) (by kernel_rfl) (fun _ _ _ h => h) (Or.inl ⟨by rfl, ?_⟩) (by assumption) ?_
  rotate_left
  · (intro wS hSw; (try dsimp only at hSw); go_simp; (try with_reducible rfl))
  try simp only [Act.put, pz1, pz2, pz3]
  refine wpAnyH_take (i := 3) (oi := ⟨some 38, .load 24 (.tmp 37), 24, "ref.go:85", #[⟨2, .data⟩], none⟩) (v := ?_) rfl (by kernel_rfl) (by kernel_rfl) (by kernel_rfl) (fun _ _ _ h => h) (Or.inl ⟨by rfl, ?_⟩) (by assumption) ?_
  rotate_left
  · (intro wS hSw; (try dsimp only at hSw); go_simp; (try with_reducible rfl))
  try simp only [Act.put, pz1, pz2, pz3]
  refine wpAnyH_take (i := 4) (oi := ⟨some 39, .fieldAddr 33 (.tmp 4) 0, 0, "ref.go:85", #[], none⟩) (v := ?_) rfl (by kernel_rfl) (by kernel_rfl) (by kernel_rfl) (fun _ _ _ h => h) (Or.inl ⟨by rfl, ?_⟩) (by assumption) ?_
  rotate_left
  · (intro wS hSw; (try dsimp only at hSw); go_simp; (try with_reducible rfl))
  try simp only [Act.put, pz1, pz2, pz3]
  refine wpAnyH_take (i := 5) (oi := ⟨some 40, .load 3 (.tmp 39), 3, "ref.go:85", #[⟨4, .data⟩], none⟩) (v := ?_) rfl (by kernel_rfl) (by kernel_rfl) (by kernel_rfl) (fun _ _ _ h => h) (Or.inl ⟨by rfl, ?_⟩) (by assumption) ?_
  rotate_left
  · (intro wS hSw; (try dsimp only at hSw); go_simp; (try with_reducible rfl))
  try simp only [Act.put, pz1, pz2, pz3]
  refine wpAnyH_take (i := 6) (oi := ⟨some 41, .move (.tmp 0), 29, "ref.go:85", #[], none⟩) (v := ?_) rfl (by kernel_rfl) (by kernel_rfl) (by kernel_rfl) (fun _ _ _ h => h) (Or.inl ⟨by rfl, ?_⟩) (by assumption) ?_
  rotate_left
  · (intro wS hSw; (try dsimp only at hSw); go_simp; (try with_reducible rfl))
  try simp only [Act.put, pz1, pz2, pz3]
  refine wpAnyH_take (i := 7) (oi := ⟨some 42, .nilCheck (.tmp 41), 0, "ref.go:85", #[⟨6, .data⟩], none⟩) (v := ?_) rfl (by kernel_rfl) (by kernel_rfl) (by kernel_rfl) (fun _ _ _ h => h) (Or.inl ⟨by rfl, ?_⟩) (by assumption) ?_
  rotate_left
  · (intro wS hSw; (try dsimp only at hSw); go_simp; (try with_reducible rfl))
  try simp only [Act.put, pz1, pz2, pz3]
  refine wpAnyH_take (i := 8) (oi := ⟨some 43, .fieldAddr 42 (.tmp 42) 5, 0, "ref.go:85", #[⟨7, .data⟩], none⟩) (v := ?_) rfl (by kernel_rfl) (by kernel_rfl) (by kernel_rfl) (fun _ _ _ h => h) (Or.inl ⟨by rfl, ?_⟩) (by assumption) ?_
  rotate_left
  · (intro wS hSw; (try dsimp only at hSw); go_simp; (try with_reducible rfl))
  try simp only [Act.put, pz1, pz2, pz3]
  refine wpAnyH_take (i := 9) (oi := ⟨some 44, .load 40 (.tmp 43), 40, "ref.go:85", #[⟨8, .data⟩], none⟩) (v := ?_) rfl (by kernel_rfl) (by kernel_rfl) (by kernel_rfl) (fun _ _ _ h => h) (Or.inl ⟨by rfl, ?_⟩) (by assumption) ?_
  rotate_left
  · (intro wS hSw; (try dsimp only at hSw); go_simp; (try with_reducible rfl))
  try simp only [Act.put, pz1, pz2, pz3]
  refine wpAnyH_take (i := 10) (oi := ⟨some 45, .fieldAddr 33 (.tmp 4) 0, 0, "ref.go:85", #[], none⟩) (v := ?_) rfl (by kernel_rfl) (by kernel_rfl) (by kernel_rfl) (fun _ _ _ h => h) (Or.inl ⟨by rfl, ?_⟩) (by assumption) ?_
  rotate_left
  · (intro wS hSw; (try dsimp only at hSw); go_simp; (try with_reducible rfl))
  try simp only [Act.put, pz1, pz2, pz3]
  refine wpAnyH_take (i := 11) (oi := ⟨some 46, .load 3 (.tmp 45), 3, "ref.go:85", #[⟨10, .data⟩], none⟩) (v := ?_) rfl (by kernel_rfl) (by kernel_rfl) (by kernel_rfl) (fun _ _ _ h => h) (Or.inl ⟨by rfl, ?_⟩) (by assumption) ?_
  rotate_left
  · (intro wS hSw; (try dsimp only at hSw); go_simp; (try with_reducible rfl))
  try simp only [Act.put, pz1, pz2, pz3]
  refine wpAnyH_take (i := 12) (oi := ⟨some 47, .indexAddr 40 (.tmp 44) (.tmp 46), 0, "ref.go:85", #[⟨9, .data⟩, ⟨11, .data⟩], none⟩) (v := ?_) rfl (by kernel_rfl) (by kernel_rfl) (by kernel_rfl) (fun _ _ _ h => h) (Or.inl ⟨by rfl, ?_⟩) (by assumption) ?_
  rotate_left
  · (intro wS hSw; (try dsimp only at hSw); go_simp; (try with_reducible rfl))
  try simp only [Act.put, pz1, pz2, pz3]
  refine wpAnyH_take (i := 13) (oi := ⟨some 48, .load 3 (.tmp 47), 3, "ref.go:85", #[⟨12, .data⟩], none⟩) (v := ?_) rfl (by kernel_rfl) (by kernel_rfl) (by kernel_rfl) (fun _ _ _ h => h) (Or.inl ⟨by rfl, ?_⟩) (by assumption) ?_
  rotate_left
  · (intro wS hSw; (try dsimp only at hSw); go_simp; (try with_reducible rfl))
  try simp only [Act.put, pz1, pz2, pz3]
  refine wpAnyH_ready (rs := [14]) (by kernel_rfl) (by simp) ?_
  refine AllReadyH.cons (o := ⟨some 49, .call { callee := .value (.func 70), args := #[.tmp 38, .tmp 40, .tmp 48], argTypes := #[24, 3, 3] }, 4, "ref.go:85", #[⟨3, .data⟩, ⟨5, .data⟩, ⟨13, .data⟩], none⟩) rfl (fun K hK => ?_) AllReadyH.nil
  go_simp
  (go_at_call 70; ((with_reducible refine (rpfails_b fs Af nf cf _ _ _ _ (by first | exact hC.flt.sl | exact (RefW.drew hC).flt.sl) hC.nf (by omega) HFL).mono ?_); rintro e' wN ⟨rfl, hb⟩; (try have hb := undrew hb); replace hC := RefW.likeB hC hb; replace HT := Tch.thenB HT hb; replace G1 := G1.below hb G1.lt; replace HCC := RefC.below HCC hb; replace cD := cellOf hb cD; replace cX := cellOf hb cX; clear z0 z1; clear y0 y1 y2 y3 y4 y5 y6 y7 y9 y15; have z0 := G1.cell_ 0; have z1 := G1.cell_ 1; simp at z0 z1; have y0 := HCC.y0; have y1 := HCC.y1; have y2 := HCC.y2; have y3 := HCC.y3; have y4 := HCC.y4; have y5 := HCC.y5; have y6 := HCC.y6; have y7 := HCC.y7; have y9 := HCC.y9; have y15 := HCC.y15))
  go_wp2_with fail
  refine hK.out _ _ ?_ (fun hNew => ?_)
  · (first | exact ⟨y5, y9, z0, cD⟩ | assumption)
  clear hK K hHeld
  have hHeld := hNew
  clear hNew
  try simp only [Act.put, pz1, pz2, pz3]
  refine wpAnyH_take (i := 15) (oi := ⟨some 34, .assign (.tmp 49), 4, "ref.go:85", #[⟨14, .data⟩, ⟨14, .chain⟩], none⟩) (v := ?_) rfl (by kernel_rfl) (by kernel_rfl) (by kernel_rfl) (fun _ _ _ h => h) (Or.inl ⟨by rfl, ?_⟩) (by assumption) ?_
  rotate_left
  · (intro wS hSw; (try dsimp only at hSw); go_simp; (try with_reducible rfl))
  try simp only [Act.put, pz1, pz2, pz3]
  refine wpAnyH_done (by kernel_rfl) ?_ _
  refine NoPanic.normal ?_
  go_upto_region 9 with fail
  refine wp_region_noPanic ?_
  refine wp_region_held_drew (S := (fun w' => w'.cell? ⟨m, 7, none⟩ = some (.slice (some ⟨gN, 0, none⟩) NB NB) ∧ w'.cell? ⟨w.heap.size, 0, none⟩ = some (.int .i64 (k : Int)) ∧ w'.cell? ⟨w.heap.size, 1, none⟩ = some (.int .i64 (l : Int)) ∧ w'.cell? ⟨gN, k, none⟩ = some (.int .i64 v0))) (by kernel_rfl) ?_ (fun hHeld => ?_)
  · (first | exact ⟨y7, z0, z1, cX⟩ | assumption)
  refine wpAnyH_take (i := 0) (oi := ⟨some 51, .fieldAddr 33 (.tmp 4) 1, 0, "ref.go:87", #[], none⟩) (v := ?_) rfl (by kernel_rfl) (by kernel_rfl) (by kernel_rfl) (fun _ _ _ h => h) (Or.inl ⟨by rfl, ?_⟩) (by assumption) ?_
  rotate_left
  · (intro wS hSw; (try dsimp only at hSw); go_simp; (try with_reducible rfl))
  try simp only [Act.put, pz1, pz2, pz3]
  refine wpAnyH_take (i := 1) (oi := ⟨some 52, .load 3 (.tmp 51), 3, "ref.go:87", #[⟨0, .data⟩], none⟩) (v := ?_) rfl (by kernel_rfl) (by kernel_rfl) (by kernel_rfl) (fun _ _ _ h => h) (Or.inl ⟨by rfl, ?_⟩) (by assumption) ?_
  rotate_left
  · (intro wS hSw; (try dsimp only at hSw); go_simp; (try with_reducible rfl))
  try simp only [Act.put, pz1, pz2, pz3]
  refine wpAnyH_take (i := 2) (oi := ⟨some 53, .move (.tmp 0), 29, "ref.go:87", #[], none⟩) (v := ?_) rfl (by kernel_rfl) (by kernel_rfl) (by kernel_rfl) (fun _ _ _ h => h) (Or.inl ⟨by rfl, ?_⟩) (by assumption) ?_
  rotate_left
  · (intro wS hSw; (try dsimp only at hSw); go_simp; (try with_reducible rfl))
  try simp only [Act.put, pz1, pz2, pz3]
  refine wpAnyH_take (i := 3) (oi := ⟨some 54, .nilCheck (.tmp 53), 0, "ref.go:87", #[⟨2, .data⟩], none⟩) (v := ?_) rfl (by kernel_rfl) (by kernel_rfl) (by kernel_rfl) (fun _ _ _ h => h) (Or.inl ⟨by rfl, ?_⟩) (by assumption) ?_
  rotate_left
  · (intro wS hSw; (try dsimp only at hSw); go_simp; (try with_reducible rfl))
  try simp only [Act.put, pz1, pz2, pz3]
  refine wpAnyH_take (i := 4) (oi := ⟨some 55, .fieldAddr 42 (.tmp 54) 3, 0, "ref.go:87", #[⟨3, .data⟩], none⟩) (v := ?_) rfl (by kernel_rfl) (by kernel_rfl) (by kernel_rfl) (fun _ _ _ h => h) (Or.inl ⟨by rfl, ?_⟩) (by assumption) ?_
  rotate_left
  · (intro wS hSw; (try dsimp only at hSw); go_simp; (try with_reducible rfl))
  try simp only [Act.put, pz1, pz2, pz3]
  refine wpAnyH_take (i := 5) (oi := ⟨some 56, .load 40 (.tmp 55), 40, "ref.go:87", #[⟨4, .data⟩], none⟩) (v := ?_) rfl (by kernel_rfl) (by kernel_rfl) (by kernel_rfl) (fun _ _ _ h => h) (Or.inl ⟨by rfl, ?_⟩) (by assumption) ?_
  rotate_left
  · (intro wS hSw; (try dsimp only at hSw); go_simp; (try with_reducible rfl))
  try simp only [Act.put, pz1, pz2, pz3]
  refine wpAnyH_take (i := 6) (oi := ⟨some 57, .fieldAddr 33 (.tmp 4) 0, 0, "ref.go:87", #[], none⟩) (v := ?_) rfl (by kernel_rfl) (by kernel_rfl) (by kernel_rfl) (fun _ _ _ h => h) (Or.inl ⟨by rfl, ?_⟩) (by assumption) ?_
  rotate_left
  · (intro wS hSw; (try dsimp only at hSw); go_simp; (try with_reducible rfl))
  try simp only [Act.put, pz1, pz2, pz3]
  refine wpAnyH_take (i := 7) (oi := ⟨some 58, .load 3 (.tmp 57), 3, "ref.go:87", #[⟨6, .data⟩], none⟩) (v := ?_) rfl (by kernel_rfl) (by kernel_rfl) (by kernel_rfl) (fun _ _ _ h => h) (Or.inl ⟨by rfl, ?_⟩) (by assumption) ?_
  rotate_left
  · (intro wS hSw; (try dsimp only at hSw); go_simp; (try with_reducible rfl))
  try simp only [Act.put, pz1, pz2, pz3]
  refine wpAnyH_take (i := 8) (oi := ⟨some 59, .indexAddr 40 (.tmp 56) (.tmp 58), 0, "ref.go:87", #[⟨5, .data⟩, ⟨7, .data⟩], none⟩) (v := ?_) rfl (by kernel_rfl) (by kernel_rfl) (by kernel_rfl) (fun _ _ _ h => h) (Or.inl ⟨by rfl, ?_⟩) (by assumption) ?_
  rotate_left
  · (intro wS hSw; (try dsimp only at hSw); go_simp; (try with_reducible rfl))
  try simp only [Act.put, pz1, pz2, pz3]
  refine wpAnyH_take (i := 9) (oi := ⟨some 60, .load 3 (.tmp 59), 3, "ref.go:87", #[⟨8, .data⟩], none⟩) (v := ?_) rfl (by kernel_rfl) (by kernel_rfl) (by kernel_rfl) (fun _ _ _ h => h) (Or.inl ⟨by rfl, ?_⟩) (by assumption) ?_
  rotate_left
  · (intro wS hSw; (try dsimp only at hSw); go_simp; (try with_reducible rfl))
  try simp only [Act.put, pz1, pz2, pz3]
  refine wpAnyH_take (i := 10) (oi := ⟨some 61, .binOp .neq 3 (.tmp 52) (.tmp 60) 3, 4, "ref.go:87", #[⟨1, .data⟩, ⟨9, .data⟩], none⟩) (v := ?_) rfl (by kernel_rfl) (by kernel_rfl) (by kernel_rfl) (fun _ _ _ h => h) (Or.inl ⟨by rfl, ?_⟩) (by assumption) ?_
  rotate_left
  · (intro wS hSw; (try dsimp only at hSw); go_simp; (try with_reducible rfl))
  try simp only [Act.put, pz1, pz2, pz3]
  refine wpAnyH_take (i := 11) (oi := ⟨some 50, .assign (.tmp 61), 4, "ref.go:87", #[⟨10, .data⟩], none⟩) (v := ?_) rfl (by kernel_rfl) (by kernel_rfl) (by kernel_rfl) (fun _ _ _ h => h) (Or.inl ⟨by rfl, ?_⟩) (by assumption) ?_
  rotate_left
  · (intro wS hSw; (try dsimp only at hSw); go_simp; (try with_reducible rfl))
  try simp only [Act.put, pz1, pz2, pz3]
  refine wpAnyH_done (by kernel_rfl) ?_ _
  refine NoPanic.normal ?_
  go_upto_region 15 with fail
  refine wp_region_noPanic ?_
  refine wp_region_held_drew (S := (fun w' => w'.cell? ⟨m, 0, none⟩ = some (.int .i64 a) ∧ w'.cell? ⟨m, 1, none⟩ = some (.int .i64 b) ∧ w'.cell? ⟨m, 2, none⟩ = some (.int .i64 c) ∧ w'.cell? ⟨m, 3, none⟩ = some (.int .i64 d) ∧ w'.cell? ⟨m, 4, none⟩ = some (.int .i64 e) ∧ w'.cell? ⟨w.heap.size, 0, none⟩ = some (.int .i64 (k : Int)) ∧ w'.cell? ⟨w.heap.size, 1, none⟩ = some (.int .i64 (l : Int)))) (by kernel_rfl) ?_ (fun hHeld => ?_)
  · (first | exact ⟨y0, y1, y2, y3, y4, z0, z1⟩ | assumption)
  refine wpAnyH_take (i := 0) (oi := ⟨some 74, .move (.tmp 0), 29, "ref.go:95", #[], none⟩) (v := ?_) rfl (by kernel_rfl) (by kernel_rfl) (by kernel_rfl) (fun _ _ _ h => h) (Or.inl ⟨by rfl, ?_⟩) (by assumption) ?_
  rotate_left
  · (intro wS hSw; (try dsimp only at hSw); go_simp; (try with_reducible rfl))
  try simp only [Act.put, pz1, pz2, pz3]
  refine wpAnyH_take (i := 1) (oi := ⟨some 75, .nilCheck (.tmp 74), 0, "ref.go:95", #[⟨0, .data⟩], none⟩) (v := ?_) rfl (by kernel_rfl) (by kernel_rfl) (by kernel_rfl) (fun _ _ _ h => h) (Or.inl ⟨by rfl, ?_⟩) (by assumption) ?_
  rotate_left
  · (intro wS hSw; (try dsimp only at hSw); go_simp; (try with_reducible rfl))
  try simp only [Act.put, pz1, pz2, pz3]
  refine wpAnyH_take (i := 2) (oi := ⟨some 76, .fieldAddr 42 (.tmp 75) 0, 0, "ref.go:95", #[⟨1, .data⟩], none⟩) (v := ?_) rfl (by kernel_rfl) (by kernel_rfl) (by kernel_rfl) (fun _ _ _ h => h) (Or.inl ⟨by rfl, ?_⟩) (by assumption) ?_
  rotate_left
  · (intro wS hSw; (try dsimp only at hSw); go_simp; (try with_reducible rfl))
  try simp only [Act.put, pz1, pz2, pz3]
  refine wpAnyH_take (i := 3) (oi := ⟨some 77, .load 23 (.tmp 76), 23, "ref.go:95", #[⟨2, .data⟩], none⟩) (v := ?_) rfl (by kernel_rfl) (by kernel_rfl) (by kernel_rfl) (fun _ _ _ h => h) (Or.inl ⟨by rfl, ?_⟩) (by assumption) ?_
  rotate_left
  · (intro wS hSw; (try dsimp only at hSw); go_simp; (try with_reducible rfl))
  try simp only [Act.put, pz1, pz2, pz3]
  refine wpAnyH_take (i := 4) (oi := ⟨some 78, .load 33 (.tmp 4), 33, "ref.go:95", #[], none⟩) (v := ?_) rfl (by kernel_rfl) (by kernel_rfl) (by kernel_rfl) (fun _ _ _ h => h) (Or.inl ⟨by rfl, ?_⟩) (by assumption) ?_
  rotate_left
  · (intro wS hSw; (try dsimp only at hSw); go_simp; (try with_reducible rfl))
  try simp only [Act.put, pz1, pz2, pz3]
  refine wpAnyH_ready (rs := [5]) (by kernel_rfl) (by simp) ?_
  refine AllReadyH.cons (o := ⟨some 79, .call { callee := .value (.func 69), args := #[.tmp 77, .tmp 78], argTypes := #[23, 33] }, 3, "ref.go:95", #[⟨3, .data⟩, ⟨4, .data⟩], none⟩) rfl (fun K hK => ?_) AllReadyH.nil
  go_simp
  (go_at_call 69; ((with_reducible refine (rnum_c _ _ _ _ _ _ _ N _ HM hnum).mono ?_); rintro e' wN ⟨rfl, hb⟩; (try have hb := undrew hb); (try have hb := undrew hb); replace hC := RefW.likeB hC hb; replace HT := Tch.thenB HT hb; replace G1 := G1.below hb G1.lt; replace HCC := RefC.below HCC hb; replace cD := cellOf hb cD; replace cX := cellOf hb cX; clear z0 z1; clear y0 y1 y2 y3 y4 y5 y6 y7 y9 y15; have z0 := G1.cell_ 0; have z1 := G1.cell_ 1; simp at z0 z1; have y0 := HCC.y0; have y1 := HCC.y1; have y2 := HCC.y2; have y3 := HCC.y3; have y4 := HCC.y4; have y5 := HCC.y5; have y6 := HCC.y6; have y7 := HCC.y7; have y9 := HCC.y9; have y15 := HCC.y15))
  go_wp2_with fail
  refine hK.out _ _ ?_ (fun hNew => ?_)
  · (first | exact ⟨y0, y1, y2, y3, y4, z0, z1⟩ | assumption)
  clear hK K hHeld
  have hHeld := hNew
  clear hNew
  try simp only [Act.put, pz1, pz2, pz3]
  refine wpAnyH_take (i := 6) (oi := ⟨some 10, .assign (.tmp 79), 3, "ref.go:95", #[⟨5, .data⟩, ⟨5, .chain⟩, ⟨0, .phase⟩, ⟨1, .phase⟩, ⟨2, .phase⟩, ⟨3, .phase⟩, ⟨4, .phase⟩, ⟨5, .phase⟩], none⟩) (v := ?_) rfl (by kernel_rfl) (by kernel_rfl) (by kernel_rfl) (fun _ _ _ h => h) (Or.inl ⟨by rfl, ?_⟩) (by assumption) ?_
  rotate_left
  · (intro wS hSw; (try dsimp only at hSw); go_simp; (try with_reducible rfl))
  try simp only [Act.put, pz1, pz2, pz3]
  refine wpAnyH_done (by kernel_rfl) ?_ _
  refine NoPanic.normal ?_
  (try rw [hmm])
  (try rw [hmm2])
  obtain ⟨p, cp, HP⟩ := hC.page HRW.out HNAB.out HFIT.out
  have cN := HP.cN
  have j0 : (0 : Int) ≤ (N : Int) := by omega
  have j1 : (N : Int) < (NP : Int) := by have := HCC.hNP.out; have := HNAB.out; omega
  have HRA : Rd wN (some ⟨gA, 0, none⟩) Q 1 ((bs.take Q).map byteV) := row_take (HAR.out.keep (HT.far gA HAR.out.lt hgm)) HBL.out hQR
  have HRP := rd_dropB HP.rd hQR
  have q0 : (0 : Int) ≤ (Q : Int) := by omega
  have q1 : (Q : Int) ≤ (RW : Int) := by omega
  have q2 : RW ≤ cp := HP.cap
  have q3 : cp ≤ maxLen := HP.cap2
  by_cases hcp : cp = Q
  · have hcq : RW - Q = 0 := by omega
    have HRZ : ∀ (A : Option Addr) (w' : World), Rd w' A 0 1 (((s.tick.pageOf N RW).drop Q).map byteV) := fun A w' => ⟨by have := HRP.1; rw [hcq] at this; exact this, Or.inl rfl⟩
    have hcp := hcp.symm
    subst hcp
    go_upto_region 16 with fail
    go_cut [6] (fun s6 wx => s6 = .int .i64 0 ∧ RefW wx m gB gN gW gD L Af nf cf a b c d e fs { s.tick with X := putX s.tick.X (N * RW) (bs.take Q) } ∧ Tch (rfB m gB gN gW gD) w wx ∧ Blk wx w.heap.size 33 #[.int .i64 (k : Int), .int .i64 (l : Int)] ∧ Fresh w wx gB)
    case first =>
      refine wp_region_noPanic ?_
      refine wp_region_held_drew (S := (fun w' => w'.cell? ⟨m, 6, none⟩ = some (.slice (some ⟨gB, 0, none⟩) NP cB))) (by kernel_rfl) ?_ (fun hHeld => ?_)
      · (first | exact y6 | exact y6a | exact y6b | exact y6c | assumption)
      refine wpAnyH_take (i := 0) (oi := ⟨some 80, .move (.tmp 0), 29, "ref.go:96", #[], none⟩) (v := ?_) rfl (by kernel_rfl) (by kernel_rfl) (by kernel_rfl) (fun _ _ _ h => h) (Or.inl ⟨by rfl, ?_⟩) (by assumption) ?_
      rotate_left
      · (intro wS hSw; (try dsimp only at hSw); go_simp; (try with_reducible rfl))
      try simp only [Act.put, pz1, pz2, pz3]
      refine wpAnyH_take (i := 1) (oi := ⟨some 81, .nilCheck (.tmp 80), 0, "ref.go:96", #[⟨0, .data⟩], none⟩) (v := ?_) rfl (by kernel_rfl) (by kernel_rfl) (by kernel_rfl) (fun _ _ _ h => h) (Or.inl ⟨by rfl, ?_⟩) (by assumption) ?_
      rotate_left
      · (intro wS hSw; (try dsimp only at hSw); go_simp; (try with_reducible rfl))
      try simp only [Act.put, pz1, pz2, pz3]
      refine wpAnyH_take (i := 2) (oi := ⟨some 82, .fieldAddr 42 (.tmp 81) 2, 0, "ref.go:96", #[⟨1, .data⟩], none⟩) (v := ?_) rfl (by kernel_rfl) (by kernel_rfl) (by kernel_rfl) (fun _ _ _ h => h) (Or.inl ⟨by rfl, ?_⟩) (by assumption) ?_
      rotate_left
      · (intro wS hSw; (try dsimp only at hSw); go_simp; (try with_reducible rfl))
      try simp only [Act.put, pz1, pz2, pz3]
      refine wpAnyH_take (i := 3) (oi := ⟨some 83, .load 39 (.tmp 82), 39, "ref.go:96", #[⟨2, .data⟩], none⟩) (v := ?_) rfl (by kernel_rfl) (by kernel_rfl) (by kernel_rfl) (fun _ _ _ h => h) (Or.inl ⟨by rfl, ?_⟩) (by assumption) ?_
      rotate_left
      · (intro wS hSw; (try dsimp only at hSw); go_simp; (try with_reducible rfl))
      try simp only [Act.put, pz1, pz2, pz3]
      refine wpAnyH_take (i := 4) (oi := ⟨some 84, .move (.tmp 10), 3, "ref.go:96", #[], none⟩) (v := ?_) rfl (by kernel_rfl) (by kernel_rfl) (by kernel_rfl) (fun _ _ _ h => h) (Or.inl ⟨by rfl, ?_⟩) (by assumption) ?_
      rotate_left
      · (intro wS hSw; (try dsimp only at hSw); go_simp; (try with_reducible rfl))
      try simp only [Act.put, pz1, pz2, pz3]
      refine wpAnyH_take (i := 5) (oi := ⟨some 85, .move (.tmp 2), 48, "ref.go:96", #[], none⟩) (v := ?_) rfl (by kernel_rfl) (by kernel_rfl) (by kernel_rfl) (fun _ _ _ h => h) (Or.inl ⟨by rfl, ?_⟩) (by assumption) ?_
      rotate_left
      · (intro wS hSw; (try dsimp only at hSw); go_simp; (try with_reducible rfl))
      try simp only [Act.put, pz1, pz2, pz3]
      refine wpAnyH_take (i := 6) (oi := ⟨some 86, .move (.tmp 9), 3, "ref.go:96", #[], none⟩) (v := ?_) rfl (by kernel_rfl) (by kernel_rfl) (by kernel_rfl) (fun _ _ _ h => h) (Or.inl ⟨by rfl, ?_⟩) (by assumption) ?_
      rotate_left
      · (intro wS hSw; (try dsimp only at hSw); go_simp; (try with_reducible rfl))
      try simp only [Act.put, pz1, pz2, pz3]
      refine wpAnyH_take (i := 7) (oi := ⟨some 87, .slice 48 (.tmp 85) none (some (.tmp 86)) none, 48, "ref.go:96", #[⟨5, .data⟩, ⟨6, .data⟩], none⟩) (v := ?_) rfl (by kernel_rfl) (by kernel_rfl) (by kernel_rfl) (fun _ _ _ h => h) (Or.inl ⟨by rfl, ?_⟩) (by assumption) ?_
      rotate_left
      · (intro wS hSw; (try dsimp only at hSw); go_simp; (try with_reducible rfl))
      try simp only [Act.put, pz1, pz2, pz3]
      refine wpAnyH_take (i := 9) (oi := ⟨some 89, .move (.tmp 0), 29, "ref.go:96", #[], none⟩) (v := ?_) rfl (by kernel_rfl) (by kernel_rfl) (by kernel_rfl) (fun _ _ _ h => h) (Or.inl ⟨by rfl, ?_⟩) (by assumption) ?_
      rotate_left
      · (intro wS hSw; (try dsimp only at hSw); go_simp; (try with_reducible rfl))
      try simp only [Act.put, pz1, pz2, pz3]
      refine wpAnyH_take (i := 10) (oi := ⟨some 90, .nilCheck (.tmp 89), 0, "ref.go:96", #[⟨9, .data⟩], none⟩) (v := ?_) rfl (by kernel_rfl) (by kernel_rfl) (by kernel_rfl) (fun _ _ _ h => h) (Or.inl ⟨by rfl, ?_⟩) (by assumption) ?_
      rotate_left
      · (intro wS hSw; (try dsimp only at hSw); go_simp; (try with_reducible rfl))
      try simp only [Act.put, pz1, pz2, pz3]
      refine wpAnyH_take (i := 11) (oi := ⟨some 91, .fieldAddr 42 (.tmp 90) 2, 0, "ref.go:96", #[⟨10, .data⟩], none⟩) (v := ?_) rfl (by kernel_rfl) (by kernel_rfl) (by kernel_rfl) (fun _ _ _ h => h) (Or.inl ⟨by rfl, ?_⟩) (by assumption) ?_
      rotate_left
      · (intro wS hSw; (try dsimp only at hSw); go_simp; (try with_reducible rfl))
      try simp only [Act.put, pz1, pz2, pz3]
      refine wpAnyH_take (i := 12) (oi := ⟨some 92, .load 39 (.tmp 91), 39, "ref.go:96", #[⟨11, .data⟩], none⟩) (v := ?_) rfl (by kernel_rfl) (by kernel_rfl) (by kernel_rfl) (fun _ _ _ h => h) (Or.inl ⟨by rfl, ?_⟩) (by assumption) ?_
      rotate_left
      · (intro wS hSw; (try dsimp only at hSw); go_simp; (try with_reducible rfl))
      try simp only [Act.put, pz1, pz2, pz3]
      refine wpAnyH_take (i := 13) (oi := ⟨some 93, .move (.tmp 10), 3, "ref.go:96", #[], none⟩) (v := ?_) rfl (by kernel_rfl) (by kernel_rfl) (by kernel_rfl) (fun _ _ _ h => h) (Or.inl ⟨by rfl, ?_⟩) (by assumption) ?_
      rotate_left
      · (intro wS hSw; (try dsimp only at hSw); go_simp; (try with_reducible rfl))
      try simp only [Act.put, pz1, pz2, pz3]
      refine wpAnyH_take (i := 14) (oi := ⟨some 94, .indexAddr 39 (.tmp 92) (.tmp 93), 0, "ref.go:96", #[⟨12, .data⟩, ⟨13, .data⟩], none⟩) (v := ?_) rfl (by kernel_rfl) (by kernel_rfl) (by kernel_rfl) (fun _ _ _ h => h) (Or.inl ⟨by rfl, ?_⟩) (by assumption) ?_
      rotate_left
      · (intro wS hSw; (try dsimp only at hSw); go_simp; (try with_reducible rfl))
      try simp only [Act.put, pz1, pz2, pz3]
      refine wpAnyH_take (i := 16) (oi := ⟨some 96, .move (.tmp 9), 3, "ref.go:96", #[], none⟩) (v := ?_) rfl (by kernel_rfl) (by kernel_rfl) (by kernel_rfl) (fun _ _ _ h => h) (Or.inl ⟨by rfl, ?_⟩) (by assumption) ?_
      rotate_left
      · (intro wS hSw; (try dsimp only at hSw); go_simp; (try with_reducible rfl))
      try simp only [Act.put, pz1, pz2, pz3]
      refine wpAnyH_ready (rs := [8, 15]) (by kernel_rfl) (by simp) ?_
      refine (AllReadyH.cons (o := ⟨some 88, .call { callee := .builtin .append, args := #[.const (.slice none 0 0), .tmp 87], argTypes := #[48, 48] }, 48, "ref.go:96", #[⟨7, .data⟩], none⟩) rfl (fun K hK => ?_) (AllReadyH.cons (o := ⟨some 95, .load 48 (.tmp 94), 48, "ref.go:96", #[⟨14, .data⟩], none⟩) rfl (fun K hK => ?_) AllReadyH.nil))
      · obtain ⟨ti0, hi, hz0, hz1, hz2⟩ := info_parts infoByte
        refine step_app _ rfl (.const (.slice none 0 0)) (.tmp 87) _ rfl wN.heap.size 5 ti0 _ 1 1 Try.underlying48 hi hz0 hz1 hz2 rfl (by decide) (.slice none 0 0) 0 [] rfl (World.ownsRow_nil _ _ _ _) (some ⟨gA, 0, none⟩) Q RW ((bs.take Q).map byteV) rfl (HRA.keep (fun b o e j => rfl)) (oneB _) (by unfold maxLen; omega) (by omega) (Nat.le_refl _) ?_
        intro v8 w8 ho8 hg8 hv8
        clear hi hz0 hz1 hz2
        have hb8 : Below wN.heap.size wN w8 := undrew ((Below.refl _ _).grown hg8 (Nat.le_refl _) (fun j hj => by simp [Value.ownBlock] at hj))
        have y6a := cellOf hb8 y6
        have cNa := cellOf hb8 cN
        clear hg8 hv8
        refine hK.out _ _ ?_ (fun hNew => ?_)
        · (first | exact y6 | exact y6a | exact y6b | exact y6c | assumption)
        clear hK K hHeld
        have hHeld := hNew
        clear hNew
        try simp only [Act.put, pz1, pz2, pz3]
        refine wpAnyH_ready (rs := [15]) (by kernel_rfl) (by simp) ?_
        refine AllReadyH.cons (o := ⟨some 95, .load 48 (.tmp 94), 48, "ref.go:96", #[⟨14, .data⟩], none⟩) rfl (fun K hK => ?_) AllReadyH.nil
        go_simp
        refine hK.out _ _ ?_ (fun hNew => ?_)
        · (first | exact y6 | exact y6a | exact y6b | exact y6c | assumption)
        clear hK K hHeld
        have hHeld := hNew
        clear hNew
        try simp only [Act.put, pz1, pz2, pz3]
        refine wpAnyH_take (i := 17) (oi := ⟨some 97, .slice 48 (.tmp 95) (some (.tmp 96)) none none, 48, "ref.go:96", #[⟨15, .data⟩, ⟨16, .data⟩], none⟩) (v := ?_) rfl (by kernel_rfl) (by kernel_rfl) (by kernel_rfl) (fun _ _ _ h => h) (Or.inl ⟨by rfl, ?_⟩) (by assumption) ?_
        rotate_left
        · (intro wS hSw; (try dsimp only at hSw); go_simp; (try with_reducible rfl))
        try simp only [Act.put, pz1, pz2, pz3]
        refine wpAnyH_ready (rs := [18]) (by kernel_rfl) (by simp) ?_
        refine AllReadyH.cons (o := ⟨some 98, .call { callee := .builtin .append, args := #[.tmp 88, .tmp 97], argTypes := #[48, 48] }, 48, "ref.go:96", #[⟨8, .data⟩, ⟨17, .data⟩, ⟨8, .chain⟩], none⟩) rfl (fun K hK => ?_) AllReadyH.nil
        obtain ⟨ti0, hi, hz0, hz1, hz2⟩ := info_parts infoByte
        refine step_app _ rfl (.tmp 88) (.tmp 97) _ rfl wN.heap.size 5 ti0 _ 1 1 Try.underlying48 hi hz0 hz1 hz2 rfl (by decide) v8 _ _ rfl ho8 _ _ _ (((s.tick.pageOf N RW).drop Q).map byteV) rfl (HRZ _ _) (oneB _) (by unfold maxLen; omega) (by omega) hb8.size ?_
        intro v18 w18 ho18 hg18 hv18
        clear hi hz0 hz1 hz2
        have hb18 : Below wN.heap.size wN w18 := hb8.trans (below_app (Nat.le_refl _) hb8.size ho8 hg18)
        have ho19 := own_lenR (by omega : 0 + Q + 0 = RW) ho18
        rw [List.nil_append] at ho19
        obtain ⟨g9, c9, rfl, hR9, hge9, hc91, hc92⟩ := own_rowC ho19 (by omega)
        have y6b := cellOf hb18 y6
        have cNb := cellOf hb18 cN
        have hC18 := RefW.below hC hb18
        have fB18 := hC18.freeB
        clear hg18 hv18 ho18 ho19 ho8
        refine hK.out _ _ ?_ (fun hNew => ?_)
        · (first | exact y6 | exact y6a | exact y6b | exact y6c | assumption)
        clear hK K hHeld
        have hHeld := hNew
        clear hNew
        try simp only [Act.put, pz1, pz2, pz3]
        refine wpAnyH_take (i := 19) (oi := ⟨some 99, .indexAddr 39 (.tmp 83) (.tmp 84), 0, "ref.go:96", #[⟨3, .data⟩, ⟨4, .data⟩, ⟨0, .phase⟩, ⟨1, .phase⟩, ⟨2, .phase⟩, ⟨3, .phase⟩, ⟨4, .phase⟩, ⟨5, .phase⟩, ⟨6, .phase⟩, ⟨7, .phase⟩, ⟨8, .phase⟩, ⟨9, .phase⟩, ⟨10, .phase⟩, ⟨11, .phase⟩, ⟨12, .phase⟩, ⟨13, .phase⟩, ⟨14, .phase⟩, ⟨15, .phase⟩, ⟨16, .phase⟩, ⟨17, .phase⟩, ⟨18, .phase⟩], none⟩) (v := ?_) rfl (by kernel_rfl) (by kernel_rfl) (by kernel_rfl) (fun _ _ _ h => h) (Or.inl ⟨by rfl, ?_⟩) (by assumption) ?_
        rotate_left
        · (intro wS hSw; (try dsimp only at hSw); go_simp; (try with_reducible rfl))
        try simp only [Act.put, pz1, pz2, pz3]
        refine wpAnyH_ready (rs := [20]) (by kernel_rfl) (by simp) ?_
        refine AllReadyH.cons (o := ⟨none, .store 48 (.tmp 99) (.tmp 98), 0, "ref.go:96", #[⟨19, .data⟩, ⟨18, .data⟩, ⟨18, .chain⟩, ⟨0, .phase⟩, ⟨1, .phase⟩, ⟨2, .phase⟩, ⟨3, .phase⟩, ⟨4, .phase⟩, ⟨5, .phase⟩, ⟨6, .phase⟩, ⟨7, .phase⟩, ⟨8, .phase⟩, ⟨9, .phase⟩, ⟨10, .phase⟩, ⟨11, .phase⟩, ⟨12, .phase⟩, ⟨13, .phase⟩, ⟨14, .phase⟩, ⟨15, .phase⟩, ⟨16, .phase⟩, ⟨17, .phase⟩, ⟨18, .phase⟩], none⟩) rfl (fun K hK => ?_) AllReadyH.nil
        go_simp
        have y6c : (w18.setCell ⟨gB, N, none⟩ (.slice (some ⟨g9, 0, none⟩) RW c9)).cell? ⟨m, 6, none⟩ = some (.slice (some ⟨gB, 0, none⟩) NP cB) := (World.cell?_of_block (w := w18) ((Tch.setm w18 gB N (.slice (some ⟨g9, 0, none⟩) RW c9)).far m hC18.lt (fun e => hC18.ne.1.1 e))).trans y6b
        refine hK.out _ _ ?_ (fun hNew => ?_)
        · (first | exact y6 | exact y6a | exact y6b | exact y6c | assumption)
        clear hK K hHeld
        have hHeld := hNew
        clear hNew
        try simp only [Act.put, pz1, pz2, pz3]
        refine wpAnyH_done (by kernel_rfl) ?_ _
        refine NoPanic.normal ?_
        go_wp2_with fail
        go_meet
        have hRR : RowT w18 g9 5 ((bs.take Q ++ (s.tick.pageOf N RW).drop (bs.take Q).length).map byteV) := by
          rw [List.map_append, List.length_take, HBL.out, Nat.min_eq_left HQ.out]
          exact hR9
        have hSP := RefW.setPage hC18 hRR (by have := hC.ge m (Or.inl rfl); have := hC.lt; omega) (fun e => by have := hC.lts g9 e; omega) hc91 hc92 HRW.out (by rw [List.length_take]; omega) HNAB.out HFIT.out
        have hTS := Tch.setm w18 gB N (.slice (some ⟨g9, 0, none⟩) RW c9)
        have hTF : Tch (rfB m gB gN gW gD) w (w18.setCell ⟨gB, N, none⟩ (.slice (some ⟨g9, 0, none⟩) RW c9)) := ((tch_r HT).then hb18).trans (hTS.mono (fun g e => Or.inr (Or.inl e)))
        have hGF := hTS.blk (G1.below hb18 G1.lt) (fun e => by have := hC0L.out gB (Or.inr (Or.inl rfl)); omega)
        have hFF : Fresh w (w18.setCell ⟨gB, N, none⟩ (.slice (some ⟨g9, 0, none⟩) RW c9)) gB := Fresh.put ((hb18.block gB (Nat.lt_of_lt_of_le (hC0L.out gB (Or.inr (Or.inl rfl))) HT.size)).trans (HT.far gB (hC0L.out gB (Or.inr (Or.inl rfl))) (fun e => hC.ne.1.1 e.symm))) hC18.blkB (Nat.le_trans HT.size hge9)
        exact ⟨rfl, hSP, hTF, hGF, hFF⟩
      · go_simp
        refine hK.out _ _ ?_ (fun hNew => ?_)
        · (first | exact y6 | exact y6a | exact y6b | exact y6c | assumption)
        clear hK K hHeld
        have hHeld := hNew
        clear hNew
        try simp only [Act.put, pz1, pz2, pz3]
        refine wpAnyH_take (i := 17) (oi := ⟨some 97, .slice 48 (.tmp 95) (some (.tmp 96)) none none, 48, "ref.go:96", #[⟨15, .data⟩, ⟨16, .data⟩], none⟩) (v := ?_) rfl (by kernel_rfl) (by kernel_rfl) (by kernel_rfl) (fun _ _ _ h => h) (Or.inl ⟨by rfl, ?_⟩) (by assumption) ?_
        rotate_left
        · (intro wS hSw; (try dsimp only at hSw); go_simp; (try with_reducible rfl))
        try simp only [Act.put, pz1, pz2, pz3]
        refine wpAnyH_ready (rs := [8]) (by kernel_rfl) (by simp) ?_
        refine AllReadyH.cons (o := ⟨some 88, .call { callee := .builtin .append, args := #[.const (.slice none 0 0), .tmp 87], argTypes := #[48, 48] }, 48, "ref.go:96", #[⟨7, .data⟩], none⟩) rfl (fun K hK => ?_) AllReadyH.nil
        obtain ⟨ti0, hi, hz0, hz1, hz2⟩ := info_parts infoByte
        refine step_app _ rfl (.const (.slice none 0 0)) (.tmp 87) _ rfl wN.heap.size 5 ti0 _ 1 1 Try.underlying48 hi hz0 hz1 hz2 rfl (by decide) (.slice none 0 0) 0 [] rfl (World.ownsRow_nil _ _ _ _) (some ⟨gA, 0, none⟩) Q RW ((bs.take Q).map byteV) rfl (HRA.keep (fun b o e j => rfl)) (oneB _) (by unfold maxLen; omega) (by omega) (Nat.le_refl _) ?_
        intro v8 w8 ho8 hg8 hv8
        clear hi hz0 hz1 hz2
        have hb8 : Below wN.heap.size wN w8 := undrew ((Below.refl _ _).grown hg8 (Nat.le_refl _) (fun j hj => by simp [Value.ownBlock] at hj))
        have y6a := cellOf hb8 y6
        have cNa := cellOf hb8 cN
        clear hg8 hv8
        refine hK.out _ _ ?_ (fun hNew => ?_)
        · (first | exact y6 | exact y6a | exact y6b | exact y6c | assumption)
        clear hK K hHeld
        have hHeld := hNew
        clear hNew
        try simp only [Act.put, pz1, pz2, pz3]
        refine wpAnyH_ready (rs := [18]) (by kernel_rfl) (by simp) ?_
        refine AllReadyH.cons (o := ⟨some 98, .call { callee := .builtin .append, args := #[.tmp 88, .tmp 97], argTypes := #[48, 48] }, 48, "ref.go:96", #[⟨8, .data⟩, ⟨17, .data⟩, ⟨8, .chain⟩], none⟩) rfl (fun K hK => ?_) AllReadyH.nil
        obtain ⟨ti0, hi, hz0, hz1, hz2⟩ := info_parts infoByte
        refine step_app _ rfl (.tmp 88) (.tmp 97) _ rfl wN.heap.size 5 ti0 _ 1 1 Try.underlying48 hi hz0 hz1 hz2 rfl (by decide) v8 _ _ rfl ho8 _ _ _ (((s.tick.pageOf N RW).drop Q).map byteV) rfl (HRZ _ _) (oneB _) (by unfold maxLen; omega) (by omega) hb8.size ?_
        intro v18 w18 ho18 hg18 hv18
        clear hi hz0 hz1 hz2
        have hb18 : Below wN.heap.size wN w18 := hb8.trans (below_app (Nat.le_refl _) hb8.size ho8 hg18)
        have ho19 := own_lenR (by omega : 0 + Q + 0 = RW) ho18
        rw [List.nil_append] at ho19
        obtain ⟨g9, c9, rfl, hR9, hge9, hc91, hc92⟩ := own_rowC ho19 (by omega)
        have y6b := cellOf hb18 y6
        have cNb := cellOf hb18 cN
        have hC18 := RefW.below hC hb18
        have fB18 := hC18.freeB
        clear hg18 hv18 ho18 ho19 ho8
        refine hK.out _ _ ?_ (fun hNew => ?_)
        · (first | exact y6 | exact y6a | exact y6b | exact y6c | assumption)
        clear hK K hHeld
        have hHeld := hNew
        clear hNew
        try simp only [Act.put, pz1, pz2, pz3]
        refine wpAnyH_take (i := 19) (oi := ⟨some 99, .indexAddr 39 (.tmp 83) (.tmp 84), 0, "ref.go:96", #[⟨3, .data⟩, ⟨4, .data⟩, ⟨0, .phase⟩, ⟨1, .phase⟩, ⟨2, .phase⟩, ⟨3, .phase⟩, ⟨4, .phase⟩, ⟨5, .phase⟩, ⟨6, .phase⟩, ⟨7, .phase⟩, ⟨8, .phase⟩, ⟨9, .phase⟩, ⟨10, .phase⟩, ⟨11, .phase⟩, ⟨12, .phase⟩, ⟨13, .phase⟩, ⟨14, .phase⟩, ⟨15, .phase⟩, ⟨16, .phase⟩, ⟨17, .phase⟩, ⟨18, .phase⟩], none⟩) (v := ?_) rfl (by kernel_rfl) (by kernel_rfl) (by kernel_rfl) (fun _ _ _ h => h) (Or.inl ⟨by rfl, ?_⟩) (by assumption) ?_
        rotate_left
        · (intro wS hSw; (try dsimp only at hSw); go_simp; (try with_reducible rfl))
        try simp only [Act.put, pz1, pz2, pz3]
        refine wpAnyH_ready (rs := [20]) (by kernel_rfl) (by simp) ?_
        refine AllReadyH.cons (o := ⟨none, .store 48 (.tmp 99) (.tmp 98), 0, "ref.go:96", #[⟨19, .data⟩, ⟨18, .data⟩, ⟨18, .chain⟩, ⟨0, .phase⟩, ⟨1, .phase⟩, ⟨2, .phase⟩, ⟨3, .phase⟩, ⟨4, .phase⟩, ⟨5, .phase⟩, ⟨6, .phase⟩, ⟨7, .phase⟩, ⟨8, .phase⟩, ⟨9, .phase⟩, ⟨10, .phase⟩, ⟨11, .phase⟩, ⟨12, .phase⟩, ⟨13, .phase⟩, ⟨14, .phase⟩, ⟨15, .phase⟩, ⟨16, .phase⟩, ⟨17, .phase⟩, ⟨18, .phase⟩], none⟩) rfl (fun K hK => ?_) AllReadyH.nil
        go_simp
        have y6c : (w18.setCell ⟨gB, N, none⟩ (.slice (some ⟨g9, 0, none⟩) RW c9)).cell? ⟨m, 6, none⟩ = some (.slice (some ⟨gB, 0, none⟩) NP cB) := (World.cell?_of_block (w := w18) ((Tch.setm w18 gB N (.slice (some ⟨g9, 0, none⟩) RW c9)).far m hC18.lt (fun e => hC18.ne.1.1 e))).trans y6b
        refine hK.out _ _ ?_ (fun hNew => ?_)
        · (first | exact y6 | exact y6a | exact y6b | exact y6c | assumption)
        clear hK K hHeld
        have hHeld := hNew
        clear hNew
        try simp only [Act.put, pz1, pz2, pz3]
        refine wpAnyH_done (by kernel_rfl) ?_ _
        refine NoPanic.normal ?_
        go_wp2_with fail
        go_meet
        have hRR : RowT w18 g9 5 ((bs.take Q ++ (s.tick.pageOf N RW).drop (bs.take Q).length).map byteV) := by
          rw [List.map_append, List.length_take, HBL.out, Nat.min_eq_left HQ.out]
          exact hR9
        have hSP := RefW.setPage hC18 hRR (by have := hC.ge m (Or.inl rfl); have := hC.lt; omega) (fun e => by have := hC.lts g9 e; omega) hc91 hc92 HRW.out (by rw [List.length_take]; omega) HNAB.out HFIT.out
        have hTS := Tch.setm w18 gB N (.slice (some ⟨g9, 0, none⟩) RW c9)
        have hTF : Tch (rfB m gB gN gW gD) w (w18.setCell ⟨gB, N, none⟩ (.slice (some ⟨g9, 0, none⟩) RW c9)) := ((tch_r HT).then hb18).trans (hTS.mono (fun g e => Or.inr (Or.inl e)))
        have hGF := hTS.blk (G1.below hb18 G1.lt) (fun e => by have := hC0L.out gB (Or.inr (Or.inl rfl)); omega)
        have hFF : Fresh w (w18.setCell ⟨gB, N, none⟩ (.slice (some ⟨g9, 0, none⟩) RW c9)) gB := Fresh.put ((hb18.block gB (Nat.lt_of_lt_of_le (hC0L.out gB (Or.inr (Or.inl rfl))) HT.size)).trans (HT.far gB (hC0L.out gB (Or.inr (Or.inl rfl))) (fun e => hC.ne.1.1 e.symm))) hC18.blkB (Nat.le_trans HT.size hge9)
        exact ⟨rfl, hSP, hTF, hGF, hFF⟩
    case rest =>
    clear hC HT G1 HCC cD cX cN HP HRA HRP z0 z1 y0 y1 y2 y3 y4 y5 y6 y7 y9 y15
    obtain ⟨rfl, hC, HT, G1, HFr⟩ := hcut
    obtain ⟨w6, rfl⟩ : ∃ W : World, W = wc := ⟨_, rfl⟩
    obtain ⟨S0, hS0⟩ : ∃ S0 : ChS, S0 = { s.tick with X := putX s.tick.X (N * RW) (bs.take Q) } := ⟨_, rfl⟩
    rw [← hS0] at hC
    have hk00 : S0.k (k : Int) 0 = v0 := by rw [hS0]; exact HV0.out
    have hk02 : S0.k (k : Int) 2 = v2 := by rw [hS0]; exact HV2.out
    have HS0 := Lib.hid hS0
    clear hS0
    go_upto_region 17 with fail
    obtain ⟨NP0, NB0, RWc0, cB0, HCC⟩ := hC.cells
    have y7 := HCC.y7
    have cz := HCC.n0 k (by have := HCC.hNB.out; have := HK.out; omega)
    rw [hk00] at cz
    have fz := hC.freeN
    have z0 := G1.cell_ 0
    simp at z0
    have i0 : (0 : Int) ≤ (k : Int) := by omega
    have i1 : (k : Int) < (NB0 : Int) := by have := HCC.hNB.out; have := HK.out; omega
    have hwr : IntKind.i64.wrap (v0 + 1) = v0 + 1 := wrapS _ (by omega) (by omega)
    clear HCC
    go_still_tail 10, (by kernel_rfl)
    change wpList _ _ _ _ _ w6.drew
    go_wp2_with fail
    have hS := RefW.set0 hC HK.out (v0 + 1)
    have hSd := RefW.drew hS
    have hT1 := Tch.setm w6 gN k (.int .i64 (v0 + 1))
    have hTd : Tch (rfB m gB gN gW gD) w ((w6.setCell ⟨gN, k, none⟩ (.int .i64 (v0 + 1))).drew) := (HT.trans (hT1.mono (fun g e => Or.inr (Or.inr (Or.inl e))))).like
    have hG : Blk ((w6.setCell ⟨gN, k, none⟩ (.int .i64 (v0 + 1))).drew) w.heap.size 33 #[.int .i64 (k : Int), .int .i64 (l : Int)] := G1.far (p := ⟨gN, k, none⟩) (fun e => by have := hC0L.out w.heap.size (Or.inr (Or.inr (Or.inl e))); omega) _
    have hFd : Fresh w ((w6.setCell ⟨gN, k, none⟩ (.int .i64 (v0 + 1))).drew) gB := Fresh.then HFr (hT1.far gB (hC.lts gB (Or.inr (Or.inl rfl))) (fun e => hC.ne.2.1.1 e))
    clear HT hC G1 z0 y7 cz fz hS hwr hT1 i1 HFr
    generalize (w6.setCell ⟨gN, k, none⟩ (.int .i64 (v0 + 1))).drew = w7 at hSd hTd hG hFd ⊢
    have hC := hSd
    have HT := hTd
    have G1 := hG
    have HFr := hFd
    clear hSd hTd hG hFd
    go_wp2_with fail
    go_ret
    have hfin : ({ S0 with K := S0.K.set (k * 3 + 0) (v0 + 1) } : ChS) = s.progCut k N RW (bs.take (min RW s.cby.toNat)) := by
      rw [HQE.out, ← hk00, HS0.out]
      unfold ChS.progCut ChS.inc
      rw [tick_X]
    rw [← hfin]
    exact ⟨rfl, hC, HT, HFr⟩
  go_upto_region 16 with fail
  go_cut [6] (fun s6 wx => s6 = .int .i64 0 ∧ RefW wx m gB gN gW gD L Af nf cf a b c d e fs { s.tick with X := putX s.tick.X (N * RW) (bs.take Q) } ∧ Tch (rfB m gB gN gW gD) w wx ∧ Blk wx w.heap.size 33 #[.int .i64 (k : Int), .int .i64 (l : Int)] ∧ Fresh w wx gB)
  case first =>
    refine wp_region_noPanic ?_
    refine wp_region_held_drew (S := (fun w' => w'.cell? ⟨m, 6, none⟩ = some (.slice (some ⟨gB, 0, none⟩) NP cB))) (by kernel_rfl) ?_ (fun hHeld => ?_)
    · (first | exact y6 | exact y6a | exact y6b | exact y6c | assumption)
    refine wpAnyH_take (i := 0) (oi := ⟨some 80, .move (.tmp 0), 29, "ref.go:96", #[], none⟩) (v := ?_) rfl (by kernel_rfl) (by kernel_rfl) (by kernel_rfl) (fun _ _ _ h => h) (Or.inl ⟨by rfl, ?_⟩) (by assumption) ?_
    rotate_left
    · (intro wS hSw; (try dsimp only at hSw); go_simp; (try with_reducible rfl))
    try simp only [Act.put, pz1, pz2, pz3]
    refine wpAnyH_take (i := 1) (oi := ⟨some 81, .nilCheck (.tmp 80), 0, "ref.go:96", #[⟨0, .data⟩], none⟩) (v := ?_) rfl (by kernel_rfl) (by kernel_rfl) (by kernel_rfl) (fun _ _ _ h => h) (Or.inl ⟨by rfl, ?_⟩) (by assumption) ?_
    rotate_left
    · (intro wS hSw; (try dsimp only at hSw); go_simp; (try with_reducible rfl))
    try simp only [Act.put, pz1, pz2, pz3]
    refine wpAnyH_take (i := 2) (oi := ⟨some 82, .fieldAddr 42 (.tmp 81) 2, 0, "ref.go:96", #[⟨1, .data⟩], none⟩) (v := ?_) rfl (by kernel_rfl) (by kernel_rfl) (by kernel_rfl) (fun _ _ _ h => h) (Or.inl ⟨by rfl, ?_⟩) (by assumption) ?_
    rotate_left
    · (intro wS hSw; (try dsimp only at hSw); go_simp; (try with_reducible rfl))
    try simp only [Act.put, pz1, pz2, pz3]
    refine wpAnyH_take (i := 3) (oi := ⟨some 83, .load 39 (.tmp 82), 39, "ref.go:96", #[⟨2, .data⟩], none⟩) (v := ?_) rfl (by kernel_rfl) (by kernel_rfl) (by kernel_rfl) (fun _ _ _ h => h) (Or.inl ⟨by rfl, ?_⟩) (by assumption) ?_
    rotate_left
    · (intro wS hSw; (try dsimp only at hSw); go_simp; (try with_reducible rfl))
    try simp only [Act.put, pz1, pz2, pz3]
    refine wpAnyH_take (i := 4) (oi := ⟨some 84, .move (.tmp 10), 3, "ref.go:96", #[], none⟩) (v := ?_) rfl (by kernel_rfl) (by kernel_rfl) (by kernel_rfl) (fun _ _ _ h => h) (Or.inl ⟨by rfl, ?_⟩) (by assumption) ?_
    rotate_left
    · (intro wS hSw; (try dsimp only at hSw); go_simp; (try with_reducible rfl))
    try simp only [Act.put, pz1, pz2, pz3]
    refine wpAnyH_take (i := 5) (oi := ⟨some 85, .move (.tmp 2), 48, "ref.go:96", #[], none⟩) (v := ?_) rfl (by kernel_rfl) (by kernel_rfl) (by kernel_rfl) (fun _ _ _ h => h) (Or.inl ⟨by rfl, ?_⟩) (by assumption) ?_
    rotate_left
    · (intro wS hSw; (try dsimp only at hSw); go_simp; (try with_reducible rfl))
    try simp only [Act.put, pz1, pz2, pz3]
    refine wpAnyH_take (i := 6) (oi := ⟨some 86, .move (.tmp 9), 3, "ref.go:96", #[], none⟩) (v := ?_) rfl (by kernel_rfl) (by kernel_rfl) (by kernel_rfl) (fun _ _ _ h => h) (Or.inl ⟨by rfl, ?_⟩) (by assumption) ?_
    rotate_left
    · (intro wS hSw; (try dsimp only at hSw); go_simp; (try with_reducible rfl))
    try simp only [Act.put, pz1, pz2, pz3]
    refine wpAnyH_take (i := 7) (oi := ⟨some 87, .slice 48 (.tmp 85) none (some (.tmp 86)) none, 48, "ref.go:96", #[⟨5, .data⟩, ⟨6, .data⟩], none⟩) (v := ?_) rfl (by kernel_rfl) (by kernel_rfl) (by kernel_rfl) (fun _ _ _ h => h) (Or.inl ⟨by rfl, ?_⟩) (by assumption) ?_
    rotate_left
    · (intro wS hSw; (try dsimp only at hSw); go_simp; (try with_reducible rfl))
    try simp only [Act.put, pz1, pz2, pz3]
    refine wpAnyH_take (i := 9) (oi := ⟨some 89, .move (.tmp 0), 29, "ref.go:96", #[], none⟩) (v := ?_) rfl (by kernel_rfl) (by kernel_rfl) (by kernel_rfl) (fun _ _ _ h => h) (Or.inl ⟨by rfl, ?_⟩) (by assumption) ?_
    rotate_left
    · (intro wS hSw; (try dsimp only at hSw); go_simp; (try with_reducible rfl))
    try simp only [Act.put, pz1, pz2, pz3]
    refine wpAnyH_take (i := 10) (oi := ⟨some 90, .nilCheck (.tmp 89), 0, "ref.go:96", #[⟨9, .data⟩], none⟩) (v := ?_) rfl (by kernel_rfl) (by kernel_rfl) (by kernel_rfl) (fun _ _ _ h => h) (Or.inl ⟨by rfl, ?_⟩) (by assumption) ?_
    rotate_left
    · (intro wS hSw; (try dsimp only at hSw); go_simp; (try with_reducible rfl))
    try simp only [Act.put, pz1, pz2, pz3]
    refine wpAnyH_take (i := 11) (oi := ⟨some 91, .fieldAddr 42 (.tmp 90) 2, 0, "ref.go:96", #[⟨10, .data⟩], none⟩) (v := ?_) rfl (by kernel_rfl) (by kernel_rfl) (by kernel_rfl) (fun _ _ _ h => h) (Or.inl ⟨by rfl, ?_⟩) (by assumption) ?_
    rotate_left
    · (intro wS hSw; (try dsimp only at hSw); go_simp; (try with_reducible rfl))
    try simp only [Act.put, pz1, pz2, pz3]
    refine wpAnyH_take (i := 12) (oi := ⟨some 92, .load 39 (.tmp 91), 39, "ref.go:96", #[⟨11, .data⟩], none⟩) (v := ?_) rfl (by kernel_rfl) (by kernel_rfl) (by kernel_rfl) (fun _ _ _ h => h) (Or.inl ⟨by rfl, ?_⟩) (by assumption) ?_
    rotate_left
    · (intro wS hSw; (try dsimp only at hSw); go_simp; (try with_reducible rfl))
    try simp only [Act.put, pz1, pz2, pz3]
    refine wpAnyH_take (i := 13) (oi := ⟨some 93, .move (.tmp 10), 3, "ref.go:96", #[], none⟩) (v := ?_) rfl (by kernel_rfl) (by kernel_rfl) (by kernel_rfl) (fun _ _ _ h => h) (Or.inl ⟨by rfl, ?_⟩) (by assumption) ?_
    rotate_left
    · (intro wS hSw; (try dsimp only at hSw); go_simp; (try with_reducible rfl))
    try simp only [Act.put, pz1, pz2, pz3]
    refine wpAnyH_take (i := 14) (oi := ⟨some 94, .indexAddr 39 (.tmp 92) (.tmp 93), 0, "ref.go:96", #[⟨12, .data⟩, ⟨13, .data⟩], none⟩) (v := ?_) rfl (by kernel_rfl) (by kernel_rfl) (by kernel_rfl) (fun _ _ _ h => h) (Or.inl ⟨by rfl, ?_⟩) (by assumption) ?_
    rotate_left
    · (intro wS hSw; (try dsimp only at hSw); go_simp; (try with_reducible rfl))
    try simp only [Act.put, pz1, pz2, pz3]
    refine wpAnyH_take (i := 16) (oi := ⟨some 96, .move (.tmp 9), 3, "ref.go:96", #[], none⟩) (v := ?_) rfl (by kernel_rfl) (by kernel_rfl) (by kernel_rfl) (fun _ _ _ h => h) (Or.inl ⟨by rfl, ?_⟩) (by assumption) ?_
    rotate_left
    · (intro wS hSw; (try dsimp only at hSw); go_simp; (try with_reducible rfl))
    try simp only [Act.put, pz1, pz2, pz3]
    refine wpAnyH_ready (rs := [8, 15]) (by kernel_rfl) (by simp) ?_
    refine (AllReadyH.cons (o := ⟨some 88, .call { callee := .builtin .append, args := #[.const (.slice none 0 0), .tmp 87], argTypes := #[48, 48] }, 48, "ref.go:96", #[⟨7, .data⟩], none⟩) rfl (fun K hK => ?_) (AllReadyH.cons (o := ⟨some 95, .load 48 (.tmp 94), 48, "ref.go:96", #[⟨14, .data⟩], none⟩) rfl (fun K hK => ?_) AllReadyH.nil))
    · obtain ⟨ti0, hi, hz0, hz1, hz2⟩ := info_parts infoByte
      refine step_app _ rfl (.const (.slice none 0 0)) (.tmp 87) _ rfl wN.heap.size 5 ti0 _ 1 1 Try.underlying48 hi hz0 hz1 hz2 rfl (by decide) (.slice none 0 0) 0 [] rfl (World.ownsRow_nil _ _ _ _) (some ⟨gA, 0, none⟩) Q RW ((bs.take Q).map byteV) rfl (HRA.keep (fun b o e j => rfl)) (oneB _) (by unfold maxLen; omega) (by omega) (Nat.le_refl _) ?_
      intro v8 w8 ho8 hg8 hv8
      clear hi hz0 hz1 hz2
      have hb8 : Below wN.heap.size wN w8 := undrew ((Below.refl _ _).grown hg8 (Nat.le_refl _) (fun j hj => by simp [Value.ownBlock] at hj))
      have y6a := cellOf hb8 y6
      have cNa := cellOf hb8 cN
      clear hg8 hv8
      refine hK.out _ _ ?_ (fun hNew => ?_)
      · (first | exact y6 | exact y6a | exact y6b | exact y6c | assumption)
      clear hK K hHeld
      have hHeld := hNew
      clear hNew
      try simp only [Act.put, pz1, pz2, pz3]
      refine wpAnyH_ready (rs := [15]) (by kernel_rfl) (by simp) ?_
      refine AllReadyH.cons (o := ⟨some 95, .load 48 (.tmp 94), 48, "ref.go:96", #[⟨14, .data⟩], none⟩) rfl (fun K hK => ?_) AllReadyH.nil
      go_simp
      refine hK.out _ _ ?_ (fun hNew => ?_)
      · (first | exact y6 | exact y6a | exact y6b | exact y6c | assumption)
      clear hK K hHeld
      have hHeld := hNew
      clear hNew
      try simp only [Act.put, pz1, pz2, pz3]
      refine wpAnyH_take (i := 17) (oi := ⟨some 97, .slice 48 (.tmp 95) (some (.tmp 96)) none none, 48, "ref.go:96", #[⟨15, .data⟩, ⟨16, .data⟩], none⟩) (v := ?_) rfl (by kernel_rfl) (by kernel_rfl) (by kernel_rfl) (fun _ _ _ h => h) (Or.inl ⟨by rfl, ?_⟩) (by assumption) ?_
      rotate_left
      · (intro wS hSw; (try dsimp only at hSw); go_simp; (try with_reducible rfl))
      try simp only [Act.put, pz1, pz2, pz3]
      refine wpAnyH_ready (rs := [18]) (by kernel_rfl) (by simp) ?_
      refine AllReadyH.cons (o := ⟨some 98, .call { callee := .builtin .append, args := #[.tmp 88, .tmp 97], argTypes := #[48, 48] }, 48, "ref.go:96", #[⟨8, .data⟩, ⟨17, .data⟩, ⟨8, .chain⟩], none⟩) rfl (fun K hK => ?_) AllReadyH.nil
      obtain ⟨ti0, hi, hz0, hz1, hz2⟩ := info_parts infoByte
      refine step_app _ rfl (.tmp 88) (.tmp 97) _ rfl wN.heap.size 5 ti0 _ 1 1 Try.underlying48 hi hz0 hz1 hz2 rfl (by decide) v8 _ _ rfl ho8 _ _ _ (((s.tick.pageOf N RW).drop Q).map byteV) rfl ((HRP.keep (fun b o e j => by cases e; exact hb8.cell HP.lt))) (oneB _) (by unfold maxLen; omega) (by omega) hb8.size ?_
      intro v18 w18 ho18 hg18 hv18
      clear hi hz0 hz1 hz2
      have hb18 : Below wN.heap.size wN w18 := hb8.trans (below_app (Nat.le_refl _) hb8.size ho8 hg18)
      have ho19 := own_lenR (by omega : 0 + Q + (RW - Q) = RW) ho18
      rw [List.nil_append] at ho19
      obtain ⟨g9, c9, rfl, hR9, hge9, hc91, hc92⟩ := own_rowC ho19 (by omega)
      have y6b := cellOf hb18 y6
      have cNb := cellOf hb18 cN
      have hC18 := RefW.below hC hb18
      have fB18 := hC18.freeB
      clear hg18 hv18 ho18 ho19 ho8
      refine hK.out _ _ ?_ (fun hNew => ?_)
      · (first | exact y6 | exact y6a | exact y6b | exact y6c | assumption)
      clear hK K hHeld
      have hHeld := hNew
      clear hNew
      try simp only [Act.put, pz1, pz2, pz3]
      refine wpAnyH_take (i := 19) (oi := ⟨some 99, .indexAddr 39 (.tmp 83) (.tmp 84), 0, "ref.go:96", #[⟨3, .data⟩, ⟨4, .data⟩, ⟨0, .phase⟩, ⟨1, .phase⟩, ⟨2, .phase⟩, ⟨3, .phase⟩, ⟨4, .phase⟩, ⟨5, .phase⟩, ⟨6, .phase⟩, ⟨7, .phase⟩, ⟨8, .phase⟩, ⟨9, .phase⟩, ⟨10, .phase⟩, ⟨11, .phase⟩, ⟨12, .phase⟩, ⟨13, .phase⟩, ⟨14, .phase⟩, ⟨15, .phase⟩, ⟨16, .phase⟩, ⟨17, .phase⟩, ⟨18, .phase⟩], none⟩) (v := ?_) rfl (by kernel_rfl) (by kernel_rfl) (by kernel_rfl) (fun _ _ _ h => h) (Or.inl ⟨by rfl, ?_⟩) (by assumption) ?_
      rotate_left
      · (intro wS hSw; (try dsimp only at hSw); go_simp; (try with_reducible rfl))
      try simp only [Act.put, pz1, pz2, pz3]
      refine wpAnyH_ready (rs := [20]) (by kernel_rfl) (by simp) ?_
      refine AllReadyH.cons (o := ⟨none, .store 48 (.tmp 99) (.tmp 98), 0, "ref.go:96", #[⟨19, .data⟩, ⟨18, .data⟩, ⟨18, .chain⟩, ⟨0, .phase⟩, ⟨1, .phase⟩, ⟨2, .phase⟩, ⟨3, .phase⟩, ⟨4, .phase⟩, ⟨5, .phase⟩, ⟨6, .phase⟩, ⟨7, .phase⟩, ⟨8, .phase⟩, ⟨9, .phase⟩, ⟨10, .phase⟩, ⟨11, .phase⟩, ⟨12, .phase⟩, ⟨13, .phase⟩, ⟨14, .phase⟩, ⟨15, .phase⟩, ⟨16, .phase⟩, ⟨17, .phase⟩, ⟨18, .phase⟩], none⟩) rfl (fun K hK => ?_) AllReadyH.nil
      go_simp
      have y6c : (w18.setCell ⟨gB, N, none⟩ (.slice (some ⟨g9, 0, none⟩) RW c9)).cell? ⟨m, 6, none⟩ = some (.slice (some ⟨gB, 0, none⟩) NP cB) := (World.cell?_of_block (w := w18) ((Tch.setm w18 gB N (.slice (some ⟨g9, 0, none⟩) RW c9)).far m hC18.lt (fun e => hC18.ne.1.1 e))).trans y6b
      refine hK.out _ _ ?_ (fun hNew => ?_)
      · (first | exact y6 | exact y6a | exact y6b | exact y6c | assumption)
      clear hK K hHeld
      have hHeld := hNew
      clear hNew
      try simp only [Act.put, pz1, pz2, pz3]
      refine wpAnyH_done (by kernel_rfl) ?_ _
      refine NoPanic.normal ?_
      go_wp2_with fail
      go_meet
      have hRR : RowT w18 g9 5 ((bs.take Q ++ (s.tick.pageOf N RW).drop (bs.take Q).length).map byteV) := by
        rw [List.map_append, List.length_take, HBL.out, Nat.min_eq_left HQ.out]
        exact hR9
      have hSP := RefW.setPage hC18 hRR (by have := hC.ge m (Or.inl rfl); have := hC.lt; omega) (fun e => by have := hC.lts g9 e; omega) hc91 hc92 HRW.out (by rw [List.length_take]; omega) HNAB.out HFIT.out
      have hTS := Tch.setm w18 gB N (.slice (some ⟨g9, 0, none⟩) RW c9)
      have hTF : Tch (rfB m gB gN gW gD) w (w18.setCell ⟨gB, N, none⟩ (.slice (some ⟨g9, 0, none⟩) RW c9)) := ((tch_r HT).then hb18).trans (hTS.mono (fun g e => Or.inr (Or.inl e)))
      have hGF := hTS.blk (G1.below hb18 G1.lt) (fun e => by have := hC0L.out gB (Or.inr (Or.inl rfl)); omega)
      have hFF : Fresh w (w18.setCell ⟨gB, N, none⟩ (.slice (some ⟨g9, 0, none⟩) RW c9)) gB := Fresh.put ((hb18.block gB (Nat.lt_of_lt_of_le (hC0L.out gB (Or.inr (Or.inl rfl))) HT.size)).trans (HT.far gB (hC0L.out gB (Or.inr (Or.inl rfl))) (fun e => hC.ne.1.1 e.symm))) hC18.blkB (Nat.le_trans HT.size hge9)
      exact ⟨rfl, hSP, hTF, hGF, hFF⟩
    · go_simp
      refine hK.out _ _ ?_ (fun hNew => ?_)
      · (first | exact y6 | exact y6a | exact y6b | exact y6c | assumption)
      clear hK K hHeld
      have hHeld := hNew
      clear hNew
      try simp only [Act.put, pz1, pz2, pz3]
      refine wpAnyH_take (i := 17) (oi := ⟨some 97, .slice 48 (.tmp 95) (some (.tmp 96)) none none, 48, "ref.go:96", #[⟨15, .data⟩, ⟨16, .data⟩], none⟩) (v := ?_) rfl (by kernel_rfl) (by kernel_rfl) (by kernel_rfl) (fun _ _ _ h => h) (Or.inl ⟨by rfl, ?_⟩) (by assumption) ?_
      rotate_left
      · (intro wS hSw; (try dsimp only at hSw); go_simp; (try with_reducible rfl))
      try simp only [Act.put, pz1, pz2, pz3]
      refine wpAnyH_ready (rs := [8]) (by kernel_rfl) (by simp) ?_
      refine AllReadyH.cons (o := ⟨some 88, .call { callee := .builtin .append, args := #[.const (.slice none 0 0), .tmp 87], argTypes := #[48, 48] }, 48, "ref.go:96", #[⟨7, .data⟩], none⟩) rfl (fun K hK => ?_) AllReadyH.nil
      obtain ⟨ti0, hi, hz0, hz1, hz2⟩ := info_parts infoByte
      refine step_app _ rfl (.const (.slice none 0 0)) (.tmp 87) _ rfl wN.heap.size 5 ti0 _ 1 1 Try.underlying48 hi hz0 hz1 hz2 rfl (by decide) (.slice none 0 0) 0 [] rfl (World.ownsRow_nil _ _ _ _) (some ⟨gA, 0, none⟩) Q RW ((bs.take Q).map byteV) rfl (HRA.keep (fun b o e j => rfl)) (oneB _) (by unfold maxLen; omega) (by omega) (Nat.le_refl _) ?_
      intro v8 w8 ho8 hg8 hv8
      clear hi hz0 hz1 hz2
      have hb8 : Below wN.heap.size wN w8 := undrew ((Below.refl _ _).grown hg8 (Nat.le_refl _) (fun j hj => by simp [Value.ownBlock] at hj))
      have y6a := cellOf hb8 y6
      have cNa := cellOf hb8 cN
      clear hg8 hv8
      refine hK.out _ _ ?_ (fun hNew => ?_)
      · (first | exact y6 | exact y6a | exact y6b | exact y6c | assumption)
      clear hK K hHeld
      have hHeld := hNew
      clear hNew
      try simp only [Act.put, pz1, pz2, pz3]
      refine wpAnyH_ready (rs := [18]) (by kernel_rfl) (by simp) ?_
      refine AllReadyH.cons (o := ⟨some 98, .call { callee := .builtin .append, args := #[.tmp 88, .tmp 97], argTypes := #[48, 48] }, 48, "ref.go:96", #[⟨8, .data⟩, ⟨17, .data⟩, ⟨8, .chain⟩], none⟩) rfl (fun K hK => ?_) AllReadyH.nil
      obtain ⟨ti0, hi, hz0, hz1, hz2⟩ := info_parts infoByte
      refine step_app _ rfl (.tmp 88) (.tmp 97) _ rfl wN.heap.size 5 ti0 _ 1 1 Try.underlying48 hi hz0 hz1 hz2 rfl (by decide) v8 _ _ rfl ho8 _ _ _ (((s.tick.pageOf N RW).drop Q).map byteV) rfl ((HRP.keep (fun b o e j => by cases e; exact hb8.cell HP.lt))) (oneB _) (by unfold maxLen; omega) (by omega) hb8.size ?_
      intro v18 w18 ho18 hg18 hv18
      clear hi hz0 hz1 hz2
      have hb18 : Below wN.heap.size wN w18 := hb8.trans (below_app (Nat.le_refl _) hb8.size ho8 hg18)
      have ho19 := own_lenR (by omega : 0 + Q + (RW - Q) = RW) ho18
      rw [List.nil_append] at ho19
      obtain ⟨g9, c9, rfl, hR9, hge9, hc91, hc92⟩ := own_rowC ho19 (by omega)
      have y6b := cellOf hb18 y6
      have cNb := cellOf hb18 cN
      have hC18 := RefW.below hC hb18
      have fB18 := hC18.freeB
      clear hg18 hv18 ho18 ho19 ho8
      refine hK.out _ _ ?_ (fun hNew => ?_)
      · (first | exact y6 | exact y6a | exact y6b | exact y6c | assumption)
      clear hK K hHeld
      have hHeld := hNew
      clear hNew
      try simp only [Act.put, pz1, pz2, pz3]
      refine wpAnyH_take (i := 19) (oi := ⟨some 99, .indexAddr 39 (.tmp 83) (.tmp 84), 0, "ref.go:96", #[⟨3, .data⟩, ⟨4, .data⟩, ⟨0, .phase⟩, ⟨1, .phase⟩, ⟨2, .phase⟩, ⟨3, .phase⟩, ⟨4, .phase⟩, ⟨5, .phase⟩, ⟨6, .phase⟩, ⟨7, .phase⟩, ⟨8, .phase⟩, ⟨9, .phase⟩, ⟨10, .phase⟩, ⟨11, .phase⟩, ⟨12, .phase⟩, ⟨13, .phase⟩, ⟨14, .phase⟩, ⟨15, .phase⟩, ⟨16, .phase⟩, ⟨17, .phase⟩, ⟨18, .phase⟩], none⟩) (v := ?_) rfl (by kernel_rfl) (by kernel_rfl) (by kernel_rfl) (fun _ _ _ h => h) (Or.inl ⟨by rfl, ?_⟩) (by assumption) ?_
      rotate_left
      · (intro wS hSw; (try dsimp only at hSw); go_simp; (try with_reducible rfl))
      try simp only [Act.put, pz1, pz2, pz3]
      refine wpAnyH_ready (rs := [20]) (by kernel_rfl) (by simp) ?_
      refine AllReadyH.cons (o := ⟨none, .store 48 (.tmp 99) (.tmp 98), 0, "ref.go:96", #[⟨19, .data⟩, ⟨18, .data⟩, ⟨18, .chain⟩, ⟨0, .phase⟩, ⟨1, .phase⟩, ⟨2, .phase⟩, ⟨3, .phase⟩, ⟨4, .phase⟩, ⟨5, .phase⟩, ⟨6, .phase⟩, ⟨7, .phase⟩, ⟨8, .phase⟩, ⟨9, .phase⟩, ⟨10, .phase⟩, ⟨11, .phase⟩, ⟨12, .phase⟩, ⟨13, .phase⟩, ⟨14, .phase⟩, ⟨15, .phase⟩, ⟨16, .phase⟩, ⟨17, .phase⟩, ⟨18, .phase⟩], none⟩) rfl (fun K hK => ?_) AllReadyH.nil
      go_simp
      have y6c : (w18.setCell ⟨gB, N, none⟩ (.slice (some ⟨g9, 0, none⟩) RW c9)).cell? ⟨m, 6, none⟩ = some (.slice (some ⟨gB, 0, none⟩) NP cB) := (World.cell?_of_block (w := w18) ((Tch.setm w18 gB N (.slice (some ⟨g9, 0, none⟩) RW c9)).far m hC18.lt (fun e => hC18.ne.1.1 e))).trans y6b
      refine hK.out _ _ ?_ (fun hNew => ?_)
      · (first | exact y6 | exact y6a | exact y6b | exact y6c | assumption)
      clear hK K hHeld
      have hHeld := hNew
      clear hNew
      try simp only [Act.put, pz1, pz2, pz3]
      refine wpAnyH_done (by kernel_rfl) ?_ _
      refine NoPanic.normal ?_
      go_wp2_with fail
      go_meet
      have hRR : RowT w18 g9 5 ((bs.take Q ++ (s.tick.pageOf N RW).drop (bs.take Q).length).map byteV) := by
        rw [List.map_append, List.length_take, HBL.out, Nat.min_eq_left HQ.out]
        exact hR9
      have hSP := RefW.setPage hC18 hRR (by have := hC.ge m (Or.inl rfl); have := hC.lt; omega) (fun e => by have := hC.lts g9 e; omega) hc91 hc92 HRW.out (by rw [List.length_take]; omega) HNAB.out HFIT.out
      have hTS := Tch.setm w18 gB N (.slice (some ⟨g9, 0, none⟩) RW c9)
      have hTF : Tch (rfB m gB gN gW gD) w (w18.setCell ⟨gB, N, none⟩ (.slice (some ⟨g9, 0, none⟩) RW c9)) := ((tch_r HT).then hb18).trans (hTS.mono (fun g e => Or.inr (Or.inl e)))
      have hGF := hTS.blk (G1.below hb18 G1.lt) (fun e => by have := hC0L.out gB (Or.inr (Or.inl rfl)); omega)
      have hFF : Fresh w (w18.setCell ⟨gB, N, none⟩ (.slice (some ⟨g9, 0, none⟩) RW c9)) gB := Fresh.put ((hb18.block gB (Nat.lt_of_lt_of_le (hC0L.out gB (Or.inr (Or.inl rfl))) HT.size)).trans (HT.far gB (hC0L.out gB (Or.inr (Or.inl rfl))) (fun e => hC.ne.1.1 e.symm))) hC18.blkB (Nat.le_trans HT.size hge9)
      exact ⟨rfl, hSP, hTF, hGF, hFF⟩
  case rest =>
  clear hC HT G1 HCC cD cX cN HP HRA HRP z0 z1 y0 y1 y2 y3 y4 y5 y6 y7 y9 y15
  obtain ⟨rfl, hC, HT, G1, HFr⟩ := hcut
  obtain ⟨w6, rfl⟩ : ∃ W : World, W = wc := ⟨_, rfl⟩
  obtain ⟨S0, hS0⟩ : ∃ S0 : ChS, S0 = { s.tick with X := putX s.tick.X (N * RW) (bs.take Q) } := ⟨_, rfl⟩
  rw [← hS0] at hC
  have hk00 : S0.k (k : Int) 0 = v0 := by rw [hS0]; exact HV0.out
  have hk02 : S0.k (k : Int) 2 = v2 := by rw [hS0]; exact HV2.out
  have HS0 := Lib.hid hS0
  clear hS0
  go_upto_region 17 with fail
  obtain ⟨NP0, NB0, RWc0, cB0, HCC⟩ := hC.cells
  have y7 := HCC.y7
  have cz := HCC.n0 k (by have := HCC.hNB.out; have := HK.out; omega)
  rw [hk00] at cz
  have fz := hC.freeN
  have z0 := G1.cell_ 0
  simp at z0
  have i0 : (0 : Int) ≤ (k : Int) := by omega
  have i1 : (k : Int) < (NB0 : Int) := by have := HCC.hNB.out; have := HK.out; omega
  have hwr : IntKind.i64.wrap (v0 + 1) = v0 + 1 := wrapS _ (by omega) (by omega)
  clear HCC
  go_still_tail 10, (by kernel_rfl)
  change wpList _ _ _ _ _ w6.drew
  go_wp2_with fail
  have hS := RefW.set0 hC HK.out (v0 + 1)
  have hSd := RefW.drew hS
  have hT1 := Tch.setm w6 gN k (.int .i64 (v0 + 1))
  have hTd : Tch (rfB m gB gN gW gD) w ((w6.setCell ⟨gN, k, none⟩ (.int .i64 (v0 + 1))).drew) := (HT.trans (hT1.mono (fun g e => Or.inr (Or.inr (Or.inl e))))).like
  have hG : Blk ((w6.setCell ⟨gN, k, none⟩ (.int .i64 (v0 + 1))).drew) w.heap.size 33 #[.int .i64 (k : Int), .int .i64 (l : Int)] := G1.far (p := ⟨gN, k, none⟩) (fun e => by have := hC0L.out w.heap.size (Or.inr (Or.inr (Or.inl e))); omega) _
  have hFd : Fresh w ((w6.setCell ⟨gN, k, none⟩ (.int .i64 (v0 + 1))).drew) gB := Fresh.then HFr (hT1.far gB (hC.lts gB (Or.inr (Or.inl rfl))) (fun e => hC.ne.2.1.1 e))
  clear HT hC G1 z0 y7 cz fz hS hwr hT1 i1 HFr
  generalize (w6.setCell ⟨gN, k, none⟩ (.int .i64 (v0 + 1))).drew = w7 at hSd hTd hG hFd ⊢
  have hC := hSd
  have HT := hTd
  have G1 := hG
  have HFr := hFd
  clear hSd hTd hG hFd
  go_wp2_with fail
  go_ret
  have hfin : ({ S0 with K := S0.K.set (k * 3 + 0) (v0 + 1) } : ChS) = s.progCut k N RW (bs.take (min RW s.cby.toNat)) := by
    rw [HQE.out, ← hk00, HS0.out]
    unfold ChS.progCut ChS.inc
    rw [tick_X]
  rw [← hfin]
  exact ⟨rfl, hC, HT, HFr⟩




end Go.Proofs.Ytplniojeaodjiaa
namespace Go.Proofs.Ytplniojeaodjiaa
open Go.ChangeShapes Go.WideShapes Go.ChangeAt Go.RowKit
set_option linter.unusedSimpArgs false
set_option linter.unusedVariables false

theorem wrong_cases {a : Int} {fs : List Flt} {s : ChS} {k l : Nat} (hk : (k : Int) < a) : (failsB fs (k : Int) (s.k (k : Int) 2) = true ∧ s.wrong a fs k l = 10) ∨ (failsB fs (k : Int) (s.k (k : Int) 2) = false ∧ (l : Int) ≠ s.k (k : Int) 0 ∧ s.wrong a fs k l = 11) ∨ (failsB fs (k : Int) (s.k (k : Int) 2) = false ∧ (l : Int) = s.k (k : Int) 0 ∧ s.wrong a fs k l = 0) := by
  unfold ChS.wrong
  rw [failed_in hk]
  cases failsB fs (k : Int) (s.k (k : Int) 2)
  · by_cases h : (l : Int) = s.k (k : Int) 0
    · exact Or.inr (Or.inr ⟨rfl, h, by simp [h]⟩)
    · exact Or.inr (Or.inl ⟨rfl, h, by simp [h]⟩)
  · exact Or.inl ⟨rfl, by simp⟩
theorem may_len {a b c d e : Int} {fs : List Flt} (h : planMay a b c d e fs = true) : fs.length ≤ 8 := by
  by_cases hl : 8 < fs.length
  · rw [planMay_long hl] at h
    cases h
  · omega
theorem rprog_all (m gB gN gW gD L : Nat) (Af : Option Addr) (nf cf : Nat) (a b c d e : Int) (fs : List Flt) (x y : Int) (bs : List Nat) (gA : Nat) (n : Int) (w : World) (s : ChS) (hC : RefW w m gB gN gW gD L Af nf cf a b c d e fs s) (hs : Fine s n) (hn : n ≤ 900000000) (hwt : s.Wt) (hR : RowT w gA 5 (bs.map byteV)) (hgn : ¬ rfB m gB gN gW gD gA) :
    Calls Try.prog 44 #[.pointer (some ⟨m, 0, none⟩), .agg #[.int .i64 x, .int .i64 y], .slice (some ⟨gA, 0, none⟩) bs.length bs.length] w fun e' w' => e' = .returned (.int .i64 (s.progZ a b c fs x y bs.length)) ∧ RefW w' m gB gN gW gD L Af nf cf a b c d e fs (s.progS a b c fs x y bs) ∧ Tch (rfB m gB gN gW gD) w w' ∧ Fresh w w' gB := by
  have h8 := may_len hC.may
  cases ho : s.on
  · have e1 : s.progZ a b c fs x y bs.length = 9 := by simp [ChS.progZ, ho]
    have e2 : s.progS a b c fs x y bs = s := by simp [ChS.progS, ho]
    rw [e1, e2]
    refine (rprog_off m gB gN gW gD L Af nf cf a b c d e fs x y _ _ _ w s hC ho).mono ?_
    rintro e' w' ⟨rfl, hb⟩
    exact ⟨rfl, hC.below hb, Tch.of_below hb, Fresh.of (hb.block gB (hC.lts gB (Or.inr (Or.inl rfl))))⟩
  cases ht : thereB a b x y
  · have e1 : s.progZ a b c fs x y bs.length = 2 := by simp [ChS.progZ, ho, ht]
    have e2 : s.progS a b c fs x y bs = s := by simp [ChS.progS, ht]
    rw [e1, e2]
    refine (rprog_arg m gB gN gW gD L Af nf cf a b c d e fs x y _ _ _ w s hC ho (Lib.hid ht)).mono ?_
    rintro e' w' ⟨rfl, hb⟩
    exact ⟨rfl, hC.below hb, Tch.of_below hb, Fresh.of (hb.block gB (hC.lts gB (Or.inr (Or.inl rfl))))⟩
  obtain ⟨k, l, hx, hy, hk, hl⟩ := there_nat ht
  obtain ⟨N, RW, hnum, hrw, hfit, r1, r2, hN2, hNN, hNab⟩ := rpage_ok hC hk hl
  by_cases hL : bs.length = RW
  · subst hL
    have hd : decide ((bs.length : Int) = c + 16) = true := decide_eq_true hrw
    have hN' : (x * b + y).toNat = N := by rw [hx, hy, ← hNN]; omega
    have hk' : x.toNat = k := by omega
    have hl' : y.toNat = l := by omega
    have e2 : s.progS a b c fs x y bs = (if s.wrong a fs k l = 0 then (if s.cutB then s.progCut k N bs.length (bs.take (min bs.length s.cby.toNat)) else s.prog k N bs.length bs) else s.tick) := by
      unfold ChS.progS
      rw [ho, ht, hd, hN', hk', hl']
      rfl
    have e1 : s.progZ a b c fs x y bs.length = (if s.cutB then 9 else s.wrong a fs k l) := by
      unfold ChS.progZ
      rw [ho, ht, hd, hk', hl']
      rfl
    rw [e1, e2]
    subst hx hy
    clear e1 e2 hk' hl' hN'
    rcases wrong_cases (fs := fs) (s := s) (l := l) hk with ⟨hf, hw⟩ | ⟨hf, hne, hw⟩ | ⟨hf, hne, hw⟩
    · rw [if_neg (show ¬ s.wrong a fs k l = 0 by rw [hw]; decide), hw]
      cases hc : s.cutB
      · refine (rprog_fail m gB gN gW gD L Af nf cf a b c d e fs k l n (some ⟨gA, 0, none⟩) bs.length bs.length w s hC hs.bnd hn hwt ho hk hl (Lib.hid hrw) h8 (Lib.hid hc) hf).mono ?_
        rintro e' w' ⟨rfl, hC', hT⟩
        exact ⟨by simp, hC', tch_r hT, Fresh.of (hT.far gB (hC.lts gB (Or.inr (Or.inl rfl))) (fun e => hC.ne.1.1 e.symm))⟩
      · refine (rprog_failcut m gB gN gW gD L Af nf cf a b c d e fs k l n (some ⟨gA, 0, none⟩) bs.length bs.length w s hC hs.bnd hn hwt ho hk hl (Lib.hid hrw) h8 (Lib.hid hc) hf).mono ?_
        rintro e' w' ⟨rfl, hC', hT⟩
        exact ⟨by simp, hC', tch_r hT, Fresh.of (hT.far gB (hC.lts gB (Or.inr (Or.inl rfl))) (fun e => hC.ne.1.1 e.symm))⟩
    · rw [if_neg (show ¬ s.wrong a fs k l = 0 by rw [hw]; decide), hw]
      cases hc : s.cutB
      · refine (rprog_ord m gB gN gW gD L Af nf cf a b c d e fs k l n (some ⟨gA, 0, none⟩) bs.length bs.length w s hC hs.bnd hn hwt ho hk hl (Lib.hid hrw) h8 (Lib.hid hc) hf hne).mono ?_
        rintro e' w' ⟨rfl, hC', hT⟩
        exact ⟨by simp, hC', tch_r hT, Fresh.of (hT.far gB (hC.lts gB (Or.inr (Or.inl rfl))) (fun e => hC.ne.1.1 e.symm))⟩
      · refine (rprog_ordcut m gB gN gW gD L Af nf cf a b c d e fs k l n (some ⟨gA, 0, none⟩) bs.length bs.length w s hC hs.bnd hn hwt ho hk hl (Lib.hid hrw) h8 (Lib.hid hc) hf hne).mono ?_
        rintro e' w' ⟨rfl, hC', hT⟩
        exact ⟨by simp, hC', tch_r hT, Fresh.of (hT.far gB (hC.lts gB (Or.inr (Or.inl rfl))) (fun e => hC.ne.1.1 e.symm))⟩
    · rw [if_pos hw, hw]
      cases hc : s.cutB
      · have := rprog_ok m gB gN gW gD L Af nf cf a b c d e fs k l N n gA _ bs w s hC hs.bnd hn hwt ho hk hl (Lib.hid hrw) h8 (Lib.hid hc) hf hne (Lib.hid hnum) hfit r1 r2 hN2 hNab hR hgn rfl
        simpa using this
      · have := rprog_cut m gB gN gW gD L Af nf cf a b c d e fs k l N n gA _ bs w s hC hs.bnd hn hwt ho hk hl (Lib.hid hrw) h8 (Lib.hid hc) hf hne (Lib.hid hnum) hfit r1 r2 hN2 hNab hR hgn rfl hs.cby
        simpa using this
  · have hd : decide ((bs.length : Int) = c + 16) = false := decide_eq_false (by omega)
    have e1 : s.progZ a b c fs x y bs.length = 2 := by unfold ChS.progZ; rw [ho, ht, hd]; rfl
    have e2 : s.progS a b c fs x y bs = s := by unfold ChS.progS; rw [ho, ht, hd]; rfl
    rw [e1, e2]
    refine (rprog_len m gB gN gW gD L Af nf cf a b c d e fs x y _ _ _ RW w s hC ho (Lib.hid ht) (Lib.hid hrw) hL).mono ?_
    rintro e' w' ⟨rfl, hb⟩
    exact ⟨rfl, hC.below hb, Tch.of_below hb, Fresh.of (hb.block gB (hC.lts gB (Or.inr (Or.inl rfl))))⟩
theorem rerase_off (m gB gN gW gD L : Nat) (Af : Option Addr) (nf cf : Nat) (a b c d e : Int) (fs : List Flt) (x : Int) (w : World) (s : ChS) (hC : RefW w m gB gN gW gD L Af nf cf a b c d e fs s) (ho : s.on = false) : Calls Try.prog 46 #[.pointer (some ⟨m, 0, none⟩), .int .i64 x] w fun e' w' => e' = .returned (.int .i64 9) ∧ w = w' := by
  obtain ⟨NP, NB, RWc, cB, HCC⟩ := hC.cells
  have y0 := HCC.y0; have y12 := HCC.y12
  rw [show (!s.on) = true by rw [ho]; rfl] at y12
  clear ho
  clear hC HCC
  go_enter Try.func46, Try.ntmps46
  go_wp2_with fail
  go_ret
  exact ⟨rfl, rfl⟩
theorem rerase_arg (m gB gN gW gD L : Nat) (Af : Option Addr) (nf cf : Nat) (a b c d e : Int) (fs : List Flt) (x : Int) (w : World) (s : ChS) (hC : RefW w m gB gN gW gD L Af nf cf a b c d e fs s) (ho : s.on = true) (ht : Hid (inB a x = false)) : Calls Try.prog 46 #[.pointer (some ⟨m, 0, none⟩), .int .i64 x] w fun e' w' => e' = .returned (.int .i64 2) ∧ w = w' := by
  obtain ⟨NP, NB, RWc, cB, HCC⟩ := hC.cells
  have y0 := HCC.y0; have y12 := HCC.y12
  rw [show (!s.on) = false by rw [ho]; rfl] at y12
  clear ho
  clear hC HCC
  by_cases h1 : x < 0
  · skip
    go_enter Try.func46, Try.ntmps46
    go_wp2_with fail
    go_ret
    exact ⟨rfl, rfl⟩
  · have h2 : a ≤ x := by
      have := ht.out
      unfold inB at this
      rw [decide_eq_true (by omega : (0 : Int) ≤ x), Bool.true_and] at this
      have := of_decide_eq_false this
      omega
    have h3 : ¬ x < a := by omega
    go_enter Try.func46, Try.ntmps46
    go_wp2_with fail
    go_ret
    exact ⟨rfl, rfl⟩
set_option maxHeartbeats 4000000 in
theorem rerase_fail (m gB gN gW gD L : Nat) (Af : Option Addr) (nf cf : Nat) (a b c d e : Int) (fs : List Flt) (k : Nat) (n : Int) (w : World) (s : ChS) (hC : RefW w m gB gN gW gD L Af nf cf a b c d e fs s) (hbn : s.Bnd n) (hn : n ≤ 900000000) (hwt : s.Wt) (ho : s.on = true) (hk : (k : Int) < a) (hfl8 : fs.length ≤ 8) (hcu : Hid (s.cutB = false)) (hfb : failsB fs (k : Int) (s.k (k : Int) 2) = true) : Calls Try.prog 46 #[.pointer (some ⟨m, 0, none⟩), .int .i64 (k : Int)] w fun e' w' => e' = .returned (.int .i64 10) ∧ RefW w' m gB gN gW gD L Af nf cf a b c d e fs s.tick ∧ Tch (rfB m gB gN gW gD) w w' := by
  have HK := Lib.hid hk
  have tk : ∀ j : Nat, s.tick.k (k : Int) j = s.k (k : Int) j := fun j => by unfold ChS.k; rw [tick_K]
  obtain ⟨v2, hv2⟩ : ∃ v, s.tick.k (k : Int) 2 = v := ⟨_, rfl⟩
  have HV2 := Lib.hid hv2
  have HFL : Hid (failsB fs (k : Int) v2 = true) := Lib.hid (by rw [← hv2, tk]; exact hfb)
  have k0 : (0 : Int) ≤ (k : Int) := by omega
  have k1 : ¬ (k : Int) < 0 := by omega
  have k2 : ¬ a ≤ (k : Int) := by omega
  obtain ⟨NP, NB, RWc, cB, HCC⟩ := hC.cells
  have y0 := HCC.y0; have y12 := HCC.y12
  rw [show (!s.on) = false by rw [ho]; rfl] at y12
  clear ho
  clear hv2 tk
  go_enter Try.func46, Try.ntmps46
  go_upto_region 6 with (go_at_call 68; ((with_reducible refine (rturn_b _ _ _ _ _ _ _ _ _ _ _ _ _ _ _ _ _ _ _ hC hbn (by omega) hwt hcu).mono ?_); rintro e' wN ⟨rfl, hC2, hT⟩; have HT := Tch.like0 hT; clear hC HCC y0 y12; have hC := hC2; clear hC2))
  obtain ⟨NP, NB, RWc, cB, HCC⟩ := hC.cells
  have y0 := HCC.y0; have y1 := HCC.y1; have y2 := HCC.y2; have y3 := HCC.y3; have y4 := HCC.y4; have y5 := HCC.y5; have y6 := HCC.y6; have y9 := HCC.y9; have y12 := HCC.y12; have y16 := HCC.y16
  have i0 : (0 : Int) ≤ (k : Int) := by omega
  have i1 : (k : Int) < (NB : Int) := by have := HCC.hNB.out; have := HK.out; omega
  have cD := HCC.n2 k (by omega)
  rw [HV2.out] at cD
  refine wp_region_noPanic ?_
  refine wp_region_held_drew (S := (fun w' => w'.cell? ⟨m, 5, none⟩ = some (.slice Af nf cf) ∧ w'.cell? ⟨m, 9, none⟩ = some (.slice (some ⟨gD, 0, none⟩) NB NB) ∧ w'.cell? ⟨gD, k, none⟩ = some (.int .i64 v2))) (by kernel_rfl) ?_ (fun hHeld => ?_)
  · (first | exact ⟨y5, y9, cD⟩ | assumption)
  refine wpAnyH_take (i := 0) (oi := ⟨some 25, .move (.tmp 0), 29, "ref.go:117", #[], none⟩) (v := ?_) rfl (by kernel_rfl) (by kernel_rfl) (by kernel_rfl) (fun _ _ _ h => h) (Or.inl ⟨by rfl, ?_⟩) (by assumption) ?_
  rotate_left
  · (intro wS hSw; (try dsimp only at hSw); go_simp; (try with_reducible rfl))
  try simp only [Act.put, pz1, pz2, pz3]
  refine wpAnyH_take (i := 1) (oi := ⟨some 26, .nilCheck (.tmp 25), 0, "ref.go:117", #[⟨0, .data⟩], none⟩) (v := ?_) rfl (by kernel_rfl) (by kernel_rfl) (by kernel_rfl) (fun _ _ _ h => h) (Or.inl ⟨by rfl, ?_⟩) (by assumption) ?_
  rotate_left
  · (intro wS hSw; (try dsimp only at hSw); go_simp; (try with_reducible rfl))
  try simp only [Act.put, pz1, pz2, pz3]
  refine wpAnyH_take (i := 2) (oi := ⟨some 27, .fieldAddr 42 (.tmp 26) 1, 0, "ref.go:117", #[⟨1, .data⟩], none⟩) (v := ?_) rfl (by kernel_rfl) (by kernel_rfl) (by kernel_rfl) (fun _ _ _ h => h) (Or.inl ⟨by rfl, ?_⟩) (by assumption) ?_
  rotate_left
  · (intro wS hSw; (try dsimp only at hSw); go_simp; (try with_reducible rfl))
  try simp only [Act.put, pz1, pz2, pz3]
  refine wpAnyH_take (i := 3) (oi := ⟨some 28, .load 24 (.tmp 27), 24, "ref.go:117", #[⟨2, .data⟩], none⟩) (v := ?_) rfl (by kernel_rfl) (by kernel_rfl) (by kernel_rfl) (fun _ _ _ h => h) (Or.inl ⟨by rfl, ?_⟩) (by assumption) ?_
  rotate_left
  · (intro wS hSw; (try dsimp only at hSw); go_simp; (try with_reducible rfl))
  try simp only [Act.put, pz1, pz2, pz3]
  refine wpAnyH_take (i := 4) (oi := ⟨some 29, .move (.tmp 1), 3, "ref.go:117", #[], none⟩) (v := ?_) rfl (by kernel_rfl) (by kernel_rfl) (by kernel_rfl) (fun _ _ _ h => h) (Or.inl ⟨by rfl, ?_⟩) (by assumption) ?_
  rotate_left
  · (intro wS hSw; (try dsimp only at hSw); go_simp; (try with_reducible rfl))
  try simp only [Act.put, pz1, pz2, pz3]
  refine wpAnyH_take (i := 5) (oi := ⟨some 30, .move (.tmp 0), 29, "ref.go:117", #[], none⟩) (v := ?_) rfl (by kernel_rfl) (by kernel_rfl) (by kernel_rfl) (fun _ _ _ h => h) (Or.inl ⟨by rfl, ?_⟩) (by assumption) ?_
  rotate_left
  · (intro wS hSw; (try dsimp only at hSw); go_simp; (try with_reducible rfl))
  try simp only [Act.put, pz1, pz2, pz3]
  refine wpAnyH_take (i := 6) (oi := ⟨some 31, .nilCheck (.tmp 30), 0, "ref.go:117", #[⟨5, .data⟩], none⟩) (v := ?_) rfl (by kernel_rfl) (by kernel_rfl) (by kernel_rfl) (fun _ _ _ h => h) (Or.inl ⟨by rfl, ?_⟩) (by assumption) ?_
  rotate_left
  · (intro wS hSw; (try dsimp only at hSw); go_simp; (try with_reducible rfl))
  try simp only [Act.put, pz1, pz2, pz3]
  refine wpAnyH_take (i := 7) (oi := ⟨some 32, .fieldAddr 42 (.tmp 31) 5, 0, "ref.go:117", #[⟨6, .data⟩], none⟩) (v := ?_) rfl (by kernel_rfl) (by kernel_rfl) (by kernel_rfl) (fun _ _ _ h => h) (Or.inl ⟨by rfl, ?_⟩) (by assumption) ?_
  rotate_left
  · (intro wS hSw; (try dsimp only at hSw); go_simp; (try with_reducible rfl))
  try simp only [Act.put, pz1, pz2, pz3]
  refine wpAnyH_take (i := 8) (oi := ⟨some 33, .load 40 (.tmp 32), 40, "ref.go:117", #[⟨7, .data⟩], none⟩) (v := ?_) rfl (by kernel_rfl) (by kernel_rfl) (by kernel_rfl) (fun _ _ _ h => h) (Or.inl ⟨by rfl, ?_⟩) (by assumption) ?_
  rotate_left
  · (intro wS hSw; (try dsimp only at hSw); go_simp; (try with_reducible rfl))
  try simp only [Act.put, pz1, pz2, pz3]
  refine wpAnyH_take (i := 9) (oi := ⟨some 34, .move (.tmp 1), 3, "ref.go:117", #[], none⟩) (v := ?_) rfl (by kernel_rfl) (by kernel_rfl) (by kernel_rfl) (fun _ _ _ h => h) (Or.inl ⟨by rfl, ?_⟩) (by assumption) ?_
  rotate_left
  · (intro wS hSw; (try dsimp only at hSw); go_simp; (try with_reducible rfl))
  try simp only [Act.put, pz1, pz2, pz3]
  refine wpAnyH_take (i := 10) (oi := ⟨some 35, .indexAddr 40 (.tmp 33) (.tmp 34), 0, "ref.go:117", #[⟨8, .data⟩, ⟨9, .data⟩], none⟩) (v := ?_) rfl (by kernel_rfl) (by kernel_rfl) (by kernel_rfl) (fun _ _ _ h => h) (Or.inl ⟨by rfl, ?_⟩) (by assumption) ?_
  rotate_left
  · (intro wS hSw; (try dsimp only at hSw); go_simp; (try with_reducible rfl))
  try simp only [Act.put, pz1, pz2, pz3]
  refine wpAnyH_take (i := 11) (oi := ⟨some 36, .load 3 (.tmp 35), 3, "ref.go:117", #[⟨10, .data⟩], none⟩) (v := ?_) rfl (by kernel_rfl) (by kernel_rfl) (by kernel_rfl) (fun _ _ _ h => h) (Or.inl ⟨by rfl, ?_⟩) (by assumption) ?_
  rotate_left
  · (intro wS hSw; (try dsimp only at hSw); go_simp; (try with_reducible rfl))
  try simp only [Act.put, pz1, pz2, pz3]
  refine wpAnyH_ready (rs := [12]) (by kernel_rfl) (by simp) ?_
  refine AllReadyH.cons (o := ⟨some 37, .call { callee := .value (.func 70), args := #[.tmp 28, .tmp 29, .tmp 36], argTypes := #[24, 3, 3] }, 4, "ref.go:117", #[⟨3, .data⟩, ⟨4, .data⟩, ⟨11, .data⟩], none⟩) rfl (fun K hK => ?_) AllReadyH.nil
  go_simp
  (go_at_call 70; ((with_reducible refine (rpfails_b fs Af nf cf _ _ _ _ (by first | exact hC.flt.sl | exact (RefW.drew hC).flt.sl) hC.nf (by omega) HFL).mono ?_); rintro e' wN ⟨rfl, hb⟩; (try have hb := undrew hb); replace hC := RefW.likeB hC hb; replace HT := Tch.thenB HT hb; replace HCC := RefC.below HCC hb; replace cD := cellOf hb cD; clear y0 y1 y2 y3 y4 y5 y6 y9 y12 y16; have y0 := HCC.y0; have y1 := HCC.y1; have y2 := HCC.y2; have y3 := HCC.y3; have y4 := HCC.y4; have y5 := HCC.y5; have y6 := HCC.y6; have y9 := HCC.y9; have y12 := HCC.y12; have y16 := HCC.y16))
  go_wp2_with fail
  refine hK.out _ _ ?_ (fun hNew => ?_)
  · (first | exact ⟨y5, y9, cD⟩ | assumption)
  clear hK K hHeld
  have hHeld := hNew
  clear hNew
  try simp only [Act.put, pz1, pz2, pz3]
  refine wpAnyH_done (by kernel_rfl) ?_ _
  refine NoPanic.normal ?_
  go_wp2_with fail
  go_ret
  exact ⟨rfl, (by first | exact hC | exact hC.like), tch_r (by first | exact HT | exact HT.like)⟩
set_option maxHeartbeats 4000000 in
theorem rerase_failcut (m gB gN gW gD L : Nat) (Af : Option Addr) (nf cf : Nat) (a b c d e : Int) (fs : List Flt) (k : Nat) (n : Int) (w : World) (s : ChS) (hC : RefW w m gB gN gW gD L Af nf cf a b c d e fs s) (hbn : s.Bnd n) (hn : n ≤ 900000000) (hwt : s.Wt) (ho : s.on = true) (hk : (k : Int) < a) (hfl8 : fs.length ≤ 8) (hcu : Hid (s.cutB = true)) (hfb : failsB fs (k : Int) (s.k (k : Int) 2) = true) : Calls Try.prog 46 #[.pointer (some ⟨m, 0, none⟩), .int .i64 (k : Int)] w fun e' w' => e' = .returned (.int .i64 9) ∧ RefW w' m gB gN gW gD L Af nf cf a b c d e fs s.tick ∧ Tch (rfB m gB gN gW gD) w w' := by
  have HK := Lib.hid hk
  have tk : ∀ j : Nat, s.tick.k (k : Int) j = s.k (k : Int) j := fun j => by unfold ChS.k; rw [tick_K]
  obtain ⟨v2, hv2⟩ : ∃ v, s.tick.k (k : Int) 2 = v := ⟨_, rfl⟩
  have HV2 := Lib.hid hv2
  have HFL : Hid (failsB fs (k : Int) v2 = true) := Lib.hid (by rw [← hv2, tk]; exact hfb)
  have k0 : (0 : Int) ≤ (k : Int) := by omega
  have k1 : ¬ (k : Int) < 0 := by omega
  have k2 : ¬ a ≤ (k : Int) := by omega
  obtain ⟨NP, NB, RWc, cB, HCC⟩ := hC.cells
  have y0 := HCC.y0; have y12 := HCC.y12
  rw [show (!s.on) = false by rw [ho]; rfl] at y12
  clear ho
  clear hv2 tk
  go_enter Try.func46, Try.ntmps46
  go_upto_region 6 with (go_at_call 68; ((with_reducible refine (rturn_b _ _ _ _ _ _ _ _ _ _ _ _ _ _ _ _ _ _ _ hC hbn (by omega) hwt hcu).mono ?_); rintro e' wN ⟨rfl, hC2, hT⟩; have HT := Tch.like0 hT; clear hC HCC y0 y12; have hC := hC2; clear hC2))
  obtain ⟨NP, NB, RWc, cB, HCC⟩ := hC.cells
  have y0 := HCC.y0; have y1 := HCC.y1; have y2 := HCC.y2; have y3 := HCC.y3; have y4 := HCC.y4; have y5 := HCC.y5; have y6 := HCC.y6; have y9 := HCC.y9; have y12 := HCC.y12; have y16 := HCC.y16
  have i0 : (0 : Int) ≤ (k : Int) := by omega
  have i1 : (k : Int) < (NB : Int) := by have := HCC.hNB.out; have := HK.out; omega
  have cD := HCC.n2 k (by omega)
  rw [HV2.out] at cD
  refine wp_region_noPanic ?_
  refine wp_region_held_drew (S := (fun w' => w'.cell? ⟨m, 5, none⟩ = some (.slice Af nf cf) ∧ w'.cell? ⟨m, 9, none⟩ = some (.slice (some ⟨gD, 0, none⟩) NB NB) ∧ w'.cell? ⟨gD, k, none⟩ = some (.int .i64 v2))) (by kernel_rfl) ?_ (fun hHeld => ?_)
  · (first | exact ⟨y5, y9, cD⟩ | assumption)
  refine wpAnyH_take (i := 0) (oi := ⟨some 25, .move (.tmp 0), 29, "ref.go:117", #[], none⟩) (v := ?_) rfl (by kernel_rfl) (by kernel_rfl) (by kernel_rfl) (fun _ _ _ h => h) (Or.inl ⟨by rfl, ?_⟩) (by assumption) ?_
  rotate_left
  · (intro wS hSw; (try dsimp only at hSw); go_simp; (try with_reducible rfl))
  try simp only [Act.put, pz1, pz2, pz3]
  refine wpAnyH_take (i := 1) (oi := ⟨some 26, .nilCheck (.tmp 25), 0, "ref.go:117", #[⟨0, .data⟩], none⟩) (v := ?_) rfl (by kernel_rfl) (by kernel_rfl) (by kernel_rfl) (fun _ _ _ h => h) (Or.inl ⟨by rfl, ?_⟩) (by assumption) ?_
  rotate_left
  · (intro wS hSw; (try dsimp only at hSw); go_simp; (try with_reducible rfl))
  try simp only [Act.put, pz1, pz2, pz3]
  refine wpAnyH_take (i := 2) (oi := ⟨some 27, .fieldAddr 42 (.tmp 26) 1, 0, "ref.go:117", #[⟨1, .data⟩], none⟩) (v := ?_) rfl (by kernel_rfl) (by kernel_rfl) (by kernel_rfl) (fun _ _ _ h => h) (Or.inl ⟨by rfl, ?_⟩) (by assumption) ?_
  rotate_left
  · (intro wS hSw; (try dsimp only at hSw); go_simp; (try with_reducible rfl))
  try simp only [Act.put, pz1, pz2, pz3]
  refine wpAnyH_take (i := 3) (oi := ⟨some 28, .load 24 (.tmp 27), 24, "ref.go:117", #[⟨2, .data⟩], none⟩) (v := ?_) rfl (by kernel_rfl) (by kernel_rfl) (by kernel_rfl) (fun _ _ _ h => h) (Or.inl ⟨by rfl, ?_⟩) (by assumption) ?_
  rotate_left
  · (intro wS hSw; (try dsimp only at hSw); go_simp; (try with_reducible rfl))
  try simp only [Act.put, pz1, pz2, pz3]
  refine wpAnyH_take (i := 4) (oi := ⟨some 29, .move (.tmp 1), 3, "ref.go:117", #[], none⟩) (v := ?_) rfl (by kernel_rfl) (by kernel_rfl) (by kernel_rfl) (fun _ _ _ h => h) (Or.inl ⟨by rfl, ?_⟩) (by assumption) ?_
  rotate_left
  · (intro wS hSw; (try dsimp only at hSw); go_simp; (try with_reducible rfl))
  try simp only [Act.put, pz1, pz2, pz3]
  refine wpAnyH_take (i := 5) (oi := ⟨some 30, .move (.tmp 0), 29, "ref.go:117", #[], none⟩) (v := ?_) rfl (by kernel_rfl) (by kernel_rfl) (by kernel_rfl) (fun _ _ _ h => h) (Or.inl ⟨by rfl, ?_⟩) (by assumption) ?_
  rotate_left
  · (intro wS hSw; (try dsimp only at hSw); go_simp; (try with_reducible rfl))
  try simp only [Act.put, pz1, pz2, pz3]
  refine wpAnyH_take (i := 6) (oi := ⟨some 31, .nilCheck (.tmp 30), 0, "ref.go:117", #[⟨5, .data⟩], none⟩) (v := ?_) rfl (by kernel_rfl) (by kernel_rfl) (by kernel_rfl) (fun _ _ _ h => h) (Or.inl ⟨by rfl, ?_⟩) (by assumption) ?_
  rotate_left
  · (intro wS hSw; (try dsimp only at hSw); go_simp; (try with_reducible rfl))
  try simp only [Act.put, pz1, pz2, pz3]
  refine wpAnyH_take (i := 7) (oi := ⟨some 32, .fieldAddr 42 (.tmp 31) 5, 0, "ref.go:117", #[⟨6, .data⟩], none⟩) (v := ?_) rfl (by kernel_rfl) (by kernel_rfl) (by kernel_rfl) (fun _ _ _ h => h) (Or.inl ⟨by rfl, ?_⟩) (by assumption) ?_
  rotate_left
  · (intro wS hSw; (try dsimp only at hSw); go_simp; (try with_reducible rfl))
  try simp only [Act.put, pz1, pz2, pz3]
  refine wpAnyH_take (i := 8) (oi := ⟨some 33, .load 40 (.tmp 32), 40, "ref.go:117", #[⟨7, .data⟩], none⟩) (v := ?_) rfl (by kernel_rfl) (by kernel_rfl) (by kernel_rfl) (fun _ _ _ h => h) (Or.inl ⟨by rfl, ?_⟩) (by assumption) ?_
  rotate_left
  · (intro wS hSw; (try dsimp only at hSw); go_simp; (try with_reducible rfl))
  try simp only [Act.put, pz1, pz2, pz3]
  refine wpAnyH_take (i := 9) (oi := ⟨some 34, .move (.tmp 1), 3, "ref.go:117", #[], none⟩) (v := ?_) rfl (by kernel_rfl) (by kernel_rfl) (by kernel_rfl) (fun _ _ _ h => h) (Or.inl ⟨by rfl, ?_⟩) (by assumption) ?_
  rotate_left
  · (intro wS hSw; (try dsimp only at hSw); go_simp; (try with_reducible rfl))
  try simp only [Act.put, pz1, pz2, pz3]
  refine wpAnyH_take (i := 10) (oi := ⟨some 35, .indexAddr 40 (.tmp 33) (.tmp 34), 0, "ref.go:117", #[⟨8, .data⟩, ⟨9, .data⟩], none⟩) (v := ?_) rfl (by kernel_rfl) (by kernel_rfl) (by kernel_rfl) (fun _ _ _ h => h) (Or.inl ⟨by rfl, ?_⟩) (by assumption) ?_
  rotate_left
  · (intro wS hSw; (try dsimp only at hSw); go_simp; (try with_reducible rfl))
  try simp only [Act.put, pz1, pz2, pz3]
  refine wpAnyH_take (i := 11) (oi := ⟨some 36, .load 3 (.tmp 35), 3, "ref.go:117", #[⟨10, .data⟩], none⟩) (v := ?_) rfl (by kernel_rfl) (by kernel_rfl) (by kernel_rfl) (fun _ _ _ h => h) (Or.inl ⟨by rfl, ?_⟩) (by assumption) ?_
  rotate_left
  · (intro wS hSw; (try dsimp only at hSw); go_simp; (try with_reducible rfl))
  try simp only [Act.put, pz1, pz2, pz3]
  refine wpAnyH_ready (rs := [12]) (by kernel_rfl) (by simp) ?_
  refine AllReadyH.cons (o := ⟨some 37, .call { callee := .value (.func 70), args := #[.tmp 28, .tmp 29, .tmp 36], argTypes := #[24, 3, 3] }, 4, "ref.go:117", #[⟨3, .data⟩, ⟨4, .data⟩, ⟨11, .data⟩], none⟩) rfl (fun K hK => ?_) AllReadyH.nil
  go_simp
  (go_at_call 70; ((with_reducible refine (rpfails_b fs Af nf cf _ _ _ _ (by first | exact hC.flt.sl | exact (RefW.drew hC).flt.sl) hC.nf (by omega) HFL).mono ?_); rintro e' wN ⟨rfl, hb⟩; (try have hb := undrew hb); replace hC := RefW.likeB hC hb; replace HT := Tch.thenB HT hb; replace HCC := RefC.below HCC hb; replace cD := cellOf hb cD; clear y0 y1 y2 y3 y4 y5 y6 y9 y12 y16; have y0 := HCC.y0; have y1 := HCC.y1; have y2 := HCC.y2; have y3 := HCC.y3; have y4 := HCC.y4; have y5 := HCC.y5; have y6 := HCC.y6; have y9 := HCC.y9; have y12 := HCC.y12; have y16 := HCC.y16))
  go_wp2_with fail
  refine hK.out _ _ ?_ (fun hNew => ?_)
  · (first | exact ⟨y5, y9, cD⟩ | assumption)
  clear hK K hHeld
  have hHeld := hNew
  clear hNew
  try simp only [Act.put, pz1, pz2, pz3]
  refine wpAnyH_done (by kernel_rfl) ?_ _
  refine NoPanic.normal ?_
  go_wp2_with fail
  go_ret
  exact ⟨rfl, (by first | exact hC | exact hC.like), tch_r (by first | exact HT | exact HT.like)⟩
end Go.Proofs.Ytplniojeaodjiaa
namespace Go.Proofs.Ytplniojeaodjiaa
open Go.ChangeShapes Go.WideShapes Go.ChangeAt Go.RowKit
set_option linter.unusedSimpArgs false
set_option linter.unusedVariables false

theorem putX_more {X : List Nat} {F n q f : Nat} (h : F + n + q ≤ X.length) : putX (putX X F (List.replicate n f)) (F + n) (List.replicate q f) = putX X F (List.replicate (n + q) f) := by
  apply List.ext_getElem?
  intro j
  rw [putX_get (by rw [putX_len (by simp; omega)]; simp; omega), putX_get (by simp; omega), putX_get (by simp; omega)]
  simp only [List.length_replicate, List.getElem?_replicate]
  by_cases h1 : j < F
  · rw [if_pos (by omega), if_pos h1, if_pos h1]
  · by_cases h2 : j < F + n
    · rw [if_pos h2, if_neg h1, if_pos h2, if_neg h1, if_pos (by omega), if_pos (by omega), if_pos (by omega)]
    · rw [if_neg h2, if_neg h1, if_neg h2, if_neg h1]
      by_cases h3 : j < F + n + q
      · rw [if_pos h3, if_pos (by omega), if_pos (by omega), if_pos (by omega)]
      · rw [if_neg h3, if_neg (by omega)]
theorem RefW.freeW {w : World} {m gB gN gW gD L : Nat} {Af : Option Addr} {nf cf : Nat} {a b c d e : Int} {fs : List Flt} {s : ChS} (hC : RefW w m gB gN gW gD L Af nf cf a b c d e fs s) : ∀ i, w.frozen? ⟨gW, i, none⟩ = false := hC.rW.free
set_option maxRecDepth 100000 in
set_option maxHeartbeats 8000000 in
theorem rerase_ok (m gB gN gW gD L : Nat) (Af : Option Addr) (nf cf : Nat) (a b c d e : Int) (fs : List Flt) (k SZ RW : Nat) (n : Int) (w : World) (s : ChS) (hC : RefW w m gB gN gW gD L Af nf cf a b c d e fs s) (hbn : s.Bnd n) (hn : n ≤ 900000000) (hwt : s.Wt) (ho : s.on = true) (hk : (k : Int) < a) (hfl8 : fs.length ≤ 8) (hn0 : 20 ≤ n) (hcu : Hid (s.cutB = false)) (hfb : failsB fs (k : Int) (s.k (k : Int) 2) = false) (HRW : Hid ((RW : Int) = c + 16)) (hsz : (SZ : Int) = b * (c + 16)) (hfit0 : k * SZ + SZ ≤ s.X.length) (r1 : 40 ≤ RW) (r2 : RW ≤ 80) : Calls Try.prog 46 #[.pointer (some ⟨m, 0, none⟩), .int .i64 (k : Int)] w fun e' w' => e' = .returned (.int .i64 0) ∧ RefW w' m gB gN gW gD L Af nf cf a b c d e fs (s.tick.wipe b k SZ 255) ∧ Tch (rfB m gB gN gW gD) w w' := by
  have HK := Lib.hid hk
  have tk : ∀ j : Nat, s.tick.k (k : Int) j = s.k (k : Int) j := fun j => by unfold ChS.k; rw [tick_K]
  obtain ⟨v2, hv2⟩ : ∃ v, s.tick.k (k : Int) 2 = v := ⟨_, rfl⟩
  have HV2 := Lib.hid hv2
  have HFL : Hid (failsB fs (k : Int) v2 = false) := Lib.hid (by rw [← hv2, tk]; exact hfb)
  have k0 : (0 : Int) ≤ (k : Int) := by omega
  have k1 : ¬ (k : Int) < 0 := by omega
  have k2 : ¬ a ≤ (k : Int) := by omega
  obtain ⟨g1, g2, g3, g4, g5, g6, -⟩ := may_bd (planMay_bd hC.may).1
  have HM := Lib.hid (planMay_bd hC.may).1
  obtain ⟨PB, hPB⟩ : ∃ PB : Nat, (PB : Int) = b := ⟨b.toNat, by omega⟩
  obtain ⟨M, hM⟩ : ∃ M : Nat, (k : Int) * b = (M : Int) := ⟨k * PB, by rw [← hPB]; push_cast; rfl⟩
  have hMn : M = k * PB := by
    have : (M : Int) = ((k * PB : Nat) : Int) := by rw [← hM, ← hPB]; push_cast; rfl
    omega
  have hSZ : SZ = PB * RW := by
    have : (SZ : Int) = ((PB * RW : Nat) : Int) := by rw [hsz, ← hPB, ← HRW.out]; push_cast; rfl
    omega
  have hMR : M * RW = k * SZ := by rw [hMn, hSZ, Nat.mul_assoc]
  have hMa : (M : Int) + b ≤ a * b := by
    have h1 : ((k : Int) + 1) * b ≤ a * b := Int.mul_le_mul_of_nonneg_right (by omega) (by omega)
    rw [Int.add_mul, Int.one_mul, hM] at h1
    exact h1
  have hab : a * b ≤ 20 * 8 := Int.mul_le_mul g2 g4 (by omega) (by omega)
  have hwM : IntKind.i64.wrap (M : Int) = (M : Int) := wrapS _ (by omega) (by omega)
  obtain ⟨f, hf⟩ : ∃ f : Nat, f = 255 := ⟨_, rfl⟩
  have HF := Lib.hid hf
  have hf256 : f < 256 := by omega
  have hb1 : ∀ j : Nat, 0 ≤ s.tick.k (k : Int) j ∧ s.tick.k (k : Int) j ≤ n := fun j => by rw [tk]; exact ⟨hbn.k0 _, hbn.k1 _⟩
  have HB1 := Lib.hid hb1
  have hfit : k * SZ + SZ ≤ s.tick.X.length := by rw [tick_X]; exact hfit0
  have hpm : PB * RW ≤ 8 * 80 := Nat.mul_le_mul (by omega) r2
  obtain ⟨NP, NB, RWc, cB, HCC⟩ := hC.cells
  have y0 := HCC.y0; have y12 := HCC.y12
  rw [show (!s.on) = false by rw [ho]; rfl] at y12
  clear ho
  rw [← HF.out]
  have HPB := Lib.hid hPB
  have HMR := Lib.hid hMR
  have HSZ := Lib.hid hSZ
  have HMA := Lib.hid hMa
  have HAB := Lib.hid hab
  have HFIT := Lib.hid hfit
  have HPM := Lib.hid hpm
  clear hv2 tk hk hb1 hsz hfit0 hf hMn hPB hMR hSZ hMa hab hfit hpm
  go_enter Try.func46, Try.ntmps46
  go_upto_region 6 with (go_at_call 68; ((with_reducible refine (rturn_b _ _ _ _ _ _ _ _ _ _ _ _ _ _ _ _ _ _ _ hC hbn (by omega) hwt hcu).mono ?_); rintro e' wN ⟨rfl, hC2, hT⟩; have HT := Tch.like0 hT; clear hC HCC y0 y12; have hC := hC2; clear hC2))
  obtain ⟨NP, NB, RWc, cB, HCC⟩ := hC.cells
  have y0 := HCC.y0; have y1 := HCC.y1; have y2 := HCC.y2; have y3 := HCC.y3; have y4 := HCC.y4; have y5 := HCC.y5; have y6 := HCC.y6; have y9 := HCC.y9; have y12 := HCC.y12; have y16 := HCC.y16
  have i0 : (0 : Int) ≤ (k : Int) := by omega
  have i1 : (k : Int) < (NB : Int) := by have := HCC.hNB.out; have := HK.out; omega
  have cD := HCC.n2 k (by omega)
  rw [HV2.out] at cD
  refine wp_region_noPanic ?_
  refine wp_region_held_drew (S := (fun w' => w'.cell? ⟨m, 5, none⟩ = some (.slice Af nf cf) ∧ w'.cell? ⟨m, 9, none⟩ = some (.slice (some ⟨gD, 0, none⟩) NB NB) ∧ w'.cell? ⟨gD, k, none⟩ = some (.int .i64 v2))) (by kernel_rfl) ?_ (fun hHeld => ?_)
  · (first | exact ⟨y5, y9, cD⟩ | assumption)
  refine wpAnyH_take (i := 0) (oi := ⟨some 25, .move (.tmp 0), 29, "ref.go:117", #[], none⟩) (v := ?_) rfl (by kernel_rfl) (by kernel_rfl) (by kernel_rfl) (fun _ _ _ h => h) (Or.inl ⟨by rfl, ?_⟩) (by assumption) ?_
  rotate_left
  · (intro wS hSw; (try dsimp only at hSw); go_simp; (try with_reducible rfl))
  try simp only [Act.put, pz1, pz2, pz3]
  refine wpAnyH_take (i := 1) (oi := ⟨some 26, .nilCheck (.tmp 25), 0, "ref.go:117", #[⟨0, .data⟩], none⟩) (v := ?_) rfl (by kernel_rfl) (by kernel_rfl) (by kernel_rfl) (fun _ _ _ h => h) (Or.inl ⟨by rfl, ?_⟩) (by assumption) ?_
  rotate_left
  · (intro wS hSw; (try dsimp only at hSw); go_simp; (try with_reducible rfl))
  try simp only [Act.put, pz1, pz2, pz3]
  refine wpAnyH_take (i := 2) (oi := ⟨some 27, .fieldAddr 42 (.tmp 26) 1, 0, "ref.go:117", #[⟨1, .data⟩], none⟩) (v := ?_) rfl (by kernel_rfl) (by kernel_rfl) (by kernel_rfl) (fun _ _ _ h => h) (Or.inl ⟨by rfl, ?_⟩) (by assumption) ?_
  rotate_left
  · (intro wS hSw; (try dsimp only at hSw); go_simp; (try with_reducible rfl))
  try simp only [Act.put, pz1, pz2, pz3]
  refine wpAnyH_take (i := 3) (oi := ⟨some 28, .load 24 (.tmp 27), 24, "ref.go:117", #[⟨2, .data⟩], none⟩) (v := ?_) rfl (by kernel_rfl) (by kernel_rfl) (by kernel_rfl) (fun _ _ _ h => h) (Or.inl ⟨by rfl, ?_⟩) (by assumption) ?_
  rotate_left
  · (intro wS hSw; (try dsimp only at hSw); go_simp; (try with_reducible rfl))
  try simp only [Act.put, pz1, pz2, pz3]
  refine wpAnyH_take (i := 4) (oi := ⟨some 29, .move (.tmp 1), 3, "ref.go:117", #[], none⟩) (v := ?_) rfl (by kernel_rfl) (by kernel_rfl) (by kernel_rfl) (fun _ _ _ h => h) (Or.inl ⟨by rfl, ?_⟩) (by assumption) ?_
  rotate_left
  · (intro wS hSw; (try dsimp only at hSw); go_simp; (try with_reducible rfl))
  try simp only [Act.put, pz1, pz2, pz3]
  refine wpAnyH_take (i := 5) (oi := ⟨some 30, .move (.tmp 0), 29, "ref.go:117", #[], none⟩) (v := ?_) rfl (by kernel_rfl) (by kernel_rfl) (by kernel_rfl) (fun _ _ _ h => h) (Or.inl ⟨by rfl, ?_⟩) (by assumption) ?_
  rotate_left
  · (intro wS hSw; (try dsimp only at hSw); go_simp; (try with_reducible rfl))
  try simp only [Act.put, pz1, pz2, pz3]
  refine wpAnyH_take (i := 6) (oi := ⟨some 31, .nilCheck (.tmp 30), 0, "ref.go:117", #[⟨5, .data⟩], none⟩) (v := ?_) rfl (by kernel_rfl) (by kernel_rfl) (by kernel_rfl) (fun _ _ _ h => h) (Or.inl ⟨by rfl, ?_⟩) (by assumption) ?_
  rotate_left
  · (intro wS hSw; (try dsimp only at hSw); go_simp; (try with_reducible rfl))
  try simp only [Act.put, pz1, pz2, pz3]
  refine wpAnyH_take (i := 7) (oi := ⟨some 32, .fieldAddr 42 (.tmp 31) 5, 0, "ref.go:117", #[⟨6, .data⟩], none⟩) (v := ?_) rfl (by kernel_rfl) (by kernel_rfl) (by kernel_rfl) (fun _ _ _ h => h) (Or.inl ⟨by rfl, ?_⟩) (by assumption) ?_
  rotate_left
  · (intro wS hSw; (try dsimp only at hSw); go_simp; (try with_reducible rfl))
  try simp only [Act.put, pz1, pz2, pz3]
  refine wpAnyH_take (i := 8) (oi := ⟨some 33, .load 40 (.tmp 32), 40, "ref.go:117", #[⟨7, .data⟩], none⟩) (v := ?_) rfl (by kernel_rfl) (by kernel_rfl) (by kernel_rfl) (fun _ _ _ h => h) (Or.inl ⟨by rfl, ?_⟩) (by assumption) ?_
  rotate_left
  · (intro wS hSw; (try dsimp only at hSw); go_simp; (try with_reducible rfl))
  try simp only [Act.put, pz1, pz2, pz3]
  refine wpAnyH_take (i := 9) (oi := ⟨some 34, .move (.tmp 1), 3, "ref.go:117", #[], none⟩) (v := ?_) rfl (by kernel_rfl) (by kernel_rfl) (by kernel_rfl) (fun _ _ _ h => h) (Or.inl ⟨by rfl, ?_⟩) (by assumption) ?_
  rotate_left
  · (intro wS hSw; (try dsimp only at hSw); go_simp; (try with_reducible rfl))
  try simp only [Act.put, pz1, pz2, pz3]
  refine wpAnyH_take (i := 10) (oi := ⟨some 35, .indexAddr 40 (.tmp 33) (.tmp 34), 0, "ref.go:117", #[⟨8, .data⟩, ⟨9, .data⟩], none⟩) (v := ?_) rfl (by kernel_rfl) (by kernel_rfl) (by kernel_rfl) (fun _ _ _ h => h) (Or.inl ⟨by rfl, ?_⟩) (by assumption) ?_
  rotate_left
  · (intro wS hSw; (try dsimp only at hSw); go_simp; (try with_reducible rfl))
  try simp only [Act.put, pz1, pz2, pz3]
  refine wpAnyH_take (i := 11) (oi := ⟨some 36, .load 3 (.tmp 35), 3, "ref.go:117", #[⟨10, .data⟩], none⟩) (v := ?_) rfl (by kernel_rfl) (by kernel_rfl) (by kernel_rfl) (fun _ _ _ h => h) (Or.inl ⟨by rfl, ?_⟩) (by assumption) ?_
  rotate_left
  · (intro wS hSw; (try dsimp only at hSw); go_simp; (try with_reducible rfl))
  try simp only [Act.put, pz1, pz2, pz3]
  refine wpAnyH_ready (rs := [12]) (by kernel_rfl) (by simp) ?_
  refine AllReadyH.cons (o := ⟨some 37, .call { callee := .value (.func 70), args := #[.tmp 28, .tmp 29, .tmp 36], argTypes := #[24, 3, 3] }, 4, "ref.go:117", #[⟨3, .data⟩, ⟨4, .data⟩, ⟨11, .data⟩], none⟩) rfl (fun K hK => ?_) AllReadyH.nil
  go_simp
  (go_at_call 70; ((with_reducible refine (rpfails_b fs Af nf cf _ _ _ _ (by first | exact hC.flt.sl | exact (RefW.drew hC).flt.sl) hC.nf (by omega) HFL).mono ?_); rintro e' wN ⟨rfl, hb⟩; (try have hb := undrew hb); replace hC := RefW.likeB hC hb; replace HT := Tch.thenB HT hb; replace HCC := RefC.below HCC hb; replace cD := cellOf hb cD; clear y0 y1 y2 y3 y4 y5 y6 y9 y12 y16; have y0 := HCC.y0; have y1 := HCC.y1; have y2 := HCC.y2; have y3 := HCC.y3; have y4 := HCC.y4; have y5 := HCC.y5; have y6 := HCC.y6; have y9 := HCC.y9; have y12 := HCC.y12; have y16 := HCC.y16))
  go_wp2_with fail
  refine hK.out _ _ ?_ (fun hNew => ?_)
  · (first | exact ⟨y5, y9, cD⟩ | assumption)
  clear hK K hHeld
  have hHeld := hNew
  clear hNew
  try simp only [Act.put, pz1, pz2, pz3]
  refine wpAnyH_done (by kernel_rfl) ?_ _
  refine NoPanic.normal ?_
  go_upto_region 13 with fail
  rw [show (Value.int IntKind.u8 255) = Value.int IntKind.u8 (f : Int) by rw [HF.out]; rfl]
  go_wp2_with fail
  go_loopw [7] (fun s7 wr => ∃ i : Nat, i ≤ PB ∧ s7 = .int .i64 (i : Int) ∧ RefW wr m gB gN gW gD L Af nf cf a b c d e fs { s.tick with X := putX s.tick.X (k * SZ) (List.replicate (i * RW) f) } ∧ Tch (rfB m gB gN gW gD) w wr) (fun s7 _ => PB - (intOf s7).toNat)
  case atStart => exact ⟨0, Nat.zero_le _, rfl, by rw [Nat.zero_mul, List.replicate_zero, putX_zero]; (first | exact hC | exact hC.like), (by first | exact tch_r HT | exact (tch_r HT).like)⟩
  case round =>
    clear hC HT HCC cD y0 y1 y2 y3 y4 y5 y6 y9 y12 y16
    obtain ⟨i, hi, rfl, hC, HT⟩ := hrel
    obtain ⟨NP, NB, RWc, cB, HCC⟩ := hC.cells
    have y0 := HCC.y0; have y1 := HCC.y1; have y2 := HCC.y2; have y3 := HCC.y3; have y4 := HCC.y4; have y6 := HCC.y6
    have hPB := HPB.out
    by_cases hlt : i < PB
    · have hii : (i : Int) < b := by omega
      have hMa := HMA.out
      have hab := HAB.out
      obtain ⟨N, hMi⟩ : ∃ N : Nat, (M : Int) + (i : Int) = (N : Int) := ⟨M + i, by push_cast; rfl⟩
      have hwN : IntKind.i64.wrap (N : Int) = (N : Int) := wrapS _ (by omega) (by omega)
      have hNab : (N : Int) < a * b := by omega
      have j0 : (0 : Int) ≤ (N : Int) := by omega
      have j1 : (N : Int) < (NP : Int) := by have := HCC.hNP.out; omega
      have hNR : N * RW = k * SZ + i * RW := by rw [← HMR.out, ← Nat.add_mul]; congr 1; omega
      have hi1 : (i + 1) * RW ≤ PB * RW := Nat.mul_le_mul_right _ hlt
      rw [Nat.succ_mul] at hi1
      have hfit := HFIT.out
      have hSZ := HSZ.out
      have hpm := HPM.out
      have hfN : N * RW + RW ≤ ({ s.tick with X := putX s.tick.X (k * SZ) (List.replicate (i * RW) f) } : ChS).X.length := by
        show N * RW + RW ≤ (putX s.tick.X (k * SZ) (List.replicate (i * RW) f)).length
        rw [putX_len (by simp; omega)]
        omega
      have HNR := Lib.hid hNR
      have HI1 := Lib.hid hi1
      have HFN := Lib.hid hfN
      have HNAB := Lib.hid hNab
      have HLT := Lib.hid hlt
      clear hPB hNR hi1 hfN hNab hMa hab hfit hSZ hpm hlt
      go_upto_region 16 with fail
      refine wp_region_noPanic ?_
      refine wp_region_held_drew (S := (fun w' => w'.cell? ⟨m, 0, none⟩ = some (.int .i64 a) ∧ w'.cell? ⟨m, 1, none⟩ = some (.int .i64 b) ∧ w'.cell? ⟨m, 2, none⟩ = some (.int .i64 c) ∧ w'.cell? ⟨m, 3, none⟩ = some (.int .i64 d) ∧ w'.cell? ⟨m, 4, none⟩ = some (.int .i64 e) ∧ w'.cell? ⟨m, 6, none⟩ = some (.slice (some ⟨gB, 0, none⟩) NP cB))) (by kernel_rfl) ?_ (fun hHeld => ?_)
      · (first | exact ⟨y0, y1, y2, y3, y4, y6⟩ | exact ⟨Y0, Y1, Y2, Y3, Y4, Y6⟩ | assumption)
      refine wpAnyH_take (i := 0) (oi := ⟨some 54, .move (.tmp 0), 29, "ref.go:128", #[], none⟩) (v := ?_) rfl (by kernel_rfl) (by kernel_rfl) (by kernel_rfl) (fun _ _ _ h => h) (Or.inl ⟨by rfl, ?_⟩) (by assumption) ?_
      rotate_left
      · (intro wS hSw; (try dsimp only at hSw); go_simp; (try with_reducible rfl))
      try simp only [Act.put, pz1, pz2, pz3]
      refine wpAnyH_take (i := 1) (oi := ⟨some 55, .nilCheck (.tmp 54), 0, "ref.go:128", #[⟨0, .data⟩], none⟩) (v := ?_) rfl (by kernel_rfl) (by kernel_rfl) (by kernel_rfl) (fun _ _ _ h => h) (Or.inl ⟨by rfl, ?_⟩) (by assumption) ?_
      rotate_left
      · (intro wS hSw; (try dsimp only at hSw); go_simp; (try with_reducible rfl))
      try simp only [Act.put, pz1, pz2, pz3]
      refine wpAnyH_take (i := 2) (oi := ⟨some 56, .fieldAddr 42 (.tmp 55) 2, 0, "ref.go:128", #[⟨1, .data⟩], none⟩) (v := ?_) rfl (by kernel_rfl) (by kernel_rfl) (by kernel_rfl) (fun _ _ _ h => h) (Or.inl ⟨by rfl, ?_⟩) (by assumption) ?_
      rotate_left
      · (intro wS hSw; (try dsimp only at hSw); go_simp; (try with_reducible rfl))
      try simp only [Act.put, pz1, pz2, pz3]
      refine wpAnyH_take (i := 3) (oi := ⟨some 57, .load 39 (.tmp 56), 39, "ref.go:128", #[⟨2, .data⟩], none⟩) (v := ?_) rfl (by kernel_rfl) (by kernel_rfl) (by kernel_rfl) (fun _ _ _ h => h) (Or.inl ⟨by rfl, ?_⟩) (by assumption) ?_
      rotate_left
      · (intro wS hSw; (try dsimp only at hSw); go_simp; (try with_reducible rfl))
      try simp only [Act.put, pz1, pz2, pz3]
      refine wpAnyH_take (i := 4) (oi := ⟨some 58, .move (.tmp 1), 3, "ref.go:128", #[], none⟩) (v := ?_) rfl (by kernel_rfl) (by kernel_rfl) (by kernel_rfl) (fun _ _ _ h => h) (Or.inl ⟨by rfl, ?_⟩) (by assumption) ?_
      rotate_left
      · (intro wS hSw; (try dsimp only at hSw); go_simp; (try with_reducible rfl))
      try simp only [Act.put, pz1, pz2, pz3]
      refine wpAnyH_take (i := 5) (oi := ⟨some 59, .move (.tmp 0), 29, "ref.go:128", #[], none⟩) (v := ?_) rfl (by kernel_rfl) (by kernel_rfl) (by kernel_rfl) (fun _ _ _ h => h) (Or.inl ⟨by rfl, ?_⟩) (by assumption) ?_
      rotate_left
      · (intro wS hSw; (try dsimp only at hSw); go_simp; (try with_reducible rfl))
      try simp only [Act.put, pz1, pz2, pz3]
      refine wpAnyH_take (i := 6) (oi := ⟨some 60, .nilCheck (.tmp 59), 0, "ref.go:128", #[⟨5, .data⟩], none⟩) (v := ?_) rfl (by kernel_rfl) (by kernel_rfl) (by kernel_rfl) (fun _ _ _ h => h) (Or.inl ⟨by rfl, ?_⟩) (by assumption) ?_
      rotate_left
      · (intro wS hSw; (try dsimp only at hSw); go_simp; (try with_reducible rfl))
      try simp only [Act.put, pz1, pz2, pz3]
      refine wpAnyH_take (i := 7) (oi := ⟨some 61, .fieldAddr 42 (.tmp 60) 0, 0, "ref.go:128", #[⟨6, .data⟩], none⟩) (v := ?_) rfl (by kernel_rfl) (by kernel_rfl) (by kernel_rfl) (fun _ _ _ h => h) (Or.inl ⟨by rfl, ?_⟩) (by assumption) ?_
      rotate_left
      · (intro wS hSw; (try dsimp only at hSw); go_simp; (try with_reducible rfl))
      try simp only [Act.put, pz1, pz2, pz3]
      refine wpAnyH_take (i := 8) (oi := ⟨some 62, .fieldAddr 23 (.tmp 61) 1, 0, "ref.go:128", #[⟨7, .data⟩], none⟩) (v := ?_) rfl (by kernel_rfl) (by kernel_rfl) (by kernel_rfl) (fun _ _ _ h => h) (Or.inl ⟨by rfl, ?_⟩) (by assumption) ?_
      rotate_left
      · (intro wS hSw; (try dsimp only at hSw); go_simp; (try with_reducible rfl))
      try simp only [Act.put, pz1, pz2, pz3]
      refine wpAnyH_take (i := 9) (oi := ⟨some 63, .load 3 (.tmp 62), 3, "ref.go:128", #[⟨8, .data⟩], none⟩) (v := ?_) rfl (by kernel_rfl) (by kernel_rfl) (by kernel_rfl) (fun _ _ _ h => h) (Or.inl ⟨by rfl, ?_⟩) (by assumption) ?_
      rotate_left
      · (intro wS hSw; (try dsimp only at hSw); go_simp; (try with_reducible rfl))
      try simp only [Act.put, pz1, pz2, pz3]
      refine wpAnyH_take (i := 10) (oi := ⟨some 64, .binOp .mul 3 (.tmp 58) (.tmp 63) 3, 3, "ref.go:128", #[⟨4, .data⟩, ⟨9, .data⟩], none⟩) (v := ?_) rfl (by kernel_rfl) (by kernel_rfl) (by kernel_rfl) (fun _ _ _ h => h) (Or.inl ⟨by rfl, ?_⟩) (by assumption) ?_
      rotate_left
      · (intro wS hSw; (try dsimp only at hSw); go_simp; (try with_reducible rfl))
      try simp only [Act.put, pz1, pz2, pz3]
      refine wpAnyH_take (i := 11) (oi := ⟨some 65, .move (.tmp 7), 3, "ref.go:128", #[], none⟩) (v := ?_) rfl (by kernel_rfl) (by kernel_rfl) (by kernel_rfl) (fun _ _ _ h => h) (Or.inl ⟨by rfl, ?_⟩) (by assumption) ?_
      rotate_left
      · (intro wS hSw; (try dsimp only at hSw); go_simp; (try with_reducible rfl))
      try simp only [Act.put, pz1, pz2, pz3]
      refine wpAnyH_take (i := 12) (oi := ⟨some 66, .binOp .add 3 (.tmp 64) (.tmp 65) 3, 3, "ref.go:128", #[⟨10, .data⟩, ⟨11, .data⟩], none⟩) (v := ?_) rfl (by kernel_rfl) (by kernel_rfl) (by kernel_rfl) (fun _ _ _ h => h) (Or.inl ⟨by rfl, ?_⟩) (by assumption) ?_
      rotate_left
      · (intro wS hSw; (try dsimp only at hSw); go_simp; (try with_reducible rfl))
      try simp only [Act.put, pz1, pz2, pz3]
      refine wpAnyH_take (i := 13) (oi := ⟨some 67, .move (.tmp 6), 5, "ref.go:128", #[], none⟩) (v := ?_) rfl (by kernel_rfl) (by kernel_rfl) (by kernel_rfl) (fun _ _ _ h => h) (Or.inl ⟨by rfl, ?_⟩) (by assumption) ?_
      rotate_left
      · (intro wS hSw; (try dsimp only at hSw); go_simp; (try with_reducible rfl))
      try simp only [Act.put, pz1, pz2, pz3]
      refine wpAnyH_take (i := 14) (oi := ⟨some 68, .move (.tmp 0), 29, "ref.go:128", #[], none⟩) (v := ?_) rfl (by kernel_rfl) (by kernel_rfl) (by kernel_rfl) (fun _ _ _ h => h) (Or.inl ⟨by rfl, ?_⟩) (by assumption) ?_
      rotate_left
      · (intro wS hSw; (try dsimp only at hSw); go_simp; (try with_reducible rfl))
      try simp only [Act.put, pz1, pz2, pz3]
      refine wpAnyH_take (i := 15) (oi := ⟨some 69, .nilCheck (.tmp 68), 0, "ref.go:128", #[⟨14, .data⟩], none⟩) (v := ?_) rfl (by kernel_rfl) (by kernel_rfl) (by kernel_rfl) (fun _ _ _ h => h) (Or.inl ⟨by rfl, ?_⟩) (by assumption) ?_
      rotate_left
      · (intro wS hSw; (try dsimp only at hSw); go_simp; (try with_reducible rfl))
      try simp only [Act.put, pz1, pz2, pz3]
      refine wpAnyH_take (i := 16) (oi := ⟨some 70, .fieldAddr 42 (.tmp 69) 0, 0, "ref.go:128", #[⟨15, .data⟩], none⟩) (v := ?_) rfl (by kernel_rfl) (by kernel_rfl) (by kernel_rfl) (fun _ _ _ h => h) (Or.inl ⟨by rfl, ?_⟩) (by assumption) ?_
      rotate_left
      · (intro wS hSw; (try dsimp only at hSw); go_simp; (try with_reducible rfl))
      try simp only [Act.put, pz1, pz2, pz3]
      refine wpAnyH_take (i := 17) (oi := ⟨some 71, .load 23 (.tmp 70), 23, "ref.go:128", #[⟨16, .data⟩], none⟩) (v := ?_) rfl (by kernel_rfl) (by kernel_rfl) (by kernel_rfl) (fun _ _ _ h => h) (Or.inl ⟨by rfl, ?_⟩) (by assumption) ?_
      rotate_left
      · (intro wS hSw; (try dsimp only at hSw); go_simp; (try with_reducible rfl))
      try simp only [Act.put, pz1, pz2, pz3]
      refine wpAnyH_ready (rs := [18]) (by kernel_rfl) (by simp) ?_
      refine AllReadyH.cons (o := ⟨some 72, .call { callee := .value (.func 39), args := #[.tmp 71], argTypes := #[23] }, 3, "ref.go:128", #[⟨17, .data⟩], none⟩) rfl (fun K hK => ?_) AllReadyH.nil
      go_simp
      (first | (go_at_call 39; ((with_reducible refine (rraw_b _ _ _ _ _ RW _ HM HRW).mono ?_); rintro e' wN ⟨rfl, hb⟩; (try have hb := undrew hb); (try have hb := undrew hb); replace hC := RefW.likeB hC hb; replace HT := Tch.thenB HT hb; replace HCC := RefC.below HCC hb; clear y0 y1 y2 y3 y4 y6; have y0 := HCC.y0; have y1 := HCC.y1; have y2 := HCC.y2; have y3 := HCC.y3; have y4 := HCC.y4; have y6 := HCC.y6)) | (go_at_call 38; ((with_reducible refine (fill_any f RW _ (by omega)).mono ?_); rintro e' wN ⟨⟨g9, rfl, hR9, hge9⟩, hb⟩; have hszF := HT.size; have hCL := hC.lts; (try have hb := undrew hb); (try have hb := undrew hb); replace hC := RefW.likeB hC hb; replace HT := Tch.thenB HT hb; replace HCC := RefC.below HCC hb; clear y0 y1 y2 y3 y4 y6; have y0 := HCC.y0; have y1 := HCC.y1; have y2 := HCC.y2; have y3 := HCC.y3; have y4 := HCC.y4; have y6 := HCC.y6)))
      go_wp2_with fail
      refine hK.out _ _ ?_ (fun hNew => ?_)
      · (first | exact ⟨y0, y1, y2, y3, y4, y6⟩ | exact ⟨Y0, Y1, Y2, Y3, Y4, Y6⟩ | assumption)
      clear hK K hHeld
      have hHeld := hNew
      clear hNew
      try simp only [Act.put, pz1, pz2, pz3]
      refine wpAnyH_ready (rs := [19]) (by kernel_rfl) (by simp) ?_
      refine AllReadyH.cons (o := ⟨some 73, .call { callee := .value (.func 38), args := #[.tmp 67, .tmp 72], argTypes := #[5, 3] }, 48, "ref.go:128", #[⟨13, .data⟩, ⟨18, .data⟩, ⟨18, .chain⟩], none⟩) rfl (fun K hK => ?_) AllReadyH.nil
      go_simp
      (first | (go_at_call 39; ((with_reducible refine (rraw_b _ _ _ _ _ RW _ HM HRW).mono ?_); rintro e' wN ⟨rfl, hb⟩; (try have hb := undrew hb); (try have hb := undrew hb); replace hC := RefW.likeB hC hb; replace HT := Tch.thenB HT hb; replace HCC := RefC.below HCC hb; clear y0 y1 y2 y3 y4 y6; have y0 := HCC.y0; have y1 := HCC.y1; have y2 := HCC.y2; have y3 := HCC.y3; have y4 := HCC.y4; have y6 := HCC.y6)) | (go_at_call 38; ((with_reducible refine (fill_any f RW _ (by omega)).mono ?_); rintro e' wN ⟨⟨g9, rfl, hR9, hge9⟩, hb⟩; have hszF := HT.size; have hCL := hC.lts; (try have hb := undrew hb); (try have hb := undrew hb); replace hC := RefW.likeB hC hb; replace HT := Tch.thenB HT hb; replace HCC := RefC.below HCC hb; clear y0 y1 y2 y3 y4 y6; have y0 := HCC.y0; have y1 := HCC.y1; have y2 := HCC.y2; have y3 := HCC.y3; have y4 := HCC.y4; have y6 := HCC.y6)))
      go_wp2_with fail
      refine hK.out _ _ ?_ (fun hNew => ?_)
      · (first | exact ⟨y0, y1, y2, y3, y4, y6⟩ | exact ⟨Y0, Y1, Y2, Y3, Y4, Y6⟩ | assumption)
      clear hK K hHeld
      have hHeld := hNew
      clear hNew
      try simp only [Act.put, pz1, pz2, pz3]
      refine wpAnyH_take (i := 20) (oi := ⟨some 74, .indexAddr 39 (.tmp 57) (.tmp 66), 0, "ref.go:128", #[⟨3, .data⟩, ⟨12, .data⟩, ⟨0, .phase⟩, ⟨1, .phase⟩, ⟨2, .phase⟩, ⟨3, .phase⟩, ⟨4, .phase⟩, ⟨5, .phase⟩, ⟨6, .phase⟩, ⟨7, .phase⟩, ⟨8, .phase⟩, ⟨9, .phase⟩, ⟨10, .phase⟩, ⟨11, .phase⟩, ⟨12, .phase⟩, ⟨13, .phase⟩, ⟨14, .phase⟩, ⟨15, .phase⟩, ⟨16, .phase⟩, ⟨17, .phase⟩, ⟨18, .phase⟩, ⟨19, .phase⟩], none⟩) (v := ?_) rfl (by kernel_rfl) (by kernel_rfl) (by kernel_rfl) (fun _ _ _ h => h) (Or.inl ⟨by rfl, ?_⟩) (by assumption) ?_
      rotate_left
      · (intro wS hSw; (try dsimp only at hSw); go_simp; (try with_reducible rfl))
      try simp only [Act.put, pz1, pz2, pz3]
      refine wpAnyH_ready (rs := [21]) (by kernel_rfl) (by simp) ?_
      refine AllReadyH.cons (o := ⟨none, .store 48 (.tmp 74) (.tmp 73), 0, "ref.go:128", #[⟨20, .data⟩, ⟨19, .data⟩, ⟨19, .chain⟩, ⟨0, .phase⟩, ⟨1, .phase⟩, ⟨2, .phase⟩, ⟨3, .phase⟩, ⟨4, .phase⟩, ⟨5, .phase⟩, ⟨6, .phase⟩, ⟨7, .phase⟩, ⟨8, .phase⟩, ⟨9, .phase⟩, ⟨10, .phase⟩, ⟨11, .phase⟩, ⟨12, .phase⟩, ⟨13, .phase⟩, ⟨14, .phase⟩, ⟨15, .phase⟩, ⟨16, .phase⟩, ⟨17, .phase⟩, ⟨18, .phase⟩, ⟨19, .phase⟩], none⟩) rfl (fun K hK => ?_) AllReadyH.nil
      obtain ⟨p, cp, HP⟩ := hC.page HRW.out HNAB.out HFN.out
      have cN := HP.cN
      have fB := hC.freeB
      go_simp
      have hmn := fun (i : Nat) => World.cell?_of_block (a := ⟨m, i, none⟩) (w := wN) (w' := wN.setCell ⟨gB, N, none⟩ (.slice (some ⟨g9, 0, none⟩) RW RW)) ((Tch.setm wN gB N (.slice (some ⟨g9, 0, none⟩) RW RW)).far m hC.lt (fun e => hC.ne.1.1 e))
      have Y0 := (hmn 0).trans y0
      have Y1 := (hmn 1).trans y1
      have Y2 := (hmn 2).trans y2
      have Y3 := (hmn 3).trans y3
      have Y4 := (hmn 4).trans y4
      have Y6 := (hmn 6).trans y6
      refine hK.out _ _ ?_ (fun hNew => ?_)
      · (first | exact ⟨y0, y1, y2, y3, y4, y6⟩ | exact ⟨Y0, Y1, Y2, Y3, Y4, Y6⟩ | assumption)
      clear hK K hHeld
      have hHeld := hNew
      clear hNew
      try simp only [Act.put, pz1, pz2, pz3]
      refine wpAnyH_done (by kernel_rfl) ?_ _
      refine NoPanic.normal ?_
      go_wp2_with fail
      have hNR := HNR.out
      have hi1 := HI1.out
      have hfN := HFN.out
      have hfit := HFIT.out
      have hSZ := HSZ.out
      have hlt := HLT.out
      have hRR : RowT wN g9 5 ((List.replicate RW f ++ (({ s.tick with X := putX s.tick.X (k * SZ) (List.replicate (i * RW) f) } : ChS).pageOf N RW).drop (List.replicate RW f).length).map byteV) := by
        rw [List.length_replicate, List.drop_of_length_le (by simp [ChS.pageOf]; omega), List.append_nil]
        exact hR9
      have hSP := RefW.setPage hC hRR (by have := hC.ge m (Or.inl rfl); have := hCL m (Or.inl rfl); omega) (fun e => by have := hCL g9 e; omega) (Nat.le_refl _) (by unfold maxLen; omega) HRW.out (by simp) HNAB.out HFN.out
      have hXX : putX (putX s.tick.X (k * SZ) (List.replicate (i * RW) f)) (N * RW) (List.replicate RW f) = putX s.tick.X (k * SZ) (List.replicate ((i + 1) * RW) f) := by
        rw [hNR, putX_more (by omega), Nat.succ_mul]
      have hTF := HT.trans ((Tch.setm wN gB N (.slice (some ⟨g9, 0, none⟩) RW RW)).mono (fun g e => Or.inr (Or.inl e)))
      go_roundw
      case rel =>
        refine ⟨i + 1, by omega, by go_num, ?_, (by first | exact hTF | exact hTF.like)⟩
        rw [← hXX]
        first | exact hSP | exact hSP.like
      case measure => simp [intOf]; omega
    · have hiB : i = PB := by omega
      subst hiB
      rw [← HSZ.out] at hC
      go_upto_region 17 with fail
      obtain ⟨S0, hS0⟩ : ∃ S0 : ChS, S0 = { s.tick with X := putX s.tick.X (k * SZ) (List.replicate SZ f) } := ⟨_, rfl⟩
      rw [← hS0] at hC
      obtain ⟨u0, hu0⟩ : ∃ v, S0.k (k : Int) 0 = v := ⟨_, rfl⟩
      obtain ⟨u1, hu1⟩ : ∃ v, S0.k (k : Int) 1 = v := ⟨_, rfl⟩
      obtain ⟨u2, hu2⟩ : ∃ v, S0.k (k : Int) 2 = v := ⟨_, rfl⟩
      obtain ⟨e1, e2⟩ : 0 ≤ u1 ∧ u1 ≤ n := by rw [← hu1, hS0]; exact HB1.out 1
      obtain ⟨e3, e4⟩ : 0 ≤ u2 ∧ u2 ≤ n := by rw [← hu2, hS0]; exact HB1.out 2
      have HS0 := Lib.hid hS0
      have HU1 := Lib.hid hu1
      have HU2 := Lib.hid hu2
      have HU0 := Lib.hid hu0
      clear hS0 hu1 hu2 hu0 HCC y0 y2 y3 y4 y6 y1
      have hfe : f = 255 := HF.out
      have hx : ((f : Int) != 255) = false := by simp; omega
      have hx2 : ((f : Int) == 255) = true := by simp; omega
      have HX := Lib.hid hfe
      clear hfe
      obtain ⟨NP, NB, RWc, cB, HCC⟩ := hC.cells
      have y7 := HCC.y7
      have y1 := HCC.y1
      have cz := HCC.n0 k (by have := HCC.hNB.out; have := HK.out; omega)
      rw [HU0.out] at cz
      have fz := hC.freeN
      have i0 : (0 : Int) ≤ (k : Int) := by omega
      have i1 : (k : Int) < (NB : Int) := by have := HCC.hNB.out; have := HK.out; omega
      clear HCC
      go_upto_region 18 with fail
      have hS := RefW.set0 hC HK.out (0)
      have hT1 := Tch.setm wr gN k (.int .i64 (0))
      have hTd : Tch (rfB m gB gN gW gD) w (wr.setCell ⟨gN, k, none⟩ (.int .i64 (0))) := HT.trans (hT1.mono (fun g e => Or.inr (Or.inr (Or.inl e))))
      clear HT hC y7 y1 cz fz hT1 i1
      generalize wr.setCell ⟨gN, k, none⟩ (.int .i64 (0)) = w7 at hS hTd ⊢
      have hC := hS
      have HT := hTd
      clear hS hTd
      obtain ⟨S1, hS1⟩ : ∃ S1 : ChS, S1 = { S0 with K := S0.K.set (k * 3 + 0) 0 } := ⟨_, rfl⟩
      rw [← hS1] at hC
      have hk11 : S1.k (k : Int) 1 = u1 := by
        rw [hS1, ← HU1.out]
        unfold ChS.k
        dsimp only
        rw [Int.toNat_natCast, getD_setN, if_neg (by omega)]
      have HS1 := Lib.hid hS1
      clear hS1
      have hwr : IntKind.i64.wrap (u1 + 1) = u1 + 1 := wrapS _ (by omega) (by omega)
      go_upto_region 20 with fail
      obtain ⟨NP, NB, RWc, cB, HCC⟩ := hC.cells
      have y8 := HCC.y8
      have y1 := HCC.y1
      have cz := HCC.n1 k (by have := HCC.hNB.out; have := HK.out; omega)
      rw [hk11] at cz
      have fz := hC.freeW
      have i0 : (0 : Int) ≤ (k : Int) := by omega
      have i1 : (k : Int) < (NB : Int) := by have := HCC.hNB.out; have := HK.out; omega
      clear HCC
      go_upto_region 21 with fail
      have hS := RefW.set1 hC HK.out (u1 + 1)
      have hT1 := Tch.setm w7 gW k (.int .i64 (u1 + 1))
      have hTd : Tch (rfB m gB gN gW gD) w (w7.setCell ⟨gW, k, none⟩ (.int .i64 (u1 + 1))) := HT.trans (hT1.mono (fun g e => Or.inr (Or.inr (Or.inr (Or.inl e)))))
      clear HT hC y8 y1 cz fz hT1 i1
      generalize w7.setCell ⟨gW, k, none⟩ (.int .i64 (u1 + 1)) = w9 at hS hTd ⊢
      have hC := hS
      have HT := hTd
      clear hS hTd
      obtain ⟨S2, hS2⟩ : ∃ S2 : ChS, S2 = { S1 with K := S1.K.set (k * 3 + 1) (u1 + 1) } := ⟨_, rfl⟩
      rw [← hS2] at hC
      have hk22 : S2.k (k : Int) 2 = u2 := by
        rw [hS2, HS1.out, ← HU2.out]
        unfold ChS.k
        dsimp only
        rw [Int.toNat_natCast, getD_setN, if_neg (by omega), getD_setN, if_neg (by omega)]
      have HS2 := Lib.hid hS2
      clear hS2 hwr
      have hwr : IntKind.i64.wrap (u2 + 1) = u2 + 1 := wrapS _ (by omega) (by omega)
      obtain ⟨NP, NB, RWc, cB, HCC⟩ := hC.cells
      have y9 := HCC.y9
      have y1 := HCC.y1
      have cz := HCC.n2 k (by have := HCC.hNB.out; have := HK.out; omega)
      rw [hk22] at cz
      have fz := hC.freeD
      have i0 : (0 : Int) ≤ (k : Int) := by omega
      have i1 : (k : Int) < (NB : Int) := by have := HCC.hNB.out; have := HK.out; omega
      clear HCC
      go_wp2_with fail
      go_ret
      have hS := RefW.set2 hC HK.out (u2 + 1)
      have hT1 := Tch.setm w9 gD k (.int .i64 (u2 + 1))
      have hTd : Tch (rfB m gB gN gW gD) w (w9.setCell ⟨gD, k, none⟩ (.int .i64 (u2 + 1))) := HT.trans (hT1.mono (fun g e => Or.inr (Or.inr (Or.inr (Or.inr e)))))
      clear HT hC y9 y1 cz fz hT1 i1
      have hfin : ({ S2 with K := S2.K.set (k * 3 + 2) (u2 + 1) } : ChS) = s.tick.wipe b k SZ f := by
        rw [HS2.out, HS1.out, ← HU2.out, ← HU1.out, HS0.out]
        unfold ChS.wipe
        simp only [if_pos HX.out, Nat.add_zero, List.set_set]
        rfl
      rw [← hfin]
      exact ⟨rfl, hS, hTd⟩

end Go.Proofs.Ytplniojeaodjiaa
namespace Go.Proofs.Ytplniojeaodjiaa
open Go.ChangeShapes Go.WideShapes Go.ChangeAt Go.RowKit
set_option linter.unusedSimpArgs false
set_option linter.unusedVariables false
set_option maxRecDepth 100000 in
set_option maxHeartbeats 8000000 in
theorem rerase_cut (m gB gN gW gD L : Nat) (Af : Option Addr) (nf cf : Nat) (a b c d e : Int) (fs : List Flt) (k SZ RW : Nat) (n : Int) (w : World) (s : ChS) (hC : RefW w m gB gN gW gD L Af nf cf a b c d e fs s) (hbn : s.Bnd n) (hn : n ≤ 900000000) (hwt : s.Wt) (ho : s.on = true) (hk : (k : Int) < a) (hfl8 : fs.length ≤ 8) (hn0 : 20 ≤ n) (hcu : Hid (s.cutB = true)) (hfb : failsB fs (k : Int) (s.k (k : Int) 2) = false) (HRW : Hid ((RW : Int) = c + 16)) (hsz : (SZ : Int) = b * (c + 16)) (hfit0 : k * SZ + SZ ≤ s.X.length) (r1 : 40 ≤ RW) (r2 : RW ≤ 80) (hf0 : s.fill < 256) : Calls Try.prog 46 #[.pointer (some ⟨m, 0, none⟩), .int .i64 (k : Int)] w fun e' w' => e' = .returned (.int .i64 9) ∧ RefW w' m gB gN gW gD L Af nf cf a b c d e fs (s.tick.wipe b k SZ s.fill) ∧ Tch (rfB m gB gN gW gD) w w' := by
  have HK := Lib.hid hk
  have tk : ∀ j : Nat, s.tick.k (k : Int) j = s.k (k : Int) j := fun j => by unfold ChS.k; rw [tick_K]
  obtain ⟨v2, hv2⟩ : ∃ v, s.tick.k (k : Int) 2 = v := ⟨_, rfl⟩
  have HV2 := Lib.hid hv2
  have HFL : Hid (failsB fs (k : Int) v2 = false) := Lib.hid (by rw [← hv2, tk]; exact hfb)
  have k0 : (0 : Int) ≤ (k : Int) := by omega
  have k1 : ¬ (k : Int) < 0 := by omega
  have k2 : ¬ a ≤ (k : Int) := by omega
  obtain ⟨g1, g2, g3, g4, g5, g6, -⟩ := may_bd (planMay_bd hC.may).1
  have HM := Lib.hid (planMay_bd hC.may).1
  obtain ⟨PB, hPB⟩ : ∃ PB : Nat, (PB : Int) = b := ⟨b.toNat, by omega⟩
  obtain ⟨M, hM⟩ : ∃ M : Nat, (k : Int) * b = (M : Int) := ⟨k * PB, by rw [← hPB]; push_cast; rfl⟩
  have hMn : M = k * PB := by
    have : (M : Int) = ((k * PB : Nat) : Int) := by rw [← hM, ← hPB]; push_cast; rfl
    omega
  have hSZ : SZ = PB * RW := by
    have : (SZ : Int) = ((PB * RW : Nat) : Int) := by rw [hsz, ← hPB, ← HRW.out]; push_cast; rfl
    omega
  have hMR : M * RW = k * SZ := by rw [hMn, hSZ, Nat.mul_assoc]
  have hMa : (M : Int) + b ≤ a * b := by
    have h1 : ((k : Int) + 1) * b ≤ a * b := Int.mul_le_mul_of_nonneg_right (by omega) (by omega)
    rw [Int.add_mul, Int.one_mul, hM] at h1
    exact h1
  have hab : a * b ≤ 20 * 8 := Int.mul_le_mul g2 g4 (by omega) (by omega)
  have hwM : IntKind.i64.wrap (M : Int) = (M : Int) := wrapS _ (by omega) (by omega)
  obtain ⟨f, hf⟩ : ∃ f : Nat, f = s.fill := ⟨_, rfl⟩
  have HF := Lib.hid hf
  have hf256 : f < 256 := by omega
  have hb1 : ∀ j : Nat, 0 ≤ s.tick.k (k : Int) j ∧ s.tick.k (k : Int) j ≤ n := fun j => by rw [tk]; exact ⟨hbn.k0 _, hbn.k1 _⟩
  have HB1 := Lib.hid hb1
  have hfit : k * SZ + SZ ≤ s.tick.X.length := by rw [tick_X]; exact hfit0
  have hpm : PB * RW ≤ 8 * 80 := Nat.mul_le_mul (by omega) r2
  have hcy : s.tick.fill = f := by rw [hf]; unfold ChS.tick; split <;> rfl
  obtain ⟨NP, NB, RWc, cB, HCC⟩ := hC.cells
  have y0 := HCC.y0; have y12 := HCC.y12
  rw [show (!s.on) = false by rw [ho]; rfl] at y12
  clear ho
  rw [← HF.out]
  have HPB := Lib.hid hPB
  have HMR := Lib.hid hMR
  have HSZ := Lib.hid hSZ
  have HMA := Lib.hid hMa
  have HAB := Lib.hid hab
  have HFIT := Lib.hid hfit
  have HPM := Lib.hid hpm
  clear hv2 tk hk hb1 hsz hfit0 hf hMn hPB hMR hSZ hMa hab hfit hpm hf0
  go_enter Try.func46, Try.ntmps46
  go_upto_region 6 with (go_at_call 68; ((with_reducible refine (rturn_b _ _ _ _ _ _ _ _ _ _ _ _ _ _ _ _ _ _ _ hC hbn (by omega) hwt hcu).mono ?_); rintro e' wN ⟨rfl, hC2, hT⟩; have HT := Tch.like0 hT; clear hC HCC y0 y12; have hC := hC2; clear hC2))
  obtain ⟨NP, NB, RWc, cB, HCC⟩ := hC.cells
  have y0 := HCC.y0; have y1 := HCC.y1; have y2 := HCC.y2; have y3 := HCC.y3; have y4 := HCC.y4; have y5 := HCC.y5; have y6 := HCC.y6; have y9 := HCC.y9; have y12 := HCC.y12; have y16 := HCC.y16
  have i0 : (0 : Int) ≤ (k : Int) := by omega
  have i1 : (k : Int) < (NB : Int) := by have := HCC.hNB.out; have := HK.out; omega
  have cD := HCC.n2 k (by omega)
  rw [HV2.out] at cD
  rw [hcy] at y16
  refine wp_region_noPanic ?_
  refine wp_region_held_drew (S := (fun w' => w'.cell? ⟨m, 5, none⟩ = some (.slice Af nf cf) ∧ w'.cell? ⟨m, 9, none⟩ = some (.slice (some ⟨gD, 0, none⟩) NB NB) ∧ w'.cell? ⟨gD, k, none⟩ = some (.int .i64 v2))) (by kernel_rfl) ?_ (fun hHeld => ?_)
  · (first | exact ⟨y5, y9, cD⟩ | assumption)
  refine wpAnyH_take (i := 0) (oi := ⟨some 25, .move (.tmp 0), 29, "ref.go:117", #[], none⟩) (v := ?_) rfl (by kernel_rfl) (by kernel_rfl) (by kernel_rfl) (fun _ _ _ h => h) (Or.inl ⟨by rfl, ?_⟩) (by assumption) ?_
  rotate_left
  · (intro wS hSw; (try dsimp only at hSw); go_simp; (try with_reducible rfl))
  try simp only [Act.put, pz1, pz2, pz3]
  refine wpAnyH_take (i := 1) (oi := ⟨some 26, .nilCheck (.tmp 25), 0, "ref.go:117", #[⟨0, .data⟩], none⟩) (v := ?_) rfl (by kernel_rfl) (by kernel_rfl) (by kernel_rfl) (fun _ _ _ h => h) (Or.inl ⟨by rfl, ?_⟩) (by assumption) ?_
  rotate_left
  · (intro wS hSw; (try dsimp only at hSw); go_simp; (try with_reducible rfl))
  try simp only [Act.put, pz1, pz2, pz3]
  refine wpAnyH_take (i := 2) (oi := ⟨some 27, .fieldAddr 42 (.tmp 26) 1, 0, "ref.go:117", #[⟨1, .data⟩], none⟩) (v := ?_) rfl (by kernel_rfl) (by kernel_rfl) (by kernel_rfl) (fun _ _ _ h => h) (Or.inl ⟨by rfl, ?_⟩) (by assumption) ?_
  rotate_left
  · (intro wS hSw; (try dsimp only at hSw); go_simp; (try with_reducible rfl))
  try simp only [Act.put, pz1, pz2, pz3]
  refine wpAnyH_take (i := 3) (oi := ⟨some 28, .load 24 (.tmp 27), 24, "ref.go:117", #[⟨2, .data⟩], none⟩) (v := ?_) rfl (by kernel_rfl) (by kernel_rfl) (by kernel_rfl) (fun _ _ _ h => h) (Or.inl ⟨by rfl, ?_⟩) (by assumption) ?_
  rotate_left
  · (intro wS hSw; (try dsimp only at hSw); go_simp; (try with_reducible rfl))
  try simp only [Act.put, pz1, pz2, pz3]
  refine wpAnyH_take (i := 4) (oi := ⟨some 29, .move (.tmp 1), 3, "ref.go:117", #[], none⟩) (v := ?_) rfl (by kernel_rfl) (by kernel_rfl) (by kernel_rfl) (fun _ _ _ h => h) (Or.inl ⟨by rfl, ?_⟩) (by assumption) ?_
  rotate_left
  · (intro wS hSw; (try dsimp only at hSw); go_simp; (try with_reducible rfl))
  try simp only [Act.put, pz1, pz2, pz3]
  refine wpAnyH_take (i := 5) (oi := ⟨some 30, .move (.tmp 0), 29, "ref.go:117", #[], none⟩) (v := ?_) rfl (by kernel_rfl) (by kernel_rfl) (by kernel_rfl) (fun _ _ _ h => h) (Or.inl ⟨by rfl, ?_⟩) (by assumption) ?_
  rotate_left
  · (intro wS hSw; (try dsimp only at hSw); go_simp; (try with_reducible rfl))
  try simp only [Act.put, pz1, pz2, pz3]
  refine wpAnyH_take (i := 6) (oi := ⟨some 31, .nilCheck (.tmp 30), 0, "ref.go:117", #[⟨5, .data⟩], none⟩) (v := ?_) rfl (by kernel_rfl) (by kernel_rfl) (by kernel_rfl) (fun _ _ _ h => h) (Or.inl ⟨by rfl, ?_⟩) (by assumption) ?_
  rotate_left
  · (intro wS hSw; (try dsimp only at hSw); go_simp; (try with_reducible rfl))
  try simp only [Act.put, pz1, pz2, pz3]
  refine wpAnyH_take (i := 7) (oi := ⟨some 32, .fieldAddr 42 (.tmp 31) 5, 0, "ref.go:117", #[⟨6, .data⟩], none⟩) (v := ?_) rfl (by kernel_rfl) (by kernel_rfl) (by kernel_rfl) (fun _ _ _ h => h) (Or.inl ⟨by rfl, ?_⟩) (by assumption) ?_
  rotate_left
  · (intro wS hSw; (try dsimp only at hSw); go_simp; (try with_reducible rfl))
  try simp only [Act.put, pz1, pz2, pz3]
  refine wpAnyH_take (i := 8) (oi := ⟨some 33, .load 40 (.tmp 32), 40, "ref.go:117", #[⟨7, .data⟩], none⟩) (v := ?_) rfl (by kernel_rfl) (by kernel_rfl) (by kernel_rfl) (fun _ _ _ h => h) (Or.inl ⟨by rfl, ?_⟩) (by assumption) ?_
  rotate_left
  · (intro wS hSw; (try dsimp only at hSw); go_simp; (try with_reducible rfl))
  try simp only [Act.put, pz1, pz2, pz3]
  refine wpAnyH_take (i := 9) (oi := ⟨some 34, .move (.tmp 1), 3, "ref.go:117", #[], none⟩) (v := ?_) rfl (by kernel_rfl) (by kernel_rfl) (by kernel_rfl) (fun _ _ _ h => h) (Or.inl ⟨by rfl, ?_⟩) (by assumption) ?_
  rotate_left
  · (intro wS hSw; (try dsimp only at hSw); go_simp; (try with_reducible rfl))
  try simp only [Act.put, pz1, pz2, pz3]
  refine wpAnyH_take (i := 10) (oi := ⟨some 35, .indexAddr 40 (.tmp 33) (.tmp 34), 0, "ref.go:117", #[⟨8, .data⟩, ⟨9, .data⟩], none⟩) (v := ?_) rfl (by kernel_rfl) (by kernel_rfl) (by kernel_rfl) (fun _ _ _ h => h) (Or.inl ⟨by rfl, ?_⟩) (by assumption) ?_
  rotate_left
  · (intro wS hSw; (try dsimp only at hSw); go_simp; (try with_reducible rfl))
  try simp only [Act.put, pz1, pz2, pz3]
  refine wpAnyH_take (i := 11) (oi := ⟨some 36, .load 3 (.tmp 35), 3, "ref.go:117", #[⟨10, .data⟩], none⟩) (v := ?_) rfl (by kernel_rfl) (by kernel_rfl) (by kernel_rfl) (fun _ _ _ h => h) (Or.inl ⟨by rfl, ?_⟩) (by assumption) ?_
  rotate_left
  · (intro wS hSw; (try dsimp only at hSw); go_simp; (try with_reducible rfl))
  try simp only [Act.put, pz1, pz2, pz3]
  refine wpAnyH_ready (rs := [12]) (by kernel_rfl) (by simp) ?_
  refine AllReadyH.cons (o := ⟨some 37, .call { callee := .value (.func 70), args := #[.tmp 28, .tmp 29, .tmp 36], argTypes := #[24, 3, 3] }, 4, "ref.go:117", #[⟨3, .data⟩, ⟨4, .data⟩, ⟨11, .data⟩], none⟩) rfl (fun K hK => ?_) AllReadyH.nil
  go_simp
  (go_at_call 70; ((with_reducible refine (rpfails_b fs Af nf cf _ _ _ _ (by first | exact hC.flt.sl | exact (RefW.drew hC).flt.sl) hC.nf (by omega) HFL).mono ?_); rintro e' wN ⟨rfl, hb⟩; (try have hb := undrew hb); replace hC := RefW.likeB hC hb; replace HT := Tch.thenB HT hb; replace HCC := RefC.below HCC hb; replace cD := cellOf hb cD; clear y0 y1 y2 y3 y4 y5 y6 y9 y12 y16; have y0 := HCC.y0; have y1 := HCC.y1; have y2 := HCC.y2; have y3 := HCC.y3; have y4 := HCC.y4; have y5 := HCC.y5; have y6 := HCC.y6; have y9 := HCC.y9; have y12 := HCC.y12; have y16 := HCC.y16))
  go_wp2_with fail
  refine hK.out _ _ ?_ (fun hNew => ?_)
  · (first | exact ⟨y5, y9, cD⟩ | assumption)
  clear hK K hHeld
  have hHeld := hNew
  clear hNew
  try simp only [Act.put, pz1, pz2, pz3]
  refine wpAnyH_done (by kernel_rfl) ?_ _
  refine NoPanic.normal ?_
  go_upto_region 13 with fail
  go_wp2_with fail
  go_loopw [7] (fun s7 wr => ∃ i : Nat, i ≤ PB ∧ s7 = .int .i64 (i : Int) ∧ RefW wr m gB gN gW gD L Af nf cf a b c d e fs { s.tick with X := putX s.tick.X (k * SZ) (List.replicate (i * RW) f) } ∧ Tch (rfB m gB gN gW gD) w wr) (fun s7 _ => PB - (intOf s7).toNat)
  case atStart => exact ⟨0, Nat.zero_le _, rfl, by rw [Nat.zero_mul, List.replicate_zero, putX_zero]; (first | exact hC | exact hC.like), (by first | exact tch_r HT | exact (tch_r HT).like)⟩
  case round =>
    clear hC HT HCC cD y0 y1 y2 y3 y4 y5 y6 y9 y12 y16
    obtain ⟨i, hi, rfl, hC, HT⟩ := hrel
    obtain ⟨NP, NB, RWc, cB, HCC⟩ := hC.cells
    have y0 := HCC.y0; have y1 := HCC.y1; have y2 := HCC.y2; have y3 := HCC.y3; have y4 := HCC.y4; have y6 := HCC.y6
    have hPB := HPB.out
    by_cases hlt : i < PB
    · have hii : (i : Int) < b := by omega
      have hMa := HMA.out
      have hab := HAB.out
      obtain ⟨N, hMi⟩ : ∃ N : Nat, (M : Int) + (i : Int) = (N : Int) := ⟨M + i, by push_cast; rfl⟩
      have hwN : IntKind.i64.wrap (N : Int) = (N : Int) := wrapS _ (by omega) (by omega)
      have hNab : (N : Int) < a * b := by omega
      have j0 : (0 : Int) ≤ (N : Int) := by omega
      have j1 : (N : Int) < (NP : Int) := by have := HCC.hNP.out; omega
      have hNR : N * RW = k * SZ + i * RW := by rw [← HMR.out, ← Nat.add_mul]; congr 1; omega
      have hi1 : (i + 1) * RW ≤ PB * RW := Nat.mul_le_mul_right _ hlt
      rw [Nat.succ_mul] at hi1
      have hfit := HFIT.out
      have hSZ := HSZ.out
      have hpm := HPM.out
      have hfN : N * RW + RW ≤ ({ s.tick with X := putX s.tick.X (k * SZ) (List.replicate (i * RW) f) } : ChS).X.length := by
        show N * RW + RW ≤ (putX s.tick.X (k * SZ) (List.replicate (i * RW) f)).length
        rw [putX_len (by simp; omega)]
        omega
      have HNR := Lib.hid hNR
      have HI1 := Lib.hid hi1
      have HFN := Lib.hid hfN
      have HNAB := Lib.hid hNab
      have HLT := Lib.hid hlt
      clear hPB hNR hi1 hfN hNab hMa hab hfit hSZ hpm hlt
      go_upto_region 16 with fail
      refine wp_region_noPanic ?_
      refine wp_region_held_drew (S := (fun w' => w'.cell? ⟨m, 0, none⟩ = some (.int .i64 a) ∧ w'.cell? ⟨m, 1, none⟩ = some (.int .i64 b) ∧ w'.cell? ⟨m, 2, none⟩ = some (.int .i64 c) ∧ w'.cell? ⟨m, 3, none⟩ = some (.int .i64 d) ∧ w'.cell? ⟨m, 4, none⟩ = some (.int .i64 e) ∧ w'.cell? ⟨m, 6, none⟩ = some (.slice (some ⟨gB, 0, none⟩) NP cB))) (by kernel_rfl) ?_ (fun hHeld => ?_)
      · (first | exact ⟨y0, y1, y2, y3, y4, y6⟩ | exact ⟨Y0, Y1, Y2, Y3, Y4, Y6⟩ | assumption)
      refine wpAnyH_take (i := 0) (oi := ⟨some 54, .move (.tmp 0), 29, "ref.go:128", #[], none⟩) (v := ?_) rfl (by kernel_rfl) (by kernel_rfl) (by kernel_rfl) (fun _ _ _ h => h) (Or.inl ⟨by rfl, ?_⟩) (by assumption) ?_
      rotate_left
      · (intro wS hSw; (try dsimp only at hSw); go_simp; (try with_reducible rfl))
      try simp only [Act.put, pz1, pz2, pz3]
      refine wpAnyH_take (i := 1) (oi := ⟨some 55, .nilCheck (.tmp 54), 0, "ref.go:128", #[⟨0, .data⟩], none⟩) (v := ?_) rfl (by kernel_rfl) (by kernel_rfl) (by kernel_rfl) (fun _ _ _ h => h) (Or.inl ⟨by rfl, ?_⟩) (by assumption) ?_
      rotate_left
      · (intro wS hSw; (try dsimp only at hSw); go_simp; (try with_reducible rfl))
      try simp only [Act.put, pz1, pz2, pz3]
      refine wpAnyH_take (i := 2) (oi := ⟨some 56, .fieldAddr 42 (.tmp 55) 2, 0, "ref.go:128", #[⟨1, .data⟩], none⟩) (v := ?_) rfl (by kernel_rfl) (by kernel_rfl) (by kernel_rfl) (fun _ _ _ h => h) (Or.inl ⟨by rfl, ?_⟩) (by assumption) ?_
      rotate_left
      · (intro wS hSw; (try dsimp only at hSw); go_simp; (try with_reducible rfl))
      try simp only [Act.put, pz1, pz2, pz3]
      refine wpAnyH_take (i := 3) (oi := ⟨some 57, .load 39 (.tmp 56), 39, "ref.go:128", #[⟨2, .data⟩], none⟩) (v := ?_) rfl (by kernel_rfl) (by kernel_rfl) (by kernel_rfl) (fun _ _ _ h => h) (Or.inl ⟨by rfl, ?_⟩) (by assumption) ?_
      rotate_left
      · (intro wS hSw; (try dsimp only at hSw); go_simp; (try with_reducible rfl))
      try simp only [Act.put, pz1, pz2, pz3]
      refine wpAnyH_take (i := 4) (oi := ⟨some 58, .move (.tmp 1), 3, "ref.go:128", #[], none⟩) (v := ?_) rfl (by kernel_rfl) (by kernel_rfl) (by kernel_rfl) (fun _ _ _ h => h) (Or.inl ⟨by rfl, ?_⟩) (by assumption) ?_
      rotate_left
      · (intro wS hSw; (try dsimp only at hSw); go_simp; (try with_reducible rfl))
      try simp only [Act.put, pz1, pz2, pz3]
      refine wpAnyH_take (i := 5) (oi := ⟨some 59, .move (.tmp 0), 29, "ref.go:128", #[], none⟩) (v := ?_) rfl (by kernel_rfl) (by kernel_rfl) (by kernel_rfl) (fun _ _ _ h => h) (Or.inl ⟨by rfl, ?_⟩) (by assumption) ?_
      rotate_left
      · (intro wS hSw; (try dsimp only at hSw); go_simp; (try with_reducible rfl))
      try simp only [Act.put, pz1, pz2, pz3]
      refine wpAnyH_take (i := 6) (oi := ⟨some 60, .nilCheck (.tmp 59), 0, "ref.go:128", #[⟨5, .data⟩], none⟩) (v := ?_) rfl (by kernel_rfl) (by kernel_rfl) (by kernel_rfl) (fun _ _ _ h => h) (Or.inl ⟨by rfl, ?_⟩) (by assumption) ?_
      rotate_left
      · (intro wS hSw; (try dsimp only at hSw); go_simp; (try with_reducible rfl))
      try simp only [Act.put, pz1, pz2, pz3]
      refine wpAnyH_take (i := 7) (oi := ⟨some 61, .fieldAddr 42 (.tmp 60) 0, 0, "ref.go:128", #[⟨6, .data⟩], none⟩) (v := ?_) rfl (by kernel_rfl) (by kernel_rfl) (by kernel_rfl) (fun _ _ _ h => h) (Or.inl ⟨by rfl, ?_⟩) (by assumption) ?_
      rotate_left
      · (intro wS hSw; (try dsimp only at hSw); go_simp; (try with_reducible rfl))
      try simp only [Act.put, pz1, pz2, pz3]
      refine wpAnyH_take (i := 8) (oi := ⟨some 62, .fieldAddr 23 (.tmp 61) 1, 0, "ref.go:128", #[⟨7, .data⟩], none⟩) (v := ?_) rfl (by kernel_rfl) (by kernel_rfl) (by kernel_rfl) (fun _ _ _ h => h) (Or.inl ⟨by rfl, ?_⟩) (by assumption) ?_
      rotate_left
      · (intro wS hSw; (try dsimp only at hSw); go_simp; (try with_reducible rfl))
      try simp only [Act.put, pz1, pz2, pz3]
      refine wpAnyH_take (i := 9) (oi := ⟨some 63, .load 3 (.tmp 62), 3, "ref.go:128", #[⟨8, .data⟩], none⟩) (v := ?_) rfl (by kernel_rfl) (by kernel_rfl) (by kernel_rfl) (fun _ _ _ h => h) (Or.inl ⟨by rfl, ?_⟩) (by assumption) ?_
      rotate_left
      · (intro wS hSw; (try dsimp only at hSw); go_simp; (try with_reducible rfl))
      try simp only [Act.put, pz1, pz2, pz3]
      refine wpAnyH_take (i := 10) (oi := ⟨some 64, .binOp .mul 3 (.tmp 58) (.tmp 63) 3, 3, "ref.go:128", #[⟨4, .data⟩, ⟨9, .data⟩], none⟩) (v := ?_) rfl (by kernel_rfl) (by kernel_rfl) (by kernel_rfl) (fun _ _ _ h => h) (Or.inl ⟨by rfl, ?_⟩) (by assumption) ?_
      rotate_left
      · (intro wS hSw; (try dsimp only at hSw); go_simp; (try with_reducible rfl))
      try simp only [Act.put, pz1, pz2, pz3]
      refine wpAnyH_take (i := 11) (oi := ⟨some 65, .move (.tmp 7), 3, "ref.go:128", #[], none⟩) (v := ?_) rfl (by kernel_rfl) (by kernel_rfl) (by kernel_rfl) (fun _ _ _ h => h) (Or.inl ⟨by rfl, ?_⟩) (by assumption) ?_
      rotate_left
      · (intro wS hSw; (try dsimp only at hSw); go_simp; (try with_reducible rfl))
      try simp only [Act.put, pz1, pz2, pz3]
      refine wpAnyH_take (i := 12) (oi := ⟨some 66, .binOp .add 3 (.tmp 64) (.tmp 65) 3, 3, "ref.go:128", #[⟨10, .data⟩, ⟨11, .data⟩], none⟩) (v := ?_) rfl (by kernel_rfl) (by kernel_rfl) (by kernel_rfl) (fun _ _ _ h => h) (Or.inl ⟨by rfl, ?_⟩) (by assumption) ?_
      rotate_left
      · (intro wS hSw; (try dsimp only at hSw); go_simp; (try with_reducible rfl))
      try simp only [Act.put, pz1, pz2, pz3]
      refine wpAnyH_take (i := 13) (oi := ⟨some 67, .move (.tmp 6), 5, "ref.go:128", #[], none⟩) (v := ?_) rfl (by kernel_rfl) (by kernel_rfl) (by kernel_rfl) (fun _ _ _ h => h) (Or.inl ⟨by rfl, ?_⟩) (by assumption) ?_
      rotate_left
      · (intro wS hSw; (try dsimp only at hSw); go_simp; (try with_reducible rfl))
      try simp only [Act.put, pz1, pz2, pz3]
      refine wpAnyH_take (i := 14) (oi := ⟨some 68, .move (.tmp 0), 29, "ref.go:128", #[], none⟩) (v := ?_) rfl (by kernel_rfl) (by kernel_rfl) (by kernel_rfl) (fun _ _ _ h => h) (Or.inl ⟨by rfl, ?_⟩) (by assumption) ?_
      rotate_left
      · (intro wS hSw; (try dsimp only at hSw); go_simp; (try with_reducible rfl))
      try simp only [Act.put, pz1, pz2, pz3]
      refine wpAnyH_take (i := 15) (oi := ⟨some 69, .nilCheck (.tmp 68), 0, "ref.go:128", #[⟨14, .data⟩], none⟩) (v := ?_) rfl (by kernel_rfl) (by kernel_rfl) (by kernel_rfl) (fun _ _ _ h => h) (Or.inl ⟨by rfl, ?_⟩) (by assumption) ?_
      rotate_left
      · (intro wS hSw; (try dsimp only at hSw); go_simp; (try with_reducible rfl))
      try simp only [Act.put, pz1, pz2, pz3]
      refine wpAnyH_take (i := 16) (oi := ⟨some 70, .fieldAddr 42 (.tmp 69) 0, 0, "ref.go:128", #[⟨15, .data⟩], none⟩) (v := ?_) rfl (by kernel_rfl) (by kernel_rfl) (by kernel_rfl) (fun _ _ _ h => h) (Or.inl ⟨by rfl, ?_⟩) (by assumption) ?_
      rotate_left
      · (intro wS hSw; (try dsimp only at hSw); go_simp; (try with_reducible rfl))
      try simp only [Act.put, pz1, pz2, pz3]
      refine wpAnyH_take (i := 17) (oi := ⟨some 71, .load 23 (.tmp 70), 23, "ref.go:128", #[⟨16, .data⟩], none⟩) (v := ?_) rfl (by kernel_rfl) (by kernel_rfl) (by kernel_rfl) (fun _ _ _ h => h) (Or.inl ⟨by rfl, ?_⟩) (by assumption) ?_
      rotate_left
      · (intro wS hSw; (try dsimp only at hSw); go_simp; (try with_reducible rfl))
      try simp only [Act.put, pz1, pz2, pz3]
      refine wpAnyH_ready (rs := [18]) (by kernel_rfl) (by simp) ?_
      refine AllReadyH.cons (o := ⟨some 72, .call { callee := .value (.func 39), args := #[.tmp 71], argTypes := #[23] }, 3, "ref.go:128", #[⟨17, .data⟩], none⟩) rfl (fun K hK => ?_) AllReadyH.nil
      go_simp
      (first | (go_at_call 39; ((with_reducible refine (rraw_b _ _ _ _ _ RW _ HM HRW).mono ?_); rintro e' wN ⟨rfl, hb⟩; (try have hb := undrew hb); (try have hb := undrew hb); replace hC := RefW.likeB hC hb; replace HT := Tch.thenB HT hb; replace HCC := RefC.below HCC hb; clear y0 y1 y2 y3 y4 y6; have y0 := HCC.y0; have y1 := HCC.y1; have y2 := HCC.y2; have y3 := HCC.y3; have y4 := HCC.y4; have y6 := HCC.y6)) | (go_at_call 38; ((with_reducible refine (fill_any f RW _ (by omega)).mono ?_); rintro e' wN ⟨⟨g9, rfl, hR9, hge9⟩, hb⟩; have hszF := HT.size; have hCL := hC.lts; (try have hb := undrew hb); (try have hb := undrew hb); replace hC := RefW.likeB hC hb; replace HT := Tch.thenB HT hb; replace HCC := RefC.below HCC hb; clear y0 y1 y2 y3 y4 y6; have y0 := HCC.y0; have y1 := HCC.y1; have y2 := HCC.y2; have y3 := HCC.y3; have y4 := HCC.y4; have y6 := HCC.y6)))
      go_wp2_with fail
      refine hK.out _ _ ?_ (fun hNew => ?_)
      · (first | exact ⟨y0, y1, y2, y3, y4, y6⟩ | exact ⟨Y0, Y1, Y2, Y3, Y4, Y6⟩ | assumption)
      clear hK K hHeld
      have hHeld := hNew
      clear hNew
      try simp only [Act.put, pz1, pz2, pz3]
      refine wpAnyH_ready (rs := [19]) (by kernel_rfl) (by simp) ?_
      refine AllReadyH.cons (o := ⟨some 73, .call { callee := .value (.func 38), args := #[.tmp 67, .tmp 72], argTypes := #[5, 3] }, 48, "ref.go:128", #[⟨13, .data⟩, ⟨18, .data⟩, ⟨18, .chain⟩], none⟩) rfl (fun K hK => ?_) AllReadyH.nil
      go_simp
      (first | (go_at_call 39; ((with_reducible refine (rraw_b _ _ _ _ _ RW _ HM HRW).mono ?_); rintro e' wN ⟨rfl, hb⟩; (try have hb := undrew hb); (try have hb := undrew hb); replace hC := RefW.likeB hC hb; replace HT := Tch.thenB HT hb; replace HCC := RefC.below HCC hb; clear y0 y1 y2 y3 y4 y6; have y0 := HCC.y0; have y1 := HCC.y1; have y2 := HCC.y2; have y3 := HCC.y3; have y4 := HCC.y4; have y6 := HCC.y6)) | (go_at_call 38; ((with_reducible refine (fill_any f RW _ (by omega)).mono ?_); rintro e' wN ⟨⟨g9, rfl, hR9, hge9⟩, hb⟩; have hszF := HT.size; have hCL := hC.lts; (try have hb := undrew hb); (try have hb := undrew hb); replace hC := RefW.likeB hC hb; replace HT := Tch.thenB HT hb; replace HCC := RefC.below HCC hb; clear y0 y1 y2 y3 y4 y6; have y0 := HCC.y0; have y1 := HCC.y1; have y2 := HCC.y2; have y3 := HCC.y3; have y4 := HCC.y4; have y6 := HCC.y6)))
      go_wp2_with fail
      refine hK.out _ _ ?_ (fun hNew => ?_)
      · (first | exact ⟨y0, y1, y2, y3, y4, y6⟩ | exact ⟨Y0, Y1, Y2, Y3, Y4, Y6⟩ | assumption)
      clear hK K hHeld
      have hHeld := hNew
      clear hNew
      try simp only [Act.put, pz1, pz2, pz3]
      refine wpAnyH_take (i := 20) (oi := ⟨some 74, .indexAddr 39 (.tmp 57) (.tmp 66), 0, "ref.go:128", #[⟨3, .data⟩, ⟨12, .data⟩, ⟨0, .phase⟩, ⟨1, .phase⟩, ⟨2, .phase⟩, ⟨3, .phase⟩, ⟨4, .phase⟩, ⟨5, .phase⟩, ⟨6, .phase⟩, ⟨7, .phase⟩, ⟨8, .phase⟩, ⟨9, .phase⟩, ⟨10, .phase⟩, ⟨11, .phase⟩, ⟨12, .phase⟩, ⟨13, .phase⟩, ⟨14, .phase⟩, ⟨15, .phase⟩, ⟨16, .phase⟩, ⟨17, .phase⟩, ⟨18, .phase⟩, ⟨19, .phase⟩], none⟩) (v := ?_) rfl (by kernel_rfl) (by kernel_rfl) (by kernel_rfl) (fun _ _ _ h => h) (Or.inl ⟨by rfl, ?_⟩) (by assumption) ?_
      rotate_left
      · (intro wS hSw; (try dsimp only at hSw); go_simp; (try with_reducible rfl))
      try simp only [Act.put, pz1, pz2, pz3]
      refine wpAnyH_ready (rs := [21]) (by kernel_rfl) (by simp) ?_
      refine AllReadyH.cons (o := ⟨none, .store 48 (.tmp 74) (.tmp 73), 0, "ref.go:128", #[⟨20, .data⟩, ⟨19, .data⟩, ⟨19, .chain⟩, ⟨0, .phase⟩, ⟨1, .phase⟩, ⟨2, .phase⟩, ⟨3, .phase⟩, ⟨4, .phase⟩, ⟨5, .phase⟩, ⟨6, .phase⟩, ⟨7, .phase⟩, ⟨8, .phase⟩, ⟨9, .phase⟩, ⟨10, .phase⟩, ⟨11, .phase⟩, ⟨12, .phase⟩, ⟨13, .phase⟩, ⟨14, .phase⟩, ⟨15, .phase⟩, ⟨16, .phase⟩, ⟨17, .phase⟩, ⟨18, .phase⟩, ⟨19, .phase⟩], none⟩) rfl (fun K hK => ?_) AllReadyH.nil
      obtain ⟨p, cp, HP⟩ := hC.page HRW.out HNAB.out HFN.out
      have cN := HP.cN
      have fB := hC.freeB
      go_simp
      have hmn := fun (i : Nat) => World.cell?_of_block (a := ⟨m, i, none⟩) (w := wN) (w' := wN.setCell ⟨gB, N, none⟩ (.slice (some ⟨g9, 0, none⟩) RW RW)) ((Tch.setm wN gB N (.slice (some ⟨g9, 0, none⟩) RW RW)).far m hC.lt (fun e => hC.ne.1.1 e))
      have Y0 := (hmn 0).trans y0
      have Y1 := (hmn 1).trans y1
      have Y2 := (hmn 2).trans y2
      have Y3 := (hmn 3).trans y3
      have Y4 := (hmn 4).trans y4
      have Y6 := (hmn 6).trans y6
      refine hK.out _ _ ?_ (fun hNew => ?_)
      · (first | exact ⟨y0, y1, y2, y3, y4, y6⟩ | exact ⟨Y0, Y1, Y2, Y3, Y4, Y6⟩ | assumption)
      clear hK K hHeld
      have hHeld := hNew
      clear hNew
      try simp only [Act.put, pz1, pz2, pz3]
      refine wpAnyH_done (by kernel_rfl) ?_ _
      refine NoPanic.normal ?_
      go_wp2_with fail
      have hNR := HNR.out
      have hi1 := HI1.out
      have hfN := HFN.out
      have hfit := HFIT.out
      have hSZ := HSZ.out
      have hlt := HLT.out
      have hRR : RowT wN g9 5 ((List.replicate RW f ++ (({ s.tick with X := putX s.tick.X (k * SZ) (List.replicate (i * RW) f) } : ChS).pageOf N RW).drop (List.replicate RW f).length).map byteV) := by
        rw [List.length_replicate, List.drop_of_length_le (by simp [ChS.pageOf]; omega), List.append_nil]
        exact hR9
      have hSP := RefW.setPage hC hRR (by have := hC.ge m (Or.inl rfl); have := hCL m (Or.inl rfl); omega) (fun e => by have := hCL g9 e; omega) (Nat.le_refl _) (by unfold maxLen; omega) HRW.out (by simp) HNAB.out HFN.out
      have hXX : putX (putX s.tick.X (k * SZ) (List.replicate (i * RW) f)) (N * RW) (List.replicate RW f) = putX s.tick.X (k * SZ) (List.replicate ((i + 1) * RW) f) := by
        rw [hNR, putX_more (by omega), Nat.succ_mul]
      have hTF := HT.trans ((Tch.setm wN gB N (.slice (some ⟨g9, 0, none⟩) RW RW)).mono (fun g e => Or.inr (Or.inl e)))
      go_roundw
      case rel =>
        refine ⟨i + 1, by omega, by go_num, ?_, (by first | exact hTF | exact hTF.like)⟩
        rw [← hXX]
        first | exact hSP | exact hSP.like
      case measure => simp [intOf]; omega
    · have hiB : i = PB := by omega
      subst hiB
      rw [← HSZ.out] at hC
      go_upto_region 17 with fail
      obtain ⟨S0, hS0⟩ : ∃ S0 : ChS, S0 = { s.tick with X := putX s.tick.X (k * SZ) (List.replicate SZ f) } := ⟨_, rfl⟩
      rw [← hS0] at hC
      obtain ⟨u0, hu0⟩ : ∃ v, S0.k (k : Int) 0 = v := ⟨_, rfl⟩
      obtain ⟨u1, hu1⟩ : ∃ v, S0.k (k : Int) 1 = v := ⟨_, rfl⟩
      obtain ⟨u2, hu2⟩ : ∃ v, S0.k (k : Int) 2 = v := ⟨_, rfl⟩
      obtain ⟨e1, e2⟩ : 0 ≤ u1 ∧ u1 ≤ n := by rw [← hu1, hS0]; exact HB1.out 1
      obtain ⟨e3, e4⟩ : 0 ≤ u2 ∧ u2 ≤ n := by rw [← hu2, hS0]; exact HB1.out 2
      have HS0 := Lib.hid hS0
      have HU1 := Lib.hid hu1
      have HU2 := Lib.hid hu2
      have HU0 := Lib.hid hu0
      clear hS0 hu1 hu2 hu0 HCC y0 y2 y3 y4 y6 y1
      by_cases hfe : f = 255
      · skip
        have hx : ((f : Int) != 255) = false := by simp; omega
        have hx2 : ((f : Int) == 255) = true := by simp; omega
        have HX := Lib.hid hfe
        clear hfe
        obtain ⟨NP, NB, RWc, cB, HCC⟩ := hC.cells
        have y7 := HCC.y7
        have y1 := HCC.y1
        have cz := HCC.n0 k (by have := HCC.hNB.out; have := HK.out; omega)
        rw [HU0.out] at cz
        have fz := hC.freeN
        have i0 : (0 : Int) ≤ (k : Int) := by omega
        have i1 : (k : Int) < (NB : Int) := by have := HCC.hNB.out; have := HK.out; omega
        clear HCC
        go_upto_region 18 with fail
        have hS := RefW.set0 hC HK.out (0)
        have hT1 := Tch.setm wr gN k (.int .i64 (0))
        have hTd : Tch (rfB m gB gN gW gD) w (wr.setCell ⟨gN, k, none⟩ (.int .i64 (0))) := HT.trans (hT1.mono (fun g e => Or.inr (Or.inr (Or.inl e))))
        clear HT hC y7 y1 cz fz hT1 i1
        generalize wr.setCell ⟨gN, k, none⟩ (.int .i64 (0)) = w7 at hS hTd ⊢
        have hC := hS
        have HT := hTd
        clear hS hTd
        obtain ⟨S1, hS1⟩ : ∃ S1 : ChS, S1 = { S0 with K := S0.K.set (k * 3 + 0) 0 } := ⟨_, rfl⟩
        rw [← hS1] at hC
        have hk11 : S1.k (k : Int) 1 = u1 := by
          rw [hS1, ← HU1.out]
          unfold ChS.k
          dsimp only
          rw [Int.toNat_natCast, getD_setN, if_neg (by omega)]
        have HS1 := Lib.hid hS1
        clear hS1
        have hwr : IntKind.i64.wrap (u1 + 1) = u1 + 1 := wrapS _ (by omega) (by omega)
        go_upto_region 20 with fail
        obtain ⟨NP, NB, RWc, cB, HCC⟩ := hC.cells
        have y8 := HCC.y8
        have y1 := HCC.y1
        have cz := HCC.n1 k (by have := HCC.hNB.out; have := HK.out; omega)
        rw [hk11] at cz
        have fz := hC.freeW
        have i0 : (0 : Int) ≤ (k : Int) := by omega
        have i1 : (k : Int) < (NB : Int) := by have := HCC.hNB.out; have := HK.out; omega
        clear HCC
        go_upto_region 21 with fail
        have hS := RefW.set1 hC HK.out (u1 + 1)
        have hT1 := Tch.setm w7 gW k (.int .i64 (u1 + 1))
        have hTd : Tch (rfB m gB gN gW gD) w (w7.setCell ⟨gW, k, none⟩ (.int .i64 (u1 + 1))) := HT.trans (hT1.mono (fun g e => Or.inr (Or.inr (Or.inr (Or.inl e)))))
        clear HT hC y8 y1 cz fz hT1 i1
        generalize w7.setCell ⟨gW, k, none⟩ (.int .i64 (u1 + 1)) = w9 at hS hTd ⊢
        have hC := hS
        have HT := hTd
        clear hS hTd
        obtain ⟨S2, hS2⟩ : ∃ S2 : ChS, S2 = { S1 with K := S1.K.set (k * 3 + 1) (u1 + 1) } := ⟨_, rfl⟩
        rw [← hS2] at hC
        have hk22 : S2.k (k : Int) 2 = u2 := by
          rw [hS2, HS1.out, ← HU2.out]
          unfold ChS.k
          dsimp only
          rw [Int.toNat_natCast, getD_setN, if_neg (by omega), getD_setN, if_neg (by omega)]
        have HS2 := Lib.hid hS2
        clear hS2 hwr
        have hwr : IntKind.i64.wrap (u2 + 1) = u2 + 1 := wrapS _ (by omega) (by omega)
        obtain ⟨NP, NB, RWc, cB, HCC⟩ := hC.cells
        have y9 := HCC.y9
        have y1 := HCC.y1
        have cz := HCC.n2 k (by have := HCC.hNB.out; have := HK.out; omega)
        rw [hk22] at cz
        have fz := hC.freeD
        have i0 : (0 : Int) ≤ (k : Int) := by omega
        have i1 : (k : Int) < (NB : Int) := by have := HCC.hNB.out; have := HK.out; omega
        clear HCC
        go_wp2_with fail
        go_ret
        have hS := RefW.set2 hC HK.out (u2 + 1)
        have hT1 := Tch.setm w9 gD k (.int .i64 (u2 + 1))
        have hTd : Tch (rfB m gB gN gW gD) w (w9.setCell ⟨gD, k, none⟩ (.int .i64 (u2 + 1))) := HT.trans (hT1.mono (fun g e => Or.inr (Or.inr (Or.inr (Or.inr e)))))
        clear HT hC y9 y1 cz fz hT1 i1
        have hfin : ({ S2 with K := S2.K.set (k * 3 + 2) (u2 + 1) } : ChS) = s.tick.wipe b k SZ f := by
          rw [HS2.out, HS1.out, ← HU2.out, ← HU1.out, HS0.out]
          unfold ChS.wipe
          simp only [if_pos HX.out, Nat.add_zero, List.set_set]
          rfl
        rw [← hfin]
        exact ⟨rfl, hS, hTd⟩
      · skip
        have hx : ((f : Int) != 255) = true := by simp; omega
        have hx2 : ((f : Int) == 255) = false := by simp; omega
        have HX := Lib.hid hfe
        clear hfe
        obtain ⟨NP, NB, RWc, cB, HCC⟩ := hC.cells
        have y7 := HCC.y7
        have y1 := HCC.y1
        have cz := HCC.n0 k (by have := HCC.hNB.out; have := HK.out; omega)
        rw [HU0.out] at cz
        have fz := hC.freeN
        have i0 : (0 : Int) ≤ (k : Int) := by omega
        have i1 : (k : Int) < (NB : Int) := by have := HCC.hNB.out; have := HK.out; omega
        clear HCC
        go_upto_region 18 with fail
        have hS := RefW.set0 hC HK.out (0)
        have hT1 := Tch.setm wr gN k (.int .i64 (0))
        have hTd : Tch (rfB m gB gN gW gD) w (wr.setCell ⟨gN, k, none⟩ (.int .i64 (0))) := HT.trans (hT1.mono (fun g e => Or.inr (Or.inr (Or.inl e))))
        clear HT hC y7 y1 cz fz hT1 i1
        generalize wr.setCell ⟨gN, k, none⟩ (.int .i64 (0)) = w7 at hS hTd ⊢
        have hC := hS
        have HT := hTd
        clear hS hTd
        go_upto_region 19 with fail
        obtain ⟨NP, NB, RWc, cB, HCC⟩ := hC.cells
        have y7 := HCC.y7
        have y1 := HCC.y1
        have cz := HCC.n0 k (by have := HCC.hNB.out; have := HK.out; omega)
        have fz := hC.freeN
        have i0 : (0 : Int) ≤ (k : Int) := by omega
        have i1 : (k : Int) < (NB : Int) := by have := HCC.hNB.out; have := HK.out; omega
        clear HCC
        go_still_tail 11, (by kernel_rfl)
        change wpList _ _ _ _ _ w7.drew
        go_upto_region 20 with fail
        have hS := RefW.drew (RefW.set0 hC HK.out (b))
        have hT1 := Tch.setm w7 gN k (.int .i64 (b))
        have hTd : Tch (rfB m gB gN gW gD) w ((w7.setCell ⟨gN, k, none⟩ (.int .i64 (b))).drew) := (HT.trans (hT1.mono (fun g e => Or.inr (Or.inr (Or.inl e))))).like
        clear HT hC y7 y1 cz fz hT1 i1
        generalize (w7.setCell ⟨gN, k, none⟩ (.int .i64 (b))).drew = w8 at hS hTd ⊢
        have hC := hS
        have HT := hTd
        clear hS hTd
        obtain ⟨S1, hS1⟩ : ∃ S1 : ChS, S1 = { S0 with K := (S0.K.set (k * 3 + 0) 0).set (k * 3 + 0) b } := ⟨_, rfl⟩
        rw [← hS1] at hC
        have hk11 : S1.k (k : Int) 1 = u1 := by
          rw [hS1, ← HU1.out]
          unfold ChS.k
          dsimp only
          rw [Int.toNat_natCast, getD_setN, if_neg (by omega), getD_setN, if_neg (by omega)]
        have HS1 := Lib.hid hS1
        clear hS1
        have hwr : IntKind.i64.wrap (u1 + 1) = u1 + 1 := wrapS _ (by omega) (by omega)
        obtain ⟨NP, NB, RWc, cB, HCC⟩ := hC.cells
        have y8 := HCC.y8
        have y1 := HCC.y1
        have cz := HCC.n1 k (by have := HCC.hNB.out; have := HK.out; omega)
        rw [hk11] at cz
        have fz := hC.freeW
        have i0 : (0 : Int) ≤ (k : Int) := by omega
        have i1 : (k : Int) < (NB : Int) := by have := HCC.hNB.out; have := HK.out; omega
        clear HCC
        go_upto_region 21 with fail
        have hS := RefW.set1 hC HK.out (u1 + 1)
        have hT1 := Tch.setm w8 gW k (.int .i64 (u1 + 1))
        have hTd : Tch (rfB m gB gN gW gD) w (w8.setCell ⟨gW, k, none⟩ (.int .i64 (u1 + 1))) := HT.trans (hT1.mono (fun g e => Or.inr (Or.inr (Or.inr (Or.inl e)))))
        clear HT hC y8 y1 cz fz hT1 i1
        generalize w8.setCell ⟨gW, k, none⟩ (.int .i64 (u1 + 1)) = w9 at hS hTd ⊢
        have hC := hS
        have HT := hTd
        clear hS hTd
        obtain ⟨S2, hS2⟩ : ∃ S2 : ChS, S2 = { S1 with K := S1.K.set (k * 3 + 1) (u1 + 1) } := ⟨_, rfl⟩
        rw [← hS2] at hC
        have hk22 : S2.k (k : Int) 2 = u2 := by
          rw [hS2, HS1.out, ← HU2.out]
          unfold ChS.k
          dsimp only
          rw [Int.toNat_natCast, getD_setN, if_neg (by omega), getD_setN, if_neg (by omega), getD_setN, if_neg (by omega)]
        have HS2 := Lib.hid hS2
        clear hS2 hwr
        have hwr : IntKind.i64.wrap (u2 + 1) = u2 + 1 := wrapS _ (by omega) (by omega)
        obtain ⟨NP, NB, RWc, cB, HCC⟩ := hC.cells
        have y9 := HCC.y9
        have y1 := HCC.y1
        have cz := HCC.n2 k (by have := HCC.hNB.out; have := HK.out; omega)
        rw [hk22] at cz
        have fz := hC.freeD
        have i0 : (0 : Int) ≤ (k : Int) := by omega
        have i1 : (k : Int) < (NB : Int) := by have := HCC.hNB.out; have := HK.out; omega
        clear HCC
        go_wp2_with fail
        go_ret
        have hS := RefW.set2 hC HK.out (u2 + 1)
        have hT1 := Tch.setm w9 gD k (.int .i64 (u2 + 1))
        have hTd : Tch (rfB m gB gN gW gD) w (w9.setCell ⟨gD, k, none⟩ (.int .i64 (u2 + 1))) := HT.trans (hT1.mono (fun g e => Or.inr (Or.inr (Or.inr (Or.inr e)))))
        clear HT hC y9 y1 cz fz hT1 i1
        have hfin : ({ S2 with K := S2.K.set (k * 3 + 2) (u2 + 1) } : ChS) = s.tick.wipe b k SZ f := by
          rw [HS2.out, HS1.out, ← HU2.out, ← HU1.out, HS0.out]
          unfold ChS.wipe
          simp only [if_neg HX.out, Nat.add_zero, List.set_set]
          rfl
        rw [← hfin]
        exact ⟨rfl, hS, hTd⟩

theorem rerase_all (m gB gN gW gD L : Nat) (Af : Option Addr) (nf cf : Nat) (a b c d e : Int) (fs : List Flt) (x : Int) (n : Int) (w : World) (s : ChS) (hC : RefW w m gB gN gW gD L Af nf cf a b c d e fs s) (hs : Fine s n) (hn : n ≤ 900000000) (hn0 : 20 ≤ n) (hwt : s.Wt) :
    Calls Try.prog 46 #[.pointer (some ⟨m, 0, none⟩), .int .i64 x] w fun e' w' => e' = .returned (.int .i64 (s.eraseZ a fs x)) ∧ RefW w' m gB gN gW gD L Af nf cf a b c d e fs (s.eraseS a b c fs x) ∧ Tch (rfB m gB gN gW gD) w w' := by
  have h8 := may_len hC.may
  cases ho : s.on
  · have e1 : s.eraseZ a fs x = 9 := by simp [ChS.eraseZ, ho]
    have e2 : s.eraseS a b c fs x = s := by simp [ChS.eraseS, ho]
    rw [e1, e2]
    refine (rerase_off m gB gN gW gD L Af nf cf a b c d e fs x w s hC ho).mono ?_
    rintro e' w' ⟨rfl, rfl⟩
    exact ⟨rfl, hC, Tch.refl _⟩
  cases ht : inB a x
  · have e1 : s.eraseZ a fs x = 2 := by simp [ChS.eraseZ, ho, ht]
    have e2 : s.eraseS a b c fs x = s := by simp [ChS.eraseS, ht]
    rw [e1, e2]
    refine (rerase_arg m gB gN gW gD L Af nf cf a b c d e fs x w s hC ho (Lib.hid ht)).mono ?_
    rintro e' w' ⟨rfl, rfl⟩
    exact ⟨rfl, hC, Tch.refl _⟩
  obtain ⟨k, hx, hk⟩ := in_nat ht
  subst hx
  obtain ⟨hm, -, -⟩ := planMay_bd hC.may
  obtain ⟨g1, g2, g3, g4, g5, g6, -⟩ := may_bd hm
  obtain ⟨RW, hrw⟩ : ∃ RW : Nat, (RW : Int) = c + 16 := ⟨(c + 16).toNat, by omega⟩
  have h0 : 0 ≤ b * (c + 16) := Int.mul_nonneg (by omega) (by omega)
  obtain ⟨SZ, hsz⟩ : ∃ SZ : Nat, (SZ : Int) = b * (c + 16) := ⟨(b * (c + 16)).toNat, by omega⟩
  have hfit : k * SZ + SZ ≤ s.X.length := by
    have h1 : ((k : Int) + 1) * (b * (c + 16)) ≤ a * (b * (c + 16)) := Int.mul_le_mul_of_nonneg_right (by omega) h0
    rw [← Int.mul_assoc a, Int.add_mul, Int.one_mul, ← hsz] at h1
    have h4 : ((k * SZ + SZ : Nat) : Int) = (k : Int) * (SZ : Int) + (SZ : Int) := by push_cast; rfl
    rw [hC.lenX]
    omega
  have hS : (b * (c + 16)).toNat = SZ := by omega
  have hk' : ((k : Int)).toNat = k := Int.toNat_natCast k
  unfold ChS.eraseZ ChS.eraseS
  rw [ho, ht, hS, hk']
  cases hf : failedB a fs s (k : Int)
  · have hf' : failsB fs (k : Int) (s.k (k : Int) 2) = false := by rw [← failed_in hk]; exact hf
    cases hc : s.cutB
    · have := rerase_ok m gB gN gW gD L Af nf cf a b c d e fs k SZ RW n w s hC hs.bnd hn hwt ho hk h8 hn0 (Lib.hid hc) hf' (Lib.hid hrw) hsz hfit (by omega) (by omega)
      simpa using this
    · have := rerase_cut m gB gN gW gD L Af nf cf a b c d e fs k SZ RW n w s hC hs.bnd hn hwt ho hk h8 hn0 (Lib.hid hc) hf' (Lib.hid hrw) hsz hfit (by omega) (by omega) hs.fill
      simpa using this
  · have hf' : failsB fs (k : Int) (s.k (k : Int) 2) = true := by rw [← failed_in hk]; exact hf
    cases hc : s.cutB
    · have := rerase_fail m gB gN gW gD L Af nf cf a b c d e fs k n w s hC hs.bnd hn hwt ho hk h8 (Lib.hid hc) hf'
      simpa using this
    · have := rerase_failcut m gB gN gW gD L Af nf cf a b c d e fs k n w s hC hs.bnd hn hwt ho hk h8 (Lib.hid hc) hf'
      simpa using this
theorem rarm_all (m gB gN gW gD L : Nat) (Af : Option Addr) (nf cf : Nat) (a b c d e : Int) (fs : List Flt) (xo xb : Int) (xf : Nat) (w : World) (s : ChS) (hC : RefW w m gB gN gW gD L Af nf cf a b c d e fs s) :
    Calls Try.prog 47 #[.pointer (some ⟨m, 0, none⟩), .agg #[.int .i64 xo, .int .i64 xb, .int .u8 (xf : Nat)]] w fun e' w' => e' = .returned (.int .i64 (s.armC xo xb)) ∧ RefW w' m gB gN gW gD L Af nf cf a b c d e fs (s.arm xo xb xf) ∧ Tch (rfB m gB gN gW gD) w w' := by
  cases ho : s.on
  · have e1 : s.armC xo xb = 9 := by simp [ChS.armC, ho]
    have e2 : s.arm xo xb xf = s := by simp [ChS.arm, ho]
    rw [e1, e2]
    refine (rarm_off m gB gN gW gD L Af nf cf a b c d e fs xo xb xf w s hC ho).mono ?_
    rintro e' w' ⟨rfl, hb⟩
    exact ⟨rfl, hC.below hb, Tch.of_below hb⟩
  by_cases hx : 1 ≤ xo ∧ xo ≤ 1073741824 ∧ 0 ≤ xb ∧ xb ≤ 1073741824
  · obtain ⟨x1, x2, x3, x4⟩ := hx
    have ha : armOkB xo xb = true := by unfold armOkB; simp; omega
    have e1 : s.armC xo xb = 0 := by simp [ChS.armC, ho, ha]
    have e2 : s.arm xo xb xf = { s with armed := true, turn := s.ops + xo, cop := xo, cby := xb, fill := xf } := by simp [ChS.arm, ho, ha]
    rw [e1, e2]
    refine (rarm_yes m gB gN gW gD L Af nf cf a b c d e fs xo xb xf w s hC ho x1 x2 x3 x4).mono ?_
    rintro e' w' ⟨rfl, h1, h2⟩
    exact ⟨rfl, h1, tch_r h2⟩
  · have ha : armOkB xo xb = false := by
      cases h : armOkB xo xb
      · rfl
      · exfalso
        apply hx
        unfold armOkB at h
        simp at h
        omega
    have e1 : s.armC xo xb = 2 := by simp [ChS.armC, ho, ha]
    have e2 : s.arm xo xb xf = s := by simp [ChS.arm, ha]
    rw [e1, e2]
    refine (rarm_arg m gB gN gW gD L Af nf cf a b c d e fs xo xb xf w s hC ho (by omega)).mono ?_
    rintro e' w' ⟨rfl, hb⟩
    exact ⟨rfl, hC.below hb, Tch.of_below hb⟩
end Go.Proofs.Ytplniojeaodjiaa
namespace Go.Proofs.Ytplniojeaodjiaa
open Go.ChangeShapes Go.WideShapes Go.ChangeAt Go.RowKit
set_option linter.unusedSimpArgs false
set_option linter.unusedVariables false

set_option maxHeartbeats 4000000 in
theorem rfail_any (m gB gN gW gD L : Nat) (Af : Option Addr) (nf cf : Nat) (a b c d e : Int) (fs : List Flt) (B : Int) (w : World) (s : ChS) (hC : RefW w m gB gN gW gD L Af nf cf a b c d e fs s) : Calls Try.prog 50 #[.pointer (some ⟨m, 0, none⟩), .int .i64 B] w fun e' w' => e' = .returned (.bool (failedB a fs s B)) ∧ Below w.heap.size w w' := by
  obtain ⟨NP, NB, RWc, cB, HCC⟩ := hC.cells
  have h8 := may_len hC.may
  cases hq : inB a B
  · rw [show failedB a fs s B = false by unfold failedB; rw [hq]; rfl]
    have hib := Lib.hid hq
    have y5 := HCC.y5; have y9 := HCC.y9
    clear hq HCC h8
    go_enter Try.func50, Try.ntmps50
    go_upto_region 1 with fail
    refine wp_region_noPanic ?_
    refine wp_region_held_drew (S := (fun w' => w'.cell? ⟨m, 5, none⟩ = some (.slice Af nf cf) ∧ w'.cell? ⟨m, 9, none⟩ = some (.slice (some ⟨gD, 0, none⟩) NB NB))) (by kernel_rfl) ?_ (fun hHeld => ?_)
    · (first | exact ⟨y5, y9, cD⟩ | exact ⟨y5, y9⟩ | assumption)
    refine wpAnyH_take (i := 0) (oi := ⟨some 5, .move (.tmp 0), 29, "ref.go:168", #[], none⟩) (v := ?_) rfl (by kernel_rfl) (by kernel_rfl) (by kernel_rfl) (fun _ _ _ h => h) (Or.inl ⟨by rfl, ?_⟩) (by assumption) ?_
    rotate_left
    · (intro wS hSw; (try dsimp only at hSw); go_simp; (try with_reducible rfl))
    try simp only [Act.put, pz1, pz2, pz3]
    refine wpAnyH_take (i := 1) (oi := ⟨some 6, .move (.tmp 1), 3, "ref.go:168", #[], none⟩) (v := ?_) rfl (by kernel_rfl) (by kernel_rfl) (by kernel_rfl) (fun _ _ _ h => h) (Or.inl ⟨by rfl, ?_⟩) (by assumption) ?_
    rotate_left
    · (intro wS hSw; (try dsimp only at hSw); go_simp; (try with_reducible rfl))
    try simp only [Act.put, pz1, pz2, pz3]
    refine wpAnyH_ready (rs := [2]) (by kernel_rfl) (by simp) ?_
    refine AllReadyH.cons (o := ⟨some 7, .call { callee := .value (.func 49), args := #[.tmp 5, .tmp 6], argTypes := #[29, 3] }, 4, "ref.go:168", #[⟨0, .data⟩, ⟨1, .data⟩], none⟩) rfl (fun K hK => ?_) AllReadyH.nil
    go_simp
    (go_at_call 49; ((with_reducible refine (rthere_b _ _ _ _ _ _ _ _ _ _ _ _ _ _ _ _ _ _ _ (by first | exact hC | exact RefW.drew hC) hib).mono ?_); rintro e' wN ⟨rfl, rfl⟩; skip))
    go_wp2_with fail
    refine hK.out _ _ ?_ (fun hNew => ?_)
    · (first | exact ⟨y5, y9, cD⟩ | exact ⟨y5, y9⟩ | assumption)
    clear hK K hHeld
    have hHeld := hNew
    clear hNew
    try simp only [Act.put, pz1, pz2, pz3]
    refine wpAnyH_take (i := 3) (oi := ⟨some 8, .move (.tmp 7), 4, "ref.go:168", #[⟨2, .data⟩, ⟨2, .chain⟩], none⟩) (v := ?_) rfl (by kernel_rfl) (by kernel_rfl) (by kernel_rfl) (fun _ _ _ h => h) (Or.inl ⟨by rfl, ?_⟩) (by assumption) ?_
    rotate_left
    · (intro wS hSw; (try dsimp only at hSw); go_simp; (try with_reducible rfl))
    try simp only [Act.put, pz1, pz2, pz3]
    refine wpAnyH_take (i := 4) (oi := ⟨some 9, .move (.tmp 0), 29, "ref.go:168", #[⟨3, .guard⟩], some (3, true)⟩) (v := undef) rfl (by kernel_rfl) (by kernel_rfl) (by kernel_rfl) (fun _ _ _ h => h) (Or.inr ⟨by rfl, rfl⟩) (by assumption) ?_
    try simp only [Act.put, pz1, pz2, pz3]
    refine wpAnyH_take (i := 5) (oi := ⟨some 10, .nilCheck (.tmp 9), 0, "ref.go:168", #[⟨4, .data⟩, ⟨3, .guard⟩], some (3, true)⟩) (v := undef) rfl (by kernel_rfl) (by kernel_rfl) (by kernel_rfl) (fun _ _ _ h => h) (Or.inr ⟨by rfl, rfl⟩) (by assumption) ?_
    try simp only [Act.put, pz1, pz2, pz3]
    refine wpAnyH_take (i := 6) (oi := ⟨some 11, .fieldAddr 42 (.tmp 10) 1, 0, "ref.go:168", #[⟨5, .data⟩, ⟨3, .guard⟩], some (3, true)⟩) (v := undef) rfl (by kernel_rfl) (by kernel_rfl) (by kernel_rfl) (fun _ _ _ h => h) (Or.inr ⟨by rfl, rfl⟩) (by assumption) ?_
    try simp only [Act.put, pz1, pz2, pz3]
    refine wpAnyH_take (i := 7) (oi := ⟨some 12, .load 24 (.tmp 11), 24, "ref.go:168", #[⟨6, .data⟩, ⟨3, .guard⟩], some (3, true)⟩) (v := undef) rfl (by kernel_rfl) (by kernel_rfl) (by kernel_rfl) (fun _ _ _ h => h) (Or.inr ⟨by rfl, rfl⟩) (by assumption) ?_
    try simp only [Act.put, pz1, pz2, pz3]
    refine wpAnyH_take (i := 8) (oi := ⟨some 13, .move (.tmp 1), 3, "ref.go:168", #[⟨3, .guard⟩], some (3, true)⟩) (v := undef) rfl (by kernel_rfl) (by kernel_rfl) (by kernel_rfl) (fun _ _ _ h => h) (Or.inr ⟨by rfl, rfl⟩) (by assumption) ?_
    try simp only [Act.put, pz1, pz2, pz3]
    refine wpAnyH_take (i := 9) (oi := ⟨some 14, .move (.tmp 0), 29, "ref.go:168", #[⟨3, .guard⟩], some (3, true)⟩) (v := undef) rfl (by kernel_rfl) (by kernel_rfl) (by kernel_rfl) (fun _ _ _ h => h) (Or.inr ⟨by rfl, rfl⟩) (by assumption) ?_
    try simp only [Act.put, pz1, pz2, pz3]
    refine wpAnyH_take (i := 10) (oi := ⟨some 15, .nilCheck (.tmp 14), 0, "ref.go:168", #[⟨9, .data⟩, ⟨3, .guard⟩], some (3, true)⟩) (v := undef) rfl (by kernel_rfl) (by kernel_rfl) (by kernel_rfl) (fun _ _ _ h => h) (Or.inr ⟨by rfl, rfl⟩) (by assumption) ?_
    try simp only [Act.put, pz1, pz2, pz3]
    refine wpAnyH_take (i := 11) (oi := ⟨some 16, .fieldAddr 42 (.tmp 15) 5, 0, "ref.go:168", #[⟨10, .data⟩, ⟨3, .guard⟩], some (3, true)⟩) (v := undef) rfl (by kernel_rfl) (by kernel_rfl) (by kernel_rfl) (fun _ _ _ h => h) (Or.inr ⟨by rfl, rfl⟩) (by assumption) ?_
    try simp only [Act.put, pz1, pz2, pz3]
    refine wpAnyH_take (i := 12) (oi := ⟨some 17, .load 40 (.tmp 16), 40, "ref.go:168", #[⟨11, .data⟩, ⟨3, .guard⟩], some (3, true)⟩) (v := undef) rfl (by kernel_rfl) (by kernel_rfl) (by kernel_rfl) (fun _ _ _ h => h) (Or.inr ⟨by rfl, rfl⟩) (by assumption) ?_
    try simp only [Act.put, pz1, pz2, pz3]
    refine wpAnyH_take (i := 13) (oi := ⟨some 18, .move (.tmp 1), 3, "ref.go:168", #[⟨3, .guard⟩], some (3, true)⟩) (v := undef) rfl (by kernel_rfl) (by kernel_rfl) (by kernel_rfl) (fun _ _ _ h => h) (Or.inr ⟨by rfl, rfl⟩) (by assumption) ?_
    try simp only [Act.put, pz1, pz2, pz3]
    refine wpAnyH_take (i := 14) (oi := ⟨some 19, .indexAddr 40 (.tmp 17) (.tmp 18), 0, "ref.go:168", #[⟨12, .data⟩, ⟨13, .data⟩, ⟨3, .guard⟩], some (3, true)⟩) (v := undef) rfl (by kernel_rfl) (by kernel_rfl) (by kernel_rfl) (fun _ _ _ h => h) (Or.inr ⟨by rfl, rfl⟩) (by assumption) ?_
    try simp only [Act.put, pz1, pz2, pz3]
    refine wpAnyH_take (i := 15) (oi := ⟨some 20, .load 3 (.tmp 19), 3, "ref.go:168", #[⟨14, .data⟩, ⟨3, .guard⟩], some (3, true)⟩) (v := undef) rfl (by kernel_rfl) (by kernel_rfl) (by kernel_rfl) (fun _ _ _ h => h) (Or.inr ⟨by rfl, rfl⟩) (by assumption) ?_
    try simp only [Act.put, pz1, pz2, pz3]
    refine wpAnyH_take (i := 16) (oi := ⟨some 21, .call { callee := .value (.func 70), args := #[.tmp 12, .tmp 13, .tmp 20], argTypes := #[24, 3, 3] }, 4, "ref.go:168", #[⟨7, .data⟩, ⟨8, .data⟩, ⟨15, .data⟩, ⟨3, .chain⟩, ⟨3, .guard⟩], some (3, true)⟩) (v := undef) rfl (by kernel_rfl) (by kernel_rfl) (by kernel_rfl) (fun _ _ _ h => h) (Or.inr ⟨by rfl, rfl⟩) (by assumption) ?_
    try simp only [Act.put, pz1, pz2, pz3]
    refine wpAnyH_take (i := 17) (oi := ⟨some 22, .pick (.tmp 8) (.tmp 21) (.const (.bool false)), 4, "ref.go:168", #[⟨3, .data⟩, ⟨16, .data⟩], none⟩) (v := ?_) rfl (by kernel_rfl) (by kernel_rfl) (by kernel_rfl) (fun _ _ _ h => h) (Or.inl ⟨by rfl, ?_⟩) (by assumption) ?_
    rotate_left
    · (intro wS hSw; (try dsimp only at hSw); go_simp; (try with_reducible rfl))
    try simp only [Act.put, pz1, pz2, pz3]
    refine wpAnyH_take (i := 18) (oi := ⟨some 4, .assign (.tmp 22), 4, "ref.go:168", #[⟨17, .data⟩, ⟨16, .chain⟩, ⟨0, .phase⟩, ⟨1, .phase⟩, ⟨2, .phase⟩, ⟨3, .phase⟩, ⟨4, .phase⟩, ⟨5, .phase⟩, ⟨6, .phase⟩, ⟨7, .phase⟩, ⟨8, .phase⟩, ⟨9, .phase⟩, ⟨10, .phase⟩, ⟨11, .phase⟩, ⟨12, .phase⟩, ⟨13, .phase⟩, ⟨14, .phase⟩, ⟨15, .phase⟩, ⟨16, .phase⟩, ⟨17, .phase⟩], none⟩) (v := ?_) rfl (by kernel_rfl) (by kernel_rfl) (by kernel_rfl) (fun _ _ _ h => h) (Or.inl ⟨by rfl, ?_⟩) (by assumption) ?_
    rotate_left
    · (intro wS hSw; (try dsimp only at hSw); go_simp; (try with_reducible rfl))
    try simp only [Act.put, pz1, pz2, pz3]
    refine wpAnyH_done (by kernel_rfl) ?_ _
    refine NoPanic.normal ?_
    go_wp2_with fail
    go_ret
    exact ⟨rfl, (by first | exact Below.refl _ _ | exact (Below.refl _ _).drew)⟩
  · have hib := Lib.hid hq
    obtain ⟨k, rfl, hk⟩ := inB_out hq
    have hfe := failed_in (fs := fs) (s := s) hk
    obtain ⟨v2, hv2⟩ : ∃ v, s.k (k : Int) 2 = v := ⟨_, rfl⟩
    rw [hv2] at hfe
    obtain ⟨T, hT⟩ : ∃ T, failsB fs (k : Int) v2 = T := ⟨_, rfl⟩
    rw [hfe, hT]
    have HFL := Lib.hid hT
    have i0 : (0 : Int) ≤ (k : Int) := by omega
    have i1 : (k : Int) < (NB : Int) := by have := HCC.hNB.out; omega
    have cD := HCC.n2 k (by omega)
    rw [hv2] at cD
    have y5 := HCC.y5; have y9 := HCC.y9
    clear hq hfe hv2 hT hk
    go_enter Try.func50, Try.ntmps50
    go_upto_region 1 with fail
    refine wp_region_noPanic ?_
    refine wp_region_held_drew (S := (fun w' => w'.cell? ⟨m, 5, none⟩ = some (.slice Af nf cf) ∧ w'.cell? ⟨m, 9, none⟩ = some (.slice (some ⟨gD, 0, none⟩) NB NB) ∧ w'.cell? ⟨gD, k, none⟩ = some (.int .i64 v2))) (by kernel_rfl) ?_ (fun hHeld => ?_)
    · (first | exact ⟨y5, y9, cD⟩ | exact ⟨y5, y9⟩ | assumption)
    refine wpAnyH_take (i := 0) (oi := ⟨some 5, .move (.tmp 0), 29, "ref.go:168", #[], none⟩) (v := ?_) rfl (by kernel_rfl) (by kernel_rfl) (by kernel_rfl) (fun _ _ _ h => h) (Or.inl ⟨by rfl, ?_⟩) (by assumption) ?_
    rotate_left
    · (intro wS hSw; (try dsimp only at hSw); go_simp; (try with_reducible rfl))
    try simp only [Act.put, pz1, pz2, pz3]
    refine wpAnyH_take (i := 1) (oi := ⟨some 6, .move (.tmp 1), 3, "ref.go:168", #[], none⟩) (v := ?_) rfl (by kernel_rfl) (by kernel_rfl) (by kernel_rfl) (fun _ _ _ h => h) (Or.inl ⟨by rfl, ?_⟩) (by assumption) ?_
    rotate_left
    · (intro wS hSw; (try dsimp only at hSw); go_simp; (try with_reducible rfl))
    try simp only [Act.put, pz1, pz2, pz3]
    refine wpAnyH_ready (rs := [2]) (by kernel_rfl) (by simp) ?_
    refine AllReadyH.cons (o := ⟨some 7, .call { callee := .value (.func 49), args := #[.tmp 5, .tmp 6], argTypes := #[29, 3] }, 4, "ref.go:168", #[⟨0, .data⟩, ⟨1, .data⟩], none⟩) rfl (fun K hK => ?_) AllReadyH.nil
    go_simp
    (first | (go_at_call 49; ((with_reducible refine (rthere_b _ _ _ _ _ _ _ _ _ _ _ _ _ _ _ _ _ _ _ (by first | exact hC | exact RefW.drew hC) hib).mono ?_); rintro e' wN ⟨rfl, rfl⟩; skip)) | (go_at_call 70; ((with_reducible refine (rpfails_b fs Af nf cf _ _ _ _ (by first | exact hC.flt.sl | exact (RefW.drew hC).flt.sl) hC.nf (by omega) HFL).mono ?_); rintro e' wN ⟨rfl, hb⟩; (try have hb := undrew hb); have HBF := hb; replace hC := RefW.likeB hC hb; replace HCC := RefC.below HCC hb; replace cD := cellOf hb cD; clear y5 y9; have y5 := HCC.y5; have y9 := HCC.y9)))
    go_wp2_with fail
    refine hK.out _ _ ?_ (fun hNew => ?_)
    · (first | exact ⟨y5, y9, cD⟩ | exact ⟨y5, y9⟩ | assumption)
    clear hK K hHeld
    have hHeld := hNew
    clear hNew
    try simp only [Act.put, pz1, pz2, pz3]
    refine wpAnyH_take (i := 3) (oi := ⟨some 8, .move (.tmp 7), 4, "ref.go:168", #[⟨2, .data⟩, ⟨2, .chain⟩], none⟩) (v := ?_) rfl (by kernel_rfl) (by kernel_rfl) (by kernel_rfl) (fun _ _ _ h => h) (Or.inl ⟨by rfl, ?_⟩) (by assumption) ?_
    rotate_left
    · (intro wS hSw; (try dsimp only at hSw); go_simp; (try with_reducible rfl))
    try simp only [Act.put, pz1, pz2, pz3]
    refine wpAnyH_take (i := 4) (oi := ⟨some 9, .move (.tmp 0), 29, "ref.go:168", #[⟨3, .guard⟩], some (3, true)⟩) (v := ?_) rfl (by kernel_rfl) (by kernel_rfl) (by kernel_rfl) (fun _ _ _ h => h) (Or.inl ⟨by rfl, ?_⟩) (by assumption) ?_
    rotate_left
    · (intro wS hSw; (try dsimp only at hSw); go_simp; (try with_reducible rfl))
    try simp only [Act.put, pz1, pz2, pz3]
    refine wpAnyH_take (i := 5) (oi := ⟨some 10, .nilCheck (.tmp 9), 0, "ref.go:168", #[⟨4, .data⟩, ⟨3, .guard⟩], some (3, true)⟩) (v := ?_) rfl (by kernel_rfl) (by kernel_rfl) (by kernel_rfl) (fun _ _ _ h => h) (Or.inl ⟨by rfl, ?_⟩) (by assumption) ?_
    rotate_left
    · (intro wS hSw; (try dsimp only at hSw); go_simp; (try with_reducible rfl))
    try simp only [Act.put, pz1, pz2, pz3]
    refine wpAnyH_take (i := 6) (oi := ⟨some 11, .fieldAddr 42 (.tmp 10) 1, 0, "ref.go:168", #[⟨5, .data⟩, ⟨3, .guard⟩], some (3, true)⟩) (v := ?_) rfl (by kernel_rfl) (by kernel_rfl) (by kernel_rfl) (fun _ _ _ h => h) (Or.inl ⟨by rfl, ?_⟩) (by assumption) ?_
    rotate_left
    · (intro wS hSw; (try dsimp only at hSw); go_simp; (try with_reducible rfl))
    try simp only [Act.put, pz1, pz2, pz3]
    refine wpAnyH_take (i := 7) (oi := ⟨some 12, .load 24 (.tmp 11), 24, "ref.go:168", #[⟨6, .data⟩, ⟨3, .guard⟩], some (3, true)⟩) (v := ?_) rfl (by kernel_rfl) (by kernel_rfl) (by kernel_rfl) (fun _ _ _ h => h) (Or.inl ⟨by rfl, ?_⟩) (by assumption) ?_
    rotate_left
    · (intro wS hSw; (try dsimp only at hSw); go_simp; (try with_reducible rfl))
    try simp only [Act.put, pz1, pz2, pz3]
    refine wpAnyH_take (i := 8) (oi := ⟨some 13, .move (.tmp 1), 3, "ref.go:168", #[⟨3, .guard⟩], some (3, true)⟩) (v := ?_) rfl (by kernel_rfl) (by kernel_rfl) (by kernel_rfl) (fun _ _ _ h => h) (Or.inl ⟨by rfl, ?_⟩) (by assumption) ?_
    rotate_left
    · (intro wS hSw; (try dsimp only at hSw); go_simp; (try with_reducible rfl))
    try simp only [Act.put, pz1, pz2, pz3]
    refine wpAnyH_take (i := 9) (oi := ⟨some 14, .move (.tmp 0), 29, "ref.go:168", #[⟨3, .guard⟩], some (3, true)⟩) (v := ?_) rfl (by kernel_rfl) (by kernel_rfl) (by kernel_rfl) (fun _ _ _ h => h) (Or.inl ⟨by rfl, ?_⟩) (by assumption) ?_
    rotate_left
    · (intro wS hSw; (try dsimp only at hSw); go_simp; (try with_reducible rfl))
    try simp only [Act.put, pz1, pz2, pz3]
    refine wpAnyH_take (i := 10) (oi := ⟨some 15, .nilCheck (.tmp 14), 0, "ref.go:168", #[⟨9, .data⟩, ⟨3, .guard⟩], some (3, true)⟩) (v := ?_) rfl (by kernel_rfl) (by kernel_rfl) (by kernel_rfl) (fun _ _ _ h => h) (Or.inl ⟨by rfl, ?_⟩) (by assumption) ?_
    rotate_left
    · (intro wS hSw; (try dsimp only at hSw); go_simp; (try with_reducible rfl))
    try simp only [Act.put, pz1, pz2, pz3]
    refine wpAnyH_take (i := 11) (oi := ⟨some 16, .fieldAddr 42 (.tmp 15) 5, 0, "ref.go:168", #[⟨10, .data⟩, ⟨3, .guard⟩], some (3, true)⟩) (v := ?_) rfl (by kernel_rfl) (by kernel_rfl) (by kernel_rfl) (fun _ _ _ h => h) (Or.inl ⟨by rfl, ?_⟩) (by assumption) ?_
    rotate_left
    · (intro wS hSw; (try dsimp only at hSw); go_simp; (try with_reducible rfl))
    try simp only [Act.put, pz1, pz2, pz3]
    refine wpAnyH_take (i := 12) (oi := ⟨some 17, .load 40 (.tmp 16), 40, "ref.go:168", #[⟨11, .data⟩, ⟨3, .guard⟩], some (3, true)⟩) (v := ?_) rfl (by kernel_rfl) (by kernel_rfl) (by kernel_rfl) (fun _ _ _ h => h) (Or.inl ⟨by rfl, ?_⟩) (by assumption) ?_
    rotate_left
    · (intro wS hSw; (try dsimp only at hSw); go_simp; (try with_reducible rfl))
    try simp only [Act.put, pz1, pz2, pz3]
    refine wpAnyH_take (i := 13) (oi := ⟨some 18, .move (.tmp 1), 3, "ref.go:168", #[⟨3, .guard⟩], some (3, true)⟩) (v := ?_) rfl (by kernel_rfl) (by kernel_rfl) (by kernel_rfl) (fun _ _ _ h => h) (Or.inl ⟨by rfl, ?_⟩) (by assumption) ?_
    rotate_left
    · (intro wS hSw; (try dsimp only at hSw); go_simp; (try with_reducible rfl))
    try simp only [Act.put, pz1, pz2, pz3]
    refine wpAnyH_take (i := 14) (oi := ⟨some 19, .indexAddr 40 (.tmp 17) (.tmp 18), 0, "ref.go:168", #[⟨12, .data⟩, ⟨13, .data⟩, ⟨3, .guard⟩], some (3, true)⟩) (v := ?_) rfl (by kernel_rfl) (by kernel_rfl) (by kernel_rfl) (fun _ _ _ h => h) (Or.inl ⟨by rfl, ?_⟩) (by assumption) ?_
    rotate_left
    · (intro wS hSw; (try dsimp only at hSw); go_simp; (try with_reducible rfl))
    try simp only [Act.put, pz1, pz2, pz3]
    refine wpAnyH_take (i := 15) (oi := ⟨some 20, .load 3 (.tmp 19), 3, "ref.go:168", #[⟨14, .data⟩, ⟨3, .guard⟩], some (3, true)⟩) (v := ?_) rfl (by kernel_rfl) (by kernel_rfl) (by kernel_rfl) (fun _ _ _ h => h) (Or.inl ⟨by rfl, ?_⟩) (by assumption) ?_
    rotate_left
    · (intro wS hSw; (try dsimp only at hSw); go_simp; (try with_reducible rfl))
    try simp only [Act.put, pz1, pz2, pz3]
    refine wpAnyH_ready (rs := [16]) (by kernel_rfl) (by simp) ?_
    refine AllReadyH.cons (o := ⟨some 21, .call { callee := .value (.func 70), args := #[.tmp 12, .tmp 13, .tmp 20], argTypes := #[24, 3, 3] }, 4, "ref.go:168", #[⟨7, .data⟩, ⟨8, .data⟩, ⟨15, .data⟩, ⟨3, .chain⟩, ⟨3, .guard⟩], some (3, true)⟩) rfl (fun K hK => ?_) AllReadyH.nil
    go_simp
    (first | (go_at_call 49; ((with_reducible refine (rthere_b _ _ _ _ _ _ _ _ _ _ _ _ _ _ _ _ _ _ _ (by first | exact hC | exact RefW.drew hC) hib).mono ?_); rintro e' wN ⟨rfl, rfl⟩; skip)) | (go_at_call 70; ((with_reducible refine (rpfails_b fs Af nf cf _ _ _ _ (by first | exact hC.flt.sl | exact (RefW.drew hC).flt.sl) hC.nf (by omega) HFL).mono ?_); rintro e' wN ⟨rfl, hb⟩; (try have hb := undrew hb); have HBF := hb; replace hC := RefW.likeB hC hb; replace HCC := RefC.below HCC hb; replace cD := cellOf hb cD; clear y5 y9; have y5 := HCC.y5; have y9 := HCC.y9)))
    go_wp2_with fail
    refine hK.out _ _ ?_ (fun hNew => ?_)
    · (first | exact ⟨y5, y9, cD⟩ | exact ⟨y5, y9⟩ | assumption)
    clear hK K hHeld
    have hHeld := hNew
    clear hNew
    try simp only [Act.put, pz1, pz2, pz3]
    refine wpAnyH_take (i := 17) (oi := ⟨some 22, .pick (.tmp 8) (.tmp 21) (.const (.bool false)), 4, "ref.go:168", #[⟨3, .data⟩, ⟨16, .data⟩], none⟩) (v := ?_) rfl (by kernel_rfl) (by kernel_rfl) (by kernel_rfl) (fun _ _ _ h => h) (Or.inl ⟨by rfl, ?_⟩) (by assumption) ?_
    rotate_left
    · (intro wS hSw; (try dsimp only at hSw); go_simp; (try with_reducible rfl))
    try simp only [Act.put, pz1, pz2, pz3]
    refine wpAnyH_take (i := 18) (oi := ⟨some 4, .assign (.tmp 22), 4, "ref.go:168", #[⟨17, .data⟩, ⟨16, .chain⟩, ⟨0, .phase⟩, ⟨1, .phase⟩, ⟨2, .phase⟩, ⟨3, .phase⟩, ⟨4, .phase⟩, ⟨5, .phase⟩, ⟨6, .phase⟩, ⟨7, .phase⟩, ⟨8, .phase⟩, ⟨9, .phase⟩, ⟨10, .phase⟩, ⟨11, .phase⟩, ⟨12, .phase⟩, ⟨13, .phase⟩, ⟨14, .phase⟩, ⟨15, .phase⟩, ⟨16, .phase⟩, ⟨17, .phase⟩], none⟩) (v := ?_) rfl (by kernel_rfl) (by kernel_rfl) (by kernel_rfl) (fun _ _ _ h => h) (Or.inl ⟨by rfl, ?_⟩) (by assumption) ?_
    rotate_left
    · (intro wS hSw; (try dsimp only at hSw); go_simp; (try with_reducible rfl))
    try simp only [Act.put, pz1, pz2, pz3]
    refine wpAnyH_done (by kernel_rfl) ?_ _
    refine NoPanic.normal ?_
    go_wp2_with fail
    go_ret
    exact ⟨rfl, HBF⟩
end Go.Proofs.Ytplniojeaodjiaa
namespace Go.Proofs.Ytplniojeaodjiaa
open Go.ChangeShapes Go.WideShapes Go.ChangeAt Go.RowKit
set_option linter.unusedSimpArgs false
set_option linter.unusedVariables false

/-- What stands on a block's pages while it is being filled. -/
def Filled (s : ChS) (b c : Int) (n k i : Nat) : Prop :=
  s.k (k : Int) 0 = (i : Int) ∧ s.k (k : Int) 1 = 0 ∧ ∀ l RW N : Nat, (RW : Int) = c + 16 → (l : Int) < b → (N : Int) = (k : Int) * b + (l : Int) → s.pageOf N RW = if l < i then bytesL ((n + l) % 256) RW else List.replicate RW 255
theorem Filled.next {s : ChS} {b c : Int} {n k i : Nat} (h : Filled s b c n k i) : s.k (k : Int) 0 = (i : Int) := h.1
theorem Filled.pages {s : ChS} {b c : Int} {n k i : Nat} (h : Filled s b c n k i) : ∀ l RW N : Nat, (RW : Int) = c + 16 → (l : Int) < b → (N : Int) = (k : Int) * b + (l : Int) → s.pageOf N RW = if l < i then bytesL ((n + l) % 256) RW else List.replicate RW 255 := h.2.2
theorem Filled.of {s S : ChS} {b c : Int} {n k i : Nat} (h : Filled s b c n k i) (hk : ∀ B j, S.k B j = s.k B j) (hX : S.X = s.X) : Filled S b c n k i := by
  refine ⟨(hk _ _).trans h.1, (hk _ _).trans h.2.1, fun l RW N h1 h2 h3 => ?_⟩
  have := h.2.2 l RW N h1 h2 h3
  unfold ChS.pageOf at this ⊢
  rw [hX]
  exact this
theorem Filled.more {s S : ChS} {b c : Int} {n k i N0 RW0 : Nat} (h : Filled s b c n k i) (hr : (RW0 : Int) = c + 16) (hN : (N0 : Int) = (k : Int) * b + (i : Int)) (h0 : S.k (k : Int) 0 = (i : Int) + 1) (h1 : S.k (k : Int) 1 = s.k (k : Int) 1) (hp : S.pageOf N0 RW0 = bytesL ((n + i) % 256) RW0) (ho : ∀ N', N0 ≠ N' → S.pageOf N' RW0 = s.pageOf N' RW0) : Filled S b c n k (i + 1) := by
  refine ⟨by rw [h0]; omega, h1.trans h.2.1, fun l RW N q1 q2 q3 => ?_⟩
  obtain rfl : RW = RW0 := by omega
  by_cases hl : l = i
  · subst hl
    obtain rfl : N = N0 := by omega
    rw [hp, if_pos (by omega)]
  · rw [ho N (by omega), h.2.2 l RW N q1 q2 q3]
    by_cases h2 : l < i
    · rw [if_pos h2, if_pos (by omega)]
    · rw [if_neg h2, if_neg (by omega)]
end Go.Proofs.Ytplniojeaodjiaa
namespace Go.Proofs.Ytplniojeaodjiaa
open Go.ChangeShapes Go.WideShapes Go.ChangeAt Go.RowKit
set_option linter.unusedSimpArgs false
set_option linter.unusedVariables false

set_option maxHeartbeats 4000000 in
theorem bytes_all (n : Nat) (z : Int) (Q : Nat) (w : World) (hn : n < 256) (hz : i64in z) (hQz : (Q : Int) = min (max z 0) 200) : Calls Try.prog 18 #[.int .u8 (n : Int), .int .i64 z] w fun e' w' => (∃ g, e' = .returned (.slice (some ⟨g, 0, none⟩) Q Q) ∧ RowT w' g 5 ((bytesL n Q).map byteV) ∧ w.heap.size ≤ g) ∧ Below w.heap.size w w' := by
  have hQ : Q ≤ 200 := by omega
  have i0 : (0 : Int) ≤ (Q : Int) := by omega
  have i1 : (Q : Int) ≤ 200 := by omega
  obtain ⟨M, hM⟩ : ∃ M : Int, M = max z 0 := ⟨_, rfl⟩
  have m1 : max z 0 = M := hM.symm
  have m2 : (if z < 0 then (0 : Int) else z) = M := by rw [hM]; split <;> omega
  have m3 : (if (200 : Int) < M then (200 : Int) else M) = (Q : Int) := by rw [hQz, ← hM]; split <;> omega
  clear hM hQz
  go_enter Try.func18, Try.ntmps18
  go_wp2_with (at_make; obtain ⟨ti0, hi, hz0, hz1, hz2⟩ := info_parts infoByte; refine wpList_make_full _ rfl _ _ 48 rfl w.heap.size 5 ti0 (.int .u8 0) 1 Try.underlying48 hi hz0 hz1 _ _ _ _ Q rfl rfl rfl rfl (by rw [hz2]; omega) (by unfold maxLen; omega) (Nat.le_refl _) ?_; intro w1 hown1 hgrow1; clear hi hz0 hz1 hz2)
  have hB1 : Below w.heap.size w w1 := (Below.refl _ _).grown hgrow1 (Nat.le_refl _) (fun j hj => by cases hj)
  rw [show (madeCells (Value.int .u8 0).cells (Q * 1)).toList = List.replicate (Q * 1) (Value.int .u8 0) from toList_madeCells_one _ _, Nat.mul_one] at hown1
  have hR1 : RowT w1 w.heap.size 5 (bytesP n Q 0) := by rw [bytesP_zero]; exact own_rowS hown1
  clear hown1 hgrow1
  go_loopw [6] (fun s6 wr => ∃ k : Nat, k ≤ Q ∧ s6 = .int .i64 (k : Int) ∧ RowT wr w.heap.size 5 (bytesP n Q k) ∧ Below w.heap.size w wr) (fun s6 _ => Q - (intOf s6).toNat)
  case atStart => exact ⟨0, Nat.zero_le _, rfl, hR1, hB1⟩
  case round =>
    clear hR1 hB1
    obtain ⟨k, hk, rfl, hR, hB⟩ := hrel
    by_cases hlt : k < Q
    · have c0 := hR.cell_ (bytesP_at n Q k hlt)
      have f0 := hR.free k
      have k0 : (0 : Int) ≤ (k : Int) := by omega
      have k1 : (k : Int) < (Q : Int) := by omega
      have k2 : (k : Int) ≤ 200 := by omega
      have hs := hR.set_ (by rw [bytesP_len n Q k (by omega)]; exact hlt) (byteV ((n + k * 7) % 256))
      rw [bytesP_step n Q k hlt] at hs
      have HS := Lib.hid hs
      clear hs
      unfold byteV at c0
      go_wp2_with fail
      go_roundw
      case rel =>
        refine ⟨k + 1, by omega, by go_num, ?_, hB.setCell (Nat.le_refl _) _⟩
        have e1 : (((n + k * 7) % 256 : Nat) : Int) = ((n : Int) + (k : Int) * 7) % 256 := by omega
        rw [← e1]
        exact HS.out
      case measure => simp [intOf]; omega
    · have hkQ : k = Q := by omega
      subst hkQ
      rw [bytesP_full] at hR
      have HR := Lib.hid hR
      clear hR
      go_wp2_with fail
      go_ret
      exact ⟨⟨_, rfl, HR.out, Nat.le_refl _⟩, hB⟩
theorem Fine.tick {s : ChS} {n : Int} (h : Fine s n) : Fine s.tick (n + 1) := by
  refine ⟨tick_bnd h.bnd, by rw [tick_cby]; exact h.cby, ?_⟩
  have : s.tick.fill = s.fill := by unfold ChS.tick; split <;> rfl
  rw [this]
  exact h.fill
theorem Fine.mono {s : ChS} {n n' : Int} (h : Fine s n) (hn : n ≤ n') : Fine s n' := ⟨bnd_mono h.bnd hn, h.cby, h.fill⟩
/-- A block stays as it was. -/
structure Same (s S : ChS) (b c : Int) (k : Nat) : Prop where
  kk : ∀ i : Nat, i < 3 → S.k (k : Int) i = s.k (k : Int) i
  pg : ∀ l RW N : Nat, (RW : Int) = c + 16 → (l : Int) < b → (N : Int) = (k : Int) * b + (l : Int) → S.pageOf N RW = s.pageOf N RW
theorem Same.refl (s : ChS) (b c : Int) (k : Nat) : Same s s b c k := ⟨fun _ _ => rfl, fun _ _ _ _ _ _ => rfl⟩
theorem Same.like {s S : ChS} {b c : Int} {k : Nat} (h1 : S.X = s.X) (h2 : S.K = s.K) : Same s S b c k :=
  ⟨fun i _ => by unfold ChS.k; rw [h2], fun l RW N _ _ _ => by unfold ChS.pageOf; rw [h1]⟩
theorem num_ne {b : Int} {x k y l N N' : Nat} (hb : 0 < b) (hx : x ≠ k) (hy : (y : Int) < b) (hl : (l : Int) < b) (h1 : (N : Int) = (x : Int) * b + (y : Int)) (h2 : (N' : Int) = (k : Int) * b + (l : Int)) : N ≠ N' := by
  intro e
  subst e
  rcases Nat.lt_or_gt_of_ne hx with h | h
  · have := Int.mul_le_mul_of_nonneg_right (a := (x : Int) + 1) (b := (k : Int)) (c := b) (by omega) (by omega)
    rw [Int.add_mul, Int.one_mul] at this
    omega
  · have := Int.mul_le_mul_of_nonneg_right (a := (k : Int) + 1) (b := (x : Int)) (c := b) (by omega) (by omega)
    rw [Int.add_mul, Int.one_mul] at this
    omega
theorem prog_same {w : World} {m gx gb : Nat} {Af : Option Addr} {nf cf : Nat} {a b c d e : Int} {fs : List Flt} {s : ChS} (hC : ChipW w m gx gb Af nf cf a b c d e fs s) {n : Int} (hs : Fine s n) (x y : Int) (bs : List Nat) (k : Nat) (hx : x ≠ (k : Int)) : Same s (s.progS a b c fs x y bs) b c k ∧ Fine (s.progS a b c fs x y bs) (n + 3) := by
  unfold ChS.progS
  cases ho : s.on
  · exact ⟨Same.refl _ _ _ _, hs.mono (by omega)⟩
  cases ht : thereB a b x y
  · exact ⟨Same.refl _ _ _ _, hs.mono (by omega)⟩
  by_cases hL : (bs.length : Int) = c + 16
  · rw [decide_eq_true hL]
    obtain ⟨j, l, rfl, rfl, hj, hl⟩ := there_nat ht
    obtain ⟨N, RW, hnum, hrw, hfit, r1, r2, hN2, hNN⟩ := page_ok hC hj hl
    have hRW : RW = bs.length := by omega
    subst hRW
    have hN' : ((j : Int) * b + (l : Int)).toNat = N := by omega
    have hb := (may_bd (planMay_bd hC.may).1).2.2.1
    simp only [Bool.and_self, if_true, Int.toNat_natCast, hN']
    have hne : ∀ l' N' : Nat, (l' : Int) < b → (N' : Int) = (k : Int) * b + (l' : Int) → N ≠ N' := fun l' N' h1 h2 => num_ne (by omega) (by omega) hl h1 hNN h2
    by_cases hw : s.wrong a fs j l = 0
    · rw [if_pos hw]
      cases hc : s.cutB
      · rw [if_neg (by simp)]
        have hp := prog_on (s := s) j N bs.length bs
        refine ⟨⟨fun i hi => prog_kl N bs.length bs k i (by omega) hi, fun l' RW' N' h1 h2 h3 => ?_⟩, ⟨prog_bnd hs.bnd j N bs.length bs, ?_, ?_⟩⟩
        · obtain rfl : RW' = bs.length := by omega
          unfold ChS.pageOf
          rw [hp.2.2.2.2.2.1]
          exact putX_page_other rfl hfit (hne l' N' h2 h3)
        · exact hs.tick.cby
        · exact hs.tick.fill
      · rw [if_pos rfl]
        have hl2 : (bs.take (min bs.length s.cby.toNat)).length ≤ bs.length := by rw [List.length_take]; omega
        obtain ⟨p1, p2⟩ := progCut_fields (s := s) j N bs.length (bs.take (min bs.length s.cby.toNat))
        refine ⟨⟨fun i hi => ?_, fun l' RW' N' h1 h2 h3 => ?_⟩, ⟨?_, ?_, ?_⟩⟩
        · unfold ChS.k
          rw [p2, Int.toNat_natCast, getD_setN, if_neg (by omega)]
        · obtain rfl : RW' = bs.length := by omega
          unfold ChS.pageOf
          rw [p1]
          exact putX_part_other hl2 hfit (hne l' N' h2 h3)
        · have h1 := inc_bnd (bnd_X (tick_bnd hs.bnd) (putX s.X (N * bs.length) (bs.take (min bs.length s.cby.toNat)))) j 0
          exact bnd_mono h1 (by omega)
        · exact hs.tick.cby
        · exact hs.tick.fill
    · rw [if_neg hw]
      exact ⟨Same.like (tick_X s) (tick_K s), hs.tick.mono (by omega)⟩
  · rw [decide_eq_false hL]
    exact ⟨Same.refl _ _ _ _, hs.mono (by omega)⟩
theorem erase_same {w : World} {m gx gb : Nat} {Af : Option Addr} {nf cf : Nat} {a b c d e : Int} {fs : List Flt} {s : ChS} (hC : ChipW w m gx gb Af nf cf a b c d e fs s) {n : Int} (hs : Fine s n) (hn0 : 20 ≤ n) (x : Int) (k : Nat) (hx : x ≠ (k : Int)) : Same s (s.eraseS a b c fs x) b c k ∧ Fine (s.eraseS a b c fs x) (n + 3) := by
  unfold ChS.eraseS
  cases ho : s.on
  · exact ⟨Same.refl _ _ _ _, hs.mono (by omega)⟩
  cases ht : inB a x
  · exact ⟨Same.refl _ _ _ _, hs.mono (by omega)⟩
  obtain ⟨j, rfl, hj⟩ := in_nat ht
  obtain ⟨SZ, RW, hrw, hsz, hfit, z1, z2⟩ := blk_ok hC hj
  have hS : (b * (c + 16)).toNat = SZ := by omega
  rw [hS, Int.toNat_natCast]
  simp only [Bool.and_self, if_true]
  cases hf : failedB a fs s (j : Int)
  · rw [if_neg (by simp)]
    obtain ⟨F, hF⟩ : ∃ F, (if s.cutB = true then s.fill else 255) = F := ⟨_, rfl⟩
    rw [hF]
    have hq := wiped (f := F) hC hj hs.bnd hn0 hrw hsz hfit
    exact ⟨⟨fun i hi => hq.ko k i (by omega) hi, fun l RW' N h1 h2 h3 => hq.po k l RW' N (by omega) h1 h2 h3⟩, ⟨hq.bnd, hs.tick.cby, hs.tick.fill⟩⟩
  · rw [if_pos rfl]
    exact ⟨Same.like (tick_X s) (tick_K s), hs.tick.mono (by omega)⟩
theorem arm_same (s : ChS) (b c : Int) {n : Int} (hs : Fine s n) (xo xb : Int) (xf k : Nat) (hf : xf < 256) : Same s (s.arm xo xb xf) b c k ∧ Fine (s.arm xo xb xf) n := by
  unfold ChS.arm
  cases h : s.on && armOkB xo xb
  · exact ⟨Same.refl _ _ _ _, hs⟩
  · have hx : 0 ≤ xb := by
      simp only [Bool.and_eq_true] at h
      have := h.2
      unfold armOkB at this
      simp at this
      omega
    obtain ⟨o0, o1, c0, c1, k0, k1⟩ := hs.bnd
    exact ⟨Same.like rfl rfl, ⟨⟨o0, o1, c0, c1, k0, k1⟩, hx, hf⟩⟩
theorem boot_same (s : ChS) (b c : Int) {n : Int} (hs : Fine s n) (k : Nat) : Same s s.boot b c k ∧ Fine s.boot n := by
  unfold ChS.boot
  cases h : s.on
  · obtain ⟨o0, o1, c0, c1, k0, k1⟩ := hs.bnd
    exact ⟨Same.like rfl rfl, ⟨⟨o0, o1, c0, c1, k0, k1⟩, hs.cby, hs.fill⟩⟩
  · exact ⟨Same.refl _ _ _ _, hs⟩
end Go.Proofs.Ytplniojeaodjiaa
namespace Go.Proofs.Ytplniojeaodjiaa
open Go.ChangeShapes Go.WideShapes Go.ChangeAt Go.RowKit
set_option linter.unusedSimpArgs false
set_option linter.unusedVariables false

theorem Wt.tick {s : ChS} (h : s.Wt) : s.tick.Wt := by
  unfold ChS.tick
  split
  · exact ⟨fun e => (by cases e), fun e => (by cases e)⟩
  · next hc =>
    refine ⟨fun e => ?_, fun e => h.w1 e⟩
    have e' : s.armed = true := e
    have h0 := h.w0 e'
    have : ¬ s.ops + 1 = s.turn := fun e2 => hc (by unfold ChS.cutB; rw [e', decide_eq_true e2]; rfl)
    show s.ops + 1 + 1 ≤ s.turn
    omega
theorem Wt.of {s s' : ChS} (h : s.Wt) (h1 : s'.armed = s.armed) (h2 : s'.turn = s.turn) (h3 : s'.ops = s.ops) : s'.Wt :=
  ⟨fun e => by rw [h2, h3]; exact h.w0 (h1 ▸ e), fun e => by rw [h2]; exact h.w1 (h1 ▸ e)⟩
theorem Wt.read {s : ChS} (h : s.Wt) (a b x y : Int) : (s.readS a b x y).Wt := by
  unfold ChS.readS
  split
  · exact Wt.tick h
  · exact h
theorem Wt.prog {s : ChS} (h : s.Wt) (a b c : Int) (fs : List Flt) (x y : Int) (bs : List Nat) : (s.progS a b c fs x y bs).Wt := by
  unfold ChS.progS
  split
  · split
    · split
      · exact Wt.of (Wt.tick h) rfl rfl rfl
      · exact Wt.of (Wt.tick h) rfl rfl rfl
    · exact Wt.tick h
  · exact h
theorem Wt.erase {s : ChS} (h : s.Wt) (a b c : Int) (fs : List Flt) (x : Int) : (s.eraseS a b c fs x).Wt := by
  unfold ChS.eraseS
  split
  · split
    · exact Wt.tick h
    · exact Wt.of (Wt.tick h) rfl rfl rfl
  · exact h
theorem Wt.boot {s : ChS} (h : s.Wt) : s.boot.Wt := by
  unfold ChS.boot
  split
  · exact h
  · exact ⟨fun e => (by cases e), fun e => (by cases e)⟩
theorem Wt.arm {s : ChS} {n : Int} (h : s.Wt) (hb : s.Bnd n) (hn : n ≤ 900000000) (xo xb : Int) (xf : Nat) : (s.arm xo xb xf).Wt := by
  unfold ChS.arm
  split
  · next hc =>
    simp only [Bool.and_eq_true] at hc
    obtain ⟨_, hc⟩ := hc
    unfold armOkB at hc
    simp only [Bool.and_eq_true, decide_eq_true_eq] at hc
    obtain ⟨⟨⟨h1, h2⟩, h3⟩, h4⟩ := hc
    have := hb.o0
    have := hb.o1
    refine ⟨fun _ => ?_, fun _ => ?_⟩
    · show s.ops + 1 ≤ s.ops + xo
      omega
    · show s.ops + xo ≤ 4000000000
      omega
  · exact h
/-- A chip whose blocks lie ahead of L. -/
structure ChipL (w : World) (L : Nat) (m gx gb : Nat) (Af : Option Addr) (nf cf : Nat) (a b c d e : Int) (fs : List Flt) (s : ChS) : Prop where
  chip : ChipW w m gx gb Af nf cf a b c d e fs s
  low : ∀ g, chB m gx gb g → g < L
  lowF : fs = [] ∨ ∃ g off, Af = some ⟨g, off, none⟩ ∧ g < L
theorem ChipL.far {w w' : World} {L : Nat} {m gx gb : Nat} {Af : Option Addr} {nf cf : Nat} {a b c d e : Int} {fs : List Flt} {s : ChS} (h : ChipL w L m gx gb Af nf cf a b c d e fs s) {S : Nat → Prop} (hT : Tch S w w') (hs : ∀ g, S g → L ≤ g) : ChipL w' L m gx gb Af nf cf a b c d e fs s := by
  have hn : ∀ g, g < L → ¬ S g := fun g hg h1 => by have := hs g h1; omega
  obtain ⟨⟨⟨cx, cb, NX, NB, hX, hN, hcx, hB⟩, r1, r2, r3, n1, n2, n3, l1, l2, l3, l4⟩, lo, lf⟩ := h
  refine ⟨⟨⟨cx, cb, NX, NB, hX, hN, hcx, (hT.far m hB.lt (hn m (lo m (Or.inl rfl)))).trans hB⟩, r1.keep (hT.far gx r1.lt (hn gx (lo gx (Or.inr (Or.inl rfl))))), r2.keep (hT.far gb r2.lt (hn gb (lo gb (Or.inr (Or.inr rfl))))), ?_, n1, n2, n3, l1, l2, l3, l4⟩, lo, lf⟩
  rcases lf with lf | ⟨g, off, e, hg⟩
  · exact Or.inl lf
  · rcases r3 with r3 | ⟨g', off', e', hlt, h1, h2, h3, hc⟩
    · exact Or.inl r3
    · rw [e] at e'
      obtain ⟨rfl, rfl⟩ : g = g' ∧ off = off' := by cases e'; exact ⟨rfl, rfl⟩
      have hq : ∀ o, w'.cell? ⟨g, o, none⟩ = w.cell? ⟨g, o, none⟩ := fun o => World.cell?_of_block (w := w) (hT.far g hlt (hn g hg))
      exact Or.inr ⟨g, off, e, by have := hT.size; omega, h1, h2, h3, fun k f hf => by rw [hq, hq, hq]; exact hc k f hf⟩
theorem ChipL.next {w w' : World} {L : Nat} {m gx gb : Nat} {Af : Option Addr} {nf cf : Nat} {a b c d e : Int} {fs : List Flt} {s s' : ChS} (h : ChipL w L m gx gb Af nf cf a b c d e fs s) (hC : ChipW w' m gx gb Af nf cf a b c d e fs s') : ChipL w' L m gx gb Af nf cf a b c d e fs s' := ⟨hC, h.low, h.lowF⟩
end Go.Proofs.Ytplniojeaodjiaa
