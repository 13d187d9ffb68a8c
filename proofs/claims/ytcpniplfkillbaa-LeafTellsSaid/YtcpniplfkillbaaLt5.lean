/- Program of chapter 7's own chip: what it writes. -/
import Derived.Test.YtcpniplfkillbaaLt4
import Derived.Test.YtcpniplfkillbaaLt2
set_option linter.unusedSimpArgs false
set_option linter.unusedVariables false
set_option maxRecDepth 100000
set_option maxHeartbeats 16000000
namespace Go.Proofs.Ytcpniplfkillbaa
open Go.ChangeShapes Go.WideShapes Go.ChangeAt Go.RowKit
theorem RefW.lts {w : World} {m gB gN gW gD L : Nat} {Af : Option Addr} {nf cf : Nat} {a b c d e : Int} {fs : List Flt} {s : ChS} (hC : RefW w m gB gN gW gD L Af nf cf a b c d e fs s) : ∀ g, rfB m gB gN gW gD g → g < w.heap.size := by
  obtain ⟨⟨cB, NP, NB, RW, hRW, hNP, hNB, hcB, hB, P, hPl, rB, hP⟩, rN, rW, rD, rF, hne, hge, l1, l2, l3, l4⟩ := hC
  intro g hg
  rcases hg with rfl | rfl | rfl | rfl | rfl
  · exact hB.lt
  · exact rB.lt
  · exact rN.lt
  · exact rW.lt
  · exact rD.lt
theorem RefW.freeB {w : World} {m gB gN gW gD L : Nat} {Af : Option Addr} {nf cf : Nat} {a b c d e : Int} {fs : List Flt} {s : ChS} (hC : RefW w m gB gN gW gD L Af nf cf a b c d e fs s) : ∀ i, w.frozen? ⟨gB, i, none⟩ = false := by
  obtain ⟨⟨cB, NP, NB, RW, hRW, hNP, hNB, hcB, hB, P, hPl, rB, hP⟩, rN, rW, rD, rF, hne, hge, l1, l2, l3, l4⟩ := hC
  exact rB.free
theorem RefW.blkB {w : World} {m gB gN gW gD L : Nat} {Af : Option Addr} {nf cf : Nat} {a b c d e : Int} {fs : List Flt} {s : ChS} (hC : RefW w m gB gN gW gD L Af nf cf a b c d e fs s) : ∃ cs, Blk w gB 38 cs := by
  obtain ⟨⟨cB, NP, NB, RW, hRW, hNP, hNB, hcB, hB, P, hPl, rB, hP⟩, rN, rW, rD, rF, hne, hge, l1, l2, l3, l4⟩ := hC
  obtain ⟨r, hr⟩ := rB
  exact ⟨_, hr⟩
def Fresh (w w' : World) (gB : Nat) : Prop := ∀ i, w'.cell? ⟨gB, i, none⟩ = w.cell? ⟨gB, i, none⟩ ∨ ∃ g n c, w'.cell? ⟨gB, i, none⟩ = some (.slice (some ⟨g, 0, none⟩) n c) ∧ w.heap.size ≤ g
theorem Fresh.of {w w' : World} {gB : Nat} (hk : w'.heap[gB]? = w.heap[gB]?) : Fresh w w' gB := fun i => Or.inl (World.cell?_of_block (w := w) hk)
theorem Fresh.then {w w' w'' : World} {gB : Nat} (h : Fresh w w' gB) (hk : w''.heap[gB]? = w'.heap[gB]?) : Fresh w w'' gB := by
  intro i
  have e : w''.cell? ⟨gB, i, none⟩ = w'.cell? ⟨gB, i, none⟩ := World.cell?_of_block (w := w') hk
  rw [e]
  exact h i
theorem Fresh.put {w w1 : World} {gB N g9 n c : Nat} {t : TypeId} (hk : w1.heap[gB]? = w.heap[gB]?) (hB : ∃ cs, Blk w1 gB t cs) (hg : w.heap.size ≤ g9) : Fresh w (w1.setCell ⟨gB, N, none⟩ (.slice (some ⟨g9, 0, none⟩) n c)) gB := by
  intro i
  obtain ⟨cs, hB⟩ := hB
  have e : w1.cell? ⟨gB, i, none⟩ = w.cell? ⟨gB, i, none⟩ := World.cell?_of_block (w := w) hk
  rw [← e, (hB.set_ N _).cell_, hB.cell_, Array.getElem?_setIfInBounds]
  by_cases h1 : N = i
  · rw [if_pos h1]
    by_cases h2 : N < cs.size
    · rw [if_pos h2]
      exact Or.inr ⟨g9, n, c, rfl, hg⟩
    · rw [if_neg h2, Array.getElem?_eq_none (by omega)]
      exact Or.inl rfl
  · rw [if_neg h1]
    exact Or.inl rfl
theorem own_lenR {w : World} {base n n' : Nat} {t : TypeId} {v : Value} {xs : List Value} (h : n = n') (ho : w.ownsRow base t 1 v n xs) : w.ownsRow base t 1 v n' xs := h ▸ ho
theorem RefW.freeN {w : World} {m gB gN gW gD L : Nat} {Af : Option Addr} {nf cf : Nat} {a b c d e : Int} {fs : List Flt} {s : ChS} (hC : RefW w m gB gN gW gD L Af nf cf a b c d e fs s) : ∀ i, w.frozen? ⟨gN, i, none⟩ = false := hC.rN.free
theorem RefW.freeD {w : World} {m gB gN gW gD L : Nat} {Af : Option Addr} {nf cf : Nat} {a b c d e : Int} {fs : List Flt} {s : ChS} (hC : RefW w m gB gN gW gD L Af nf cf a b c d e fs s) : ∀ i, w.frozen? ⟨gD, i, none⟩ = false := hC.rD.free
theorem row_take {w : World} {g RW Q : Nat} {bs : List Nat} (h : RowT w g 5 (bs.map byteV)) (hl : bs.length = RW) (hq : Q ≤ RW) : Rd w (some ⟨g, 0, none⟩) Q 1 ((bs.take Q).map byteV) := by
  refine ⟨by simp; omega, Or.inr ⟨g, 0, rfl, fun j u hu => ?_⟩⟩
  rw [Nat.zero_add]
  refine h.cell_ ?_
  exact take_sub j u hu
theorem rd_dropB {w : World} {p RW Q : Nat} {bs : List Nat} (h : Rd w (some ⟨p, 0, none⟩) RW 1 (bs.map byteV)) (hq : Q ≤ RW) : Rd w (some ⟨p, Q, none⟩) (RW - Q) 1 ((bs.drop Q).map byteV) := by
  obtain ⟨h1, h2⟩ := h
  have h1' : bs.length = RW := by simpa using h1
  refine ⟨by simp; omega, ?_⟩
  by_cases h0 : RW - Q = 0
  · exact Or.inl h0
  · rcases h2 with h2 | ⟨b, off, e, hc⟩
    · omega
    · cases e
      refine Or.inr ⟨p, Q, rfl, fun j u hu => ?_⟩
      rw [List.getElem?_map, List.getElem?_drop] at hu
      have := hc (Q + j) u (by rw [List.getElem?_map]; exact hu)
      rwa [Nat.zero_add] at this
theorem rprog_ok (m gB gN gW gD L : Nat) (Af : Option Addr) (nf cf : Nat) (a b c d e : Int) (fs : List Flt) (k l N : Nat) (n : Int) (gA RW cA : Nat) (hcA : RW ≤ cA) (bs : List Nat) (w : World) (s : ChS) (hC : RefW w m gB gN gW gD L Af nf cf a b c d e fs s) (hbn : s.Bnd n) (hn : n ≤ 900000000) (hwt : s.Wt) (ho : s.on = true) (hk : (k : Int) < a) (hl : (l : Int) < b) (HRW : Hid ((RW : Int) = c + 16)) (hfl8 : fs.length ≤ 8) (hcu : Hid (s.cutB = false)) (hfb : failsB fs (k : Int) (s.k (k : Int) 2) = false) (hln : (l : Int) = s.k (k : Int) 0) (hnum : Hid (numberI a b (k : Int) (l : Int) = (N : Int))) (hfit0 : N * RW + RW ≤ s.X.length) (r1 : 40 ≤ RW) (r2 : RW ≤ 80) (hN2 : N < 200) (hNab : (N : Int) < a * b) (hR : RowT w gA 5 (bs.map byteV)) (hgA : ¬ rfB m gB gN gW gD gA) (hbl : bs.length = RW) : Calls Try.prog 33 #[.pointer (some ⟨m, 0, none⟩), .agg #[.int .i64 (k : Int), .int .i64 (l : Int)], .slice (some ⟨gA, 0, none⟩) RW cA] w fun e' w' => e' = .returned (.int .i64 0) ∧ RefW w' m gB gN gW gD L Af nf cf a b c d e fs (s.prog k N RW bs) ∧ Tch (rfB m gB gN gW gD) w w' ∧ Fresh w w' gB := by
  have ht : Hid (thereB a b (k : Int) (l : Int) = true) := Lib.hid (by unfold thereB withinB; simp; omega)
  have HK := Lib.hid hk
  have tk : ∀ j : Nat, s.tick.k (k : Int) j = s.k (k : Int) j := fun j => by unfold ChS.k; rw [tick_K]
  obtain ⟨v2, hv2⟩ : ∃ v, s.tick.k (k : Int) 2 = v := ⟨_, rfl⟩
  obtain ⟨v0, hv0⟩ : ∃ v, s.tick.k (k : Int) 0 = v := ⟨_, rfl⟩
  have HV2 := Lib.hid hv2
  have HV0 := Lib.hid hv0
  have HFL : Hid (failsB fs (k : Int) v2 = false) := Lib.hid (by rw [← hv2, tk]; exact hfb)
  rw [← tk, hv0] at hln
  have hnq : ((l : Int) != v0) = false := by simp; omega
  have hnp : ((l : Int) == v0) = true := by simp; omega
  have hfit : N * RW + RW ≤ s.tick.X.length := by rw [tick_X]; exact hfit0
  have HNAB := Lib.hid hNab
  have HFIT := Lib.hid hfit
  have HBL := Lib.hid hbl
  have HAR := Lib.hid hR
  have hC0L : Hid (∀ g, rfB m gB gN gW gD g → g < w.heap.size) := Lib.hid hC.lts
  have hgm : gA ≠ m := fun e => hgA (Or.inl e)
  obtain ⟨vb0, vb1⟩ : 0 ≤ v0 ∧ v0 ≤ n := by rw [← hv0, tk]; exact ⟨hbn.k0 _, hbn.k1 _⟩
  obtain ⟨vc0, vc1⟩ : 0 ≤ v2 ∧ v2 ≤ n := by rw [← hv2, tk]; exact ⟨hbn.k0 _, hbn.k1 _⟩
  clear hln hfit0 hfit hNab hbl hR
  obtain ⟨Q, hQ⟩ : ∃ Q, Q = RW := ⟨_, rfl⟩
  have hQR : Q ≤ RW := by omega
  have HQE := Lib.hid hQ
  clear hQ
  have HQ := Lib.hid hQR
  clear hv2 hv0 tk hk hl
  have HM := Lib.hid (planMay_bd hC.may).1
  have hmw := hC.lt
  have HB0 : Below w.heap.size w (w.alloc (.cells #[.int .i64 (k : Int), .int .i64 (l : Int)] 27)) := (Below.refl _ _).alloc (Nat.le_refl _) _
  have G1 : Blk (w.alloc (.cells #[.int .i64 (k : Int), .int .i64 (l : Int)] 27)) w.heap.size 27 #[.int .i64 (k : Int), .int .i64 (l : Int)] := Blk.new_ _ _ _
  have z0 : (w.alloc (.cells #[.int .i64 (k : Int), .int .i64 (l : Int)] 27)).cell? ⟨w.heap.size, 0, none⟩ = some (.int .i64 (k : Int)) := G1.cell_ 0
  have z1 : (w.alloc (.cells #[.int .i64 (k : Int), .int .i64 (l : Int)] 27)).cell? ⟨w.heap.size, 1, none⟩ = some (.int .i64 (l : Int)) := G1.cell_ 1
  have hC := hC.below HB0
  obtain ⟨NP, NB, RWc, cB, HCC⟩ := hC.cells
  have y0 := HCC.y0; have y1 := HCC.y1; have y2 := HCC.y2; have y3 := HCC.y3; have y4 := HCC.y4; have y12 := HCC.y12
  have hnm : ¬ w.heap.size = m := by omega
  rw [show (!s.on) = false by rw [ho]; rfl] at y12
  clear ho
  go_enter Try.func33, Try.ntmps33
  go_upto_region 3 with fail
  refine wp_region_noPanic ?_
  refine wp_region_held_drew (S := (fun w' => w'.cell? ⟨m, 0, none⟩ = some (.int .i64 a) ∧ w'.cell? ⟨m, 1, none⟩ = some (.int .i64 b) ∧ w'.cell? ⟨m, 2, none⟩ = some (.int .i64 c) ∧ w'.cell? ⟨m, 3, none⟩ = some (.int .i64 d) ∧ w'.cell? ⟨m, 4, none⟩ = some (.int .i64 e) ∧ w'.cell? ⟨w.heap.size, 0, none⟩ = some (.int .i64 (k : Int)) ∧ w'.cell? ⟨w.heap.size, 1, none⟩ = some (.int .i64 (l : Int)))) (by kernel_rfl) ?_ (fun hHeld => ?_)
  · (first | exact ⟨y0, y1, y2, y3, y4, z0, z1⟩ | assumption)
  refine tk 0 ⟨some 15, .move (.tmp 0), 30, "ref.go:79", #[], none⟩ ?_; try simp only [Act.put, pz1, pz2, pz3]
  refine tk 1 ⟨some 16, .nilCheck (.tmp 15), 0, "ref.go:79", #[⟨0, .data⟩], none⟩ ?_; try simp only [Act.put, pz1, pz2, pz3]
  refine tk 2 ⟨some 17, .fieldAddr 94 (.tmp 16) 0, 0, "ref.go:79", #[⟨1, .data⟩], none⟩ ?_; try simp only [Act.put, pz1, pz2, pz3]
  refine tk 3 ⟨some 18, .load 23 (.tmp 17), 23, "ref.go:79", #[⟨2, .data⟩], none⟩ ?_; try simp only [Act.put, pz1, pz2, pz3]
  refine tk 4 ⟨some 19, .load 27 (.tmp 4), 27, "ref.go:79", #[], none⟩ ?_; try simp only [Act.put, pz1, pz2, pz3]
  refine wpAnyH_ready (rs := [5]) (by kernel_rfl) (by simp) ?_
  refine AllReadyH.cons (o := ⟨some 20, .call { callee := .value (.func 43), args := #[.tmp 18, .tmp 19], argTypes := #[23, 27] }, 4, "ref.go:79", #[⟨3, .data⟩, ⟨4, .data⟩], none⟩) rfl (fun K hK => ?_) AllReadyH.nil
  go_simp
  (first | (go_at_call 43; ((with_reducible refine (rthr_b _ _ _ _ _ (k : Int) (l : Int) _ _ HM ht).mono ?_); rintro e' wN ⟨rfl, hb⟩; (try have hb := undrew hb); replace hC := RefW.likeB hC hb; replace HB0 := btr HB0 HB0.size hb; replace G1 := G1.below hb G1.lt; replace HCC := RefC.below HCC hb; clear z0 z1; clear y0 y1 y2 y3 y4 y12; have z0 := G1.cell_ 0; have z1 := G1.cell_ 1; simp at z0 z1; have y0 := HCC.y0; have y1 := HCC.y1; have y2 := HCC.y2; have y3 := HCC.y3; have y4 := HCC.y4; have y12 := HCC.y12)) | (go_at_call 60; ((with_reducible refine (rraw_b _ _ _ _ _ RW _ HM HRW).mono ?_); rintro e' wN ⟨rfl, hb⟩; (try have hb := undrew hb); replace hC := RefW.likeB hC hb; replace HB0 := btr HB0 HB0.size hb; replace G1 := G1.below hb G1.lt; replace HCC := RefC.below HCC hb; clear z0 z1; clear y0 y1 y2 y3 y4 y12; have z0 := G1.cell_ 0; have z1 := G1.cell_ 1; simp at z0 z1; have y0 := HCC.y0; have y1 := HCC.y1; have y2 := HCC.y2; have y3 := HCC.y3; have y4 := HCC.y4; have y12 := HCC.y12)))
  go_wp2_with fail
  refine hK.out _ _ ?_ (fun hNew => ?_)
  · (first | exact ⟨y0, y1, y2, y3, y4, z0, z1⟩ | assumption)
  clear hK K hHeld
  have hHeld := hNew
  clear hNew
  try simp only [Act.put, pz1, pz2, pz3]
  refine tk 6 ⟨some 21, .unOp .not 4 (.tmp 20), 4, "ref.go:79", #[⟨5, .data⟩], none⟩ ?_; try simp only [Act.put, pz1, pz2, pz3]
  refine tk 7 ⟨some 22, .move (.tmp 21), 4, "ref.go:79", #[⟨6, .data⟩, ⟨5, .chain⟩], none⟩ ?_; try simp only [Act.put, pz1, pz2, pz3]
  refine tk 8 ⟨some 23, .move (.tmp 2), 38, "ref.go:79", #[⟨7, .guard⟩], some (7, false)⟩ ?_; try simp only [Act.put, pz1, pz2, pz3]
  refine tk 9 ⟨some 24, .call { callee := .builtin .len, args := #[.tmp 23], argTypes := #[38] }, 3, "ref.go:79", #[⟨8, .data⟩, ⟨7, .guard⟩], some (7, false)⟩ ?_; try simp only [Act.put, pz1, pz2, pz3]
  refine tk 10 ⟨some 25, .move (.tmp 0), 30, "ref.go:79", #[⟨7, .guard⟩], some (7, false)⟩ ?_; try simp only [Act.put, pz1, pz2, pz3]
  refine tk 11 ⟨some 26, .nilCheck (.tmp 25), 0, "ref.go:79", #[⟨10, .data⟩, ⟨7, .guard⟩], some (7, false)⟩ ?_; try simp only [Act.put, pz1, pz2, pz3]
  refine tk 12 ⟨some 27, .fieldAddr 94 (.tmp 26) 0, 0, "ref.go:79", #[⟨11, .data⟩, ⟨7, .guard⟩], some (7, false)⟩ ?_; try simp only [Act.put, pz1, pz2, pz3]
  refine tk 13 ⟨some 28, .load 23 (.tmp 27), 23, "ref.go:79", #[⟨12, .data⟩, ⟨7, .guard⟩], some (7, false)⟩ ?_; try simp only [Act.put, pz1, pz2, pz3]
  refine wpAnyH_ready (rs := [14]) (by kernel_rfl) (by simp) ?_
  refine AllReadyH.cons (o := ⟨some 29, .call { callee := .value (.func 60), args := #[.tmp 28], argTypes := #[23] }, 3, "ref.go:79", #[⟨13, .data⟩, ⟨7, .chain⟩, ⟨7, .guard⟩], some (7, false)⟩) rfl (fun K hK => ?_) AllReadyH.nil
  go_simp
  (first | (go_at_call 43; ((with_reducible refine (rthr_b _ _ _ _ _ (k : Int) (l : Int) _ _ HM ht).mono ?_); rintro e' wN ⟨rfl, hb⟩; (try have hb := undrew hb); replace hC := RefW.likeB hC hb; replace HB0 := btr HB0 HB0.size hb; replace G1 := G1.below hb G1.lt; replace HCC := RefC.below HCC hb; clear z0 z1; clear y0 y1 y2 y3 y4 y12; have z0 := G1.cell_ 0; have z1 := G1.cell_ 1; simp at z0 z1; have y0 := HCC.y0; have y1 := HCC.y1; have y2 := HCC.y2; have y3 := HCC.y3; have y4 := HCC.y4; have y12 := HCC.y12)) | (go_at_call 60; ((with_reducible refine (rraw_b _ _ _ _ _ RW _ HM HRW).mono ?_); rintro e' wN ⟨rfl, hb⟩; (try have hb := undrew hb); replace hC := RefW.likeB hC hb; replace HB0 := btr HB0 HB0.size hb; replace G1 := G1.below hb G1.lt; replace HCC := RefC.below HCC hb; clear z0 z1; clear y0 y1 y2 y3 y4 y12; have z0 := G1.cell_ 0; have z1 := G1.cell_ 1; simp at z0 z1; have y0 := HCC.y0; have y1 := HCC.y1; have y2 := HCC.y2; have y3 := HCC.y3; have y4 := HCC.y4; have y12 := HCC.y12)))
  go_wp2_with fail
  refine hK.out _ _ ?_ (fun hNew => ?_)
  · (first | exact ⟨y0, y1, y2, y3, y4, z0, z1⟩ | assumption)
  clear hK K hHeld
  have hHeld := hNew
  clear hNew
  try simp only [Act.put, pz1, pz2, pz3]
  refine tk 15 ⟨some 30, .binOp .neq 3 (.tmp 24) (.tmp 29) 3, 4, "ref.go:79", #[⟨9, .data⟩, ⟨14, .data⟩, ⟨7, .guard⟩], some (7, false)⟩ ?_; try simp only [Act.put, pz1, pz2, pz3]
  refine tk 16 ⟨some 31, .pick (.tmp 22) (.const (.bool true)) (.tmp 30), 4, "ref.go:79", #[⟨7, .data⟩, ⟨15, .data⟩], none⟩ ?_; try simp only [Act.put, pz1, pz2, pz3]
  refine wpAnyH_done (by kernel_rfl) ?_ _
  refine NoPanic.normal ?_
  go_upto_region 7 with (go_at_call 61; ((with_reducible refine (rturn_b _ _ _ _ _ _ _ _ _ _ _ _ _ _ _ _ _ _ _ hC hbn (by omega) hwt hcu).mono ?_); rintro e' wN ⟨rfl, hC2, hT⟩; have HT := (Tch.of_below (S := fun g => g = m) HB0).trans (Tch.like0 hT); have hlt0 := hT.far w.heap.size G1.lt hnm; replace G1 : Blk wN w.heap.size _ _ := hlt0.trans G1; clear hlt0 hC HCC; have hC := hC2; clear hC2 z0 z1; clear y0 y1 y2 y3 y4 y12; have z0 := G1.cell_ 0; have z1 := G1.cell_ 1; simp at z0 z1))
  obtain ⟨NP, NB, RWc, cB, HCC⟩ := hC.cells
  have y0 := HCC.y0; have y1 := HCC.y1; have y2 := HCC.y2; have y3 := HCC.y3; have y4 := HCC.y4; have y5 := HCC.y5; have y6 := HCC.y6; have y7 := HCC.y7; have y9 := HCC.y9; have y15 := HCC.y15
  have i0 : (0 : Int) ≤ (k : Int) := by omega
  have i1 : (k : Int) < (NB : Int) := by have := HCC.hNB.out; have := HK.out; omega
  have cD := HCC.n2 k (by omega)
  have cX := HCC.n0 k (by omega)
  rw [HV2.out] at cD
  rw [HV0.out] at cX
  refine wp_region_noPanic ?_
  refine wp_region_held_drew (S := (fun w' => w'.cell? ⟨m, 5, none⟩ = some (.slice Af nf cf) ∧ w'.cell? ⟨m, 9, none⟩ = some (.slice (some ⟨gD, 0, none⟩) NB NB) ∧ w'.cell? ⟨w.heap.size, 0, none⟩ = some (.int .i64 (k : Int)) ∧ w'.cell? ⟨gD, k, none⟩ = some (.int .i64 v2))) (by kernel_rfl) ?_ (fun hHeld => ?_)
  · (first | exact ⟨y5, y9, z0, cD⟩ | assumption)
  refine tk 0 ⟨some 35, .move (.tmp 0), 30, "ref.go:85", #[], none⟩ ?_; try simp only [Act.put, pz1, pz2, pz3]
  refine tk 1 ⟨some 36, .nilCheck (.tmp 35), 0, "ref.go:85", #[⟨0, .data⟩], none⟩ ?_; try simp only [Act.put, pz1, pz2, pz3]
  refine tk 2 ⟨some 37, .fieldAddr 94 (.tmp 36) 1, 0, "ref.go:85", #[⟨1, .data⟩], none⟩ ?_; try simp only [Act.put, pz1, pz2, pz3]
  refine tk 3 ⟨some 38, .load 24 (.tmp 37), 24, "ref.go:85", #[⟨2, .data⟩], none⟩ ?_; try simp only [Act.put, pz1, pz2, pz3]
  refine tk 4 ⟨some 39, .fieldAddr 27 (.tmp 4) 0, 0, "ref.go:85", #[], none⟩ ?_; try simp only [Act.put, pz1, pz2, pz3]
  refine tk 5 ⟨some 40, .load 3 (.tmp 39), 3, "ref.go:85", #[⟨4, .data⟩], none⟩ ?_; try simp only [Act.put, pz1, pz2, pz3]
  refine tk 6 ⟨some 41, .move (.tmp 0), 30, "ref.go:85", #[], none⟩ ?_; try simp only [Act.put, pz1, pz2, pz3]
  refine tk 7 ⟨some 42, .nilCheck (.tmp 41), 0, "ref.go:85", #[⟨6, .data⟩], none⟩ ?_; try simp only [Act.put, pz1, pz2, pz3]
  refine tk 8 ⟨some 43, .fieldAddr 94 (.tmp 42) 5, 0, "ref.go:85", #[⟨7, .data⟩], none⟩ ?_; try simp only [Act.put, pz1, pz2, pz3]
  refine tk 9 ⟨some 44, .load 92 (.tmp 43), 92, "ref.go:85", #[⟨8, .data⟩], none⟩ ?_; try simp only [Act.put, pz1, pz2, pz3]
  refine tk 10 ⟨some 45, .fieldAddr 27 (.tmp 4) 0, 0, "ref.go:85", #[], none⟩ ?_; try simp only [Act.put, pz1, pz2, pz3]
  refine tk 11 ⟨some 46, .load 3 (.tmp 45), 3, "ref.go:85", #[⟨10, .data⟩], none⟩ ?_; try simp only [Act.put, pz1, pz2, pz3]
  refine tk 12 ⟨some 47, .indexAddr 92 (.tmp 44) (.tmp 46), 0, "ref.go:85", #[⟨9, .data⟩, ⟨11, .data⟩], none⟩ ?_; try simp only [Act.put, pz1, pz2, pz3]
  refine tk 13 ⟨some 48, .load 3 (.tmp 47), 3, "ref.go:85", #[⟨12, .data⟩], none⟩ ?_; try simp only [Act.put, pz1, pz2, pz3]
  refine wpAnyH_ready (rs := [14]) (by kernel_rfl) (by simp) ?_
  refine AllReadyH.cons (o := ⟨some 49, .call { callee := .value (.func 62), args := #[.tmp 38, .tmp 40, .tmp 48], argTypes := #[24, 3, 3] }, 4, "ref.go:85", #[⟨3, .data⟩, ⟨5, .data⟩, ⟨13, .data⟩], none⟩) rfl (fun K hK => ?_) AllReadyH.nil
  go_simp
  (go_at_call 62; ((with_reducible refine (rpfails_b fs Af nf cf _ _ _ _ (by first | exact hC.flt.sl | exact (RefW.drew hC).flt.sl) hC.nf (by omega) HFL).mono ?_); rintro e' wN ⟨rfl, hb⟩; (try have hb := undrew hb); replace hC := RefW.likeB hC hb; replace HT := Tch.thenB HT hb; replace G1 := G1.below hb G1.lt; replace HCC := RefC.below HCC hb; replace cD := cellOf hb cD; replace cX := cellOf hb cX; clear z0 z1; clear y0 y1 y2 y3 y4 y5 y6 y7 y9 y15; have z0 := G1.cell_ 0; have z1 := G1.cell_ 1; simp at z0 z1; have y0 := HCC.y0; have y1 := HCC.y1; have y2 := HCC.y2; have y3 := HCC.y3; have y4 := HCC.y4; have y5 := HCC.y5; have y6 := HCC.y6; have y7 := HCC.y7; have y9 := HCC.y9; have y15 := HCC.y15))
  go_wp2_with fail
  refine hK.out _ _ ?_ (fun hNew => ?_)
  · (first | exact ⟨y5, y9, z0, cD⟩ | assumption)
  clear hK K hHeld
  have hHeld := hNew
  clear hNew
  try simp only [Act.put, pz1, pz2, pz3]
  refine tk 15 ⟨some 34, .assign (.tmp 49), 4, "ref.go:85", #[⟨14, .data⟩, ⟨14, .chain⟩], none⟩ ?_; try simp only [Act.put, pz1, pz2, pz3]
  refine wpAnyH_done (by kernel_rfl) ?_ _
  refine NoPanic.normal ?_
  go_upto_region 9 with fail
  refine wp_region_noPanic ?_
  refine wp_region_held_drew (S := (fun w' => w'.cell? ⟨m, 7, none⟩ = some (.slice (some ⟨gN, 0, none⟩) NB NB) ∧ w'.cell? ⟨w.heap.size, 0, none⟩ = some (.int .i64 (k : Int)) ∧ w'.cell? ⟨w.heap.size, 1, none⟩ = some (.int .i64 (l : Int)) ∧ w'.cell? ⟨gN, k, none⟩ = some (.int .i64 v0))) (by kernel_rfl) ?_ (fun hHeld => ?_)
  · (first | exact ⟨y7, z0, z1, cX⟩ | assumption)
  refine tk 0 ⟨some 51, .fieldAddr 27 (.tmp 4) 1, 0, "ref.go:87", #[], none⟩ ?_; try simp only [Act.put, pz1, pz2, pz3]
  refine tk 1 ⟨some 52, .load 3 (.tmp 51), 3, "ref.go:87", #[⟨0, .data⟩], none⟩ ?_; try simp only [Act.put, pz1, pz2, pz3]
  refine tk 2 ⟨some 53, .move (.tmp 0), 30, "ref.go:87", #[], none⟩ ?_; try simp only [Act.put, pz1, pz2, pz3]
  refine tk 3 ⟨some 54, .nilCheck (.tmp 53), 0, "ref.go:87", #[⟨2, .data⟩], none⟩ ?_; try simp only [Act.put, pz1, pz2, pz3]
  refine tk 4 ⟨some 55, .fieldAddr 94 (.tmp 54) 3, 0, "ref.go:87", #[⟨3, .data⟩], none⟩ ?_; try simp only [Act.put, pz1, pz2, pz3]
  refine tk 5 ⟨some 56, .load 92 (.tmp 55), 92, "ref.go:87", #[⟨4, .data⟩], none⟩ ?_; try simp only [Act.put, pz1, pz2, pz3]
  refine tk 6 ⟨some 57, .fieldAddr 27 (.tmp 4) 0, 0, "ref.go:87", #[], none⟩ ?_; try simp only [Act.put, pz1, pz2, pz3]
  refine tk 7 ⟨some 58, .load 3 (.tmp 57), 3, "ref.go:87", #[⟨6, .data⟩], none⟩ ?_; try simp only [Act.put, pz1, pz2, pz3]
  refine tk 8 ⟨some 59, .indexAddr 92 (.tmp 56) (.tmp 58), 0, "ref.go:87", #[⟨5, .data⟩, ⟨7, .data⟩], none⟩ ?_; try simp only [Act.put, pz1, pz2, pz3]
  refine tk 9 ⟨some 60, .load 3 (.tmp 59), 3, "ref.go:87", #[⟨8, .data⟩], none⟩ ?_; try simp only [Act.put, pz1, pz2, pz3]
  refine tk 10 ⟨some 61, .binOp .neq 3 (.tmp 52) (.tmp 60) 3, 4, "ref.go:87", #[⟨1, .data⟩, ⟨9, .data⟩], none⟩ ?_; try simp only [Act.put, pz1, pz2, pz3]
  refine tk 11 ⟨some 50, .assign (.tmp 61), 4, "ref.go:87", #[⟨10, .data⟩], none⟩ ?_; try simp only [Act.put, pz1, pz2, pz3]
  refine wpAnyH_done (by kernel_rfl) ?_ _
  refine NoPanic.normal ?_
  go_upto_region 15 with fail
  refine wp_region_noPanic ?_
  refine wp_region_held_drew (S := (fun w' => w'.cell? ⟨m, 0, none⟩ = some (.int .i64 a) ∧ w'.cell? ⟨m, 1, none⟩ = some (.int .i64 b) ∧ w'.cell? ⟨m, 2, none⟩ = some (.int .i64 c) ∧ w'.cell? ⟨m, 3, none⟩ = some (.int .i64 d) ∧ w'.cell? ⟨m, 4, none⟩ = some (.int .i64 e) ∧ w'.cell? ⟨w.heap.size, 0, none⟩ = some (.int .i64 (k : Int)) ∧ w'.cell? ⟨w.heap.size, 1, none⟩ = some (.int .i64 (l : Int)))) (by kernel_rfl) ?_ (fun hHeld => ?_)
  · (first | exact ⟨y0, y1, y2, y3, y4, z0, z1⟩ | assumption)
  refine tk 0 ⟨some 74, .move (.tmp 0), 30, "ref.go:95", #[], none⟩ ?_; try simp only [Act.put, pz1, pz2, pz3]
  refine tk 1 ⟨some 75, .nilCheck (.tmp 74), 0, "ref.go:95", #[⟨0, .data⟩], none⟩ ?_; try simp only [Act.put, pz1, pz2, pz3]
  refine tk 2 ⟨some 76, .fieldAddr 94 (.tmp 75) 0, 0, "ref.go:95", #[⟨1, .data⟩], none⟩ ?_; try simp only [Act.put, pz1, pz2, pz3]
  refine tk 3 ⟨some 77, .load 23 (.tmp 76), 23, "ref.go:95", #[⟨2, .data⟩], none⟩ ?_; try simp only [Act.put, pz1, pz2, pz3]
  refine tk 4 ⟨some 78, .load 27 (.tmp 4), 27, "ref.go:95", #[], none⟩ ?_; try simp only [Act.put, pz1, pz2, pz3]
  refine wpAnyH_ready (rs := [5]) (by kernel_rfl) (by simp) ?_
  refine AllReadyH.cons (o := ⟨some 79, .call { callee := .value (.func 23), args := #[.tmp 77, .tmp 78], argTypes := #[23, 27] }, 3, "ref.go:95", #[⟨3, .data⟩, ⟨4, .data⟩], none⟩) rfl (fun K hK => ?_) AllReadyH.nil
  go_simp
  (go_at_call 23; ((with_reducible refine (rnum_c _ _ _ _ _ _ _ N _ HM hnum).mono ?_); rintro e' wN ⟨rfl, hb⟩; (try have hb := undrew hb); (try have hb := undrew hb); replace hC := RefW.likeB hC hb; replace HT := Tch.thenB HT hb; replace G1 := G1.below hb G1.lt; replace HCC := RefC.below HCC hb; replace cD := cellOf hb cD; replace cX := cellOf hb cX; clear z0 z1; clear y0 y1 y2 y3 y4 y5 y6 y7 y9 y15; have z0 := G1.cell_ 0; have z1 := G1.cell_ 1; simp at z0 z1; have y0 := HCC.y0; have y1 := HCC.y1; have y2 := HCC.y2; have y3 := HCC.y3; have y4 := HCC.y4; have y5 := HCC.y5; have y6 := HCC.y6; have y7 := HCC.y7; have y9 := HCC.y9; have y15 := HCC.y15))
  go_wp2_with fail
  refine hK.out _ _ ?_ (fun hNew => ?_)
  · (first | exact ⟨y0, y1, y2, y3, y4, z0, z1⟩ | assumption)
  clear hK K hHeld
  have hHeld := hNew
  clear hNew
  try simp only [Act.put, pz1, pz2, pz3]
  refine tk 6 ⟨some 10, .assign (.tmp 79), 3, "ref.go:95", #[⟨5, .data⟩, ⟨5, .chain⟩, ⟨0, .phase⟩, ⟨1, .phase⟩, ⟨2, .phase⟩, ⟨3, .phase⟩, ⟨4, .phase⟩, ⟨5, .phase⟩], none⟩ ?_; try simp only [Act.put, pz1, pz2, pz3]
  refine wpAnyH_done (by kernel_rfl) ?_ _
  refine NoPanic.normal ?_
  (try rw [hmm])
  (try rw [hmm2])
  rw [show (Value.int IntKind.i64 (RW : Int)) = Value.int IntKind.i64 (Q : Int) by rw [HQE.out]]
  obtain ⟨p, cp, HP⟩ := hC.page HRW.out HNAB.out HFIT.out
  have cN := HP.cN
  have j0 : (0 : Int) ≤ (N : Int) := by omega
  have j1 : (N : Int) < (NP : Int) := by have := HCC.hNP.out; have := HNAB.out; omega
  have HRA : Rd wN (some ⟨gA, 0, none⟩) Q 1 ((bs.take Q).map byteV) := row_take (HAR.out.keep (HT.far gA HAR.out.lt hgm)) HBL.out hQR
  have HRP := rd_dropB HP.rd hQR
  have q0 : (0 : Int) ≤ (Q : Int) := by omega
  have q1 : (Q : Int) ≤ (RW : Int) := by omega
  have q1A : (Q : Int) ≤ (cA : Int) := by omega
  have q1B : Q ≤ cA := by omega
  have q2 : RW ≤ cp := HP.cap
  have q3 : cp ≤ maxLen := HP.cap2
  by_cases hcp : cp = Q
  · have hcq : RW - Q = 0 := by omega
    have HRZ : ∀ (A : Option Addr) (w' : World), Rd w' A 0 1 (((s.tick.pageOf N RW).drop Q).map byteV) := fun A w' => ⟨by have := HRP.1; rw [hcq] at this; exact this, Or.inl rfl⟩
    have hcp := hcp.symm
    subst hcp
    go_upto_region 16 with fail
    go_cut [6] (fun s6 wx => s6 = .int .i64 0 ∧ RefW wx m gB gN gW gD L Af nf cf a b c d e fs { s.tick with X := putX s.tick.X (N * RW) (bs.take Q) } ∧ Tch (rfB m gB gN gW gD) w wx ∧ Blk wx w.heap.size 27 #[.int .i64 (k : Int), .int .i64 (l : Int)] ∧ Fresh w wx gB)
    case first =>
      refine wp_region_noPanic ?_
      refine wp_region_held_drew (S := (fun w' => w'.cell? ⟨m, 6, none⟩ = some (.slice (some ⟨gB, 0, none⟩) NP cB))) (by kernel_rfl) ?_ (fun hHeld => ?_)
      · (first | exact y6 | exact y6a | exact y6b | exact y6c | assumption)
      refine tk 0 ⟨some 80, .move (.tmp 0), 30, "ref.go:96", #[], none⟩ ?_; try simp only [Act.put, pz1, pz2, pz3]
      refine tk 1 ⟨some 81, .nilCheck (.tmp 80), 0, "ref.go:96", #[⟨0, .data⟩], none⟩ ?_; try simp only [Act.put, pz1, pz2, pz3]
      refine tk 2 ⟨some 82, .fieldAddr 94 (.tmp 81) 2, 0, "ref.go:96", #[⟨1, .data⟩], none⟩ ?_; try simp only [Act.put, pz1, pz2, pz3]
      refine tk 3 ⟨some 83, .load 91 (.tmp 82), 91, "ref.go:96", #[⟨2, .data⟩], none⟩ ?_; try simp only [Act.put, pz1, pz2, pz3]
      refine tk 4 ⟨some 84, .move (.tmp 10), 3, "ref.go:96", #[], none⟩ ?_; try simp only [Act.put, pz1, pz2, pz3]
      refine tk 5 ⟨some 85, .move (.tmp 2), 38, "ref.go:96", #[], none⟩ ?_; try simp only [Act.put, pz1, pz2, pz3]
      refine tk 6 ⟨some 86, .move (.tmp 9), 3, "ref.go:96", #[], none⟩ ?_; try simp only [Act.put, pz1, pz2, pz3]
      refine tk 7 ⟨some 87, .slice 38 (.tmp 85) none (some (.tmp 86)) none, 38, "ref.go:96", #[⟨5, .data⟩, ⟨6, .data⟩], none⟩ ?_; try simp only [Act.put, pz1, pz2, pz3]
      refine tk 9 ⟨some 89, .move (.tmp 0), 30, "ref.go:96", #[], none⟩ ?_; try simp only [Act.put, pz1, pz2, pz3]
      refine tk 10 ⟨some 90, .nilCheck (.tmp 89), 0, "ref.go:96", #[⟨9, .data⟩], none⟩ ?_; try simp only [Act.put, pz1, pz2, pz3]
      refine tk 11 ⟨some 91, .fieldAddr 94 (.tmp 90) 2, 0, "ref.go:96", #[⟨10, .data⟩], none⟩ ?_; try simp only [Act.put, pz1, pz2, pz3]
      refine tk 12 ⟨some 92, .load 91 (.tmp 91), 91, "ref.go:96", #[⟨11, .data⟩], none⟩ ?_; try simp only [Act.put, pz1, pz2, pz3]
      refine tk 13 ⟨some 93, .move (.tmp 10), 3, "ref.go:96", #[], none⟩ ?_; try simp only [Act.put, pz1, pz2, pz3]
      refine tk 14 ⟨some 94, .indexAddr 91 (.tmp 92) (.tmp 93), 0, "ref.go:96", #[⟨12, .data⟩, ⟨13, .data⟩], none⟩ ?_; try simp only [Act.put, pz1, pz2, pz3]
      refine tk 16 ⟨some 96, .move (.tmp 9), 3, "ref.go:96", #[], none⟩ ?_; try simp only [Act.put, pz1, pz2, pz3]
      refine wpAnyH_ready (rs := [8, 15]) (by kernel_rfl) (by simp) ?_
      refine (AllReadyH.cons (o := ⟨some 88, .call { callee := .builtin .append, args := #[.const (.slice none 0 0), .tmp 87], argTypes := #[38, 38] }, 38, "ref.go:96", #[⟨7, .data⟩], none⟩) rfl (fun K hK => ?_) (AllReadyH.cons (o := ⟨some 95, .load 38 (.tmp 94), 38, "ref.go:96", #[⟨14, .data⟩], none⟩) rfl (fun K hK => ?_) AllReadyH.nil))
      · obtain ⟨ti0, hi, hz0, hz1, hz2⟩ := info_parts infoByte
        refine step_app _ rfl (.const (.slice none 0 0)) (.tmp 87) _ rfl wN.heap.size 5 ti0 _ 1 1 Try.underlying38 hi hz0 hz1 hz2 rfl (by decide) (.slice none 0 0) 0 [] rfl (World.ownsRow_nil _ _ _ _) (some ⟨gA, 0, none⟩) Q cA ((bs.take Q).map byteV) rfl (HRA.keep (fun b o e j => rfl)) (oneB _) (by unfold maxLen; omega) (by omega) (Nat.le_refl _) ?_
        intro v8 w8 ho8 hg8 hv8
        clear hi hz0 hz1 hz2
        have hb8 : Below wN.heap.size wN w8 := undrew ((Below.refl _ _).grown hg8 (Nat.le_refl _) (fun j hj => by simp [Value.ownBlock] at hj))
        have y6a := cellOf hb8 y6
        have cNa := cellOf hb8 cN
        clear hg8 hv8
        refine hK.out _ _ ?_ (fun hNew => ?_)
        · (first | exact y6 | exact y6a | exact y6b | exact y6c | assumption)
        clear hK K hHeld
        have hHeld := hNew
        clear hNew
        try simp only [Act.put, pz1, pz2, pz3]
        refine wpAnyH_ready (rs := [15]) (by kernel_rfl) (by simp) ?_
        refine AllReadyH.cons (o := ⟨some 95, .load 38 (.tmp 94), 38, "ref.go:96", #[⟨14, .data⟩], none⟩) rfl (fun K hK => ?_) AllReadyH.nil
        go_simp
        refine hK.out _ _ ?_ (fun hNew => ?_)
        · (first | exact y6 | exact y6a | exact y6b | exact y6c | assumption)
        clear hK K hHeld
        have hHeld := hNew
        clear hNew
        try simp only [Act.put, pz1, pz2, pz3]
        refine tk 17 ⟨some 97, .slice 38 (.tmp 95) (some (.tmp 96)) none none, 38, "ref.go:96", #[⟨15, .data⟩, ⟨16, .data⟩], none⟩ ?_; try simp only [Act.put, pz1, pz2, pz3]
        refine wpAnyH_ready (rs := [18]) (by kernel_rfl) (by simp) ?_
        refine AllReadyH.cons (o := ⟨some 98, .call { callee := .builtin .append, args := #[.tmp 88, .tmp 97], argTypes := #[38, 38] }, 38, "ref.go:96", #[⟨8, .data⟩, ⟨17, .data⟩, ⟨8, .chain⟩], none⟩) rfl (fun K hK => ?_) AllReadyH.nil
        obtain ⟨ti0, hi, hz0, hz1, hz2⟩ := info_parts infoByte
        refine step_app _ rfl (.tmp 88) (.tmp 97) _ rfl wN.heap.size 5 ti0 _ 1 1 Try.underlying38 hi hz0 hz1 hz2 rfl (by decide) v8 _ _ rfl ho8 _ _ _ (((s.tick.pageOf N RW).drop Q).map byteV) rfl (HRZ _ _) (oneB _) (by unfold maxLen; omega) (by omega) hb8.size ?_
        intro v18 w18 ho18 hg18 hv18
        clear hi hz0 hz1 hz2
        have hb18 : Below wN.heap.size wN w18 := hb8.trans (below_app (Nat.le_refl _) hb8.size ho8 hg18)
        have ho19 := own_lenR (by omega : 0 + Q + 0 = RW) ho18
        rw [List.nil_append] at ho19
        obtain ⟨g9, c9, rfl, hR9, hge9, hc91, hc92⟩ := own_rowC ho19 (by omega)
        have y6b := cellOf hb18 y6
        have cNb := cellOf hb18 cN
        have hC18 := RefW.below hC hb18
        have fB18 := hC18.freeB
        clear hg18 hv18 ho18 ho19 ho8
        refine hK.out _ _ ?_ (fun hNew => ?_)
        · (first | exact y6 | exact y6a | exact y6b | exact y6c | assumption)
        clear hK K hHeld
        have hHeld := hNew
        clear hNew
        try simp only [Act.put, pz1, pz2, pz3]
        refine tk 19 ⟨some 99, .indexAddr 91 (.tmp 83) (.tmp 84), 0, "ref.go:96", #[⟨3, .data⟩, ⟨4, .data⟩, ⟨0, .phase⟩, ⟨1, .phase⟩, ⟨2, .phase⟩, ⟨3, .phase⟩, ⟨4, .phase⟩, ⟨5, .phase⟩, ⟨6, .phase⟩, ⟨7, .phase⟩, ⟨8, .phase⟩, ⟨9, .phase⟩, ⟨10, .phase⟩, ⟨11, .phase⟩, ⟨12, .phase⟩, ⟨13, .phase⟩, ⟨14, .phase⟩, ⟨15, .phase⟩, ⟨16, .phase⟩, ⟨17, .phase⟩, ⟨18, .phase⟩], none⟩ ?_; try simp only [Act.put, pz1, pz2, pz3]
        refine wpAnyH_ready (rs := [20]) (by kernel_rfl) (by simp) ?_
        refine AllReadyH.cons (o := ⟨none, .store 38 (.tmp 99) (.tmp 98), 0, "ref.go:96", #[⟨19, .data⟩, ⟨18, .data⟩, ⟨18, .chain⟩, ⟨0, .phase⟩, ⟨1, .phase⟩, ⟨2, .phase⟩, ⟨3, .phase⟩, ⟨4, .phase⟩, ⟨5, .phase⟩, ⟨6, .phase⟩, ⟨7, .phase⟩, ⟨8, .phase⟩, ⟨9, .phase⟩, ⟨10, .phase⟩, ⟨11, .phase⟩, ⟨12, .phase⟩, ⟨13, .phase⟩, ⟨14, .phase⟩, ⟨15, .phase⟩, ⟨16, .phase⟩, ⟨17, .phase⟩, ⟨18, .phase⟩], none⟩) rfl (fun K hK => ?_) AllReadyH.nil
        go_simp
        have y6c : (w18.setCell ⟨gB, N, none⟩ (.slice (some ⟨g9, 0, none⟩) RW c9)).cell? ⟨m, 6, none⟩ = some (.slice (some ⟨gB, 0, none⟩) NP cB) := (World.cell?_of_block (w := w18) ((Tch.setm w18 gB N (.slice (some ⟨g9, 0, none⟩) RW c9)).far m hC18.lt (fun e => hC18.ne.1.1 e))).trans y6b
        refine hK.out _ _ ?_ (fun hNew => ?_)
        · (first | exact y6 | exact y6a | exact y6b | exact y6c | assumption)
        clear hK K hHeld
        have hHeld := hNew
        clear hNew
        try simp only [Act.put, pz1, pz2, pz3]
        refine wpAnyH_done (by kernel_rfl) ?_ _
        refine NoPanic.normal ?_
        go_wp2_with fail
        go_meet
        have hRR : RowT w18 g9 5 ((bs.take Q ++ (s.tick.pageOf N RW).drop (bs.take Q).length).map byteV) := by
          rw [List.map_append, List.length_take, HBL.out, Nat.min_eq_left HQ.out]
          exact hR9
        have hSP := RefW.setPage hC18 hRR (by have := hC.ge m (Or.inl rfl); have := hC.lt; omega) (fun e => by have := hC.lts g9 e; omega) hc91 hc92 HRW.out (by rw [List.length_take]; omega) HNAB.out HFIT.out
        have hTS := Tch.setm w18 gB N (.slice (some ⟨g9, 0, none⟩) RW c9)
        have hTF : Tch (rfB m gB gN gW gD) w (w18.setCell ⟨gB, N, none⟩ (.slice (some ⟨g9, 0, none⟩) RW c9)) := ((tch_r HT).then hb18).trans (hTS.mono (fun g e => Or.inr (Or.inl e)))
        have hGF := hTS.blk (G1.below hb18 G1.lt) (fun e => by have := hC0L.out gB (Or.inr (Or.inl rfl)); omega)
        have hFF : Fresh w (w18.setCell ⟨gB, N, none⟩ (.slice (some ⟨g9, 0, none⟩) RW c9)) gB := Fresh.put ((hb18.block gB (Nat.lt_of_lt_of_le (hC0L.out gB (Or.inr (Or.inl rfl))) HT.size)).trans (HT.far gB (hC0L.out gB (Or.inr (Or.inl rfl))) (fun e => hC.ne.1.1 e.symm))) hC18.blkB (Nat.le_trans HT.size hge9)
        exact ⟨rfl, hSP, hTF, hGF, hFF⟩
      · go_simp
        refine hK.out _ _ ?_ (fun hNew => ?_)
        · (first | exact y6 | exact y6a | exact y6b | exact y6c | assumption)
        clear hK K hHeld
        have hHeld := hNew
        clear hNew
        try simp only [Act.put, pz1, pz2, pz3]
        refine tk 17 ⟨some 97, .slice 38 (.tmp 95) (some (.tmp 96)) none none, 38, "ref.go:96", #[⟨15, .data⟩, ⟨16, .data⟩], none⟩ ?_; try simp only [Act.put, pz1, pz2, pz3]
        refine wpAnyH_ready (rs := [8]) (by kernel_rfl) (by simp) ?_
        refine AllReadyH.cons (o := ⟨some 88, .call { callee := .builtin .append, args := #[.const (.slice none 0 0), .tmp 87], argTypes := #[38, 38] }, 38, "ref.go:96", #[⟨7, .data⟩], none⟩) rfl (fun K hK => ?_) AllReadyH.nil
        obtain ⟨ti0, hi, hz0, hz1, hz2⟩ := info_parts infoByte
        refine step_app _ rfl (.const (.slice none 0 0)) (.tmp 87) _ rfl wN.heap.size 5 ti0 _ 1 1 Try.underlying38 hi hz0 hz1 hz2 rfl (by decide) (.slice none 0 0) 0 [] rfl (World.ownsRow_nil _ _ _ _) (some ⟨gA, 0, none⟩) Q cA ((bs.take Q).map byteV) rfl (HRA.keep (fun b o e j => rfl)) (oneB _) (by unfold maxLen; omega) (by omega) (Nat.le_refl _) ?_
        intro v8 w8 ho8 hg8 hv8
        clear hi hz0 hz1 hz2
        have hb8 : Below wN.heap.size wN w8 := undrew ((Below.refl _ _).grown hg8 (Nat.le_refl _) (fun j hj => by simp [Value.ownBlock] at hj))
        have y6a := cellOf hb8 y6
        have cNa := cellOf hb8 cN
        clear hg8 hv8
        refine hK.out _ _ ?_ (fun hNew => ?_)
        · (first | exact y6 | exact y6a | exact y6b | exact y6c | assumption)
        clear hK K hHeld
        have hHeld := hNew
        clear hNew
        try simp only [Act.put, pz1, pz2, pz3]
        refine wpAnyH_ready (rs := [18]) (by kernel_rfl) (by simp) ?_
        refine AllReadyH.cons (o := ⟨some 98, .call { callee := .builtin .append, args := #[.tmp 88, .tmp 97], argTypes := #[38, 38] }, 38, "ref.go:96", #[⟨8, .data⟩, ⟨17, .data⟩, ⟨8, .chain⟩], none⟩) rfl (fun K hK => ?_) AllReadyH.nil
        obtain ⟨ti0, hi, hz0, hz1, hz2⟩ := info_parts infoByte
        refine step_app _ rfl (.tmp 88) (.tmp 97) _ rfl wN.heap.size 5 ti0 _ 1 1 Try.underlying38 hi hz0 hz1 hz2 rfl (by decide) v8 _ _ rfl ho8 _ _ _ (((s.tick.pageOf N RW).drop Q).map byteV) rfl (HRZ _ _) (oneB _) (by unfold maxLen; omega) (by omega) hb8.size ?_
        intro v18 w18 ho18 hg18 hv18
        clear hi hz0 hz1 hz2
        have hb18 : Below wN.heap.size wN w18 := hb8.trans (below_app (Nat.le_refl _) hb8.size ho8 hg18)
        have ho19 := own_lenR (by omega : 0 + Q + 0 = RW) ho18
        rw [List.nil_append] at ho19
        obtain ⟨g9, c9, rfl, hR9, hge9, hc91, hc92⟩ := own_rowC ho19 (by omega)
        have y6b := cellOf hb18 y6
        have cNb := cellOf hb18 cN
        have hC18 := RefW.below hC hb18
        have fB18 := hC18.freeB
        clear hg18 hv18 ho18 ho19 ho8
        refine hK.out _ _ ?_ (fun hNew => ?_)
        · (first | exact y6 | exact y6a | exact y6b | exact y6c | assumption)
        clear hK K hHeld
        have hHeld := hNew
        clear hNew
        try simp only [Act.put, pz1, pz2, pz3]
        refine tk 19 ⟨some 99, .indexAddr 91 (.tmp 83) (.tmp 84), 0, "ref.go:96", #[⟨3, .data⟩, ⟨4, .data⟩, ⟨0, .phase⟩, ⟨1, .phase⟩, ⟨2, .phase⟩, ⟨3, .phase⟩, ⟨4, .phase⟩, ⟨5, .phase⟩, ⟨6, .phase⟩, ⟨7, .phase⟩, ⟨8, .phase⟩, ⟨9, .phase⟩, ⟨10, .phase⟩, ⟨11, .phase⟩, ⟨12, .phase⟩, ⟨13, .phase⟩, ⟨14, .phase⟩, ⟨15, .phase⟩, ⟨16, .phase⟩, ⟨17, .phase⟩, ⟨18, .phase⟩], none⟩ ?_; try simp only [Act.put, pz1, pz2, pz3]
        refine wpAnyH_ready (rs := [20]) (by kernel_rfl) (by simp) ?_
        refine AllReadyH.cons (o := ⟨none, .store 38 (.tmp 99) (.tmp 98), 0, "ref.go:96", #[⟨19, .data⟩, ⟨18, .data⟩, ⟨18, .chain⟩, ⟨0, .phase⟩, ⟨1, .phase⟩, ⟨2, .phase⟩, ⟨3, .phase⟩, ⟨4, .phase⟩, ⟨5, .phase⟩, ⟨6, .phase⟩, ⟨7, .phase⟩, ⟨8, .phase⟩, ⟨9, .phase⟩, ⟨10, .phase⟩, ⟨11, .phase⟩, ⟨12, .phase⟩, ⟨13, .phase⟩, ⟨14, .phase⟩, ⟨15, .phase⟩, ⟨16, .phase⟩, ⟨17, .phase⟩, ⟨18, .phase⟩], none⟩) rfl (fun K hK => ?_) AllReadyH.nil
        go_simp
        have y6c : (w18.setCell ⟨gB, N, none⟩ (.slice (some ⟨g9, 0, none⟩) RW c9)).cell? ⟨m, 6, none⟩ = some (.slice (some ⟨gB, 0, none⟩) NP cB) := (World.cell?_of_block (w := w18) ((Tch.setm w18 gB N (.slice (some ⟨g9, 0, none⟩) RW c9)).far m hC18.lt (fun e => hC18.ne.1.1 e))).trans y6b
        refine hK.out _ _ ?_ (fun hNew => ?_)
        · (first | exact y6 | exact y6a | exact y6b | exact y6c | assumption)
        clear hK K hHeld
        have hHeld := hNew
        clear hNew
        try simp only [Act.put, pz1, pz2, pz3]
        refine wpAnyH_done (by kernel_rfl) ?_ _
        refine NoPanic.normal ?_
        go_wp2_with fail
        go_meet
        have hRR : RowT w18 g9 5 ((bs.take Q ++ (s.tick.pageOf N RW).drop (bs.take Q).length).map byteV) := by
          rw [List.map_append, List.length_take, HBL.out, Nat.min_eq_left HQ.out]
          exact hR9
        have hSP := RefW.setPage hC18 hRR (by have := hC.ge m (Or.inl rfl); have := hC.lt; omega) (fun e => by have := hC.lts g9 e; omega) hc91 hc92 HRW.out (by rw [List.length_take]; omega) HNAB.out HFIT.out
        have hTS := Tch.setm w18 gB N (.slice (some ⟨g9, 0, none⟩) RW c9)
        have hTF : Tch (rfB m gB gN gW gD) w (w18.setCell ⟨gB, N, none⟩ (.slice (some ⟨g9, 0, none⟩) RW c9)) := ((tch_r HT).then hb18).trans (hTS.mono (fun g e => Or.inr (Or.inl e)))
        have hGF := hTS.blk (G1.below hb18 G1.lt) (fun e => by have := hC0L.out gB (Or.inr (Or.inl rfl)); omega)
        have hFF : Fresh w (w18.setCell ⟨gB, N, none⟩ (.slice (some ⟨g9, 0, none⟩) RW c9)) gB := Fresh.put ((hb18.block gB (Nat.lt_of_lt_of_le (hC0L.out gB (Or.inr (Or.inl rfl))) HT.size)).trans (HT.far gB (hC0L.out gB (Or.inr (Or.inl rfl))) (fun e => hC.ne.1.1 e.symm))) hC18.blkB (Nat.le_trans HT.size hge9)
        exact ⟨rfl, hSP, hTF, hGF, hFF⟩
    case rest =>
    clear hC HT G1 HCC cD cX cN HP HRA HRP z0 z1 y0 y1 y2 y3 y4 y5 y6 y7 y9 y15
    obtain ⟨rfl, hC, HT, G1, HFr⟩ := hcut
    obtain ⟨w6, rfl⟩ : ∃ W : World, W = wc := ⟨_, rfl⟩
    obtain ⟨S0, hS0⟩ : ∃ S0 : ChS, S0 = { s.tick with X := putX s.tick.X (N * RW) (bs.take Q) } := ⟨_, rfl⟩
    rw [← hS0] at hC
    have hk00 : S0.k (k : Int) 0 = v0 := by rw [hS0]; exact HV0.out
    have hk02 : S0.k (k : Int) 2 = v2 := by rw [hS0]; exact HV2.out
    have HS0 := Lib.hid hS0
    clear hS0
    go_upto_region 17 with fail
    obtain ⟨NP0, NB0, RWc0, cB0, HCC⟩ := hC.cells
    have y7 := HCC.y7
    have cz := HCC.n0 k (by have := HCC.hNB.out; have := HK.out; omega)
    rw [hk00] at cz
    have fz := hC.freeN
    have z0 := G1.cell_ 0
    simp at z0
    have i0 : (0 : Int) ≤ (k : Int) := by omega
    have i1 : (k : Int) < (NB0 : Int) := by have := HCC.hNB.out; have := HK.out; omega
    have hwr : IntKind.i64.wrap (v0 + 1) = v0 + 1 := wrapS _ (by omega) (by omega)
    clear HCC
    go_still_tail 10, (by kernel_rfl)
    change wpList _ _ _ _ _ w6.drew
    go_wp2_with fail
    have hS := RefW.set0 hC HK.out (v0 + 1)
    have hSd := RefW.drew hS
    have hT1 := Tch.setm w6 gN k (.int .i64 (v0 + 1))
    have hTd : Tch (rfB m gB gN gW gD) w ((w6.setCell ⟨gN, k, none⟩ (.int .i64 (v0 + 1))).drew) := (HT.trans (hT1.mono (fun g e => Or.inr (Or.inr (Or.inl e))))).like
    have hG : Blk ((w6.setCell ⟨gN, k, none⟩ (.int .i64 (v0 + 1))).drew) w.heap.size 27 #[.int .i64 (k : Int), .int .i64 (l : Int)] := G1.far (p := ⟨gN, k, none⟩) (fun e => by have := hC0L.out w.heap.size (Or.inr (Or.inr (Or.inl e))); omega) _
    have hFd : Fresh w ((w6.setCell ⟨gN, k, none⟩ (.int .i64 (v0 + 1))).drew) gB := Fresh.then HFr (hT1.far gB (hC.lts gB (Or.inr (Or.inl rfl))) (fun e => hC.ne.2.1.1 e))
    clear HT hC G1 z0 y7 cz fz hS hwr hT1 i1 HFr
    generalize (w6.setCell ⟨gN, k, none⟩ (.int .i64 (v0 + 1))).drew = w7 at hSd hTd hG hFd ⊢
    have hC := hSd
    have HT := hTd
    have G1 := hG
    have HFr := hFd
    clear hSd hTd hG hFd
    obtain ⟨S1, hS1⟩ : ∃ S1 : ChS, S1 = { S0 with K := S0.K.set (k * 3 + 0) (v0 + 1) } := ⟨_, rfl⟩
    rw [← hS1] at hC
    have hk12 : S1.k (k : Int) 2 = v2 := by
      rw [hS1, ← hk02]
      unfold ChS.k
      dsimp only
      rw [Int.toNat_natCast, getD_setN, if_neg (by omega)]
    have HS1 := Lib.hid hS1
    clear hS1
    go_upto_region 19 with fail
    obtain ⟨NP2, NB2, RWc2, cB2, HCC⟩ := hC.cells
    have y9 := HCC.y9
    have cz := HCC.n2 k (by have := HCC.hNB.out; have := HK.out; omega)
    rw [hk12] at cz
    have fz := hC.freeD
    have z0 := G1.cell_ 0
    simp at z0
    have i0 : (0 : Int) ≤ (k : Int) := by omega
    have i1 : (k : Int) < (NB2 : Int) := by have := HCC.hNB.out; have := HK.out; omega
    have hwr : IntKind.i64.wrap (v2 + 1) = v2 + 1 := wrapS _ (by omega) (by omega)
    clear HCC
    go_still_tail 10, (by kernel_rfl)
    change wpList _ _ _ _ _ w7.drew
    go_wp2_with fail
    have hS := RefW.set2 hC HK.out (v2 + 1)
    have hSd := RefW.drew hS
    have hT1 := Tch.setm w7 gD k (.int .i64 (v2 + 1))
    have hTd : Tch (rfB m gB gN gW gD) w ((w7.setCell ⟨gD, k, none⟩ (.int .i64 (v2 + 1))).drew) := (HT.trans (hT1.mono (fun g e => Or.inr (Or.inr (Or.inr (Or.inr e)))))).like
    have hG : Blk ((w7.setCell ⟨gD, k, none⟩ (.int .i64 (v2 + 1))).drew) w.heap.size 27 #[.int .i64 (k : Int), .int .i64 (l : Int)] := G1.far (p := ⟨gD, k, none⟩) (fun e => by have := hC0L.out w.heap.size (Or.inr (Or.inr (Or.inr (Or.inr e)))); omega) _
    have hFd : Fresh w ((w7.setCell ⟨gD, k, none⟩ (.int .i64 (v2 + 1))).drew) gB := Fresh.then HFr (hT1.far gB (hC.lts gB (Or.inr (Or.inl rfl))) (fun e => hC.ne.2.1.2.2 e))
    clear HT hC G1 z0 y9 cz fz hS hwr hT1 i1 HFr
    generalize (w7.setCell ⟨gD, k, none⟩ (.int .i64 (v2 + 1))).drew = w8 at hSd hTd hG hFd ⊢
    have hC := hSd
    have HT := hTd
    have G1 := hG
    have HFr := hFd
    clear hSd hTd hG hFd
    go_wp2_with fail
    go_ret
    have hfin : ({ S1 with K := S1.K.set (k * 3 + 2) (v2 + 1) } : ChS) = s.prog k N RW bs := by
      have hbt : bs.take Q = bs := List.take_of_length_le (by have := HBL.out; have := HQE.out; omega)
      rw [← hk12, HS1.out, ← hk00, HS0.out, hbt]
      unfold ChS.prog ChS.inc
      rw [tick_X]
    rw [← hfin]
    exact ⟨rfl, hC, HT, HFr⟩
  go_upto_region 16 with fail
  go_cut [6] (fun s6 wx => s6 = .int .i64 0 ∧ RefW wx m gB gN gW gD L Af nf cf a b c d e fs { s.tick with X := putX s.tick.X (N * RW) (bs.take Q) } ∧ Tch (rfB m gB gN gW gD) w wx ∧ Blk wx w.heap.size 27 #[.int .i64 (k : Int), .int .i64 (l : Int)] ∧ Fresh w wx gB)
  case first =>
    refine wp_region_noPanic ?_
    refine wp_region_held_drew (S := (fun w' => w'.cell? ⟨m, 6, none⟩ = some (.slice (some ⟨gB, 0, none⟩) NP cB))) (by kernel_rfl) ?_ (fun hHeld => ?_)
    · (first | exact y6 | exact y6a | exact y6b | exact y6c | assumption)
    refine tk 0 ⟨some 80, .move (.tmp 0), 30, "ref.go:96", #[], none⟩ ?_; try simp only [Act.put, pz1, pz2, pz3]
    refine tk 1 ⟨some 81, .nilCheck (.tmp 80), 0, "ref.go:96", #[⟨0, .data⟩], none⟩ ?_; try simp only [Act.put, pz1, pz2, pz3]
    refine tk 2 ⟨some 82, .fieldAddr 94 (.tmp 81) 2, 0, "ref.go:96", #[⟨1, .data⟩], none⟩ ?_; try simp only [Act.put, pz1, pz2, pz3]
    refine tk 3 ⟨some 83, .load 91 (.tmp 82), 91, "ref.go:96", #[⟨2, .data⟩], none⟩ ?_; try simp only [Act.put, pz1, pz2, pz3]
    refine tk 4 ⟨some 84, .move (.tmp 10), 3, "ref.go:96", #[], none⟩ ?_; try simp only [Act.put, pz1, pz2, pz3]
    refine tk 5 ⟨some 85, .move (.tmp 2), 38, "ref.go:96", #[], none⟩ ?_; try simp only [Act.put, pz1, pz2, pz3]
    refine tk 6 ⟨some 86, .move (.tmp 9), 3, "ref.go:96", #[], none⟩ ?_; try simp only [Act.put, pz1, pz2, pz3]
    refine tk 7 ⟨some 87, .slice 38 (.tmp 85) none (some (.tmp 86)) none, 38, "ref.go:96", #[⟨5, .data⟩, ⟨6, .data⟩], none⟩ ?_; try simp only [Act.put, pz1, pz2, pz3]
    refine tk 9 ⟨some 89, .move (.tmp 0), 30, "ref.go:96", #[], none⟩ ?_; try simp only [Act.put, pz1, pz2, pz3]
    refine tk 10 ⟨some 90, .nilCheck (.tmp 89), 0, "ref.go:96", #[⟨9, .data⟩], none⟩ ?_; try simp only [Act.put, pz1, pz2, pz3]
    refine tk 11 ⟨some 91, .fieldAddr 94 (.tmp 90) 2, 0, "ref.go:96", #[⟨10, .data⟩], none⟩ ?_; try simp only [Act.put, pz1, pz2, pz3]
    refine tk 12 ⟨some 92, .load 91 (.tmp 91), 91, "ref.go:96", #[⟨11, .data⟩], none⟩ ?_; try simp only [Act.put, pz1, pz2, pz3]
    refine tk 13 ⟨some 93, .move (.tmp 10), 3, "ref.go:96", #[], none⟩ ?_; try simp only [Act.put, pz1, pz2, pz3]
    refine tk 14 ⟨some 94, .indexAddr 91 (.tmp 92) (.tmp 93), 0, "ref.go:96", #[⟨12, .data⟩, ⟨13, .data⟩], none⟩ ?_; try simp only [Act.put, pz1, pz2, pz3]
    refine tk 16 ⟨some 96, .move (.tmp 9), 3, "ref.go:96", #[], none⟩ ?_; try simp only [Act.put, pz1, pz2, pz3]
    refine wpAnyH_ready (rs := [8, 15]) (by kernel_rfl) (by simp) ?_
    refine (AllReadyH.cons (o := ⟨some 88, .call { callee := .builtin .append, args := #[.const (.slice none 0 0), .tmp 87], argTypes := #[38, 38] }, 38, "ref.go:96", #[⟨7, .data⟩], none⟩) rfl (fun K hK => ?_) (AllReadyH.cons (o := ⟨some 95, .load 38 (.tmp 94), 38, "ref.go:96", #[⟨14, .data⟩], none⟩) rfl (fun K hK => ?_) AllReadyH.nil))
    · obtain ⟨ti0, hi, hz0, hz1, hz2⟩ := info_parts infoByte
      refine step_app _ rfl (.const (.slice none 0 0)) (.tmp 87) _ rfl wN.heap.size 5 ti0 _ 1 1 Try.underlying38 hi hz0 hz1 hz2 rfl (by decide) (.slice none 0 0) 0 [] rfl (World.ownsRow_nil _ _ _ _) (some ⟨gA, 0, none⟩) Q cA ((bs.take Q).map byteV) rfl (HRA.keep (fun b o e j => rfl)) (oneB _) (by unfold maxLen; omega) (by omega) (Nat.le_refl _) ?_
      intro v8 w8 ho8 hg8 hv8
      clear hi hz0 hz1 hz2
      have hb8 : Below wN.heap.size wN w8 := undrew ((Below.refl _ _).grown hg8 (Nat.le_refl _) (fun j hj => by simp [Value.ownBlock] at hj))
      have y6a := cellOf hb8 y6
      have cNa := cellOf hb8 cN
      clear hg8 hv8
      refine hK.out _ _ ?_ (fun hNew => ?_)
      · (first | exact y6 | exact y6a | exact y6b | exact y6c | assumption)
      clear hK K hHeld
      have hHeld := hNew
      clear hNew
      try simp only [Act.put, pz1, pz2, pz3]
      refine wpAnyH_ready (rs := [15]) (by kernel_rfl) (by simp) ?_
      refine AllReadyH.cons (o := ⟨some 95, .load 38 (.tmp 94), 38, "ref.go:96", #[⟨14, .data⟩], none⟩) rfl (fun K hK => ?_) AllReadyH.nil
      go_simp
      refine hK.out _ _ ?_ (fun hNew => ?_)
      · (first | exact y6 | exact y6a | exact y6b | exact y6c | assumption)
      clear hK K hHeld
      have hHeld := hNew
      clear hNew
      try simp only [Act.put, pz1, pz2, pz3]
      refine tk 17 ⟨some 97, .slice 38 (.tmp 95) (some (.tmp 96)) none none, 38, "ref.go:96", #[⟨15, .data⟩, ⟨16, .data⟩], none⟩ ?_; try simp only [Act.put, pz1, pz2, pz3]
      refine wpAnyH_ready (rs := [18]) (by kernel_rfl) (by simp) ?_
      refine AllReadyH.cons (o := ⟨some 98, .call { callee := .builtin .append, args := #[.tmp 88, .tmp 97], argTypes := #[38, 38] }, 38, "ref.go:96", #[⟨8, .data⟩, ⟨17, .data⟩, ⟨8, .chain⟩], none⟩) rfl (fun K hK => ?_) AllReadyH.nil
      obtain ⟨ti0, hi, hz0, hz1, hz2⟩ := info_parts infoByte
      refine step_app _ rfl (.tmp 88) (.tmp 97) _ rfl wN.heap.size 5 ti0 _ 1 1 Try.underlying38 hi hz0 hz1 hz2 rfl (by decide) v8 _ _ rfl ho8 _ _ _ (((s.tick.pageOf N RW).drop Q).map byteV) rfl ((HRP.keep (fun b o e j => by cases e; exact hb8.cell HP.lt))) (oneB _) (by unfold maxLen; omega) (by omega) hb8.size ?_
      intro v18 w18 ho18 hg18 hv18
      clear hi hz0 hz1 hz2
      have hb18 : Below wN.heap.size wN w18 := hb8.trans (below_app (Nat.le_refl _) hb8.size ho8 hg18)
      have ho19 := own_lenR (by omega : 0 + Q + (RW - Q) = RW) ho18
      rw [List.nil_append] at ho19
      obtain ⟨g9, c9, rfl, hR9, hge9, hc91, hc92⟩ := own_rowC ho19 (by omega)
      have y6b := cellOf hb18 y6
      have cNb := cellOf hb18 cN
      have hC18 := RefW.below hC hb18
      have fB18 := hC18.freeB
      clear hg18 hv18 ho18 ho19 ho8
      refine hK.out _ _ ?_ (fun hNew => ?_)
      · (first | exact y6 | exact y6a | exact y6b | exact y6c | assumption)
      clear hK K hHeld
      have hHeld := hNew
      clear hNew
      try simp only [Act.put, pz1, pz2, pz3]
      refine tk 19 ⟨some 99, .indexAddr 91 (.tmp 83) (.tmp 84), 0, "ref.go:96", #[⟨3, .data⟩, ⟨4, .data⟩, ⟨0, .phase⟩, ⟨1, .phase⟩, ⟨2, .phase⟩, ⟨3, .phase⟩, ⟨4, .phase⟩, ⟨5, .phase⟩, ⟨6, .phase⟩, ⟨7, .phase⟩, ⟨8, .phase⟩, ⟨9, .phase⟩, ⟨10, .phase⟩, ⟨11, .phase⟩, ⟨12, .phase⟩, ⟨13, .phase⟩, ⟨14, .phase⟩, ⟨15, .phase⟩, ⟨16, .phase⟩, ⟨17, .phase⟩, ⟨18, .phase⟩], none⟩ ?_; try simp only [Act.put, pz1, pz2, pz3]
      refine wpAnyH_ready (rs := [20]) (by kernel_rfl) (by simp) ?_
      refine AllReadyH.cons (o := ⟨none, .store 38 (.tmp 99) (.tmp 98), 0, "ref.go:96", #[⟨19, .data⟩, ⟨18, .data⟩, ⟨18, .chain⟩, ⟨0, .phase⟩, ⟨1, .phase⟩, ⟨2, .phase⟩, ⟨3, .phase⟩, ⟨4, .phase⟩, ⟨5, .phase⟩, ⟨6, .phase⟩, ⟨7, .phase⟩, ⟨8, .phase⟩, ⟨9, .phase⟩, ⟨10, .phase⟩, ⟨11, .phase⟩, ⟨12, .phase⟩, ⟨13, .phase⟩, ⟨14, .phase⟩, ⟨15, .phase⟩, ⟨16, .phase⟩, ⟨17, .phase⟩, ⟨18, .phase⟩], none⟩) rfl (fun K hK => ?_) AllReadyH.nil
      go_simp
      have y6c : (w18.setCell ⟨gB, N, none⟩ (.slice (some ⟨g9, 0, none⟩) RW c9)).cell? ⟨m, 6, none⟩ = some (.slice (some ⟨gB, 0, none⟩) NP cB) := (World.cell?_of_block (w := w18) ((Tch.setm w18 gB N (.slice (some ⟨g9, 0, none⟩) RW c9)).far m hC18.lt (fun e => hC18.ne.1.1 e))).trans y6b
      refine hK.out _ _ ?_ (fun hNew => ?_)
      · (first | exact y6 | exact y6a | exact y6b | exact y6c | assumption)
      clear hK K hHeld
      have hHeld := hNew
      clear hNew
      try simp only [Act.put, pz1, pz2, pz3]
      refine wpAnyH_done (by kernel_rfl) ?_ _
      refine NoPanic.normal ?_
      go_wp2_with fail
      go_meet
      have hRR : RowT w18 g9 5 ((bs.take Q ++ (s.tick.pageOf N RW).drop (bs.take Q).length).map byteV) := by
        rw [List.map_append, List.length_take, HBL.out, Nat.min_eq_left HQ.out]
        exact hR9
      have hSP := RefW.setPage hC18 hRR (by have := hC.ge m (Or.inl rfl); have := hC.lt; omega) (fun e => by have := hC.lts g9 e; omega) hc91 hc92 HRW.out (by rw [List.length_take]; omega) HNAB.out HFIT.out
      have hTS := Tch.setm w18 gB N (.slice (some ⟨g9, 0, none⟩) RW c9)
      have hTF : Tch (rfB m gB gN gW gD) w (w18.setCell ⟨gB, N, none⟩ (.slice (some ⟨g9, 0, none⟩) RW c9)) := ((tch_r HT).then hb18).trans (hTS.mono (fun g e => Or.inr (Or.inl e)))
      have hGF := hTS.blk (G1.below hb18 G1.lt) (fun e => by have := hC0L.out gB (Or.inr (Or.inl rfl)); omega)
      have hFF : Fresh w (w18.setCell ⟨gB, N, none⟩ (.slice (some ⟨g9, 0, none⟩) RW c9)) gB := Fresh.put ((hb18.block gB (Nat.lt_of_lt_of_le (hC0L.out gB (Or.inr (Or.inl rfl))) HT.size)).trans (HT.far gB (hC0L.out gB (Or.inr (Or.inl rfl))) (fun e => hC.ne.1.1 e.symm))) hC18.blkB (Nat.le_trans HT.size hge9)
      exact ⟨rfl, hSP, hTF, hGF, hFF⟩
    · go_simp
      refine hK.out _ _ ?_ (fun hNew => ?_)
      · (first | exact y6 | exact y6a | exact y6b | exact y6c | assumption)
      clear hK K hHeld
      have hHeld := hNew
      clear hNew
      try simp only [Act.put, pz1, pz2, pz3]
      refine tk 17 ⟨some 97, .slice 38 (.tmp 95) (some (.tmp 96)) none none, 38, "ref.go:96", #[⟨15, .data⟩, ⟨16, .data⟩], none⟩ ?_; try simp only [Act.put, pz1, pz2, pz3]
      refine wpAnyH_ready (rs := [8]) (by kernel_rfl) (by simp) ?_
      refine AllReadyH.cons (o := ⟨some 88, .call { callee := .builtin .append, args := #[.const (.slice none 0 0), .tmp 87], argTypes := #[38, 38] }, 38, "ref.go:96", #[⟨7, .data⟩], none⟩) rfl (fun K hK => ?_) AllReadyH.nil
      obtain ⟨ti0, hi, hz0, hz1, hz2⟩ := info_parts infoByte
      refine step_app _ rfl (.const (.slice none 0 0)) (.tmp 87) _ rfl wN.heap.size 5 ti0 _ 1 1 Try.underlying38 hi hz0 hz1 hz2 rfl (by decide) (.slice none 0 0) 0 [] rfl (World.ownsRow_nil _ _ _ _) (some ⟨gA, 0, none⟩) Q cA ((bs.take Q).map byteV) rfl (HRA.keep (fun b o e j => rfl)) (oneB _) (by unfold maxLen; omega) (by omega) (Nat.le_refl _) ?_
      intro v8 w8 ho8 hg8 hv8
      clear hi hz0 hz1 hz2
      have hb8 : Below wN.heap.size wN w8 := undrew ((Below.refl _ _).grown hg8 (Nat.le_refl _) (fun j hj => by simp [Value.ownBlock] at hj))
      have y6a := cellOf hb8 y6
      have cNa := cellOf hb8 cN
      clear hg8 hv8
      refine hK.out _ _ ?_ (fun hNew => ?_)
      · (first | exact y6 | exact y6a | exact y6b | exact y6c | assumption)
      clear hK K hHeld
      have hHeld := hNew
      clear hNew
      try simp only [Act.put, pz1, pz2, pz3]
      refine wpAnyH_ready (rs := [18]) (by kernel_rfl) (by simp) ?_
      refine AllReadyH.cons (o := ⟨some 98, .call { callee := .builtin .append, args := #[.tmp 88, .tmp 97], argTypes := #[38, 38] }, 38, "ref.go:96", #[⟨8, .data⟩, ⟨17, .data⟩, ⟨8, .chain⟩], none⟩) rfl (fun K hK => ?_) AllReadyH.nil
      obtain ⟨ti0, hi, hz0, hz1, hz2⟩ := info_parts infoByte
      refine step_app _ rfl (.tmp 88) (.tmp 97) _ rfl wN.heap.size 5 ti0 _ 1 1 Try.underlying38 hi hz0 hz1 hz2 rfl (by decide) v8 _ _ rfl ho8 _ _ _ (((s.tick.pageOf N RW).drop Q).map byteV) rfl ((HRP.keep (fun b o e j => by cases e; exact hb8.cell HP.lt))) (oneB _) (by unfold maxLen; omega) (by omega) hb8.size ?_
      intro v18 w18 ho18 hg18 hv18
      clear hi hz0 hz1 hz2
      have hb18 : Below wN.heap.size wN w18 := hb8.trans (below_app (Nat.le_refl _) hb8.size ho8 hg18)
      have ho19 := own_lenR (by omega : 0 + Q + (RW - Q) = RW) ho18
      rw [List.nil_append] at ho19
      obtain ⟨g9, c9, rfl, hR9, hge9, hc91, hc92⟩ := own_rowC ho19 (by omega)
      have y6b := cellOf hb18 y6
      have cNb := cellOf hb18 cN
      have hC18 := RefW.below hC hb18
      have fB18 := hC18.freeB
      clear hg18 hv18 ho18 ho19 ho8
      refine hK.out _ _ ?_ (fun hNew => ?_)
      · (first | exact y6 | exact y6a | exact y6b | exact y6c | assumption)
      clear hK K hHeld
      have hHeld := hNew
      clear hNew
      try simp only [Act.put, pz1, pz2, pz3]
      refine tk 19 ⟨some 99, .indexAddr 91 (.tmp 83) (.tmp 84), 0, "ref.go:96", #[⟨3, .data⟩, ⟨4, .data⟩, ⟨0, .phase⟩, ⟨1, .phase⟩, ⟨2, .phase⟩, ⟨3, .phase⟩, ⟨4, .phase⟩, ⟨5, .phase⟩, ⟨6, .phase⟩, ⟨7, .phase⟩, ⟨8, .phase⟩, ⟨9, .phase⟩, ⟨10, .phase⟩, ⟨11, .phase⟩, ⟨12, .phase⟩, ⟨13, .phase⟩, ⟨14, .phase⟩, ⟨15, .phase⟩, ⟨16, .phase⟩, ⟨17, .phase⟩, ⟨18, .phase⟩], none⟩ ?_; try simp only [Act.put, pz1, pz2, pz3]
      refine wpAnyH_ready (rs := [20]) (by kernel_rfl) (by simp) ?_
      refine AllReadyH.cons (o := ⟨none, .store 38 (.tmp 99) (.tmp 98), 0, "ref.go:96", #[⟨19, .data⟩, ⟨18, .data⟩, ⟨18, .chain⟩, ⟨0, .phase⟩, ⟨1, .phase⟩, ⟨2, .phase⟩, ⟨3, .phase⟩, ⟨4, .phase⟩, ⟨5, .phase⟩, ⟨6, .phase⟩, ⟨7, .phase⟩, ⟨8, .phase⟩, ⟨9, .phase⟩, ⟨10, .phase⟩, ⟨11, .phase⟩, ⟨12, .phase⟩, ⟨13, .phase⟩, ⟨14, .phase⟩, ⟨15, .phase⟩, ⟨16, .phase⟩, ⟨17, .phase⟩, ⟨18, .phase⟩], none⟩) rfl (fun K hK => ?_) AllReadyH.nil
      go_simp
      have y6c : (w18.setCell ⟨gB, N, none⟩ (.slice (some ⟨g9, 0, none⟩) RW c9)).cell? ⟨m, 6, none⟩ = some (.slice (some ⟨gB, 0, none⟩) NP cB) := (World.cell?_of_block (w := w18) ((Tch.setm w18 gB N (.slice (some ⟨g9, 0, none⟩) RW c9)).far m hC18.lt (fun e => hC18.ne.1.1 e))).trans y6b
      refine hK.out _ _ ?_ (fun hNew => ?_)
      · (first | exact y6 | exact y6a | exact y6b | exact y6c | assumption)
      clear hK K hHeld
      have hHeld := hNew
      clear hNew
      try simp only [Act.put, pz1, pz2, pz3]
      refine wpAnyH_done (by kernel_rfl) ?_ _
      refine NoPanic.normal ?_
      go_wp2_with fail
      go_meet
      have hRR : RowT w18 g9 5 ((bs.take Q ++ (s.tick.pageOf N RW).drop (bs.take Q).length).map byteV) := by
        rw [List.map_append, List.length_take, HBL.out, Nat.min_eq_left HQ.out]
        exact hR9
      have hSP := RefW.setPage hC18 hRR (by have := hC.ge m (Or.inl rfl); have := hC.lt; omega) (fun e => by have := hC.lts g9 e; omega) hc91 hc92 HRW.out (by rw [List.length_take]; omega) HNAB.out HFIT.out
      have hTS := Tch.setm w18 gB N (.slice (some ⟨g9, 0, none⟩) RW c9)
      have hTF : Tch (rfB m gB gN gW gD) w (w18.setCell ⟨gB, N, none⟩ (.slice (some ⟨g9, 0, none⟩) RW c9)) := ((tch_r HT).then hb18).trans (hTS.mono (fun g e => Or.inr (Or.inl e)))
      have hGF := hTS.blk (G1.below hb18 G1.lt) (fun e => by have := hC0L.out gB (Or.inr (Or.inl rfl)); omega)
      have hFF : Fresh w (w18.setCell ⟨gB, N, none⟩ (.slice (some ⟨g9, 0, none⟩) RW c9)) gB := Fresh.put ((hb18.block gB (Nat.lt_of_lt_of_le (hC0L.out gB (Or.inr (Or.inl rfl))) HT.size)).trans (HT.far gB (hC0L.out gB (Or.inr (Or.inl rfl))) (fun e => hC.ne.1.1 e.symm))) hC18.blkB (Nat.le_trans HT.size hge9)
      exact ⟨rfl, hSP, hTF, hGF, hFF⟩
  case rest =>
  clear hC HT G1 HCC cD cX cN HP HRA HRP z0 z1 y0 y1 y2 y3 y4 y5 y6 y7 y9 y15
  obtain ⟨rfl, hC, HT, G1, HFr⟩ := hcut
  obtain ⟨w6, rfl⟩ : ∃ W : World, W = wc := ⟨_, rfl⟩
  obtain ⟨S0, hS0⟩ : ∃ S0 : ChS, S0 = { s.tick with X := putX s.tick.X (N * RW) (bs.take Q) } := ⟨_, rfl⟩
  rw [← hS0] at hC
  have hk00 : S0.k (k : Int) 0 = v0 := by rw [hS0]; exact HV0.out
  have hk02 : S0.k (k : Int) 2 = v2 := by rw [hS0]; exact HV2.out
  have HS0 := Lib.hid hS0
  clear hS0
  go_upto_region 17 with fail
  obtain ⟨NP0, NB0, RWc0, cB0, HCC⟩ := hC.cells
  have y7 := HCC.y7
  have cz := HCC.n0 k (by have := HCC.hNB.out; have := HK.out; omega)
  rw [hk00] at cz
  have fz := hC.freeN
  have z0 := G1.cell_ 0
  simp at z0
  have i0 : (0 : Int) ≤ (k : Int) := by omega
  have i1 : (k : Int) < (NB0 : Int) := by have := HCC.hNB.out; have := HK.out; omega
  have hwr : IntKind.i64.wrap (v0 + 1) = v0 + 1 := wrapS _ (by omega) (by omega)
  clear HCC
  go_still_tail 10, (by kernel_rfl)
  change wpList _ _ _ _ _ w6.drew
  go_wp2_with fail
  have hS := RefW.set0 hC HK.out (v0 + 1)
  have hSd := RefW.drew hS
  have hT1 := Tch.setm w6 gN k (.int .i64 (v0 + 1))
  have hTd : Tch (rfB m gB gN gW gD) w ((w6.setCell ⟨gN, k, none⟩ (.int .i64 (v0 + 1))).drew) := (HT.trans (hT1.mono (fun g e => Or.inr (Or.inr (Or.inl e))))).like
  have hG : Blk ((w6.setCell ⟨gN, k, none⟩ (.int .i64 (v0 + 1))).drew) w.heap.size 27 #[.int .i64 (k : Int), .int .i64 (l : Int)] := G1.far (p := ⟨gN, k, none⟩) (fun e => by have := hC0L.out w.heap.size (Or.inr (Or.inr (Or.inl e))); omega) _
  have hFd : Fresh w ((w6.setCell ⟨gN, k, none⟩ (.int .i64 (v0 + 1))).drew) gB := Fresh.then HFr (hT1.far gB (hC.lts gB (Or.inr (Or.inl rfl))) (fun e => hC.ne.2.1.1 e))
  clear HT hC G1 z0 y7 cz fz hS hwr hT1 i1 HFr
  generalize (w6.setCell ⟨gN, k, none⟩ (.int .i64 (v0 + 1))).drew = w7 at hSd hTd hG hFd ⊢
  have hC := hSd
  have HT := hTd
  have G1 := hG
  have HFr := hFd
  clear hSd hTd hG hFd
  obtain ⟨S1, hS1⟩ : ∃ S1 : ChS, S1 = { S0 with K := S0.K.set (k * 3 + 0) (v0 + 1) } := ⟨_, rfl⟩
  rw [← hS1] at hC
  have hk12 : S1.k (k : Int) 2 = v2 := by
    rw [hS1, ← hk02]
    unfold ChS.k
    dsimp only
    rw [Int.toNat_natCast, getD_setN, if_neg (by omega)]
  have HS1 := Lib.hid hS1
  clear hS1
  go_upto_region 19 with fail
  obtain ⟨NP2, NB2, RWc2, cB2, HCC⟩ := hC.cells
  have y9 := HCC.y9
  have cz := HCC.n2 k (by have := HCC.hNB.out; have := HK.out; omega)
  rw [hk12] at cz
  have fz := hC.freeD
  have z0 := G1.cell_ 0
  simp at z0
  have i0 : (0 : Int) ≤ (k : Int) := by omega
  have i1 : (k : Int) < (NB2 : Int) := by have := HCC.hNB.out; have := HK.out; omega
  have hwr : IntKind.i64.wrap (v2 + 1) = v2 + 1 := wrapS _ (by omega) (by omega)
  clear HCC
  go_still_tail 10, (by kernel_rfl)
  change wpList _ _ _ _ _ w7.drew
  go_wp2_with fail
  have hS := RefW.set2 hC HK.out (v2 + 1)
  have hSd := RefW.drew hS
  have hT1 := Tch.setm w7 gD k (.int .i64 (v2 + 1))
  have hTd : Tch (rfB m gB gN gW gD) w ((w7.setCell ⟨gD, k, none⟩ (.int .i64 (v2 + 1))).drew) := (HT.trans (hT1.mono (fun g e => Or.inr (Or.inr (Or.inr (Or.inr e)))))).like
  have hG : Blk ((w7.setCell ⟨gD, k, none⟩ (.int .i64 (v2 + 1))).drew) w.heap.size 27 #[.int .i64 (k : Int), .int .i64 (l : Int)] := G1.far (p := ⟨gD, k, none⟩) (fun e => by have := hC0L.out w.heap.size (Or.inr (Or.inr (Or.inr (Or.inr e)))); omega) _
  have hFd : Fresh w ((w7.setCell ⟨gD, k, none⟩ (.int .i64 (v2 + 1))).drew) gB := Fresh.then HFr (hT1.far gB (hC.lts gB (Or.inr (Or.inl rfl))) (fun e => hC.ne.2.1.2.2 e))
  clear HT hC G1 z0 y9 cz fz hS hwr hT1 i1 HFr
  generalize (w7.setCell ⟨gD, k, none⟩ (.int .i64 (v2 + 1))).drew = w8 at hSd hTd hG hFd ⊢
  have hC := hSd
  have HT := hTd
  have G1 := hG
  have HFr := hFd
  clear hSd hTd hG hFd
  go_wp2_with fail
  go_ret
  have hfin : ({ S1 with K := S1.K.set (k * 3 + 2) (v2 + 1) } : ChS) = s.prog k N RW bs := by
    have hbt : bs.take Q = bs := List.take_of_length_le (by have := HBL.out; have := HQE.out; omega)
    rw [← hk12, HS1.out, ← hk00, HS0.out, hbt]
    unfold ChS.prog ChS.inc
    rw [tick_X]
  rw [← hfin]
  exact ⟨rfl, hC, HT, HFr⟩
end Go.Proofs.Ytcpniplfkillbaa
namespace Go.Proofs.Ytcpniplfkillbaa
open Go.ChangeShapes Go.WideShapes Go.ChangeAt Go.RowKit
theorem rprog_cut (m gB gN gW gD L : Nat) (Af : Option Addr) (nf cf : Nat) (a b c d e : Int) (fs : List Flt) (k l N : Nat) (n : Int) (gA RW cA : Nat) (hcA : RW ≤ cA) (bs : List Nat) (w : World) (s : ChS) (hC : RefW w m gB gN gW gD L Af nf cf a b c d e fs s) (hbn : s.Bnd n) (hn : n ≤ 900000000) (hwt : s.Wt) (ho : s.on = true) (hk : (k : Int) < a) (hl : (l : Int) < b) (HRW : Hid ((RW : Int) = c + 16)) (hfl8 : fs.length ≤ 8) (hcu : Hid (s.cutB = true)) (hfb : failsB fs (k : Int) (s.k (k : Int) 2) = false) (hln : (l : Int) = s.k (k : Int) 0) (hnum : Hid (numberI a b (k : Int) (l : Int) = (N : Int))) (hfit0 : N * RW + RW ≤ s.X.length) (r1 : 40 ≤ RW) (r2 : RW ≤ 80) (hN2 : N < 200) (hNab : (N : Int) < a * b) (hR : RowT w gA 5 (bs.map byteV)) (hgA : ¬ rfB m gB gN gW gD gA) (hbl : bs.length = RW) (hcb : 0 ≤ s.cby) : Calls Try.prog 33 #[.pointer (some ⟨m, 0, none⟩), .agg #[.int .i64 (k : Int), .int .i64 (l : Int)], .slice (some ⟨gA, 0, none⟩) RW cA] w fun e' w' => e' = .returned (.int .i64 9) ∧ RefW w' m gB gN gW gD L Af nf cf a b c d e fs (s.progCut k N RW (bs.take (min RW s.cby.toNat))) ∧ Tch (rfB m gB gN gW gD) w w' ∧ Fresh w w' gB := by
  have ht : Hid (thereB a b (k : Int) (l : Int) = true) := Lib.hid (by unfold thereB withinB; simp; omega)
  have HK := Lib.hid hk
  have tk : ∀ j : Nat, s.tick.k (k : Int) j = s.k (k : Int) j := fun j => by unfold ChS.k; rw [tick_K]
  obtain ⟨v2, hv2⟩ : ∃ v, s.tick.k (k : Int) 2 = v := ⟨_, rfl⟩
  obtain ⟨v0, hv0⟩ : ∃ v, s.tick.k (k : Int) 0 = v := ⟨_, rfl⟩
  have HV2 := Lib.hid hv2
  have HV0 := Lib.hid hv0
  have HFL : Hid (failsB fs (k : Int) v2 = false) := Lib.hid (by rw [← hv2, tk]; exact hfb)
  rw [← tk, hv0] at hln
  have hnq : ((l : Int) != v0) = false := by simp; omega
  have hnp : ((l : Int) == v0) = true := by simp; omega
  have hfit : N * RW + RW ≤ s.tick.X.length := by rw [tick_X]; exact hfit0
  have HNAB := Lib.hid hNab
  have HFIT := Lib.hid hfit
  have HBL := Lib.hid hbl
  have HAR := Lib.hid hR
  have hC0L : Hid (∀ g, rfB m gB gN gW gD g → g < w.heap.size) := Lib.hid hC.lts
  have hgm : gA ≠ m := fun e => hgA (Or.inl e)
  obtain ⟨vb0, vb1⟩ : 0 ≤ v0 ∧ v0 ≤ n := by rw [← hv0, tk]; exact ⟨hbn.k0 _, hbn.k1 _⟩
  obtain ⟨vc0, vc1⟩ : 0 ≤ v2 ∧ v2 ≤ n := by rw [← hv2, tk]; exact ⟨hbn.k0 _, hbn.k1 _⟩
  clear hln hfit0 hfit hNab hbl hR
  have hcy : s.tick.cby = s.cby := by unfold ChS.tick; split <;> rfl
  obtain ⟨Q, hQ⟩ : ∃ Q, min RW s.cby.toNat = Q := ⟨_, rfl⟩
  have hQR : Q ≤ RW := by omega
  have hmm : (if s.tick.cby < (RW : Int) then s.tick.cby else (RW : Int)) = (Q : Int) := by rw [hcy]; split <;> omega
  have hmm2 : min (RW : Int) s.tick.cby = (Q : Int) := by rw [hcy]; omega
  have HQE := Lib.hid hQ
  clear hQ hcb hcy
  have HQ := Lib.hid hQR
  clear hv2 hv0 tk hk hl
  have HM := Lib.hid (planMay_bd hC.may).1
  have hmw := hC.lt
  have HB0 : Below w.heap.size w (w.alloc (.cells #[.int .i64 (k : Int), .int .i64 (l : Int)] 27)) := (Below.refl _ _).alloc (Nat.le_refl _) _
  have G1 : Blk (w.alloc (.cells #[.int .i64 (k : Int), .int .i64 (l : Int)] 27)) w.heap.size 27 #[.int .i64 (k : Int), .int .i64 (l : Int)] := Blk.new_ _ _ _
  have z0 : (w.alloc (.cells #[.int .i64 (k : Int), .int .i64 (l : Int)] 27)).cell? ⟨w.heap.size, 0, none⟩ = some (.int .i64 (k : Int)) := G1.cell_ 0
  have z1 : (w.alloc (.cells #[.int .i64 (k : Int), .int .i64 (l : Int)] 27)).cell? ⟨w.heap.size, 1, none⟩ = some (.int .i64 (l : Int)) := G1.cell_ 1
  have hC := hC.below HB0
  obtain ⟨NP, NB, RWc, cB, HCC⟩ := hC.cells
  have y0 := HCC.y0; have y1 := HCC.y1; have y2 := HCC.y2; have y3 := HCC.y3; have y4 := HCC.y4; have y12 := HCC.y12
  have hnm : ¬ w.heap.size = m := by omega
  rw [show (!s.on) = false by rw [ho]; rfl] at y12
  clear ho
  go_enter Try.func33, Try.ntmps33
  go_upto_region 3 with fail
  refine wp_region_noPanic ?_
  refine wp_region_held_drew (S := (fun w' => w'.cell? ⟨m, 0, none⟩ = some (.int .i64 a) ∧ w'.cell? ⟨m, 1, none⟩ = some (.int .i64 b) ∧ w'.cell? ⟨m, 2, none⟩ = some (.int .i64 c) ∧ w'.cell? ⟨m, 3, none⟩ = some (.int .i64 d) ∧ w'.cell? ⟨m, 4, none⟩ = some (.int .i64 e) ∧ w'.cell? ⟨w.heap.size, 0, none⟩ = some (.int .i64 (k : Int)) ∧ w'.cell? ⟨w.heap.size, 1, none⟩ = some (.int .i64 (l : Int)))) (by kernel_rfl) ?_ (fun hHeld => ?_)
  · (first | exact ⟨y0, y1, y2, y3, y4, z0, z1⟩ | assumption)
  refine tk 0 ⟨some 15, .move (.tmp 0), 30, "ref.go:79", #[], none⟩ ?_; try simp only [Act.put, pz1, pz2, pz3]
  refine tk 1 ⟨some 16, .nilCheck (.tmp 15), 0, "ref.go:79", #[⟨0, .data⟩], none⟩ ?_; try simp only [Act.put, pz1, pz2, pz3]
  refine tk 2 ⟨some 17, .fieldAddr 94 (.tmp 16) 0, 0, "ref.go:79", #[⟨1, .data⟩], none⟩ ?_; try simp only [Act.put, pz1, pz2, pz3]
  refine tk 3 ⟨some 18, .load 23 (.tmp 17), 23, "ref.go:79", #[⟨2, .data⟩], none⟩ ?_; try simp only [Act.put, pz1, pz2, pz3]
  refine tk 4 ⟨some 19, .load 27 (.tmp 4), 27, "ref.go:79", #[], none⟩ ?_; try simp only [Act.put, pz1, pz2, pz3]
  refine wpAnyH_ready (rs := [5]) (by kernel_rfl) (by simp) ?_
  refine AllReadyH.cons (o := ⟨some 20, .call { callee := .value (.func 43), args := #[.tmp 18, .tmp 19], argTypes := #[23, 27] }, 4, "ref.go:79", #[⟨3, .data⟩, ⟨4, .data⟩], none⟩) rfl (fun K hK => ?_) AllReadyH.nil
  go_simp
  (first | (go_at_call 43; ((with_reducible refine (rthr_b _ _ _ _ _ (k : Int) (l : Int) _ _ HM ht).mono ?_); rintro e' wN ⟨rfl, hb⟩; (try have hb := undrew hb); replace hC := RefW.likeB hC hb; replace HB0 := btr HB0 HB0.size hb; replace G1 := G1.below hb G1.lt; replace HCC := RefC.below HCC hb; clear z0 z1; clear y0 y1 y2 y3 y4 y12; have z0 := G1.cell_ 0; have z1 := G1.cell_ 1; simp at z0 z1; have y0 := HCC.y0; have y1 := HCC.y1; have y2 := HCC.y2; have y3 := HCC.y3; have y4 := HCC.y4; have y12 := HCC.y12)) | (go_at_call 60; ((with_reducible refine (rraw_b _ _ _ _ _ RW _ HM HRW).mono ?_); rintro e' wN ⟨rfl, hb⟩; (try have hb := undrew hb); replace hC := RefW.likeB hC hb; replace HB0 := btr HB0 HB0.size hb; replace G1 := G1.below hb G1.lt; replace HCC := RefC.below HCC hb; clear z0 z1; clear y0 y1 y2 y3 y4 y12; have z0 := G1.cell_ 0; have z1 := G1.cell_ 1; simp at z0 z1; have y0 := HCC.y0; have y1 := HCC.y1; have y2 := HCC.y2; have y3 := HCC.y3; have y4 := HCC.y4; have y12 := HCC.y12)))
  go_wp2_with fail
  refine hK.out _ _ ?_ (fun hNew => ?_)
  · (first | exact ⟨y0, y1, y2, y3, y4, z0, z1⟩ | assumption)
  clear hK K hHeld
  have hHeld := hNew
  clear hNew
  try simp only [Act.put, pz1, pz2, pz3]
  refine tk 6 ⟨some 21, .unOp .not 4 (.tmp 20), 4, "ref.go:79", #[⟨5, .data⟩], none⟩ ?_; try simp only [Act.put, pz1, pz2, pz3]
  refine tk 7 ⟨some 22, .move (.tmp 21), 4, "ref.go:79", #[⟨6, .data⟩, ⟨5, .chain⟩], none⟩ ?_; try simp only [Act.put, pz1, pz2, pz3]
  refine tk 8 ⟨some 23, .move (.tmp 2), 38, "ref.go:79", #[⟨7, .guard⟩], some (7, false)⟩ ?_; try simp only [Act.put, pz1, pz2, pz3]
  refine tk 9 ⟨some 24, .call { callee := .builtin .len, args := #[.tmp 23], argTypes := #[38] }, 3, "ref.go:79", #[⟨8, .data⟩, ⟨7, .guard⟩], some (7, false)⟩ ?_; try simp only [Act.put, pz1, pz2, pz3]
  refine tk 10 ⟨some 25, .move (.tmp 0), 30, "ref.go:79", #[⟨7, .guard⟩], some (7, false)⟩ ?_; try simp only [Act.put, pz1, pz2, pz3]
  refine tk 11 ⟨some 26, .nilCheck (.tmp 25), 0, "ref.go:79", #[⟨10, .data⟩, ⟨7, .guard⟩], some (7, false)⟩ ?_; try simp only [Act.put, pz1, pz2, pz3]
  refine tk 12 ⟨some 27, .fieldAddr 94 (.tmp 26) 0, 0, "ref.go:79", #[⟨11, .data⟩, ⟨7, .guard⟩], some (7, false)⟩ ?_; try simp only [Act.put, pz1, pz2, pz3]
  refine tk 13 ⟨some 28, .load 23 (.tmp 27), 23, "ref.go:79", #[⟨12, .data⟩, ⟨7, .guard⟩], some (7, false)⟩ ?_; try simp only [Act.put, pz1, pz2, pz3]
  refine wpAnyH_ready (rs := [14]) (by kernel_rfl) (by simp) ?_
  refine AllReadyH.cons (o := ⟨some 29, .call { callee := .value (.func 60), args := #[.tmp 28], argTypes := #[23] }, 3, "ref.go:79", #[⟨13, .data⟩, ⟨7, .chain⟩, ⟨7, .guard⟩], some (7, false)⟩) rfl (fun K hK => ?_) AllReadyH.nil
  go_simp
  (first | (go_at_call 43; ((with_reducible refine (rthr_b _ _ _ _ _ (k : Int) (l : Int) _ _ HM ht).mono ?_); rintro e' wN ⟨rfl, hb⟩; (try have hb := undrew hb); replace hC := RefW.likeB hC hb; replace HB0 := btr HB0 HB0.size hb; replace G1 := G1.below hb G1.lt; replace HCC := RefC.below HCC hb; clear z0 z1; clear y0 y1 y2 y3 y4 y12; have z0 := G1.cell_ 0; have z1 := G1.cell_ 1; simp at z0 z1; have y0 := HCC.y0; have y1 := HCC.y1; have y2 := HCC.y2; have y3 := HCC.y3; have y4 := HCC.y4; have y12 := HCC.y12)) | (go_at_call 60; ((with_reducible refine (rraw_b _ _ _ _ _ RW _ HM HRW).mono ?_); rintro e' wN ⟨rfl, hb⟩; (try have hb := undrew hb); replace hC := RefW.likeB hC hb; replace HB0 := btr HB0 HB0.size hb; replace G1 := G1.below hb G1.lt; replace HCC := RefC.below HCC hb; clear z0 z1; clear y0 y1 y2 y3 y4 y12; have z0 := G1.cell_ 0; have z1 := G1.cell_ 1; simp at z0 z1; have y0 := HCC.y0; have y1 := HCC.y1; have y2 := HCC.y2; have y3 := HCC.y3; have y4 := HCC.y4; have y12 := HCC.y12)))
  go_wp2_with fail
  refine hK.out _ _ ?_ (fun hNew => ?_)
  · (first | exact ⟨y0, y1, y2, y3, y4, z0, z1⟩ | assumption)
  clear hK K hHeld
  have hHeld := hNew
  clear hNew
  try simp only [Act.put, pz1, pz2, pz3]
  refine tk 15 ⟨some 30, .binOp .neq 3 (.tmp 24) (.tmp 29) 3, 4, "ref.go:79", #[⟨9, .data⟩, ⟨14, .data⟩, ⟨7, .guard⟩], some (7, false)⟩ ?_; try simp only [Act.put, pz1, pz2, pz3]
  refine tk 16 ⟨some 31, .pick (.tmp 22) (.const (.bool true)) (.tmp 30), 4, "ref.go:79", #[⟨7, .data⟩, ⟨15, .data⟩], none⟩ ?_; try simp only [Act.put, pz1, pz2, pz3]
  refine wpAnyH_done (by kernel_rfl) ?_ _
  refine NoPanic.normal ?_
  go_upto_region 7 with (go_at_call 61; ((with_reducible refine (rturn_b _ _ _ _ _ _ _ _ _ _ _ _ _ _ _ _ _ _ _ hC hbn (by omega) hwt hcu).mono ?_); rintro e' wN ⟨rfl, hC2, hT⟩; have HT := (Tch.of_below (S := fun g => g = m) HB0).trans (Tch.like0 hT); have hlt0 := hT.far w.heap.size G1.lt hnm; replace G1 : Blk wN w.heap.size _ _ := hlt0.trans G1; clear hlt0 hC HCC; have hC := hC2; clear hC2 z0 z1; clear y0 y1 y2 y3 y4 y12; have z0 := G1.cell_ 0; have z1 := G1.cell_ 1; simp at z0 z1))
  obtain ⟨NP, NB, RWc, cB, HCC⟩ := hC.cells
  have y0 := HCC.y0; have y1 := HCC.y1; have y2 := HCC.y2; have y3 := HCC.y3; have y4 := HCC.y4; have y5 := HCC.y5; have y6 := HCC.y6; have y7 := HCC.y7; have y9 := HCC.y9; have y15 := HCC.y15
  have i0 : (0 : Int) ≤ (k : Int) := by omega
  have i1 : (k : Int) < (NB : Int) := by have := HCC.hNB.out; have := HK.out; omega
  have cD := HCC.n2 k (by omega)
  have cX := HCC.n0 k (by omega)
  rw [HV2.out] at cD
  rw [HV0.out] at cX
  refine wp_region_noPanic ?_
  refine wp_region_held_drew (S := (fun w' => w'.cell? ⟨m, 5, none⟩ = some (.slice Af nf cf) ∧ w'.cell? ⟨m, 9, none⟩ = some (.slice (some ⟨gD, 0, none⟩) NB NB) ∧ w'.cell? ⟨w.heap.size, 0, none⟩ = some (.int .i64 (k : Int)) ∧ w'.cell? ⟨gD, k, none⟩ = some (.int .i64 v2))) (by kernel_rfl) ?_ (fun hHeld => ?_)
  · (first | exact ⟨y5, y9, z0, cD⟩ | assumption)
  refine tk 0 ⟨some 35, .move (.tmp 0), 30, "ref.go:85", #[], none⟩ ?_; try simp only [Act.put, pz1, pz2, pz3]
  refine tk 1 ⟨some 36, .nilCheck (.tmp 35), 0, "ref.go:85", #[⟨0, .data⟩], none⟩ ?_; try simp only [Act.put, pz1, pz2, pz3]
  refine tk 2 ⟨some 37, .fieldAddr 94 (.tmp 36) 1, 0, "ref.go:85", #[⟨1, .data⟩], none⟩ ?_; try simp only [Act.put, pz1, pz2, pz3]
  refine tk 3 ⟨some 38, .load 24 (.tmp 37), 24, "ref.go:85", #[⟨2, .data⟩], none⟩ ?_; try simp only [Act.put, pz1, pz2, pz3]
  refine tk 4 ⟨some 39, .fieldAddr 27 (.tmp 4) 0, 0, "ref.go:85", #[], none⟩ ?_; try simp only [Act.put, pz1, pz2, pz3]
  refine tk 5 ⟨some 40, .load 3 (.tmp 39), 3, "ref.go:85", #[⟨4, .data⟩], none⟩ ?_; try simp only [Act.put, pz1, pz2, pz3]
  refine tk 6 ⟨some 41, .move (.tmp 0), 30, "ref.go:85", #[], none⟩ ?_; try simp only [Act.put, pz1, pz2, pz3]
  refine tk 7 ⟨some 42, .nilCheck (.tmp 41), 0, "ref.go:85", #[⟨6, .data⟩], none⟩ ?_; try simp only [Act.put, pz1, pz2, pz3]
  refine tk 8 ⟨some 43, .fieldAddr 94 (.tmp 42) 5, 0, "ref.go:85", #[⟨7, .data⟩], none⟩ ?_; try simp only [Act.put, pz1, pz2, pz3]
  refine tk 9 ⟨some 44, .load 92 (.tmp 43), 92, "ref.go:85", #[⟨8, .data⟩], none⟩ ?_; try simp only [Act.put, pz1, pz2, pz3]
  refine tk 10 ⟨some 45, .fieldAddr 27 (.tmp 4) 0, 0, "ref.go:85", #[], none⟩ ?_; try simp only [Act.put, pz1, pz2, pz3]
  refine tk 11 ⟨some 46, .load 3 (.tmp 45), 3, "ref.go:85", #[⟨10, .data⟩], none⟩ ?_; try simp only [Act.put, pz1, pz2, pz3]
  refine tk 12 ⟨some 47, .indexAddr 92 (.tmp 44) (.tmp 46), 0, "ref.go:85", #[⟨9, .data⟩, ⟨11, .data⟩], none⟩ ?_; try simp only [Act.put, pz1, pz2, pz3]
  refine tk 13 ⟨some 48, .load 3 (.tmp 47), 3, "ref.go:85", #[⟨12, .data⟩], none⟩ ?_; try simp only [Act.put, pz1, pz2, pz3]
  refine wpAnyH_ready (rs := [14]) (by kernel_rfl) (by simp) ?_
  refine AllReadyH.cons (o := ⟨some 49, .call { callee := .value (.func 62), args := #[.tmp 38, .tmp 40, .tmp 48], argTypes := #[24, 3, 3] }, 4, "ref.go:85", #[⟨3, .data⟩, ⟨5, .data⟩, ⟨13, .data⟩], none⟩) rfl (fun K hK => ?_) AllReadyH.nil
  go_simp
  (go_at_call 62; ((with_reducible refine (rpfails_b fs Af nf cf _ _ _ _ (by first | exact hC.flt.sl | exact (RefW.drew hC).flt.sl) hC.nf (by omega) HFL).mono ?_); rintro e' wN ⟨rfl, hb⟩; (try have hb := undrew hb); replace hC := RefW.likeB hC hb; replace HT := Tch.thenB HT hb; replace G1 := G1.below hb G1.lt; replace HCC := RefC.below HCC hb; replace cD := cellOf hb cD; replace cX := cellOf hb cX; clear z0 z1; clear y0 y1 y2 y3 y4 y5 y6 y7 y9 y15; have z0 := G1.cell_ 0; have z1 := G1.cell_ 1; simp at z0 z1; have y0 := HCC.y0; have y1 := HCC.y1; have y2 := HCC.y2; have y3 := HCC.y3; have y4 := HCC.y4; have y5 := HCC.y5; have y6 := HCC.y6; have y7 := HCC.y7; have y9 := HCC.y9; have y15 := HCC.y15))
  go_wp2_with fail
  refine hK.out _ _ ?_ (fun hNew => ?_)
  · (first | exact ⟨y5, y9, z0, cD⟩ | assumption)
  clear hK K hHeld
  have hHeld := hNew
  clear hNew
  try simp only [Act.put, pz1, pz2, pz3]
  refine tk 15 ⟨some 34, .assign (.tmp 49), 4, "ref.go:85", #[⟨14, .data⟩, ⟨14, .chain⟩], none⟩ ?_; try simp only [Act.put, pz1, pz2, pz3]
  refine wpAnyH_done (by kernel_rfl) ?_ _
  refine NoPanic.normal ?_
  go_upto_region 9 with fail
  refine wp_region_noPanic ?_
  refine wp_region_held_drew (S := (fun w' => w'.cell? ⟨m, 7, none⟩ = some (.slice (some ⟨gN, 0, none⟩) NB NB) ∧ w'.cell? ⟨w.heap.size, 0, none⟩ = some (.int .i64 (k : Int)) ∧ w'.cell? ⟨w.heap.size, 1, none⟩ = some (.int .i64 (l : Int)) ∧ w'.cell? ⟨gN, k, none⟩ = some (.int .i64 v0))) (by kernel_rfl) ?_ (fun hHeld => ?_)
  · (first | exact ⟨y7, z0, z1, cX⟩ | assumption)
  refine tk 0 ⟨some 51, .fieldAddr 27 (.tmp 4) 1, 0, "ref.go:87", #[], none⟩ ?_; try simp only [Act.put, pz1, pz2, pz3]
  refine tk 1 ⟨some 52, .load 3 (.tmp 51), 3, "ref.go:87", #[⟨0, .data⟩], none⟩ ?_; try simp only [Act.put, pz1, pz2, pz3]
  refine tk 2 ⟨some 53, .move (.tmp 0), 30, "ref.go:87", #[], none⟩ ?_; try simp only [Act.put, pz1, pz2, pz3]
  refine tk 3 ⟨some 54, .nilCheck (.tmp 53), 0, "ref.go:87", #[⟨2, .data⟩], none⟩ ?_; try simp only [Act.put, pz1, pz2, pz3]
  refine tk 4 ⟨some 55, .fieldAddr 94 (.tmp 54) 3, 0, "ref.go:87", #[⟨3, .data⟩], none⟩ ?_; try simp only [Act.put, pz1, pz2, pz3]
  refine tk 5 ⟨some 56, .load 92 (.tmp 55), 92, "ref.go:87", #[⟨4, .data⟩], none⟩ ?_; try simp only [Act.put, pz1, pz2, pz3]
  refine tk 6 ⟨some 57, .fieldAddr 27 (.tmp 4) 0, 0, "ref.go:87", #[], none⟩ ?_; try simp only [Act.put, pz1, pz2, pz3]
  refine tk 7 ⟨some 58, .load 3 (.tmp 57), 3, "ref.go:87", #[⟨6, .data⟩], none⟩ ?_; try simp only [Act.put, pz1, pz2, pz3]
  refine tk 8 ⟨some 59, .indexAddr 92 (.tmp 56) (.tmp 58), 0, "ref.go:87", #[⟨5, .data⟩, ⟨7, .data⟩], none⟩ ?_; try simp only [Act.put, pz1, pz2, pz3]
  refine tk 9 ⟨some 60, .load 3 (.tmp 59), 3, "ref.go:87", #[⟨8, .data⟩], none⟩ ?_; try simp only [Act.put, pz1, pz2, pz3]
  refine tk 10 ⟨some 61, .binOp .neq 3 (.tmp 52) (.tmp 60) 3, 4, "ref.go:87", #[⟨1, .data⟩, ⟨9, .data⟩], none⟩ ?_; try simp only [Act.put, pz1, pz2, pz3]
  refine tk 11 ⟨some 50, .assign (.tmp 61), 4, "ref.go:87", #[⟨10, .data⟩], none⟩ ?_; try simp only [Act.put, pz1, pz2, pz3]
  refine wpAnyH_done (by kernel_rfl) ?_ _
  refine NoPanic.normal ?_
  go_upto_region 15 with fail
  refine wp_region_noPanic ?_
  refine wp_region_held_drew (S := (fun w' => w'.cell? ⟨m, 0, none⟩ = some (.int .i64 a) ∧ w'.cell? ⟨m, 1, none⟩ = some (.int .i64 b) ∧ w'.cell? ⟨m, 2, none⟩ = some (.int .i64 c) ∧ w'.cell? ⟨m, 3, none⟩ = some (.int .i64 d) ∧ w'.cell? ⟨m, 4, none⟩ = some (.int .i64 e) ∧ w'.cell? ⟨w.heap.size, 0, none⟩ = some (.int .i64 (k : Int)) ∧ w'.cell? ⟨w.heap.size, 1, none⟩ = some (.int .i64 (l : Int)))) (by kernel_rfl) ?_ (fun hHeld => ?_)
  · (first | exact ⟨y0, y1, y2, y3, y4, z0, z1⟩ | assumption)
  refine tk 0 ⟨some 74, .move (.tmp 0), 30, "ref.go:95", #[], none⟩ ?_; try simp only [Act.put, pz1, pz2, pz3]
  refine tk 1 ⟨some 75, .nilCheck (.tmp 74), 0, "ref.go:95", #[⟨0, .data⟩], none⟩ ?_; try simp only [Act.put, pz1, pz2, pz3]
  refine tk 2 ⟨some 76, .fieldAddr 94 (.tmp 75) 0, 0, "ref.go:95", #[⟨1, .data⟩], none⟩ ?_; try simp only [Act.put, pz1, pz2, pz3]
  refine tk 3 ⟨some 77, .load 23 (.tmp 76), 23, "ref.go:95", #[⟨2, .data⟩], none⟩ ?_; try simp only [Act.put, pz1, pz2, pz3]
  refine tk 4 ⟨some 78, .load 27 (.tmp 4), 27, "ref.go:95", #[], none⟩ ?_; try simp only [Act.put, pz1, pz2, pz3]
  refine wpAnyH_ready (rs := [5]) (by kernel_rfl) (by simp) ?_
  refine AllReadyH.cons (o := ⟨some 79, .call { callee := .value (.func 23), args := #[.tmp 77, .tmp 78], argTypes := #[23, 27] }, 3, "ref.go:95", #[⟨3, .data⟩, ⟨4, .data⟩], none⟩) rfl (fun K hK => ?_) AllReadyH.nil
  go_simp
  (go_at_call 23; ((with_reducible refine (rnum_c _ _ _ _ _ _ _ N _ HM hnum).mono ?_); rintro e' wN ⟨rfl, hb⟩; (try have hb := undrew hb); (try have hb := undrew hb); replace hC := RefW.likeB hC hb; replace HT := Tch.thenB HT hb; replace G1 := G1.below hb G1.lt; replace HCC := RefC.below HCC hb; replace cD := cellOf hb cD; replace cX := cellOf hb cX; clear z0 z1; clear y0 y1 y2 y3 y4 y5 y6 y7 y9 y15; have z0 := G1.cell_ 0; have z1 := G1.cell_ 1; simp at z0 z1; have y0 := HCC.y0; have y1 := HCC.y1; have y2 := HCC.y2; have y3 := HCC.y3; have y4 := HCC.y4; have y5 := HCC.y5; have y6 := HCC.y6; have y7 := HCC.y7; have y9 := HCC.y9; have y15 := HCC.y15))
  go_wp2_with fail
  refine hK.out _ _ ?_ (fun hNew => ?_)
  · (first | exact ⟨y0, y1, y2, y3, y4, z0, z1⟩ | assumption)
  clear hK K hHeld
  have hHeld := hNew
  clear hNew
  try simp only [Act.put, pz1, pz2, pz3]
  refine tk 6 ⟨some 10, .assign (.tmp 79), 3, "ref.go:95", #[⟨5, .data⟩, ⟨5, .chain⟩, ⟨0, .phase⟩, ⟨1, .phase⟩, ⟨2, .phase⟩, ⟨3, .phase⟩, ⟨4, .phase⟩, ⟨5, .phase⟩], none⟩ ?_; try simp only [Act.put, pz1, pz2, pz3]
  refine wpAnyH_done (by kernel_rfl) ?_ _
  refine NoPanic.normal ?_
  (try rw [hmm])
  (try rw [hmm2])
  obtain ⟨p, cp, HP⟩ := hC.page HRW.out HNAB.out HFIT.out
  have cN := HP.cN
  have j0 : (0 : Int) ≤ (N : Int) := by omega
  have j1 : (N : Int) < (NP : Int) := by have := HCC.hNP.out; have := HNAB.out; omega
  have HRA : Rd wN (some ⟨gA, 0, none⟩) Q 1 ((bs.take Q).map byteV) := row_take (HAR.out.keep (HT.far gA HAR.out.lt hgm)) HBL.out hQR
  have HRP := rd_dropB HP.rd hQR
  have q0 : (0 : Int) ≤ (Q : Int) := by omega
  have q1 : (Q : Int) ≤ (RW : Int) := by omega
  have q1A : (Q : Int) ≤ (cA : Int) := by omega
  have q1B : Q ≤ cA := by omega
  have q2 : RW ≤ cp := HP.cap
  have q3 : cp ≤ maxLen := HP.cap2
  by_cases hcp : cp = Q
  · have hcq : RW - Q = 0 := by omega
    have HRZ : ∀ (A : Option Addr) (w' : World), Rd w' A 0 1 (((s.tick.pageOf N RW).drop Q).map byteV) := fun A w' => ⟨by have := HRP.1; rw [hcq] at this; exact this, Or.inl rfl⟩
    have hcp := hcp.symm
    subst hcp
    go_upto_region 16 with fail
    go_cut [6] (fun s6 wx => s6 = .int .i64 0 ∧ RefW wx m gB gN gW gD L Af nf cf a b c d e fs { s.tick with X := putX s.tick.X (N * RW) (bs.take Q) } ∧ Tch (rfB m gB gN gW gD) w wx ∧ Blk wx w.heap.size 27 #[.int .i64 (k : Int), .int .i64 (l : Int)] ∧ Fresh w wx gB)
    case first =>
      refine wp_region_noPanic ?_
      refine wp_region_held_drew (S := (fun w' => w'.cell? ⟨m, 6, none⟩ = some (.slice (some ⟨gB, 0, none⟩) NP cB))) (by kernel_rfl) ?_ (fun hHeld => ?_)
      · (first | exact y6 | exact y6a | exact y6b | exact y6c | assumption)
      refine tk 0 ⟨some 80, .move (.tmp 0), 30, "ref.go:96", #[], none⟩ ?_; try simp only [Act.put, pz1, pz2, pz3]
      refine tk 1 ⟨some 81, .nilCheck (.tmp 80), 0, "ref.go:96", #[⟨0, .data⟩], none⟩ ?_; try simp only [Act.put, pz1, pz2, pz3]
      refine tk 2 ⟨some 82, .fieldAddr 94 (.tmp 81) 2, 0, "ref.go:96", #[⟨1, .data⟩], none⟩ ?_; try simp only [Act.put, pz1, pz2, pz3]
      refine tk 3 ⟨some 83, .load 91 (.tmp 82), 91, "ref.go:96", #[⟨2, .data⟩], none⟩ ?_; try simp only [Act.put, pz1, pz2, pz3]
      refine tk 4 ⟨some 84, .move (.tmp 10), 3, "ref.go:96", #[], none⟩ ?_; try simp only [Act.put, pz1, pz2, pz3]
      refine tk 5 ⟨some 85, .move (.tmp 2), 38, "ref.go:96", #[], none⟩ ?_; try simp only [Act.put, pz1, pz2, pz3]
      refine tk 6 ⟨some 86, .move (.tmp 9), 3, "ref.go:96", #[], none⟩ ?_; try simp only [Act.put, pz1, pz2, pz3]
      refine tk 7 ⟨some 87, .slice 38 (.tmp 85) none (some (.tmp 86)) none, 38, "ref.go:96", #[⟨5, .data⟩, ⟨6, .data⟩], none⟩ ?_; try simp only [Act.put, pz1, pz2, pz3]
      refine tk 9 ⟨some 89, .move (.tmp 0), 30, "ref.go:96", #[], none⟩ ?_; try simp only [Act.put, pz1, pz2, pz3]
      refine tk 10 ⟨some 90, .nilCheck (.tmp 89), 0, "ref.go:96", #[⟨9, .data⟩], none⟩ ?_; try simp only [Act.put, pz1, pz2, pz3]
      refine tk 11 ⟨some 91, .fieldAddr 94 (.tmp 90) 2, 0, "ref.go:96", #[⟨10, .data⟩], none⟩ ?_; try simp only [Act.put, pz1, pz2, pz3]
      refine tk 12 ⟨some 92, .load 91 (.tmp 91), 91, "ref.go:96", #[⟨11, .data⟩], none⟩ ?_; try simp only [Act.put, pz1, pz2, pz3]
      refine tk 13 ⟨some 93, .move (.tmp 10), 3, "ref.go:96", #[], none⟩ ?_; try simp only [Act.put, pz1, pz2, pz3]
      refine tk 14 ⟨some 94, .indexAddr 91 (.tmp 92) (.tmp 93), 0, "ref.go:96", #[⟨12, .data⟩, ⟨13, .data⟩], none⟩ ?_; try simp only [Act.put, pz1, pz2, pz3]
      refine tk 16 ⟨some 96, .move (.tmp 9), 3, "ref.go:96", #[], none⟩ ?_; try simp only [Act.put, pz1, pz2, pz3]
      refine wpAnyH_ready (rs := [8, 15]) (by kernel_rfl) (by simp) ?_
      refine (AllReadyH.cons (o := ⟨some 88, .call { callee := .builtin .append, args := #[.const (.slice none 0 0), .tmp 87], argTypes := #[38, 38] }, 38, "ref.go:96", #[⟨7, .data⟩], none⟩) rfl (fun K hK => ?_) (AllReadyH.cons (o := ⟨some 95, .load 38 (.tmp 94), 38, "ref.go:96", #[⟨14, .data⟩], none⟩) rfl (fun K hK => ?_) AllReadyH.nil))
      · obtain ⟨ti0, hi, hz0, hz1, hz2⟩ := info_parts infoByte
        refine step_app _ rfl (.const (.slice none 0 0)) (.tmp 87) _ rfl wN.heap.size 5 ti0 _ 1 1 Try.underlying38 hi hz0 hz1 hz2 rfl (by decide) (.slice none 0 0) 0 [] rfl (World.ownsRow_nil _ _ _ _) (some ⟨gA, 0, none⟩) Q cA ((bs.take Q).map byteV) rfl (HRA.keep (fun b o e j => rfl)) (oneB _) (by unfold maxLen; omega) (by omega) (Nat.le_refl _) ?_
        intro v8 w8 ho8 hg8 hv8
        clear hi hz0 hz1 hz2
        have hb8 : Below wN.heap.size wN w8 := undrew ((Below.refl _ _).grown hg8 (Nat.le_refl _) (fun j hj => by simp [Value.ownBlock] at hj))
        have y6a := cellOf hb8 y6
        have cNa := cellOf hb8 cN
        clear hg8 hv8
        refine hK.out _ _ ?_ (fun hNew => ?_)
        · (first | exact y6 | exact y6a | exact y6b | exact y6c | assumption)
        clear hK K hHeld
        have hHeld := hNew
        clear hNew
        try simp only [Act.put, pz1, pz2, pz3]
        refine wpAnyH_ready (rs := [15]) (by kernel_rfl) (by simp) ?_
        refine AllReadyH.cons (o := ⟨some 95, .load 38 (.tmp 94), 38, "ref.go:96", #[⟨14, .data⟩], none⟩) rfl (fun K hK => ?_) AllReadyH.nil
        go_simp
        refine hK.out _ _ ?_ (fun hNew => ?_)
        · (first | exact y6 | exact y6a | exact y6b | exact y6c | assumption)
        clear hK K hHeld
        have hHeld := hNew
        clear hNew
        try simp only [Act.put, pz1, pz2, pz3]
        refine tk 17 ⟨some 97, .slice 38 (.tmp 95) (some (.tmp 96)) none none, 38, "ref.go:96", #[⟨15, .data⟩, ⟨16, .data⟩], none⟩ ?_; try simp only [Act.put, pz1, pz2, pz3]
        refine wpAnyH_ready (rs := [18]) (by kernel_rfl) (by simp) ?_
        refine AllReadyH.cons (o := ⟨some 98, .call { callee := .builtin .append, args := #[.tmp 88, .tmp 97], argTypes := #[38, 38] }, 38, "ref.go:96", #[⟨8, .data⟩, ⟨17, .data⟩, ⟨8, .chain⟩], none⟩) rfl (fun K hK => ?_) AllReadyH.nil
        obtain ⟨ti0, hi, hz0, hz1, hz2⟩ := info_parts infoByte
        refine step_app _ rfl (.tmp 88) (.tmp 97) _ rfl wN.heap.size 5 ti0 _ 1 1 Try.underlying38 hi hz0 hz1 hz2 rfl (by decide) v8 _ _ rfl ho8 _ _ _ (((s.tick.pageOf N RW).drop Q).map byteV) rfl (HRZ _ _) (oneB _) (by unfold maxLen; omega) (by omega) hb8.size ?_
        intro v18 w18 ho18 hg18 hv18
        clear hi hz0 hz1 hz2
        have hb18 : Below wN.heap.size wN w18 := hb8.trans (below_app (Nat.le_refl _) hb8.size ho8 hg18)
        have ho19 := own_lenR (by omega : 0 + Q + 0 = RW) ho18
        rw [List.nil_append] at ho19
        obtain ⟨g9, c9, rfl, hR9, hge9, hc91, hc92⟩ := own_rowC ho19 (by omega)
        have y6b := cellOf hb18 y6
        have cNb := cellOf hb18 cN
        have hC18 := RefW.below hC hb18
        have fB18 := hC18.freeB
        clear hg18 hv18 ho18 ho19 ho8
        refine hK.out _ _ ?_ (fun hNew => ?_)
        · (first | exact y6 | exact y6a | exact y6b | exact y6c | assumption)
        clear hK K hHeld
        have hHeld := hNew
        clear hNew
        try simp only [Act.put, pz1, pz2, pz3]
        refine tk 19 ⟨some 99, .indexAddr 91 (.tmp 83) (.tmp 84), 0, "ref.go:96", #[⟨3, .data⟩, ⟨4, .data⟩, ⟨0, .phase⟩, ⟨1, .phase⟩, ⟨2, .phase⟩, ⟨3, .phase⟩, ⟨4, .phase⟩, ⟨5, .phase⟩, ⟨6, .phase⟩, ⟨7, .phase⟩, ⟨8, .phase⟩, ⟨9, .phase⟩, ⟨10, .phase⟩, ⟨11, .phase⟩, ⟨12, .phase⟩, ⟨13, .phase⟩, ⟨14, .phase⟩, ⟨15, .phase⟩, ⟨16, .phase⟩, ⟨17, .phase⟩, ⟨18, .phase⟩], none⟩ ?_; try simp only [Act.put, pz1, pz2, pz3]
        refine wpAnyH_ready (rs := [20]) (by kernel_rfl) (by simp) ?_
        refine AllReadyH.cons (o := ⟨none, .store 38 (.tmp 99) (.tmp 98), 0, "ref.go:96", #[⟨19, .data⟩, ⟨18, .data⟩, ⟨18, .chain⟩, ⟨0, .phase⟩, ⟨1, .phase⟩, ⟨2, .phase⟩, ⟨3, .phase⟩, ⟨4, .phase⟩, ⟨5, .phase⟩, ⟨6, .phase⟩, ⟨7, .phase⟩, ⟨8, .phase⟩, ⟨9, .phase⟩, ⟨10, .phase⟩, ⟨11, .phase⟩, ⟨12, .phase⟩, ⟨13, .phase⟩, ⟨14, .phase⟩, ⟨15, .phase⟩, ⟨16, .phase⟩, ⟨17, .phase⟩, ⟨18, .phase⟩], none⟩) rfl (fun K hK => ?_) AllReadyH.nil
        go_simp
        have y6c : (w18.setCell ⟨gB, N, none⟩ (.slice (some ⟨g9, 0, none⟩) RW c9)).cell? ⟨m, 6, none⟩ = some (.slice (some ⟨gB, 0, none⟩) NP cB) := (World.cell?_of_block (w := w18) ((Tch.setm w18 gB N (.slice (some ⟨g9, 0, none⟩) RW c9)).far m hC18.lt (fun e => hC18.ne.1.1 e))).trans y6b
        refine hK.out _ _ ?_ (fun hNew => ?_)
        · (first | exact y6 | exact y6a | exact y6b | exact y6c | assumption)
        clear hK K hHeld
        have hHeld := hNew
        clear hNew
        try simp only [Act.put, pz1, pz2, pz3]
        refine wpAnyH_done (by kernel_rfl) ?_ _
        refine NoPanic.normal ?_
        go_wp2_with fail
        go_meet
        have hRR : RowT w18 g9 5 ((bs.take Q ++ (s.tick.pageOf N RW).drop (bs.take Q).length).map byteV) := by
          rw [List.map_append, List.length_take, HBL.out, Nat.min_eq_left HQ.out]
          exact hR9
        have hSP := RefW.setPage hC18 hRR (by have := hC.ge m (Or.inl rfl); have := hC.lt; omega) (fun e => by have := hC.lts g9 e; omega) hc91 hc92 HRW.out (by rw [List.length_take]; omega) HNAB.out HFIT.out
        have hTS := Tch.setm w18 gB N (.slice (some ⟨g9, 0, none⟩) RW c9)
        have hTF : Tch (rfB m gB gN gW gD) w (w18.setCell ⟨gB, N, none⟩ (.slice (some ⟨g9, 0, none⟩) RW c9)) := ((tch_r HT).then hb18).trans (hTS.mono (fun g e => Or.inr (Or.inl e)))
        have hGF := hTS.blk (G1.below hb18 G1.lt) (fun e => by have := hC0L.out gB (Or.inr (Or.inl rfl)); omega)
        have hFF : Fresh w (w18.setCell ⟨gB, N, none⟩ (.slice (some ⟨g9, 0, none⟩) RW c9)) gB := Fresh.put ((hb18.block gB (Nat.lt_of_lt_of_le (hC0L.out gB (Or.inr (Or.inl rfl))) HT.size)).trans (HT.far gB (hC0L.out gB (Or.inr (Or.inl rfl))) (fun e => hC.ne.1.1 e.symm))) hC18.blkB (Nat.le_trans HT.size hge9)
        exact ⟨rfl, hSP, hTF, hGF, hFF⟩
      · go_simp
        refine hK.out _ _ ?_ (fun hNew => ?_)
        · (first | exact y6 | exact y6a | exact y6b | exact y6c | assumption)
        clear hK K hHeld
        have hHeld := hNew
        clear hNew
        try simp only [Act.put, pz1, pz2, pz3]
        refine tk 17 ⟨some 97, .slice 38 (.tmp 95) (some (.tmp 96)) none none, 38, "ref.go:96", #[⟨15, .data⟩, ⟨16, .data⟩], none⟩ ?_; try simp only [Act.put, pz1, pz2, pz3]
        refine wpAnyH_ready (rs := [8]) (by kernel_rfl) (by simp) ?_
        refine AllReadyH.cons (o := ⟨some 88, .call { callee := .builtin .append, args := #[.const (.slice none 0 0), .tmp 87], argTypes := #[38, 38] }, 38, "ref.go:96", #[⟨7, .data⟩], none⟩) rfl (fun K hK => ?_) AllReadyH.nil
        obtain ⟨ti0, hi, hz0, hz1, hz2⟩ := info_parts infoByte
        refine step_app _ rfl (.const (.slice none 0 0)) (.tmp 87) _ rfl wN.heap.size 5 ti0 _ 1 1 Try.underlying38 hi hz0 hz1 hz2 rfl (by decide) (.slice none 0 0) 0 [] rfl (World.ownsRow_nil _ _ _ _) (some ⟨gA, 0, none⟩) Q cA ((bs.take Q).map byteV) rfl (HRA.keep (fun b o e j => rfl)) (oneB _) (by unfold maxLen; omega) (by omega) (Nat.le_refl _) ?_
        intro v8 w8 ho8 hg8 hv8
        clear hi hz0 hz1 hz2
        have hb8 : Below wN.heap.size wN w8 := undrew ((Below.refl _ _).grown hg8 (Nat.le_refl _) (fun j hj => by simp [Value.ownBlock] at hj))
        have y6a := cellOf hb8 y6
        have cNa := cellOf hb8 cN
        clear hg8 hv8
        refine hK.out _ _ ?_ (fun hNew => ?_)
        · (first | exact y6 | exact y6a | exact y6b | exact y6c | assumption)
        clear hK K hHeld
        have hHeld := hNew
        clear hNew
        try simp only [Act.put, pz1, pz2, pz3]
        refine wpAnyH_ready (rs := [18]) (by kernel_rfl) (by simp) ?_
        refine AllReadyH.cons (o := ⟨some 98, .call { callee := .builtin .append, args := #[.tmp 88, .tmp 97], argTypes := #[38, 38] }, 38, "ref.go:96", #[⟨8, .data⟩, ⟨17, .data⟩, ⟨8, .chain⟩], none⟩) rfl (fun K hK => ?_) AllReadyH.nil
        obtain ⟨ti0, hi, hz0, hz1, hz2⟩ := info_parts infoByte
        refine step_app _ rfl (.tmp 88) (.tmp 97) _ rfl wN.heap.size 5 ti0 _ 1 1 Try.underlying38 hi hz0 hz1 hz2 rfl (by decide) v8 _ _ rfl ho8 _ _ _ (((s.tick.pageOf N RW).drop Q).map byteV) rfl (HRZ _ _) (oneB _) (by unfold maxLen; omega) (by omega) hb8.size ?_
        intro v18 w18 ho18 hg18 hv18
        clear hi hz0 hz1 hz2
        have hb18 : Below wN.heap.size wN w18 := hb8.trans (below_app (Nat.le_refl _) hb8.size ho8 hg18)
        have ho19 := own_lenR (by omega : 0 + Q + 0 = RW) ho18
        rw [List.nil_append] at ho19
        obtain ⟨g9, c9, rfl, hR9, hge9, hc91, hc92⟩ := own_rowC ho19 (by omega)
        have y6b := cellOf hb18 y6
        have cNb := cellOf hb18 cN
        have hC18 := RefW.below hC hb18
        have fB18 := hC18.freeB
        clear hg18 hv18 ho18 ho19 ho8
        refine hK.out _ _ ?_ (fun hNew => ?_)
        · (first | exact y6 | exact y6a | exact y6b | exact y6c | assumption)
        clear hK K hHeld
        have hHeld := hNew
        clear hNew
        try simp only [Act.put, pz1, pz2, pz3]
        refine tk 19 ⟨some 99, .indexAddr 91 (.tmp 83) (.tmp 84), 0, "ref.go:96", #[⟨3, .data⟩, ⟨4, .data⟩, ⟨0, .phase⟩, ⟨1, .phase⟩, ⟨2, .phase⟩, ⟨3, .phase⟩, ⟨4, .phase⟩, ⟨5, .phase⟩, ⟨6, .phase⟩, ⟨7, .phase⟩, ⟨8, .phase⟩, ⟨9, .phase⟩, ⟨10, .phase⟩, ⟨11, .phase⟩, ⟨12, .phase⟩, ⟨13, .phase⟩, ⟨14, .phase⟩, ⟨15, .phase⟩, ⟨16, .phase⟩, ⟨17, .phase⟩, ⟨18, .phase⟩], none⟩ ?_; try simp only [Act.put, pz1, pz2, pz3]
        refine wpAnyH_ready (rs := [20]) (by kernel_rfl) (by simp) ?_
        refine AllReadyH.cons (o := ⟨none, .store 38 (.tmp 99) (.tmp 98), 0, "ref.go:96", #[⟨19, .data⟩, ⟨18, .data⟩, ⟨18, .chain⟩, ⟨0, .phase⟩, ⟨1, .phase⟩, ⟨2, .phase⟩, ⟨3, .phase⟩, ⟨4, .phase⟩, ⟨5, .phase⟩, ⟨6, .phase⟩, ⟨7, .phase⟩, ⟨8, .phase⟩, ⟨9, .phase⟩, ⟨10, .phase⟩, ⟨11, .phase⟩, ⟨12, .phase⟩, ⟨13, .phase⟩, ⟨14, .phase⟩, ⟨15, .phase⟩, ⟨16, .phase⟩, ⟨17, .phase⟩, ⟨18, .phase⟩], none⟩) rfl (fun K hK => ?_) AllReadyH.nil
        go_simp
        have y6c : (w18.setCell ⟨gB, N, none⟩ (.slice (some ⟨g9, 0, none⟩) RW c9)).cell? ⟨m, 6, none⟩ = some (.slice (some ⟨gB, 0, none⟩) NP cB) := (World.cell?_of_block (w := w18) ((Tch.setm w18 gB N (.slice (some ⟨g9, 0, none⟩) RW c9)).far m hC18.lt (fun e => hC18.ne.1.1 e))).trans y6b
        refine hK.out _ _ ?_ (fun hNew => ?_)
        · (first | exact y6 | exact y6a | exact y6b | exact y6c | assumption)
        clear hK K hHeld
        have hHeld := hNew
        clear hNew
        try simp only [Act.put, pz1, pz2, pz3]
        refine wpAnyH_done (by kernel_rfl) ?_ _
        refine NoPanic.normal ?_
        go_wp2_with fail
        go_meet
        have hRR : RowT w18 g9 5 ((bs.take Q ++ (s.tick.pageOf N RW).drop (bs.take Q).length).map byteV) := by
          rw [List.map_append, List.length_take, HBL.out, Nat.min_eq_left HQ.out]
          exact hR9
        have hSP := RefW.setPage hC18 hRR (by have := hC.ge m (Or.inl rfl); have := hC.lt; omega) (fun e => by have := hC.lts g9 e; omega) hc91 hc92 HRW.out (by rw [List.length_take]; omega) HNAB.out HFIT.out
        have hTS := Tch.setm w18 gB N (.slice (some ⟨g9, 0, none⟩) RW c9)
        have hTF : Tch (rfB m gB gN gW gD) w (w18.setCell ⟨gB, N, none⟩ (.slice (some ⟨g9, 0, none⟩) RW c9)) := ((tch_r HT).then hb18).trans (hTS.mono (fun g e => Or.inr (Or.inl e)))
        have hGF := hTS.blk (G1.below hb18 G1.lt) (fun e => by have := hC0L.out gB (Or.inr (Or.inl rfl)); omega)
        have hFF : Fresh w (w18.setCell ⟨gB, N, none⟩ (.slice (some ⟨g9, 0, none⟩) RW c9)) gB := Fresh.put ((hb18.block gB (Nat.lt_of_lt_of_le (hC0L.out gB (Or.inr (Or.inl rfl))) HT.size)).trans (HT.far gB (hC0L.out gB (Or.inr (Or.inl rfl))) (fun e => hC.ne.1.1 e.symm))) hC18.blkB (Nat.le_trans HT.size hge9)
        exact ⟨rfl, hSP, hTF, hGF, hFF⟩
    case rest =>
    clear hC HT G1 HCC cD cX cN HP HRA HRP z0 z1 y0 y1 y2 y3 y4 y5 y6 y7 y9 y15
    obtain ⟨rfl, hC, HT, G1, HFr⟩ := hcut
    obtain ⟨w6, rfl⟩ : ∃ W : World, W = wc := ⟨_, rfl⟩
    obtain ⟨S0, hS0⟩ : ∃ S0 : ChS, S0 = { s.tick with X := putX s.tick.X (N * RW) (bs.take Q) } := ⟨_, rfl⟩
    rw [← hS0] at hC
    have hk00 : S0.k (k : Int) 0 = v0 := by rw [hS0]; exact HV0.out
    have hk02 : S0.k (k : Int) 2 = v2 := by rw [hS0]; exact HV2.out
    have HS0 := Lib.hid hS0
    clear hS0
    go_upto_region 17 with fail
    obtain ⟨NP0, NB0, RWc0, cB0, HCC⟩ := hC.cells
    have y7 := HCC.y7
    have cz := HCC.n0 k (by have := HCC.hNB.out; have := HK.out; omega)
    rw [hk00] at cz
    have fz := hC.freeN
    have z0 := G1.cell_ 0
    simp at z0
    have i0 : (0 : Int) ≤ (k : Int) := by omega
    have i1 : (k : Int) < (NB0 : Int) := by have := HCC.hNB.out; have := HK.out; omega
    have hwr : IntKind.i64.wrap (v0 + 1) = v0 + 1 := wrapS _ (by omega) (by omega)
    clear HCC
    go_still_tail 10, (by kernel_rfl)
    change wpList _ _ _ _ _ w6.drew
    go_wp2_with fail
    have hS := RefW.set0 hC HK.out (v0 + 1)
    have hSd := RefW.drew hS
    have hT1 := Tch.setm w6 gN k (.int .i64 (v0 + 1))
    have hTd : Tch (rfB m gB gN gW gD) w ((w6.setCell ⟨gN, k, none⟩ (.int .i64 (v0 + 1))).drew) := (HT.trans (hT1.mono (fun g e => Or.inr (Or.inr (Or.inl e))))).like
    have hG : Blk ((w6.setCell ⟨gN, k, none⟩ (.int .i64 (v0 + 1))).drew) w.heap.size 27 #[.int .i64 (k : Int), .int .i64 (l : Int)] := G1.far (p := ⟨gN, k, none⟩) (fun e => by have := hC0L.out w.heap.size (Or.inr (Or.inr (Or.inl e))); omega) _
    have hFd : Fresh w ((w6.setCell ⟨gN, k, none⟩ (.int .i64 (v0 + 1))).drew) gB := Fresh.then HFr (hT1.far gB (hC.lts gB (Or.inr (Or.inl rfl))) (fun e => hC.ne.2.1.1 e))
    clear HT hC G1 z0 y7 cz fz hS hwr hT1 i1 HFr
    generalize (w6.setCell ⟨gN, k, none⟩ (.int .i64 (v0 + 1))).drew = w7 at hSd hTd hG hFd ⊢
    have hC := hSd
    have HT := hTd
    have G1 := hG
    have HFr := hFd
    clear hSd hTd hG hFd
    go_wp2_with fail
    go_ret
    have hfin : ({ S0 with K := S0.K.set (k * 3 + 0) (v0 + 1) } : ChS) = s.progCut k N RW (bs.take (min RW s.cby.toNat)) := by
      rw [HQE.out, ← hk00, HS0.out]
      unfold ChS.progCut ChS.inc
      rw [tick_X]
    rw [← hfin]
    exact ⟨rfl, hC, HT, HFr⟩
  go_upto_region 16 with fail
  go_cut [6] (fun s6 wx => s6 = .int .i64 0 ∧ RefW wx m gB gN gW gD L Af nf cf a b c d e fs { s.tick with X := putX s.tick.X (N * RW) (bs.take Q) } ∧ Tch (rfB m gB gN gW gD) w wx ∧ Blk wx w.heap.size 27 #[.int .i64 (k : Int), .int .i64 (l : Int)] ∧ Fresh w wx gB)
  case first =>
    refine wp_region_noPanic ?_
    refine wp_region_held_drew (S := (fun w' => w'.cell? ⟨m, 6, none⟩ = some (.slice (some ⟨gB, 0, none⟩) NP cB))) (by kernel_rfl) ?_ (fun hHeld => ?_)
    · (first | exact y6 | exact y6a | exact y6b | exact y6c | assumption)
    refine tk 0 ⟨some 80, .move (.tmp 0), 30, "ref.go:96", #[], none⟩ ?_; try simp only [Act.put, pz1, pz2, pz3]
    refine tk 1 ⟨some 81, .nilCheck (.tmp 80), 0, "ref.go:96", #[⟨0, .data⟩], none⟩ ?_; try simp only [Act.put, pz1, pz2, pz3]
    refine tk 2 ⟨some 82, .fieldAddr 94 (.tmp 81) 2, 0, "ref.go:96", #[⟨1, .data⟩], none⟩ ?_; try simp only [Act.put, pz1, pz2, pz3]
    refine tk 3 ⟨some 83, .load 91 (.tmp 82), 91, "ref.go:96", #[⟨2, .data⟩], none⟩ ?_; try simp only [Act.put, pz1, pz2, pz3]
    refine tk 4 ⟨some 84, .move (.tmp 10), 3, "ref.go:96", #[], none⟩ ?_; try simp only [Act.put, pz1, pz2, pz3]
    refine tk 5 ⟨some 85, .move (.tmp 2), 38, "ref.go:96", #[], none⟩ ?_; try simp only [Act.put, pz1, pz2, pz3]
    refine tk 6 ⟨some 86, .move (.tmp 9), 3, "ref.go:96", #[], none⟩ ?_; try simp only [Act.put, pz1, pz2, pz3]
    refine tk 7 ⟨some 87, .slice 38 (.tmp 85) none (some (.tmp 86)) none, 38, "ref.go:96", #[⟨5, .data⟩, ⟨6, .data⟩], none⟩ ?_; try simp only [Act.put, pz1, pz2, pz3]
    refine tk 9 ⟨some 89, .move (.tmp 0), 30, "ref.go:96", #[], none⟩ ?_; try simp only [Act.put, pz1, pz2, pz3]
    refine tk 10 ⟨some 90, .nilCheck (.tmp 89), 0, "ref.go:96", #[⟨9, .data⟩], none⟩ ?_; try simp only [Act.put, pz1, pz2, pz3]
    refine tk 11 ⟨some 91, .fieldAddr 94 (.tmp 90) 2, 0, "ref.go:96", #[⟨10, .data⟩], none⟩ ?_; try simp only [Act.put, pz1, pz2, pz3]
    refine tk 12 ⟨some 92, .load 91 (.tmp 91), 91, "ref.go:96", #[⟨11, .data⟩], none⟩ ?_; try simp only [Act.put, pz1, pz2, pz3]
    refine tk 13 ⟨some 93, .move (.tmp 10), 3, "ref.go:96", #[], none⟩ ?_; try simp only [Act.put, pz1, pz2, pz3]
    refine tk 14 ⟨some 94, .indexAddr 91 (.tmp 92) (.tmp 93), 0, "ref.go:96", #[⟨12, .data⟩, ⟨13, .data⟩], none⟩ ?_; try simp only [Act.put, pz1, pz2, pz3]
    refine tk 16 ⟨some 96, .move (.tmp 9), 3, "ref.go:96", #[], none⟩ ?_; try simp only [Act.put, pz1, pz2, pz3]
    refine wpAnyH_ready (rs := [8, 15]) (by kernel_rfl) (by simp) ?_
    refine (AllReadyH.cons (o := ⟨some 88, .call { callee := .builtin .append, args := #[.const (.slice none 0 0), .tmp 87], argTypes := #[38, 38] }, 38, "ref.go:96", #[⟨7, .data⟩], none⟩) rfl (fun K hK => ?_) (AllReadyH.cons (o := ⟨some 95, .load 38 (.tmp 94), 38, "ref.go:96", #[⟨14, .data⟩], none⟩) rfl (fun K hK => ?_) AllReadyH.nil))
    · obtain ⟨ti0, hi, hz0, hz1, hz2⟩ := info_parts infoByte
      refine step_app _ rfl (.const (.slice none 0 0)) (.tmp 87) _ rfl wN.heap.size 5 ti0 _ 1 1 Try.underlying38 hi hz0 hz1 hz2 rfl (by decide) (.slice none 0 0) 0 [] rfl (World.ownsRow_nil _ _ _ _) (some ⟨gA, 0, none⟩) Q cA ((bs.take Q).map byteV) rfl (HRA.keep (fun b o e j => rfl)) (oneB _) (by unfold maxLen; omega) (by omega) (Nat.le_refl _) ?_
      intro v8 w8 ho8 hg8 hv8
      clear hi hz0 hz1 hz2
      have hb8 : Below wN.heap.size wN w8 := undrew ((Below.refl _ _).grown hg8 (Nat.le_refl _) (fun j hj => by simp [Value.ownBlock] at hj))
      have y6a := cellOf hb8 y6
      have cNa := cellOf hb8 cN
      clear hg8 hv8
      refine hK.out _ _ ?_ (fun hNew => ?_)
      · (first | exact y6 | exact y6a | exact y6b | exact y6c | assumption)
      clear hK K hHeld
      have hHeld := hNew
      clear hNew
      try simp only [Act.put, pz1, pz2, pz3]
      refine wpAnyH_ready (rs := [15]) (by kernel_rfl) (by simp) ?_
      refine AllReadyH.cons (o := ⟨some 95, .load 38 (.tmp 94), 38, "ref.go:96", #[⟨14, .data⟩], none⟩) rfl (fun K hK => ?_) AllReadyH.nil
      go_simp
      refine hK.out _ _ ?_ (fun hNew => ?_)
      · (first | exact y6 | exact y6a | exact y6b | exact y6c | assumption)
      clear hK K hHeld
      have hHeld := hNew
      clear hNew
      try simp only [Act.put, pz1, pz2, pz3]
      refine tk 17 ⟨some 97, .slice 38 (.tmp 95) (some (.tmp 96)) none none, 38, "ref.go:96", #[⟨15, .data⟩, ⟨16, .data⟩], none⟩ ?_; try simp only [Act.put, pz1, pz2, pz3]
      refine wpAnyH_ready (rs := [18]) (by kernel_rfl) (by simp) ?_
      refine AllReadyH.cons (o := ⟨some 98, .call { callee := .builtin .append, args := #[.tmp 88, .tmp 97], argTypes := #[38, 38] }, 38, "ref.go:96", #[⟨8, .data⟩, ⟨17, .data⟩, ⟨8, .chain⟩], none⟩) rfl (fun K hK => ?_) AllReadyH.nil
      obtain ⟨ti0, hi, hz0, hz1, hz2⟩ := info_parts infoByte
      refine step_app _ rfl (.tmp 88) (.tmp 97) _ rfl wN.heap.size 5 ti0 _ 1 1 Try.underlying38 hi hz0 hz1 hz2 rfl (by decide) v8 _ _ rfl ho8 _ _ _ (((s.tick.pageOf N RW).drop Q).map byteV) rfl ((HRP.keep (fun b o e j => by cases e; exact hb8.cell HP.lt))) (oneB _) (by unfold maxLen; omega) (by omega) hb8.size ?_
      intro v18 w18 ho18 hg18 hv18
      clear hi hz0 hz1 hz2
      have hb18 : Below wN.heap.size wN w18 := hb8.trans (below_app (Nat.le_refl _) hb8.size ho8 hg18)
      have ho19 := own_lenR (by omega : 0 + Q + (RW - Q) = RW) ho18
      rw [List.nil_append] at ho19
      obtain ⟨g9, c9, rfl, hR9, hge9, hc91, hc92⟩ := own_rowC ho19 (by omega)
      have y6b := cellOf hb18 y6
      have cNb := cellOf hb18 cN
      have hC18 := RefW.below hC hb18
      have fB18 := hC18.freeB
      clear hg18 hv18 ho18 ho19 ho8
      refine hK.out _ _ ?_ (fun hNew => ?_)
      · (first | exact y6 | exact y6a | exact y6b | exact y6c | assumption)
      clear hK K hHeld
      have hHeld := hNew
      clear hNew
      try simp only [Act.put, pz1, pz2, pz3]
      refine tk 19 ⟨some 99, .indexAddr 91 (.tmp 83) (.tmp 84), 0, "ref.go:96", #[⟨3, .data⟩, ⟨4, .data⟩, ⟨0, .phase⟩, ⟨1, .phase⟩, ⟨2, .phase⟩, ⟨3, .phase⟩, ⟨4, .phase⟩, ⟨5, .phase⟩, ⟨6, .phase⟩, ⟨7, .phase⟩, ⟨8, .phase⟩, ⟨9, .phase⟩, ⟨10, .phase⟩, ⟨11, .phase⟩, ⟨12, .phase⟩, ⟨13, .phase⟩, ⟨14, .phase⟩, ⟨15, .phase⟩, ⟨16, .phase⟩, ⟨17, .phase⟩, ⟨18, .phase⟩], none⟩ ?_; try simp only [Act.put, pz1, pz2, pz3]
      refine wpAnyH_ready (rs := [20]) (by kernel_rfl) (by simp) ?_
      refine AllReadyH.cons (o := ⟨none, .store 38 (.tmp 99) (.tmp 98), 0, "ref.go:96", #[⟨19, .data⟩, ⟨18, .data⟩, ⟨18, .chain⟩, ⟨0, .phase⟩, ⟨1, .phase⟩, ⟨2, .phase⟩, ⟨3, .phase⟩, ⟨4, .phase⟩, ⟨5, .phase⟩, ⟨6, .phase⟩, ⟨7, .phase⟩, ⟨8, .phase⟩, ⟨9, .phase⟩, ⟨10, .phase⟩, ⟨11, .phase⟩, ⟨12, .phase⟩, ⟨13, .phase⟩, ⟨14, .phase⟩, ⟨15, .phase⟩, ⟨16, .phase⟩, ⟨17, .phase⟩, ⟨18, .phase⟩], none⟩) rfl (fun K hK => ?_) AllReadyH.nil
      go_simp
      have y6c : (w18.setCell ⟨gB, N, none⟩ (.slice (some ⟨g9, 0, none⟩) RW c9)).cell? ⟨m, 6, none⟩ = some (.slice (some ⟨gB, 0, none⟩) NP cB) := (World.cell?_of_block (w := w18) ((Tch.setm w18 gB N (.slice (some ⟨g9, 0, none⟩) RW c9)).far m hC18.lt (fun e => hC18.ne.1.1 e))).trans y6b
      refine hK.out _ _ ?_ (fun hNew => ?_)
      · (first | exact y6 | exact y6a | exact y6b | exact y6c | assumption)
      clear hK K hHeld
      have hHeld := hNew
      clear hNew
      try simp only [Act.put, pz1, pz2, pz3]
      refine wpAnyH_done (by kernel_rfl) ?_ _
      refine NoPanic.normal ?_
      go_wp2_with fail
      go_meet
      have hRR : RowT w18 g9 5 ((bs.take Q ++ (s.tick.pageOf N RW).drop (bs.take Q).length).map byteV) := by
        rw [List.map_append, List.length_take, HBL.out, Nat.min_eq_left HQ.out]
        exact hR9
      have hSP := RefW.setPage hC18 hRR (by have := hC.ge m (Or.inl rfl); have := hC.lt; omega) (fun e => by have := hC.lts g9 e; omega) hc91 hc92 HRW.out (by rw [List.length_take]; omega) HNAB.out HFIT.out
      have hTS := Tch.setm w18 gB N (.slice (some ⟨g9, 0, none⟩) RW c9)
      have hTF : Tch (rfB m gB gN gW gD) w (w18.setCell ⟨gB, N, none⟩ (.slice (some ⟨g9, 0, none⟩) RW c9)) := ((tch_r HT).then hb18).trans (hTS.mono (fun g e => Or.inr (Or.inl e)))
      have hGF := hTS.blk (G1.below hb18 G1.lt) (fun e => by have := hC0L.out gB (Or.inr (Or.inl rfl)); omega)
      have hFF : Fresh w (w18.setCell ⟨gB, N, none⟩ (.slice (some ⟨g9, 0, none⟩) RW c9)) gB := Fresh.put ((hb18.block gB (Nat.lt_of_lt_of_le (hC0L.out gB (Or.inr (Or.inl rfl))) HT.size)).trans (HT.far gB (hC0L.out gB (Or.inr (Or.inl rfl))) (fun e => hC.ne.1.1 e.symm))) hC18.blkB (Nat.le_trans HT.size hge9)
      exact ⟨rfl, hSP, hTF, hGF, hFF⟩
    · go_simp
      refine hK.out _ _ ?_ (fun hNew => ?_)
      · (first | exact y6 | exact y6a | exact y6b | exact y6c | assumption)
      clear hK K hHeld
      have hHeld := hNew
      clear hNew
      try simp only [Act.put, pz1, pz2, pz3]
      refine tk 17 ⟨some 97, .slice 38 (.tmp 95) (some (.tmp 96)) none none, 38, "ref.go:96", #[⟨15, .data⟩, ⟨16, .data⟩], none⟩ ?_; try simp only [Act.put, pz1, pz2, pz3]
      refine wpAnyH_ready (rs := [8]) (by kernel_rfl) (by simp) ?_
      refine AllReadyH.cons (o := ⟨some 88, .call { callee := .builtin .append, args := #[.const (.slice none 0 0), .tmp 87], argTypes := #[38, 38] }, 38, "ref.go:96", #[⟨7, .data⟩], none⟩) rfl (fun K hK => ?_) AllReadyH.nil
      obtain ⟨ti0, hi, hz0, hz1, hz2⟩ := info_parts infoByte
      refine step_app _ rfl (.const (.slice none 0 0)) (.tmp 87) _ rfl wN.heap.size 5 ti0 _ 1 1 Try.underlying38 hi hz0 hz1 hz2 rfl (by decide) (.slice none 0 0) 0 [] rfl (World.ownsRow_nil _ _ _ _) (some ⟨gA, 0, none⟩) Q cA ((bs.take Q).map byteV) rfl (HRA.keep (fun b o e j => rfl)) (oneB _) (by unfold maxLen; omega) (by omega) (Nat.le_refl _) ?_
      intro v8 w8 ho8 hg8 hv8
      clear hi hz0 hz1 hz2
      have hb8 : Below wN.heap.size wN w8 := undrew ((Below.refl _ _).grown hg8 (Nat.le_refl _) (fun j hj => by simp [Value.ownBlock] at hj))
      have y6a := cellOf hb8 y6
      have cNa := cellOf hb8 cN
      clear hg8 hv8
      refine hK.out _ _ ?_ (fun hNew => ?_)
      · (first | exact y6 | exact y6a | exact y6b | exact y6c | assumption)
      clear hK K hHeld
      have hHeld := hNew
      clear hNew
      try simp only [Act.put, pz1, pz2, pz3]
      refine wpAnyH_ready (rs := [18]) (by kernel_rfl) (by simp) ?_
      refine AllReadyH.cons (o := ⟨some 98, .call { callee := .builtin .append, args := #[.tmp 88, .tmp 97], argTypes := #[38, 38] }, 38, "ref.go:96", #[⟨8, .data⟩, ⟨17, .data⟩, ⟨8, .chain⟩], none⟩) rfl (fun K hK => ?_) AllReadyH.nil
      obtain ⟨ti0, hi, hz0, hz1, hz2⟩ := info_parts infoByte
      refine step_app _ rfl (.tmp 88) (.tmp 97) _ rfl wN.heap.size 5 ti0 _ 1 1 Try.underlying38 hi hz0 hz1 hz2 rfl (by decide) v8 _ _ rfl ho8 _ _ _ (((s.tick.pageOf N RW).drop Q).map byteV) rfl ((HRP.keep (fun b o e j => by cases e; exact hb8.cell HP.lt))) (oneB _) (by unfold maxLen; omega) (by omega) hb8.size ?_
      intro v18 w18 ho18 hg18 hv18
      clear hi hz0 hz1 hz2
      have hb18 : Below wN.heap.size wN w18 := hb8.trans (below_app (Nat.le_refl _) hb8.size ho8 hg18)
      have ho19 := own_lenR (by omega : 0 + Q + (RW - Q) = RW) ho18
      rw [List.nil_append] at ho19
      obtain ⟨g9, c9, rfl, hR9, hge9, hc91, hc92⟩ := own_rowC ho19 (by omega)
      have y6b := cellOf hb18 y6
      have cNb := cellOf hb18 cN
      have hC18 := RefW.below hC hb18
      have fB18 := hC18.freeB
      clear hg18 hv18 ho18 ho19 ho8
      refine hK.out _ _ ?_ (fun hNew => ?_)
      · (first | exact y6 | exact y6a | exact y6b | exact y6c | assumption)
      clear hK K hHeld
      have hHeld := hNew
      clear hNew
      try simp only [Act.put, pz1, pz2, pz3]
      refine tk 19 ⟨some 99, .indexAddr 91 (.tmp 83) (.tmp 84), 0, "ref.go:96", #[⟨3, .data⟩, ⟨4, .data⟩, ⟨0, .phase⟩, ⟨1, .phase⟩, ⟨2, .phase⟩, ⟨3, .phase⟩, ⟨4, .phase⟩, ⟨5, .phase⟩, ⟨6, .phase⟩, ⟨7, .phase⟩, ⟨8, .phase⟩, ⟨9, .phase⟩, ⟨10, .phase⟩, ⟨11, .phase⟩, ⟨12, .phase⟩, ⟨13, .phase⟩, ⟨14, .phase⟩, ⟨15, .phase⟩, ⟨16, .phase⟩, ⟨17, .phase⟩, ⟨18, .phase⟩], none⟩ ?_; try simp only [Act.put, pz1, pz2, pz3]
      refine wpAnyH_ready (rs := [20]) (by kernel_rfl) (by simp) ?_
      refine AllReadyH.cons (o := ⟨none, .store 38 (.tmp 99) (.tmp 98), 0, "ref.go:96", #[⟨19, .data⟩, ⟨18, .data⟩, ⟨18, .chain⟩, ⟨0, .phase⟩, ⟨1, .phase⟩, ⟨2, .phase⟩, ⟨3, .phase⟩, ⟨4, .phase⟩, ⟨5, .phase⟩, ⟨6, .phase⟩, ⟨7, .phase⟩, ⟨8, .phase⟩, ⟨9, .phase⟩, ⟨10, .phase⟩, ⟨11, .phase⟩, ⟨12, .phase⟩, ⟨13, .phase⟩, ⟨14, .phase⟩, ⟨15, .phase⟩, ⟨16, .phase⟩, ⟨17, .phase⟩, ⟨18, .phase⟩], none⟩) rfl (fun K hK => ?_) AllReadyH.nil
      go_simp
      have y6c : (w18.setCell ⟨gB, N, none⟩ (.slice (some ⟨g9, 0, none⟩) RW c9)).cell? ⟨m, 6, none⟩ = some (.slice (some ⟨gB, 0, none⟩) NP cB) := (World.cell?_of_block (w := w18) ((Tch.setm w18 gB N (.slice (some ⟨g9, 0, none⟩) RW c9)).far m hC18.lt (fun e => hC18.ne.1.1 e))).trans y6b
      refine hK.out _ _ ?_ (fun hNew => ?_)
      · (first | exact y6 | exact y6a | exact y6b | exact y6c | assumption)
      clear hK K hHeld
      have hHeld := hNew
      clear hNew
      try simp only [Act.put, pz1, pz2, pz3]
      refine wpAnyH_done (by kernel_rfl) ?_ _
      refine NoPanic.normal ?_
      go_wp2_with fail
      go_meet
      have hRR : RowT w18 g9 5 ((bs.take Q ++ (s.tick.pageOf N RW).drop (bs.take Q).length).map byteV) := by
        rw [List.map_append, List.length_take, HBL.out, Nat.min_eq_left HQ.out]
        exact hR9
      have hSP := RefW.setPage hC18 hRR (by have := hC.ge m (Or.inl rfl); have := hC.lt; omega) (fun e => by have := hC.lts g9 e; omega) hc91 hc92 HRW.out (by rw [List.length_take]; omega) HNAB.out HFIT.out
      have hTS := Tch.setm w18 gB N (.slice (some ⟨g9, 0, none⟩) RW c9)
      have hTF : Tch (rfB m gB gN gW gD) w (w18.setCell ⟨gB, N, none⟩ (.slice (some ⟨g9, 0, none⟩) RW c9)) := ((tch_r HT).then hb18).trans (hTS.mono (fun g e => Or.inr (Or.inl e)))
      have hGF := hTS.blk (G1.below hb18 G1.lt) (fun e => by have := hC0L.out gB (Or.inr (Or.inl rfl)); omega)
      have hFF : Fresh w (w18.setCell ⟨gB, N, none⟩ (.slice (some ⟨g9, 0, none⟩) RW c9)) gB := Fresh.put ((hb18.block gB (Nat.lt_of_lt_of_le (hC0L.out gB (Or.inr (Or.inl rfl))) HT.size)).trans (HT.far gB (hC0L.out gB (Or.inr (Or.inl rfl))) (fun e => hC.ne.1.1 e.symm))) hC18.blkB (Nat.le_trans HT.size hge9)
      exact ⟨rfl, hSP, hTF, hGF, hFF⟩
  case rest =>
  clear hC HT G1 HCC cD cX cN HP HRA HRP z0 z1 y0 y1 y2 y3 y4 y5 y6 y7 y9 y15
  obtain ⟨rfl, hC, HT, G1, HFr⟩ := hcut
  obtain ⟨w6, rfl⟩ : ∃ W : World, W = wc := ⟨_, rfl⟩
  obtain ⟨S0, hS0⟩ : ∃ S0 : ChS, S0 = { s.tick with X := putX s.tick.X (N * RW) (bs.take Q) } := ⟨_, rfl⟩
  rw [← hS0] at hC
  have hk00 : S0.k (k : Int) 0 = v0 := by rw [hS0]; exact HV0.out
  have hk02 : S0.k (k : Int) 2 = v2 := by rw [hS0]; exact HV2.out
  have HS0 := Lib.hid hS0
  clear hS0
  go_upto_region 17 with fail
  obtain ⟨NP0, NB0, RWc0, cB0, HCC⟩ := hC.cells
  have y7 := HCC.y7
  have cz := HCC.n0 k (by have := HCC.hNB.out; have := HK.out; omega)
  rw [hk00] at cz
  have fz := hC.freeN
  have z0 := G1.cell_ 0
  simp at z0
  have i0 : (0 : Int) ≤ (k : Int) := by omega
  have i1 : (k : Int) < (NB0 : Int) := by have := HCC.hNB.out; have := HK.out; omega
  have hwr : IntKind.i64.wrap (v0 + 1) = v0 + 1 := wrapS _ (by omega) (by omega)
  clear HCC
  go_still_tail 10, (by kernel_rfl)
  change wpList _ _ _ _ _ w6.drew
  go_wp2_with fail
  have hS := RefW.set0 hC HK.out (v0 + 1)
  have hSd := RefW.drew hS
  have hT1 := Tch.setm w6 gN k (.int .i64 (v0 + 1))
  have hTd : Tch (rfB m gB gN gW gD) w ((w6.setCell ⟨gN, k, none⟩ (.int .i64 (v0 + 1))).drew) := (HT.trans (hT1.mono (fun g e => Or.inr (Or.inr (Or.inl e))))).like
  have hG : Blk ((w6.setCell ⟨gN, k, none⟩ (.int .i64 (v0 + 1))).drew) w.heap.size 27 #[.int .i64 (k : Int), .int .i64 (l : Int)] := G1.far (p := ⟨gN, k, none⟩) (fun e => by have := hC0L.out w.heap.size (Or.inr (Or.inr (Or.inl e))); omega) _
  have hFd : Fresh w ((w6.setCell ⟨gN, k, none⟩ (.int .i64 (v0 + 1))).drew) gB := Fresh.then HFr (hT1.far gB (hC.lts gB (Or.inr (Or.inl rfl))) (fun e => hC.ne.2.1.1 e))
  clear HT hC G1 z0 y7 cz fz hS hwr hT1 i1 HFr
  generalize (w6.setCell ⟨gN, k, none⟩ (.int .i64 (v0 + 1))).drew = w7 at hSd hTd hG hFd ⊢
  have hC := hSd
  have HT := hTd
  have G1 := hG
  have HFr := hFd
  clear hSd hTd hG hFd
  go_wp2_with fail
  go_ret
  have hfin : ({ S0 with K := S0.K.set (k * 3 + 0) (v0 + 1) } : ChS) = s.progCut k N RW (bs.take (min RW s.cby.toNat)) := by
    rw [HQE.out, ← hk00, HS0.out]
    unfold ChS.progCut ChS.inc
    rw [tick_X]
  rw [← hfin]
  exact ⟨rfl, hC, HT, HFr⟩
end Go.Proofs.Ytcpniplfkillbaa
namespace Go.Proofs.Ytcpniplfkillbaa
open Go.ChangeShapes Go.WideShapes Go.ChangeAt Go.RowKit
theorem wrong_cases {a : Int} {fs : List Flt} {s : ChS} {k l : Nat} (hk : (k : Int) < a) : (failsB fs (k : Int) (s.k (k : Int) 2) = true ∧ s.wrong a fs k l = 10) ∨ (failsB fs (k : Int) (s.k (k : Int) 2) = false ∧ (l : Int) ≠ s.k (k : Int) 0 ∧ s.wrong a fs k l = 11) ∨ (failsB fs (k : Int) (s.k (k : Int) 2) = false ∧ (l : Int) = s.k (k : Int) 0 ∧ s.wrong a fs k l = 0) := by
  unfold ChS.wrong
  rw [failed_in hk]
  cases failsB fs (k : Int) (s.k (k : Int) 2)
  · by_cases h : (l : Int) = s.k (k : Int) 0
    · exact Or.inr (Or.inr ⟨rfl, h, by simp [h]⟩)
    · exact Or.inr (Or.inl ⟨rfl, h, by simp [h]⟩)
  · exact Or.inl ⟨rfl, by simp⟩
theorem may_len {a b c d e : Int} {fs : List Flt} (h : planMay a b c d e fs = true) : fs.length ≤ 8 := by
  by_cases hl : 8 < fs.length
  · rw [planMay_long hl] at h
    cases h
  · omega
theorem rprog_all (m gB gN gW gD L : Nat) (Af : Option Addr) (nf cf : Nat) (a b c d e : Int) (fs : List Flt) (x y : Int) (bs : List Nat) (gA cA : Nat) (n : Int) (w : World) (s : ChS) (hC : RefW w m gB gN gW gD L Af nf cf a b c d e fs s) (hs : Fine s n) (hn : n ≤ 900000000) (hwt : s.Wt) (hR : RowT w gA 5 (bs.map byteV)) (hcA : bs.length ≤ cA) (hgn : ¬ rfB m gB gN gW gD gA) :
    Calls Try.prog 33 #[.pointer (some ⟨m, 0, none⟩), .agg #[.int .i64 x, .int .i64 y], .slice (some ⟨gA, 0, none⟩) bs.length cA] w fun e' w' => e' = .returned (.int .i64 (s.progZ a b c fs x y bs.length)) ∧ RefW w' m gB gN gW gD L Af nf cf a b c d e fs (s.progS a b c fs x y bs) ∧ Tch (rfB m gB gN gW gD) w w' ∧ Fresh w w' gB := by
  have h8 := may_len hC.may
  cases ho : s.on
  · have e1 : s.progZ a b c fs x y bs.length = 9 := by simp [ChS.progZ, ho]
    have e2 : s.progS a b c fs x y bs = s := by simp [ChS.progS, ho]
    rw [e1, e2]
    refine (rprog_off m gB gN gW gD L Af nf cf a b c d e fs x y _ _ _ w s hC ho).mono ?_
    rintro e' w' ⟨rfl, hb⟩
    exact ⟨rfl, hC.below hb, Tch.of_below hb, Fresh.of (hb.block gB (hC.lts gB (Or.inr (Or.inl rfl))))⟩
  cases ht : thereB a b x y
  · have e1 : s.progZ a b c fs x y bs.length = 2 := by simp [ChS.progZ, ho, ht]
    have e2 : s.progS a b c fs x y bs = s := by simp [ChS.progS, ht]
    rw [e1, e2]
    refine (rprog_arg m gB gN gW gD L Af nf cf a b c d e fs x y _ _ _ w s hC ho (Lib.hid ht)).mono ?_
    rintro e' w' ⟨rfl, hb⟩
    exact ⟨rfl, hC.below hb, Tch.of_below hb, Fresh.of (hb.block gB (hC.lts gB (Or.inr (Or.inl rfl))))⟩
  obtain ⟨k, l, hx, hy, hk, hl⟩ := there_nat ht
  obtain ⟨N, RW, hnum, hrw, hfit, r1, r2, hN2, hNN, hNab⟩ := rpage_ok hC hk hl
  by_cases hL : bs.length = RW
  · subst hL
    have hd : decide ((bs.length : Int) = c + 16) = true := decide_eq_true hrw
    have hN' : (x * b + y).toNat = N := by rw [hx, hy, ← hNN]; omega
    have hk' : x.toNat = k := by omega
    have hl' : y.toNat = l := by omega
    have e2 : s.progS a b c fs x y bs = (if s.wrong a fs k l = 0 then (if s.cutB then s.progCut k N bs.length (bs.take (min bs.length s.cby.toNat)) else s.prog k N bs.length bs) else s.tick) := by
      unfold ChS.progS
      rw [ho, ht, hd, hN', hk', hl']
      rfl
    have e1 : s.progZ a b c fs x y bs.length = (if s.cutB then 9 else s.wrong a fs k l) := by
      unfold ChS.progZ
      rw [ho, ht, hd, hk', hl']
      rfl
    rw [e1, e2]
    subst hx hy
    clear e1 e2 hk' hl' hN'
    rcases wrong_cases (fs := fs) (s := s) (l := l) hk with ⟨hf, hw⟩ | ⟨hf, hne, hw⟩ | ⟨hf, hne, hw⟩
    · rw [if_neg (show ¬ s.wrong a fs k l = 0 by rw [hw]; decide), hw]
      cases hc : s.cutB
      · refine (rprog_fail m gB gN gW gD L Af nf cf a b c d e fs k l n (some ⟨gA, 0, none⟩) cA bs.length w s hC hs.bnd hn hwt ho hk hl (Lib.hid hrw) h8 (Lib.hid hc) hf).mono ?_
        rintro e' w' ⟨rfl, hC', hT⟩
        exact ⟨by simp, hC', tch_r hT, Fresh.of (hT.far gB (hC.lts gB (Or.inr (Or.inl rfl))) (fun e => hC.ne.1.1 e.symm))⟩
      · refine (rprog_failcut m gB gN gW gD L Af nf cf a b c d e fs k l n (some ⟨gA, 0, none⟩) cA bs.length w s hC hs.bnd hn hwt ho hk hl (Lib.hid hrw) h8 (Lib.hid hc) hf).mono ?_
        rintro e' w' ⟨rfl, hC', hT⟩
        exact ⟨by simp, hC', tch_r hT, Fresh.of (hT.far gB (hC.lts gB (Or.inr (Or.inl rfl))) (fun e => hC.ne.1.1 e.symm))⟩
    · rw [if_neg (show ¬ s.wrong a fs k l = 0 by rw [hw]; decide), hw]
      cases hc : s.cutB
      · refine (rprog_ord m gB gN gW gD L Af nf cf a b c d e fs k l n (some ⟨gA, 0, none⟩) cA bs.length w s hC hs.bnd hn hwt ho hk hl (Lib.hid hrw) h8 (Lib.hid hc) hf hne).mono ?_
        rintro e' w' ⟨rfl, hC', hT⟩
        exact ⟨by simp, hC', tch_r hT, Fresh.of (hT.far gB (hC.lts gB (Or.inr (Or.inl rfl))) (fun e => hC.ne.1.1 e.symm))⟩
      · refine (rprog_ordcut m gB gN gW gD L Af nf cf a b c d e fs k l n (some ⟨gA, 0, none⟩) cA bs.length w s hC hs.bnd hn hwt ho hk hl (Lib.hid hrw) h8 (Lib.hid hc) hf hne).mono ?_
        rintro e' w' ⟨rfl, hC', hT⟩
        exact ⟨by simp, hC', tch_r hT, Fresh.of (hT.far gB (hC.lts gB (Or.inr (Or.inl rfl))) (fun e => hC.ne.1.1 e.symm))⟩
    · rw [if_pos hw, hw]
      cases hc : s.cutB
      · have := rprog_ok m gB gN gW gD L Af nf cf a b c d e fs k l N n gA _ cA hcA bs w s hC hs.bnd hn hwt ho hk hl (Lib.hid hrw) h8 (Lib.hid hc) hf hne (Lib.hid hnum) hfit r1 r2 hN2 hNab hR hgn rfl
        simpa using this
      · have := rprog_cut m gB gN gW gD L Af nf cf a b c d e fs k l N n gA _ cA hcA bs w s hC hs.bnd hn hwt ho hk hl (Lib.hid hrw) h8 (Lib.hid hc) hf hne (Lib.hid hnum) hfit r1 r2 hN2 hNab hR hgn rfl hs.cby
        simpa using this
  · have hd : decide ((bs.length : Int) = c + 16) = false := decide_eq_false (by omega)
    have e1 : s.progZ a b c fs x y bs.length = 2 := by unfold ChS.progZ; rw [ho, ht, hd]; rfl
    have e2 : s.progS a b c fs x y bs = s := by unfold ChS.progS; rw [ho, ht, hd]; rfl
    rw [e1, e2]
    refine (rprog_len m gB gN gW gD L Af nf cf a b c d e fs x y _ _ _ RW w s hC ho (Lib.hid ht) (Lib.hid hrw) hL).mono ?_
    rintro e' w' ⟨rfl, hb⟩
    exact ⟨rfl, hC.below hb, Tch.of_below hb, Fresh.of (hb.block gB (hC.lts gB (Or.inr (Or.inl rfl))))⟩
end Go.Proofs.Ytcpniplfkillbaa
namespace Go.Proofs.Ytcpniplfkillbaa
open Go.ChangeShapes Go.WideShapes Go.ChangeAt Go.RowKit
end Go.Proofs.Ytcpniplfkillbaa
namespace Go.Proofs.Ytcpniplfkillbaa
open Go.ChangeShapes Go.WideShapes Go.ChangeAt Go.RowKit
theorem rarm_all (m gB gN gW gD L : Nat) (Af : Option Addr) (nf cf : Nat) (a b c d e : Int) (fs : List Flt) (xo xb : Int) (xf : Nat) (w : World) (s : ChS) (hC : RefW w m gB gN gW gD L Af nf cf a b c d e fs s) :
    Calls Try.prog 15 #[.pointer (some ⟨m, 0, none⟩), .agg #[.int .i64 xo, .int .i64 xb, .int .u8 (xf : Nat)]] w fun e' w' => e' = .returned (.int .i64 (s.armC xo xb)) ∧ RefW w' m gB gN gW gD L Af nf cf a b c d e fs (s.arm xo xb xf) ∧ Tch (rfB m gB gN gW gD) w w' := by
  cases ho : s.on
  · have e1 : s.armC xo xb = 9 := by simp [ChS.armC, ho]
    have e2 : s.arm xo xb xf = s := by simp [ChS.arm, ho]
    rw [e1, e2]
    refine (rarm_off m gB gN gW gD L Af nf cf a b c d e fs xo xb xf w s hC ho).mono ?_
    rintro e' w' ⟨rfl, hb⟩
    exact ⟨rfl, hC.below hb, Tch.of_below hb⟩
  by_cases hx : 1 ≤ xo ∧ xo ≤ 1073741824 ∧ 0 ≤ xb ∧ xb ≤ 1073741824
  · obtain ⟨x1, x2, x3, x4⟩ := hx
    have ha : armOkB xo xb = true := by unfold armOkB; simp; omega
    have e1 : s.armC xo xb = 0 := by simp [ChS.armC, ho, ha]
    have e2 : s.arm xo xb xf = { s with armed := true, turn := s.ops + xo, cop := xo, cby := xb, fill := xf } := by simp [ChS.arm, ho, ha]
    rw [e1, e2]
    refine (rarm_yes m gB gN gW gD L Af nf cf a b c d e fs xo xb xf w s hC ho x1 x2 x3 x4).mono ?_
    rintro e' w' ⟨rfl, h1, h2⟩
    exact ⟨rfl, h1, tch_r h2⟩
  · have ha : armOkB xo xb = false := by
      cases h : armOkB xo xb
      · rfl
      · exfalso
        apply hx
        unfold armOkB at h
        simp at h
        omega
    have e1 : s.armC xo xb = 2 := by simp [ChS.armC, ho, ha]
    have e2 : s.arm xo xb xf = s := by simp [ChS.arm, ha]
    rw [e1, e2]
    refine (rarm_arg m gB gN gW gD L Af nf cf a b c d e fs xo xb xf w s hC ho (by omega)).mono ?_
    rintro e' w' ⟨rfl, hb⟩
    exact ⟨rfl, hC.below hb, Tch.of_below hb⟩
end Go.Proofs.Ytcpniplfkillbaa
namespace Go.Proofs.Ytcpniplfkillbaa
open Go.ChangeShapes Go.WideShapes Go.ChangeAt Go.RowKit
end Go.Proofs.Ytcpniplfkillbaa
namespace Go.Proofs.Ytcpniplfkillbaa
open Go.ChangeShapes Go.WideShapes Go.ChangeAt Go.RowKit
theorem Wt.tick {s : ChS} (h : s.Wt) : s.tick.Wt := by
  unfold ChS.tick
  split
  · exact ⟨fun e => (by cases e), fun e => (by cases e)⟩
  · next hc =>
    refine ⟨fun e => ?_, fun e => h.w1 e⟩
    have e' : s.armed = true := e
    have h0 := h.w0 e'
    have : ¬ s.ops + 1 = s.turn := fun e2 => hc (by unfold ChS.cutB; rw [e', decide_eq_true e2]; rfl)
    show s.ops + 1 + 1 ≤ s.turn
    omega
theorem Wt.of {s s' : ChS} (h : s.Wt) (h1 : s'.armed = s.armed) (h2 : s'.turn = s.turn) (h3 : s'.ops = s.ops) : s'.Wt :=
  ⟨fun e => by rw [h2, h3]; exact h.w0 (h1 ▸ e), fun e => by rw [h2]; exact h.w1 (h1 ▸ e)⟩
theorem Wt.read {s : ChS} (h : s.Wt) (a b x y : Int) : (s.readS a b x y).Wt := by
  unfold ChS.readS
  split
  · exact Wt.tick h
  · exact h
theorem Wt.prog {s : ChS} (h : s.Wt) (a b c : Int) (fs : List Flt) (x y : Int) (bs : List Nat) : (s.progS a b c fs x y bs).Wt := by
  unfold ChS.progS
  split
  · split
    · split
      · exact Wt.of (Wt.tick h) rfl rfl rfl
      · exact Wt.of (Wt.tick h) rfl rfl rfl
    · exact Wt.tick h
  · exact h
theorem Wt.erase {s : ChS} (h : s.Wt) (a b c : Int) (fs : List Flt) (x : Int) : (s.eraseS a b c fs x).Wt := by
  unfold ChS.eraseS
  split
  · split
    · exact Wt.tick h
    · exact Wt.of (Wt.tick h) rfl rfl rfl
  · exact h
theorem Wt.boot {s : ChS} (h : s.Wt) : s.boot.Wt := by
  unfold ChS.boot
  split
  · exact h
  · exact ⟨fun e => (by cases e), fun e => (by cases e)⟩
theorem Wt.arm {s : ChS} {n : Int} (h : s.Wt) (hb : s.Bnd n) (hn : n ≤ 900000000) (xo xb : Int) (xf : Nat) : (s.arm xo xb xf).Wt := by
  unfold ChS.arm
  split
  · next hc =>
    simp only [Bool.and_eq_true] at hc
    obtain ⟨_, hc⟩ := hc
    unfold armOkB at hc
    simp only [Bool.and_eq_true, decide_eq_true_eq] at hc
    obtain ⟨⟨⟨h1, h2⟩, h3⟩, h4⟩ := hc
    have := hb.o0
    have := hb.o1
    refine ⟨fun _ => ?_, fun _ => ?_⟩
    · show s.ops + 1 ≤ s.ops + xo
      omega
    · show s.ops + xo ≤ 4000000000
      omega
  · exact h
structure ChipL (w : World) (L : Nat) (m gx gb : Nat) (Af : Option Addr) (nf cf : Nat) (a b c d e : Int) (fs : List Flt) (s : ChS) : Prop where
  chip : ChipW w m gx gb Af nf cf a b c d e fs s
  low : ∀ g, chB m gx gb g → g < L
  lowF : fs = [] ∨ ∃ g off, Af = some ⟨g, off, none⟩ ∧ g < L
theorem ChipL.far {w w' : World} {L : Nat} {m gx gb : Nat} {Af : Option Addr} {nf cf : Nat} {a b c d e : Int} {fs : List Flt} {s : ChS} (h : ChipL w L m gx gb Af nf cf a b c d e fs s) {S : Nat → Prop} (hT : Tch S w w') (hs : ∀ g, S g → L ≤ g) : ChipL w' L m gx gb Af nf cf a b c d e fs s := by
  have hn : ∀ g, g < L → ¬ S g := fun g hg h1 => by have := hs g h1; omega
  obtain ⟨⟨⟨cx, cb, NX, NB, hX, hN, hcx, hB⟩, r1, r2, r3, n1, n2, n3, l1, l2, l3, l4⟩, lo, lf⟩ := h
  refine ⟨⟨⟨cx, cb, NX, NB, hX, hN, hcx, (hT.far m hB.lt (hn m (lo m (Or.inl rfl)))).trans hB⟩, r1.keep (hT.far gx r1.lt (hn gx (lo gx (Or.inr (Or.inl rfl))))), r2.keep (hT.far gb r2.lt (hn gb (lo gb (Or.inr (Or.inr rfl))))), ?_, n1, n2, n3, l1, l2, l3, l4⟩, lo, lf⟩
  rcases lf with lf | ⟨g, off, e, hg⟩
  · exact Or.inl lf
  · rcases r3 with r3 | ⟨g', off', e', hlt, h1, h2, h3, hc⟩
    · exact Or.inl r3
    · rw [e] at e'
      obtain ⟨rfl, rfl⟩ : g = g' ∧ off = off' := by cases e'; exact ⟨rfl, rfl⟩
      have hq : ∀ o, w'.cell? ⟨g, o, none⟩ = w.cell? ⟨g, o, none⟩ := fun o => World.cell?_of_block (w := w) (hT.far g hlt (hn g hg))
      exact Or.inr ⟨g, off, e, by have := hT.size; omega, h1, h2, h3, fun k f hf => by rw [hq, hq, hq]; exact hc k f hf⟩
theorem ChipL.next {w w' : World} {L : Nat} {m gx gb : Nat} {Af : Option Addr} {nf cf : Nat} {a b c d e : Int} {fs : List Flt} {s s' : ChS} (h : ChipL w L m gx gb Af nf cf a b c d e fs s) (hC : ChipW w' m gx gb Af nf cf a b c d e fs s') : ChipL w' L m gx gb Af nf cf a b c d e fs s' := ⟨hC, h.low, h.lowF⟩
end Go.Proofs.Ytcpniplfkillbaa
namespace Go.Proofs.Ytcpniplfkillbaa
open Go.ChangeShapes Go.WideShapes Go.ChangeAt Go.RowKit
theorem rpmay_b (a b c d e : Int) (fs : List Flt) (A : Option Addr) (c0 : Nat) (T : Bool) (w : World) (hs : SlF w w.heap.size A fs) (h : Hid (planMay a b c d e fs = T)) : Calls Try.prog 58 #[.agg #[.int .i64 a, .int .i64 b, .int .i64 c, .int .i64 d, .int .i64 e], .slice A fs.length c0] w fun e' w' => e' = .returned (.bool T) ∧ Below w.heap.size w w' := by
  have := rpMay_any a b c d e fs A c0 w hs
  rwa [h.out] at this
theorem rnew_no (a b c d e : Int) (fs : List Flt) (A : Option Addr) (c0 : Nat) (w : World) (hs : SlF w w.heap.size A fs) (HP : Hid (planMay a b c d e fs = false)) : Calls Try.prog 31 #[.agg #[.int .i64 a, .int .i64 b, .int .i64 c, .int .i64 d, .int .i64 e], .slice A fs.length c0] w fun e' w' => e' = .returned (.pointer none) ∧ Below w.heap.size w w' := by
  have HB0 : Below w.heap.size w (w.alloc (.cells #[.int .i64 a, .int .i64 b, .int .i64 c, .int .i64 d, .int .i64 e] 23)) := (Below.refl _ _).alloc (Nat.le_refl _) _
  have G1 : Blk (w.alloc (.cells #[.int .i64 a, .int .i64 b, .int .i64 c, .int .i64 d, .int .i64 e] 23)) w.heap.size 23 #[.int .i64 a, .int .i64 b, .int .i64 c, .int .i64 d, .int .i64 e] := Blk.new_ _ _ _
  have HSF := hs.next HB0
  go_enter Try.func31, Try.ntmps31
  go_wp2_with (go_at_call 58; ((with_reducible refine (rpmay_b a b c d e fs _ _ _ _ HSF HP).mono ?_); rintro e' wN ⟨rfl, hb⟩; replace HSF := HSF.next hb; replace HB0 := btr HB0 HB0.size hb; replace G1 := G1.below hb G1.lt))
  go_ret
  exact ⟨rfl, HB0⟩
structure PgN (w : World) (RW m gN gW gD : Nat) (vB : Value) (p : Nat × Nat) : Prop where
  lt : p.1 < w.heap.size
  nm : p.1 ≠ m ∧ p.1 ≠ gN ∧ p.1 ≠ gW ∧ p.1 ≠ gD
  nb : some p.1 ≠ vB.ownBlock
  cap : RW ≤ p.2
  cap2 : p.2 ≤ maxLen
  cell : ∀ j, j < RW → w.cell? ⟨p.1, j, none⟩ = some (byteV 255)
theorem PgN.keep {w w' : World} {RW m gN gW gD : Nat} {vB vB' : Value} {p : Nat × Nat} (h : PgN w RW m gN gW gD vB p) (hz : w.heap.size ≤ w'.heap.size) (hk : w'.heap[p.1]? = w.heap[p.1]?) (hv : vB'.ownBlock = vB.ownBlock ∨ ∀ g, vB'.ownBlock = some g → w.heap.size ≤ g) : PgN w' RW m gN gW gD vB' p := by
  refine ⟨by have := h.lt; omega, h.nm, ?_, h.cap, h.cap2, fun j hj => (World.cell?_of_block (w := w) hk).trans (h.cell j hj)⟩
  rcases hv with hv | hv
  · rw [hv]; exact h.nb
  · intro e
    have := hv _ e.symm
    have := h.lt
    omega
theorem rd_flt {fs : List Flt} {A : Option Addr} {w : World} (hs : SlF w w.heap.size A fs) : Rd w A fs.length 3 (flatF fs) := by
  refine ⟨flatF_len fs, ?_⟩
  rcases hs with h | ⟨g', off, e, hlt, hc⟩
  · left
    rw [h]
    rfl
  · exact Or.inr ⟨g', off, e, fun j u hu => flatF_rd fs off hc j u hu⟩
theorem wp_appF0 {w : World} {o : Oper} {a : Act} {K : Act → World → Prop} {Q : Exit → Act → World → Prop} (x : Operand)
    (ho : o.op = .call { callee := .builtin .append, args := #[.const (.slice none 0 0), x], argTypes := #[24, 24] }) (hty : o.type = 24)
    (fs : List Flt) (A : Option Addr) (c : Nat) (hx : a.eval x = .slice A fs.length c) (hs : SlF w w.heap.size A fs) (hlen : fs.length ≤ 100000)
    (hK : ∀ w' A' c', FR w' A' fs → FGe A' fs w.heap.size → Below w.heap.size w w' → K (a.put o.dst (.slice A' fs.length c')) w') : Oper.wp Try.prog o a w K Q := by
  obtain ⟨ti0, hi, hz0, hz1, hz2⟩ := info_parts infoF
  refine wp_app w (.const (.slice none 0 0)) x 24 ho w.heap.size 107 ti0 _ 3 24 (by rw [show Try.prog.underlying 24 = _ from Try.underlying24]) hi hz0 hz1 hz2 rfl (by decide) (.slice none 0 0) 0 [] rfl (World.ownsRow_nil _ _ _ _) A fs.length c (flatF fs) hx (rd_flt hs) (flatF_one fs) (by unfold maxLen; omega) (by omega) (Nat.le_refl _) ?_
  intro v' w' ho' hg' hv'
  rw [Nat.zero_add, List.nil_append] at ho'
  obtain ⟨A', c', rfl, hR'⟩ := own_rowF ho'
  refine hK w' A' c' ?_ ?_ ((Below.refl _ _).grown hg' (Nat.le_refl _) (fun k h => by simp [Value.ownBlock] at h))
  · rcases hR' with h | ⟨g', e, h, _⟩
    · exact Or.inl (List.eq_nil_of_length_eq_zero h)
    · exact Or.inr ⟨g', e, h⟩
  · rcases hR' with h | ⟨g', e, _, h⟩
    · exact Or.inl (List.eq_nil_of_length_eq_zero h)
    · exact Or.inr ⟨g', e, h⟩
theorem infoIntR : (Try.prog.info? 3).map (fun i => (i.zero, i.size, i.bytes)) = some (some (.int .i64 0), 1, 8) := by kernel_rfl
theorem wp_makeI {w : World} {o : Oper} {a' : Act} {K : Act → World → Prop} {Q : Exit → Act → World → Prop} (l c : Operand) (hop : o.op = Op.makeSlice 92 l c)
    (a : Int) (NB : Nat) (hl : a'.eval l = .int .i64 a) (hc : a'.eval c = .int .i64 a) (hNB : (NB : Int) = a) (hb : NB ≤ 1000)
    (hK : ∀ w' g, RowT w' g 3 (List.replicate NB (Value.int .i64 0)) → w.heap.size ≤ g → Below w.heap.size w w' → K (a'.put o.dst (.slice (some ⟨g, 0, none⟩) NB NB)) w') : Oper.wp Try.prog o a' w K Q := by
  obtain ⟨ti0, hi, hz0, hz1, hz2⟩ := info_parts infoIntR
  refine wp_make w l c 92 hop w.heap.size 3 ti0 _ 1 Try.underlying92 hi hz0 hz1 .i64 .i64 a a NB hl hc hNB.symm hNB.symm (by rw [hz2]; omega) (by unfold maxLen; omega) (Nat.le_refl _) ?_
  intro w' hown hgrow
  rw [show (madeCells (Value.int .i64 0).cells (NB * 1)).toList = List.replicate (NB * 1) (Value.int .i64 0) from toList_madeCells_one _ _, Nat.mul_one] at hown
  exact hK w' _ (own_rowS hown) (Nat.le_refl _) ((Below.refl _ _).grown hgrow (Nat.le_refl _) (fun k h => by cases h))
theorem box_chipR (a b c d e : Int) (AF : Option Addr) (nf cf gN gW gD NB : Nat) (w : World) : (Instr.box 94 (.agg #[.int .i64 a, .int .i64 b, .int .i64 c, .int .i64 d, .int .i64 e, .slice AF nf cf, .slice none 0 0, .slice (some ⟨gN, 0, none⟩) NB NB, .slice (some ⟨gW, 0, none⟩) NB NB, .slice (some ⟨gD, 0, none⟩) NB NB, .int .i64 0, .int .i64 0, .bool false, .int .i64 0, .int .i64 0, .int .i64 0, .int .u8 0])).run Try.prog w = .ok (.pointer (some ⟨w.heap.size, 0, none⟩)) (w.alloc (.cells #[.int .i64 a, .int .i64 b, .int .i64 c, .int .i64 d, .int .i64 e, .slice AF nf cf, .slice none 0 0, .slice (some ⟨gN, 0, none⟩) NB NB, .slice (some ⟨gW, 0, none⟩) NB NB, .slice (some ⟨gD, 0, none⟩) NB NB, .int .i64 0, .int .i64 0, .bool false, .int .i64 0, .int .i64 0, .int .i64 0, .int .u8 0] 94)) := by kernel_rfl
theorem wp_boxR {w : World} {o : Oper} {a' : Act} {K : Act → World → Prop} {Q : Exit → Act → World → Prop} (x : Operand) (hop : o.op = Op.box 94 x)
    {a b c d e : Int} {AF : Option Addr} {nf cf gN gW gD NB : Nat} (hx : a'.eval x = .agg #[.int .i64 a, .int .i64 b, .int .i64 c, .int .i64 d, .int .i64 e, .slice AF nf cf, .slice none 0 0, .slice (some ⟨gN, 0, none⟩) NB NB, .slice (some ⟨gW, 0, none⟩) NB NB, .slice (some ⟨gD, 0, none⟩) NB NB, .int .i64 0, .int .i64 0, .bool false, .int .i64 0, .int .i64 0, .int .i64 0, .int .u8 0])
    (hK : ∀ w' m, Blk w' m 94 #[.int .i64 a, .int .i64 b, .int .i64 c, .int .i64 d, .int .i64 e, .slice AF nf cf, .slice none 0 0, .slice (some ⟨gN, 0, none⟩) NB NB, .slice (some ⟨gW, 0, none⟩) NB NB, .slice (some ⟨gD, 0, none⟩) NB NB, .int .i64 0, .int .i64 0, .bool false, .int .i64 0, .int .i64 0, .int .i64 0, .int .u8 0] → w.heap.size ≤ m → Below w.heap.size w w' → K (a'.put o.dst (.pointer (some ⟨m, 0, none⟩))) w') : Oper.wp Try.prog o a' w K Q := by
  have hrun := box_chipR a b c d e AF nf cf gN gW gD NB w
  unfold Oper.wp
  simp [execOp, hop, hx, hrun, Result.andThen]
  exact hK _ _ (Blk.new_ _ _ _) (Nat.le_refl _) ((Below.refl _ _).alloc (Nat.le_refl _) _)
end Go.Proofs.Ytcpniplfkillbaa
namespace Go.Proofs.Ytcpniplfkillbaa
open Go.ChangeShapes Go.WideShapes Go.ChangeAt Go.RowKit
structure NewL (wr w : World) (m gN gW gD : Nat) (AF : Option Addr) (cf : Nat) (a b c d e : Int) (fs : List Flt) (NB RW i : Nat) (vB : Value) (P : List (Nat × Nat)) : Prop where
  BM : Blk wr m 94 #[.int .i64 a, .int .i64 b, .int .i64 c, .int .i64 d, .int .i64 e, .slice AF fs.length cf, vB, .slice (some ⟨gN, 0, none⟩) NB NB, .slice (some ⟨gW, 0, none⟩) NB NB, .slice (some ⟨gD, 0, none⟩) NB NB, .int .i64 0, .int .i64 0, .bool false, .int .i64 0, .int .i64 0, .int .i64 0, .int .u8 0]
  own : wr.ownsRow (w.heap.size + 1) 38 1 vB i (P.map (pgV RW))
  nb : vB.ownBlock ≠ some m ∧ vB.ownBlock ≠ some gN ∧ vB.ownBlock ≠ some gW ∧ vB.ownBlock ≠ some gD
  nbf : fs = [] ∨ ∃ g, AF = some ⟨g, 0, none⟩ ∧ vB.ownBlock ≠ some g
  pg : ∀ (k : Nat) (p : Nat × Nat), P[k]? = some p → p.1 < wr.heap.size ∧ w.heap.size ≤ p.1 ∧ (p.1 ≠ m ∧ p.1 ≠ gN ∧ p.1 ≠ gW ∧ p.1 ≠ gD) ∧ vB.ownBlock ≠ some p.1 ∧ RW ≤ p.2 ∧ p.2 ≤ maxLen ∧ ∀ j, j < RW → wr.cell? ⟨p.1, j, none⟩ = some (byteV 255)
  RN : RowT wr gN 3 (List.replicate NB (Value.int .i64 0))
  RV : RowT wr gW 3 (List.replicate NB (Value.int .i64 0))
  RD : RowT wr gD 3 (List.replicate NB (Value.int .i64 0))
  RF : FR wr AF fs
  ne : m ≠ gN ∧ m ≠ gW ∧ m ≠ gD ∧ gN ≠ gW ∧ gN ≠ gD ∧ gW ≠ gD
  fne : FNe AF fs m ∧ FNe AF fs gN ∧ FNe AF fs gW ∧ FNe AF fs gD
  ge : w.heap.size ≤ m ∧ w.heap.size ≤ gN ∧ w.heap.size ≤ gW ∧ w.heap.size ≤ gD
  nw : w.heap.size ≠ m
  G1 : Blk wr w.heap.size 23 #[.int .i64 a, .int .i64 b, .int .i64 c, .int .i64 d, .int .i64 e]
  HB : Below w.heap.size w wr
  fge : FGe AF fs w.heap.size
theorem FGe.le {AF : Option Addr} {fs : List Flt} {k k' : Nat} (h : FGe AF fs k) (hk : k' ≤ k) : FGe AF fs k' := by
  rcases h with h | ⟨g, e, h⟩
  · exact Or.inl h
  · exact Or.inr ⟨g, e, by omega⟩
theorem blk_ne {w : World} {g h : Nat} {t t' : TypeId} {cs cs' : Array Value} (h1 : Blk w g t cs) (h2 : Blk w h t' cs') (hs : cs.size ≠ cs'.size) : g ≠ h := by
  intro e
  subst e
  unfold Blk at h1 h2
  rw [h1] at h2
  simp only [Option.some.injEq, Obj.cells.injEq] at h2
  exact hs (by rw [h2.1])
theorem own_far {w w' : World} {base e n : Nat} {v : Value} {xs : List Value} (h : w.ownsRow base e 1 v n xs) (hk : ∀ g, v.ownBlock = some g → w'.heap[g]? = w.heap[g]?) : w'.ownsRow base e 1 v n xs := by
  obtain ⟨hl, h⟩ := h
  refine ⟨hl, ?_⟩
  rcases h with h | ⟨g, cap, cur, rfl, hb, hh, r⟩
  · exact Or.inl h
  · exact Or.inr ⟨g, cap, cur, rfl, hb, (hk g rfl).trans hh, r⟩
theorem NewL.start {wr w : World} {m gN gW gD : Nat} {AF : Option Addr} {cf : Nat} {a b c d e : Int} {fs : List Flt} {NB RW : Nat} (BM : Blk wr m 94 #[.int .i64 a, .int .i64 b, .int .i64 c, .int .i64 d, .int .i64 e, .slice AF fs.length cf, .slice none 0 0, .slice (some ⟨gN, 0, none⟩) NB NB, .slice (some ⟨gW, 0, none⟩) NB NB, .slice (some ⟨gD, 0, none⟩) NB NB, .int .i64 0, .int .i64 0, .bool false, .int .i64 0, .int .i64 0, .int .i64 0, .int .u8 0]) (RN : RowT wr gN 3 (List.replicate NB (Value.int .i64 0))) (RV : RowT wr gW 3 (List.replicate NB (Value.int .i64 0))) (RD : RowT wr gD 3 (List.replicate NB (Value.int .i64 0))) (RF : FR wr AF fs)
    (ne : m ≠ gN ∧ m ≠ gW ∧ m ≠ gD ∧ gN ≠ gW ∧ gN ≠ gD ∧ gW ≠ gD) (fne : FNe AF fs m ∧ FNe AF fs gN ∧ FNe AF fs gW ∧ FNe AF fs gD) (ge : w.heap.size ≤ m ∧ w.heap.size ≤ gN ∧ w.heap.size ≤ gW ∧ w.heap.size ≤ gD) (G1 : Blk wr w.heap.size 23 #[.int .i64 a, .int .i64 b, .int .i64 c, .int .i64 d, .int .i64 e]) (HB : Below w.heap.size w wr) (fge : FGe AF fs w.heap.size) : NewL wr w m gN gW gD AF cf a b c d e fs NB RW 0 (.slice none 0 0) [] := by
  refine ⟨BM, World.ownsRow_nil _ _ _ _, ⟨by simp [Value.ownBlock], by simp [Value.ownBlock], by simp [Value.ownBlock], by simp [Value.ownBlock]⟩, ?_, fun k p h => by simp at h, RN, RV, RD, RF, ne, fne, ge, fun e => blk_ne BM G1 (by simp) e.symm, G1, HB, fge⟩
  rcases RF with h | ⟨g, h, _⟩
  · exact Or.inl h
  · exact Or.inr ⟨g, h, by simp [Value.ownBlock]⟩
theorem NewL.like {wr w : World} {m gN gW gD : Nat} {AF : Option Addr} {cf : Nat} {a b c d e : Int} {fs : List Flt} {NB RW i : Nat} {vB : Value} {P : List (Nat × Nat)} (h : NewL wr w m gN gW gD AF cf a b c d e fs NB RW i vB P) {w1 : World} (e1 : w1.heap = wr.heap := by rfl) (e2 : w1.os = wr.os := by rfl) (e3 : w1.tape = wr.tape := by rfl) (e4 : w1.output = wr.output := by rfl) : NewL w1 w m gN gW gD AF cf a b c d e fs NB RW i vB P := by
  have hk : ∀ g : Nat, w1.heap[g]? = wr.heap[g]? := fun g => by rw [e1]
  refine ⟨(hk _).trans h.BM, own_far h.own (fun g _ => hk g), h.nb, h.nbf, fun k p hp => ?_, h.RN.keep (hk _), h.RV.keep (hk _), h.RD.keep (hk _), ?_, h.ne, h.fne, h.ge, h.nw, (hk _).trans h.G1, ⟨e2.trans h.HB.os, e3.trans h.HB.tape, e4.trans h.HB.output, by rw [e1]; exact h.HB.size, fun g hg => (hk g).trans (h.HB.block g hg)⟩, h.fge⟩
  · obtain ⟨p1, p2, p3, p4, p5, p6, p7⟩ := h.pg k p hp
    exact ⟨by rw [e1]; exact p1, p2, p3, p4, p5, p6, fun j hj => (World.cell?_of_block (w := wr) (hk _)).trans (p7 j hj)⟩
  · rcases h.RF with h | ⟨g, e, h⟩
    · exact Or.inl h
    · exact Or.inr ⟨g, e, h.keep (hk _)⟩
theorem NewL.mid {wr w : World} {m gN gW gD : Nat} {AF : Option Addr} {cf : Nat} {a b c d e : Int} {fs : List Flt} {NB RW i : Nat} {vB : Value} {P : List (Nat × Nat)} (h : NewL wr w m gN gW gD AF cf a b c d e fs NB RW i vB P) {wN w' : World} (hb : Below wr.heap.size wr wN) (hg : wN.grownBy w' vB.ownBlock) :
    (∀ k, k < wr.heap.size → vB.ownBlock ≠ some k → w'.heap[k]? = wr.heap[k]?) ∧ Blk w' m 94 #[.int .i64 a, .int .i64 b, .int .i64 c, .int .i64 d, .int .i64 e, .slice AF fs.length cf, vB, .slice (some ⟨gN, 0, none⟩) NB NB, .slice (some ⟨gW, 0, none⟩) NB NB, .slice (some ⟨gD, 0, none⟩) NB NB, .int .i64 0, .int .i64 0, .bool false, .int .i64 0, .int .i64 0, .int .i64 0, .int .u8 0] ∧ Blk w' w.heap.size 23 #[.int .i64 a, .int .i64 b, .int .i64 c, .int .i64 d, .int .i64 e] := by
  have hk : ∀ k, k < wr.heap.size → vB.ownBlock ≠ some k → w'.heap[k]? = wr.heap[k]? := fun k hl hne => (hg.block k (Nat.lt_of_lt_of_le hl hb.size) (fun e => hne e.symm)).trans (hb.block k hl)
  exact ⟨hk, (hk _ h.BM.lt h.nb.1).trans h.BM, (hk _ h.G1.lt (fun e => by have := (h.own.lt _ e).1; omega)).trans h.G1⟩
theorem NewL.step {wr w : World} {m gN gW gD : Nat} {AF : Option Addr} {cf : Nat} {a b c d e : Int} {fs : List Flt} {NB RW i : Nat} {vB : Value} {P : List (Nat × Nat)} (h : NewL wr w m gN gW gD AF cf a b c d e fs NB RW i vB P) {wN w' : World} (hb : Below wr.heap.size wr wN) {g9 : Nat} (hR9 : RowT wN g9 5 ((List.replicate RW 255).map byteV)) (hge9 : wr.heap.size ≤ g9) (hm : RW ≤ maxLen) {v' : Value}
    (ho : w'.ownsRow (w.heap.size + 1) 38 1 v' (i + 1) (P.map (pgV RW) ++ [pgV RW (g9, RW)])) (hg : wN.grownBy w' vB.ownBlock) (hv : v'.ownBlock = vB.ownBlock ∨ v'.ownBlock = some wN.heap.size) : NewL (w'.setCell ⟨m, 6, none⟩ v') w m gN gW gD AF cf a b c d e fs NB RW (i + 1) v' (P ++ [(g9, RW)]) := by
  obtain ⟨hk, hBM, hG1⟩ := h.mid hb hg
  obtain ⟨e1, e2, e3, e4, e5, e6⟩ := h.ne
  obtain ⟨n1, n2, n3, n4⟩ := h.nb
  have hnv : ∀ k, k < wN.heap.size → vB.ownBlock ≠ some k → v'.ownBlock ≠ some k := by
    intro k h1 h2 h3
    rcases hv with hv | hv
    · exact h2 (hv ▸ h3)
    · rw [hv] at h3
      cases h3
      omega
  have hlt : ∀ k, k < wr.heap.size → k < wN.heap.size := fun k h1 => Nat.lt_of_lt_of_le h1 hb.size
  have hs : ∀ k, k ≠ m → (w'.setCell ⟨m, 6, none⟩ v').heap[k]? = w'.heap[k]? := fun k h1 => Below.heap_setCell w' ⟨m, 6, none⟩ v' k h1
  have hsk : ∀ k, k < wr.heap.size → vB.ownBlock ≠ some k → k ≠ m → (w'.setCell ⟨m, 6, none⟩ v').heap[k]? = wr.heap[k]? := fun k h1 h2 h3 => (hs k h3).trans (hk k h1 h2)
  have hown : wN.ownsRow (w.heap.size + 1) 38 1 vB i (P.map (pgV RW)) := own_far h.own (fun g hg => hb.block g (h.own.lt g hg).2)
  have hBl : Below w.heap.size wN w' := below_app (by omega) (Nat.le_trans (Nat.succ_le_of_lt h.G1.lt) hb.size) hown hg
  have hBm := hBM.lt
  have hB2 : Below w.heap.size w (w'.setCell ⟨m, 6, none⟩ v') := ((h.HB.trans (hb.mono h.HB.size)).trans hBl).setCell (p := ⟨m, 6, none⟩) h.ge.1 v'
  have hsz : w'.heap.size ≤ (w'.setCell ⟨m, 6, none⟩ v').heap.size := ((Below.refl (0 : Nat) w').setCell (p := ⟨m, 6, none⟩) (Nat.zero_le _) v').size
  refine ⟨?_, ?_, ⟨hnv m (hlt _ h.BM.lt) n1, hnv gN (hlt _ h.RN.lt) n2, hnv gW (hlt _ h.RV.lt) n3, hnv gD (hlt _ h.RD.lt) n4⟩, ?_, ?_, h.RN.keep (hsk _ h.RN.lt n2 e1.symm), h.RV.keep (hsk _ h.RV.lt n3 e2.symm), h.RD.keep (hsk _ h.RD.lt n4 e3.symm), ?_, h.ne, h.fne, h.ge, h.nw, (hs _ h.nw).trans hG1, hB2, h.fge⟩
  · have := hBM.set_ 6 v'
    simpa using this
  · rw [List.map_append]
    refine own_far ho (fun g hg => hs g (fun e => ?_))
    subst e
    exact hnv g (hlt _ h.BM.lt) n1 hg
  · rcases h.nbf with h1 | ⟨g, h1, h2⟩
    · exact Or.inl h1
    · rcases h.RF with h3 | ⟨g', h3, h4⟩
      · exact Or.inl h3
      · rw [h1] at h3
        cases h3
        exact Or.inr ⟨g, h1, hnv g (hlt _ h4.lt) h2⟩
  · intro k p hp
    have hsw : wN.heap.size ≤ w'.heap.size := hg.size
    have hbs := hb.size
    by_cases hkl : k < P.length
    · rw [List.getElem?_append_left hkl] at hp
      obtain ⟨p1, p2, p3, p4, p5, p6, p7⟩ := h.pg k p hp
      exact ⟨by omega, p2, p3, hnv _ (hlt _ p1) p4, p5, p6, fun j hj => (World.cell?_of_block (w := wr) (hsk _ p1 p4 p3.1)).trans (p7 j hj)⟩
    · rw [List.getElem?_append_right (by omega)] at hp
      have hk0 : k - P.length = 0 := by
        rcases Nat.eq_zero_or_pos (k - P.length) with h0 | h0
        · exact h0
        · rw [List.getElem?_eq_none (by simp; omega)] at hp
          cases hp
      rw [hk0] at hp
      obtain rfl : (g9, RW) = p := by simpa using hp
      have hg9 := hR9.lt
      have hno : vB.ownBlock ≠ some g9 := fun e => by have := (h.own.lt _ e).2; omega
      have hbm := h.BM.lt
      have hbn := h.RN.lt
      have hbv := h.RV.lt
      have hbd := h.RD.lt
      have hws := h.HB.size
      have hne9 : g9 ≠ m := by omega
      refine ⟨by show g9 < _; omega, by show _ ≤ g9; omega, ⟨hne9, by show g9 ≠ _; omega, by show g9 ≠ _; omega, by show g9 ≠ _; omega⟩, hnv _ hg9 hno, Nat.le_refl _, hm, fun j hj => ?_⟩
      rw [World.cell?_of_block (w := w') (a := ⟨g9, j, none⟩) (hs _ hne9), World.cell?_of_block (w := wN) (a := ⟨g9, j, none⟩) (hg.block g9 hg9 (fun e => hno e.symm))]
      exact hR9.cell_ (by rw [List.getElem?_map, List.getElem?_replicate, if_pos hj]; rfl)
  · rcases h.nbf with h1 | ⟨g, h1, h2⟩
    · exact Or.inl h1
    · rcases h.RF with h3 | ⟨g', h3, h4⟩
      · exact Or.inl h3
      · rcases h.fne.1 with h5 | ⟨g'', h5, h6⟩
        · exact Or.inl h5
        · rw [h1] at h3 h5
          cases h3
          cases h5
          exact Or.inr ⟨g, h1, h4.keep (hsk _ h4.lt h2 h6)⟩
theorem NewL.fin {wr w : World} {m gN gW gD : Nat} {AF : Option Addr} {cf : Nat} {a b c d e : Int} {fs : List Flt} {NB RW NP NX : Nat} {vB : Value} {P : List (Nat × Nat)} (h : NewL wr w m gN gW gD AF cf a b c d e fs NB RW NP vB P) (hNP : (NP : Int) = a * b) (h0 : 1 ≤ NP) (hNB : (NB : Int) = a) (hRW : (RW : Int) = c + 16) (hNX : NX = (a * b * (c + 16)).toNat) (hm : planMay a b c d e fs = true) : ∃ gB, RefW wr m gB gN gW gD w.heap.size AF fs.length cf a b c d e fs (ChS.new NX NB) := by
  obtain ⟨gB, cB, rfl, rB, hgB, hcB, hcB2⟩ := own_rowC h.own h0
  obtain ⟨e1, e2, e3, e4, e5, e6⟩ := h.ne
  obtain ⟨n1, n2, n3, n4⟩ := h.nb
  have hn : ∀ k, Value.ownBlock (.slice (some ⟨gB, 0, none⟩) NP cB) ≠ some k → gB ≠ k := fun k h1 e => h1 (by rw [e]; rfl)
  have hlen : P.length = NP := by
    have := h.own.1
    simpa using this
  have hZ : NX = NP * RW := by
    have e1 : ((NP * RW : Nat) : Int) = a * b * (c + 16) := by push_cast; rw [hNP, hRW]
    omega
  have hz : ∀ i, (List.replicate (3 * NB) (0 : Int)).getD i 0 = 0 := by
    intro i
    rw [List.getD_eq_getElem?_getD, List.getElem?_replicate]
    split <;> rfl
  have hcol : ∀ j, kcol (ChS.new NX NB).K j a.toNat = List.replicate NB (Value.int .i64 0) := by
    intro j
    unfold kcol
    apply List.ext_getElem?
    intro i
    rw [List.getElem?_map, List.getElem?_replicate]
    by_cases hi : i < NB
    · rw [List.getElem?_range (by omega), if_pos hi]
      show some (Value.int .i64 ((List.replicate (3 * NB) (0 : Int)).getD (3 * i + j) 0)) = _
      rw [hz]
    · rw [if_neg hi, List.getElem?_eq_none (by simp; omega)]
      rfl
  refine ⟨gB, ⟨⟨cB, NP, NB, RW, hRW, hNP, hNB, hcB, h.BM, P, hlen, rB, fun i p hp => ?_⟩, by rw [hcol]; exact h.RN, by rw [hcol]; exact h.RV, by rw [hcol]; exact h.RD, ?_, ⟨⟨(hn _ n1).symm, e1, e2, e3⟩, ⟨hn _ n2, hn _ n3, hn _ n4⟩, ⟨e4, e5⟩, e6⟩, ?_, by simp [ChS.new, hNX], by simp [ChS.new]; omega, rfl, hm⟩⟩
  · obtain ⟨p1, p2, p3, p4, p5, p6, p7⟩ := h.pg i p hp
    have hiN : i < NP := by rw [← hlen]; exact (List.getElem?_eq_some_iff.1 hp).1
    refine ⟨p1, p2, ?_, p5, p6, fun j hj => ?_⟩
    · intro hr
      rcases hr with hr | hr | hr | hr | hr
      · exact p3.1 hr
      · exact hn _ p4 hr.symm
      · exact p3.2.1 hr
      · exact p3.2.2.1 hr
      · exact p3.2.2.2 hr
    · rw [p7 j hj]
      show _ = some (byteV ((List.replicate NX 255).getD (i * RW + j) 0))
      rw [List.getD_eq_getElem?_getD, List.getElem?_replicate, if_pos]
      · rfl
      · have : (i + 1) * RW ≤ NP * RW := Nat.mul_le_mul_right _ hiN
        rw [Nat.succ_mul] at this
        omega
  · rcases h.RF with h1 | ⟨g, h1, h2⟩
    · exact Or.inl h1
    · rcases h.fne with ⟨f1, f2, f3, f4⟩
      have hx : ∀ k, FNe AF fs k → fs = [] ∨ g ≠ k := by
        intro k hk
        rcases hk with hk | ⟨g', hk, hk2⟩
        · exact Or.inl hk
        · rw [h1] at hk
          cases hk
          exact Or.inr hk2
      by_cases hf : fs = []
      · exact Or.inl hf
      · have hy : ∀ k, FNe AF fs k → g ≠ k := fun k hk => (hx k hk).resolve_left hf
        refine Or.inr ⟨g, 0, h1, h2.lt, ?_, ?_, fun k f hk => ?_⟩
        · rcases h.fge with h3 | ⟨g', h3, h4⟩
          · exact absurd h3 hf
          · rw [h1] at h3
            cases h3
            exact h4
        · intro hr
          rcases hr with hr | hr | hr | hr | hr
          · exact hy _ f1 hr
          · rcases h.nbf with h3 | ⟨g', h3, h4⟩
            · exact hf h3
            · rw [h1] at h3
              cases h3
              exact hn _ h4 hr.symm
          · exact hy _ f2 hr
          · exact hy _ f3 hr
          · exact hy _ f4 hr
        · obtain ⟨q0, q1, q2⟩ := flatF_at fs k f hk
          rw [Nat.zero_add]
          exact ⟨h2.cell_ q0, h2.cell_ q1, h2.cell_ q2⟩
  · intro g hg
    obtain ⟨g1, g2, g3, g4⟩ := h.ge
    rcases hg with rfl | rfl | rfl | rfl | rfl <;> first | assumption | omega
theorem fill_255 (Q : Nat) (w : World) (hQ : Q ≤ 1000) : Calls Try.prog 59 #[.int .u8 255, .int .i64 (Q : Int)] w fun e' w' => (∃ g, e' = .returned (.slice (some ⟨g, 0, none⟩) Q Q) ∧ RowT w' g 5 ((List.replicate Q 255).map byteV) ∧ w.heap.size ≤ g) ∧ Below w.heap.size w w' := fill_any 255 Q w hQ
theorem infoPg : (Try.prog.info? 38).map (fun i => (i.zero, i.size, i.bytes)) = some (some (.slice none 0 0), 1, 24) := by kernel_rfl
theorem build_pg (g n c : Nat) (w : World) : (Instr.buildSlice 91 1 #[(0, .slice (some ⟨g, 0, none⟩) n c)]).run Try.prog w = .ok (.slice (some ⟨w.heap.size, 0, none⟩) 1 1) (w.alloc (.cells #[.slice (some ⟨g, 0, none⟩) n c] 38)) := by kernel_rfl
theorem wp_buildPg {w : World} {o : Oper} {a : Act} {K : Act → World → Prop} {Q : Exit → Act → World → Prop} (x : Operand) (hop : o.op = Op.buildSlice 91 1 #[(0, x)])
    (g n c : Nat) (hx : a.eval x = .slice (some ⟨g, 0, none⟩) n c)
    (hK : ∀ w' b, Blk w' b 38 #[.slice (some ⟨g, 0, none⟩) n c] → w.heap.size ≤ b → Below w.heap.size w w' → K (a.put o.dst (.slice (some ⟨b, 0, none⟩) 1 1)) w') : Oper.wp Try.prog o a w K Q := by
  have hrun := build_pg g n c w
  unfold Oper.wp
  simp [execOp, hop, hx, hrun, Result.andThen]
  exact hK _ _ (Blk.new_ _ _ _) (Nat.le_refl _) ((Below.refl _ _).alloc (Nat.le_refl _) _)
end Go.Proofs.Ytcpniplfkillbaa
