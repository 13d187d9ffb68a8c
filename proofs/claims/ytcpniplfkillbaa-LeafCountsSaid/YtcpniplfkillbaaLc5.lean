/- Program of chapter 7's own chip: what it writes. -/
import Derived.Test.YtcpniplfkillbaaLc4
import Derived.Test.YtcpniplfkillbaaLc2
import Derived.Test.YtcpniplfkillbaaLc1
import Derived.ScopeJumps
import Derived.WalkMore
set_option linter.unusedSimpArgs false
set_option linter.unusedVariables false
set_option maxRecDepth 100000
set_option maxHeartbeats 16000000
namespace Go.Proofs.Ytcpniplfkillbaa
open Go.ChangeShapes Go.WideShapes Go.ChangeAt Go.RowKit
theorem RefW.lts {w : World} {m gB gN gW gD L : Nat} {Af : Option Addr} {nf cf : Nat} {a b c d e : Int} {fs : List Flt} {s : ChS} (hC : RefW w m gB gN gW gD L Af nf cf a b c d e fs s) : ∀ g, rfB m gB gN gW gD g → g < w.heap.size := by
  obtain ⟨⟨cB, NP, NB, RW, hRW, hNP, hNB, hcB, hB, P, hPl, rB, hP⟩, rN, rW, rD, rF, hne, hge, l1, l2, l3, l4⟩ := hC
  intro g hg
  rcases hg with rfl | rfl | rfl | rfl | rfl
  · exact hB.lt
  · exact rB.lt
  · exact rN.lt
  · exact rW.lt
  · exact rD.lt
theorem RefW.freeB {w : World} {m gB gN gW gD L : Nat} {Af : Option Addr} {nf cf : Nat} {a b c d e : Int} {fs : List Flt} {s : ChS} (hC : RefW w m gB gN gW gD L Af nf cf a b c d e fs s) : ∀ i, w.frozen? ⟨gB, i, none⟩ = false := by
  obtain ⟨⟨cB, NP, NB, RW, hRW, hNP, hNB, hcB, hB, P, hPl, rB, hP⟩, rN, rW, rD, rF, hne, hge, l1, l2, l3, l4⟩ := hC
  exact rB.free
theorem RefW.blkB {w : World} {m gB gN gW gD L : Nat} {Af : Option Addr} {nf cf : Nat} {a b c d e : Int} {fs : List Flt} {s : ChS} (hC : RefW w m gB gN gW gD L Af nf cf a b c d e fs s) : ∃ cs, Blk w gB 38 cs := by
  obtain ⟨⟨cB, NP, NB, RW, hRW, hNP, hNB, hcB, hB, P, hPl, rB, hP⟩, rN, rW, rD, rF, hne, hge, l1, l2, l3, l4⟩ := hC
  obtain ⟨r, hr⟩ := rB
  exact ⟨_, hr⟩
def Fresh (w w' : World) (gB : Nat) : Prop := ∀ i, w'.cell? ⟨gB, i, none⟩ = w.cell? ⟨gB, i, none⟩ ∨ ∃ g n c, w'.cell? ⟨gB, i, none⟩ = some (.slice (some ⟨g, 0, none⟩) n c) ∧ w.heap.size ≤ g
theorem Fresh.of {w w' : World} {gB : Nat} (hk : w'.heap[gB]? = w.heap[gB]?) : Fresh w w' gB := fun i => Or.inl (World.cell?_of_block (w := w) hk)
theorem Fresh.then {w w' w'' : World} {gB : Nat} (h : Fresh w w' gB) (hk : w''.heap[gB]? = w'.heap[gB]?) : Fresh w w'' gB := by
  intro i
  have e : w''.cell? ⟨gB, i, none⟩ = w'.cell? ⟨gB, i, none⟩ := World.cell?_of_block (w := w') hk
  rw [e]
  exact h i
theorem Fresh.put {w w1 : World} {gB N g9 n c : Nat} {t : TypeId} (hk : w1.heap[gB]? = w.heap[gB]?) (hB : ∃ cs, Blk w1 gB t cs) (hg : w.heap.size ≤ g9) : Fresh w (w1.setCell ⟨gB, N, none⟩ (.slice (some ⟨g9, 0, none⟩) n c)) gB := by
  intro i
  obtain ⟨cs, hB⟩ := hB
  have e : w1.cell? ⟨gB, i, none⟩ = w.cell? ⟨gB, i, none⟩ := World.cell?_of_block (w := w) hk
  rw [← e, (hB.set_ N _).cell_, hB.cell_, Array.getElem?_setIfInBounds]
  by_cases h1 : N = i
  · rw [if_pos h1]
    by_cases h2 : N < cs.size
    · rw [if_pos h2]
      exact Or.inr ⟨g9, n, c, rfl, hg⟩
    · rw [if_neg h2, Array.getElem?_eq_none (by omega)]
      exact Or.inl rfl
  · rw [if_neg h1]
    exact Or.inl rfl
theorem own_lenR {w : World} {base n n' : Nat} {t : TypeId} {v : Value} {xs : List Value} (h : n = n') (ho : w.ownsRow base t 1 v n xs) : w.ownsRow base t 1 v n' xs := h ▸ ho
theorem RefW.freeN {w : World} {m gB gN gW gD L : Nat} {Af : Option Addr} {nf cf : Nat} {a b c d e : Int} {fs : List Flt} {s : ChS} (hC : RefW w m gB gN gW gD L Af nf cf a b c d e fs s) : ∀ i, w.frozen? ⟨gN, i, none⟩ = false := hC.rN.free
theorem RefW.freeD {w : World} {m gB gN gW gD L : Nat} {Af : Option Addr} {nf cf : Nat} {a b c d e : Int} {fs : List Flt} {s : ChS} (hC : RefW w m gB gN gW gD L Af nf cf a b c d e fs s) : ∀ i, w.frozen? ⟨gD, i, none⟩ = false := hC.rD.free
theorem row_take {w : World} {g RW Q : Nat} {bs : List Nat} (h : RowT w g 5 (bs.map byteV)) (hl : bs.length = RW) (hq : Q ≤ RW) : Rd w (some ⟨g, 0, none⟩) Q 1 ((bs.take Q).map byteV) := by
  refine ⟨by simp; omega, Or.inr ⟨g, 0, rfl, fun j u hu => ?_⟩⟩
  rw [Nat.zero_add]
  refine h.cell_ ?_
  exact take_sub j u hu
theorem rd_dropB {w : World} {p RW Q : Nat} {bs : List Nat} (h : Rd w (some ⟨p, 0, none⟩) RW 1 (bs.map byteV)) (hq : Q ≤ RW) : Rd w (some ⟨p, Q, none⟩) (RW - Q) 1 ((bs.drop Q).map byteV) := by
  obtain ⟨h1, h2⟩ := h
  have h1' : bs.length = RW := by simpa using h1
  refine ⟨by simp; omega, ?_⟩
  by_cases h0 : RW - Q = 0
  · exact Or.inl h0
  · rcases h2 with h2 | ⟨b, off, e, hc⟩
    · omega
    · cases e
      refine Or.inr ⟨p, Q, rfl, fun j u hu => ?_⟩
      rw [List.getElem?_map, List.getElem?_drop] at hu
      have := hc (Q + j) u (by rw [List.getElem?_map]; exact hu)
      rwa [Nat.zero_add] at this
theorem rprog_ok (m gB gN gW gD L : Nat) (Af : Option Addr) (nf cf : Nat) (a b c d e : Int) (fs : List Flt) (k l N : Nat) (n : Int) (gA RW cA : Nat) (hcA : RW ≤ cA) (bs : List Nat) (w : World) (s : ChS) (hC : RefW w m gB gN gW gD L Af nf cf a b c d e fs s) (hbn : s.Bnd n) (hn : n ≤ 900000000) (hwt : s.Wt) (ho : s.on = true) (hk : (k : Int) < a) (hl : (l : Int) < b) (HRW : Hid ((RW : Int) = c + 16)) (hfl8 : fs.length ≤ 8) (hcu : Hid (s.cutB = false)) (hfb : failsB fs (k : Int) (s.k (k : Int) 2) = false) (hln : (l : Int) = s.k (k : Int) 0) (hnum : Hid (numberI a b (k : Int) (l : Int) = (N : Int))) (hfit0 : N * RW + RW ≤ s.X.length) (r1 : 40 ≤ RW) (r2 : RW ≤ 80) (hN2 : N < 200) (hNab : (N : Int) < a * b) (hR : RowT w gA 5 (bs.map byteV)) (hgA : ¬ rfB m gB gN gW gD gA) (hbl : bs.length = RW) : Calls Try.prog 33 #[.pointer (some ⟨m, 0, none⟩), .agg #[.int .i64 (k : Int), .int .i64 (l : Int)], .slice (some ⟨gA, 0, none⟩) RW cA] w fun e' w' => e' = .returned (.int .i64 0) ∧ RefW w' m gB gN gW gD L Af nf cf a b c d e fs (s.prog k N RW bs) ∧ Tch (rfB m gB gN gW gD) w w' ∧ Fresh w w' gB := by
  have ht : Hid (thereB a b (k : Int) (l : Int) = true) := Lib.hid (by unfold thereB withinB; simp; omega)
  have HK := Lib.hid hk
  have tk : ∀ j : Nat, s.tick.k (k : Int) j = s.k (k : Int) j := fun j => by unfold ChS.k; rw [tick_K]
  obtain ⟨v2, hv2⟩ : ∃ v, s.tick.k (k : Int) 2 = v := ⟨_, rfl⟩
  obtain ⟨v0, hv0⟩ : ∃ v, s.tick.k (k : Int) 0 = v := ⟨_, rfl⟩
  have HV2 := Lib.hid hv2
  have HV0 := Lib.hid hv0
  have HFL : Hid (failsB fs (k : Int) v2 = false) := Lib.hid (by rw [← hv2, tk]; exact hfb)
  rw [← tk, hv0] at hln
  have hnq : ((l : Int) != v0) = false := by simp; omega
  have hnp : ((l : Int) == v0) = true := by simp; omega
  have hfit : N * RW + RW ≤ s.tick.X.length := by rw [tick_X]; exact hfit0
  have HNAB := Lib.hid hNab
  have HFIT := Lib.hid hfit
  have HBL := Lib.hid hbl
  have HAR := Lib.hid hR
  have hC0L : Hid (∀ g, rfB m gB gN gW gD g → g < w.heap.size) := Lib.hid hC.lts
  have hgm : gA ≠ m := fun e => hgA (Or.inl e)
  obtain ⟨vb0, vb1⟩ : 0 ≤ v0 ∧ v0 ≤ n := by rw [← hv0, tk]; exact ⟨hbn.k0 _, hbn.k1 _⟩
  obtain ⟨vc0, vc1⟩ : 0 ≤ v2 ∧ v2 ≤ n := by rw [← hv2, tk]; exact ⟨hbn.k0 _, hbn.k1 _⟩
  clear hln hfit0 hfit hNab hbl hR
  obtain ⟨Q, hQ⟩ : ∃ Q, Q = RW := ⟨_, rfl⟩
  have hQR : Q ≤ RW := by omega
  have HQE := Lib.hid hQ
  clear hQ
  have HQ := Lib.hid hQR
  clear hv2 hv0 tk hk hl
  have HM := Lib.hid (planMay_bd hC.may).1
  have hmw := hC.lt
  have HB0 : Below w.heap.size w (w.alloc (.cells #[.int .i64 (k : Int), .int .i64 (l : Int)] 27)) := (Below.refl _ _).alloc (Nat.le_refl _) _
  have G1 : Blk (w.alloc (.cells #[.int .i64 (k : Int), .int .i64 (l : Int)] 27)) w.heap.size 27 #[.int .i64 (k : Int), .int .i64 (l : Int)] := Blk.new_ _ _ _
  have z0 : (w.alloc (.cells #[.int .i64 (k : Int), .int .i64 (l : Int)] 27)).cell? ⟨w.heap.size, 0, none⟩ = some (.int .i64 (k : Int)) := G1.cell_ 0
  have z1 : (w.alloc (.cells #[.int .i64 (k : Int), .int .i64 (l : Int)] 27)).cell? ⟨w.heap.size, 1, none⟩ = some (.int .i64 (l : Int)) := G1.cell_ 1
  have hC := hC.below HB0
  obtain ⟨NP, NB, RWc, cB, HCC⟩ := hC.cells
  have y0 := HCC.y0; have y1 := HCC.y1; have y2 := HCC.y2; have y3 := HCC.y3; have y4 := HCC.y4; have y12 := HCC.y12
  have hnm : ¬ w.heap.size = m := by omega
  rw [show (!s.on) = false by rw [ho]; rfl] at y12
  clear ho
  go_enter Try.func33, Try.ntmps33
  go_upto_region 3 with fail
  refine wp_region_noPanic ?_
  refine wp_region_held_drew (S := (fun w' => w'.cell? ⟨m, 0, none⟩ = some (.int .i64 a) ∧ w'.cell? ⟨m, 1, none⟩ = some (.int .i64 b) ∧ w'.cell? ⟨m, 2, none⟩ = some (.int .i64 c) ∧ w'.cell? ⟨m, 3, none⟩ = some (.int .i64 d) ∧ w'.cell? ⟨m, 4, none⟩ = some (.int .i64 e) ∧ w'.cell? ⟨w.heap.size, 0, none⟩ = some (.int .i64 (k : Int)) ∧ w'.cell? ⟨w.heap.size, 1, none⟩ = some (.int .i64 (l : Int)))) (by kernel_rfl) ?_ (fun hHeld => ?_)
  · (first | exact ⟨y0, y1, y2, y3, y4, z0, z1⟩ | assumption)
  refine wpAnyH_take (i := 0) (oi := ⟨some 15, .move (.tmp 0), 30, "ref.go:79", #[], none⟩) (v := ?_) rfl (by kernel_rfl) (by kernel_rfl) (by kernel_rfl) (fun _ _ _ h => h) (Or.inl ⟨by rfl, ?_⟩) (by assumption) ?_; rotate_left; (· (intro wS hSw; (try dsimp only at hSw); go_simp; (try with_reducible rfl))); try simp only [Act.put, pz1, pz2, pz3]
  refine wpAnyH_take (i := 1) (oi := ⟨some 16, .nilCheck (.tmp 15), 0, "ref.go:79", #[⟨0, .data⟩], none⟩) (v := ?_) rfl (by kernel_rfl) (by kernel_rfl) (by kernel_rfl) (fun _ _ _ h => h) (Or.inl ⟨by rfl, ?_⟩) (by assumption) ?_; rotate_left; (· (intro wS hSw; (try dsimp only at hSw); go_simp; (try with_reducible rfl))); try simp only [Act.put, pz1, pz2, pz3]
  refine wpAnyH_take (i := 2) (oi := ⟨some 17, .fieldAddr 94 (.tmp 16) 0, 0, "ref.go:79", #[⟨1, .data⟩], none⟩) (v := ?_) rfl (by kernel_rfl) (by kernel_rfl) (by kernel_rfl) (fun _ _ _ h => h) (Or.inl ⟨by rfl, ?_⟩) (by assumption) ?_; rotate_left; (· (intro wS hSw; (try dsimp only at hSw); go_simp; (try with_reducible rfl))); try simp only [Act.put, pz1, pz2, pz3]
  refine wpAnyH_take (i := 3) (oi := ⟨some 18, .load 23 (.tmp 17), 23, "ref.go:79", #[⟨2, .data⟩], none⟩) (v := ?_) rfl (by kernel_rfl) (by kernel_rfl) (by kernel_rfl) (fun _ _ _ h => h) (Or.inl ⟨by rfl, ?_⟩) (by assumption) ?_; rotate_left; (· (intro wS hSw; (try dsimp only at hSw); go_simp; (try with_reducible rfl))); try simp only [Act.put, pz1, pz2, pz3]
  refine wpAnyH_take (i := 4) (oi := ⟨some 19, .load 27 (.tmp 4), 27, "ref.go:79", #[], none⟩) (v := ?_) rfl (by kernel_rfl) (by kernel_rfl) (by kernel_rfl) (fun _ _ _ h => h) (Or.inl ⟨by rfl, ?_⟩) (by assumption) ?_; rotate_left; (· (intro wS hSw; (try dsimp only at hSw); go_simp; (try with_reducible rfl))); try simp only [Act.put, pz1, pz2, pz3]
  refine wpAnyH_ready (rs := [5]) (by kernel_rfl) (by simp) ?_
  refine AllReadyH.cons (o := ⟨some 20, .call { callee := .value (.func 43), args := #[.tmp 18, .tmp 19], argTypes := #[23, 27] }, 4, "ref.go:79", #[⟨3, .data⟩, ⟨4, .data⟩], none⟩) rfl (fun K hK => ?_) AllReadyH.nil
  go_simp
  (first | (go_at_call 43; ((with_reducible refine (rthr_b _ _ _ _ _ (k : Int) (l : Int) _ _ HM ht).mono ?_); rintro e' wN ⟨rfl, hb⟩; (try have hb := undrew hb); replace hC := RefW.likeB hC hb; replace HB0 := btr HB0 HB0.size hb; replace G1 := G1.below hb G1.lt; replace HCC := RefC.below HCC hb; clear z0 z1; clear y0 y1 y2 y3 y4 y12; have z0 := G1.cell_ 0; have z1 := G1.cell_ 1; simp at z0 z1; have y0 := HCC.y0; have y1 := HCC.y1; have y2 := HCC.y2; have y3 := HCC.y3; have y4 := HCC.y4; have y12 := HCC.y12)) | (go_at_call 60; ((with_reducible refine (rraw_b _ _ _ _ _ RW _ HM HRW).mono ?_); rintro e' wN ⟨rfl, hb⟩; (try have hb := undrew hb); replace hC := RefW.likeB hC hb; replace HB0 := btr HB0 HB0.size hb; replace G1 := G1.below hb G1.lt; replace HCC := RefC.below HCC hb; clear z0 z1; clear y0 y1 y2 y3 y4 y12; have z0 := G1.cell_ 0; have z1 := G1.cell_ 1; simp at z0 z1; have y0 := HCC.y0; have y1 := HCC.y1; have y2 := HCC.y2; have y3 := HCC.y3; have y4 := HCC.y4; have y12 := HCC.y12)))
  go_wp2_with fail
  refine hK.out _ _ ?_ (fun hNew => ?_)
  · (first | exact ⟨y0, y1, y2, y3, y4, z0, z1⟩ | assumption)
  clear hK K hHeld
  have hHeld := hNew
  clear hNew
  try simp only [Act.put, pz1, pz2, pz3]
  refine wpAnyH_take (i := 6) (oi := ⟨some 21, .unOp .not 4 (.tmp 20), 4, "ref.go:79", #[⟨5, .data⟩], none⟩) (v := ?_) rfl (by kernel_rfl) (by kernel_rfl) (by kernel_rfl) (fun _ _ _ h => h) (Or.inl ⟨by rfl, ?_⟩) (by assumption) ?_; rotate_left; (· (intro wS hSw; (try dsimp only at hSw); go_simp; (try with_reducible rfl))); try simp only [Act.put, pz1, pz2, pz3]
  refine wpAnyH_take (i := 7) (oi := ⟨some 22, .move (.tmp 21), 4, "ref.go:79", #[⟨6, .data⟩, ⟨5, .chain⟩], none⟩) (v := ?_) rfl (by kernel_rfl) (by kernel_rfl) (by kernel_rfl) (fun _ _ _ h => h) (Or.inl ⟨by rfl, ?_⟩) (by assumption) ?_; rotate_left; (· (intro wS hSw; (try dsimp only at hSw); go_simp; (try with_reducible rfl))); try simp only [Act.put, pz1, pz2, pz3]
  refine wpAnyH_take (i := 8) (oi := ⟨some 23, .move (.tmp 2), 38, "ref.go:79", #[⟨7, .guard⟩], some (7, false)⟩) (v := ?_) rfl (by kernel_rfl) (by kernel_rfl) (by kernel_rfl) (fun _ _ _ h => h) (Or.inl ⟨by rfl, ?_⟩) (by assumption) ?_; rotate_left; (· (intro wS hSw; (try dsimp only at hSw); go_simp; (try with_reducible rfl))); try simp only [Act.put, pz1, pz2, pz3]
  refine wpAnyH_take (i := 9) (oi := ⟨some 24, .call { callee := .builtin .len, args := #[.tmp 23], argTypes := #[38] }, 3, "ref.go:79", #[⟨8, .data⟩, ⟨7, .guard⟩], some (7, false)⟩) (v := ?_) rfl (by kernel_rfl) (by kernel_rfl) (by kernel_rfl) (fun _ _ _ h => h) (Or.inl ⟨by rfl, ?_⟩) (by assumption) ?_; rotate_left; (· (intro wS hSw; (try dsimp only at hSw); go_simp; (try with_reducible rfl))); try simp only [Act.put, pz1, pz2, pz3]
  refine wpAnyH_take (i := 10) (oi := ⟨some 25, .move (.tmp 0), 30, "ref.go:79", #[⟨7, .guard⟩], some (7, false)⟩) (v := ?_) rfl (by kernel_rfl) (by kernel_rfl) (by kernel_rfl) (fun _ _ _ h => h) (Or.inl ⟨by rfl, ?_⟩) (by assumption) ?_; rotate_left; (· (intro wS hSw; (try dsimp only at hSw); go_simp; (try with_reducible rfl))); try simp only [Act.put, pz1, pz2, pz3]
  refine wpAnyH_take (i := 11) (oi := ⟨some 26, .nilCheck (.tmp 25), 0, "ref.go:79", #[⟨10, .data⟩, ⟨7, .guard⟩], some (7, false)⟩) (v := ?_) rfl (by kernel_rfl) (by kernel_rfl) (by kernel_rfl) (fun _ _ _ h => h) (Or.inl ⟨by rfl, ?_⟩) (by assumption) ?_; rotate_left; (· (intro wS hSw; (try dsimp only at hSw); go_simp; (try with_reducible rfl))); try simp only [Act.put, pz1, pz2, pz3]
  refine wpAnyH_take (i := 12) (oi := ⟨some 27, .fieldAddr 94 (.tmp 26) 0, 0, "ref.go:79", #[⟨11, .data⟩, ⟨7, .guard⟩], some (7, false)⟩) (v := ?_) rfl (by kernel_rfl) (by kernel_rfl) (by kernel_rfl) (fun _ _ _ h => h) (Or.inl ⟨by rfl, ?_⟩) (by assumption) ?_; rotate_left; (· (intro wS hSw; (try dsimp only at hSw); go_simp; (try with_reducible rfl))); try simp only [Act.put, pz1, pz2, pz3]
  refine wpAnyH_take (i := 13) (oi := ⟨some 28, .load 23 (.tmp 27), 23, "ref.go:79", #[⟨12, .data⟩, ⟨7, .guard⟩], some (7, false)⟩) (v := ?_) rfl (by kernel_rfl) (by kernel_rfl) (by kernel_rfl) (fun _ _ _ h => h) (Or.inl ⟨by rfl, ?_⟩) (by assumption) ?_; rotate_left; (· (intro wS hSw; (try dsimp only at hSw); go_simp; (try with_reducible rfl))); try simp only [Act.put, pz1, pz2, pz3]
  refine wpAnyH_ready (rs := [14]) (by kernel_rfl) (by simp) ?_
  refine AllReadyH.cons (o := ⟨some 29, .call { callee := .value (.func 60), args := #[.tmp 28], argTypes := #[23] }, 3, "ref.go:79", #[⟨13, .data⟩, ⟨7, .chain⟩, ⟨7, .guard⟩], some (7, false)⟩) rfl (fun K hK => ?_) AllReadyH.nil
  go_simp
  (first | (go_at_call 43; ((with_reducible refine (rthr_b _ _ _ _ _ (k : Int) (l : Int) _ _ HM ht).mono ?_); rintro e' wN ⟨rfl, hb⟩; (try have hb := undrew hb); replace hC := RefW.likeB hC hb; replace HB0 := btr HB0 HB0.size hb; replace G1 := G1.below hb G1.lt; replace HCC := RefC.below HCC hb; clear z0 z1; clear y0 y1 y2 y3 y4 y12; have z0 := G1.cell_ 0; have z1 := G1.cell_ 1; simp at z0 z1; have y0 := HCC.y0; have y1 := HCC.y1; have y2 := HCC.y2; have y3 := HCC.y3; have y4 := HCC.y4; have y12 := HCC.y12)) | (go_at_call 60; ((with_reducible refine (rraw_b _ _ _ _ _ RW _ HM HRW).mono ?_); rintro e' wN ⟨rfl, hb⟩; (try have hb := undrew hb); replace hC := RefW.likeB hC hb; replace HB0 := btr HB0 HB0.size hb; replace G1 := G1.below hb G1.lt; replace HCC := RefC.below HCC hb; clear z0 z1; clear y0 y1 y2 y3 y4 y12; have z0 := G1.cell_ 0; have z1 := G1.cell_ 1; simp at z0 z1; have y0 := HCC.y0; have y1 := HCC.y1; have y2 := HCC.y2; have y3 := HCC.y3; have y4 := HCC.y4; have y12 := HCC.y12)))
  go_wp2_with fail
  refine hK.out _ _ ?_ (fun hNew => ?_)
  · (first | exact ⟨y0, y1, y2, y3, y4, z0, z1⟩ | assumption)
  clear hK K hHeld
  have hHeld := hNew
  clear hNew
  try simp only [Act.put, pz1, pz2, pz3]
  refine wpAnyH_take (i := 15) (oi := ⟨some 30, .binOp .neq 3 (.tmp 24) (.tmp 29) 3, 4, "ref.go:79", #[⟨9, .data⟩, ⟨14, .data⟩, ⟨7, .guard⟩], some (7, false)⟩) (v := ?_) rfl (by kernel_rfl) (by kernel_rfl) (by kernel_rfl) (fun _ _ _ h => h) (Or.inl ⟨by rfl, ?_⟩) (by assumption) ?_; rotate_left; (· (intro wS hSw; (try dsimp only at hSw); go_simp; (try with_reducible rfl))); try simp only [Act.put, pz1, pz2, pz3]
  refine wpAnyH_take (i := 16) (oi := ⟨some 31, .pick (.tmp 22) (.const (.bool true)) (.tmp 30), 4, "ref.go:79", #[⟨7, .data⟩, ⟨15, .data⟩], none⟩) (v := ?_) rfl (by kernel_rfl) (by kernel_rfl) (by kernel_rfl) (fun _ _ _ h => h) (Or.inl ⟨by rfl, ?_⟩) (by assumption) ?_; rotate_left; (· (intro wS hSw; (try dsimp only at hSw); go_simp; (try with_reducible rfl))); try simp only [Act.put, pz1, pz2, pz3]
  refine wpAnyH_done (by kernel_rfl) ?_ _
  refine NoPanic.normal ?_
  go_upto_region 7 with (go_at_call 61; ((with_reducible refine (rturn_b _ _ _ _ _ _ _ _ _ _ _ _ _ _ _ _ _ _ _ hC hbn (by omega) hwt hcu).mono ?_); rintro e' wN ⟨rfl, hC2, hT⟩; have HT := (Tch.of_below (S := fun g => g = m) HB0).trans (Tch.like0 hT); have hlt0 := hT.far w.heap.size G1.lt hnm; replace G1 : Blk wN w.heap.size _ _ := hlt0.trans G1; clear hlt0 hC HCC; have hC := hC2; clear hC2 z0 z1; clear y0 y1 y2 y3 y4 y12; have z0 := G1.cell_ 0; have z1 := G1.cell_ 1; simp at z0 z1))
  obtain ⟨NP, NB, RWc, cB, HCC⟩ := hC.cells
  have y0 := HCC.y0; have y1 := HCC.y1; have y2 := HCC.y2; have y3 := HCC.y3; have y4 := HCC.y4; have y5 := HCC.y5; have y6 := HCC.y6; have y7 := HCC.y7; have y9 := HCC.y9; have y15 := HCC.y15
  have i0 : (0 : Int) ≤ (k : Int) := by omega
  have i1 : (k : Int) < (NB : Int) := by have := HCC.hNB.out; have := HK.out; omega
  have cD := HCC.n2 k (by omega)
  have cX := HCC.n0 k (by omega)
  rw [HV2.out] at cD
  rw [HV0.out] at cX
  refine wp_region_noPanic ?_
  refine wp_region_held_drew (S := (fun w' => w'.cell? ⟨m, 5, none⟩ = some (.slice Af nf cf) ∧ w'.cell? ⟨m, 9, none⟩ = some (.slice (some ⟨gD, 0, none⟩) NB NB) ∧ w'.cell? ⟨w.heap.size, 0, none⟩ = some (.int .i64 (k : Int)) ∧ w'.cell? ⟨gD, k, none⟩ = some (.int .i64 v2))) (by kernel_rfl) ?_ (fun hHeld => ?_)
  · (first | exact ⟨y5, y9, z0, cD⟩ | assumption)
  refine wpAnyH_take (i := 0) (oi := ⟨some 35, .move (.tmp 0), 30, "ref.go:85", #[], none⟩) (v := ?_) rfl (by kernel_rfl) (by kernel_rfl) (by kernel_rfl) (fun _ _ _ h => h) (Or.inl ⟨by rfl, ?_⟩) (by assumption) ?_; rotate_left; (· (intro wS hSw; (try dsimp only at hSw); go_simp; (try with_reducible rfl))); try simp only [Act.put, pz1, pz2, pz3]
  refine wpAnyH_take (i := 1) (oi := ⟨some 36, .nilCheck (.tmp 35), 0, "ref.go:85", #[⟨0, .data⟩], none⟩) (v := ?_) rfl (by kernel_rfl) (by kernel_rfl) (by kernel_rfl) (fun _ _ _ h => h) (Or.inl ⟨by rfl, ?_⟩) (by assumption) ?_; rotate_left; (· (intro wS hSw; (try dsimp only at hSw); go_simp; (try with_reducible rfl))); try simp only [Act.put, pz1, pz2, pz3]
  refine wpAnyH_take (i := 2) (oi := ⟨some 37, .fieldAddr 94 (.tmp 36) 1, 0, "ref.go:85", #[⟨1, .data⟩], none⟩) (v := ?_) rfl (by kernel_rfl) (by kernel_rfl) (by kernel_rfl) (fun _ _ _ h => h) (Or.inl ⟨by rfl, ?_⟩) (by assumption) ?_; rotate_left; (· (intro wS hSw; (try dsimp only at hSw); go_simp; (try with_reducible rfl))); try simp only [Act.put, pz1, pz2, pz3]
  refine wpAnyH_take (i := 3) (oi := ⟨some 38, .load 24 (.tmp 37), 24, "ref.go:85", #[⟨2, .data⟩], none⟩) (v := ?_) rfl (by kernel_rfl) (by kernel_rfl) (by kernel_rfl) (fun _ _ _ h => h) (Or.inl ⟨by rfl, ?_⟩) (by assumption) ?_; rotate_left; (· (intro wS hSw; (try dsimp only at hSw); go_simp; (try with_reducible rfl))); try simp only [Act.put, pz1, pz2, pz3]
  refine wpAnyH_take (i := 4) (oi := ⟨some 39, .fieldAddr 27 (.tmp 4) 0, 0, "ref.go:85", #[], none⟩) (v := ?_) rfl (by kernel_rfl) (by kernel_rfl) (by kernel_rfl) (fun _ _ _ h => h) (Or.inl ⟨by rfl, ?_⟩) (by assumption) ?_; rotate_left; (· (intro wS hSw; (try dsimp only at hSw); go_simp; (try with_reducible rfl))); try simp only [Act.put, pz1, pz2, pz3]
  refine wpAnyH_take (i := 5) (oi := ⟨some 40, .load 3 (.tmp 39), 3, "ref.go:85", #[⟨4, .data⟩], none⟩) (v := ?_) rfl (by kernel_rfl) (by kernel_rfl) (by kernel_rfl) (fun _ _ _ h => h) (Or.inl ⟨by rfl, ?_⟩) (by assumption) ?_; rotate_left; (· (intro wS hSw; (try dsimp only at hSw); go_simp; (try with_reducible rfl))); try simp only [Act.put, pz1, pz2, pz3]
  refine wpAnyH_take (i := 6) (oi := ⟨some 41, .move (.tmp 0), 30, "ref.go:85", #[], none⟩) (v := ?_) rfl (by kernel_rfl) (by kernel_rfl) (by kernel_rfl) (fun _ _ _ h => h) (Or.inl ⟨by rfl, ?_⟩) (by assumption) ?_; rotate_left; (· (intro wS hSw; (try dsimp only at hSw); go_simp; (try with_reducible rfl))); try simp only [Act.put, pz1, pz2, pz3]
  refine wpAnyH_take (i := 7) (oi := ⟨some 42, .nilCheck (.tmp 41), 0, "ref.go:85", #[⟨6, .data⟩], none⟩) (v := ?_) rfl (by kernel_rfl) (by kernel_rfl) (by kernel_rfl) (fun _ _ _ h => h) (Or.inl ⟨by rfl, ?_⟩) (by assumption) ?_; rotate_left; (· (intro wS hSw; (try dsimp only at hSw); go_simp; (try with_reducible rfl))); try simp only [Act.put, pz1, pz2, pz3]
  refine wpAnyH_take (i := 8) (oi := ⟨some 43, .fieldAddr 94 (.tmp 42) 5, 0, "ref.go:85", #[⟨7, .data⟩], none⟩) (v := ?_) rfl (by kernel_rfl) (by kernel_rfl) (by kernel_rfl) (fun _ _ _ h => h) (Or.inl ⟨by rfl, ?_⟩) (by assumption) ?_; rotate_left; (· (intro wS hSw; (try dsimp only at hSw); go_simp; (try with_reducible rfl))); try simp only [Act.put, pz1, pz2, pz3]
  refine wpAnyH_take (i := 9) (oi := ⟨some 44, .load 92 (.tmp 43), 92, "ref.go:85", #[⟨8, .data⟩], none⟩) (v := ?_) rfl (by kernel_rfl) (by kernel_rfl) (by kernel_rfl) (fun _ _ _ h => h) (Or.inl ⟨by rfl, ?_⟩) (by assumption) ?_; rotate_left; (· (intro wS hSw; (try dsimp only at hSw); go_simp; (try with_reducible rfl))); try simp only [Act.put, pz1, pz2, pz3]
  refine wpAnyH_take (i := 10) (oi := ⟨some 45, .fieldAddr 27 (.tmp 4) 0, 0, "ref.go:85", #[], none⟩) (v := ?_) rfl (by kernel_rfl) (by kernel_rfl) (by kernel_rfl) (fun _ _ _ h => h) (Or.inl ⟨by rfl, ?_⟩) (by assumption) ?_; rotate_left; (· (intro wS hSw; (try dsimp only at hSw); go_simp; (try with_reducible rfl))); try simp only [Act.put, pz1, pz2, pz3]
  refine wpAnyH_take (i := 11) (oi := ⟨some 46, .load 3 (.tmp 45), 3, "ref.go:85", #[⟨10, .data⟩], none⟩) (v := ?_) rfl (by kernel_rfl) (by kernel_rfl) (by kernel_rfl) (fun _ _ _ h => h) (Or.inl ⟨by rfl, ?_⟩) (by assumption) ?_; rotate_left; (· (intro wS hSw; (try dsimp only at hSw); go_simp; (try with_reducible rfl))); try simp only [Act.put, pz1, pz2, pz3]
  refine wpAnyH_take (i := 12) (oi := ⟨some 47, .indexAddr 92 (.tmp 44) (.tmp 46), 0, "ref.go:85", #[⟨9, .data⟩, ⟨11, .data⟩], none⟩) (v := ?_) rfl (by kernel_rfl) (by kernel_rfl) (by kernel_rfl) (fun _ _ _ h => h) (Or.inl ⟨by rfl, ?_⟩) (by assumption) ?_; rotate_left; (· (intro wS hSw; (try dsimp only at hSw); go_simp; (try with_reducible rfl))); try simp only [Act.put, pz1, pz2, pz3]
  refine wpAnyH_take (i := 13) (oi := ⟨some 48, .load 3 (.tmp 47), 3, "ref.go:85", #[⟨12, .data⟩], none⟩) (v := ?_) rfl (by kernel_rfl) (by kernel_rfl) (by kernel_rfl) (fun _ _ _ h => h) (Or.inl ⟨by rfl, ?_⟩) (by assumption) ?_; rotate_left; (· (intro wS hSw; (try dsimp only at hSw); go_simp; (try with_reducible rfl))); try simp only [Act.put, pz1, pz2, pz3]
  refine wpAnyH_ready (rs := [14]) (by kernel_rfl) (by simp) ?_
  refine AllReadyH.cons (o := ⟨some 49, .call { callee := .value (.func 62), args := #[.tmp 38, .tmp 40, .tmp 48], argTypes := #[24, 3, 3] }, 4, "ref.go:85", #[⟨3, .data⟩, ⟨5, .data⟩, ⟨13, .data⟩], none⟩) rfl (fun K hK => ?_) AllReadyH.nil
  go_simp
  (go_at_call 62; ((with_reducible refine (rpfails_b fs Af nf cf _ _ _ _ (by first | exact hC.flt.sl | exact (RefW.drew hC).flt.sl) hC.nf (by omega) HFL).mono ?_); rintro e' wN ⟨rfl, hb⟩; (try have hb := undrew hb); replace hC := RefW.likeB hC hb; replace HT := Tch.thenB HT hb; replace G1 := G1.below hb G1.lt; replace HCC := RefC.below HCC hb; replace cD := cellOf hb cD; replace cX := cellOf hb cX; clear z0 z1; clear y0 y1 y2 y3 y4 y5 y6 y7 y9 y15; have z0 := G1.cell_ 0; have z1 := G1.cell_ 1; simp at z0 z1; have y0 := HCC.y0; have y1 := HCC.y1; have y2 := HCC.y2; have y3 := HCC.y3; have y4 := HCC.y4; have y5 := HCC.y5; have y6 := HCC.y6; have y7 := HCC.y7; have y9 := HCC.y9; have y15 := HCC.y15))
  go_wp2_with fail
  refine hK.out _ _ ?_ (fun hNew => ?_)
  · (first | exact ⟨y5, y9, z0, cD⟩ | assumption)
  clear hK K hHeld
  have hHeld := hNew
  clear hNew
  try simp only [Act.put, pz1, pz2, pz3]
  refine wpAnyH_take (i := 15) (oi := ⟨some 34, .assign (.tmp 49), 4, "ref.go:85", #[⟨14, .data⟩, ⟨14, .chain⟩], none⟩) (v := ?_) rfl (by kernel_rfl) (by kernel_rfl) (by kernel_rfl) (fun _ _ _ h => h) (Or.inl ⟨by rfl, ?_⟩) (by assumption) ?_; rotate_left; (· (intro wS hSw; (try dsimp only at hSw); go_simp; (try with_reducible rfl))); try simp only [Act.put, pz1, pz2, pz3]
  refine wpAnyH_done (by kernel_rfl) ?_ _
  refine NoPanic.normal ?_
  go_upto_region 9 with fail
  refine wp_region_noPanic ?_
  refine wp_region_held_drew (S := (fun w' => w'.cell? ⟨m, 7, none⟩ = some (.slice (some ⟨gN, 0, none⟩) NB NB) ∧ w'.cell? ⟨w.heap.size, 0, none⟩ = some (.int .i64 (k : Int)) ∧ w'.cell? ⟨w.heap.size, 1, none⟩ = some (.int .i64 (l : Int)) ∧ w'.cell? ⟨gN, k, none⟩ = some (.int .i64 v0))) (by kernel_rfl) ?_ (fun hHeld => ?_)
  · (first | exact ⟨y7, z0, z1, cX⟩ | assumption)
  refine wpAnyH_take (i := 0) (oi := ⟨some 51, .fieldAddr 27 (.tmp 4) 1, 0, "ref.go:87", #[], none⟩) (v := ?_) rfl (by kernel_rfl) (by kernel_rfl) (by kernel_rfl) (fun _ _ _ h => h) (Or.inl ⟨by rfl, ?_⟩) (by assumption) ?_; rotate_left; (· (intro wS hSw; (try dsimp only at hSw); go_simp; (try with_reducible rfl))); try simp only [Act.put, pz1, pz2, pz3]
  refine wpAnyH_take (i := 1) (oi := ⟨some 52, .load 3 (.tmp 51), 3, "ref.go:87", #[⟨0, .data⟩], none⟩) (v := ?_) rfl (by kernel_rfl) (by kernel_rfl) (by kernel_rfl) (fun _ _ _ h => h) (Or.inl ⟨by rfl, ?_⟩) (by assumption) ?_; rotate_left; (· (intro wS hSw; (try dsimp only at hSw); go_simp; (try with_reducible rfl))); try simp only [Act.put, pz1, pz2, pz3]
  refine wpAnyH_take (i := 2) (oi := ⟨some 53, .move (.tmp 0), 30, "ref.go:87", #[], none⟩) (v := ?_) rfl (by kernel_rfl) (by kernel_rfl) (by kernel_rfl) (fun _ _ _ h => h) (Or.inl ⟨by rfl, ?_⟩) (by assumption) ?_; rotate_left; (· (intro wS hSw; (try dsimp only at hSw); go_simp; (try with_reducible rfl))); try simp only [Act.put, pz1, pz2, pz3]
  refine wpAnyH_take (i := 3) (oi := ⟨some 54, .nilCheck (.tmp 53), 0, "ref.go:87", #[⟨2, .data⟩], none⟩) (v := ?_) rfl (by kernel_rfl) (by kernel_rfl) (by kernel_rfl) (fun _ _ _ h => h) (Or.inl ⟨by rfl, ?_⟩) (by assumption) ?_; rotate_left; (· (intro wS hSw; (try dsimp only at hSw); go_simp; (try with_reducible rfl))); try simp only [Act.put, pz1, pz2, pz3]
  refine wpAnyH_take (i := 4) (oi := ⟨some 55, .fieldAddr 94 (.tmp 54) 3, 0, "ref.go:87", #[⟨3, .data⟩], none⟩) (v := ?_) rfl (by kernel_rfl) (by kernel_rfl) (by kernel_rfl) (fun _ _ _ h => h) (Or.inl ⟨by rfl, ?_⟩) (by assumption) ?_; rotate_left; (· (intro wS hSw; (try dsimp only at hSw); go_simp; (try with_reducible rfl))); try simp only [Act.put, pz1, pz2, pz3]
  refine wpAnyH_take (i := 5) (oi := ⟨some 56, .load 92 (.tmp 55), 92, "ref.go:87", #[⟨4, .data⟩], none⟩) (v := ?_) rfl (by kernel_rfl) (by kernel_rfl) (by kernel_rfl) (fun _ _ _ h => h) (Or.inl ⟨by rfl, ?_⟩) (by assumption) ?_; rotate_left; (· (intro wS hSw; (try dsimp only at hSw); go_simp; (try with_reducible rfl))); try simp only [Act.put, pz1, pz2, pz3]
  refine wpAnyH_take (i := 6) (oi := ⟨some 57, .fieldAddr 27 (.tmp 4) 0, 0, "ref.go:87", #[], none⟩) (v := ?_) rfl (by kernel_rfl) (by kernel_rfl) (by kernel_rfl) (fun _ _ _ h => h) (Or.inl ⟨by rfl, ?_⟩) (by assumption) ?_; rotate_left; (· (intro wS hSw; (try dsimp only at hSw); go_simp; (try with_reducible rfl))); try simp only [Act.put, pz1, pz2, pz3]
  refine wpAnyH_take (i := 7) (oi := ⟨some 58, .load 3 (.tmp 57), 3, "ref.go:87", #[⟨6, .data⟩], none⟩) (v := ?_) rfl (by kernel_rfl) (by kernel_rfl) (by kernel_rfl) (fun _ _ _ h => h) (Or.inl ⟨by rfl, ?_⟩) (by assumption) ?_; rotate_left; (· (intro wS hSw; (try dsimp only at hSw); go_simp; (try with_reducible rfl))); try simp only [Act.put, pz1, pz2, pz3]
  refine wpAnyH_take (i := 8) (oi := ⟨some 59, .indexAddr 92 (.tmp 56) (.tmp 58), 0, "ref.go:87", #[⟨5, .data⟩, ⟨7, .data⟩], none⟩) (v := ?_) rfl (by kernel_rfl) (by kernel_rfl) (by kernel_rfl) (fun _ _ _ h => h) (Or.inl ⟨by rfl, ?_⟩) (by assumption) ?_; rotate_left; (· (intro wS hSw; (try dsimp only at hSw); go_simp; (try with_reducible rfl))); try simp only [Act.put, pz1, pz2, pz3]
  refine wpAnyH_take (i := 9) (oi := ⟨some 60, .load 3 (.tmp 59), 3, "ref.go:87", #[⟨8, .data⟩], none⟩) (v := ?_) rfl (by kernel_rfl) (by kernel_rfl) (by kernel_rfl) (fun _ _ _ h => h) (Or.inl ⟨by rfl, ?_⟩) (by assumption) ?_; rotate_left; (· (intro wS hSw; (try dsimp only at hSw); go_simp; (try with_reducible rfl))); try simp only [Act.put, pz1, pz2, pz3]
  refine wpAnyH_take (i := 10) (oi := ⟨some 61, .binOp .neq 3 (.tmp 52) (.tmp 60) 3, 4, "ref.go:87", #[⟨1, .data⟩, ⟨9, .data⟩], none⟩) (v := ?_) rfl (by kernel_rfl) (by kernel_rfl) (by kernel_rfl) (fun _ _ _ h => h) (Or.inl ⟨by rfl, ?_⟩) (by assumption) ?_; rotate_left; (· (intro wS hSw; (try dsimp only at hSw); go_simp; (try with_reducible rfl))); try simp only [Act.put, pz1, pz2, pz3]
  refine wpAnyH_take (i := 11) (oi := ⟨some 50, .assign (.tmp 61), 4, "ref.go:87", #[⟨10, .data⟩], none⟩) (v := ?_) rfl (by kernel_rfl) (by kernel_rfl) (by kernel_rfl) (fun _ _ _ h => h) (Or.inl ⟨by rfl, ?_⟩) (by assumption) ?_; rotate_left; (· (intro wS hSw; (try dsimp only at hSw); go_simp; (try with_reducible rfl))); try simp only [Act.put, pz1, pz2, pz3]
  refine wpAnyH_done (by kernel_rfl) ?_ _
  refine NoPanic.normal ?_
  go_upto_region 15 with fail
  refine wp_region_noPanic ?_
  refine wp_region_held_drew (S := (fun w' => w'.cell? ⟨m, 0, none⟩ = some (.int .i64 a) ∧ w'.cell? ⟨m, 1, none⟩ = some (.int .i64 b) ∧ w'.cell? ⟨m, 2, none⟩ = some (.int .i64 c) ∧ w'.cell? ⟨m, 3, none⟩ = some (.int .i64 d) ∧ w'.cell? ⟨m, 4, none⟩ = some (.int .i64 e) ∧ w'.cell? ⟨w.heap.size, 0, none⟩ = some (.int .i64 (k : Int)) ∧ w'.cell? ⟨w.heap.size, 1, none⟩ = some (.int .i64 (l : Int)))) (by kernel_rfl) ?_ (fun hHeld => ?_)
  · (first | exact ⟨y0, y1, y2, y3, y4, z0, z1⟩ | assumption)
  refine wpAnyH_take (i := 0) (oi := ⟨some 74, .move (.tmp 0), 30, "ref.go:95", #[], none⟩) (v := ?_) rfl (by kernel_rfl) (by kernel_rfl) (by kernel_rfl) (fun _ _ _ h => h) (Or.inl ⟨by rfl, ?_⟩) (by assumption) ?_; rotate_left; (· (intro wS hSw; (try dsimp only at hSw); go_simp; (try with_reducible rfl))); try simp only [Act.put, pz1, pz2, pz3]
  refine wpAnyH_take (i := 1) (oi := ⟨some 75, .nilCheck (.tmp 74), 0, "ref.go:95", #[⟨0, .data⟩], none⟩) (v := ?_) rfl (by kernel_rfl) (by kernel_rfl) (by kernel_rfl) (fun _ _ _ h => h) (Or.inl ⟨by rfl, ?_⟩) (by assumption) ?_; rotate_left; (· (intro wS hSw; (try dsimp only at hSw); go_simp; (try with_reducible rfl))); try simp only [Act.put, pz1, pz2, pz3]
  refine wpAnyH_take (i := 2) (oi := ⟨some 76, .fieldAddr 94 (.tmp 75) 0, 0, "ref.go:95", #[⟨1, .data⟩], none⟩) (v := ?_) rfl (by kernel_rfl) (by kernel_rfl) (by kernel_rfl) (fun _ _ _ h => h) (Or.inl ⟨by rfl, ?_⟩) (by assumption) ?_; rotate_left; (· (intro wS hSw; (try dsimp only at hSw); go_simp; (try with_reducible rfl))); try simp only [Act.put, pz1, pz2, pz3]
  refine wpAnyH_take (i := 3) (oi := ⟨some 77, .load 23 (.tmp 76), 23, "ref.go:95", #[⟨2, .data⟩], none⟩) (v := ?_) rfl (by kernel_rfl) (by kernel_rfl) (by kernel_rfl) (fun _ _ _ h => h) (Or.inl ⟨by rfl, ?_⟩) (by assumption) ?_; rotate_left; (· (intro wS hSw; (try dsimp only at hSw); go_simp; (try with_reducible rfl))); try simp only [Act.put, pz1, pz2, pz3]
  refine wpAnyH_take (i := 4) (oi := ⟨some 78, .load 27 (.tmp 4), 27, "ref.go:95", #[], none⟩) (v := ?_) rfl (by kernel_rfl) (by kernel_rfl) (by kernel_rfl) (fun _ _ _ h => h) (Or.inl ⟨by rfl, ?_⟩) (by assumption) ?_; rotate_left; (· (intro wS hSw; (try dsimp only at hSw); go_simp; (try with_reducible rfl))); try simp only [Act.put, pz1, pz2, pz3]
  refine wpAnyH_ready (rs := [5]) (by kernel_rfl) (by simp) ?_
  refine AllReadyH.cons (o := ⟨some 79, .call { callee := .value (.func 23), args := #[.tmp 77, .tmp 78], argTypes := #[23, 27] }, 3, "ref.go:95", #[⟨3, .data⟩, ⟨4, .data⟩], none⟩) rfl (fun K hK => ?_) AllReadyH.nil
  go_simp
  (go_at_call 23; ((with_reducible refine (rnum_c _ _ _ _ _ _ _ N _ HM hnum).mono ?_); rintro e' wN ⟨rfl, hb⟩; (try have hb := undrew hb); (try have hb := undrew hb); replace hC := RefW.likeB hC hb; replace HT := Tch.thenB HT hb; replace G1 := G1.below hb G1.lt; replace HCC := RefC.below HCC hb; replace cD := cellOf hb cD; replace cX := cellOf hb cX; clear z0 z1; clear y0 y1 y2 y3 y4 y5 y6 y7 y9 y15; have z0 := G1.cell_ 0; have z1 := G1.cell_ 1; simp at z0 z1; have y0 := HCC.y0; have y1 := HCC.y1; have y2 := HCC.y2; have y3 := HCC.y3; have y4 := HCC.y4; have y5 := HCC.y5; have y6 := HCC.y6; have y7 := HCC.y7; have y9 := HCC.y9; have y15 := HCC.y15))
  go_wp2_with fail
  refine hK.out _ _ ?_ (fun hNew => ?_)
  · (first | exact ⟨y0, y1, y2, y3, y4, z0, z1⟩ | assumption)
  clear hK K hHeld
  have hHeld := hNew
  clear hNew
  try simp only [Act.put, pz1, pz2, pz3]
  refine wpAnyH_take (i := 6) (oi := ⟨some 10, .assign (.tmp 79), 3, "ref.go:95", #[⟨5, .data⟩, ⟨5, .chain⟩, ⟨0, .phase⟩, ⟨1, .phase⟩, ⟨2, .phase⟩, ⟨3, .phase⟩, ⟨4, .phase⟩, ⟨5, .phase⟩], none⟩) (v := ?_) rfl (by kernel_rfl) (by kernel_rfl) (by kernel_rfl) (fun _ _ _ h => h) (Or.inl ⟨by rfl, ?_⟩) (by assumption) ?_; rotate_left; (· (intro wS hSw; (try dsimp only at hSw); go_simp; (try with_reducible rfl))); try simp only [Act.put, pz1, pz2, pz3]
  refine wpAnyH_done (by kernel_rfl) ?_ _
  refine NoPanic.normal ?_
  (try rw [hmm])
  (try rw [hmm2])
  rw [show (Value.int IntKind.i64 (RW : Int)) = Value.int IntKind.i64 (Q : Int) by rw [HQE.out]]
  obtain ⟨p, cp, HP⟩ := hC.page HRW.out HNAB.out HFIT.out
  have cN := HP.cN
  have j0 : (0 : Int) ≤ (N : Int) := by omega
  have j1 : (N : Int) < (NP : Int) := by have := HCC.hNP.out; have := HNAB.out; omega
  have HRA : Rd wN (some ⟨gA, 0, none⟩) Q 1 ((bs.take Q).map byteV) := row_take (HAR.out.keep (HT.far gA HAR.out.lt hgm)) HBL.out hQR
  have HRP := rd_dropB HP.rd hQR
  have q0 : (0 : Int) ≤ (Q : Int) := by omega
  have q1 : (Q : Int) ≤ (RW : Int) := by omega
  have q1A : (Q : Int) ≤ (cA : Int) := by omega
  have q1B : Q ≤ cA := by omega
  have q2 : RW ≤ cp := HP.cap
  have q3 : cp ≤ maxLen := HP.cap2
  by_cases hcp : cp = Q
  · have hcq : RW - Q = 0 := by omega
    have HRZ : ∀ (A : Option Addr) (w' : World), Rd w' A 0 1 (((s.tick.pageOf N RW).drop Q).map byteV) := fun A w' => ⟨by have := HRP.1; rw [hcq] at this; exact this, Or.inl rfl⟩
    have hcp := hcp.symm
    subst hcp
    go_upto_region 16 with fail
    go_cut [6] (fun s6 wx => s6 = .int .i64 0 ∧ RefW wx m gB gN gW gD L Af nf cf a b c d e fs { s.tick with X := putX s.tick.X (N * RW) (bs.take Q) } ∧ Tch (rfB m gB gN gW gD) w wx ∧ Blk wx w.heap.size 27 #[.int .i64 (k : Int), .int .i64 (l : Int)] ∧ Fresh w wx gB)
    case first =>
      refine wp_region_noPanic ?_
      refine wp_region_held_drew (S := (fun w' => w'.cell? ⟨m, 6, none⟩ = some (.slice (some ⟨gB, 0, none⟩) NP cB))) (by kernel_rfl) ?_ (fun hHeld => ?_)
      · (first | exact y6 | exact y6a | exact y6b | exact y6c | assumption)
      refine wpAnyH_take (i := 0) (oi := ⟨some 80, .move (.tmp 0), 30, "ref.go:96", #[], none⟩) (v := ?_) rfl (by kernel_rfl) (by kernel_rfl) (by kernel_rfl) (fun _ _ _ h => h) (Or.inl ⟨by rfl, ?_⟩) (by assumption) ?_; rotate_left; (· (intro wS hSw; (try dsimp only at hSw); go_simp; (try with_reducible rfl))); try simp only [Act.put, pz1, pz2, pz3]
      refine wpAnyH_take (i := 1) (oi := ⟨some 81, .nilCheck (.tmp 80), 0, "ref.go:96", #[⟨0, .data⟩], none⟩) (v := ?_) rfl (by kernel_rfl) (by kernel_rfl) (by kernel_rfl) (fun _ _ _ h => h) (Or.inl ⟨by rfl, ?_⟩) (by assumption) ?_; rotate_left; (· (intro wS hSw; (try dsimp only at hSw); go_simp; (try with_reducible rfl))); try simp only [Act.put, pz1, pz2, pz3]
      refine wpAnyH_take (i := 2) (oi := ⟨some 82, .fieldAddr 94 (.tmp 81) 2, 0, "ref.go:96", #[⟨1, .data⟩], none⟩) (v := ?_) rfl (by kernel_rfl) (by kernel_rfl) (by kernel_rfl) (fun _ _ _ h => h) (Or.inl ⟨by rfl, ?_⟩) (by assumption) ?_; rotate_left; (· (intro wS hSw; (try dsimp only at hSw); go_simp; (try with_reducible rfl))); try simp only [Act.put, pz1, pz2, pz3]
      refine wpAnyH_take (i := 3) (oi := ⟨some 83, .load 91 (.tmp 82), 91, "ref.go:96", #[⟨2, .data⟩], none⟩) (v := ?_) rfl (by kernel_rfl) (by kernel_rfl) (by kernel_rfl) (fun _ _ _ h => h) (Or.inl ⟨by rfl, ?_⟩) (by assumption) ?_; rotate_left; (· (intro wS hSw; (try dsimp only at hSw); go_simp; (try with_reducible rfl))); try simp only [Act.put, pz1, pz2, pz3]
      refine wpAnyH_take (i := 4) (oi := ⟨some 84, .move (.tmp 10), 3, "ref.go:96", #[], none⟩) (v := ?_) rfl (by kernel_rfl) (by kernel_rfl) (by kernel_rfl) (fun _ _ _ h => h) (Or.inl ⟨by rfl, ?_⟩) (by assumption) ?_; rotate_left; (· (intro wS hSw; (try dsimp only at hSw); go_simp; (try with_reducible rfl))); try simp only [Act.put, pz1, pz2, pz3]
      refine wpAnyH_take (i := 5) (oi := ⟨some 85, .move (.tmp 2), 38, "ref.go:96", #[], none⟩) (v := ?_) rfl (by kernel_rfl) (by kernel_rfl) (by kernel_rfl) (fun _ _ _ h => h) (Or.inl ⟨by rfl, ?_⟩) (by assumption) ?_; rotate_left; (· (intro wS hSw; (try dsimp only at hSw); go_simp; (try with_reducible rfl))); try simp only [Act.put, pz1, pz2, pz3]
      refine wpAnyH_take (i := 6) (oi := ⟨some 86, .move (.tmp 9), 3, "ref.go:96", #[], none⟩) (v := ?_) rfl (by kernel_rfl) (by kernel_rfl) (by kernel_rfl) (fun _ _ _ h => h) (Or.inl ⟨by rfl, ?_⟩) (by assumption) ?_; rotate_left; (· (intro wS hSw; (try dsimp only at hSw); go_simp; (try with_reducible rfl))); try simp only [Act.put, pz1, pz2, pz3]
      refine wpAnyH_take (i := 7) (oi := ⟨some 87, .slice 38 (.tmp 85) none (some (.tmp 86)) none, 38, "ref.go:96", #[⟨5, .data⟩, ⟨6, .data⟩], none⟩) (v := ?_) rfl (by kernel_rfl) (by kernel_rfl) (by kernel_rfl) (fun _ _ _ h => h) (Or.inl ⟨by rfl, ?_⟩) (by assumption) ?_; rotate_left; (· (intro wS hSw; (try dsimp only at hSw); go_simp; (try with_reducible rfl))); try simp only [Act.put, pz1, pz2, pz3]
      refine wpAnyH_take (i := 9) (oi := ⟨some 89, .move (.tmp 0), 30, "ref.go:96", #[], none⟩) (v := ?_) rfl (by kernel_rfl) (by kernel_rfl) (by kernel_rfl) (fun _ _ _ h => h) (Or.inl ⟨by rfl, ?_⟩) (by assumption) ?_; rotate_left; (· (intro wS hSw; (try dsimp only at hSw); go_simp; (try with_reducible rfl))); try simp only [Act.put, pz1, pz2, pz3]
      refine wpAnyH_take (i := 10) (oi := ⟨some 90, .nilCheck (.tmp 89), 0, "ref.go:96", #[⟨9, .data⟩], none⟩) (v := ?_) rfl (by kernel_rfl) (by kernel_rfl) (by kernel_rfl) (fun _ _ _ h => h) (Or.inl ⟨by rfl, ?_⟩) (by assumption) ?_; rotate_left; (· (intro wS hSw; (try dsimp only at hSw); go_simp; (try with_reducible rfl))); try simp only [Act.put, pz1, pz2, pz3]
      refine wpAnyH_take (i := 11) (oi := ⟨some 91, .fieldAddr 94 (.tmp 90) 2, 0, "ref.go:96", #[⟨10, .data⟩], none⟩) (v := ?_) rfl (by kernel_rfl) (by kernel_rfl) (by kernel_rfl) (fun _ _ _ h => h) (Or.inl ⟨by rfl, ?_⟩) (by assumption) ?_; rotate_left; (· (intro wS hSw; (try dsimp only at hSw); go_simp; (try with_reducible rfl))); try simp only [Act.put, pz1, pz2, pz3]
      refine wpAnyH_take (i := 12) (oi := ⟨some 92, .load 91 (.tmp 91), 91, "ref.go:96", #[⟨11, .data⟩], none⟩) (v := ?_) rfl (by kernel_rfl) (by kernel_rfl) (by kernel_rfl) (fun _ _ _ h => h) (Or.inl ⟨by rfl, ?_⟩) (by assumption) ?_; rotate_left; (· (intro wS hSw; (try dsimp only at hSw); go_simp; (try with_reducible rfl))); try simp only [Act.put, pz1, pz2, pz3]
      refine wpAnyH_take (i := 13) (oi := ⟨some 93, .move (.tmp 10), 3, "ref.go:96", #[], none⟩) (v := ?_) rfl (by kernel_rfl) (by kernel_rfl) (by kernel_rfl) (fun _ _ _ h => h) (Or.inl ⟨by rfl, ?_⟩) (by assumption) ?_; rotate_left; (· (intro wS hSw; (try dsimp only at hSw); go_simp; (try with_reducible rfl))); try simp only [Act.put, pz1, pz2, pz3]
      refine wpAnyH_take (i := 14) (oi := ⟨some 94, .indexAddr 91 (.tmp 92) (.tmp 93), 0, "ref.go:96", #[⟨12, .data⟩, ⟨13, .data⟩], none⟩) (v := ?_) rfl (by kernel_rfl) (by kernel_rfl) (by kernel_rfl) (fun _ _ _ h => h) (Or.inl ⟨by rfl, ?_⟩) (by assumption) ?_; rotate_left; (· (intro wS hSw; (try dsimp only at hSw); go_simp; (try with_reducible rfl))); try simp only [Act.put, pz1, pz2, pz3]
      refine wpAnyH_take (i := 16) (oi := ⟨some 96, .move (.tmp 9), 3, "ref.go:96", #[], none⟩) (v := ?_) rfl (by kernel_rfl) (by kernel_rfl) (by kernel_rfl) (fun _ _ _ h => h) (Or.inl ⟨by rfl, ?_⟩) (by assumption) ?_; rotate_left; (· (intro wS hSw; (try dsimp only at hSw); go_simp; (try with_reducible rfl))); try simp only [Act.put, pz1, pz2, pz3]
      refine wpAnyH_ready (rs := [8, 15]) (by kernel_rfl) (by simp) ?_
      refine (AllReadyH.cons (o := ⟨some 88, .call { callee := .builtin .append, args := #[.const (.slice none 0 0), .tmp 87], argTypes := #[38, 38] }, 38, "ref.go:96", #[⟨7, .data⟩], none⟩) rfl (fun K hK => ?_) (AllReadyH.cons (o := ⟨some 95, .load 38 (.tmp 94), 38, "ref.go:96", #[⟨14, .data⟩], none⟩) rfl (fun K hK => ?_) AllReadyH.nil))
      · obtain ⟨ti0, hi, hz0, hz1, hz2⟩ := info_parts infoByte
        refine step_app _ rfl (.const (.slice none 0 0)) (.tmp 87) _ rfl wN.heap.size 5 ti0 _ 1 1 Try.underlying38 hi hz0 hz1 hz2 rfl (by decide) (.slice none 0 0) 0 [] rfl (World.ownsRow_nil _ _ _ _) (some ⟨gA, 0, none⟩) Q cA ((bs.take Q).map byteV) rfl (HRA.keep (fun b o e j => rfl)) (oneB _) (by unfold maxLen; omega) (by omega) (Nat.le_refl _) ?_
        intro v8 w8 ho8 hg8 hv8
        clear hi hz0 hz1 hz2
        have hb8 : Below wN.heap.size wN w8 := undrew ((Below.refl _ _).grown hg8 (Nat.le_refl _) (fun j hj => by simp [Value.ownBlock] at hj))
        have y6a := cellOf hb8 y6
        have cNa := cellOf hb8 cN
        clear hg8 hv8
        refine hK.out _ _ ?_ (fun hNew => ?_)
        · (first | exact y6 | exact y6a | exact y6b | exact y6c | assumption)
        clear hK K hHeld
        have hHeld := hNew
        clear hNew
        try simp only [Act.put, pz1, pz2, pz3]
        refine wpAnyH_ready (rs := [15]) (by kernel_rfl) (by simp) ?_
        refine AllReadyH.cons (o := ⟨some 95, .load 38 (.tmp 94), 38, "ref.go:96", #[⟨14, .data⟩], none⟩) rfl (fun K hK => ?_) AllReadyH.nil
        go_simp
        refine hK.out _ _ ?_ (fun hNew => ?_)
        · (first | exact y6 | exact y6a | exact y6b | exact y6c | assumption)
        clear hK K hHeld
        have hHeld := hNew
        clear hNew
        try simp only [Act.put, pz1, pz2, pz3]
        refine wpAnyH_take (i := 17) (oi := ⟨some 97, .slice 38 (.tmp 95) (some (.tmp 96)) none none, 38, "ref.go:96", #[⟨15, .data⟩, ⟨16, .data⟩], none⟩) (v := ?_) rfl (by kernel_rfl) (by kernel_rfl) (by kernel_rfl) (fun _ _ _ h => h) (Or.inl ⟨by rfl, ?_⟩) (by assumption) ?_; rotate_left; (· (intro wS hSw; (try dsimp only at hSw); go_simp; (try with_reducible rfl))); try simp only [Act.put, pz1, pz2, pz3]
        refine wpAnyH_ready (rs := [18]) (by kernel_rfl) (by simp) ?_
        refine AllReadyH.cons (o := ⟨some 98, .call { callee := .builtin .append, args := #[.tmp 88, .tmp 97], argTypes := #[38, 38] }, 38, "ref.go:96", #[⟨8, .data⟩, ⟨17, .data⟩, ⟨8, .chain⟩], none⟩) rfl (fun K hK => ?_) AllReadyH.nil
        obtain ⟨ti0, hi, hz0, hz1, hz2⟩ := info_parts infoByte
        refine step_app _ rfl (.tmp 88) (.tmp 97) _ rfl wN.heap.size 5 ti0 _ 1 1 Try.underlying38 hi hz0 hz1 hz2 rfl (by decide) v8 _ _ rfl ho8 _ _ _ (((s.tick.pageOf N RW).drop Q).map byteV) rfl (HRZ _ _) (oneB _) (by unfold maxLen; omega) (by omega) hb8.size ?_
        intro v18 w18 ho18 hg18 hv18
        clear hi hz0 hz1 hz2
        have hb18 : Below wN.heap.size wN w18 := hb8.trans (below_app (Nat.le_refl _) hb8.size ho8 hg18)
        have ho19 := own_lenR (by omega : 0 + Q + 0 = RW) ho18
        rw [List.nil_append] at ho19
        obtain ⟨g9, c9, rfl, hR9, hge9, hc91, hc92⟩ := own_rowC ho19 (by omega)
        have y6b := cellOf hb18 y6
        have cNb := cellOf hb18 cN
        have hC18 := RefW.below hC hb18
        have fB18 := hC18.freeB
        clear hg18 hv18 ho18 ho19 ho8
        refine hK.out _ _ ?_ (fun hNew => ?_)
        · (first | exact y6 | exact y6a | exact y6b | exact y6c | assumption)
        clear hK K hHeld
        have hHeld := hNew
        clear hNew
        try simp only [Act.put, pz1, pz2, pz3]
        refine wpAnyH_take (i := 19) (oi := ⟨some 99, .indexAddr 91 (.tmp 83) (.tmp 84), 0, "ref.go:96", #[⟨3, .data⟩, ⟨4, .data⟩, ⟨0, .phase⟩, ⟨1, .phase⟩, ⟨2, .phase⟩, ⟨3, .phase⟩, ⟨4, .phase⟩, ⟨5, .phase⟩, ⟨6, .phase⟩, ⟨7, .phase⟩, ⟨8, .phase⟩, ⟨9, .phase⟩, ⟨10, .phase⟩, ⟨11, .phase⟩, ⟨12, .phase⟩, ⟨13, .phase⟩, ⟨14, .phase⟩, ⟨15, .phase⟩, ⟨16, .phase⟩, ⟨17, .phase⟩, ⟨18, .phase⟩], none⟩) (v := ?_) rfl (by kernel_rfl) (by kernel_rfl) (by kernel_rfl) (fun _ _ _ h => h) (Or.inl ⟨by rfl, ?_⟩) (by assumption) ?_; rotate_left; (· (intro wS hSw; (try dsimp only at hSw); go_simp; (try with_reducible rfl))); try simp only [Act.put, pz1, pz2, pz3]
        refine wpAnyH_ready (rs := [20]) (by kernel_rfl) (by simp) ?_
        refine AllReadyH.cons (o := ⟨none, .store 38 (.tmp 99) (.tmp 98), 0, "ref.go:96", #[⟨19, .data⟩, ⟨18, .data⟩, ⟨18, .chain⟩, ⟨0, .phase⟩, ⟨1, .phase⟩, ⟨2, .phase⟩, ⟨3, .phase⟩, ⟨4, .phase⟩, ⟨5, .phase⟩, ⟨6, .phase⟩, ⟨7, .phase⟩, ⟨8, .phase⟩, ⟨9, .phase⟩, ⟨10, .phase⟩, ⟨11, .phase⟩, ⟨12, .phase⟩, ⟨13, .phase⟩, ⟨14, .phase⟩, ⟨15, .phase⟩, ⟨16, .phase⟩, ⟨17, .phase⟩, ⟨18, .phase⟩], none⟩) rfl (fun K hK => ?_) AllReadyH.nil
        go_simp
        have y6c : (w18.setCell ⟨gB, N, none⟩ (.slice (some ⟨g9, 0, none⟩) RW c9)).cell? ⟨m, 6, none⟩ = some (.slice (some ⟨gB, 0, none⟩) NP cB) := (World.cell?_of_block (w := w18) ((Tch.setm w18 gB N (.slice (some ⟨g9, 0, none⟩) RW c9)).far m hC18.lt (fun e => hC18.ne.1.1 e))).trans y6b
        refine hK.out _ _ ?_ (fun hNew => ?_)
        · (first | exact y6 | exact y6a | exact y6b | exact y6c | assumption)
        clear hK K hHeld
        have hHeld := hNew
        clear hNew
        try simp only [Act.put, pz1, pz2, pz3]
        refine wpAnyH_done (by kernel_rfl) ?_ _
        refine NoPanic.normal ?_
        go_wp2_with fail
        go_meet
        have hRR : RowT w18 g9 5 ((bs.take Q ++ (s.tick.pageOf N RW).drop (bs.take Q).length).map byteV) := by
          rw [List.map_append, List.length_take, HBL.out, Nat.min_eq_left HQ.out]
          exact hR9
        have hSP := RefW.setPage hC18 hRR (by have := hC.ge m (Or.inl rfl); have := hC.lt; omega) (fun e => by have := hC.lts g9 e; omega) hc91 hc92 HRW.out (by rw [List.length_take]; omega) HNAB.out HFIT.out
        have hTS := Tch.setm w18 gB N (.slice (some ⟨g9, 0, none⟩) RW c9)
        have hTF : Tch (rfB m gB gN gW gD) w (w18.setCell ⟨gB, N, none⟩ (.slice (some ⟨g9, 0, none⟩) RW c9)) := ((tch_r HT).then hb18).trans (hTS.mono (fun g e => Or.inr (Or.inl e)))
        have hGF := hTS.blk (G1.below hb18 G1.lt) (fun e => by have := hC0L.out gB (Or.inr (Or.inl rfl)); omega)
        have hFF : Fresh w (w18.setCell ⟨gB, N, none⟩ (.slice (some ⟨g9, 0, none⟩) RW c9)) gB := Fresh.put ((hb18.block gB (Nat.lt_of_lt_of_le (hC0L.out gB (Or.inr (Or.inl rfl))) HT.size)).trans (HT.far gB (hC0L.out gB (Or.inr (Or.inl rfl))) (fun e => hC.ne.1.1 e.symm))) hC18.blkB (Nat.le_trans HT.size hge9)
        exact ⟨rfl, hSP, hTF, hGF, hFF⟩
      · go_simp
        refine hK.out _ _ ?_ (fun hNew => ?_)
        · (first | exact y6 | exact y6a | exact y6b | exact y6c | assumption)
        clear hK K hHeld
        have hHeld := hNew
        clear hNew
        try simp only [Act.put, pz1, pz2, pz3]
        refine wpAnyH_take (i := 17) (oi := ⟨some 97, .slice 38 (.tmp 95) (some (.tmp 96)) none none, 38, "ref.go:96", #[⟨15, .data⟩, ⟨16, .data⟩], none⟩) (v := ?_) rfl (by kernel_rfl) (by kernel_rfl) (by kernel_rfl) (fun _ _ _ h => h) (Or.inl ⟨by rfl, ?_⟩) (by assumption) ?_; rotate_left; (· (intro wS hSw; (try dsimp only at hSw); go_simp; (try with_reducible rfl))); try simp only [Act.put, pz1, pz2, pz3]
        refine wpAnyH_ready (rs := [8]) (by kernel_rfl) (by simp) ?_
        refine AllReadyH.cons (o := ⟨some 88, .call { callee := .builtin .append, args := #[.const (.slice none 0 0), .tmp 87], argTypes := #[38, 38] }, 38, "ref.go:96", #[⟨7, .data⟩], none⟩) rfl (fun K hK => ?_) AllReadyH.nil
        obtain ⟨ti0, hi, hz0, hz1, hz2⟩ := info_parts infoByte
        refine step_app _ rfl (.const (.slice none 0 0)) (.tmp 87) _ rfl wN.heap.size 5 ti0 _ 1 1 Try.underlying38 hi hz0 hz1 hz2 rfl (by decide) (.slice none 0 0) 0 [] rfl (World.ownsRow_nil _ _ _ _) (some ⟨gA, 0, none⟩) Q cA ((bs.take Q).map byteV) rfl (HRA.keep (fun b o e j => rfl)) (oneB _) (by unfold maxLen; omega) (by omega) (Nat.le_refl _) ?_
        intro v8 w8 ho8 hg8 hv8
        clear hi hz0 hz1 hz2
        have hb8 : Below wN.heap.size wN w8 := undrew ((Below.refl _ _).grown hg8 (Nat.le_refl _) (fun j hj => by simp [Value.ownBlock] at hj))
        have y6a := cellOf hb8 y6
        have cNa := cellOf hb8 cN
        clear hg8 hv8
        refine hK.out _ _ ?_ (fun hNew => ?_)
        · (first | exact y6 | exact y6a | exact y6b | exact y6c | assumption)
        clear hK K hHeld
        have hHeld := hNew
        clear hNew
        try simp only [Act.put, pz1, pz2, pz3]
        refine wpAnyH_ready (rs := [18]) (by kernel_rfl) (by simp) ?_
        refine AllReadyH.cons (o := ⟨some 98, .call { callee := .builtin .append, args := #[.tmp 88, .tmp 97], argTypes := #[38, 38] }, 38, "ref.go:96", #[⟨8, .data⟩, ⟨17, .data⟩, ⟨8, .chain⟩], none⟩) rfl (fun K hK => ?_) AllReadyH.nil
        obtain ⟨ti0, hi, hz0, hz1, hz2⟩ := info_parts infoByte
        refine step_app _ rfl (.tmp 88) (.tmp 97) _ rfl wN.heap.size 5 ti0 _ 1 1 Try.underlying38 hi hz0 hz1 hz2 rfl (by decide) v8 _ _ rfl ho8 _ _ _ (((s.tick.pageOf N RW).drop Q).map byteV) rfl (HRZ _ _) (oneB _) (by unfold maxLen; omega) (by omega) hb8.size ?_
        intro v18 w18 ho18 hg18 hv18
        clear hi hz0 hz1 hz2
        have hb18 : Below wN.heap.size wN w18 := hb8.trans (below_app (Nat.le_refl _) hb8.size ho8 hg18)
        have ho19 := own_lenR (by omega : 0 + Q + 0 = RW) ho18
        rw [List.nil_append] at ho19
        obtain ⟨g9, c9, rfl, hR9, hge9, hc91, hc92⟩ := own_rowC ho19 (by omega)
        have y6b := cellOf hb18 y6
        have cNb := cellOf hb18 cN
        have hC18 := RefW.below hC hb18
        have fB18 := hC18.freeB
        clear hg18 hv18 ho18 ho19 ho8
        refine hK.out _ _ ?_ (fun hNew => ?_)
        · (first | exact y6 | exact y6a | exact y6b | exact y6c | assumption)
        clear hK K hHeld
        have hHeld := hNew
        clear hNew
        try simp only [Act.put, pz1, pz2, pz3]
        refine wpAnyH_take (i := 19) (oi := ⟨some 99, .indexAddr 91 (.tmp 83) (.tmp 84), 0, "ref.go:96", #[⟨3, .data⟩, ⟨4, .data⟩, ⟨0, .phase⟩, ⟨1, .phase⟩, ⟨2, .phase⟩, ⟨3, .phase⟩, ⟨4, .phase⟩, ⟨5, .phase⟩, ⟨6, .phase⟩, ⟨7, .phase⟩, ⟨8, .phase⟩, ⟨9, .phase⟩, ⟨10, .phase⟩, ⟨11, .phase⟩, ⟨12, .phase⟩, ⟨13, .phase⟩, ⟨14, .phase⟩, ⟨15, .phase⟩, ⟨16, .phase⟩, ⟨17, .phase⟩, ⟨18, .phase⟩], none⟩) (v := ?_) rfl (by kernel_rfl) (by kernel_rfl) (by kernel_rfl) (fun _ _ _ h => h) (Or.inl ⟨by rfl, ?_⟩) (by assumption) ?_; rotate_left; (· (intro wS hSw; (try dsimp only at hSw); go_simp; (try with_reducible rfl))); try simp only [Act.put, pz1, pz2, pz3]
        refine wpAnyH_ready (rs := [20]) (by kernel_rfl) (by simp) ?_
        refine AllReadyH.cons (o := ⟨none, .store 38 (.tmp 99) (.tmp 98), 0, "ref.go:96", #[⟨19, .data⟩, ⟨18, .data⟩, ⟨18, .chain⟩, ⟨0, .phase⟩, ⟨1, .phase⟩, ⟨2, .phase⟩, ⟨3, .phase⟩, ⟨4, .phase⟩, ⟨5, .phase⟩, ⟨6, .phase⟩, ⟨7, .phase⟩, ⟨8, .phase⟩, ⟨9, .phase⟩, ⟨10, .phase⟩, ⟨11, .phase⟩, ⟨12, .phase⟩, ⟨13, .phase⟩, ⟨14, .phase⟩, ⟨15, .phase⟩, ⟨16, .phase⟩, ⟨17, .phase⟩, ⟨18, .phase⟩], none⟩) rfl (fun K hK => ?_) AllReadyH.nil
        go_simp
        have y6c : (w18.setCell ⟨gB, N, none⟩ (.slice (some ⟨g9, 0, none⟩) RW c9)).cell? ⟨m, 6, none⟩ = some (.slice (some ⟨gB, 0, none⟩) NP cB) := (World.cell?_of_block (w := w18) ((Tch.setm w18 gB N (.slice (some ⟨g9, 0, none⟩) RW c9)).far m hC18.lt (fun e => hC18.ne.1.1 e))).trans y6b
        refine hK.out _ _ ?_ (fun hNew => ?_)
        · (first | exact y6 | exact y6a | exact y6b | exact y6c | assumption)
        clear hK K hHeld
        have hHeld := hNew
        clear hNew
        try simp only [Act.put, pz1, pz2, pz3]
        refine wpAnyH_done (by kernel_rfl) ?_ _
        refine NoPanic.normal ?_
        go_wp2_with fail
        go_meet
        have hRR : RowT w18 g9 5 ((bs.take Q ++ (s.tick.pageOf N RW).drop (bs.take Q).length).map byteV) := by
          rw [List.map_append, List.length_take, HBL.out, Nat.min_eq_left HQ.out]
          exact hR9
        have hSP := RefW.setPage hC18 hRR (by have := hC.ge m (Or.inl rfl); have := hC.lt; omega) (fun e => by have := hC.lts g9 e; omega) hc91 hc92 HRW.out (by rw [List.length_take]; omega) HNAB.out HFIT.out
        have hTS := Tch.setm w18 gB N (.slice (some ⟨g9, 0, none⟩) RW c9)
        have hTF : Tch (rfB m gB gN gW gD) w (w18.setCell ⟨gB, N, none⟩ (.slice (some ⟨g9, 0, none⟩) RW c9)) := ((tch_r HT).then hb18).trans (hTS.mono (fun g e => Or.inr (Or.inl e)))
        have hGF := hTS.blk (G1.below hb18 G1.lt) (fun e => by have := hC0L.out gB (Or.inr (Or.inl rfl)); omega)
        have hFF : Fresh w (w18.setCell ⟨gB, N, none⟩ (.slice (some ⟨g9, 0, none⟩) RW c9)) gB := Fresh.put ((hb18.block gB (Nat.lt_of_lt_of_le (hC0L.out gB (Or.inr (Or.inl rfl))) HT.size)).trans (HT.far gB (hC0L.out gB (Or.inr (Or.inl rfl))) (fun e => hC.ne.1.1 e.symm))) hC18.blkB (Nat.le_trans HT.size hge9)
        exact ⟨rfl, hSP, hTF, hGF, hFF⟩
    case rest =>
    clear hC HT G1 HCC cD cX cN HP HRA HRP z0 z1 y0 y1 y2 y3 y4 y5 y6 y7 y9 y15
    obtain ⟨rfl, hC, HT, G1, HFr⟩ := hcut
    obtain ⟨w6, rfl⟩ : ∃ W : World, W = wc := ⟨_, rfl⟩
    obtain ⟨S0, hS0⟩ : ∃ S0 : ChS, S0 = { s.tick with X := putX s.tick.X (N * RW) (bs.take Q) } := ⟨_, rfl⟩
    rw [← hS0] at hC
    have hk00 : S0.k (k : Int) 0 = v0 := by rw [hS0]; exact HV0.out
    have hk02 : S0.k (k : Int) 2 = v2 := by rw [hS0]; exact HV2.out
    have HS0 := Lib.hid hS0
    clear hS0
    go_upto_region 17 with fail
    obtain ⟨NP0, NB0, RWc0, cB0, HCC⟩ := hC.cells
    have y7 := HCC.y7
    have cz := HCC.n0 k (by have := HCC.hNB.out; have := HK.out; omega)
    rw [hk00] at cz
    have fz := hC.freeN
    have z0 := G1.cell_ 0
    simp at z0
    have i0 : (0 : Int) ≤ (k : Int) := by omega
    have i1 : (k : Int) < (NB0 : Int) := by have := HCC.hNB.out; have := HK.out; omega
    have hwr : IntKind.i64.wrap (v0 + 1) = v0 + 1 := wrapS _ (by omega) (by omega)
    clear HCC
    go_still_tail 10, (by kernel_rfl)
    change wpList _ _ _ _ _ w6.drew
    go_wp2_with fail
    have hS := RefW.set0 hC HK.out (v0 + 1)
    have hSd := RefW.drew hS
    have hT1 := Tch.setm w6 gN k (.int .i64 (v0 + 1))
    have hTd : Tch (rfB m gB gN gW gD) w ((w6.setCell ⟨gN, k, none⟩ (.int .i64 (v0 + 1))).drew) := (HT.trans (hT1.mono (fun g e => Or.inr (Or.inr (Or.inl e))))).like
    have hG : Blk ((w6.setCell ⟨gN, k, none⟩ (.int .i64 (v0 + 1))).drew) w.heap.size 27 #[.int .i64 (k : Int), .int .i64 (l : Int)] := G1.far (p := ⟨gN, k, none⟩) (fun e => by have := hC0L.out w.heap.size (Or.inr (Or.inr (Or.inl e))); omega) _
    have hFd : Fresh w ((w6.setCell ⟨gN, k, none⟩ (.int .i64 (v0 + 1))).drew) gB := Fresh.then HFr (hT1.far gB (hC.lts gB (Or.inr (Or.inl rfl))) (fun e => hC.ne.2.1.1 e))
    clear HT hC G1 z0 y7 cz fz hS hwr hT1 i1 HFr
    generalize (w6.setCell ⟨gN, k, none⟩ (.int .i64 (v0 + 1))).drew = w7 at hSd hTd hG hFd ⊢
    have hC := hSd
    have HT := hTd
    have G1 := hG
    have HFr := hFd
    clear hSd hTd hG hFd
    obtain ⟨S1, hS1⟩ : ∃ S1 : ChS, S1 = { S0 with K := S0.K.set (k * 3 + 0) (v0 + 1) } := ⟨_, rfl⟩
    rw [← hS1] at hC
    have hk12 : S1.k (k : Int) 2 = v2 := by
      rw [hS1, ← hk02]
      unfold ChS.k
      dsimp only
      rw [Int.toNat_natCast, getD_setN, if_neg (by omega)]
    have HS1 := Lib.hid hS1
    clear hS1
    go_upto_region 19 with fail
    obtain ⟨NP2, NB2, RWc2, cB2, HCC⟩ := hC.cells
    have y9 := HCC.y9
    have cz := HCC.n2 k (by have := HCC.hNB.out; have := HK.out; omega)
    rw [hk12] at cz
    have fz := hC.freeD
    have z0 := G1.cell_ 0
    simp at z0
    have i0 : (0 : Int) ≤ (k : Int) := by omega
    have i1 : (k : Int) < (NB2 : Int) := by have := HCC.hNB.out; have := HK.out; omega
    have hwr : IntKind.i64.wrap (v2 + 1) = v2 + 1 := wrapS _ (by omega) (by omega)
    clear HCC
    go_still_tail 10, (by kernel_rfl)
    change wpList _ _ _ _ _ w7.drew
    go_wp2_with fail
    have hS := RefW.set2 hC HK.out (v2 + 1)
    have hSd := RefW.drew hS
    have hT1 := Tch.setm w7 gD k (.int .i64 (v2 + 1))
    have hTd : Tch (rfB m gB gN gW gD) w ((w7.setCell ⟨gD, k, none⟩ (.int .i64 (v2 + 1))).drew) := (HT.trans (hT1.mono (fun g e => Or.inr (Or.inr (Or.inr (Or.inr e)))))).like
    have hG : Blk ((w7.setCell ⟨gD, k, none⟩ (.int .i64 (v2 + 1))).drew) w.heap.size 27 #[.int .i64 (k : Int), .int .i64 (l : Int)] := G1.far (p := ⟨gD, k, none⟩) (fun e => by have := hC0L.out w.heap.size (Or.inr (Or.inr (Or.inr (Or.inr e)))); omega) _
    have hFd : Fresh w ((w7.setCell ⟨gD, k, none⟩ (.int .i64 (v2 + 1))).drew) gB := Fresh.then HFr (hT1.far gB (hC.lts gB (Or.inr (Or.inl rfl))) (fun e => hC.ne.2.1.2.2 e))
    clear HT hC G1 z0 y9 cz fz hS hwr hT1 i1 HFr
    generalize (w7.setCell ⟨gD, k, none⟩ (.int .i64 (v2 + 1))).drew = w8 at hSd hTd hG hFd ⊢
    have hC := hSd
    have HT := hTd
    have G1 := hG
    have HFr := hFd
    clear hSd hTd hG hFd
    go_wp2_with fail
    go_ret
    have hfin : ({ S1 with K := S1.K.set (k * 3 + 2) (v2 + 1) } : ChS) = s.prog k N RW bs := by
      have hbt : bs.take Q = bs := List.take_of_length_le (by have := HBL.out; have := HQE.out; omega)
      rw [← hk12, HS1.out, ← hk00, HS0.out, hbt]
      unfold ChS.prog ChS.inc
      rw [tick_X]
    rw [← hfin]
    exact ⟨rfl, hC, HT, HFr⟩
  go_upto_region 16 with fail
  go_cut [6] (fun s6 wx => s6 = .int .i64 0 ∧ RefW wx m gB gN gW gD L Af nf cf a b c d e fs { s.tick with X := putX s.tick.X (N * RW) (bs.take Q) } ∧ Tch (rfB m gB gN gW gD) w wx ∧ Blk wx w.heap.size 27 #[.int .i64 (k : Int), .int .i64 (l : Int)] ∧ Fresh w wx gB)
  case first =>
    refine wp_region_noPanic ?_
    refine wp_region_held_drew (S := (fun w' => w'.cell? ⟨m, 6, none⟩ = some (.slice (some ⟨gB, 0, none⟩) NP cB))) (by kernel_rfl) ?_ (fun hHeld => ?_)
    · (first | exact y6 | exact y6a | exact y6b | exact y6c | assumption)
    refine wpAnyH_take (i := 0) (oi := ⟨some 80, .move (.tmp 0), 30, "ref.go:96", #[], none⟩) (v := ?_) rfl (by kernel_rfl) (by kernel_rfl) (by kernel_rfl) (fun _ _ _ h => h) (Or.inl ⟨by rfl, ?_⟩) (by assumption) ?_; rotate_left; (· (intro wS hSw; (try dsimp only at hSw); go_simp; (try with_reducible rfl))); try simp only [Act.put, pz1, pz2, pz3]
    refine wpAnyH_take (i := 1) (oi := ⟨some 81, .nilCheck (.tmp 80), 0, "ref.go:96", #[⟨0, .data⟩], none⟩) (v := ?_) rfl (by kernel_rfl) (by kernel_rfl) (by kernel_rfl) (fun _ _ _ h => h) (Or.inl ⟨by rfl, ?_⟩) (by assumption) ?_; rotate_left; (· (intro wS hSw; (try dsimp only at hSw); go_simp; (try with_reducible rfl))); try simp only [Act.put, pz1, pz2, pz3]
    refine wpAnyH_take (i := 2) (oi := ⟨some 82, .fieldAddr 94 (.tmp 81) 2, 0, "ref.go:96", #[⟨1, .data⟩], none⟩) (v := ?_) rfl (by kernel_rfl) (by kernel_rfl) (by kernel_rfl) (fun _ _ _ h => h) (Or.inl ⟨by rfl, ?_⟩) (by assumption) ?_; rotate_left; (· (intro wS hSw; (try dsimp only at hSw); go_simp; (try with_reducible rfl))); try simp only [Act.put, pz1, pz2, pz3]
    refine wpAnyH_take (i := 3) (oi := ⟨some 83, .load 91 (.tmp 82), 91, "ref.go:96", #[⟨2, .data⟩], none⟩) (v := ?_) rfl (by kernel_rfl) (by kernel_rfl) (by kernel_rfl) (fun _ _ _ h => h) (Or.inl ⟨by rfl, ?_⟩) (by assumption) ?_; rotate_left; (· (intro wS hSw; (try dsimp only at hSw); go_simp; (try with_reducible rfl))); try simp only [Act.put, pz1, pz2, pz3]
    refine wpAnyH_take (i := 4) (oi := ⟨some 84, .move (.tmp 10), 3, "ref.go:96", #[], none⟩) (v := ?_) rfl (by kernel_rfl) (by kernel_rfl) (by kernel_rfl) (fun _ _ _ h => h) (Or.inl ⟨by rfl, ?_⟩) (by assumption) ?_; rotate_left; (· (intro wS hSw; (try dsimp only at hSw); go_simp; (try with_reducible rfl))); try simp only [Act.put, pz1, pz2, pz3]
    refine wpAnyH_take (i := 5) (oi := ⟨some 85, .move (.tmp 2), 38, "ref.go:96", #[], none⟩) (v := ?_) rfl (by kernel_rfl) (by kernel_rfl) (by kernel_rfl) (fun _ _ _ h => h) (Or.inl ⟨by rfl, ?_⟩) (by assumption) ?_; rotate_left; (· (intro wS hSw; (try dsimp only at hSw); go_simp; (try with_reducible rfl))); try simp only [Act.put, pz1, pz2, pz3]
    refine wpAnyH_take (i := 6) (oi := ⟨some 86, .move (.tmp 9), 3, "ref.go:96", #[], none⟩) (v := ?_) rfl (by kernel_rfl) (by kernel_rfl) (by kernel_rfl) (fun _ _ _ h => h) (Or.inl ⟨by rfl, ?_⟩) (by assumption) ?_; rotate_left; (· (intro wS hSw; (try dsimp only at hSw); go_simp; (try with_reducible rfl))); try simp only [Act.put, pz1, pz2, pz3]
    refine wpAnyH_take (i := 7) (oi := ⟨some 87, .slice 38 (.tmp 85) none (some (.tmp 86)) none, 38, "ref.go:96", #[⟨5, .data⟩, ⟨6, .data⟩], none⟩) (v := ?_) rfl (by kernel_rfl) (by kernel_rfl) (by kernel_rfl) (fun _ _ _ h => h) (Or.inl ⟨by rfl, ?_⟩) (by assumption) ?_; rotate_left; (· (intro wS hSw; (try dsimp only at hSw); go_simp; (try with_reducible rfl))); try simp only [Act.put, pz1, pz2, pz3]
    refine wpAnyH_take (i := 9) (oi := ⟨some 89, .move (.tmp 0), 30, "ref.go:96", #[], none⟩) (v := ?_) rfl (by kernel_rfl) (by kernel_rfl) (by kernel_rfl) (fun _ _ _ h => h) (Or.inl ⟨by rfl, ?_⟩) (by assumption) ?_; rotate_left; (· (intro wS hSw; (try dsimp only at hSw); go_simp; (try with_reducible rfl))); try simp only [Act.put, pz1, pz2, pz3]
    refine wpAnyH_take (i := 10) (oi := ⟨some 90, .nilCheck (.tmp 89), 0, "ref.go:96", #[⟨9, .data⟩], none⟩) (v := ?_) rfl (by kernel_rfl) (by kernel_rfl) (by kernel_rfl) (fun _ _ _ h => h) (Or.inl ⟨by rfl, ?_⟩) (by assumption) ?_; rotate_left; (· (intro wS hSw; (try dsimp only at hSw); go_simp; (try with_reducible rfl))); try simp only [Act.put, pz1, pz2, pz3]
    refine wpAnyH_take (i := 11) (oi := ⟨some 91, .fieldAddr 94 (.tmp 90) 2, 0, "ref.go:96", #[⟨10, .data⟩], none⟩) (v := ?_) rfl (by kernel_rfl) (by kernel_rfl) (by kernel_rfl) (fun _ _ _ h => h) (Or.inl ⟨by rfl, ?_⟩) (by assumption) ?_; rotate_left; (· (intro wS hSw; (try dsimp only at hSw); go_simp; (try with_reducible rfl))); try simp only [Act.put, pz1, pz2, pz3]
    refine wpAnyH_take (i := 12) (oi := ⟨some 92, .load 91 (.tmp 91), 91, "ref.go:96", #[⟨11, .data⟩], none⟩) (v := ?_) rfl (by kernel_rfl) (by kernel_rfl) (by kernel_rfl) (fun _ _ _ h => h) (Or.inl ⟨by rfl, ?_⟩) (by assumption) ?_; rotate_left; (· (intro wS hSw; (try dsimp only at hSw); go_simp; (try with_reducible rfl))); try simp only [Act.put, pz1, pz2, pz3]
    refine wpAnyH_take (i := 13) (oi := ⟨some 93, .move (.tmp 10), 3, "ref.go:96", #[], none⟩) (v := ?_) rfl (by kernel_rfl) (by kernel_rfl) (by kernel_rfl) (fun _ _ _ h => h) (Or.inl ⟨by rfl, ?_⟩) (by assumption) ?_; rotate_left; (· (intro wS hSw; (try dsimp only at hSw); go_simp; (try with_reducible rfl))); try simp only [Act.put, pz1, pz2, pz3]
    refine wpAnyH_take (i := 14) (oi := ⟨some 94, .indexAddr 91 (.tmp 92) (.tmp 93), 0, "ref.go:96", #[⟨12, .data⟩, ⟨13, .data⟩], none⟩) (v := ?_) rfl (by kernel_rfl) (by kernel_rfl) (by kernel_rfl) (fun _ _ _ h => h) (Or.inl ⟨by rfl, ?_⟩) (by assumption) ?_; rotate_left; (· (intro wS hSw; (try dsimp only at hSw); go_simp; (try with_reducible rfl))); try simp only [Act.put, pz1, pz2, pz3]
    refine wpAnyH_take (i := 16) (oi := ⟨some 96, .move (.tmp 9), 3, "ref.go:96", #[], none⟩) (v := ?_) rfl (by kernel_rfl) (by kernel_rfl) (by kernel_rfl) (fun _ _ _ h => h) (Or.inl ⟨by rfl, ?_⟩) (by assumption) ?_; rotate_left; (· (intro wS hSw; (try dsimp only at hSw); go_simp; (try with_reducible rfl))); try simp only [Act.put, pz1, pz2, pz3]
    refine wpAnyH_ready (rs := [8, 15]) (by kernel_rfl) (by simp) ?_
    refine (AllReadyH.cons (o := ⟨some 88, .call { callee := .builtin .append, args := #[.const (.slice none 0 0), .tmp 87], argTypes := #[38, 38] }, 38, "ref.go:96", #[⟨7, .data⟩], none⟩) rfl (fun K hK => ?_) (AllReadyH.cons (o := ⟨some 95, .load 38 (.tmp 94), 38, "ref.go:96", #[⟨14, .data⟩], none⟩) rfl (fun K hK => ?_) AllReadyH.nil))
    · obtain ⟨ti0, hi, hz0, hz1, hz2⟩ := info_parts infoByte
      refine step_app _ rfl (.const (.slice none 0 0)) (.tmp 87) _ rfl wN.heap.size 5 ti0 _ 1 1 Try.underlying38 hi hz0 hz1 hz2 rfl (by decide) (.slice none 0 0) 0 [] rfl (World.ownsRow_nil _ _ _ _) (some ⟨gA, 0, none⟩) Q cA ((bs.take Q).map byteV) rfl (HRA.keep (fun b o e j => rfl)) (oneB _) (by unfold maxLen; omega) (by omega) (Nat.le_refl _) ?_
      intro v8 w8 ho8 hg8 hv8
      clear hi hz0 hz1 hz2
      have hb8 : Below wN.heap.size wN w8 := undrew ((Below.refl _ _).grown hg8 (Nat.le_refl _) (fun j hj => by simp [Value.ownBlock] at hj))
      have y6a := cellOf hb8 y6
      have cNa := cellOf hb8 cN
      clear hg8 hv8
      refine hK.out _ _ ?_ (fun hNew => ?_)
      · (first | exact y6 | exact y6a | exact y6b | exact y6c | assumption)
      clear hK K hHeld
      have hHeld := hNew
      clear hNew
      try simp only [Act.put, pz1, pz2, pz3]
      refine wpAnyH_ready (rs := [15]) (by kernel_rfl) (by simp) ?_
      refine AllReadyH.cons (o := ⟨some 95, .load 38 (.tmp 94), 38, "ref.go:96", #[⟨14, .data⟩], none⟩) rfl (fun K hK => ?_) AllReadyH.nil
      go_simp
      refine hK.out _ _ ?_ (fun hNew => ?_)
      · (first | exact y6 | exact y6a | exact y6b | exact y6c | assumption)
      clear hK K hHeld
      have hHeld := hNew
      clear hNew
      try simp only [Act.put, pz1, pz2, pz3]
      refine wpAnyH_take (i := 17) (oi := ⟨some 97, .slice 38 (.tmp 95) (some (.tmp 96)) none none, 38, "ref.go:96", #[⟨15, .data⟩, ⟨16, .data⟩], none⟩) (v := ?_) rfl (by kernel_rfl) (by kernel_rfl) (by kernel_rfl) (fun _ _ _ h => h) (Or.inl ⟨by rfl, ?_⟩) (by assumption) ?_; rotate_left; (· (intro wS hSw; (try dsimp only at hSw); go_simp; (try with_reducible rfl))); try simp only [Act.put, pz1, pz2, pz3]
      refine wpAnyH_ready (rs := [18]) (by kernel_rfl) (by simp) ?_
      refine AllReadyH.cons (o := ⟨some 98, .call { callee := .builtin .append, args := #[.tmp 88, .tmp 97], argTypes := #[38, 38] }, 38, "ref.go:96", #[⟨8, .data⟩, ⟨17, .data⟩, ⟨8, .chain⟩], none⟩) rfl (fun K hK => ?_) AllReadyH.nil
      obtain ⟨ti0, hi, hz0, hz1, hz2⟩ := info_parts infoByte
      refine step_app _ rfl (.tmp 88) (.tmp 97) _ rfl wN.heap.size 5 ti0 _ 1 1 Try.underlying38 hi hz0 hz1 hz2 rfl (by decide) v8 _ _ rfl ho8 _ _ _ (((s.tick.pageOf N RW).drop Q).map byteV) rfl ((HRP.keep (fun b o e j => by cases e; exact hb8.cell HP.lt))) (oneB _) (by unfold maxLen; omega) (by omega) hb8.size ?_
      intro v18 w18 ho18 hg18 hv18
      clear hi hz0 hz1 hz2
      have hb18 : Below wN.heap.size wN w18 := hb8.trans (below_app (Nat.le_refl _) hb8.size ho8 hg18)
      have ho19 := own_lenR (by omega : 0 + Q + (RW - Q) = RW) ho18
      rw [List.nil_append] at ho19
      obtain ⟨g9, c9, rfl, hR9, hge9, hc91, hc92⟩ := own_rowC ho19 (by omega)
      have y6b := cellOf hb18 y6
      have cNb := cellOf hb18 cN
      have hC18 := RefW.below hC hb18
      have fB18 := hC18.freeB
      clear hg18 hv18 ho18 ho19 ho8
      refine hK.out _ _ ?_ (fun hNew => ?_)
      · (first | exact y6 | exact y6a | exact y6b | exact y6c | assumption)
      clear hK K hHeld
      have hHeld := hNew
      clear hNew
      try simp only [Act.put, pz1, pz2, pz3]
      refine wpAnyH_take (i := 19) (oi := ⟨some 99, .indexAddr 91 (.tmp 83) (.tmp 84), 0, "ref.go:96", #[⟨3, .data⟩, ⟨4, .data⟩, ⟨0, .phase⟩, ⟨1, .phase⟩, ⟨2, .phase⟩, ⟨3, .phase⟩, ⟨4, .phase⟩, ⟨5, .phase⟩, ⟨6, .phase⟩, ⟨7, .phase⟩, ⟨8, .phase⟩, ⟨9, .phase⟩, ⟨10, .phase⟩, ⟨11, .phase⟩, ⟨12, .phase⟩, ⟨13, .phase⟩, ⟨14, .phase⟩, ⟨15, .phase⟩, ⟨16, .phase⟩, ⟨17, .phase⟩, ⟨18, .phase⟩], none⟩) (v := ?_) rfl (by kernel_rfl) (by kernel_rfl) (by kernel_rfl) (fun _ _ _ h => h) (Or.inl ⟨by rfl, ?_⟩) (by assumption) ?_; rotate_left; (· (intro wS hSw; (try dsimp only at hSw); go_simp; (try with_reducible rfl))); try simp only [Act.put, pz1, pz2, pz3]
      refine wpAnyH_ready (rs := [20]) (by kernel_rfl) (by simp) ?_
      refine AllReadyH.cons (o := ⟨none, .store 38 (.tmp 99) (.tmp 98), 0, "ref.go:96", #[⟨19, .data⟩, ⟨18, .data⟩, ⟨18, .chain⟩, ⟨0, .phase⟩, ⟨1, .phase⟩, ⟨2, .phase⟩, ⟨3, .phase⟩, ⟨4, .phase⟩, ⟨5, .phase⟩, ⟨6, .phase⟩, ⟨7, .phase⟩, ⟨8, .phase⟩, ⟨9, .phase⟩, ⟨10, .phase⟩, ⟨11, .phase⟩, ⟨12, .phase⟩, ⟨13, .phase⟩, ⟨14, .phase⟩, ⟨15, .phase⟩, ⟨16, .phase⟩, ⟨17, .phase⟩, ⟨18, .phase⟩], none⟩) rfl (fun K hK => ?_) AllReadyH.nil
      go_simp
      have y6c : (w18.setCell ⟨gB, N, none⟩ (.slice (some ⟨g9, 0, none⟩) RW c9)).cell? ⟨m, 6, none⟩ = some (.slice (some ⟨gB, 0, none⟩) NP cB) := (World.cell?_of_block (w := w18) ((Tch.setm w18 gB N (.slice (some ⟨g9, 0, none⟩) RW c9)).far m hC18.lt (fun e => hC18.ne.1.1 e))).trans y6b
      refine hK.out _ _ ?_ (fun hNew => ?_)
      · (first | exact y6 | exact y6a | exact y6b | exact y6c | assumption)
      clear hK K hHeld
      have hHeld := hNew
      clear hNew
      try simp only [Act.put, pz1, pz2, pz3]
      refine wpAnyH_done (by kernel_rfl) ?_ _
      refine NoPanic.normal ?_
      go_wp2_with fail
      go_meet
      have hRR : RowT w18 g9 5 ((bs.take Q ++ (s.tick.pageOf N RW).drop (bs.take Q).length).map byteV) := by
        rw [List.map_append, List.length_take, HBL.out, Nat.min_eq_left HQ.out]
        exact hR9
      have hSP := RefW.setPage hC18 hRR (by have := hC.ge m (Or.inl rfl); have := hC.lt; omega) (fun e => by have := hC.lts g9 e; omega) hc91 hc92 HRW.out (by rw [List.length_take]; omega) HNAB.out HFIT.out
      have hTS := Tch.setm w18 gB N (.slice (some ⟨g9, 0, none⟩) RW c9)
      have hTF : Tch (rfB m gB gN gW gD) w (w18.setCell ⟨gB, N, none⟩ (.slice (some ⟨g9, 0, none⟩) RW c9)) := ((tch_r HT).then hb18).trans (hTS.mono (fun g e => Or.inr (Or.inl e)))
      have hGF := hTS.blk (G1.below hb18 G1.lt) (fun e => by have := hC0L.out gB (Or.inr (Or.inl rfl)); omega)
      have hFF : Fresh w (w18.setCell ⟨gB, N, none⟩ (.slice (some ⟨g9, 0, none⟩) RW c9)) gB := Fresh.put ((hb18.block gB (Nat.lt_of_lt_of_le (hC0L.out gB (Or.inr (Or.inl rfl))) HT.size)).trans (HT.far gB (hC0L.out gB (Or.inr (Or.inl rfl))) (fun e => hC.ne.1.1 e.symm))) hC18.blkB (Nat.le_trans HT.size hge9)
      exact ⟨rfl, hSP, hTF, hGF, hFF⟩
    · go_simp
      refine hK.out _ _ ?_ (fun hNew => ?_)
      · (first | exact y6 | exact y6a | exact y6b | exact y6c | assumption)
      clear hK K hHeld
      have hHeld := hNew
      clear hNew
      try simp only [Act.put, pz1, pz2, pz3]
      refine wpAnyH_take (i := 17) (oi := ⟨some 97, .slice 38 (.tmp 95) (some (.tmp 96)) none none, 38, "ref.go:96", #[⟨15, .data⟩, ⟨16, .data⟩], none⟩) (v := ?_) rfl (by kernel_rfl) (by kernel_rfl) (by kernel_rfl) (fun _ _ _ h => h) (Or.inl ⟨by rfl, ?_⟩) (by assumption) ?_; rotate_left; (· (intro wS hSw; (try dsimp only at hSw); go_simp; (try with_reducible rfl))); try simp only [Act.put, pz1, pz2, pz3]
      refine wpAnyH_ready (rs := [8]) (by kernel_rfl) (by simp) ?_
      refine AllReadyH.cons (o := ⟨some 88, .call { callee := .builtin .append, args := #[.const (.slice none 0 0), .tmp 87], argTypes := #[38, 38] }, 38, "ref.go:96", #[⟨7, .data⟩], none⟩) rfl (fun K hK => ?_) AllReadyH.nil
      obtain ⟨ti0, hi, hz0, hz1, hz2⟩ := info_parts infoByte
      refine step_app _ rfl (.const (.slice none 0 0)) (.tmp 87) _ rfl wN.heap.size 5 ti0 _ 1 1 Try.underlying38 hi hz0 hz1 hz2 rfl (by decide) (.slice none 0 0) 0 [] rfl (World.ownsRow_nil _ _ _ _) (some ⟨gA, 0, none⟩) Q cA ((bs.take Q).map byteV) rfl (HRA.keep (fun b o e j => rfl)) (oneB _) (by unfold maxLen; omega) (by omega) (Nat.le_refl _) ?_
      intro v8 w8 ho8 hg8 hv8
      clear hi hz0 hz1 hz2
      have hb8 : Below wN.heap.size wN w8 := undrew ((Below.refl _ _).grown hg8 (Nat.le_refl _) (fun j hj => by simp [Value.ownBlock] at hj))
      have y6a := cellOf hb8 y6
      have cNa := cellOf hb8 cN
      clear hg8 hv8
      refine hK.out _ _ ?_ (fun hNew => ?_)
      · (first | exact y6 | exact y6a | exact y6b | exact y6c | assumption)
      clear hK K hHeld
      have hHeld := hNew
      clear hNew
      try simp only [Act.put, pz1, pz2, pz3]
      refine wpAnyH_ready (rs := [18]) (by kernel_rfl) (by simp) ?_
      refine AllReadyH.cons (o := ⟨some 98, .call { callee := .builtin .append, args := #[.tmp 88, .tmp 97], argTypes := #[38, 38] }, 38, "ref.go:96", #[⟨8, .data⟩, ⟨17, .data⟩, ⟨8, .chain⟩], none⟩) rfl (fun K hK => ?_) AllReadyH.nil
      obtain ⟨ti0, hi, hz0, hz1, hz2⟩ := info_parts infoByte
      refine step_app _ rfl (.tmp 88) (.tmp 97) _ rfl wN.heap.size 5 ti0 _ 1 1 Try.underlying38 hi hz0 hz1 hz2 rfl (by decide) v8 _ _ rfl ho8 _ _ _ (((s.tick.pageOf N RW).drop Q).map byteV) rfl ((HRP.keep (fun b o e j => by cases e; exact hb8.cell HP.lt))) (oneB _) (by unfold maxLen; omega) (by omega) hb8.size ?_
      intro v18 w18 ho18 hg18 hv18
      clear hi hz0 hz1 hz2
      have hb18 : Below wN.heap.size wN w18 := hb8.trans (below_app (Nat.le_refl _) hb8.size ho8 hg18)
      have ho19 := own_lenR (by omega : 0 + Q + (RW - Q) = RW) ho18
      rw [List.nil_append] at ho19
      obtain ⟨g9, c9, rfl, hR9, hge9, hc91, hc92⟩ := own_rowC ho19 (by omega)
      have y6b := cellOf hb18 y6
      have cNb := cellOf hb18 cN
      have hC18 := RefW.below hC hb18
      have fB18 := hC18.freeB
      clear hg18 hv18 ho18 ho19 ho8
      refine hK.out _ _ ?_ (fun hNew => ?_)
      · (first | exact y6 | exact y6a | exact y6b | exact y6c | assumption)
      clear hK K hHeld
      have hHeld := hNew
      clear hNew
      try simp only [Act.put, pz1, pz2, pz3]
      refine wpAnyH_take (i := 19) (oi := ⟨some 99, .indexAddr 91 (.tmp 83) (.tmp 84), 0, "ref.go:96", #[⟨3, .data⟩, ⟨4, .data⟩, ⟨0, .phase⟩, ⟨1, .phase⟩, ⟨2, .phase⟩, ⟨3, .phase⟩, ⟨4, .phase⟩, ⟨5, .phase⟩, ⟨6, .phase⟩, ⟨7, .phase⟩, ⟨8, .phase⟩, ⟨9, .phase⟩, ⟨10, .phase⟩, ⟨11, .phase⟩, ⟨12, .phase⟩, ⟨13, .phase⟩, ⟨14, .phase⟩, ⟨15, .phase⟩, ⟨16, .phase⟩, ⟨17, .phase⟩, ⟨18, .phase⟩], none⟩) (v := ?_) rfl (by kernel_rfl) (by kernel_rfl) (by kernel_rfl) (fun _ _ _ h => h) (Or.inl ⟨by rfl, ?_⟩) (by assumption) ?_; rotate_left; (· (intro wS hSw; (try dsimp only at hSw); go_simp; (try with_reducible rfl))); try simp only [Act.put, pz1, pz2, pz3]
      refine wpAnyH_ready (rs := [20]) (by kernel_rfl) (by simp) ?_
      refine AllReadyH.cons (o := ⟨none, .store 38 (.tmp 99) (.tmp 98), 0, "ref.go:96", #[⟨19, .data⟩, ⟨18, .data⟩, ⟨18, .chain⟩, ⟨0, .phase⟩, ⟨1, .phase⟩, ⟨2, .phase⟩, ⟨3, .phase⟩, ⟨4, .phase⟩, ⟨5, .phase⟩, ⟨6, .phase⟩, ⟨7, .phase⟩, ⟨8, .phase⟩, ⟨9, .phase⟩, ⟨10, .phase⟩, ⟨11, .phase⟩, ⟨12, .phase⟩, ⟨13, .phase⟩, ⟨14, .phase⟩, ⟨15, .phase⟩, ⟨16, .phase⟩, ⟨17, .phase⟩, ⟨18, .phase⟩], none⟩) rfl (fun K hK => ?_) AllReadyH.nil
      go_simp
      have y6c : (w18.setCell ⟨gB, N, none⟩ (.slice (some ⟨g9, 0, none⟩) RW c9)).cell? ⟨m, 6, none⟩ = some (.slice (some ⟨gB, 0, none⟩) NP cB) := (World.cell?_of_block (w := w18) ((Tch.setm w18 gB N (.slice (some ⟨g9, 0, none⟩) RW c9)).far m hC18.lt (fun e => hC18.ne.1.1 e))).trans y6b
      refine hK.out _ _ ?_ (fun hNew => ?_)
      · (first | exact y6 | exact y6a | exact y6b | exact y6c | assumption)
      clear hK K hHeld
      have hHeld := hNew
      clear hNew
      try simp only [Act.put, pz1, pz2, pz3]
      refine wpAnyH_done (by kernel_rfl) ?_ _
      refine NoPanic.normal ?_
      go_wp2_with fail
      go_meet
      have hRR : RowT w18 g9 5 ((bs.take Q ++ (s.tick.pageOf N RW).drop (bs.take Q).length).map byteV) := by
        rw [List.map_append, List.length_take, HBL.out, Nat.min_eq_left HQ.out]
        exact hR9
      have hSP := RefW.setPage hC18 hRR (by have := hC.ge m (Or.inl rfl); have := hC.lt; omega) (fun e => by have := hC.lts g9 e; omega) hc91 hc92 HRW.out (by rw [List.length_take]; omega) HNAB.out HFIT.out
      have hTS := Tch.setm w18 gB N (.slice (some ⟨g9, 0, none⟩) RW c9)
      have hTF : Tch (rfB m gB gN gW gD) w (w18.setCell ⟨gB, N, none⟩ (.slice (some ⟨g9, 0, none⟩) RW c9)) := ((tch_r HT).then hb18).trans (hTS.mono (fun g e => Or.inr (Or.inl e)))
      have hGF := hTS.blk (G1.below hb18 G1.lt) (fun e => by have := hC0L.out gB (Or.inr (Or.inl rfl)); omega)
      have hFF : Fresh w (w18.setCell ⟨gB, N, none⟩ (.slice (some ⟨g9, 0, none⟩) RW c9)) gB := Fresh.put ((hb18.block gB (Nat.lt_of_lt_of_le (hC0L.out gB (Or.inr (Or.inl rfl))) HT.size)).trans (HT.far gB (hC0L.out gB (Or.inr (Or.inl rfl))) (fun e => hC.ne.1.1 e.symm))) hC18.blkB (Nat.le_trans HT.size hge9)
      exact ⟨rfl, hSP, hTF, hGF, hFF⟩
  case rest =>
  clear hC HT G1 HCC cD cX cN HP HRA HRP z0 z1 y0 y1 y2 y3 y4 y5 y6 y7 y9 y15
  obtain ⟨rfl, hC, HT, G1, HFr⟩ := hcut
  obtain ⟨w6, rfl⟩ : ∃ W : World, W = wc := ⟨_, rfl⟩
  obtain ⟨S0, hS0⟩ : ∃ S0 : ChS, S0 = { s.tick with X := putX s.tick.X (N * RW) (bs.take Q) } := ⟨_, rfl⟩
  rw [← hS0] at hC
  have hk00 : S0.k (k : Int) 0 = v0 := by rw [hS0]; exact HV0.out
  have hk02 : S0.k (k : Int) 2 = v2 := by rw [hS0]; exact HV2.out
  have HS0 := Lib.hid hS0
  clear hS0
  go_upto_region 17 with fail
  obtain ⟨NP0, NB0, RWc0, cB0, HCC⟩ := hC.cells
  have y7 := HCC.y7
  have cz := HCC.n0 k (by have := HCC.hNB.out; have := HK.out; omega)
  rw [hk00] at cz
  have fz := hC.freeN
  have z0 := G1.cell_ 0
  simp at z0
  have i0 : (0 : Int) ≤ (k : Int) := by omega
  have i1 : (k : Int) < (NB0 : Int) := by have := HCC.hNB.out; have := HK.out; omega
  have hwr : IntKind.i64.wrap (v0 + 1) = v0 + 1 := wrapS _ (by omega) (by omega)
  clear HCC
  go_still_tail 10, (by kernel_rfl)
  change wpList _ _ _ _ _ w6.drew
  go_wp2_with fail
  have hS := RefW.set0 hC HK.out (v0 + 1)
  have hSd := RefW.drew hS
  have hT1 := Tch.setm w6 gN k (.int .i64 (v0 + 1))
  have hTd : Tch (rfB m gB gN gW gD) w ((w6.setCell ⟨gN, k, none⟩ (.int .i64 (v0 + 1))).drew) := (HT.trans (hT1.mono (fun g e => Or.inr (Or.inr (Or.inl e))))).like
  have hG : Blk ((w6.setCell ⟨gN, k, none⟩ (.int .i64 (v0 + 1))).drew) w.heap.size 27 #[.int .i64 (k : Int), .int .i64 (l : Int)] := G1.far (p := ⟨gN, k, none⟩) (fun e => by have := hC0L.out w.heap.size (Or.inr (Or.inr (Or.inl e))); omega) _
  have hFd : Fresh w ((w6.setCell ⟨gN, k, none⟩ (.int .i64 (v0 + 1))).drew) gB := Fresh.then HFr (hT1.far gB (hC.lts gB (Or.inr (Or.inl rfl))) (fun e => hC.ne.2.1.1 e))
  clear HT hC G1 z0 y7 cz fz hS hwr hT1 i1 HFr
  generalize (w6.setCell ⟨gN, k, none⟩ (.int .i64 (v0 + 1))).drew = w7 at hSd hTd hG hFd ⊢
  have hC := hSd
  have HT := hTd
  have G1 := hG
  have HFr := hFd
  clear hSd hTd hG hFd
  obtain ⟨S1, hS1⟩ : ∃ S1 : ChS, S1 = { S0 with K := S0.K.set (k * 3 + 0) (v0 + 1) } := ⟨_, rfl⟩
  rw [← hS1] at hC
  have hk12 : S1.k (k : Int) 2 = v2 := by
    rw [hS1, ← hk02]
    unfold ChS.k
    dsimp only
    rw [Int.toNat_natCast, getD_setN, if_neg (by omega)]
  have HS1 := Lib.hid hS1
  clear hS1
  go_upto_region 19 with fail
  obtain ⟨NP2, NB2, RWc2, cB2, HCC⟩ := hC.cells
  have y9 := HCC.y9
  have cz := HCC.n2 k (by have := HCC.hNB.out; have := HK.out; omega)
  rw [hk12] at cz
  have fz := hC.freeD
  have z0 := G1.cell_ 0
  simp at z0
  have i0 : (0 : Int) ≤ (k : Int) := by omega
  have i1 : (k : Int) < (NB2 : Int) := by have := HCC.hNB.out; have := HK.out; omega
  have hwr : IntKind.i64.wrap (v2 + 1) = v2 + 1 := wrapS _ (by omega) (by omega)
  clear HCC
  go_still_tail 10, (by kernel_rfl)
  change wpList _ _ _ _ _ w7.drew
  go_wp2_with fail
  have hS := RefW.set2 hC HK.out (v2 + 1)
  have hSd := RefW.drew hS
  have hT1 := Tch.setm w7 gD k (.int .i64 (v2 + 1))
  have hTd : Tch (rfB m gB gN gW gD) w ((w7.setCell ⟨gD, k, none⟩ (.int .i64 (v2 + 1))).drew) := (HT.trans (hT1.mono (fun g e => Or.inr (Or.inr (Or.inr (Or.inr e)))))).like
  have hG : Blk ((w7.setCell ⟨gD, k, none⟩ (.int .i64 (v2 + 1))).drew) w.heap.size 27 #[.int .i64 (k : Int), .int .i64 (l : Int)] := G1.far (p := ⟨gD, k, none⟩) (fun e => by have := hC0L.out w.heap.size (Or.inr (Or.inr (Or.inr (Or.inr e)))); omega) _
  have hFd : Fresh w ((w7.setCell ⟨gD, k, none⟩ (.int .i64 (v2 + 1))).drew) gB := Fresh.then HFr (hT1.far gB (hC.lts gB (Or.inr (Or.inl rfl))) (fun e => hC.ne.2.1.2.2 e))
  clear HT hC G1 z0 y9 cz fz hS hwr hT1 i1 HFr
  generalize (w7.setCell ⟨gD, k, none⟩ (.int .i64 (v2 + 1))).drew = w8 at hSd hTd hG hFd ⊢
  have hC := hSd
  have HT := hTd
  have G1 := hG
  have HFr := hFd
  clear hSd hTd hG hFd
  go_wp2_with fail
  go_ret
  have hfin : ({ S1 with K := S1.K.set (k * 3 + 2) (v2 + 1) } : ChS) = s.prog k N RW bs := by
    have hbt : bs.take Q = bs := List.take_of_length_le (by have := HBL.out; have := HQE.out; omega)
    rw [← hk12, HS1.out, ← hk00, HS0.out, hbt]
    unfold ChS.prog ChS.inc
    rw [tick_X]
  rw [← hfin]
  exact ⟨rfl, hC, HT, HFr⟩
end Go.Proofs.Ytcpniplfkillbaa
namespace Go.Proofs.Ytcpniplfkillbaa
open Go.ChangeShapes Go.WideShapes Go.ChangeAt Go.RowKit
theorem rprog_cut (m gB gN gW gD L : Nat) (Af : Option Addr) (nf cf : Nat) (a b c d e : Int) (fs : List Flt) (k l N : Nat) (n : Int) (gA RW cA : Nat) (hcA : RW ≤ cA) (bs : List Nat) (w : World) (s : ChS) (hC : RefW w m gB gN gW gD L Af nf cf a b c d e fs s) (hbn : s.Bnd n) (hn : n ≤ 900000000) (hwt : s.Wt) (ho : s.on = true) (hk : (k : Int) < a) (hl : (l : Int) < b) (HRW : Hid ((RW : Int) = c + 16)) (hfl8 : fs.length ≤ 8) (hcu : Hid (s.cutB = true)) (hfb : failsB fs (k : Int) (s.k (k : Int) 2) = false) (hln : (l : Int) = s.k (k : Int) 0) (hnum : Hid (numberI a b (k : Int) (l : Int) = (N : Int))) (hfit0 : N * RW + RW ≤ s.X.length) (r1 : 40 ≤ RW) (r2 : RW ≤ 80) (hN2 : N < 200) (hNab : (N : Int) < a * b) (hR : RowT w gA 5 (bs.map byteV)) (hgA : ¬ rfB m gB gN gW gD gA) (hbl : bs.length = RW) (hcb : 0 ≤ s.cby) : Calls Try.prog 33 #[.pointer (some ⟨m, 0, none⟩), .agg #[.int .i64 (k : Int), .int .i64 (l : Int)], .slice (some ⟨gA, 0, none⟩) RW cA] w fun e' w' => e' = .returned (.int .i64 9) ∧ RefW w' m gB gN gW gD L Af nf cf a b c d e fs (s.progCut k N RW (bs.take (min RW s.cby.toNat))) ∧ Tch (rfB m gB gN gW gD) w w' ∧ Fresh w w' gB := by
  have ht : Hid (thereB a b (k : Int) (l : Int) = true) := Lib.hid (by unfold thereB withinB; simp; omega)
  have HK := Lib.hid hk
  have tk : ∀ j : Nat, s.tick.k (k : Int) j = s.k (k : Int) j := fun j => by unfold ChS.k; rw [tick_K]
  obtain ⟨v2, hv2⟩ : ∃ v, s.tick.k (k : Int) 2 = v := ⟨_, rfl⟩
  obtain ⟨v0, hv0⟩ : ∃ v, s.tick.k (k : Int) 0 = v := ⟨_, rfl⟩
  have HV2 := Lib.hid hv2
  have HV0 := Lib.hid hv0
  have HFL : Hid (failsB fs (k : Int) v2 = false) := Lib.hid (by rw [← hv2, tk]; exact hfb)
  rw [← tk, hv0] at hln
  have hnq : ((l : Int) != v0) = false := by simp; omega
  have hnp : ((l : Int) == v0) = true := by simp; omega
  have hfit : N * RW + RW ≤ s.tick.X.length := by rw [tick_X]; exact hfit0
  have HNAB := Lib.hid hNab
  have HFIT := Lib.hid hfit
  have HBL := Lib.hid hbl
  have HAR := Lib.hid hR
  have hC0L : Hid (∀ g, rfB m gB gN gW gD g → g < w.heap.size) := Lib.hid hC.lts
  have hgm : gA ≠ m := fun e => hgA (Or.inl e)
  obtain ⟨vb0, vb1⟩ : 0 ≤ v0 ∧ v0 ≤ n := by rw [← hv0, tk]; exact ⟨hbn.k0 _, hbn.k1 _⟩
  obtain ⟨vc0, vc1⟩ : 0 ≤ v2 ∧ v2 ≤ n := by rw [← hv2, tk]; exact ⟨hbn.k0 _, hbn.k1 _⟩
  clear hln hfit0 hfit hNab hbl hR
  have hcy : s.tick.cby = s.cby := by unfold ChS.tick; split <;> rfl
  obtain ⟨Q, hQ⟩ : ∃ Q, min RW s.cby.toNat = Q := ⟨_, rfl⟩
  have hQR : Q ≤ RW := by omega
  have hmm : (if s.tick.cby < (RW : Int) then s.tick.cby else (RW : Int)) = (Q : Int) := by rw [hcy]; split <;> omega
  have hmm2 : min (RW : Int) s.tick.cby = (Q : Int) := by rw [hcy]; omega
  have HQE := Lib.hid hQ
  clear hQ hcb hcy
  have HQ := Lib.hid hQR
  clear hv2 hv0 tk hk hl
  have HM := Lib.hid (planMay_bd hC.may).1
  have hmw := hC.lt
  have HB0 : Below w.heap.size w (w.alloc (.cells #[.int .i64 (k : Int), .int .i64 (l : Int)] 27)) := (Below.refl _ _).alloc (Nat.le_refl _) _
  have G1 : Blk (w.alloc (.cells #[.int .i64 (k : Int), .int .i64 (l : Int)] 27)) w.heap.size 27 #[.int .i64 (k : Int), .int .i64 (l : Int)] := Blk.new_ _ _ _
  have z0 : (w.alloc (.cells #[.int .i64 (k : Int), .int .i64 (l : Int)] 27)).cell? ⟨w.heap.size, 0, none⟩ = some (.int .i64 (k : Int)) := G1.cell_ 0
  have z1 : (w.alloc (.cells #[.int .i64 (k : Int), .int .i64 (l : Int)] 27)).cell? ⟨w.heap.size, 1, none⟩ = some (.int .i64 (l : Int)) := G1.cell_ 1
  have hC := hC.below HB0
  obtain ⟨NP, NB, RWc, cB, HCC⟩ := hC.cells
  have y0 := HCC.y0; have y1 := HCC.y1; have y2 := HCC.y2; have y3 := HCC.y3; have y4 := HCC.y4; have y12 := HCC.y12
  have hnm : ¬ w.heap.size = m := by omega
  rw [show (!s.on) = false by rw [ho]; rfl] at y12
  clear ho
  go_enter Try.func33, Try.ntmps33
  go_upto_region 3 with fail
  refine wp_region_noPanic ?_
  refine wp_region_held_drew (S := (fun w' => w'.cell? ⟨m, 0, none⟩ = some (.int .i64 a) ∧ w'.cell? ⟨m, 1, none⟩ = some (.int .i64 b) ∧ w'.cell? ⟨m, 2, none⟩ = some (.int .i64 c) ∧ w'.cell? ⟨m, 3, none⟩ = some (.int .i64 d) ∧ w'.cell? ⟨m, 4, none⟩ = some (.int .i64 e) ∧ w'.cell? ⟨w.heap.size, 0, none⟩ = some (.int .i64 (k : Int)) ∧ w'.cell? ⟨w.heap.size, 1, none⟩ = some (.int .i64 (l : Int)))) (by kernel_rfl) ?_ (fun hHeld => ?_)
  · (first | exact ⟨y0, y1, y2, y3, y4, z0, z1⟩ | assumption)
  refine wpAnyH_take (i := 0) (oi := ⟨some 15, .move (.tmp 0), 30, "ref.go:79", #[], none⟩) (v := ?_) rfl (by kernel_rfl) (by kernel_rfl) (by kernel_rfl) (fun _ _ _ h => h) (Or.inl ⟨by rfl, ?_⟩) (by assumption) ?_; rotate_left; (· (intro wS hSw; (try dsimp only at hSw); go_simp; (try with_reducible rfl))); try simp only [Act.put, pz1, pz2, pz3]
  refine wpAnyH_take (i := 1) (oi := ⟨some 16, .nilCheck (.tmp 15), 0, "ref.go:79", #[⟨0, .data⟩], none⟩) (v := ?_) rfl (by kernel_rfl) (by kernel_rfl) (by kernel_rfl) (fun _ _ _ h => h) (Or.inl ⟨by rfl, ?_⟩) (by assumption) ?_; rotate_left; (· (intro wS hSw; (try dsimp only at hSw); go_simp; (try with_reducible rfl))); try simp only [Act.put, pz1, pz2, pz3]
  refine wpAnyH_take (i := 2) (oi := ⟨some 17, .fieldAddr 94 (.tmp 16) 0, 0, "ref.go:79", #[⟨1, .data⟩], none⟩) (v := ?_) rfl (by kernel_rfl) (by kernel_rfl) (by kernel_rfl) (fun _ _ _ h => h) (Or.inl ⟨by rfl, ?_⟩) (by assumption) ?_; rotate_left; (· (intro wS hSw; (try dsimp only at hSw); go_simp; (try with_reducible rfl))); try simp only [Act.put, pz1, pz2, pz3]
  refine wpAnyH_take (i := 3) (oi := ⟨some 18, .load 23 (.tmp 17), 23, "ref.go:79", #[⟨2, .data⟩], none⟩) (v := ?_) rfl (by kernel_rfl) (by kernel_rfl) (by kernel_rfl) (fun _ _ _ h => h) (Or.inl ⟨by rfl, ?_⟩) (by assumption) ?_; rotate_left; (· (intro wS hSw; (try dsimp only at hSw); go_simp; (try with_reducible rfl))); try simp only [Act.put, pz1, pz2, pz3]
  refine wpAnyH_take (i := 4) (oi := ⟨some 19, .load 27 (.tmp 4), 27, "ref.go:79", #[], none⟩) (v := ?_) rfl (by kernel_rfl) (by kernel_rfl) (by kernel_rfl) (fun _ _ _ h => h) (Or.inl ⟨by rfl, ?_⟩) (by assumption) ?_; rotate_left; (· (intro wS hSw; (try dsimp only at hSw); go_simp; (try with_reducible rfl))); try simp only [Act.put, pz1, pz2, pz3]
  refine wpAnyH_ready (rs := [5]) (by kernel_rfl) (by simp) ?_
  refine AllReadyH.cons (o := ⟨some 20, .call { callee := .value (.func 43), args := #[.tmp 18, .tmp 19], argTypes := #[23, 27] }, 4, "ref.go:79", #[⟨3, .data⟩, ⟨4, .data⟩], none⟩) rfl (fun K hK => ?_) AllReadyH.nil
  go_simp
  (first | (go_at_call 43; ((with_reducible refine (rthr_b _ _ _ _ _ (k : Int) (l : Int) _ _ HM ht).mono ?_); rintro e' wN ⟨rfl, hb⟩; (try have hb := undrew hb); replace hC := RefW.likeB hC hb; replace HB0 := btr HB0 HB0.size hb; replace G1 := G1.below hb G1.lt; replace HCC := RefC.below HCC hb; clear z0 z1; clear y0 y1 y2 y3 y4 y12; have z0 := G1.cell_ 0; have z1 := G1.cell_ 1; simp at z0 z1; have y0 := HCC.y0; have y1 := HCC.y1; have y2 := HCC.y2; have y3 := HCC.y3; have y4 := HCC.y4; have y12 := HCC.y12)) | (go_at_call 60; ((with_reducible refine (rraw_b _ _ _ _ _ RW _ HM HRW).mono ?_); rintro e' wN ⟨rfl, hb⟩; (try have hb := undrew hb); replace hC := RefW.likeB hC hb; replace HB0 := btr HB0 HB0.size hb; replace G1 := G1.below hb G1.lt; replace HCC := RefC.below HCC hb; clear z0 z1; clear y0 y1 y2 y3 y4 y12; have z0 := G1.cell_ 0; have z1 := G1.cell_ 1; simp at z0 z1; have y0 := HCC.y0; have y1 := HCC.y1; have y2 := HCC.y2; have y3 := HCC.y3; have y4 := HCC.y4; have y12 := HCC.y12)))
  go_wp2_with fail
  refine hK.out _ _ ?_ (fun hNew => ?_)
  · (first | exact ⟨y0, y1, y2, y3, y4, z0, z1⟩ | assumption)
  clear hK K hHeld
  have hHeld := hNew
  clear hNew
  try simp only [Act.put, pz1, pz2, pz3]
  refine wpAnyH_take (i := 6) (oi := ⟨some 21, .unOp .not 4 (.tmp 20), 4, "ref.go:79", #[⟨5, .data⟩], none⟩) (v := ?_) rfl (by kernel_rfl) (by kernel_rfl) (by kernel_rfl) (fun _ _ _ h => h) (Or.inl ⟨by rfl, ?_⟩) (by assumption) ?_; rotate_left; (· (intro wS hSw; (try dsimp only at hSw); go_simp; (try with_reducible rfl))); try simp only [Act.put, pz1, pz2, pz3]
  refine wpAnyH_take (i := 7) (oi := ⟨some 22, .move (.tmp 21), 4, "ref.go:79", #[⟨6, .data⟩, ⟨5, .chain⟩], none⟩) (v := ?_) rfl (by kernel_rfl) (by kernel_rfl) (by kernel_rfl) (fun _ _ _ h => h) (Or.inl ⟨by rfl, ?_⟩) (by assumption) ?_; rotate_left; (· (intro wS hSw; (try dsimp only at hSw); go_simp; (try with_reducible rfl))); try simp only [Act.put, pz1, pz2, pz3]
  refine wpAnyH_take (i := 8) (oi := ⟨some 23, .move (.tmp 2), 38, "ref.go:79", #[⟨7, .guard⟩], some (7, false)⟩) (v := ?_) rfl (by kernel_rfl) (by kernel_rfl) (by kernel_rfl) (fun _ _ _ h => h) (Or.inl ⟨by rfl, ?_⟩) (by assumption) ?_; rotate_left; (· (intro wS hSw; (try dsimp only at hSw); go_simp; (try with_reducible rfl))); try simp only [Act.put, pz1, pz2, pz3]
  refine wpAnyH_take (i := 9) (oi := ⟨some 24, .call { callee := .builtin .len, args := #[.tmp 23], argTypes := #[38] }, 3, "ref.go:79", #[⟨8, .data⟩, ⟨7, .guard⟩], some (7, false)⟩) (v := ?_) rfl (by kernel_rfl) (by kernel_rfl) (by kernel_rfl) (fun _ _ _ h => h) (Or.inl ⟨by rfl, ?_⟩) (by assumption) ?_; rotate_left; (· (intro wS hSw; (try dsimp only at hSw); go_simp; (try with_reducible rfl))); try simp only [Act.put, pz1, pz2, pz3]
  refine wpAnyH_take (i := 10) (oi := ⟨some 25, .move (.tmp 0), 30, "ref.go:79", #[⟨7, .guard⟩], some (7, false)⟩) (v := ?_) rfl (by kernel_rfl) (by kernel_rfl) (by kernel_rfl) (fun _ _ _ h => h) (Or.inl ⟨by rfl, ?_⟩) (by assumption) ?_; rotate_left; (· (intro wS hSw; (try dsimp only at hSw); go_simp; (try with_reducible rfl))); try simp only [Act.put, pz1, pz2, pz3]
  refine wpAnyH_take (i := 11) (oi := ⟨some 26, .nilCheck (.tmp 25), 0, "ref.go:79", #[⟨10, .data⟩, ⟨7, .guard⟩], some (7, false)⟩) (v := ?_) rfl (by kernel_rfl) (by kernel_rfl) (by kernel_rfl) (fun _ _ _ h => h) (Or.inl ⟨by rfl, ?_⟩) (by assumption) ?_; rotate_left; (· (intro wS hSw; (try dsimp only at hSw); go_simp; (try with_reducible rfl))); try simp only [Act.put, pz1, pz2, pz3]
  refine wpAnyH_take (i := 12) (oi := ⟨some 27, .fieldAddr 94 (.tmp 26) 0, 0, "ref.go:79", #[⟨11, .data⟩, ⟨7, .guard⟩], some (7, false)⟩) (v := ?_) rfl (by kernel_rfl) (by kernel_rfl) (by kernel_rfl) (fun _ _ _ h => h) (Or.inl ⟨by rfl, ?_⟩) (by assumption) ?_; rotate_left; (· (intro wS hSw; (try dsimp only at hSw); go_simp; (try with_reducible rfl))); try simp only [Act.put, pz1, pz2, pz3]
  refine wpAnyH_take (i := 13) (oi := ⟨some 28, .load 23 (.tmp 27), 23, "ref.go:79", #[⟨12, .data⟩, ⟨7, .guard⟩], some (7, false)⟩) (v := ?_) rfl (by kernel_rfl) (by kernel_rfl) (by kernel_rfl) (fun _ _ _ h => h) (Or.inl ⟨by rfl, ?_⟩) (by assumption) ?_; rotate_left; (· (intro wS hSw; (try dsimp only at hSw); go_simp; (try with_reducible rfl))); try simp only [Act.put, pz1, pz2, pz3]
  refine wpAnyH_ready (rs := [14]) (by kernel_rfl) (by simp) ?_
  refine AllReadyH.cons (o := ⟨some 29, .call { callee := .value (.func 60), args := #[.tmp 28], argTypes := #[23] }, 3, "ref.go:79", #[⟨13, .data⟩, ⟨7, .chain⟩, ⟨7, .guard⟩], some (7, false)⟩) rfl (fun K hK => ?_) AllReadyH.nil
  go_simp
  (first | (go_at_call 43; ((with_reducible refine (rthr_b _ _ _ _ _ (k : Int) (l : Int) _ _ HM ht).mono ?_); rintro e' wN ⟨rfl, hb⟩; (try have hb := undrew hb); replace hC := RefW.likeB hC hb; replace HB0 := btr HB0 HB0.size hb; replace G1 := G1.below hb G1.lt; replace HCC := RefC.below HCC hb; clear z0 z1; clear y0 y1 y2 y3 y4 y12; have z0 := G1.cell_ 0; have z1 := G1.cell_ 1; simp at z0 z1; have y0 := HCC.y0; have y1 := HCC.y1; have y2 := HCC.y2; have y3 := HCC.y3; have y4 := HCC.y4; have y12 := HCC.y12)) | (go_at_call 60; ((with_reducible refine (rraw_b _ _ _ _ _ RW _ HM HRW).mono ?_); rintro e' wN ⟨rfl, hb⟩; (try have hb := undrew hb); replace hC := RefW.likeB hC hb; replace HB0 := btr HB0 HB0.size hb; replace G1 := G1.below hb G1.lt; replace HCC := RefC.below HCC hb; clear z0 z1; clear y0 y1 y2 y3 y4 y12; have z0 := G1.cell_ 0; have z1 := G1.cell_ 1; simp at z0 z1; have y0 := HCC.y0; have y1 := HCC.y1; have y2 := HCC.y2; have y3 := HCC.y3; have y4 := HCC.y4; have y12 := HCC.y12)))
  go_wp2_with fail
  refine hK.out _ _ ?_ (fun hNew => ?_)
  · (first | exact ⟨y0, y1, y2, y3, y4, z0, z1⟩ | assumption)
  clear hK K hHeld
  have hHeld := hNew
  clear hNew
  try simp only [Act.put, pz1, pz2, pz3]
  refine wpAnyH_take (i := 15) (oi := ⟨some 30, .binOp .neq 3 (.tmp 24) (.tmp 29) 3, 4, "ref.go:79", #[⟨9, .data⟩, ⟨14, .data⟩, ⟨7, .guard⟩], some (7, false)⟩) (v := ?_) rfl (by kernel_rfl) (by kernel_rfl) (by kernel_rfl) (fun _ _ _ h => h) (Or.inl ⟨by rfl, ?_⟩) (by assumption) ?_; rotate_left; (· (intro wS hSw; (try dsimp only at hSw); go_simp; (try with_reducible rfl))); try simp only [Act.put, pz1, pz2, pz3]
  refine wpAnyH_take (i := 16) (oi := ⟨some 31, .pick (.tmp 22) (.const (.bool true)) (.tmp 30), 4, "ref.go:79", #[⟨7, .data⟩, ⟨15, .data⟩], none⟩) (v := ?_) rfl (by kernel_rfl) (by kernel_rfl) (by kernel_rfl) (fun _ _ _ h => h) (Or.inl ⟨by rfl, ?_⟩) (by assumption) ?_; rotate_left; (· (intro wS hSw; (try dsimp only at hSw); go_simp; (try with_reducible rfl))); try simp only [Act.put, pz1, pz2, pz3]
  refine wpAnyH_done (by kernel_rfl) ?_ _
  refine NoPanic.normal ?_
  go_upto_region 7 with (go_at_call 61; ((with_reducible refine (rturn_b _ _ _ _ _ _ _ _ _ _ _ _ _ _ _ _ _ _ _ hC hbn (by omega) hwt hcu).mono ?_); rintro e' wN ⟨rfl, hC2, hT⟩; have HT := (Tch.of_below (S := fun g => g = m) HB0).trans (Tch.like0 hT); have hlt0 := hT.far w.heap.size G1.lt hnm; replace G1 : Blk wN w.heap.size _ _ := hlt0.trans G1; clear hlt0 hC HCC; have hC := hC2; clear hC2 z0 z1; clear y0 y1 y2 y3 y4 y12; have z0 := G1.cell_ 0; have z1 := G1.cell_ 1; simp at z0 z1))
  obtain ⟨NP, NB, RWc, cB, HCC⟩ := hC.cells
  have y0 := HCC.y0; have y1 := HCC.y1; have y2 := HCC.y2; have y3 := HCC.y3; have y4 := HCC.y4; have y5 := HCC.y5; have y6 := HCC.y6; have y7 := HCC.y7; have y9 := HCC.y9; have y15 := HCC.y15
  have i0 : (0 : Int) ≤ (k : Int) := by omega
  have i1 : (k : Int) < (NB : Int) := by have := HCC.hNB.out; have := HK.out; omega
  have cD := HCC.n2 k (by omega)
  have cX := HCC.n0 k (by omega)
  rw [HV2.out] at cD
  rw [HV0.out] at cX
  refine wp_region_noPanic ?_
  refine wp_region_held_drew (S := (fun w' => w'.cell? ⟨m, 5, none⟩ = some (.slice Af nf cf) ∧ w'.cell? ⟨m, 9, none⟩ = some (.slice (some ⟨gD, 0, none⟩) NB NB) ∧ w'.cell? ⟨w.heap.size, 0, none⟩ = some (.int .i64 (k : Int)) ∧ w'.cell? ⟨gD, k, none⟩ = some (.int .i64 v2))) (by kernel_rfl) ?_ (fun hHeld => ?_)
  · (first | exact ⟨y5, y9, z0, cD⟩ | assumption)
  refine wpAnyH_take (i := 0) (oi := ⟨some 35, .move (.tmp 0), 30, "ref.go:85", #[], none⟩) (v := ?_) rfl (by kernel_rfl) (by kernel_rfl) (by kernel_rfl) (fun _ _ _ h => h) (Or.inl ⟨by rfl, ?_⟩) (by assumption) ?_; rotate_left; (· (intro wS hSw; (try dsimp only at hSw); go_simp; (try with_reducible rfl))); try simp only [Act.put, pz1, pz2, pz3]
  refine wpAnyH_take (i := 1) (oi := ⟨some 36, .nilCheck (.tmp 35), 0, "ref.go:85", #[⟨0, .data⟩], none⟩) (v := ?_) rfl (by kernel_rfl) (by kernel_rfl) (by kernel_rfl) (fun _ _ _ h => h) (Or.inl ⟨by rfl, ?_⟩) (by assumption) ?_; rotate_left; (· (intro wS hSw; (try dsimp only at hSw); go_simp; (try with_reducible rfl))); try simp only [Act.put, pz1, pz2, pz3]
  refine wpAnyH_take (i := 2) (oi := ⟨some 37, .fieldAddr 94 (.tmp 36) 1, 0, "ref.go:85", #[⟨1, .data⟩], none⟩) (v := ?_) rfl (by kernel_rfl) (by kernel_rfl) (by kernel_rfl) (fun _ _ _ h => h) (Or.inl ⟨by rfl, ?_⟩) (by assumption) ?_; rotate_left; (· (intro wS hSw; (try dsimp only at hSw); go_simp; (try with_reducible rfl))); try simp only [Act.put, pz1, pz2, pz3]
  refine wpAnyH_take (i := 3) (oi := ⟨some 38, .load 24 (.tmp 37), 24, "ref.go:85", #[⟨2, .data⟩], none⟩) (v := ?_) rfl (by kernel_rfl) (by kernel_rfl) (by kernel_rfl) (fun _ _ _ h => h) (Or.inl ⟨by rfl, ?_⟩) (by assumption) ?_; rotate_left; (· (intro wS hSw; (try dsimp only at hSw); go_simp; (try with_reducible rfl))); try simp only [Act.put, pz1, pz2, pz3]
  refine wpAnyH_take (i := 4) (oi := ⟨some 39, .fieldAddr 27 (.tmp 4) 0, 0, "ref.go:85", #[], none⟩) (v := ?_) rfl (by kernel_rfl) (by kernel_rfl) (by kernel_rfl) (fun _ _ _ h => h) (Or.inl ⟨by rfl, ?_⟩) (by assumption) ?_; rotate_left; (· (intro wS hSw; (try dsimp only at hSw); go_simp; (try with_reducible rfl))); try simp only [Act.put, pz1, pz2, pz3]
  refine wpAnyH_take (i := 5) (oi := ⟨some 40, .load 3 (.tmp 39), 3, "ref.go:85", #[⟨4, .data⟩], none⟩) (v := ?_) rfl (by kernel_rfl) (by kernel_rfl) (by kernel_rfl) (fun _ _ _ h => h) (Or.inl ⟨by rfl, ?_⟩) (by assumption) ?_; rotate_left; (· (intro wS hSw; (try dsimp only at hSw); go_simp; (try with_reducible rfl))); try simp only [Act.put, pz1, pz2, pz3]
  refine wpAnyH_take (i := 6) (oi := ⟨some 41, .move (.tmp 0), 30, "ref.go:85", #[], none⟩) (v := ?_) rfl (by kernel_rfl) (by kernel_rfl) (by kernel_rfl) (fun _ _ _ h => h) (Or.inl ⟨by rfl, ?_⟩) (by assumption) ?_; rotate_left; (· (intro wS hSw; (try dsimp only at hSw); go_simp; (try with_reducible rfl))); try simp only [Act.put, pz1, pz2, pz3]
  refine wpAnyH_take (i := 7) (oi := ⟨some 42, .nilCheck (.tmp 41), 0, "ref.go:85", #[⟨6, .data⟩], none⟩) (v := ?_) rfl (by kernel_rfl) (by kernel_rfl) (by kernel_rfl) (fun _ _ _ h => h) (Or.inl ⟨by rfl, ?_⟩) (by assumption) ?_; rotate_left; (· (intro wS hSw; (try dsimp only at hSw); go_simp; (try with_reducible rfl))); try simp only [Act.put, pz1, pz2, pz3]
  refine wpAnyH_take (i := 8) (oi := ⟨some 43, .fieldAddr 94 (.tmp 42) 5, 0, "ref.go:85", #[⟨7, .data⟩], none⟩) (v := ?_) rfl (by kernel_rfl) (by kernel_rfl) (by kernel_rfl) (fun _ _ _ h => h) (Or.inl ⟨by rfl, ?_⟩) (by assumption) ?_; rotate_left; (· (intro wS hSw; (try dsimp only at hSw); go_simp; (try with_reducible rfl))); try simp only [Act.put, pz1, pz2, pz3]
  refine wpAnyH_take (i := 9) (oi := ⟨some 44, .load 92 (.tmp 43), 92, "ref.go:85", #[⟨8, .data⟩], none⟩) (v := ?_) rfl (by kernel_rfl) (by kernel_rfl) (by kernel_rfl) (fun _ _ _ h => h) (Or.inl ⟨by rfl, ?_⟩) (by assumption) ?_; rotate_left; (· (intro wS hSw; (try dsimp only at hSw); go_simp; (try with_reducible rfl))); try simp only [Act.put, pz1, pz2, pz3]
  refine wpAnyH_take (i := 10) (oi := ⟨some 45, .fieldAddr 27 (.tmp 4) 0, 0, "ref.go:85", #[], none⟩) (v := ?_) rfl (by kernel_rfl) (by kernel_rfl) (by kernel_rfl) (fun _ _ _ h => h) (Or.inl ⟨by rfl, ?_⟩) (by assumption) ?_; rotate_left; (· (intro wS hSw; (try dsimp only at hSw); go_simp; (try with_reducible rfl))); try simp only [Act.put, pz1, pz2, pz3]
  refine wpAnyH_take (i := 11) (oi := ⟨some 46, .load 3 (.tmp 45), 3, "ref.go:85", #[⟨10, .data⟩], none⟩) (v := ?_) rfl (by kernel_rfl) (by kernel_rfl) (by kernel_rfl) (fun _ _ _ h => h) (Or.inl ⟨by rfl, ?_⟩) (by assumption) ?_; rotate_left; (· (intro wS hSw; (try dsimp only at hSw); go_simp; (try with_reducible rfl))); try simp only [Act.put, pz1, pz2, pz3]
  refine wpAnyH_take (i := 12) (oi := ⟨some 47, .indexAddr 92 (.tmp 44) (.tmp 46), 0, "ref.go:85", #[⟨9, .data⟩, ⟨11, .data⟩], none⟩) (v := ?_) rfl (by kernel_rfl) (by kernel_rfl) (by kernel_rfl) (fun _ _ _ h => h) (Or.inl ⟨by rfl, ?_⟩) (by assumption) ?_; rotate_left; (· (intro wS hSw; (try dsimp only at hSw); go_simp; (try with_reducible rfl))); try simp only [Act.put, pz1, pz2, pz3]
  refine wpAnyH_take (i := 13) (oi := ⟨some 48, .load 3 (.tmp 47), 3, "ref.go:85", #[⟨12, .data⟩], none⟩) (v := ?_) rfl (by kernel_rfl) (by kernel_rfl) (by kernel_rfl) (fun _ _ _ h => h) (Or.inl ⟨by rfl, ?_⟩) (by assumption) ?_; rotate_left; (· (intro wS hSw; (try dsimp only at hSw); go_simp; (try with_reducible rfl))); try simp only [Act.put, pz1, pz2, pz3]
  refine wpAnyH_ready (rs := [14]) (by kernel_rfl) (by simp) ?_
  refine AllReadyH.cons (o := ⟨some 49, .call { callee := .value (.func 62), args := #[.tmp 38, .tmp 40, .tmp 48], argTypes := #[24, 3, 3] }, 4, "ref.go:85", #[⟨3, .data⟩, ⟨5, .data⟩, ⟨13, .data⟩], none⟩) rfl (fun K hK => ?_) AllReadyH.nil
  go_simp
  (go_at_call 62; ((with_reducible refine (rpfails_b fs Af nf cf _ _ _ _ (by first | exact hC.flt.sl | exact (RefW.drew hC).flt.sl) hC.nf (by omega) HFL).mono ?_); rintro e' wN ⟨rfl, hb⟩; (try have hb := undrew hb); replace hC := RefW.likeB hC hb; replace HT := Tch.thenB HT hb; replace G1 := G1.below hb G1.lt; replace HCC := RefC.below HCC hb; replace cD := cellOf hb cD; replace cX := cellOf hb cX; clear z0 z1; clear y0 y1 y2 y3 y4 y5 y6 y7 y9 y15; have z0 := G1.cell_ 0; have z1 := G1.cell_ 1; simp at z0 z1; have y0 := HCC.y0; have y1 := HCC.y1; have y2 := HCC.y2; have y3 := HCC.y3; have y4 := HCC.y4; have y5 := HCC.y5; have y6 := HCC.y6; have y7 := HCC.y7; have y9 := HCC.y9; have y15 := HCC.y15))
  go_wp2_with fail
  refine hK.out _ _ ?_ (fun hNew => ?_)
  · (first | exact ⟨y5, y9, z0, cD⟩ | assumption)
  clear hK K hHeld
  have hHeld := hNew
  clear hNew
  try simp only [Act.put, pz1, pz2, pz3]
  refine wpAnyH_take (i := 15) (oi := ⟨some 34, .assign (.tmp 49), 4, "ref.go:85", #[⟨14, .data⟩, ⟨14, .chain⟩], none⟩) (v := ?_) rfl (by kernel_rfl) (by kernel_rfl) (by kernel_rfl) (fun _ _ _ h => h) (Or.inl ⟨by rfl, ?_⟩) (by assumption) ?_; rotate_left; (· (intro wS hSw; (try dsimp only at hSw); go_simp; (try with_reducible rfl))); try simp only [Act.put, pz1, pz2, pz3]
  refine wpAnyH_done (by kernel_rfl) ?_ _
  refine NoPanic.normal ?_
  go_upto_region 9 with fail
  refine wp_region_noPanic ?_
  refine wp_region_held_drew (S := (fun w' => w'.cell? ⟨m, 7, none⟩ = some (.slice (some ⟨gN, 0, none⟩) NB NB) ∧ w'.cell? ⟨w.heap.size, 0, none⟩ = some (.int .i64 (k : Int)) ∧ w'.cell? ⟨w.heap.size, 1, none⟩ = some (.int .i64 (l : Int)) ∧ w'.cell? ⟨gN, k, none⟩ = some (.int .i64 v0))) (by kernel_rfl) ?_ (fun hHeld => ?_)
  · (first | exact ⟨y7, z0, z1, cX⟩ | assumption)
  refine wpAnyH_take (i := 0) (oi := ⟨some 51, .fieldAddr 27 (.tmp 4) 1, 0, "ref.go:87", #[], none⟩) (v := ?_) rfl (by kernel_rfl) (by kernel_rfl) (by kernel_rfl) (fun _ _ _ h => h) (Or.inl ⟨by rfl, ?_⟩) (by assumption) ?_; rotate_left; (· (intro wS hSw; (try dsimp only at hSw); go_simp; (try with_reducible rfl))); try simp only [Act.put, pz1, pz2, pz3]
  refine wpAnyH_take (i := 1) (oi := ⟨some 52, .load 3 (.tmp 51), 3, "ref.go:87", #[⟨0, .data⟩], none⟩) (v := ?_) rfl (by kernel_rfl) (by kernel_rfl) (by kernel_rfl) (fun _ _ _ h => h) (Or.inl ⟨by rfl, ?_⟩) (by assumption) ?_; rotate_left; (· (intro wS hSw; (try dsimp only at hSw); go_simp; (try with_reducible rfl))); try simp only [Act.put, pz1, pz2, pz3]
  refine wpAnyH_take (i := 2) (oi := ⟨some 53, .move (.tmp 0), 30, "ref.go:87", #[], none⟩) (v := ?_) rfl (by kernel_rfl) (by kernel_rfl) (by kernel_rfl) (fun _ _ _ h => h) (Or.inl ⟨by rfl, ?_⟩) (by assumption) ?_; rotate_left; (· (intro wS hSw; (try dsimp only at hSw); go_simp; (try with_reducible rfl))); try simp only [Act.put, pz1, pz2, pz3]
  refine wpAnyH_take (i := 3) (oi := ⟨some 54, .nilCheck (.tmp 53), 0, "ref.go:87", #[⟨2, .data⟩], none⟩) (v := ?_) rfl (by kernel_rfl) (by kernel_rfl) (by kernel_rfl) (fun _ _ _ h => h) (Or.inl ⟨by rfl, ?_⟩) (by assumption) ?_; rotate_left; (· (intro wS hSw; (try dsimp only at hSw); go_simp; (try with_reducible rfl))); try simp only [Act.put, pz1, pz2, pz3]
  refine wpAnyH_take (i := 4) (oi := ⟨some 55, .fieldAddr 94 (.tmp 54) 3, 0, "ref.go:87", #[⟨3, .data⟩], none⟩) (v := ?_) rfl (by kernel_rfl) (by kernel_rfl) (by kernel_rfl) (fun _ _ _ h => h) (Or.inl ⟨by rfl, ?_⟩) (by assumption) ?_; rotate_left; (· (intro wS hSw; (try dsimp only at hSw); go_simp; (try with_reducible rfl))); try simp only [Act.put, pz1, pz2, pz3]
  refine wpAnyH_take (i := 5) (oi := ⟨some 56, .load 92 (.tmp 55), 92, "ref.go:87", #[⟨4, .data⟩], none⟩) (v := ?_) rfl (by kernel_rfl) (by kernel_rfl) (by kernel_rfl) (fun _ _ _ h => h) (Or.inl ⟨by rfl, ?_⟩) (by assumption) ?_; rotate_left; (· (intro wS hSw; (try dsimp only at hSw); go_simp; (try with_reducible rfl))); try simp only [Act.put, pz1, pz2, pz3]
  refine wpAnyH_take (i := 6) (oi := ⟨some 57, .fieldAddr 27 (.tmp 4) 0, 0, "ref.go:87", #[], none⟩) (v := ?_) rfl (by kernel_rfl) (by kernel_rfl) (by kernel_rfl) (fun _ _ _ h => h) (Or.inl ⟨by rfl, ?_⟩) (by assumption) ?_; rotate_left; (· (intro wS hSw; (try dsimp only at hSw); go_simp; (try with_reducible rfl))); try simp only [Act.put, pz1, pz2, pz3]
  refine wpAnyH_take (i := 7) (oi := ⟨some 58, .load 3 (.tmp 57), 3, "ref.go:87", #[⟨6, .data⟩], none⟩) (v := ?_) rfl (by kernel_rfl) (by kernel_rfl) (by kernel_rfl) (fun _ _ _ h => h) (Or.inl ⟨by rfl, ?_⟩) (by assumption) ?_; rotate_left; (· (intro wS hSw; (try dsimp only at hSw); go_simp; (try with_reducible rfl))); try simp only [Act.put, pz1, pz2, pz3]
  refine wpAnyH_take (i := 8) (oi := ⟨some 59, .indexAddr 92 (.tmp 56) (.tmp 58), 0, "ref.go:87", #[⟨5, .data⟩, ⟨7, .data⟩], none⟩) (v := ?_) rfl (by kernel_rfl) (by kernel_rfl) (by kernel_rfl) (fun _ _ _ h => h) (Or.inl ⟨by rfl, ?_⟩) (by assumption) ?_; rotate_left; (· (intro wS hSw; (try dsimp only at hSw); go_simp; (try with_reducible rfl))); try simp only [Act.put, pz1, pz2, pz3]
  refine wpAnyH_take (i := 9) (oi := ⟨some 60, .load 3 (.tmp 59), 3, "ref.go:87", #[⟨8, .data⟩], none⟩) (v := ?_) rfl (by kernel_rfl) (by kernel_rfl) (by kernel_rfl) (fun _ _ _ h => h) (Or.inl ⟨by rfl, ?_⟩) (by assumption) ?_; rotate_left; (· (intro wS hSw; (try dsimp only at hSw); go_simp; (try with_reducible rfl))); try simp only [Act.put, pz1, pz2, pz3]
  refine wpAnyH_take (i := 10) (oi := ⟨some 61, .binOp .neq 3 (.tmp 52) (.tmp 60) 3, 4, "ref.go:87", #[⟨1, .data⟩, ⟨9, .data⟩], none⟩) (v := ?_) rfl (by kernel_rfl) (by kernel_rfl) (by kernel_rfl) (fun _ _ _ h => h) (Or.inl ⟨by rfl, ?_⟩) (by assumption) ?_; rotate_left; (· (intro wS hSw; (try dsimp only at hSw); go_simp; (try with_reducible rfl))); try simp only [Act.put, pz1, pz2, pz3]
  refine wpAnyH_take (i := 11) (oi := ⟨some 50, .assign (.tmp 61), 4, "ref.go:87", #[⟨10, .data⟩], none⟩) (v := ?_) rfl (by kernel_rfl) (by kernel_rfl) (by kernel_rfl) (fun _ _ _ h => h) (Or.inl ⟨by rfl, ?_⟩) (by assumption) ?_; rotate_left; (· (intro wS hSw; (try dsimp only at hSw); go_simp; (try with_reducible rfl))); try simp only [Act.put, pz1, pz2, pz3]
  refine wpAnyH_done (by kernel_rfl) ?_ _
  refine NoPanic.normal ?_
  go_upto_region 15 with fail
  refine wp_region_noPanic ?_
  refine wp_region_held_drew (S := (fun w' => w'.cell? ⟨m, 0, none⟩ = some (.int .i64 a) ∧ w'.cell? ⟨m, 1, none⟩ = some (.int .i64 b) ∧ w'.cell? ⟨m, 2, none⟩ = some (.int .i64 c) ∧ w'.cell? ⟨m, 3, none⟩ = some (.int .i64 d) ∧ w'.cell? ⟨m, 4, none⟩ = some (.int .i64 e) ∧ w'.cell? ⟨w.heap.size, 0, none⟩ = some (.int .i64 (k : Int)) ∧ w'.cell? ⟨w.heap.size, 1, none⟩ = some (.int .i64 (l : Int)))) (by kernel_rfl) ?_ (fun hHeld => ?_)
  · (first | exact ⟨y0, y1, y2, y3, y4, z0, z1⟩ | assumption)
  refine wpAnyH_take (i := 0) (oi := ⟨some 74, .move (.tmp 0), 30, "ref.go:95", #[], none⟩) (v := ?_) rfl (by kernel_rfl) (by kernel_rfl) (by kernel_rfl) (fun _ _ _ h => h) (Or.inl ⟨by rfl, ?_⟩) (by assumption) ?_; rotate_left; (· (intro wS hSw; (try dsimp only at hSw); go_simp; (try with_reducible rfl))); try simp only [Act.put, pz1, pz2, pz3]
  refine wpAnyH_take (i := 1) (oi := ⟨some 75, .nilCheck (.tmp 74), 0, "ref.go:95", #[⟨0, .data⟩], none⟩) (v := ?_) rfl (by kernel_rfl) (by kernel_rfl) (by kernel_rfl) (fun _ _ _ h => h) (Or.inl ⟨by rfl, ?_⟩) (by assumption) ?_; rotate_left; (· (intro wS hSw; (try dsimp only at hSw); go_simp; (try with_reducible rfl))); try simp only [Act.put, pz1, pz2, pz3]
  refine wpAnyH_take (i := 2) (oi := ⟨some 76, .fieldAddr 94 (.tmp 75) 0, 0, "ref.go:95", #[⟨1, .data⟩], none⟩) (v := ?_) rfl (by kernel_rfl) (by kernel_rfl) (by kernel_rfl) (fun _ _ _ h => h) (Or.inl ⟨by rfl, ?_⟩) (by assumption) ?_; rotate_left; (· (intro wS hSw; (try dsimp only at hSw); go_simp; (try with_reducible rfl))); try simp only [Act.put, pz1, pz2, pz3]
  refine wpAnyH_take (i := 3) (oi := ⟨some 77, .load 23 (.tmp 76), 23, "ref.go:95", #[⟨2, .data⟩], none⟩) (v := ?_) rfl (by kernel_rfl) (by kernel_rfl) (by kernel_rfl) (fun _ _ _ h => h) (Or.inl ⟨by rfl, ?_⟩) (by assumption) ?_; rotate_left; (· (intro wS hSw; (try dsimp only at hSw); go_simp; (try with_reducible rfl))); try simp only [Act.put, pz1, pz2, pz3]
  refine wpAnyH_take (i := 4) (oi := ⟨some 78, .load 27 (.tmp 4), 27, "ref.go:95", #[], none⟩) (v := ?_) rfl (by kernel_rfl) (by kernel_rfl) (by kernel_rfl) (fun _ _ _ h => h) (Or.inl ⟨by rfl, ?_⟩) (by assumption) ?_; rotate_left; (· (intro wS hSw; (try dsimp only at hSw); go_simp; (try with_reducible rfl))); try simp only [Act.put, pz1, pz2, pz3]
  refine wpAnyH_ready (rs := [5]) (by kernel_rfl) (by simp) ?_
  refine AllReadyH.cons (o := ⟨some 79, .call { callee := .value (.func 23), args := #[.tmp 77, .tmp 78], argTypes := #[23, 27] }, 3, "ref.go:95", #[⟨3, .data⟩, ⟨4, .data⟩], none⟩) rfl (fun K hK => ?_) AllReadyH.nil
  go_simp
  (go_at_call 23; ((with_reducible refine (rnum_c _ _ _ _ _ _ _ N _ HM hnum).mono ?_); rintro e' wN ⟨rfl, hb⟩; (try have hb := undrew hb); (try have hb := undrew hb); replace hC := RefW.likeB hC hb; replace HT := Tch.thenB HT hb; replace G1 := G1.below hb G1.lt; replace HCC := RefC.below HCC hb; replace cD := cellOf hb cD; replace cX := cellOf hb cX; clear z0 z1; clear y0 y1 y2 y3 y4 y5 y6 y7 y9 y15; have z0 := G1.cell_ 0; have z1 := G1.cell_ 1; simp at z0 z1; have y0 := HCC.y0; have y1 := HCC.y1; have y2 := HCC.y2; have y3 := HCC.y3; have y4 := HCC.y4; have y5 := HCC.y5; have y6 := HCC.y6; have y7 := HCC.y7; have y9 := HCC.y9; have y15 := HCC.y15))
  go_wp2_with fail
  refine hK.out _ _ ?_ (fun hNew => ?_)
  · (first | exact ⟨y0, y1, y2, y3, y4, z0, z1⟩ | assumption)
  clear hK K hHeld
  have hHeld := hNew
  clear hNew
  try simp only [Act.put, pz1, pz2, pz3]
  refine wpAnyH_take (i := 6) (oi := ⟨some 10, .assign (.tmp 79), 3, "ref.go:95", #[⟨5, .data⟩, ⟨5, .chain⟩, ⟨0, .phase⟩, ⟨1, .phase⟩, ⟨2, .phase⟩, ⟨3, .phase⟩, ⟨4, .phase⟩, ⟨5, .phase⟩], none⟩) (v := ?_) rfl (by kernel_rfl) (by kernel_rfl) (by kernel_rfl) (fun _ _ _ h => h) (Or.inl ⟨by rfl, ?_⟩) (by assumption) ?_; rotate_left; (· (intro wS hSw; (try dsimp only at hSw); go_simp; (try with_reducible rfl))); try simp only [Act.put, pz1, pz2, pz3]
  refine wpAnyH_done (by kernel_rfl) ?_ _
  refine NoPanic.normal ?_
  (try rw [hmm])
  (try rw [hmm2])
  obtain ⟨p, cp, HP⟩ := hC.page HRW.out HNAB.out HFIT.out
  have cN := HP.cN
  have j0 : (0 : Int) ≤ (N : Int) := by omega
  have j1 : (N : Int) < (NP : Int) := by have := HCC.hNP.out; have := HNAB.out; omega
  have HRA : Rd wN (some ⟨gA, 0, none⟩) Q 1 ((bs.take Q).map byteV) := row_take (HAR.out.keep (HT.far gA HAR.out.lt hgm)) HBL.out hQR
  have HRP := rd_dropB HP.rd hQR
  have q0 : (0 : Int) ≤ (Q : Int) := by omega
  have q1 : (Q : Int) ≤ (RW : Int) := by omega
  have q1A : (Q : Int) ≤ (cA : Int) := by omega
  have q1B : Q ≤ cA := by omega
  have q2 : RW ≤ cp := HP.cap
  have q3 : cp ≤ maxLen := HP.cap2
  by_cases hcp : cp = Q
  · have hcq : RW - Q = 0 := by omega
    have HRZ : ∀ (A : Option Addr) (w' : World), Rd w' A 0 1 (((s.tick.pageOf N RW).drop Q).map byteV) := fun A w' => ⟨by have := HRP.1; rw [hcq] at this; exact this, Or.inl rfl⟩
    have hcp := hcp.symm
    subst hcp
    go_upto_region 16 with fail
    go_cut [6] (fun s6 wx => s6 = .int .i64 0 ∧ RefW wx m gB gN gW gD L Af nf cf a b c d e fs { s.tick with X := putX s.tick.X (N * RW) (bs.take Q) } ∧ Tch (rfB m gB gN gW gD) w wx ∧ Blk wx w.heap.size 27 #[.int .i64 (k : Int), .int .i64 (l : Int)] ∧ Fresh w wx gB)
    case first =>
      refine wp_region_noPanic ?_
      refine wp_region_held_drew (S := (fun w' => w'.cell? ⟨m, 6, none⟩ = some (.slice (some ⟨gB, 0, none⟩) NP cB))) (by kernel_rfl) ?_ (fun hHeld => ?_)
      · (first | exact y6 | exact y6a | exact y6b | exact y6c | assumption)
      refine wpAnyH_take (i := 0) (oi := ⟨some 80, .move (.tmp 0), 30, "ref.go:96", #[], none⟩) (v := ?_) rfl (by kernel_rfl) (by kernel_rfl) (by kernel_rfl) (fun _ _ _ h => h) (Or.inl ⟨by rfl, ?_⟩) (by assumption) ?_; rotate_left; (· (intro wS hSw; (try dsimp only at hSw); go_simp; (try with_reducible rfl))); try simp only [Act.put, pz1, pz2, pz3]
      refine wpAnyH_take (i := 1) (oi := ⟨some 81, .nilCheck (.tmp 80), 0, "ref.go:96", #[⟨0, .data⟩], none⟩) (v := ?_) rfl (by kernel_rfl) (by kernel_rfl) (by kernel_rfl) (fun _ _ _ h => h) (Or.inl ⟨by rfl, ?_⟩) (by assumption) ?_; rotate_left; (· (intro wS hSw; (try dsimp only at hSw); go_simp; (try with_reducible rfl))); try simp only [Act.put, pz1, pz2, pz3]
      refine wpAnyH_take (i := 2) (oi := ⟨some 82, .fieldAddr 94 (.tmp 81) 2, 0, "ref.go:96", #[⟨1, .data⟩], none⟩) (v := ?_) rfl (by kernel_rfl) (by kernel_rfl) (by kernel_rfl) (fun _ _ _ h => h) (Or.inl ⟨by rfl, ?_⟩) (by assumption) ?_; rotate_left; (· (intro wS hSw; (try dsimp only at hSw); go_simp; (try with_reducible rfl))); try simp only [Act.put, pz1, pz2, pz3]
      refine wpAnyH_take (i := 3) (oi := ⟨some 83, .load 91 (.tmp 82), 91, "ref.go:96", #[⟨2, .data⟩], none⟩) (v := ?_) rfl (by kernel_rfl) (by kernel_rfl) (by kernel_rfl) (fun _ _ _ h => h) (Or.inl ⟨by rfl, ?_⟩) (by assumption) ?_; rotate_left; (· (intro wS hSw; (try dsimp only at hSw); go_simp; (try with_reducible rfl))); try simp only [Act.put, pz1, pz2, pz3]
      refine wpAnyH_take (i := 4) (oi := ⟨some 84, .move (.tmp 10), 3, "ref.go:96", #[], none⟩) (v := ?_) rfl (by kernel_rfl) (by kernel_rfl) (by kernel_rfl) (fun _ _ _ h => h) (Or.inl ⟨by rfl, ?_⟩) (by assumption) ?_; rotate_left; (· (intro wS hSw; (try dsimp only at hSw); go_simp; (try with_reducible rfl))); try simp only [Act.put, pz1, pz2, pz3]
      refine wpAnyH_take (i := 5) (oi := ⟨some 85, .move (.tmp 2), 38, "ref.go:96", #[], none⟩) (v := ?_) rfl (by kernel_rfl) (by kernel_rfl) (by kernel_rfl) (fun _ _ _ h => h) (Or.inl ⟨by rfl, ?_⟩) (by assumption) ?_; rotate_left; (· (intro wS hSw; (try dsimp only at hSw); go_simp; (try with_reducible rfl))); try simp only [Act.put, pz1, pz2, pz3]
      refine wpAnyH_take (i := 6) (oi := ⟨some 86, .move (.tmp 9), 3, "ref.go:96", #[], none⟩) (v := ?_) rfl (by kernel_rfl) (by kernel_rfl) (by kernel_rfl) (fun _ _ _ h => h) (Or.inl ⟨by rfl, ?_⟩) (by assumption) ?_; rotate_left; (· (intro wS hSw; (try dsimp only at hSw); go_simp; (try with_reducible rfl))); try simp only [Act.put, pz1, pz2, pz3]
      refine wpAnyH_take (i := 7) (oi := ⟨some 87, .slice 38 (.tmp 85) none (some (.tmp 86)) none, 38, "ref.go:96", #[⟨5, .data⟩, ⟨6, .data⟩], none⟩) (v := ?_) rfl (by kernel_rfl) (by kernel_rfl) (by kernel_rfl) (fun _ _ _ h => h) (Or.inl ⟨by rfl, ?_⟩) (by assumption) ?_; rotate_left; (· (intro wS hSw; (try dsimp only at hSw); go_simp; (try with_reducible rfl))); try simp only [Act.put, pz1, pz2, pz3]
      refine wpAnyH_take (i := 9) (oi := ⟨some 89, .move (.tmp 0), 30, "ref.go:96", #[], none⟩) (v := ?_) rfl (by kernel_rfl) (by kernel_rfl) (by kernel_rfl) (fun _ _ _ h => h) (Or.inl ⟨by rfl, ?_⟩) (by assumption) ?_; rotate_left; (· (intro wS hSw; (try dsimp only at hSw); go_simp; (try with_reducible rfl))); try simp only [Act.put, pz1, pz2, pz3]
      refine wpAnyH_take (i := 10) (oi := ⟨some 90, .nilCheck (.tmp 89), 0, "ref.go:96", #[⟨9, .data⟩], none⟩) (v := ?_) rfl (by kernel_rfl) (by kernel_rfl) (by kernel_rfl) (fun _ _ _ h => h) (Or.inl ⟨by rfl, ?_⟩) (by assumption) ?_; rotate_left; (· (intro wS hSw; (try dsimp only at hSw); go_simp; (try with_reducible rfl))); try simp only [Act.put, pz1, pz2, pz3]
      refine wpAnyH_take (i := 11) (oi := ⟨some 91, .fieldAddr 94 (.tmp 90) 2, 0, "ref.go:96", #[⟨10, .data⟩], none⟩) (v := ?_) rfl (by kernel_rfl) (by kernel_rfl) (by kernel_rfl) (fun _ _ _ h => h) (Or.inl ⟨by rfl, ?_⟩) (by assumption) ?_; rotate_left; (· (intro wS hSw; (try dsimp only at hSw); go_simp; (try with_reducible rfl))); try simp only [Act.put, pz1, pz2, pz3]
      refine wpAnyH_take (i := 12) (oi := ⟨some 92, .load 91 (.tmp 91), 91, "ref.go:96", #[⟨11, .data⟩], none⟩) (v := ?_) rfl (by kernel_rfl) (by kernel_rfl) (by kernel_rfl) (fun _ _ _ h => h) (Or.inl ⟨by rfl, ?_⟩) (by assumption) ?_; rotate_left; (· (intro wS hSw; (try dsimp only at hSw); go_simp; (try with_reducible rfl))); try simp only [Act.put, pz1, pz2, pz3]
      refine wpAnyH_take (i := 13) (oi := ⟨some 93, .move (.tmp 10), 3, "ref.go:96", #[], none⟩) (v := ?_) rfl (by kernel_rfl) (by kernel_rfl) (by kernel_rfl) (fun _ _ _ h => h) (Or.inl ⟨by rfl, ?_⟩) (by assumption) ?_; rotate_left; (· (intro wS hSw; (try dsimp only at hSw); go_simp; (try with_reducible rfl))); try simp only [Act.put, pz1, pz2, pz3]
      refine wpAnyH_take (i := 14) (oi := ⟨some 94, .indexAddr 91 (.tmp 92) (.tmp 93), 0, "ref.go:96", #[⟨12, .data⟩, ⟨13, .data⟩], none⟩) (v := ?_) rfl (by kernel_rfl) (by kernel_rfl) (by kernel_rfl) (fun _ _ _ h => h) (Or.inl ⟨by rfl, ?_⟩) (by assumption) ?_; rotate_left; (· (intro wS hSw; (try dsimp only at hSw); go_simp; (try with_reducible rfl))); try simp only [Act.put, pz1, pz2, pz3]
      refine wpAnyH_take (i := 16) (oi := ⟨some 96, .move (.tmp 9), 3, "ref.go:96", #[], none⟩) (v := ?_) rfl (by kernel_rfl) (by kernel_rfl) (by kernel_rfl) (fun _ _ _ h => h) (Or.inl ⟨by rfl, ?_⟩) (by assumption) ?_; rotate_left; (· (intro wS hSw; (try dsimp only at hSw); go_simp; (try with_reducible rfl))); try simp only [Act.put, pz1, pz2, pz3]
      refine wpAnyH_ready (rs := [8, 15]) (by kernel_rfl) (by simp) ?_
      refine (AllReadyH.cons (o := ⟨some 88, .call { callee := .builtin .append, args := #[.const (.slice none 0 0), .tmp 87], argTypes := #[38, 38] }, 38, "ref.go:96", #[⟨7, .data⟩], none⟩) rfl (fun K hK => ?_) (AllReadyH.cons (o := ⟨some 95, .load 38 (.tmp 94), 38, "ref.go:96", #[⟨14, .data⟩], none⟩) rfl (fun K hK => ?_) AllReadyH.nil))
      · obtain ⟨ti0, hi, hz0, hz1, hz2⟩ := info_parts infoByte
        refine step_app _ rfl (.const (.slice none 0 0)) (.tmp 87) _ rfl wN.heap.size 5 ti0 _ 1 1 Try.underlying38 hi hz0 hz1 hz2 rfl (by decide) (.slice none 0 0) 0 [] rfl (World.ownsRow_nil _ _ _ _) (some ⟨gA, 0, none⟩) Q cA ((bs.take Q).map byteV) rfl (HRA.keep (fun b o e j => rfl)) (oneB _) (by unfold maxLen; omega) (by omega) (Nat.le_refl _) ?_
        intro v8 w8 ho8 hg8 hv8
        clear hi hz0 hz1 hz2
        have hb8 : Below wN.heap.size wN w8 := undrew ((Below.refl _ _).grown hg8 (Nat.le_refl _) (fun j hj => by simp [Value.ownBlock] at hj))
        have y6a := cellOf hb8 y6
        have cNa := cellOf hb8 cN
        clear hg8 hv8
        refine hK.out _ _ ?_ (fun hNew => ?_)
        · (first | exact y6 | exact y6a | exact y6b | exact y6c | assumption)
        clear hK K hHeld
        have hHeld := hNew
        clear hNew
        try simp only [Act.put, pz1, pz2, pz3]
        refine wpAnyH_ready (rs := [15]) (by kernel_rfl) (by simp) ?_
        refine AllReadyH.cons (o := ⟨some 95, .load 38 (.tmp 94), 38, "ref.go:96", #[⟨14, .data⟩], none⟩) rfl (fun K hK => ?_) AllReadyH.nil
        go_simp
        refine hK.out _ _ ?_ (fun hNew => ?_)
        · (first | exact y6 | exact y6a | exact y6b | exact y6c | assumption)
        clear hK K hHeld
        have hHeld := hNew
        clear hNew
        try simp only [Act.put, pz1, pz2, pz3]
        refine wpAnyH_take (i := 17) (oi := ⟨some 97, .slice 38 (.tmp 95) (some (.tmp 96)) none none, 38, "ref.go:96", #[⟨15, .data⟩, ⟨16, .data⟩], none⟩) (v := ?_) rfl (by kernel_rfl) (by kernel_rfl) (by kernel_rfl) (fun _ _ _ h => h) (Or.inl ⟨by rfl, ?_⟩) (by assumption) ?_; rotate_left; (· (intro wS hSw; (try dsimp only at hSw); go_simp; (try with_reducible rfl))); try simp only [Act.put, pz1, pz2, pz3]
        refine wpAnyH_ready (rs := [18]) (by kernel_rfl) (by simp) ?_
        refine AllReadyH.cons (o := ⟨some 98, .call { callee := .builtin .append, args := #[.tmp 88, .tmp 97], argTypes := #[38, 38] }, 38, "ref.go:96", #[⟨8, .data⟩, ⟨17, .data⟩, ⟨8, .chain⟩], none⟩) rfl (fun K hK => ?_) AllReadyH.nil
        obtain ⟨ti0, hi, hz0, hz1, hz2⟩ := info_parts infoByte
        refine step_app _ rfl (.tmp 88) (.tmp 97) _ rfl wN.heap.size 5 ti0 _ 1 1 Try.underlying38 hi hz0 hz1 hz2 rfl (by decide) v8 _ _ rfl ho8 _ _ _ (((s.tick.pageOf N RW).drop Q).map byteV) rfl (HRZ _ _) (oneB _) (by unfold maxLen; omega) (by omega) hb8.size ?_
        intro v18 w18 ho18 hg18 hv18
        clear hi hz0 hz1 hz2
        have hb18 : Below wN.heap.size wN w18 := hb8.trans (below_app (Nat.le_refl _) hb8.size ho8 hg18)
        have ho19 := own_lenR (by omega : 0 + Q + 0 = RW) ho18
        rw [List.nil_append] at ho19
        obtain ⟨g9, c9, rfl, hR9, hge9, hc91, hc92⟩ := own_rowC ho19 (by omega)
        have y6b := cellOf hb18 y6
        have cNb := cellOf hb18 cN
        have hC18 := RefW.below hC hb18
        have fB18 := hC18.freeB
        clear hg18 hv18 ho18 ho19 ho8
        refine hK.out _ _ ?_ (fun hNew => ?_)
        · (first | exact y6 | exact y6a | exact y6b | exact y6c | assumption)
        clear hK K hHeld
        have hHeld := hNew
        clear hNew
        try simp only [Act.put, pz1, pz2, pz3]
        refine wpAnyH_take (i := 19) (oi := ⟨some 99, .indexAddr 91 (.tmp 83) (.tmp 84), 0, "ref.go:96", #[⟨3, .data⟩, ⟨4, .data⟩, ⟨0, .phase⟩, ⟨1, .phase⟩, ⟨2, .phase⟩, ⟨3, .phase⟩, ⟨4, .phase⟩, ⟨5, .phase⟩, ⟨6, .phase⟩, ⟨7, .phase⟩, ⟨8, .phase⟩, ⟨9, .phase⟩, ⟨10, .phase⟩, ⟨11, .phase⟩, ⟨12, .phase⟩, ⟨13, .phase⟩, ⟨14, .phase⟩, ⟨15, .phase⟩, ⟨16, .phase⟩, ⟨17, .phase⟩, ⟨18, .phase⟩], none⟩) (v := ?_) rfl (by kernel_rfl) (by kernel_rfl) (by kernel_rfl) (fun _ _ _ h => h) (Or.inl ⟨by rfl, ?_⟩) (by assumption) ?_; rotate_left; (· (intro wS hSw; (try dsimp only at hSw); go_simp; (try with_reducible rfl))); try simp only [Act.put, pz1, pz2, pz3]
        refine wpAnyH_ready (rs := [20]) (by kernel_rfl) (by simp) ?_
        refine AllReadyH.cons (o := ⟨none, .store 38 (.tmp 99) (.tmp 98), 0, "ref.go:96", #[⟨19, .data⟩, ⟨18, .data⟩, ⟨18, .chain⟩, ⟨0, .phase⟩, ⟨1, .phase⟩, ⟨2, .phase⟩, ⟨3, .phase⟩, ⟨4, .phase⟩, ⟨5, .phase⟩, ⟨6, .phase⟩, ⟨7, .phase⟩, ⟨8, .phase⟩, ⟨9, .phase⟩, ⟨10, .phase⟩, ⟨11, .phase⟩, ⟨12, .phase⟩, ⟨13, .phase⟩, ⟨14, .phase⟩, ⟨15, .phase⟩, ⟨16, .phase⟩, ⟨17, .phase⟩, ⟨18, .phase⟩], none⟩) rfl (fun K hK => ?_) AllReadyH.nil
        go_simp
        have y6c : (w18.setCell ⟨gB, N, none⟩ (.slice (some ⟨g9, 0, none⟩) RW c9)).cell? ⟨m, 6, none⟩ = some (.slice (some ⟨gB, 0, none⟩) NP cB) := (World.cell?_of_block (w := w18) ((Tch.setm w18 gB N (.slice (some ⟨g9, 0, none⟩) RW c9)).far m hC18.lt (fun e => hC18.ne.1.1 e))).trans y6b
        refine hK.out _ _ ?_ (fun hNew => ?_)
        · (first | exact y6 | exact y6a | exact y6b | exact y6c | assumption)
        clear hK K hHeld
        have hHeld := hNew
        clear hNew
        try simp only [Act.put, pz1, pz2, pz3]
        refine wpAnyH_done (by kernel_rfl) ?_ _
        refine NoPanic.normal ?_
        go_wp2_with fail
        go_meet
        have hRR : RowT w18 g9 5 ((bs.take Q ++ (s.tick.pageOf N RW).drop (bs.take Q).length).map byteV) := by
          rw [List.map_append, List.length_take, HBL.out, Nat.min_eq_left HQ.out]
          exact hR9
        have hSP := RefW.setPage hC18 hRR (by have := hC.ge m (Or.inl rfl); have := hC.lt; omega) (fun e => by have := hC.lts g9 e; omega) hc91 hc92 HRW.out (by rw [List.length_take]; omega) HNAB.out HFIT.out
        have hTS := Tch.setm w18 gB N (.slice (some ⟨g9, 0, none⟩) RW c9)
        have hTF : Tch (rfB m gB gN gW gD) w (w18.setCell ⟨gB, N, none⟩ (.slice (some ⟨g9, 0, none⟩) RW c9)) := ((tch_r HT).then hb18).trans (hTS.mono (fun g e => Or.inr (Or.inl e)))
        have hGF := hTS.blk (G1.below hb18 G1.lt) (fun e => by have := hC0L.out gB (Or.inr (Or.inl rfl)); omega)
        have hFF : Fresh w (w18.setCell ⟨gB, N, none⟩ (.slice (some ⟨g9, 0, none⟩) RW c9)) gB := Fresh.put ((hb18.block gB (Nat.lt_of_lt_of_le (hC0L.out gB (Or.inr (Or.inl rfl))) HT.size)).trans (HT.far gB (hC0L.out gB (Or.inr (Or.inl rfl))) (fun e => hC.ne.1.1 e.symm))) hC18.blkB (Nat.le_trans HT.size hge9)
        exact ⟨rfl, hSP, hTF, hGF, hFF⟩
      · go_simp
        refine hK.out _ _ ?_ (fun hNew => ?_)
        · (first | exact y6 | exact y6a | exact y6b | exact y6c | assumption)
        clear hK K hHeld
        have hHeld := hNew
        clear hNew
        try simp only [Act.put, pz1, pz2, pz3]
        refine wpAnyH_take (i := 17) (oi := ⟨some 97, .slice 38 (.tmp 95) (some (.tmp 96)) none none, 38, "ref.go:96", #[⟨15, .data⟩, ⟨16, .data⟩], none⟩) (v := ?_) rfl (by kernel_rfl) (by kernel_rfl) (by kernel_rfl) (fun _ _ _ h => h) (Or.inl ⟨by rfl, ?_⟩) (by assumption) ?_; rotate_left; (· (intro wS hSw; (try dsimp only at hSw); go_simp; (try with_reducible rfl))); try simp only [Act.put, pz1, pz2, pz3]
        refine wpAnyH_ready (rs := [8]) (by kernel_rfl) (by simp) ?_
        refine AllReadyH.cons (o := ⟨some 88, .call { callee := .builtin .append, args := #[.const (.slice none 0 0), .tmp 87], argTypes := #[38, 38] }, 38, "ref.go:96", #[⟨7, .data⟩], none⟩) rfl (fun K hK => ?_) AllReadyH.nil
        obtain ⟨ti0, hi, hz0, hz1, hz2⟩ := info_parts infoByte
        refine step_app _ rfl (.const (.slice none 0 0)) (.tmp 87) _ rfl wN.heap.size 5 ti0 _ 1 1 Try.underlying38 hi hz0 hz1 hz2 rfl (by decide) (.slice none 0 0) 0 [] rfl (World.ownsRow_nil _ _ _ _) (some ⟨gA, 0, none⟩) Q cA ((bs.take Q).map byteV) rfl (HRA.keep (fun b o e j => rfl)) (oneB _) (by unfold maxLen; omega) (by omega) (Nat.le_refl _) ?_
        intro v8 w8 ho8 hg8 hv8
        clear hi hz0 hz1 hz2
        have hb8 : Below wN.heap.size wN w8 := undrew ((Below.refl _ _).grown hg8 (Nat.le_refl _) (fun j hj => by simp [Value.ownBlock] at hj))
        have y6a := cellOf hb8 y6
        have cNa := cellOf hb8 cN
        clear hg8 hv8
        refine hK.out _ _ ?_ (fun hNew => ?_)
        · (first | exact y6 | exact y6a | exact y6b | exact y6c | assumption)
        clear hK K hHeld
        have hHeld := hNew
        clear hNew
        try simp only [Act.put, pz1, pz2, pz3]
        refine wpAnyH_ready (rs := [18]) (by kernel_rfl) (by simp) ?_
        refine AllReadyH.cons (o := ⟨some 98, .call { callee := .builtin .append, args := #[.tmp 88, .tmp 97], argTypes := #[38, 38] }, 38, "ref.go:96", #[⟨8, .data⟩, ⟨17, .data⟩, ⟨8, .chain⟩], none⟩) rfl (fun K hK => ?_) AllReadyH.nil
        obtain ⟨ti0, hi, hz0, hz1, hz2⟩ := info_parts infoByte
        refine step_app _ rfl (.tmp 88) (.tmp 97) _ rfl wN.heap.size 5 ti0 _ 1 1 Try.underlying38 hi hz0 hz1 hz2 rfl (by decide) v8 _ _ rfl ho8 _ _ _ (((s.tick.pageOf N RW).drop Q).map byteV) rfl (HRZ _ _) (oneB _) (by unfold maxLen; omega) (by omega) hb8.size ?_
        intro v18 w18 ho18 hg18 hv18
        clear hi hz0 hz1 hz2
        have hb18 : Below wN.heap.size wN w18 := hb8.trans (below_app (Nat.le_refl _) hb8.size ho8 hg18)
        have ho19 := own_lenR (by omega : 0 + Q + 0 = RW) ho18
        rw [List.nil_append] at ho19
        obtain ⟨g9, c9, rfl, hR9, hge9, hc91, hc92⟩ := own_rowC ho19 (by omega)
        have y6b := cellOf hb18 y6
        have cNb := cellOf hb18 cN
        have hC18 := RefW.below hC hb18
        have fB18 := hC18.freeB
        clear hg18 hv18 ho18 ho19 ho8
        refine hK.out _ _ ?_ (fun hNew => ?_)
        · (first | exact y6 | exact y6a | exact y6b | exact y6c | assumption)
        clear hK K hHeld
        have hHeld := hNew
        clear hNew
        try simp only [Act.put, pz1, pz2, pz3]
        refine wpAnyH_take (i := 19) (oi := ⟨some 99, .indexAddr 91 (.tmp 83) (.tmp 84), 0, "ref.go:96", #[⟨3, .data⟩, ⟨4, .data⟩, ⟨0, .phase⟩, ⟨1, .phase⟩, ⟨2, .phase⟩, ⟨3, .phase⟩, ⟨4, .phase⟩, ⟨5, .phase⟩, ⟨6, .phase⟩, ⟨7, .phase⟩, ⟨8, .phase⟩, ⟨9, .phase⟩, ⟨10, .phase⟩, ⟨11, .phase⟩, ⟨12, .phase⟩, ⟨13, .phase⟩, ⟨14, .phase⟩, ⟨15, .phase⟩, ⟨16, .phase⟩, ⟨17, .phase⟩, ⟨18, .phase⟩], none⟩) (v := ?_) rfl (by kernel_rfl) (by kernel_rfl) (by kernel_rfl) (fun _ _ _ h => h) (Or.inl ⟨by rfl, ?_⟩) (by assumption) ?_; rotate_left; (· (intro wS hSw; (try dsimp only at hSw); go_simp; (try with_reducible rfl))); try simp only [Act.put, pz1, pz2, pz3]
        refine wpAnyH_ready (rs := [20]) (by kernel_rfl) (by simp) ?_
        refine AllReadyH.cons (o := ⟨none, .store 38 (.tmp 99) (.tmp 98), 0, "ref.go:96", #[⟨19, .data⟩, ⟨18, .data⟩, ⟨18, .chain⟩, ⟨0, .phase⟩, ⟨1, .phase⟩, ⟨2, .phase⟩, ⟨3, .phase⟩, ⟨4, .phase⟩, ⟨5, .phase⟩, ⟨6, .phase⟩, ⟨7, .phase⟩, ⟨8, .phase⟩, ⟨9, .phase⟩, ⟨10, .phase⟩, ⟨11, .phase⟩, ⟨12, .phase⟩, ⟨13, .phase⟩, ⟨14, .phase⟩, ⟨15, .phase⟩, ⟨16, .phase⟩, ⟨17, .phase⟩, ⟨18, .phase⟩], none⟩) rfl (fun K hK => ?_) AllReadyH.nil
        go_simp
        have y6c : (w18.setCell ⟨gB, N, none⟩ (.slice (some ⟨g9, 0, none⟩) RW c9)).cell? ⟨m, 6, none⟩ = some (.slice (some ⟨gB, 0, none⟩) NP cB) := (World.cell?_of_block (w := w18) ((Tch.setm w18 gB N (.slice (some ⟨g9, 0, none⟩) RW c9)).far m hC18.lt (fun e => hC18.ne.1.1 e))).trans y6b
        refine hK.out _ _ ?_ (fun hNew => ?_)
        · (first | exact y6 | exact y6a | exact y6b | exact y6c | assumption)
        clear hK K hHeld
        have hHeld := hNew
        clear hNew
        try simp only [Act.put, pz1, pz2, pz3]
        refine wpAnyH_done (by kernel_rfl) ?_ _
        refine NoPanic.normal ?_
        go_wp2_with fail
        go_meet
        have hRR : RowT w18 g9 5 ((bs.take Q ++ (s.tick.pageOf N RW).drop (bs.take Q).length).map byteV) := by
          rw [List.map_append, List.length_take, HBL.out, Nat.min_eq_left HQ.out]
          exact hR9
        have hSP := RefW.setPage hC18 hRR (by have := hC.ge m (Or.inl rfl); have := hC.lt; omega) (fun e => by have := hC.lts g9 e; omega) hc91 hc92 HRW.out (by rw [List.length_take]; omega) HNAB.out HFIT.out
        have hTS := Tch.setm w18 gB N (.slice (some ⟨g9, 0, none⟩) RW c9)
        have hTF : Tch (rfB m gB gN gW gD) w (w18.setCell ⟨gB, N, none⟩ (.slice (some ⟨g9, 0, none⟩) RW c9)) := ((tch_r HT).then hb18).trans (hTS.mono (fun g e => Or.inr (Or.inl e)))
        have hGF := hTS.blk (G1.below hb18 G1.lt) (fun e => by have := hC0L.out gB (Or.inr (Or.inl rfl)); omega)
        have hFF : Fresh w (w18.setCell ⟨gB, N, none⟩ (.slice (some ⟨g9, 0, none⟩) RW c9)) gB := Fresh.put ((hb18.block gB (Nat.lt_of_lt_of_le (hC0L.out gB (Or.inr (Or.inl rfl))) HT.size)).trans (HT.far gB (hC0L.out gB (Or.inr (Or.inl rfl))) (fun e => hC.ne.1.1 e.symm))) hC18.blkB (Nat.le_trans HT.size hge9)
        exact ⟨rfl, hSP, hTF, hGF, hFF⟩
    case rest =>
    clear hC HT G1 HCC cD cX cN HP HRA HRP z0 z1 y0 y1 y2 y3 y4 y5 y6 y7 y9 y15
    obtain ⟨rfl, hC, HT, G1, HFr⟩ := hcut
    obtain ⟨w6, rfl⟩ : ∃ W : World, W = wc := ⟨_, rfl⟩
    obtain ⟨S0, hS0⟩ : ∃ S0 : ChS, S0 = { s.tick with X := putX s.tick.X (N * RW) (bs.take Q) } := ⟨_, rfl⟩
    rw [← hS0] at hC
    have hk00 : S0.k (k : Int) 0 = v0 := by rw [hS0]; exact HV0.out
    have hk02 : S0.k (k : Int) 2 = v2 := by rw [hS0]; exact HV2.out
    have HS0 := Lib.hid hS0
    clear hS0
    go_upto_region 17 with fail
    obtain ⟨NP0, NB0, RWc0, cB0, HCC⟩ := hC.cells
    have y7 := HCC.y7
    have cz := HCC.n0 k (by have := HCC.hNB.out; have := HK.out; omega)
    rw [hk00] at cz
    have fz := hC.freeN
    have z0 := G1.cell_ 0
    simp at z0
    have i0 : (0 : Int) ≤ (k : Int) := by omega
    have i1 : (k : Int) < (NB0 : Int) := by have := HCC.hNB.out; have := HK.out; omega
    have hwr : IntKind.i64.wrap (v0 + 1) = v0 + 1 := wrapS _ (by omega) (by omega)
    clear HCC
    go_still_tail 10, (by kernel_rfl)
    change wpList _ _ _ _ _ w6.drew
    go_wp2_with fail
    have hS := RefW.set0 hC HK.out (v0 + 1)
    have hSd := RefW.drew hS
    have hT1 := Tch.setm w6 gN k (.int .i64 (v0 + 1))
    have hTd : Tch (rfB m gB gN gW gD) w ((w6.setCell ⟨gN, k, none⟩ (.int .i64 (v0 + 1))).drew) := (HT.trans (hT1.mono (fun g e => Or.inr (Or.inr (Or.inl e))))).like
    have hG : Blk ((w6.setCell ⟨gN, k, none⟩ (.int .i64 (v0 + 1))).drew) w.heap.size 27 #[.int .i64 (k : Int), .int .i64 (l : Int)] := G1.far (p := ⟨gN, k, none⟩) (fun e => by have := hC0L.out w.heap.size (Or.inr (Or.inr (Or.inl e))); omega) _
    have hFd : Fresh w ((w6.setCell ⟨gN, k, none⟩ (.int .i64 (v0 + 1))).drew) gB := Fresh.then HFr (hT1.far gB (hC.lts gB (Or.inr (Or.inl rfl))) (fun e => hC.ne.2.1.1 e))
    clear HT hC G1 z0 y7 cz fz hS hwr hT1 i1 HFr
    generalize (w6.setCell ⟨gN, k, none⟩ (.int .i64 (v0 + 1))).drew = w7 at hSd hTd hG hFd ⊢
    have hC := hSd
    have HT := hTd
    have G1 := hG
    have HFr := hFd
    clear hSd hTd hG hFd
    go_wp2_with fail
    go_ret
    have hfin : ({ S0 with K := S0.K.set (k * 3 + 0) (v0 + 1) } : ChS) = s.progCut k N RW (bs.take (min RW s.cby.toNat)) := by
      rw [HQE.out, ← hk00, HS0.out]
      unfold ChS.progCut ChS.inc
      rw [tick_X]
    rw [← hfin]
    exact ⟨rfl, hC, HT, HFr⟩
  go_upto_region 16 with fail
  go_cut [6] (fun s6 wx => s6 = .int .i64 0 ∧ RefW wx m gB gN gW gD L Af nf cf a b c d e fs { s.tick with X := putX s.tick.X (N * RW) (bs.take Q) } ∧ Tch (rfB m gB gN gW gD) w wx ∧ Blk wx w.heap.size 27 #[.int .i64 (k : Int), .int .i64 (l : Int)] ∧ Fresh w wx gB)
  case first =>
    refine wp_region_noPanic ?_
    refine wp_region_held_drew (S := (fun w' => w'.cell? ⟨m, 6, none⟩ = some (.slice (some ⟨gB, 0, none⟩) NP cB))) (by kernel_rfl) ?_ (fun hHeld => ?_)
    · (first | exact y6 | exact y6a | exact y6b | exact y6c | assumption)
    refine wpAnyH_take (i := 0) (oi := ⟨some 80, .move (.tmp 0), 30, "ref.go:96", #[], none⟩) (v := ?_) rfl (by kernel_rfl) (by kernel_rfl) (by kernel_rfl) (fun _ _ _ h => h) (Or.inl ⟨by rfl, ?_⟩) (by assumption) ?_; rotate_left; (· (intro wS hSw; (try dsimp only at hSw); go_simp; (try with_reducible rfl))); try simp only [Act.put, pz1, pz2, pz3]
    refine wpAnyH_take (i := 1) (oi := ⟨some 81, .nilCheck (.tmp 80), 0, "ref.go:96", #[⟨0, .data⟩], none⟩) (v := ?_) rfl (by kernel_rfl) (by kernel_rfl) (by kernel_rfl) (fun _ _ _ h => h) (Or.inl ⟨by rfl, ?_⟩) (by assumption) ?_; rotate_left; (· (intro wS hSw; (try dsimp only at hSw); go_simp; (try with_reducible rfl))); try simp only [Act.put, pz1, pz2, pz3]
    refine wpAnyH_take (i := 2) (oi := ⟨some 82, .fieldAddr 94 (.tmp 81) 2, 0, "ref.go:96", #[⟨1, .data⟩], none⟩) (v := ?_) rfl (by kernel_rfl) (by kernel_rfl) (by kernel_rfl) (fun _ _ _ h => h) (Or.inl ⟨by rfl, ?_⟩) (by assumption) ?_; rotate_left; (· (intro wS hSw; (try dsimp only at hSw); go_simp; (try with_reducible rfl))); try simp only [Act.put, pz1, pz2, pz3]
    refine wpAnyH_take (i := 3) (oi := ⟨some 83, .load 91 (.tmp 82), 91, "ref.go:96", #[⟨2, .data⟩], none⟩) (v := ?_) rfl (by kernel_rfl) (by kernel_rfl) (by kernel_rfl) (fun _ _ _ h => h) (Or.inl ⟨by rfl, ?_⟩) (by assumption) ?_; rotate_left; (· (intro wS hSw; (try dsimp only at hSw); go_simp; (try with_reducible rfl))); try simp only [Act.put, pz1, pz2, pz3]
    refine wpAnyH_take (i := 4) (oi := ⟨some 84, .move (.tmp 10), 3, "ref.go:96", #[], none⟩) (v := ?_) rfl (by kernel_rfl) (by kernel_rfl) (by kernel_rfl) (fun _ _ _ h => h) (Or.inl ⟨by rfl, ?_⟩) (by assumption) ?_; rotate_left; (· (intro wS hSw; (try dsimp only at hSw); go_simp; (try with_reducible rfl))); try simp only [Act.put, pz1, pz2, pz3]
    refine wpAnyH_take (i := 5) (oi := ⟨some 85, .move (.tmp 2), 38, "ref.go:96", #[], none⟩) (v := ?_) rfl (by kernel_rfl) (by kernel_rfl) (by kernel_rfl) (fun _ _ _ h => h) (Or.inl ⟨by rfl, ?_⟩) (by assumption) ?_; rotate_left; (· (intro wS hSw; (try dsimp only at hSw); go_simp; (try with_reducible rfl))); try simp only [Act.put, pz1, pz2, pz3]
    refine wpAnyH_take (i := 6) (oi := ⟨some 86, .move (.tmp 9), 3, "ref.go:96", #[], none⟩) (v := ?_) rfl (by kernel_rfl) (by kernel_rfl) (by kernel_rfl) (fun _ _ _ h => h) (Or.inl ⟨by rfl, ?_⟩) (by assumption) ?_; rotate_left; (· (intro wS hSw; (try dsimp only at hSw); go_simp; (try with_reducible rfl))); try simp only [Act.put, pz1, pz2, pz3]
    refine wpAnyH_take (i := 7) (oi := ⟨some 87, .slice 38 (.tmp 85) none (some (.tmp 86)) none, 38, "ref.go:96", #[⟨5, .data⟩, ⟨6, .data⟩], none⟩) (v := ?_) rfl (by kernel_rfl) (by kernel_rfl) (by kernel_rfl) (fun _ _ _ h => h) (Or.inl ⟨by rfl, ?_⟩) (by assumption) ?_; rotate_left; (· (intro wS hSw; (try dsimp only at hSw); go_simp; (try with_reducible rfl))); try simp only [Act.put, pz1, pz2, pz3]
    refine wpAnyH_take (i := 9) (oi := ⟨some 89, .move (.tmp 0), 30, "ref.go:96", #[], none⟩) (v := ?_) rfl (by kernel_rfl) (by kernel_rfl) (by kernel_rfl) (fun _ _ _ h => h) (Or.inl ⟨by rfl, ?_⟩) (by assumption) ?_; rotate_left; (· (intro wS hSw; (try dsimp only at hSw); go_simp; (try with_reducible rfl))); try simp only [Act.put, pz1, pz2, pz3]
    refine wpAnyH_take (i := 10) (oi := ⟨some 90, .nilCheck (.tmp 89), 0, "ref.go:96", #[⟨9, .data⟩], none⟩) (v := ?_) rfl (by kernel_rfl) (by kernel_rfl) (by kernel_rfl) (fun _ _ _ h => h) (Or.inl ⟨by rfl, ?_⟩) (by assumption) ?_; rotate_left; (· (intro wS hSw; (try dsimp only at hSw); go_simp; (try with_reducible rfl))); try simp only [Act.put, pz1, pz2, pz3]
    refine wpAnyH_take (i := 11) (oi := ⟨some 91, .fieldAddr 94 (.tmp 90) 2, 0, "ref.go:96", #[⟨10, .data⟩], none⟩) (v := ?_) rfl (by kernel_rfl) (by kernel_rfl) (by kernel_rfl) (fun _ _ _ h => h) (Or.inl ⟨by rfl, ?_⟩) (by assumption) ?_; rotate_left; (· (intro wS hSw; (try dsimp only at hSw); go_simp; (try with_reducible rfl))); try simp only [Act.put, pz1, pz2, pz3]
    refine wpAnyH_take (i := 12) (oi := ⟨some 92, .load 91 (.tmp 91), 91, "ref.go:96", #[⟨11, .data⟩], none⟩) (v := ?_) rfl (by kernel_rfl) (by kernel_rfl) (by kernel_rfl) (fun _ _ _ h => h) (Or.inl ⟨by rfl, ?_⟩) (by assumption) ?_; rotate_left; (· (intro wS hSw; (try dsimp only at hSw); go_simp; (try with_reducible rfl))); try simp only [Act.put, pz1, pz2, pz3]
    refine wpAnyH_take (i := 13) (oi := ⟨some 93, .move (.tmp 10), 3, "ref.go:96", #[], none⟩) (v := ?_) rfl (by kernel_rfl) (by kernel_rfl) (by kernel_rfl) (fun _ _ _ h => h) (Or.inl ⟨by rfl, ?_⟩) (by assumption) ?_; rotate_left; (· (intro wS hSw; (try dsimp only at hSw); go_simp; (try with_reducible rfl))); try simp only [Act.put, pz1, pz2, pz3]
    refine wpAnyH_take (i := 14) (oi := ⟨some 94, .indexAddr 91 (.tmp 92) (.tmp 93), 0, "ref.go:96", #[⟨12, .data⟩, ⟨13, .data⟩], none⟩) (v := ?_) rfl (by kernel_rfl) (by kernel_rfl) (by kernel_rfl) (fun _ _ _ h => h) (Or.inl ⟨by rfl, ?_⟩) (by assumption) ?_; rotate_left; (· (intro wS hSw; (try dsimp only at hSw); go_simp; (try with_reducible rfl))); try simp only [Act.put, pz1, pz2, pz3]
    refine wpAnyH_take (i := 16) (oi := ⟨some 96, .move (.tmp 9), 3, "ref.go:96", #[], none⟩) (v := ?_) rfl (by kernel_rfl) (by kernel_rfl) (by kernel_rfl) (fun _ _ _ h => h) (Or.inl ⟨by rfl, ?_⟩) (by assumption) ?_; rotate_left; (· (intro wS hSw; (try dsimp only at hSw); go_simp; (try with_reducible rfl))); try simp only [Act.put, pz1, pz2, pz3]
    refine wpAnyH_ready (rs := [8, 15]) (by kernel_rfl) (by simp) ?_
    refine (AllReadyH.cons (o := ⟨some 88, .call { callee := .builtin .append, args := #[.const (.slice none 0 0), .tmp 87], argTypes := #[38, 38] }, 38, "ref.go:96", #[⟨7, .data⟩], none⟩) rfl (fun K hK => ?_) (AllReadyH.cons (o := ⟨some 95, .load 38 (.tmp 94), 38, "ref.go:96", #[⟨14, .data⟩], none⟩) rfl (fun K hK => ?_) AllReadyH.nil))
    · obtain ⟨ti0, hi, hz0, hz1, hz2⟩ := info_parts infoByte
      refine step_app _ rfl (.const (.slice none 0 0)) (.tmp 87) _ rfl wN.heap.size 5 ti0 _ 1 1 Try.underlying38 hi hz0 hz1 hz2 rfl (by decide) (.slice none 0 0) 0 [] rfl (World.ownsRow_nil _ _ _ _) (some ⟨gA, 0, none⟩) Q cA ((bs.take Q).map byteV) rfl (HRA.keep (fun b o e j => rfl)) (oneB _) (by unfold maxLen; omega) (by omega) (Nat.le_refl _) ?_
      intro v8 w8 ho8 hg8 hv8
      clear hi hz0 hz1 hz2
      have hb8 : Below wN.heap.size wN w8 := undrew ((Below.refl _ _).grown hg8 (Nat.le_refl _) (fun j hj => by simp [Value.ownBlock] at hj))
      have y6a := cellOf hb8 y6
      have cNa := cellOf hb8 cN
      clear hg8 hv8
      refine hK.out _ _ ?_ (fun hNew => ?_)
      · (first | exact y6 | exact y6a | exact y6b | exact y6c | assumption)
      clear hK K hHeld
      have hHeld := hNew
      clear hNew
      try simp only [Act.put, pz1, pz2, pz3]
      refine wpAnyH_ready (rs := [15]) (by kernel_rfl) (by simp) ?_
      refine AllReadyH.cons (o := ⟨some 95, .load 38 (.tmp 94), 38, "ref.go:96", #[⟨14, .data⟩], none⟩) rfl (fun K hK => ?_) AllReadyH.nil
      go_simp
      refine hK.out _ _ ?_ (fun hNew => ?_)
      · (first | exact y6 | exact y6a | exact y6b | exact y6c | assumption)
      clear hK K hHeld
      have hHeld := hNew
      clear hNew
      try simp only [Act.put, pz1, pz2, pz3]
      refine wpAnyH_take (i := 17) (oi := ⟨some 97, .slice 38 (.tmp 95) (some (.tmp 96)) none none, 38, "ref.go:96", #[⟨15, .data⟩, ⟨16, .data⟩], none⟩) (v := ?_) rfl (by kernel_rfl) (by kernel_rfl) (by kernel_rfl) (fun _ _ _ h => h) (Or.inl ⟨by rfl, ?_⟩) (by assumption) ?_; rotate_left; (· (intro wS hSw; (try dsimp only at hSw); go_simp; (try with_reducible rfl))); try simp only [Act.put, pz1, pz2, pz3]
      refine wpAnyH_ready (rs := [18]) (by kernel_rfl) (by simp) ?_
      refine AllReadyH.cons (o := ⟨some 98, .call { callee := .builtin .append, args := #[.tmp 88, .tmp 97], argTypes := #[38, 38] }, 38, "ref.go:96", #[⟨8, .data⟩, ⟨17, .data⟩, ⟨8, .chain⟩], none⟩) rfl (fun K hK => ?_) AllReadyH.nil
      obtain ⟨ti0, hi, hz0, hz1, hz2⟩ := info_parts infoByte
      refine step_app _ rfl (.tmp 88) (.tmp 97) _ rfl wN.heap.size 5 ti0 _ 1 1 Try.underlying38 hi hz0 hz1 hz2 rfl (by decide) v8 _ _ rfl ho8 _ _ _ (((s.tick.pageOf N RW).drop Q).map byteV) rfl ((HRP.keep (fun b o e j => by cases e; exact hb8.cell HP.lt))) (oneB _) (by unfold maxLen; omega) (by omega) hb8.size ?_
      intro v18 w18 ho18 hg18 hv18
      clear hi hz0 hz1 hz2
      have hb18 : Below wN.heap.size wN w18 := hb8.trans (below_app (Nat.le_refl _) hb8.size ho8 hg18)
      have ho19 := own_lenR (by omega : 0 + Q + (RW - Q) = RW) ho18
      rw [List.nil_append] at ho19
      obtain ⟨g9, c9, rfl, hR9, hge9, hc91, hc92⟩ := own_rowC ho19 (by omega)
      have y6b := cellOf hb18 y6
      have cNb := cellOf hb18 cN
      have hC18 := RefW.below hC hb18
      have fB18 := hC18.freeB
      clear hg18 hv18 ho18 ho19 ho8
      refine hK.out _ _ ?_ (fun hNew => ?_)
      · (first | exact y6 | exact y6a | exact y6b | exact y6c | assumption)
      clear hK K hHeld
      have hHeld := hNew
      clear hNew
      try simp only [Act.put, pz1, pz2, pz3]
      refine wpAnyH_take (i := 19) (oi := ⟨some 99, .indexAddr 91 (.tmp 83) (.tmp 84), 0, "ref.go:96", #[⟨3, .data⟩, ⟨4, .data⟩, ⟨0, .phase⟩, ⟨1, .phase⟩, ⟨2, .phase⟩, ⟨3, .phase⟩, ⟨4, .phase⟩, ⟨5, .phase⟩, ⟨6, .phase⟩, ⟨7, .phase⟩, ⟨8, .phase⟩, ⟨9, .phase⟩, ⟨10, .phase⟩, ⟨11, .phase⟩, ⟨12, .phase⟩, ⟨13, .phase⟩, ⟨14, .phase⟩, ⟨15, .phase⟩, ⟨16, .phase⟩, ⟨17, .phase⟩, ⟨18, .phase⟩], none⟩) (v := ?_) rfl (by kernel_rfl) (by kernel_rfl) (by kernel_rfl) (fun _ _ _ h => h) (Or.inl ⟨by rfl, ?_⟩) (by assumption) ?_; rotate_left; (· (intro wS hSw; (try dsimp only at hSw); go_simp; (try with_reducible rfl))); try simp only [Act.put, pz1, pz2, pz3]
      refine wpAnyH_ready (rs := [20]) (by kernel_rfl) (by simp) ?_
      refine AllReadyH.cons (o := ⟨none, .store 38 (.tmp 99) (.tmp 98), 0, "ref.go:96", #[⟨19, .data⟩, ⟨18, .data⟩, ⟨18, .chain⟩, ⟨0, .phase⟩, ⟨1, .phase⟩, ⟨2, .phase⟩, ⟨3, .phase⟩, ⟨4, .phase⟩, ⟨5, .phase⟩, ⟨6, .phase⟩, ⟨7, .phase⟩, ⟨8, .phase⟩, ⟨9, .phase⟩, ⟨10, .phase⟩, ⟨11, .phase⟩, ⟨12, .phase⟩, ⟨13, .phase⟩, ⟨14, .phase⟩, ⟨15, .phase⟩, ⟨16, .phase⟩, ⟨17, .phase⟩, ⟨18, .phase⟩], none⟩) rfl (fun K hK => ?_) AllReadyH.nil
      go_simp
      have y6c : (w18.setCell ⟨gB, N, none⟩ (.slice (some ⟨g9, 0, none⟩) RW c9)).cell? ⟨m, 6, none⟩ = some (.slice (some ⟨gB, 0, none⟩) NP cB) := (World.cell?_of_block (w := w18) ((Tch.setm w18 gB N (.slice (some ⟨g9, 0, none⟩) RW c9)).far m hC18.lt (fun e => hC18.ne.1.1 e))).trans y6b
      refine hK.out _ _ ?_ (fun hNew => ?_)
      · (first | exact y6 | exact y6a | exact y6b | exact y6c | assumption)
      clear hK K hHeld
      have hHeld := hNew
      clear hNew
      try simp only [Act.put, pz1, pz2, pz3]
      refine wpAnyH_done (by kernel_rfl) ?_ _
      refine NoPanic.normal ?_
      go_wp2_with fail
      go_meet
      have hRR : RowT w18 g9 5 ((bs.take Q ++ (s.tick.pageOf N RW).drop (bs.take Q).length).map byteV) := by
        rw [List.map_append, List.length_take, HBL.out, Nat.min_eq_left HQ.out]
        exact hR9
      have hSP := RefW.setPage hC18 hRR (by have := hC.ge m (Or.inl rfl); have := hC.lt; omega) (fun e => by have := hC.lts g9 e; omega) hc91 hc92 HRW.out (by rw [List.length_take]; omega) HNAB.out HFIT.out
      have hTS := Tch.setm w18 gB N (.slice (some ⟨g9, 0, none⟩) RW c9)
      have hTF : Tch (rfB m gB gN gW gD) w (w18.setCell ⟨gB, N, none⟩ (.slice (some ⟨g9, 0, none⟩) RW c9)) := ((tch_r HT).then hb18).trans (hTS.mono (fun g e => Or.inr (Or.inl e)))
      have hGF := hTS.blk (G1.below hb18 G1.lt) (fun e => by have := hC0L.out gB (Or.inr (Or.inl rfl)); omega)
      have hFF : Fresh w (w18.setCell ⟨gB, N, none⟩ (.slice (some ⟨g9, 0, none⟩) RW c9)) gB := Fresh.put ((hb18.block gB (Nat.lt_of_lt_of_le (hC0L.out gB (Or.inr (Or.inl rfl))) HT.size)).trans (HT.far gB (hC0L.out gB (Or.inr (Or.inl rfl))) (fun e => hC.ne.1.1 e.symm))) hC18.blkB (Nat.le_trans HT.size hge9)
      exact ⟨rfl, hSP, hTF, hGF, hFF⟩
    · go_simp
      refine hK.out _ _ ?_ (fun hNew => ?_)
      · (first | exact y6 | exact y6a | exact y6b | exact y6c | assumption)
      clear hK K hHeld
      have hHeld := hNew
      clear hNew
      try simp only [Act.put, pz1, pz2, pz3]
      refine wpAnyH_take (i := 17) (oi := ⟨some 97, .slice 38 (.tmp 95) (some (.tmp 96)) none none, 38, "ref.go:96", #[⟨15, .data⟩, ⟨16, .data⟩], none⟩) (v := ?_) rfl (by kernel_rfl) (by kernel_rfl) (by kernel_rfl) (fun _ _ _ h => h) (Or.inl ⟨by rfl, ?_⟩) (by assumption) ?_; rotate_left; (· (intro wS hSw; (try dsimp only at hSw); go_simp; (try with_reducible rfl))); try simp only [Act.put, pz1, pz2, pz3]
      refine wpAnyH_ready (rs := [8]) (by kernel_rfl) (by simp) ?_
      refine AllReadyH.cons (o := ⟨some 88, .call { callee := .builtin .append, args := #[.const (.slice none 0 0), .tmp 87], argTypes := #[38, 38] }, 38, "ref.go:96", #[⟨7, .data⟩], none⟩) rfl (fun K hK => ?_) AllReadyH.nil
      obtain ⟨ti0, hi, hz0, hz1, hz2⟩ := info_parts infoByte
      refine step_app _ rfl (.const (.slice none 0 0)) (.tmp 87) _ rfl wN.heap.size 5 ti0 _ 1 1 Try.underlying38 hi hz0 hz1 hz2 rfl (by decide) (.slice none 0 0) 0 [] rfl (World.ownsRow_nil _ _ _ _) (some ⟨gA, 0, none⟩) Q cA ((bs.take Q).map byteV) rfl (HRA.keep (fun b o e j => rfl)) (oneB _) (by unfold maxLen; omega) (by omega) (Nat.le_refl _) ?_
      intro v8 w8 ho8 hg8 hv8
      clear hi hz0 hz1 hz2
      have hb8 : Below wN.heap.size wN w8 := undrew ((Below.refl _ _).grown hg8 (Nat.le_refl _) (fun j hj => by simp [Value.ownBlock] at hj))
      have y6a := cellOf hb8 y6
      have cNa := cellOf hb8 cN
      clear hg8 hv8
      refine hK.out _ _ ?_ (fun hNew => ?_)
      · (first | exact y6 | exact y6a | exact y6b | exact y6c | assumption)
      clear hK K hHeld
      have hHeld := hNew
      clear hNew
      try simp only [Act.put, pz1, pz2, pz3]
      refine wpAnyH_ready (rs := [18]) (by kernel_rfl) (by simp) ?_
      refine AllReadyH.cons (o := ⟨some 98, .call { callee := .builtin .append, args := #[.tmp 88, .tmp 97], argTypes := #[38, 38] }, 38, "ref.go:96", #[⟨8, .data⟩, ⟨17, .data⟩, ⟨8, .chain⟩], none⟩) rfl (fun K hK => ?_) AllReadyH.nil
      obtain ⟨ti0, hi, hz0, hz1, hz2⟩ := info_parts infoByte
      refine step_app _ rfl (.tmp 88) (.tmp 97) _ rfl wN.heap.size 5 ti0 _ 1 1 Try.underlying38 hi hz0 hz1 hz2 rfl (by decide) v8 _ _ rfl ho8 _ _ _ (((s.tick.pageOf N RW).drop Q).map byteV) rfl ((HRP.keep (fun b o e j => by cases e; exact hb8.cell HP.lt))) (oneB _) (by unfold maxLen; omega) (by omega) hb8.size ?_
      intro v18 w18 ho18 hg18 hv18
      clear hi hz0 hz1 hz2
      have hb18 : Below wN.heap.size wN w18 := hb8.trans (below_app (Nat.le_refl _) hb8.size ho8 hg18)
      have ho19 := own_lenR (by omega : 0 + Q + (RW - Q) = RW) ho18
      rw [List.nil_append] at ho19
      obtain ⟨g9, c9, rfl, hR9, hge9, hc91, hc92⟩ := own_rowC ho19 (by omega)
      have y6b := cellOf hb18 y6
      have cNb := cellOf hb18 cN
      have hC18 := RefW.below hC hb18
      have fB18 := hC18.freeB
      clear hg18 hv18 ho18 ho19 ho8
      refine hK.out _ _ ?_ (fun hNew => ?_)
      · (first | exact y6 | exact y6a | exact y6b | exact y6c | assumption)
      clear hK K hHeld
      have hHeld := hNew
      clear hNew
      try simp only [Act.put, pz1, pz2, pz3]
      refine wpAnyH_take (i := 19) (oi := ⟨some 99, .indexAddr 91 (.tmp 83) (.tmp 84), 0, "ref.go:96", #[⟨3, .data⟩, ⟨4, .data⟩, ⟨0, .phase⟩, ⟨1, .phase⟩, ⟨2, .phase⟩, ⟨3, .phase⟩, ⟨4, .phase⟩, ⟨5, .phase⟩, ⟨6, .phase⟩, ⟨7, .phase⟩, ⟨8, .phase⟩, ⟨9, .phase⟩, ⟨10, .phase⟩, ⟨11, .phase⟩, ⟨12, .phase⟩, ⟨13, .phase⟩, ⟨14, .phase⟩, ⟨15, .phase⟩, ⟨16, .phase⟩, ⟨17, .phase⟩, ⟨18, .phase⟩], none⟩) (v := ?_) rfl (by kernel_rfl) (by kernel_rfl) (by kernel_rfl) (fun _ _ _ h => h) (Or.inl ⟨by rfl, ?_⟩) (by assumption) ?_; rotate_left; (· (intro wS hSw; (try dsimp only at hSw); go_simp; (try with_reducible rfl))); try simp only [Act.put, pz1, pz2, pz3]
      refine wpAnyH_ready (rs := [20]) (by kernel_rfl) (by simp) ?_
      refine AllReadyH.cons (o := ⟨none, .store 38 (.tmp 99) (.tmp 98), 0, "ref.go:96", #[⟨19, .data⟩, ⟨18, .data⟩, ⟨18, .chain⟩, ⟨0, .phase⟩, ⟨1, .phase⟩, ⟨2, .phase⟩, ⟨3, .phase⟩, ⟨4, .phase⟩, ⟨5, .phase⟩, ⟨6, .phase⟩, ⟨7, .phase⟩, ⟨8, .phase⟩, ⟨9, .phase⟩, ⟨10, .phase⟩, ⟨11, .phase⟩, ⟨12, .phase⟩, ⟨13, .phase⟩, ⟨14, .phase⟩, ⟨15, .phase⟩, ⟨16, .phase⟩, ⟨17, .phase⟩, ⟨18, .phase⟩], none⟩) rfl (fun K hK => ?_) AllReadyH.nil
      go_simp
      have y6c : (w18.setCell ⟨gB, N, none⟩ (.slice (some ⟨g9, 0, none⟩) RW c9)).cell? ⟨m, 6, none⟩ = some (.slice (some ⟨gB, 0, none⟩) NP cB) := (World.cell?_of_block (w := w18) ((Tch.setm w18 gB N (.slice (some ⟨g9, 0, none⟩) RW c9)).far m hC18.lt (fun e => hC18.ne.1.1 e))).trans y6b
      refine hK.out _ _ ?_ (fun hNew => ?_)
      · (first | exact y6 | exact y6a | exact y6b | exact y6c | assumption)
      clear hK K hHeld
      have hHeld := hNew
      clear hNew
      try simp only [Act.put, pz1, pz2, pz3]
      refine wpAnyH_done (by kernel_rfl) ?_ _
      refine NoPanic.normal ?_
      go_wp2_with fail
      go_meet
      have hRR : RowT w18 g9 5 ((bs.take Q ++ (s.tick.pageOf N RW).drop (bs.take Q).length).map byteV) := by
        rw [List.map_append, List.length_take, HBL.out, Nat.min_eq_left HQ.out]
        exact hR9
      have hSP := RefW.setPage hC18 hRR (by have := hC.ge m (Or.inl rfl); have := hC.lt; omega) (fun e => by have := hC.lts g9 e; omega) hc91 hc92 HRW.out (by rw [List.length_take]; omega) HNAB.out HFIT.out
      have hTS := Tch.setm w18 gB N (.slice (some ⟨g9, 0, none⟩) RW c9)
      have hTF : Tch (rfB m gB gN gW gD) w (w18.setCell ⟨gB, N, none⟩ (.slice (some ⟨g9, 0, none⟩) RW c9)) := ((tch_r HT).then hb18).trans (hTS.mono (fun g e => Or.inr (Or.inl e)))
      have hGF := hTS.blk (G1.below hb18 G1.lt) (fun e => by have := hC0L.out gB (Or.inr (Or.inl rfl)); omega)
      have hFF : Fresh w (w18.setCell ⟨gB, N, none⟩ (.slice (some ⟨g9, 0, none⟩) RW c9)) gB := Fresh.put ((hb18.block gB (Nat.lt_of_lt_of_le (hC0L.out gB (Or.inr (Or.inl rfl))) HT.size)).trans (HT.far gB (hC0L.out gB (Or.inr (Or.inl rfl))) (fun e => hC.ne.1.1 e.symm))) hC18.blkB (Nat.le_trans HT.size hge9)
      exact ⟨rfl, hSP, hTF, hGF, hFF⟩
  case rest =>
  clear hC HT G1 HCC cD cX cN HP HRA HRP z0 z1 y0 y1 y2 y3 y4 y5 y6 y7 y9 y15
  obtain ⟨rfl, hC, HT, G1, HFr⟩ := hcut
  obtain ⟨w6, rfl⟩ : ∃ W : World, W = wc := ⟨_, rfl⟩
  obtain ⟨S0, hS0⟩ : ∃ S0 : ChS, S0 = { s.tick with X := putX s.tick.X (N * RW) (bs.take Q) } := ⟨_, rfl⟩
  rw [← hS0] at hC
  have hk00 : S0.k (k : Int) 0 = v0 := by rw [hS0]; exact HV0.out
  have hk02 : S0.k (k : Int) 2 = v2 := by rw [hS0]; exact HV2.out
  have HS0 := Lib.hid hS0
  clear hS0
  go_upto_region 17 with fail
  obtain ⟨NP0, NB0, RWc0, cB0, HCC⟩ := hC.cells
  have y7 := HCC.y7
  have cz := HCC.n0 k (by have := HCC.hNB.out; have := HK.out; omega)
  rw [hk00] at cz
  have fz := hC.freeN
  have z0 := G1.cell_ 0
  simp at z0
  have i0 : (0 : Int) ≤ (k : Int) := by omega
  have i1 : (k : Int) < (NB0 : Int) := by have := HCC.hNB.out; have := HK.out; omega
  have hwr : IntKind.i64.wrap (v0 + 1) = v0 + 1 := wrapS _ (by omega) (by omega)
  clear HCC
  go_still_tail 10, (by kernel_rfl)
  change wpList _ _ _ _ _ w6.drew
  go_wp2_with fail
  have hS := RefW.set0 hC HK.out (v0 + 1)
  have hSd := RefW.drew hS
  have hT1 := Tch.setm w6 gN k (.int .i64 (v0 + 1))
  have hTd : Tch (rfB m gB gN gW gD) w ((w6.setCell ⟨gN, k, none⟩ (.int .i64 (v0 + 1))).drew) := (HT.trans (hT1.mono (fun g e => Or.inr (Or.inr (Or.inl e))))).like
  have hG : Blk ((w6.setCell ⟨gN, k, none⟩ (.int .i64 (v0 + 1))).drew) w.heap.size 27 #[.int .i64 (k : Int), .int .i64 (l : Int)] := G1.far (p := ⟨gN, k, none⟩) (fun e => by have := hC0L.out w.heap.size (Or.inr (Or.inr (Or.inl e))); omega) _
  have hFd : Fresh w ((w6.setCell ⟨gN, k, none⟩ (.int .i64 (v0 + 1))).drew) gB := Fresh.then HFr (hT1.far gB (hC.lts gB (Or.inr (Or.inl rfl))) (fun e => hC.ne.2.1.1 e))
  clear HT hC G1 z0 y7 cz fz hS hwr hT1 i1 HFr
  generalize (w6.setCell ⟨gN, k, none⟩ (.int .i64 (v0 + 1))).drew = w7 at hSd hTd hG hFd ⊢
  have hC := hSd
  have HT := hTd
  have G1 := hG
  have HFr := hFd
  clear hSd hTd hG hFd
  go_wp2_with fail
  go_ret
  have hfin : ({ S0 with K := S0.K.set (k * 3 + 0) (v0 + 1) } : ChS) = s.progCut k N RW (bs.take (min RW s.cby.toNat)) := by
    rw [HQE.out, ← hk00, HS0.out]
    unfold ChS.progCut ChS.inc
    rw [tick_X]
  rw [← hfin]
  exact ⟨rfl, hC, HT, HFr⟩
end Go.Proofs.Ytcpniplfkillbaa
namespace Go.Proofs.Ytcpniplfkillbaa
open Go.ChangeShapes Go.WideShapes Go.ChangeAt Go.RowKit
theorem wrong_cases {a : Int} {fs : List Flt} {s : ChS} {k l : Nat} (hk : (k : Int) < a) : (failsB fs (k : Int) (s.k (k : Int) 2) = true ∧ s.wrong a fs k l = 10) ∨ (failsB fs (k : Int) (s.k (k : Int) 2) = false ∧ (l : Int) ≠ s.k (k : Int) 0 ∧ s.wrong a fs k l = 11) ∨ (failsB fs (k : Int) (s.k (k : Int) 2) = false ∧ (l : Int) = s.k (k : Int) 0 ∧ s.wrong a fs k l = 0) := by
  unfold ChS.wrong
  rw [failed_in hk]
  cases failsB fs (k : Int) (s.k (k : Int) 2)
  · by_cases h : (l : Int) = s.k (k : Int) 0
    · exact Or.inr (Or.inr ⟨rfl, h, by simp [h]⟩)
    · exact Or.inr (Or.inl ⟨rfl, h, by simp [h]⟩)
  · exact Or.inl ⟨rfl, by simp⟩
theorem may_len {a b c d e : Int} {fs : List Flt} (h : planMay a b c d e fs = true) : fs.length ≤ 8 := by
  by_cases hl : 8 < fs.length
  · rw [planMay_long hl] at h
    cases h
  · omega
theorem rprog_all (m gB gN gW gD L : Nat) (Af : Option Addr) (nf cf : Nat) (a b c d e : Int) (fs : List Flt) (x y : Int) (bs : List Nat) (gA cA : Nat) (n : Int) (w : World) (s : ChS) (hC : RefW w m gB gN gW gD L Af nf cf a b c d e fs s) (hs : Fine s n) (hn : n ≤ 900000000) (hwt : s.Wt) (hR : RowT w gA 5 (bs.map byteV)) (hcA : bs.length ≤ cA) (hgn : ¬ rfB m gB gN gW gD gA) :
    Calls Try.prog 33 #[.pointer (some ⟨m, 0, none⟩), .agg #[.int .i64 x, .int .i64 y], .slice (some ⟨gA, 0, none⟩) bs.length cA] w fun e' w' => e' = .returned (.int .i64 (s.progZ a b c fs x y bs.length)) ∧ RefW w' m gB gN gW gD L Af nf cf a b c d e fs (s.progS a b c fs x y bs) ∧ Tch (rfB m gB gN gW gD) w w' ∧ Fresh w w' gB := by
  have h8 := may_len hC.may
  cases ho : s.on
  · have e1 : s.progZ a b c fs x y bs.length = 9 := by simp [ChS.progZ, ho]
    have e2 : s.progS a b c fs x y bs = s := by simp [ChS.progS, ho]
    rw [e1, e2]
    refine (rprog_off m gB gN gW gD L Af nf cf a b c d e fs x y _ _ _ w s hC ho).mono ?_
    rintro e' w' ⟨rfl, hb⟩
    exact ⟨rfl, hC.below hb, Tch.of_below hb, Fresh.of (hb.block gB (hC.lts gB (Or.inr (Or.inl rfl))))⟩
  cases ht : thereB a b x y
  · have e1 : s.progZ a b c fs x y bs.length = 2 := by simp [ChS.progZ, ho, ht]
    have e2 : s.progS a b c fs x y bs = s := by simp [ChS.progS, ht]
    rw [e1, e2]
    refine (rprog_arg m gB gN gW gD L Af nf cf a b c d e fs x y _ _ _ w s hC ho (Lib.hid ht)).mono ?_
    rintro e' w' ⟨rfl, hb⟩
    exact ⟨rfl, hC.below hb, Tch.of_below hb, Fresh.of (hb.block gB (hC.lts gB (Or.inr (Or.inl rfl))))⟩
  obtain ⟨k, l, hx, hy, hk, hl⟩ := there_nat ht
  obtain ⟨N, RW, hnum, hrw, hfit, r1, r2, hN2, hNN, hNab⟩ := rpage_ok hC hk hl
  by_cases hL : bs.length = RW
  · subst hL
    have hd : decide ((bs.length : Int) = c + 16) = true := decide_eq_true hrw
    have hN' : (x * b + y).toNat = N := by rw [hx, hy, ← hNN]; omega
    have hk' : x.toNat = k := by omega
    have hl' : y.toNat = l := by omega
    have e2 : s.progS a b c fs x y bs = (if s.wrong a fs k l = 0 then (if s.cutB then s.progCut k N bs.length (bs.take (min bs.length s.cby.toNat)) else s.prog k N bs.length bs) else s.tick) := by
      unfold ChS.progS
      rw [ho, ht, hd, hN', hk', hl']
      rfl
    have e1 : s.progZ a b c fs x y bs.length = (if s.cutB then 9 else s.wrong a fs k l) := by
      unfold ChS.progZ
      rw [ho, ht, hd, hk', hl']
      rfl
    rw [e1, e2]
    subst hx hy
    clear e1 e2 hk' hl' hN'
    rcases wrong_cases (fs := fs) (s := s) (l := l) hk with ⟨hf, hw⟩ | ⟨hf, hne, hw⟩ | ⟨hf, hne, hw⟩
    · rw [if_neg (show ¬ s.wrong a fs k l = 0 by rw [hw]; decide), hw]
      cases hc : s.cutB
      · refine (rprog_fail m gB gN gW gD L Af nf cf a b c d e fs k l n (some ⟨gA, 0, none⟩) cA bs.length w s hC hs.bnd hn hwt ho hk hl (Lib.hid hrw) h8 (Lib.hid hc) hf).mono ?_
        rintro e' w' ⟨rfl, hC', hT⟩
        exact ⟨by simp, hC', tch_r hT, Fresh.of (hT.far gB (hC.lts gB (Or.inr (Or.inl rfl))) (fun e => hC.ne.1.1 e.symm))⟩
      · refine (rprog_failcut m gB gN gW gD L Af nf cf a b c d e fs k l n (some ⟨gA, 0, none⟩) cA bs.length w s hC hs.bnd hn hwt ho hk hl (Lib.hid hrw) h8 (Lib.hid hc) hf).mono ?_
        rintro e' w' ⟨rfl, hC', hT⟩
        exact ⟨by simp, hC', tch_r hT, Fresh.of (hT.far gB (hC.lts gB (Or.inr (Or.inl rfl))) (fun e => hC.ne.1.1 e.symm))⟩
    · rw [if_neg (show ¬ s.wrong a fs k l = 0 by rw [hw]; decide), hw]
      cases hc : s.cutB
      · refine (rprog_ord m gB gN gW gD L Af nf cf a b c d e fs k l n (some ⟨gA, 0, none⟩) cA bs.length w s hC hs.bnd hn hwt ho hk hl (Lib.hid hrw) h8 (Lib.hid hc) hf hne).mono ?_
        rintro e' w' ⟨rfl, hC', hT⟩
        exact ⟨by simp, hC', tch_r hT, Fresh.of (hT.far gB (hC.lts gB (Or.inr (Or.inl rfl))) (fun e => hC.ne.1.1 e.symm))⟩
      · refine (rprog_ordcut m gB gN gW gD L Af nf cf a b c d e fs k l n (some ⟨gA, 0, none⟩) cA bs.length w s hC hs.bnd hn hwt ho hk hl (Lib.hid hrw) h8 (Lib.hid hc) hf hne).mono ?_
        rintro e' w' ⟨rfl, hC', hT⟩
        exact ⟨by simp, hC', tch_r hT, Fresh.of (hT.far gB (hC.lts gB (Or.inr (Or.inl rfl))) (fun e => hC.ne.1.1 e.symm))⟩
    · rw [if_pos hw, hw]
      cases hc : s.cutB
      · have := rprog_ok m gB gN gW gD L Af nf cf a b c d e fs k l N n gA _ cA hcA bs w s hC hs.bnd hn hwt ho hk hl (Lib.hid hrw) h8 (Lib.hid hc) hf hne (Lib.hid hnum) hfit r1 r2 hN2 hNab hR hgn rfl
        simpa using this
      · have := rprog_cut m gB gN gW gD L Af nf cf a b c d e fs k l N n gA _ cA hcA bs w s hC hs.bnd hn hwt ho hk hl (Lib.hid hrw) h8 (Lib.hid hc) hf hne (Lib.hid hnum) hfit r1 r2 hN2 hNab hR hgn rfl hs.cby
        simpa using this
  · have hd : decide ((bs.length : Int) = c + 16) = false := decide_eq_false (by omega)
    have e1 : s.progZ a b c fs x y bs.length = 2 := by unfold ChS.progZ; rw [ho, ht, hd]; rfl
    have e2 : s.progS a b c fs x y bs = s := by unfold ChS.progS; rw [ho, ht, hd]; rfl
    rw [e1, e2]
    refine (rprog_len m gB gN gW gD L Af nf cf a b c d e fs x y _ _ _ RW w s hC ho (Lib.hid ht) (Lib.hid hrw) hL).mono ?_
    rintro e' w' ⟨rfl, hb⟩
    exact ⟨rfl, hC.below hb, Tch.of_below hb, Fresh.of (hb.block gB (hC.lts gB (Or.inr (Or.inl rfl))))⟩
end Go.Proofs.Ytcpniplfkillbaa
namespace Go.Proofs.Ytcpniplfkillbaa
open Go.ChangeShapes Go.WideShapes Go.ChangeAt Go.RowKit
end Go.Proofs.Ytcpniplfkillbaa
namespace Go.Proofs.Ytcpniplfkillbaa
open Go.ChangeShapes Go.WideShapes Go.ChangeAt Go.RowKit
end Go.Proofs.Ytcpniplfkillbaa
namespace Go.Proofs.Ytcpniplfkillbaa
open Go.ChangeShapes Go.WideShapes Go.ChangeAt Go.RowKit
end Go.Proofs.Ytcpniplfkillbaa
namespace Go.Proofs.Ytcpniplfkillbaa
open Go.ChangeShapes Go.WideShapes Go.ChangeAt Go.RowKit
theorem Wt.tick {s : ChS} (h : s.Wt) : s.tick.Wt := by
  unfold ChS.tick
  split
  · exact ⟨fun e => (by cases e), fun e => (by cases e)⟩
  · next hc =>
    refine ⟨fun e => ?_, fun e => h.w1 e⟩
    have e' : s.armed = true := e
    have h0 := h.w0 e'
    have : ¬ s.ops + 1 = s.turn := fun e2 => hc (by unfold ChS.cutB; rw [e', decide_eq_true e2]; rfl)
    show s.ops + 1 + 1 ≤ s.turn
    omega
theorem Wt.of {s s' : ChS} (h : s.Wt) (h1 : s'.armed = s.armed) (h2 : s'.turn = s.turn) (h3 : s'.ops = s.ops) : s'.Wt :=
  ⟨fun e => by rw [h2, h3]; exact h.w0 (h1 ▸ e), fun e => by rw [h2]; exact h.w1 (h1 ▸ e)⟩
theorem Wt.read {s : ChS} (h : s.Wt) (a b x y : Int) : (s.readS a b x y).Wt := by
  unfold ChS.readS
  split
  · exact Wt.tick h
  · exact h
theorem Wt.prog {s : ChS} (h : s.Wt) (a b c : Int) (fs : List Flt) (x y : Int) (bs : List Nat) : (s.progS a b c fs x y bs).Wt := by
  unfold ChS.progS
  split
  · split
    · split
      · exact Wt.of (Wt.tick h) rfl rfl rfl
      · exact Wt.of (Wt.tick h) rfl rfl rfl
    · exact Wt.tick h
  · exact h
theorem Wt.erase {s : ChS} (h : s.Wt) (a b c : Int) (fs : List Flt) (x : Int) : (s.eraseS a b c fs x).Wt := by
  unfold ChS.eraseS
  split
  · split
    · exact Wt.tick h
    · exact Wt.of (Wt.tick h) rfl rfl rfl
  · exact h
theorem Wt.boot {s : ChS} (h : s.Wt) : s.boot.Wt := by
  unfold ChS.boot
  split
  · exact h
  · exact ⟨fun e => (by cases e), fun e => (by cases e)⟩
theorem Wt.arm {s : ChS} {n : Int} (h : s.Wt) (hb : s.Bnd n) (hn : n ≤ 900000000) (xo xb : Int) (xf : Nat) : (s.arm xo xb xf).Wt := by
  unfold ChS.arm
  split
  · next hc =>
    simp only [Bool.and_eq_true] at hc
    obtain ⟨_, hc⟩ := hc
    unfold armOkB at hc
    simp only [Bool.and_eq_true, decide_eq_true_eq] at hc
    obtain ⟨⟨⟨h1, h2⟩, h3⟩, h4⟩ := hc
    have := hb.o0
    have := hb.o1
    refine ⟨fun _ => ?_, fun _ => ?_⟩
    · show s.ops + 1 ≤ s.ops + xo
      omega
    · show s.ops + xo ≤ 4000000000
      omega
  · exact h
structure ChipL (w : World) (L : Nat) (m gx gb : Nat) (Af : Option Addr) (nf cf : Nat) (a b c d e : Int) (fs : List Flt) (s : ChS) : Prop where
  chip : ChipW w m gx gb Af nf cf a b c d e fs s
  low : ∀ g, chB m gx gb g → g < L
  lowF : fs = [] ∨ ∃ g off, Af = some ⟨g, off, none⟩ ∧ g < L
theorem ChipL.far {w w' : World} {L : Nat} {m gx gb : Nat} {Af : Option Addr} {nf cf : Nat} {a b c d e : Int} {fs : List Flt} {s : ChS} (h : ChipL w L m gx gb Af nf cf a b c d e fs s) {S : Nat → Prop} (hT : Tch S w w') (hs : ∀ g, S g → L ≤ g) : ChipL w' L m gx gb Af nf cf a b c d e fs s := by
  have hn : ∀ g, g < L → ¬ S g := fun g hg h1 => by have := hs g h1; omega
  obtain ⟨⟨⟨cx, cb, NX, NB, hX, hN, hcx, hB⟩, r1, r2, r3, n1, n2, n3, l1, l2, l3, l4⟩, lo, lf⟩ := h
  refine ⟨⟨⟨cx, cb, NX, NB, hX, hN, hcx, (hT.far m hB.lt (hn m (lo m (Or.inl rfl)))).trans hB⟩, r1.keep (hT.far gx r1.lt (hn gx (lo gx (Or.inr (Or.inl rfl))))), r2.keep (hT.far gb r2.lt (hn gb (lo gb (Or.inr (Or.inr rfl))))), ?_, n1, n2, n3, l1, l2, l3, l4⟩, lo, lf⟩
  rcases lf with lf | ⟨g, off, e, hg⟩
  · exact Or.inl lf
  · rcases r3 with r3 | ⟨g', off', e', hlt, h1, h2, h3, hc⟩
    · exact Or.inl r3
    · rw [e] at e'
      obtain ⟨rfl, rfl⟩ : g = g' ∧ off = off' := by cases e'; exact ⟨rfl, rfl⟩
      have hq : ∀ o, w'.cell? ⟨g, o, none⟩ = w.cell? ⟨g, o, none⟩ := fun o => World.cell?_of_block (w := w) (hT.far g hlt (hn g hg))
      exact Or.inr ⟨g, off, e, by have := hT.size; omega, h1, h2, h3, fun k f hf => by rw [hq, hq, hq]; exact hc k f hf⟩
theorem ChipL.next {w w' : World} {L : Nat} {m gx gb : Nat} {Af : Option Addr} {nf cf : Nat} {a b c d e : Int} {fs : List Flt} {s s' : ChS} (h : ChipL w L m gx gb Af nf cf a b c d e fs s) (hC : ChipW w' m gx gb Af nf cf a b c d e fs s') : ChipL w' L m gx gb Af nf cf a b c d e fs s' := ⟨hC, h.low, h.lowF⟩
end Go.Proofs.Ytcpniplfkillbaa
namespace Go.Proofs.Ytcpniplfkillbaa
open Go.ChangeShapes Go.WideShapes Go.ChangeAt Go.RowKit
structure Two (w : World) (L m gx gb : Nat) (Af : Option Addr) (nf cf mR gB gN gW gD : Nat) (AfR : Option Addr) (nfR cfR : Nat) (a b c d e : Int) (fs : List Flt) (s t : ChS) : Prop where
  cl : ChipL w L m gx gb Af nf cf a b c d e fs s
  rl : RefW w mR gB gN gW gD L AfR nfR cfR a b c d e fs t
theorem RefW.L_le {w : World} {m gB gN gW gD L : Nat} {Af : Option Addr} {nf cf : Nat} {a b c d e : Int} {fs : List Flt} {s : ChS} (h : RefW w m gB gN gW gD L Af nf cf a b c d e fs s) : L ≤ w.heap.size := by
  have := h.lt
  have := h.ge m (Or.inl rfl)
  omega
theorem ChipL.below_ {w w' : World} {L : Nat} {m gx gb : Nat} {Af : Option Addr} {nf cf : Nat} {a b c d e : Int} {fs : List Flt} {s : ChS} (h : ChipL w L m gx gb Af nf cf a b c d e fs s) (hb : Below w.heap.size w w') : ChipL w' L m gx gb Af nf cf a b c d e fs s := ⟨h.chip.below hb, h.low, h.lowF⟩
theorem Two.below {w w' : World} {L m gx gb : Nat} {Af : Option Addr} {nf cf mR gB gN gW gD : Nat} {AfR : Option Addr} {nfR cfR : Nat} {a b c d e : Int} {fs : List Flt} {s t : ChS} (h : Two w L m gx gb Af nf cf mR gB gN gW gD AfR nfR cfR a b c d e fs s t) (hb : Below w.heap.size w w') : Two w' L m gx gb Af nf cf mR gB gN gW gD AfR nfR cfR a b c d e fs s t := ⟨h.cl.below_ hb, h.rl.below hb⟩
theorem Two.like {w w' : World} {L m gx gb : Nat} {Af : Option Addr} {nf cf mR gB gN gW gD : Nat} {AfR : Option Addr} {nfR cfR : Nat} {a b c d e : Int} {fs : List Flt} {s t : ChS} (h : Two w L m gx gb Af nf cf mR gB gN gW gD AfR nfR cfR a b c d e fs s t) (e9 : w'.heap = w.heap := by rfl) : Two w' L m gx gb Af nf cf mR gB gN gW gD AfR nfR cfR a b c d e fs s t := ⟨⟨h.cl.chip.like e9, h.cl.low, h.cl.lowF⟩, h.rl.like e9⟩
theorem Two.drew {w : World} {L m gx gb : Nat} {Af : Option Addr} {nf cf mR gB gN gW gD : Nat} {AfR : Option Addr} {nfR cfR : Nat} {a b c d e : Int} {fs : List Flt} {s t : ChS} (h : Two w L m gx gb Af nf cf mR gB gN gW gD AfR nfR cfR a b c d e fs s t) : Two w.drew L m gx gb Af nf cf mR gB gN gW gD AfR nfR cfR a b c d e fs s t := h.like
theorem Two.chip {w w' : World} {L m gx gb : Nat} {Af : Option Addr} {nf cf mR gB gN gW gD : Nat} {AfR : Option Addr} {nfR cfR : Nat} {a b c d e : Int} {fs : List Flt} {s t s' : ChS} (h : Two w L m gx gb Af nf cf mR gB gN gW gD AfR nfR cfR a b c d e fs s t) (hC : ChipW w' m gx gb Af nf cf a b c d e fs s') (hT : Tch (chB m gx gb) w w') : Two w' L m gx gb Af nf cf mR gB gN gW gD AfR nfR cfR a b c d e fs s' t := ⟨h.cl.next hC, h.rl.far hT h.cl.low⟩
theorem Two.ref {w w' : World} {L m gx gb : Nat} {Af : Option Addr} {nf cf mR gB gN gW gD : Nat} {AfR : Option Addr} {nfR cfR : Nat} {a b c d e : Int} {fs : List Flt} {s t t' : ChS} (h : Two w L m gx gb Af nf cf mR gB gN gW gD AfR nfR cfR a b c d e fs s t) (hR : RefW w' mR gB gN gW gD L AfR nfR cfR a b c d e fs t') (hT : Tch (rfB mR gB gN gW gD) w w') : Two w' L m gx gb Af nf cf mR gB gN gW gD AfR nfR cfR a b c d e fs s t' := ⟨h.cl.far hT h.rl.ge, hR⟩
def twB (m gx gb mR gB gN gW gD : Nat) (g : Nat) : Prop := chB m gx gb g ∨ (rfB mR gB gN gW gD) g
theorem tw_c {m gx gb mR gB gN gW gD : Nat} {w w' : World} (h : Tch (chB m gx gb) w w') : Tch (twB m gx gb mR gB gN gW gD) w w' := h.mono (fun _ e => Or.inl e)
theorem tw_f {m gx gb mR gB gN gW gD : Nat} {w w' : World} (h : Tch (rfB mR gB gN gW gD) w w') : Tch (twB m gx gb mR gB gN gW gD) w w' := h.mono (fun _ e => Or.inr e)
theorem Two.lt {w : World} {L m gx gb : Nat} {Af : Option Addr} {nf cf mR gB gN gW gD : Nat} {AfR : Option Addr} {nfR cfR : Nat} {a b c d e : Int} {fs : List Flt} {s t : ChS} (h : Two w L m gx gb Af nf cf mR gB gN gW gD AfR nfR cfR a b c d e fs s t) : ∀ g, twB m gx gb mR gB gN gW gD g → g < w.heap.size := by
  intro g hg
  rcases hg with hg | hg
  · have := h.cl.low g hg
    have := h.rl.L_le
    omega
  · exact h.rl.lts g hg
theorem RefW.over {w0 w1 w w' : World} {m gB gN gW gD L : Nat} {Af : Option Addr} {nf cf : Nat} {a b c d e : Int} {fs : List Flt} {s0 s : ChS} (h0 : RefW w0 m gB gN gW gD L Af nf cf a b c d e fs s0) (h : RefW w m gB gN gW gD L Af nf cf a b c d e fs s) (v : Option Nat) (hF : Fresh w1 w gB) (h01 : ∀ i, w1.cell? ⟨gB, i, none⟩ = w0.cell? ⟨gB, i, none⟩) (hv : ∀ g, v = some g → w0.heap.size ≤ g ∧ g < w1.heap.size) (hg : w.grownBy w' v) : RefW w' m gB gN gW gD L Af nf cf a b c d e fs s := by
  have hlt0 := h0.lts
  have hP0 := h0.blk
  have hF0 := h0.flt
  obtain ⟨⟨cB, NP, NB, RW, hRW, hNP, hNB, hcB, hB, P, hPl, rB, hP⟩, rN, rW, rD, rF, hne, hge, l1, l2, l3, l4⟩ := h
  have hb : ∀ g, rfB m gB gN gW gD g → v ≠ some g := fun g h1 h2 => by
    have := hlt0 g h1
    have := (hv g h2).1
    omega
  have hk : ∀ g, g < w.heap.size → v ≠ some g → w'.heap[g]? = w.heap[g]? := fun g h1 h2 => hg.block g h1 (fun e => h2 e.symm)
  refine ⟨⟨cB, NP, NB, RW, hRW, hNP, hNB, hcB, (hk _ hB.lt (hb _ (Or.inl rfl))).trans hB, P, hPl, rB.keep (hk _ rB.lt (hb _ (Or.inr (Or.inl rfl)))), fun i p hi => ?_⟩, rN.keep (hk _ rN.lt (hb _ (Or.inr (Or.inr (Or.inl rfl))))), rW.keep (hk _ rW.lt (hb _ (Or.inr (Or.inr (Or.inr (Or.inl rfl)))))), rD.keep (hk _ rD.lt (hb _ (Or.inr (Or.inr (Or.inr (Or.inr rfl)))))), ?_, hne, hge, l1, l2, l3, l4⟩
  · have hp := hP i p hi
    refine hp.keep hg.size (hk _ hp.lt (fun e => ?_))
    have hc : w.cell? ⟨gB, i, none⟩ = some (pgV RW p) := rB.cell_ (by rw [List.getElem?_map, hi]; rfl)
    rcases hF i with h1 | ⟨g, n, c', h1, h2⟩
    · rw [h01 i] at h1
      obtain ⟨cB0, NP0, NB0, RW0, hRW0, hNP0, hNB0, hcB0, hB0, P0, hPl0, rB0, hPP⟩ := hP0
      have hiN : i < P0.length := by
        rw [hPl0]
        have : i < P.length := (List.getElem?_eq_some_iff.1 hi).1
        omega
      obtain ⟨p0, hp0⟩ : ∃ p0, P0[i]? = some p0 := ⟨_, List.getElem?_eq_getElem hiN⟩
      have hc0 : w0.cell? ⟨gB, i, none⟩ = some (pgV RW0 p0) := rB0.cell_ (by rw [List.getElem?_map, hp0]; rfl)
      rw [← h1, hc] at hc0
      have e3 : p.1 = p0.1 := by
        simp only [pgV, Option.some.injEq, Value.slice.injEq, Addr.mk.injEq] at hc0
        exact hc0.1.1
      have := (hPP i p0 hp0).lt
      have := (hv _ e).1
      omega
    · rw [hc] at h1
      have e3 : p.1 = g := by
        simp only [pgV, Option.some.injEq, Value.slice.injEq, Addr.mk.injEq] at h1
        exact h1.1.1
      have := (hv _ e).2
      omega
  · rcases hF0 with h1 | ⟨g, off, e, hlt, h1, h2, hc⟩
    · exact Or.inl h1
    · rcases rF with h3 | ⟨g', off', e', hlt', h4, h5, hc'⟩
      · exact Or.inl h3
      · rw [e] at e'
        obtain ⟨rfl, rfl⟩ : g = g' ∧ off = off' := by cases e'; exact ⟨rfl, rfl⟩
        have hq : ∀ o, w'.cell? ⟨g, o, none⟩ = w.cell? ⟨g, o, none⟩ := fun o => World.cell?_of_block (w := w) (hk g hlt' (fun e2 => by have := (hv g e2).1; omega))
        exact Or.inr ⟨g, off, e, by have := hg.size; omega, h1, h2, fun k f hf => by rw [hq, hq, hq]; exact hc' k f hf⟩
theorem Two.over {w0 w1 w w' : World} {L m gx gb : Nat} {Af : Option Addr} {nf cf mR gB gN gW gD : Nat} {AfR : Option Addr} {nfR cfR : Nat} {a b c d e : Int} {fs : List Flt} {s0 t0 s t : ChS} (h0 : Two w0 L m gx gb Af nf cf mR gB gN gW gD AfR nfR cfR a b c d e fs s0 t0) (h : Two w L m gx gb Af nf cf mR gB gN gW gD AfR nfR cfR a b c d e fs s t) (v : Option Nat) (hF : Fresh w1 w gB) (h01 : ∀ i, w1.cell? ⟨gB, i, none⟩ = w0.cell? ⟨gB, i, none⟩) (hv : ∀ g, v = some g → w0.heap.size ≤ g ∧ g < w1.heap.size) (hg : w.grownBy w' v) : Two w' L m gx gb Af nf cf mR gB gN gW gD AfR nfR cfR a b c d e fs s t := by
  refine ⟨h.cl.far (S := fun g => v = some g) ⟨hg.size, fun g h1 h2 => hg.block g h1 (fun e => h2 e.symm), hg.os, hg.tape, hg.output⟩ (fun g e => ?_), h0.rl.over h.rl v hF h01 hv hg⟩
  have := h0.rl.L_le
  have := (hv g e).1
  omega
theorem tw_rprog (L m gx gb : Nat) (Af : Option Addr) (nf cf mR gB gN gW gD : Nat) (AfR : Option Addr) (nfR cfR : Nat) (a b c d e : Int) (fs : List Flt) (x y : Int) (bs : List Nat) (gA cA Q : Nat) (n : Int) (w : World) (s t : ChS) (h : Two w L m gx gb Af nf cf mR gB gN gW gD AfR nfR cfR a b c d e fs s t) (hs : Fine t n) (hn : n ≤ 900000000) (hwt : t.Wt) (hQ : bs.length = Q) (hR : RowT w gA 5 (bs.map byteV)) (hcA : Q ≤ cA) (hgn : ¬ rfB mR gB gN gW gD gA) (Z : Int) (S : ChS) (hZ : Hid (t.progZ a b c fs x y Q = Z ∧ t.progS a b c fs x y bs = S)) :
    Calls Try.prog 33 #[.pointer (some ⟨mR, 0, none⟩), .agg #[.int .i64 x, .int .i64 y], .slice (some ⟨gA, 0, none⟩) Q cA] w fun e' w' => e' = .returned (.int .i64 Z) ∧ Two w' L m gx gb Af nf cf mR gB gN gW gD AfR nfR cfR a b c d e fs s S ∧ Tch (rfB mR gB gN gW gD) w w' ∧ Fresh w w' gB := by
  obtain ⟨rfl, rfl⟩ := hZ.out
  subst hQ
  refine (rprog_all mR gB gN gW gD L AfR nfR cfR a b c d e fs x y bs gA cA n w t h.rl hs hn hwt hR hcA hgn).mono ?_
  rintro e' w' ⟨rfl, hC, hT, hF⟩
  exact ⟨rfl, h.ref hC hT, hT, hF⟩
structure Good (s : ChS) (n : Int) : Prop where
  fine : Fine s n
  wt : s.Wt
theorem Good.mono {s : ChS} {n n' : Int} (h : Good s n) (hn : n ≤ n') : Good s n' := ⟨h.fine.mono hn, h.wt⟩
theorem Good.read {s : ChS} {n : Int} (h : Good s n) (a b x y : Int) : Good (s.readS a b x y) (n + 3) := by
  refine ⟨?_, Wt.read h.wt a b x y⟩
  unfold ChS.readS
  split
  · exact h.fine.tick.mono (by omega)
  · exact h.fine.mono (by omega)
theorem Good.prog {w : World} {m gx gb : Nat} {Af : Option Addr} {nf cf : Nat} {a b c d e : Int} {fs : List Flt} {s : ChS} (hC : ChipW w m gx gb Af nf cf a b c d e fs s) {n : Int} (h : Good s n) (x y : Int) (bs : List Nat) : Good (s.progS a b c fs x y bs) (n + 3) :=
  ⟨(prog_same hC h.fine x y bs (x.toNat + 1) (by omega)).2, Wt.prog h.wt a b c fs x y bs⟩
theorem Good.erase {w : World} {m gx gb : Nat} {Af : Option Addr} {nf cf : Nat} {a b c d e : Int} {fs : List Flt} {s : ChS} (hC : ChipW w m gx gb Af nf cf a b c d e fs s) {n : Int} (h : Good s n) (hn : 20 ≤ n) (x : Int) : Good (s.eraseS a b c fs x) (n + 3) :=
  ⟨(erase_same hC h.fine hn x (x.toNat + 1) (by omega)).2, Wt.erase h.wt a b c fs x⟩
theorem Good.arm {s : ChS} {n : Int} (h : Good s n) (hn : n ≤ 900000000) (xo xb : Int) (xf : Nat) (hf : xf < 256) : Good (s.arm xo xb xf) (n + 3) :=
  ⟨((arm_same s 0 0 h.fine xo xb xf 0 hf).2).mono (by omega), Wt.arm h.wt h.fine.bnd hn xo xb xf⟩
theorem Good.boot {s : ChS} {n : Int} (h : Good s n) : Good s.boot (n + 3) := ⟨((boot_same s 0 0 h.fine 0).2).mono (by omega), Wt.boot h.wt⟩
end Go.Proofs.Ytcpniplfkillbaa
namespace Go.Proofs.Ytcpniplfkillbaa
open Go.ChangeShapes Go.WideShapes Go.ChangeAt Go.RowKit
def jumpsQ (J : Nat → Act → World → Prop) (Q : Exit → Act → World → Prop) : Exit → Act → World → Prop
  | .goto l, a, w => J l a w
  | e, a, w => Q e a w
theorem jumpsQ_mono {J J' : Nat → Act → World → Prop} {Q : Exit → Act → World → Prop} (h : ∀ l a w, J l a w → J' l a w) : ∀ e a w, jumpsQ J Q e a w → jumpsQ J' Q e a w := by
  intro e a w hq
  cases e with
  | goto l => exact h l a w hq
  | normal => exact hq
  | exit id => exact hq
  | ret => exact hq
  | panic ch => exact hq
  | outgrown => exact hq
theorem wp_to {P : Program} {c : Code} {a : Act} {w : World} {Q Q' : Exit → Act → World → Prop} (h : c.wp P Q a w) (hq : ∀ e a w, Q e a w → Q' e a w) : c.wp P Q' a w := by
  intro b k cs
  obtain ⟨e, a1, w1, h1, h2⟩ := h b k cs
  exact ⟨e, a1, w1, hq _ _ _ h1, h2⟩
theorem wp_scope_many {P : Program} {c : Code} {a : Act} {w : World} {Q : Exit → Act → World → Prop} (J : Nat → Nat → Act → World → Prop)
    (pass : ∀ l n a' w', J l n a' w' → (∀ l' m a1 w1, m < n → J l' m a1 w1 → ∀ rest, findLabel c l' = some (.seq .skip rest) → rest.wp P (jumpsQ (fun l a w => ∃ m, m < n ∧ J l m a w) Q) a1 w1) → ∃ rest, findLabel c l = some (.seq .skip rest) ∧ rest.wp P (jumpsQ (fun l a w => ∃ m, m < n ∧ J l m a w) Q) a' w')
    (first : (∀ l n a' w', J l n a' w' → ∀ rest, findLabel c l = some (.seq .skip rest) → rest.wp P (jumpsQ (fun l a w => ∃ n, J l n a w) Q) a' w') → c.wp P (jumpsQ (fun l a w => ∃ n, J l n a w) Q) a w) : (Code.scope c).wp P Q a w := by
  have step : ∀ n l a w, J l n a w → ∃ rest, findLabel c l = some (.seq .skip rest) ∧ rest.wp P (jumpsQ (fun l a w => ∃ m, m < n ∧ J l m a w) Q) a w := by
    intro n
    induction n using Nat.strongRecOn with
    | _ n ih =>
      intro l a w h
      refine pass l n a w h (fun l' m a1 w1 hm hJ rest hr => ?_)
      obtain ⟨rest', hr', hw⟩ := ih m hm l' a1 w1 hJ
      rw [hr] at hr'
      cases hr'
      exact wp_to hw (jumpsQ_mono fun l a w ⟨k, hk, h⟩ => ⟨k, by omega, h⟩)
  have hfirst := first (fun l n a' w' hJ rest hr => by
    obtain ⟨rest', hr', hw⟩ := step n l a' w' hJ
    rw [hr] at hr'
    cases hr'
    exact wp_to hw (jumpsQ_mono fun l a w ⟨k, hk, h⟩ => ⟨k, h⟩))
  intro b k cs
  have key : ∀ n l a w, J l n a w → ∃ rest, findLabel c l = some rest ∧ ∃ e a' w', Q e a' w' ∧ Arrives P (lone (b.at a (.code rest :: .inScope c :: k)) cs w) b k cs e a' w' := by
    intro n
    induction n using Nat.strongRecOn with
    | _ n ih =>
      intro l a w hJ
      obtain ⟨rest, hr, hw⟩ := step n l a w hJ
      replace hw := wp_seq (x := .skip) (wp_skip hw)
      refine ⟨_, hr, ?_⟩
      obtain ⟨e, a₁, w₁, hq, harr⟩ := hw b (.inScope c :: k) cs
      cases e with
      | normal => exact ⟨.normal, a₁, w₁, hq, Steps.trans harr (.one step_inScope)⟩
      | exit id => exact ⟨.exit id, a₁, w₁, hq, fun k' hk => harr k' (by simp [exitTo, hk])⟩
      | goto l' =>
        obtain ⟨m, hlt, hJ'⟩ := hq
        obtain ⟨rest2, hr2, e₂, a₂, w₂, hq₂, harr₂⟩ := ih m hlt l' a₁ w₁ hJ'
        have hg : gotoIn l' (.inScope c :: k) = some (.code rest2 :: .inScope c :: k) := by simp [gotoIn, hr2]
        exact ⟨e₂, a₂, w₂, hq₂, .of_steps (harr _ hg) harr₂⟩
      | ret => exact ⟨_, a₁, w₁, hq, harr⟩
      | panic ch => exact ⟨_, a₁, w₁, hq, harr⟩
      | outgrown => exact ⟨_, a₁, w₁, hq, harr⟩
  obtain ⟨e, a₁, w₁, hq, harr⟩ := hfirst b (.inScope c :: k) cs
  cases e with
  | normal => exact ⟨.normal, a₁, w₁, hq, .head step_scope (Steps.trans harr (.one step_inScope))⟩
  | exit id => exact ⟨.exit id, a₁, w₁, hq, fun k' hk => .head step_scope (harr k' (by simp [exitTo, hk]))⟩
  | goto l' =>
    obtain ⟨m, hJ'⟩ := hq
    obtain ⟨rest2, hr2, e₂, a₂, w₂, hq₂, harr₂⟩ := key m l' a₁ w₁ hJ'
    have hg : gotoIn l' (.inScope c :: k) = some (.code rest2 :: .inScope c :: k) := by simp [gotoIn, hr2]
    exact ⟨e₂, a₂, w₂, hq₂, .of_steps (.head step_scope (harr _ hg)) harr₂⟩
  | ret => exact ⟨_, a₁, w₁, hq, .of_steps (.one step_scope) harr⟩
  | panic ch => exact ⟨_, a₁, w₁, hq, .of_steps (.one step_scope) harr⟩
  | outgrown => exact ⟨_, a₁, w₁, hq, .of_steps (.one step_scope) harr⟩
theorem jumpsQ_ret {J : Nat → Act → World → Prop} {Q : Exit → Act → World → Prop} {a : Act} {w : World} (h : Q .ret a w) : jumpsQ J Q .ret a w := h
end Go.Proofs.Ytcpniplfkillbaa
