/- Read of a chip. -/
import Derived.Test.YtdfojhkpfbnmgaaAw1
import Derived.StillTailTactics
import Derived.Test.YtdfojhkpfbnmgaaChecked
import Derived.WalkKit
import Derived.ProofKit
import Derived.WalkSpells
import Derived.WalkLawsBesides
import Derived.Lib.Hide
import Derived.Outline
import Derived.Deep.RegionHeld3
import Derived.Deep.DrawnRows
import Derived.Deep.DeepCutAuto
import Derived.Deep.Slices
import Derived.Laws.BytesString
import Derived.Laws.BytesArg
import Derived.Laws.Cells
import Derived.Laws.Strings
import Derived.Maps.AppendAt
set_option linter.unusedSimpArgs false
set_option linter.unusedVariables false
set_option maxRecDepth 100000
set_option maxHeartbeats 16000000
namespace Go.Proofs.Ytdfojhkpfbnmgaa
open Go.ChangeShapes Go.WideShapes Go.ChangeAt Go.RowKit
theorem cell10 {w : World} {m gx gb : Nat} {Af : Option Addr} {nf cf : Nat} {a b c d e : Int} {fs : List Flt} {s : ChS} (h : ChipW w m gx gb Af nf cf a b c d e fs s) : w.cell? ⟨m, 10, none⟩ = some (.bool s.on) := by
  obtain ⟨cx, cb, NX, NB, hX, hN, hcx, hB⟩ := h.blk
  exact hB.cell_ 10
theorem begin_b (m gx gb : Nat) (Af : Option Addr) (nf cf : Nat) (a b c d e : Int) (fs : List Flt) (n : Int) (T : Bool) (w : World) (s : ChS) (hC : ChipW w m gx gb Af nf cf a b c d e fs s) (hb : s.Bnd n) (hn : n ≤ 1000000000) (hcu : Hid (s.cutB = T)) : Calls Try.prog 34 #[.pointer (some ⟨m, 0, none⟩)] w fun e' w' => e' = .returned (.bool T) ∧ ChipW w' m gx gb Af nf cf a b c d e fs s.tick ∧ Tch (chB m gx gb) w w' := by
  have := begin_any m gx gb Af nf cf a b c d e fs n w s hC hb hn
  rwa [hcu.out] at this
theorem tick_X (s : ChS) : s.tick.X = s.X := by unfold ChS.tick; split <;> rfl
theorem tick_K (s : ChS) : s.tick.K = s.K := by unfold ChS.tick; split <;> rfl
def ChS.pageOf (s : ChS) (n RW : Nat) : List Nat := (s.X.drop (n * RW)).take RW
theorem chip_rd {w : World} {m gx gb : Nat} {Af : Option Addr} {nf cf : Nat} {a b c d e : Int} {fs : List Flt} {s : ChS} (h : ChipW w m gx gb Af nf cf a b c d e fs s) {n RW : Nat} (hf : n * RW + RW ≤ s.X.length) : Rd w (some ⟨gx, n * RW, none⟩) RW 1 ((s.pageOf n RW).map byteV) := by
  refine ⟨by simp [ChS.pageOf]; omega, Or.inr ⟨gx, n * RW, rfl, fun j u hu => h.rX.cell_ ?_⟩⟩
  rw [List.getElem?_map] at hu ⊢
  unfold ChS.pageOf at hu
  rw [List.getElem?_take] at hu
  split at hu
  · rw [List.getElem?_drop] at hu
    exact hu
  · cases hu
theorem read_off (m gx gb : Nat) (Af : Option Addr) (nf cf : Nat) (a b c d e : Int) (fs : List Flt) (x y : Int) (w : World) (s : ChS) (hC : ChipW w m gx gb Af nf cf a b c d e fs s) (ho : s.on = false) : Calls Try.prog 25 #[.pointer (some ⟨m, 0, none⟩), .agg #[.int .i64 x, .int .i64 y]] w fun e' w' => e' = .returned (.tuple #[.slice none 0 0, .int .i64 9]) ∧ Below w.heap.size w w' := by
  have HB0 : Below w.heap.size w (w.alloc (.cells #[.int .i64 x, .int .i64 y] 53)) := (Below.refl _ _).alloc (Nat.le_refl _) _
  have G1 : Blk (w.alloc (.cells #[.int .i64 x, .int .i64 y] 53)) w.heap.size 53 #[.int .i64 x, .int .i64 y] := Blk.new_ _ _ _
  have z0 : (w.alloc (.cells #[.int .i64 x, .int .i64 y] 53)).cell? ⟨w.heap.size, 0, none⟩ = some (.int .i64 x) := G1.cell_ 0
  have z1 : (w.alloc (.cells #[.int .i64 x, .int .i64 y] 53)).cell? ⟨w.heap.size, 1, none⟩ = some (.int .i64 y) := G1.cell_ 1
  have hC := hC.below HB0
  have y10 := cell10 hC
  rw [ho] at y10
  clear ho
  clear hC
  go_enter Try.func25, Try.ntmps25
  go_wp2_with fail
  go_ret2
  exact ⟨rfl, HB0⟩
theorem read_arg (m gx gb : Nat) (Af : Option Addr) (nf cf : Nat) (a b c d e : Int) (fs : List Flt) (x y : Int) (w : World) (s : ChS) (hC : ChipW w m gx gb Af nf cf a b c d e fs s) (ho : s.on = true) (ht : Hid (thereB a b x y = false)) : Calls Try.prog 25 #[.pointer (some ⟨m, 0, none⟩), .agg #[.int .i64 x, .int .i64 y]] w fun e' w' => e' = .returned (.tuple #[.slice none 0 0, .int .i64 2]) ∧ Below w.heap.size w w' := by
  have HB0 : Below w.heap.size w (w.alloc (.cells #[.int .i64 x, .int .i64 y] 53)) := (Below.refl _ _).alloc (Nat.le_refl _) _
  have G1 : Blk (w.alloc (.cells #[.int .i64 x, .int .i64 y] 53)) w.heap.size 53 #[.int .i64 x, .int .i64 y] := Blk.new_ _ _ _
  have z0 : (w.alloc (.cells #[.int .i64 x, .int .i64 y] 53)).cell? ⟨w.heap.size, 0, none⟩ = some (.int .i64 x) := G1.cell_ 0
  have z1 : (w.alloc (.cells #[.int .i64 x, .int .i64 y] 53)).cell? ⟨w.heap.size, 1, none⟩ = some (.int .i64 y) := G1.cell_ 1
  have hC := hC.below HB0
  have y10 := cell10 hC
  rw [ho] at y10
  clear ho
  go_enter Try.func25, Try.ntmps25
  go_wp2_with (go_at_call 50; ((with_reducible refine (hasPage_b _ _ _ _ _ _ _ _ _ _ _ _ _ _ _ _ _ hC ht).mono ?_); rintro e' wN ⟨rfl, hb⟩; replace hC := hC.below hb; replace HB0 := btr HB0 HB0.size hb; replace G1 := G1.below hb G1.lt; clear z0 z1 y10; have z0 := G1.cell_ 0; have z1 := G1.cell_ 1; simp at z0 z1))
  go_ret2
  exact ⟨rfl, HB0⟩
theorem read_cut (m gx gb : Nat) (Af : Option Addr) (nf cf : Nat) (a b c d e : Int) (fs : List Flt) (x y n : Int) (w : World) (s : ChS) (hC : ChipW w m gx gb Af nf cf a b c d e fs s) (hbn : s.Bnd n) (hn : n ≤ 1000000000) (ho : s.on = true) (ht : Hid (thereB a b x y = true)) (hcu : Hid (s.cutB = true)) : Calls Try.prog 25 #[.pointer (some ⟨m, 0, none⟩), .agg #[.int .i64 x, .int .i64 y]] w fun e' w' => e' = .returned (.tuple #[.slice none 0 0, .int .i64 9]) ∧ ChipW w' m gx gb Af nf cf a b c d e fs s.tick ∧ Tch (chB m gx gb) w w' := by
  have hnb : ¬ chB m gx gb w.heap.size := by have := hC.lt; unfold chB; omega
  have HB0 : Below w.heap.size w (w.alloc (.cells #[.int .i64 x, .int .i64 y] 53)) := (Below.refl _ _).alloc (Nat.le_refl _) _
  have G1 : Blk (w.alloc (.cells #[.int .i64 x, .int .i64 y] 53)) w.heap.size 53 #[.int .i64 x, .int .i64 y] := Blk.new_ _ _ _
  have z0 : (w.alloc (.cells #[.int .i64 x, .int .i64 y] 53)).cell? ⟨w.heap.size, 0, none⟩ = some (.int .i64 x) := G1.cell_ 0
  have z1 : (w.alloc (.cells #[.int .i64 x, .int .i64 y] 53)).cell? ⟨w.heap.size, 1, none⟩ = some (.int .i64 y) := G1.cell_ 1
  have hC := hC.below HB0
  have y10 := cell10 hC
  rw [ho] at y10
  clear ho
  go_enter Try.func25, Try.ntmps25
  go_wp2_with (first
    | (go_at_call 50; ((with_reducible refine (hasPage_b _ _ _ _ _ _ _ _ _ _ _ _ _ _ _ _ _ hC ht).mono ?_); rintro e' wN ⟨rfl, hb⟩; replace hC := hC.below hb; replace HB0 := btr HB0 HB0.size hb; replace G1 := G1.below hb G1.lt; clear z0 z1 y10; have z0 := G1.cell_ 0; have z1 := G1.cell_ 1; simp at z0 z1))
    | (go_at_call 34; ((with_reducible refine (begin_b _ _ _ _ _ _ _ _ _ _ _ _ _ _ _ _ hC hbn hn hcu).mono ?_); rintro e' wN ⟨rfl, hC2, hT⟩; have HT := (Tch.of_below (S := chB m gx gb) HB0).trans hT; have hlt0 := hT.far w.heap.size G1.lt hnb; replace G1 : Blk wN w.heap.size _ _ := hlt0.trans G1; clear hlt0 hC; have hC := hC2; clear hC2 z0 z1; have z0 := G1.cell_ 0; have z1 := G1.cell_ 1; simp at z0 z1)))
  go_ret2
  exact ⟨rfl, hC, HT⟩
end Go.Proofs.Ytdfojhkpfbnmgaa
namespace Go.Proofs.Ytdfojhkpfbnmgaa
open Go.ChangeShapes Go.WideShapes Go.ChangeAt Go.RowKit
def putX (X : List Nat) (F : Nat) (vs : List Nat) : List Nat := X.take F ++ vs ++ X.drop (F + vs.length)
theorem putX_len {X : List Nat} {F : Nat} {vs : List Nat} (h : F + vs.length ≤ X.length) : (putX X F vs).length = X.length := by
  simp [putX]
  omega
theorem setK_chip {w : World} {m gx gb : Nat} {Af : Option Addr} {nf cf : Nat} {a b c d e : Int} {fs : List Flt} {s : ChS} (hC : ChipW w m gx gb Af nf cf a b c d e fs s) {i : Nat} (hi : i < s.K.length) (v : Int) : ChipW (w.setCell ⟨gb, i, none⟩ (.int .i64 v)) m gx gb Af nf cf a b c d e fs { s with K := s.K.set i v } ∧ Tch (chB m gx gb) w (w.setCell ⟨gb, i, none⟩ (.int .i64 v)) := by
  obtain ⟨⟨cx, cb, NX, NB, hX, hN, hcx, hB⟩, rX, rK, rF, n1, n2, n3, l1, l2, l3, l4⟩ := hC
  refine ⟨⟨⟨cx, cb, NX, NB, hX, hN, hcx, hB.far n2 _⟩, rX.far n3 _, ?_, ?_, n1, n2, n3, l1, by simp; exact l2, l3, l4⟩, Tch.set w ⟨gb, i, none⟩ (.int .i64 v) chB_b⟩
  · have := rK.set_ (i := i) (by simpa using hi) (.int .i64 v)
    rw [← List.map_set] at this
    exact this
  · have hT := Tch.setm w gb i (.int .i64 v)
    exact rF.keep hT.size (fun g hg g1 g2 g3 => hT.far g hg g3)
theorem chip_k {w : World} {m gx gb : Nat} {Af : Option Addr} {nf cf : Nat} {a b c d e : Int} {fs : List Flt} {s : ChS} (hC : ChipW w m gx gb Af nf cf a b c d e fs s) {k j : Nat} (hk : (k : Int) < a) (hj : j < 3) : ∃ cb NB : Nat, (k : Int) < (NB : Int) ∧ w.cell? ⟨m, 7, none⟩ = some (.slice (some ⟨gb, 0, none⟩) NB cb) ∧ w.cell? ⟨gb, k * 3 + j, none⟩ = some (.int .i64 (s.k (k : Int) j)) ∧ (∀ i, w.frozen? ⟨gb, i, none⟩ = false) ∧ k * 3 + j < s.K.length := by
  obtain ⟨cx, cb, NX, NB, hNX, hNB, y0, y1, y2, y3, y4, y5, y6, y7, y8, y9, y10, y11, y12, y13, y14, y15, yx, yb, fm, fx, fb⟩ := hC.get
  have h1 := hNB.out
  have h2 := hC.lenK
  refine ⟨cb, NB, by omega, y7, ?_, fb, by omega⟩
  rw [yb _ (by omega)]
  unfold ChS.k
  rw [Int.toNat_natCast, Nat.mul_comm]
def ChS.inc (s : ChS) (k j : Nat) : ChS := { s with K := s.K.set (k * 3 + j) (s.k (k : Int) j + 1) }
theorem raw_bb (a b c d e : Int) (RW : Nat) (w : World) (hm : Hid (mayB a b c d e = true)) (hr : Hid ((RW : Int) = c + 16)) :
    Calls Try.prog 28 #[.agg #[.int .i64 a, .int .i64 b, .int .i64 c, .int .i64 d, .int .i64 e]] w fun e' w' => e' = .returned (.int .i64 (RW : Int)) ∧ Below w.heap.size w w' := by
  have q := raw_b a b c d e w hm
  rwa [← hr.out] at q
end Go.Proofs.Ytdfojhkpfbnmgaa
namespace Go.Proofs.Ytdfojhkpfbnmgaa
open Go.ChangeShapes Go.WideShapes Go.ChangeAt Go.RowKit
theorem getD_setN (A : List Int) (p q : Nat) (v d : Int) : (A.set p v).getD q d = if p = q ∧ p < A.length then v else A.getD q d := by
  rw [List.getD_eq_getElem?_getD, List.getD_eq_getElem?_getD, List.getElem?_set]
  by_cases h : p = q
  · subst h
    by_cases h2 : p < A.length
    · simp [h2]
    · simp [h2]
  · simp [h]
def ChS.prog (s : ChS) (k N RW : Nat) (bs : List Nat) : ChS := (({ s.tick with X := putX s.X (N * RW) bs } : ChS).inc k 0).inc k 2
def ChS.progCut (s : ChS) (k N RW : Nat) (bs : List Nat) : ChS := ({ s.tick with X := putX s.X (N * RW) bs } : ChS).inc k 0
end Go.Proofs.Ytdfojhkpfbnmgaa
namespace Go.Proofs.Ytdfojhkpfbnmgaa
open Go.ChangeShapes Go.WideShapes Go.ChangeAt Go.RowKit
theorem tick_cby (s : ChS) : s.tick.cby = s.cby := by unfold ChS.tick; split <;> rfl
end Go.Proofs.Ytdfojhkpfbnmgaa
namespace Go.Proofs.Ytdfojhkpfbnmgaa
open Go.ChangeShapes Go.WideShapes Go.ChangeAt Go.RowKit
theorem setX_chip {w : World} {m gx gb : Nat} {Af : Option Addr} {nf cf : Nat} {a b c d e : Int} {fs : List Flt} {s : ChS} (hC : ChipW w m gx gb Af nf cf a b c d e fs s) {i : Nat} (hi : i < s.X.length) (v : Nat) : ChipW (w.setCell ⟨gx, i, none⟩ (byteV v)) m gx gb Af nf cf a b c d e fs { s with X := s.X.set i v } ∧ Tch (chB m gx gb) w (w.setCell ⟨gx, i, none⟩ (byteV v)) := by
  obtain ⟨⟨cx, cb, NX, NB, hX, hN, hcx, hB⟩, rX, rK, rF, n1, n2, n3, l1, l2, l3, l4⟩ := hC
  refine ⟨⟨⟨cx, cb, NX, NB, by simp; exact hX, hN, hcx, hB.far n1 _⟩, ?_, rK.far (fun e => n3 e.symm) _, ?_, n1, n2, n3, by simp; exact l1, l2, l3, l4⟩, Tch.set w ⟨gx, i, none⟩ (byteV v) chB_x⟩
  · have := rX.set_ (i := i) (by simpa using hi) (byteV v)
    rw [← List.map_set] at this
    exact this
  · have hT := Tch.setm w gx i (byteV v)
    exact rF.keep hT.size (fun g hg g1 g2 g3 => hT.far g hg g2)
theorem putX_get {X : List Nat} {F : Nat} {vs : List Nat} (h : F + vs.length ≤ X.length) (j : Nat) : (putX X F vs)[j]? = if j < F then X[j]? else if j < F + vs.length then vs[j - F]? else X[j]? := by
  have ht : (X.take F).length = F := by rw [List.length_take]; omega
  unfold putX
  by_cases h1 : j < F
  · rw [if_pos h1, List.append_assoc, List.getElem?_append_left (by rw [ht]; exact h1), List.getElem?_take_of_lt h1]
  · rw [if_neg h1]
    by_cases h2 : j < F + vs.length
    · rw [if_pos h2, List.append_assoc, List.getElem?_append_right (by rw [ht]; omega), ht, List.getElem?_append_left (by omega)]
    · rw [if_neg h2, List.getElem?_append_right (by rw [List.length_append, ht]; omega), List.length_append, ht, List.getElem?_drop]
      congr 1
      omega
theorem putX_step {X : List Nat} {F i v : Nat} (h : F + i < X.length) : (putX X F (List.replicate i v)).set (F + i) v = putX X F (List.replicate (i + 1) v) := by
  apply List.ext_getElem?
  intro j
  have hl : (putX X F (List.replicate i v)).length = X.length := putX_len (by simp; omega)
  rw [List.getElem?_set, putX_get (by simp; omega), putX_get (by simp; omega), List.length_replicate, List.length_replicate, hl]
  by_cases hj : F + i = j
  · subst hj
    rw [if_pos rfl, if_pos h, if_neg (by omega), if_pos (by omega), List.getElem?_replicate, if_pos (by omega)]
  · rw [if_neg hj]
    by_cases h1 : j < F
    · rw [if_pos h1, if_pos h1]
    · rw [if_neg h1, if_neg h1]
      by_cases h2 : j < F + i
      · rw [if_pos h2, if_pos (by omega), List.getElem?_replicate, List.getElem?_replicate, if_pos (by omega), if_pos (by omega)]
      · rw [if_neg h2, if_neg (by omega)]
theorem putX_zero (X : List Nat) (F : Nat) : putX X F [] = X := by simp [putX]
theorem putX_at {X : List Nat} {F i v : Nat} (h : F + i < X.length) : F + i < (putX X F (List.replicate i v)).length := by
  rw [putX_len (by simp; omega)]
  exact h
def ChS.wipe (s : ChS) (b : Int) (k SZ f : Nat) : ChS := { s with X := putX s.X (k * SZ) (List.replicate SZ f), K := ((s.K.set (k * 3) (if f = 255 then 0 else b)).set (k * 3 + 1) (s.k (k : Int) 1 + 1)).set (k * 3 + 2) (s.k (k : Int) 2 + 1) }
theorem blk_ok {w : World} {m gx gb : Nat} {Af : Option Addr} {nf cf : Nat} {a b c d e : Int} {fs : List Flt} {s : ChS} (hC : ChipW w m gx gb Af nf cf a b c d e fs s) {k : Nat} (hk : (k : Int) < a) : ∃ SZ RW : Nat, (RW : Int) = c + 16 ∧ (SZ : Int) = b * (c + 16) ∧ k * SZ + SZ ≤ s.X.length ∧ SZ ≤ 640 ∧ 160 ≤ SZ := by
  obtain ⟨hm, -, -⟩ := planMay_bd hC.may
  obtain ⟨g1, g2, g3, g4, g5, g6, -⟩ := may_bd hm
  obtain ⟨p1, p2⟩ := mul_bd (x := b) (y := c + 16) (lo := 4) (hi := 8) (l2 := 40) (h2 := 80) g3 g4 (by omega) (by omega) (by omega) (by omega)
  obtain ⟨RW, hR⟩ : ∃ RW : Nat, (RW : Int) = c + 16 := ⟨(c + 16).toNat, by omega⟩
  obtain ⟨SZ, hS⟩ : ∃ SZ : Nat, (SZ : Int) = b * (c + 16) := ⟨(b * (c + 16)).toNat, by omega⟩
  refine ⟨SZ, RW, hR, hS, ?_, by omega, by omega⟩
  have h3 : ((k : Int) + 1) * (SZ : Int) ≤ a * (SZ : Int) := Int.mul_le_mul_of_nonneg_right (by omega) (by omega)
  rw [Int.add_mul, Int.one_mul] at h3
  have h4 : ((k * SZ + SZ : Nat) : Int) = (k : Int) * (SZ : Int) + (SZ : Int) := by push_cast; rfl
  have h5 : a * (SZ : Int) = a * b * (c + 16) := by rw [hS, Int.mul_assoc]
  rw [hC.lenX]
  omega
theorem kS_other (s : ChS) (K : List Int) (k j i : Nat) (v : Int) (h : i ≠ k * 3 + j) (hK : s.K = K.set i v) : s.k (k : Int) j = K.getD (3 * k + j) 0 := by
  unfold ChS.k
  rw [hK, Int.toNat_natCast, getD_setN, if_neg (by omega)]
theorem wipe_any (m gx gb : Nat) (Af : Option Addr) (nf cf : Nat) (a b c d e : Int) (fs : List Flt) (k f SZ RW : Nat) (n : Int) (w : World) (s : ChS) (hC : ChipW w m gx gb Af nf cf a b c d e fs s) (hbn : s.Bnd n) (hn : n ≤ 1000000000) (hk : (k : Int) < a) (hf : f < 256) (HRW : Hid ((RW : Int) = c + 16)) (hSZ : (SZ : Int) = b * (c + 16)) (hfit0 : k * SZ + SZ ≤ s.X.length) (z1 : SZ ≤ 640) (z2 : 160 ≤ SZ) : Calls Try.prog 35 #[.pointer (some ⟨m, 0, none⟩), .int .i64 (k : Int), .int .u8 (f : Int)] w fun e' w' => (∃ v, e' = .returned v) ∧ ChipW w' m gx gb Af nf cf a b c d e fs (s.wipe b k SZ f) ∧ Tch (chB m gx gb) w w' := by
  have HM := Lib.hid (planMay_bd hC.may).1
  obtain ⟨g1, g2, g3, g4, -⟩ := may_bd HM.out
  obtain ⟨y0, y1, y2, y3, y4⟩ := geo5 hC
  have HT : Tch (chB m gx gb) w w := Tch.refl _
  obtain ⟨F, hF⟩ : ∃ F, k * SZ = F := ⟨_, rfl⟩
  have hbd : F ≤ 20 * 640 := by rw [← hF]; exact Nat.mul_le_mul (by omega) z1
  have hFi : (k : Int) * (SZ : Int) = (F : Int) := by rw [← hF]; push_cast; rfl
  have hEi : ((k : Int) + 1) * (SZ : Int) = (F : Int) + (SZ : Int) := by rw [Int.add_mul, Int.one_mul, hFi]
  have hrs : b * (RW : Int) = (SZ : Int) := by rw [hSZ, HRW.out]
  have hw1 : IntKind.i64.wrap (SZ : Int) = (SZ : Int) := wrapS _ (by omega) (by omega)
  have hfit := hfit0
  rw [hF] at hfit
  have HFIT := Lib.hid hfit
  have HF := Lib.hid hF
  have kb : (k : Int) ≤ 20 := by omega
  have k0 : (0 : Int) ≤ (k : Int) := by omega
  have f0 : (0 : Int) ≤ (F : Int) := by omega
  have f1 : (F : Int) ≤ 12800 := by omega
  have s0 : (0 : Int) ≤ (SZ : Int) := by omega
  have s1 : (SZ : Int) ≤ 640 := by omega
  clear hfit hF hfit0 hSZ hbd
  go_enter Try.func35, Try.ntmps35
  go_upto_region 0 with fail
  refine wp_region_noPanic ?_
  refine wp_region_held_drew (S := (fun w' => w'.cell? ⟨m, 0, none⟩ = some (.int .i64 a) ∧ w'.cell? ⟨m, 1, none⟩ = some (.int .i64 b) ∧ w'.cell? ⟨m, 2, none⟩ = some (.int .i64 c) ∧ w'.cell? ⟨m, 3, none⟩ = some (.int .i64 d) ∧ w'.cell? ⟨m, 4, none⟩ = some (.int .i64 e))) (by kernel_rfl) ?_ (fun hHeld => ?_)
  · (first | exact ⟨y0, y1, y2, y3, y4⟩ | assumption)
  refine tk 0 ⟨some 10, .move (.tmp 0), 26, "chip.go:167", #[], none⟩ ?_; try simp only [Act.put, pz1, pz2, pz3]
  refine tk 1 ⟨some 11, .nilCheck (.tmp 10), 0, "chip.go:167", #[⟨0, .data⟩], none⟩ ?_; try simp only [Act.put, pz1, pz2, pz3]
  refine tk 2 ⟨some 12, .fieldAddr 68 (.tmp 11) 0, 0, "chip.go:167", #[⟨1, .data⟩], none⟩ ?_; try simp only [Act.put, pz1, pz2, pz3]
  refine tk 3 ⟨some 13, .fieldAddr 23 (.tmp 12) 1, 0, "chip.go:167", #[⟨2, .data⟩], none⟩ ?_; try simp only [Act.put, pz1, pz2, pz3]
  refine tk 4 ⟨some 14, .load 3 (.tmp 13), 3, "chip.go:167", #[⟨3, .data⟩], none⟩ ?_; try simp only [Act.put, pz1, pz2, pz3]
  refine tk 5 ⟨some 15, .move (.tmp 0), 26, "chip.go:167", #[], none⟩ ?_; try simp only [Act.put, pz1, pz2, pz3]
  refine tk 6 ⟨some 16, .nilCheck (.tmp 15), 0, "chip.go:167", #[⟨5, .data⟩], none⟩ ?_; try simp only [Act.put, pz1, pz2, pz3]
  refine tk 7 ⟨some 17, .fieldAddr 68 (.tmp 16) 0, 0, "chip.go:167", #[⟨6, .data⟩], none⟩ ?_; try simp only [Act.put, pz1, pz2, pz3]
  refine tk 8 ⟨some 18, .load 23 (.tmp 17), 23, "chip.go:167", #[⟨7, .data⟩], none⟩ ?_; try simp only [Act.put, pz1, pz2, pz3]
  refine wpAnyH_ready (rs := [9]) (by kernel_rfl) (by simp) ?_
  refine AllReadyH.cons (o := ⟨some 19, .call { callee := .value (.func 28), args := #[.tmp 18], argTypes := #[23] }, 3, "chip.go:167", #[⟨8, .data⟩], none⟩) rfl (fun K hK => ?_) AllReadyH.nil
  go_simp
  (go_at_call 28; ((with_reducible refine (raw_bb _ _ _ _ _ RW _ HM HRW).mono ?_); rintro e' wN ⟨rfl, hb⟩; (try have hb := undrew hb); replace hC := ChipW.likeB hC hb; replace HT := HT.then hb; clear y0 y1 y2 y3 y4; obtain ⟨y0, y1, y2, y3, y4⟩ := geo5 hC))
  go_wp2_with fail
  refine hK.out _ _ ?_ (fun hNew => ?_)
  · (first | exact ⟨y0, y1, y2, y3, y4⟩ | assumption)
  clear hK K hHeld
  have hHeld := hNew
  clear hNew
  try simp only [Act.put, pz1, pz2, pz3]
  refine tk 10 ⟨some 20, .binOp .mul 3 (.tmp 14) (.tmp 19) 3, 3, "chip.go:167", #[⟨4, .data⟩, ⟨9, .data⟩], none⟩ ?_; try simp only [Act.put, pz1, pz2, pz3]
  refine tk 11 ⟨some 6, .assign (.tmp 20), 3, "chip.go:167", #[⟨10, .data⟩, ⟨9, .chain⟩, ⟨0, .phase⟩, ⟨1, .phase⟩, ⟨2, .phase⟩, ⟨3, .phase⟩, ⟨4, .phase⟩, ⟨5, .phase⟩, ⟨6, .phase⟩, ⟨7, .phase⟩, ⟨8, .phase⟩, ⟨9, .phase⟩, ⟨10, .phase⟩], none⟩ ?_; try simp only [Act.put, pz1, pz2, pz3]
  refine wpAnyH_done (by kernel_rfl) ?_ _
  refine NoPanic.normal ?_
  obtain ⟨cx, hcx, y6⟩ := cells6x hC
  have hcx2 := HFIT.out
  obtain ⟨NX, hNX⟩ : ∃ NX, s.X.length = NX := ⟨_, rfl⟩
  rw [hNX] at y6 hcx hcx2
  clear hNX
  have e1 : F + SZ ≤ cx := by omega
  have e2 : ¬ cx = F := by omega
  have e3 : (F : Int) + (SZ : Int) ≤ (cx : Int) := by omega
  have hFS : F + SZ - F = SZ := by omega
  go_wp2_with fail
  rw [hFS]
  obtain ⟨w1, hw1'⟩ : ∃ V : World, V = wN := ⟨_, rfl⟩
  rw [← hw1'] at hC HT ⊢
  clear hw1' hb y0 y1 y2 y3 y4 y6 hEi hFi hrs hw1 hFS
  go_loopw [35] (fun s35 wr => ∃ i : Nat, i ≤ SZ ∧ s35 = .int .i64 (i : Int) ∧ ChipW wr m gx gb Af nf cf a b c d e fs { s with X := putX s.X F (List.replicate i f) } ∧ Tch (chB m gx gb) w wr) (fun s35 _ => SZ - (intOf s35).toNat)
  case atStart => exact ⟨0, Nat.zero_le _, rfl, by rw [List.replicate_zero, putX_zero]; first | exact hC | exact ChipW.drew hC, by first | exact HT | exact HT.like⟩
  case round =>
    clear hC HT
    obtain ⟨i, hi, rfl, hC, HT⟩ := hrel
    by_cases hlt : i < SZ
    · have i0 : (0 : Int) ≤ (i : Int) := by omega
      have i1 : (i : Int) < (SZ : Int) := by omega
      have hin : F + i < s.X.length := by have := HFIT.out; omega
      have hs := setX_chip hC (putX_at (v := f) hin) f
      have c0 : wr.cell? ⟨gx, F + i, none⟩ = some (byteV ((putX s.X F (List.replicate i f)).getD (F + i) 0)) := by
        refine hC.rX.cell_ ?_
        rw [List.getElem?_map, List.getElem?_eq_getElem (putX_at (v := f) hin), List.getD_eq_getElem?_getD, List.getElem?_eq_getElem (putX_at (v := f) hin)]
        rfl
      unfold byteV at c0
      have fx := hC.rX.free (F + i)
      have hs1 := hs.1
      have hs2 := HT.trans hs.2
      dsimp only at hs1
      rw [putX_step hin] at hs1
      have HS1 := Lib.hid hs1
      clear hs hs1 hin hC
      go_wp2_with fail
      go_roundw
      case rel => exact ⟨i + 1, by omega, by go_num, HS1.out, hs2⟩
      case measure => simp [intOf]; omega
    · have hiS : i = SZ := by omega
      subst hiS
      clear hlt hi
      obtain ⟨S0, hS0⟩ : ∃ S0 : ChS, S0 = { s with X := putX s.X F (List.replicate i f) } := ⟨_, rfl⟩
      rw [← hS0] at hC
      have HS0 := Lib.hid hS0
      have hK0 : S0.K = s.K := by rw [hS0]
      clear hS0
      obtain ⟨cb0, NB0, hkN0, y7, c0, fb0, hl0⟩ := chip_k (j := 0) hC hk (by omega)
      rw [Nat.add_zero] at c0 hl0
      obtain ⟨v0, hv0⟩ : ∃ v, S0.k (k : Int) 0 = v := ⟨_, rfl⟩
      rw [hv0] at c0
      have q1 := setK_chip hC hl0 0
      have hC1 := q1.1
      have hT1 := HT.trans q1.2
      obtain ⟨S1, hS1⟩ : ∃ S1 : ChS, S1 = { S0 with K := S0.K.set (k * 3) 0 } := ⟨_, rfl⟩
      rw [← hS1] at hC1
      have hK1 : S1.K = S0.K.set (k * 3) 0 := by rw [hS1]
      have HS1 := Lib.hid hS1
      have kk : ∀ j, 0 ≤ s.k (k : Int) j ∧ s.k (k : Int) j ≤ 1000000000 := fun j => ⟨hbn.k0 _, Int.le_trans (hbn.k1 _) hn⟩
      obtain ⟨v1, hv1⟩ : ∃ v, s.k (k : Int) 1 = v := ⟨_, rfl⟩
      obtain ⟨v2, hv2⟩ : ∃ v, s.k (k : Int) 2 = v := ⟨_, rfl⟩
      have kk1 := kk 1
      have kk2 := kk 2
      rw [hv1] at kk1
      rw [hv2] at kk2
      obtain ⟨a1, a2⟩ := kk1
      obtain ⟨a3, a4⟩ := kk2
      have hg1 : s.K.getD (3 * k + 1) 0 = v1 := by rw [← hv1]; unfold ChS.k; rw [Int.toNat_natCast]
      have hg2 : s.K.getD (3 * k + 2) 0 = v2 := by rw [← hv2]; unfold ChS.k; rw [Int.toNat_natCast]
      clear hS1 q1 kk hC hv0
      have hK1s : S1.K = s.K.set (k * 3) 0 := by rw [hK1, hK0]
      by_cases h255 : f = 255
      · have hff : ((f : Int) != 255) = false := by simp [h255]
        obtain ⟨cb1, NB1, hkN1, y7b, c1, fb1, hl1⟩ := chip_k (j := 1) hC1 hk (by omega)
        rw [(kS_other S1 s.K k 1 (k * 3) (0) (by omega) hK1s).trans hg1] at c1
        have q2 := setK_chip hC1 hl1 (v1 + 1)
        obtain ⟨S2, hS2⟩ : ∃ S2 : ChS, S2 = { S1 with K := S1.K.set (k * 3 + 1) (v1 + 1) } := ⟨_, rfl⟩
        have hC2 := q2.1
        rw [← hS2] at hC2
        have hT2 := hT1.trans q2.2
        obtain ⟨cb2, NB2, hkN2, y7c, c2, fb2, hl2⟩ := chip_k (j := 2) hC2 hk (by omega)
        have hk2 : S2.k (k : Int) 2 = v2 := by
          unfold ChS.k
          rw [hS2]
          dsimp only
          rw [Int.toNat_natCast, getD_setN, if_neg (by omega), hK1s, getD_setN, if_neg (by omega)]
          exact hg2
        rw [hk2] at c2
        have q3 := setK_chip hC2 hl2 (v2 + 1)
        have hfin : { S2 with K := S2.K.set (k * 3 + 2) (v2 + 1) } = s.wipe b k i f := by
          rw [hS2, HS1.out, HS0.out]
          unfold ChS.wipe
          rw [HF.out, hv1, hv2, if_pos h255]
          (try simp only [List.set_set])
        have hC3 := q3.1
        rw [hfin] at hC3
        have HC3 := Lib.hid hC3
        have hT3 := hT2.trans q3.2
        clear hfin hC3 q3 q2 hk2 hS2 hC2 hT2 hg1 hg2 hv1 hv2 hK0 hK1 hC1 hT1 hl1 hl2 hK1s h255 HT
        go_wp2_with fail
        exact bodyPost_end (v := .tuple #[]) (by simp [results, Try.results35, go_sem]) rfl ⟨⟨_, rfl⟩, HC3.out, hT3⟩
      · have hff : ((f : Int) != 255) = true := by simp; omega
        obtain ⟨cbx, NBx, hkNx, y7x, c0x, fbx, hlx⟩ := chip_k (j := 0) hC1 hk (by omega)
        rw [Nat.add_zero] at c0x hlx
        have hkx : S1.k (k : Int) 0 = 0 := by
          unfold ChS.k
          rw [Int.toNat_natCast, hK1s, getD_setN, if_pos]
          rw [hK0] at hl0
          omega
        rw [hkx] at c0x
        have y1 := (geo5 hC1).2.1
        have q1b := setK_chip hC1 hlx b
        obtain ⟨S3, hS3⟩ : ∃ S3 : ChS, S3 = { S1 with K := S1.K.set (k * 3) b } := ⟨_, rfl⟩
        have hC1b := q1b.1
        rw [← hS3] at hC1b
        have hT1b := hT1.trans q1b.2
        have hK3 : S3.K = s.K.set (k * 3) b := by rw [hS3]; dsimp only; rw [hK1s, List.set_set]
        obtain ⟨cb1, NB1, hkN1, y7b, c1, fb1, hl1⟩ := chip_k (j := 1) hC1b hk (by omega)
        rw [(kS_other S3 s.K k 1 (k * 3) (b) (by omega) hK3).trans hg1] at c1
        have q2 := setK_chip hC1b hl1 (v1 + 1)
        obtain ⟨S2, hS2⟩ : ∃ S2 : ChS, S2 = { S3 with K := S3.K.set (k * 3 + 1) (v1 + 1) } := ⟨_, rfl⟩
        have hC2 := q2.1
        rw [← hS2] at hC2
        have hT2 := hT1b.trans q2.2
        obtain ⟨cb2, NB2, hkN2, y7c, c2, fb2, hl2⟩ := chip_k (j := 2) hC2 hk (by omega)
        have hk2 : S2.k (k : Int) 2 = v2 := by
          unfold ChS.k
          rw [hS2]
          dsimp only
          rw [Int.toNat_natCast, getD_setN, if_neg (by omega), hK3, getD_setN, if_neg (by omega)]
          exact hg2
        rw [hk2] at c2
        have q3 := setK_chip hC2 hl2 (v2 + 1)
        have hfin : { S2 with K := S2.K.set (k * 3 + 2) (v2 + 1) } = s.wipe b k i f := by
          rw [hS2, hS3, HS1.out, HS0.out]
          unfold ChS.wipe
          rw [HF.out, hv1, hv2, if_neg h255]
          (try simp only [List.set_set])
        have hC3 := q3.1
        rw [hfin] at hC3
        have HC3 := Lib.hid hC3
        have hT3 := hT2.trans q3.2
        clear hfin hC3 q3 q2 hk2 hS2 hC2 hT2 hg1 hg2 hv1 hv2 hK0 hK1 hC1 hT1 hl1 hl2 hK1s h255 HT hkx q1b hS3 hC1b hT1b hK3 hlx
        go_wp2_with fail
        exact bodyPost_end (v := .tuple #[]) (by simp [results, Try.results35, go_sem]) rfl ⟨⟨_, rfl⟩, HC3.out, hT3⟩
end Go.Proofs.Ytdfojhkpfbnmgaa
namespace Go.Proofs.Ytdfojhkpfbnmgaa
open Go.ChangeShapes Go.WideShapes Go.ChangeAt Go.RowKit
theorem cell15 {w : World} {m gx gb : Nat} {Af : Option Addr} {nf cf : Nat} {a b c d e : Int} {fs : List Flt} {s : ChS} (h : ChipW w m gx gb Af nf cf a b c d e fs s) : w.cell? ⟨m, 15, none⟩ = some (.int .u8 (s.fill : Nat)) := by
  obtain ⟨cx, cb, NX, NB, hX, hN, hcx, hB⟩ := h.blk
  exact hB.cell_ 15
theorem tick_fill (s : ChS) : s.tick.fill = s.fill := by unfold ChS.tick; split <;> rfl
theorem tick_bnd {s : ChS} {n : Int} (h : s.Bnd n) : s.tick.Bnd (n + 1) := by
  obtain ⟨o0, o1, c0, c1, k0, k1⟩ := h
  have hk : ∀ i, s.tick.K.getD i 0 = s.K.getD i 0 := fun i => by rw [tick_K]
  refine ⟨?_, ?_, ?_, ?_, fun i => by rw [hk]; exact k0 i, fun i => by rw [hk]; have := k1 i; omega⟩
  all_goals
    unfold ChS.tick
    split <;> dsimp only <;> omega
theorem wipe_255 (m gx gb : Nat) (Af : Option Addr) (nf cf : Nat) (a b c d e : Int) (fs : List Flt) (k SZ RW : Nat) (n : Int) (w : World) (s : ChS) (hC : ChipW w m gx gb Af nf cf a b c d e fs s) (hbn : s.Bnd n) (hn : n ≤ 1000000000) (hk : (k : Int) < a) (HRW : Hid ((RW : Int) = c + 16)) (hSZ : (SZ : Int) = b * (c + 16)) (hfit0 : k * SZ + SZ ≤ s.X.length) (z1 : SZ ≤ 640) (z2 : 160 ≤ SZ) : Calls Try.prog 35 #[.pointer (some ⟨m, 0, none⟩), .int .i64 (k : Int), .int .u8 255] w fun e' w' => (∃ v, e' = .returned v) ∧ ChipW w' m gx gb Af nf cf a b c d e fs (s.wipe b k SZ 255) ∧ Tch (chB m gx gb) w w' :=
  wipe_any m gx gb Af nf cf a b c d e fs k 255 SZ RW n w s hC hbn hn hk (by omega) HRW hSZ hfit0 z1 z2
theorem failed_tick (s : ChS) (a : Int) (fs : List Flt) (B : Int) : failedB a fs s.tick B = failedB a fs s B := by
  unfold failedB ChS.k
  rw [tick_K]
theorem erase_off (m gx gb : Nat) (Af : Option Addr) (nf cf : Nat) (a b c d e : Int) (fs : List Flt) (x : Int) (w : World) (s : ChS) (hC : ChipW w m gx gb Af nf cf a b c d e fs s) (ho : s.on = false) : Calls Try.prog 9 #[.pointer (some ⟨m, 0, none⟩), .int .i64 x] w fun e' w' => e' = .returned (.int .i64 9) ∧ w = w' := by
  have y10 := cell10 hC
  rw [ho] at y10
  clear hC ho
  go_enter Try.func9, Try.ntmps9
  go_wp2_with fail
  go_ret
  exact ⟨rfl, rfl⟩
theorem erase_arg (m gx gb : Nat) (Af : Option Addr) (nf cf : Nat) (a b c d e : Int) (fs : List Flt) (x : Int) (w : World) (s : ChS) (hC : ChipW w m gx gb Af nf cf a b c d e fs s) (ho : s.on = true) (hib : Hid (inB a x = false)) : Calls Try.prog 9 #[.pointer (some ⟨m, 0, none⟩), .int .i64 x] w fun e' w' => e' = .returned (.int .i64 2) ∧ w = w' := by
  have y10 := cell10 hC
  rw [ho] at y10
  clear ho
  go_enter Try.func9, Try.ntmps9
  go_wp2_with (go_at_call 33; ((with_reducible refine (hasBlock_b _ _ _ _ _ _ _ _ _ _ _ _ _ _ _ _ hC hib).mono ?_); rintro e' wN ⟨rfl, rfl⟩; skip))
  go_ret
  exact ⟨rfl, rfl⟩
theorem erase_fail (m gx gb : Nat) (Af : Option Addr) (nf cf : Nat) (a b c d e : Int) (fs : List Flt) (k : Nat) (n : Int) (w : World) (s : ChS) (hC : ChipW w m gx gb Af nf cf a b c d e fs s) (hbn : s.Bnd n) (hn : n ≤ 1000000000) (ho : s.on = true) (hk : (k : Int) < a) (hcu : Hid (s.cutB = false)) (hfl0 : failedB a fs s (k : Int) = true) : Calls Try.prog 9 #[.pointer (some ⟨m, 0, none⟩), .int .i64 (k : Int)] w fun e' w' => e' = .returned (.int .i64 10) ∧ ChipW w' m gx gb Af nf cf a b c d e fs s.tick ∧ Tch (chB m gx gb) w w' := by
  have hib : Hid (inB a (k : Int) = true) := Lib.hid (inB_yes (by omega) hk)
  obtain ⟨FI, hFI⟩ : ∃ z, s.tick.fill = z := ⟨_, rfl⟩
  have HFI := Lib.hid hFI
  have hfl : Hid (failedB a fs s.tick (k : Int) = true) := Lib.hid (by rw [failed_tick]; exact hfl0)
  have y10 := cell10 hC
  rw [ho] at y10
  clear ho hfl0
  clear hFI
  go_enter Try.func9, Try.ntmps9
  go_wp2_with (first
    | (go_at_call 33; ((with_reducible refine (hasBlock_b _ _ _ _ _ _ _ _ _ _ _ _ _ _ _ _ hC hib).mono ?_); rintro e' wN ⟨rfl, rfl⟩; skip))
    | (go_at_call 34; ((with_reducible refine (begin_b _ _ _ _ _ _ _ _ _ _ _ _ _ _ _ _ hC hbn hn hcu).mono ?_); rintro e' wN ⟨rfl, hC2, hT⟩; have HT := hT; replace hC := hC2; clear hC2 hT))
    | (go_at_call 13; ((with_reducible refine (failed_b _ _ _ _ _ _ _ _ _ _ _ _ _ _ _ _ hC hfl).mono ?_); rintro e' wN ⟨rfl, hb⟩; replace hC := hC.below hb; replace HT := HT.then hb; have y15 := cell15 hC; rw [HFI.out] at y15)))
  go_ret
  exact ⟨rfl, hC, HT⟩
theorem erase_cutfail (m gx gb : Nat) (Af : Option Addr) (nf cf : Nat) (a b c d e : Int) (fs : List Flt) (k : Nat) (n : Int) (w : World) (s : ChS) (hC : ChipW w m gx gb Af nf cf a b c d e fs s) (hbn : s.Bnd n) (hn : n ≤ 1000000000) (ho : s.on = true) (hk : (k : Int) < a) (hcu : Hid (s.cutB = true)) (hfl0 : failedB a fs s (k : Int) = true) : Calls Try.prog 9 #[.pointer (some ⟨m, 0, none⟩), .int .i64 (k : Int)] w fun e' w' => e' = .returned (.int .i64 9) ∧ ChipW w' m gx gb Af nf cf a b c d e fs s.tick ∧ Tch (chB m gx gb) w w' := by
  have hib : Hid (inB a (k : Int) = true) := Lib.hid (inB_yes (by omega) hk)
  obtain ⟨FI, hFI⟩ : ∃ z, s.tick.fill = z := ⟨_, rfl⟩
  have HFI := Lib.hid hFI
  have hfl : Hid (failedB a fs s.tick (k : Int) = true) := Lib.hid (by rw [failed_tick]; exact hfl0)
  have y10 := cell10 hC
  rw [ho] at y10
  clear ho hfl0
  clear hFI
  go_enter Try.func9, Try.ntmps9
  go_wp2_with (first
    | (go_at_call 33; ((with_reducible refine (hasBlock_b _ _ _ _ _ _ _ _ _ _ _ _ _ _ _ _ hC hib).mono ?_); rintro e' wN ⟨rfl, rfl⟩; skip))
    | (go_at_call 34; ((with_reducible refine (begin_b _ _ _ _ _ _ _ _ _ _ _ _ _ _ _ _ hC hbn hn hcu).mono ?_); rintro e' wN ⟨rfl, hC2, hT⟩; have HT := hT; replace hC := hC2; clear hC2 hT))
    | (go_at_call 13; ((with_reducible refine (failed_b _ _ _ _ _ _ _ _ _ _ _ _ _ _ _ _ hC hfl).mono ?_); rintro e' wN ⟨rfl, hb⟩; replace hC := hC.below hb; replace HT := HT.then hb; have y15 := cell15 hC; rw [HFI.out] at y15)))
  go_ret
  exact ⟨rfl, hC, HT⟩
theorem erase_ok (m gx gb : Nat) (Af : Option Addr) (nf cf : Nat) (a b c d e : Int) (fs : List Flt) (k SZ RW : Nat) (n : Int) (w : World) (s : ChS) (hC : ChipW w m gx gb Af nf cf a b c d e fs s) (hbn : s.Bnd n) (hn : n ≤ 1000000000) (hn1 : n ≤ 999999999) (ho : s.on = true) (hk : (k : Int) < a) (hcu : Hid (s.cutB = false)) (hfl0 : failedB a fs s (k : Int) = false) (HRW : Hid ((RW : Int) = c + 16)) (hSZ : (SZ : Int) = b * (c + 16)) (hfit0 : k * SZ + SZ ≤ s.X.length) (z1 : SZ ≤ 640) (z2 : 160 ≤ SZ) : Calls Try.prog 9 #[.pointer (some ⟨m, 0, none⟩), .int .i64 (k : Int)] w fun e' w' => e' = .returned (.int .i64 0) ∧ ChipW w' m gx gb Af nf cf a b c d e fs (s.tick.wipe b k SZ 255) ∧ Tch (chB m gx gb) w w' := by
  have hib : Hid (inB a (k : Int) = true) := Lib.hid (inB_yes (by omega) hk)
  obtain ⟨FI, hFI⟩ : ∃ z, s.tick.fill = z := ⟨_, rfl⟩
  have HFI := Lib.hid hFI
  have hfl : Hid (failedB a fs s.tick (k : Int) = false) := Lib.hid (by rw [failed_tick]; exact hfl0)
  have y10 := cell10 hC
  rw [ho] at y10
  clear ho hfl0
  have hbt := tick_bnd hbn
  have hn2 : n + 1 ≤ 1000000000 := by omega
  have hfit : k * SZ + SZ ≤ s.tick.X.length := by rw [tick_X]; exact hfit0
  clear hfit0
  clear hFI
  go_enter Try.func9, Try.ntmps9
  go_wp2_with (first
    | (go_at_call 33; ((with_reducible refine (hasBlock_b _ _ _ _ _ _ _ _ _ _ _ _ _ _ _ _ hC hib).mono ?_); rintro e' wN ⟨rfl, rfl⟩; skip))
    | (go_at_call 34; ((with_reducible refine (begin_b _ _ _ _ _ _ _ _ _ _ _ _ _ _ _ _ hC hbn hn hcu).mono ?_); rintro e' wN ⟨rfl, hC2, hT⟩; have HT := hT; replace hC := hC2; clear hC2 hT))
    | (go_at_call 13; ((with_reducible refine (failed_b _ _ _ _ _ _ _ _ _ _ _ _ _ _ _ _ hC hfl).mono ?_); rintro e' wN ⟨rfl, hb⟩; replace hC := hC.below hb; replace HT := HT.then hb; have y15 := cell15 hC; rw [HFI.out] at y15))
    | (go_at_call 35; ((with_reducible refine (wipe_255 _ _ _ _ _ _ _ _ _ _ _ _ k SZ RW _ _ _ hC hbt hn2 hk HRW hSZ hfit z1 z2).mono ?_); rintro e' wN ⟨⟨v9, rfl⟩, hC2, hT2⟩; replace HT := HT.trans hT2; replace hC := hC2; clear hC2 hT2)))
  go_ret
  exact ⟨rfl, hC, HT⟩
theorem erase_cut (m gx gb : Nat) (Af : Option Addr) (nf cf : Nat) (a b c d e : Int) (fs : List Flt) (k SZ RW : Nat) (n : Int) (w : World) (s : ChS) (hC : ChipW w m gx gb Af nf cf a b c d e fs s) (hbn : s.Bnd n) (hn : n ≤ 1000000000) (hn1 : n ≤ 999999999) (ho : s.on = true) (hk : (k : Int) < a) (hcu : Hid (s.cutB = true)) (hfl0 : failedB a fs s (k : Int) = false) (hf0 : s.fill < 256) (HRW : Hid ((RW : Int) = c + 16)) (hSZ : (SZ : Int) = b * (c + 16)) (hfit0 : k * SZ + SZ ≤ s.X.length) (z1 : SZ ≤ 640) (z2 : 160 ≤ SZ) : Calls Try.prog 9 #[.pointer (some ⟨m, 0, none⟩), .int .i64 (k : Int)] w fun e' w' => e' = .returned (.int .i64 9) ∧ ChipW w' m gx gb Af nf cf a b c d e fs (s.tick.wipe b k SZ s.fill) ∧ Tch (chB m gx gb) w w' := by
  have hib : Hid (inB a (k : Int) = true) := Lib.hid (inB_yes (by omega) hk)
  obtain ⟨FI, hFI⟩ : ∃ z, s.tick.fill = z := ⟨_, rfl⟩
  have HFI := Lib.hid hFI
  have hfl : Hid (failedB a fs s.tick (k : Int) = false) := Lib.hid (by rw [failed_tick]; exact hfl0)
  have y10 := cell10 hC
  rw [ho] at y10
  clear ho hfl0
  have hbt := tick_bnd hbn
  have hn2 : n + 1 ≤ 1000000000 := by omega
  have hfit : k * SZ + SZ ≤ s.tick.X.length := by rw [tick_X]; exact hfit0
  clear hfit0
  have hfs : FI = s.fill := by rw [← hFI, tick_fill]
  have hff : FI < 256 := by rw [hfs]; exact hf0
  rw [← hfs]
  clear hFI hfs hf0
  go_enter Try.func9, Try.ntmps9
  go_wp2_with (first
    | (go_at_call 33; ((with_reducible refine (hasBlock_b _ _ _ _ _ _ _ _ _ _ _ _ _ _ _ _ hC hib).mono ?_); rintro e' wN ⟨rfl, rfl⟩; skip))
    | (go_at_call 34; ((with_reducible refine (begin_b _ _ _ _ _ _ _ _ _ _ _ _ _ _ _ _ hC hbn hn hcu).mono ?_); rintro e' wN ⟨rfl, hC2, hT⟩; have HT := hT; replace hC := hC2; clear hC2 hT))
    | (go_at_call 13; ((with_reducible refine (failed_b _ _ _ _ _ _ _ _ _ _ _ _ _ _ _ _ hC hfl).mono ?_); rintro e' wN ⟨rfl, hb⟩; replace hC := hC.below hb; replace HT := HT.then hb; have y15 := cell15 hC; rw [HFI.out] at y15))
    | (go_at_call 35; ((with_reducible refine (wipe_any _ _ _ _ _ _ _ _ _ _ _ _ k FI SZ RW _ _ _ hC hbt hn2 hk hff HRW hSZ hfit z1 z2).mono ?_); rintro e' wN ⟨⟨v9, rfl⟩, hC2, hT2⟩; replace HT := HT.trans hT2; replace hC := hC2; clear hC2 hT2)))
  go_ret
  exact ⟨rfl, hC, HT⟩
end Go.Proofs.Ytdfojhkpfbnmgaa
namespace Go.Proofs.Ytdfojhkpfbnmgaa
open Go.ChangeShapes Go.WideShapes Go.ChangeAt Go.RowKit
theorem tick_nc {s : ChS} (h : s.cutB = false) : s.tick = { s with ops := s.ops + 1 } := by simp [ChS.tick, h]
theorem unarmed {s : ChS} (h : s.armed = false) : s.cutB = false := by simp [ChS.cutB, h]
theorem k_set_other {s : ChS} {k j i : Nat} (v : Int) (l : Nat) (h : i ≠ 3 * l + j) : ({ s with K := s.K.set i v } : ChS).k (l : Int) j = s.k (l : Int) j := by
  unfold ChS.k
  dsimp only
  rw [Int.toNat_natCast, getD_setN, if_neg (fun e => h e.1)]
theorem bnd_set {s : ChS} {n : Int} (h : s.Bnd n) (i : Nat) (v : Int) (h0 : 0 ≤ v) (h1 : v ≤ n) : ({ s with K := s.K.set i v } : ChS).Bnd n := by
  obtain ⟨o0, o1, c0, c1, k0, k1⟩ := h
  refine ⟨o0, o1, c0, c1, fun j => ?_, fun j => ?_⟩
  · dsimp only
    rw [getD_setN]
    split
    · exact h0
    · exact k0 j
  · dsimp only
    rw [getD_setN]
    split
    · exact h1
    · exact k1 j
theorem bnd_mono {s : ChS} {n n' : Int} (h : s.Bnd n) (hn : n ≤ n') : s.Bnd n' := by
  obtain ⟨o0, o1, c0, c1, k0, k1⟩ := h
  exact ⟨o0, by omega, c0, by omega, k0, fun j => by have := k1 j; omega⟩
theorem bnd_X {s : ChS} {n : Int} (h : s.Bnd n) (X : List Nat) : ({ s with X := X } : ChS).Bnd n := by
  obtain ⟨o0, o1, c0, c1, k0, k1⟩ := h
  exact ⟨o0, o1, c0, c1, k0, k1⟩
theorem k_le {s : ChS} {n : Int} (h : s.Bnd n) (B : Int) (j : Nat) : 0 ≤ s.k B j ∧ s.k B j ≤ n := ⟨h.k0 _, h.k1 _⟩
theorem inc_bnd {s : ChS} {n : Int} (h : s.Bnd n) (k j : Nat) : (s.inc k j).Bnd (n + 1) := by
  have := k_le h (k : Int) j
  exact bnd_set (bnd_mono h (by omega)) _ _ (by omega) (by omega)
theorem prog_bnd {s : ChS} {n : Int} (h : s.Bnd n) (k N RW : Nat) (bs : List Nat) : (s.prog k N RW bs).Bnd (n + 3) := by
  have h1 := inc_bnd (inc_bnd (bnd_X (tick_bnd h) (putX s.X (N * RW) bs)) k 0) k 2
  exact bnd_mono h1 (by omega)
theorem inc_ko {s : ChS} {k j : Nat} (i l : Nat) (h : k * 3 + j ≠ 3 * l + i) : (s.inc k j).k (l : Int) i = s.k (l : Int) i := k_set_other (k := 0) _ l h
theorem prog_kl {s : ChS} {k : Nat} (N RW : Nat) (bs : List Nat) (l j : Nat) (hl : l ≠ k) (hj : j < 3) : (s.prog k N RW bs).k (l : Int) j = s.k (l : Int) j := by
  unfold ChS.prog
  rw [inc_ko j l (by omega), inc_ko j l (by omega)]
  unfold ChS.k
  dsimp only
  rw [tick_K]
theorem prog_on {s : ChS} (k N RW : Nat) (bs : List Nat) : (s.prog k N RW bs).on = s.tick.on ∧ (s.prog k N RW bs).armed = s.tick.armed ∧ (s.prog k N RW bs).turn = s.tick.turn ∧ (s.prog k N RW bs).ops = s.ops + 1 ∧ (s.prog k N RW bs).cuts = s.tick.cuts ∧ (s.prog k N RW bs).X = putX s.X (N * RW) bs ∧ (s.prog k N RW bs).K.length = s.K.length := by
  refine ⟨rfl, rfl, rfl, ?_, rfl, rfl, ?_⟩
  · show s.tick.ops = s.ops + 1
    unfold ChS.tick
    split <;> rfl
  · show ((s.tick.K.set _ _).set _ _).length = _
    rw [List.length_set, List.length_set, tick_K]
theorem wipe_bnd {s : ChS} {n : Int} (h : s.Bnd n) {b : Int} (hb0 : 0 ≤ b) (hb : b ≤ n + 1) (k SZ f : Nat) : (s.wipe b k SZ f).Bnd (n + 1) := by
  have h1 := k_le h (k : Int) 1
  have h2 := k_le h (k : Int) 2
  unfold ChS.wipe
  have g0 := bnd_set (bnd_X (bnd_mono h (n' := n + 1) (by omega)) (putX s.X (k * SZ) (List.replicate SZ f))) (k * 3) (if f = 255 then 0 else b) (by split <;> omega) (by split <;> omega)
  have g1 := bnd_set g0 (k * 3 + 1) (s.k (k : Int) 1 + 1) (by omega) (by omega)
  exact bnd_set g1 (k * 3 + 2) (s.k (k : Int) 2 + 1) (by omega) (by omega)
theorem wipe_k0 {s : ChS} {b : Int} {k SZ f : Nat} (h : k * 3 + 3 ≤ s.K.length) : (s.wipe b k SZ f).k (k : Int) 0 = if f = 255 then 0 else b := by
  unfold ChS.wipe ChS.k
  dsimp only
  rw [Int.toNat_natCast, getD_setN, if_neg (by omega), getD_setN, if_neg (by omega), getD_setN, if_pos ⟨by omega, by omega⟩]
theorem wipe_k1 {s : ChS} {b : Int} {k SZ f : Nat} (h : k * 3 + 3 ≤ s.K.length) : (s.wipe b k SZ f).k (k : Int) 1 = s.k (k : Int) 1 + 1 := by
  unfold ChS.wipe ChS.k
  dsimp only
  rw [Int.toNat_natCast, getD_setN, if_neg (by omega), getD_setN, if_pos ⟨by omega, by simp; omega⟩]
theorem wipe_page {s : ChS} {b : Int} {k SZ f l RW N : Nat} (hfit : k * SZ + SZ ≤ s.X.length) (hN : N * RW = k * SZ + l * RW) (hl : l * RW + RW ≤ SZ) : (s.wipe b k SZ f).pageOf N RW = List.replicate RW f := by
  unfold ChS.pageOf ChS.wipe
  dsimp only
  apply List.ext_getElem?
  intro j
  rw [List.getElem?_take, List.getElem?_replicate]
  by_cases hj : j < RW
  · rw [if_pos hj, if_pos hj, List.getElem?_drop, putX_get (by simp; omega), if_neg (by omega), if_pos (by simp; omega), List.getElem?_replicate, if_pos (by omega)]
  · rw [if_neg hj, if_neg hj]
end Go.Proofs.Ytdfojhkpfbnmgaa
namespace Go.Proofs.Ytdfojhkpfbnmgaa
open Go.ChangeShapes Go.WideShapes Go.ChangeAt Go.RowKit
theorem cells5 {w : World} {g : Nat} {t : TypeId} {u0 u1 u2 u3 u4 : Value} (h : Blk w g t #[u0, u1, u2, u3, u4]) : w.cell? ⟨g, 0, none⟩ = some u0 ∧ w.cell? ⟨g, 1, none⟩ = some u1 ∧ w.cell? ⟨g, 2, none⟩ = some u2 ∧ w.cell? ⟨g, 3, none⟩ = some u3 ∧ w.cell? ⟨g, 4, none⟩ = some u4 := ⟨h.cell_ 0, h.cell_ 1, h.cell_ 2, h.cell_ 3, h.cell_ 4⟩
def ChS.new (NX NB : Nat) : ChS := ⟨List.replicate NX 255, List.replicate (3 * NB) 0, 0, 0, true, false, 0, 0, 0, 0⟩
theorem infoBlk : (Try.prog.info? 73).map (fun i => (i.zero, i.size, i.bytes)) = some (some (.agg #[.int .i64 0, .int .i64 0, .int .i64 0]), 3, 24) := by kernel_rfl
theorem build_oneb (z : Int) (w : World) : (Instr.buildSlice 46 1 #[(0, .int .u8 z)]).run Try.prog w = .ok (.slice (some ⟨w.heap.size, 0, none⟩) 1 1) (w.alloc (.cells #[.int .u8 z] 5)) := by kernel_rfl
theorem wp_build1b {w : World} {o : Oper} {a : Act} {K : Act → World → Prop} {Q : Exit → Act → World → Prop} (x : Operand) (hop : o.op = Op.buildSlice 46 1 #[(0, x)])
    (z : Int) (hx : a.eval x = .int .u8 z)
    (hK : ∀ w' b, Blk w' b 5 #[.int .u8 z] → w.heap.size ≤ b → Below w.heap.size w w' → K (a.put o.dst (.slice (some ⟨b, 0, none⟩) 1 1)) w') : Oper.wp Try.prog o a w K Q := by
  have hrun := build_oneb z w
  unfold Oper.wp
  simp [execOp, hop, hx, hrun, Result.andThen]
  exact hK _ _ (Blk.new_ _ _ _) (Nat.le_refl _) ((Below.refl _ _).alloc (Nat.le_refl _) _)
theorem own_rowS {w : World} {base n size : Nat} {t : TypeId} {g : Nat} {xs : List Value} (h : w.ownsRow base t size (.slice (some ⟨g, 0, none⟩) n n) n xs) : RowT w g t xs := by
  obtain ⟨hl, h'⟩ := h
  rcases h' with ⟨h0, _⟩ | ⟨g', cap, cur, hv, hb, hh, hnc, _, hsz, ht⟩
  · cases h0
  · cases hv
    refine ⟨cur.toList.drop (n * size), ?_⟩
    unfold Blk
    rw [← ht, List.take_append_drop]
    exact hh
section
variable {P : Program} (w : World)
theorem wp_make {o : Oper} {a : Act} {K : Act → World → Prop} {Q : Exit → Act → World → Prop} (l c : Operand) (t : TypeId) (hop : o.op = Op.makeSlice t l c)
    (base : Nat) (e : TypeId) (i : TypeInfo) (z : Value) (size : Nat) (h1 : P.underlying t = some (.slice e)) (h2 : P.info? e = some i) (h3 : i.zero = some z) (h4 : i.size = size)
    (kl kc : IntKind) (L C : Int) (n : Nat) (hl : a.eval l = .int kl L) (hc : a.eval c = .int kc C) (hL : L = (n : Int)) (hC : C = (n : Int)) (b2 : i.bytes * n ≤ 281474976710656) (b3 : n ≤ maxLen) (b4 : base ≤ w.heap.size)
    (hK : ∀ w', w'.ownsRow base e size (.slice (some ⟨w.heap.size, 0, none⟩) n n) n (madeCells z.cells (n * size)).toList → w.grownBy w' none → K (a.put o.dst (.slice (some ⟨w.heap.size, 0, none⟩) n n)) w') :
    o.wp P a w K Q := by
  obtain ⟨w', hrun, r1, r2⟩ := run_make_full (P := P) w base t e i z size h1 h2 h3 h4 kl kc n b2 b3 b4
  subst hL
  subst hC
  unfold Oper.wp
  simp [execOp, hop, hl, hc, hrun, Result.andThen]
  exact hK w' r1 r2
end
theorem made_ints (n : Nat) : (madeCells (Value.agg #[.int .i64 0, .int .i64 0, .int .i64 0]).cells (n * 3)).toList = List.replicate (3 * n) (Value.int .i64 0) := by
  have hz : ∀ j, (#[Value.int .i64 0, .int .i64 0, .int .i64 0] : Array Value)[j % 3]! = .int .i64 0 := by
    intro j
    have : j % 3 = 0 ∨ j % 3 = 1 ∨ j % 3 = 2 := by omega
    rcases this with h | h | h <;> rw [h] <;> rfl
  have hc : (Value.agg #[.int .i64 0, .int .i64 0, .int .i64 0]).cells = #[Value.int .i64 0, .int .i64 0, .int .i64 0] := rfl
  rw [hc]
  apply List.ext_getElem?
  intro j
  rw [List.getElem?_replicate]
  by_cases hj : j < n * 3
  · rw [if_pos (by omega)]
    have := hz j
    simp only [madeCells, Array.toList_map, List.getElem?_map, Array.toList_range, List.getElem?_range hj, Option.map_some]
    exact congrArg some this
  · rw [if_neg (by omega), List.getElem?_eq_none]
    simp [madeCells]
    omega
theorem wp_makeK {w : World} {o : Oper} {a' : Act} {K : Act → World → Prop} {Q : Exit → Act → World → Prop} (l c : Operand) (hop : o.op = Op.makeSlice 66 l c)
    (a : Int) (NB : Nat) (hl : a'.eval l = .int .i64 a) (hc : a'.eval c = .int .i64 a) (hNB : (NB : Int) = a) (hb : NB ≤ 1000)
    (hK : ∀ w' g, RowT w' g 73 (List.replicate (3 * NB) (Value.int .i64 0)) → w.heap.size ≤ g → Below w.heap.size w w' → K (a'.put o.dst (.slice (some ⟨g, 0, none⟩) NB NB)) w') : Oper.wp Try.prog o a' w K Q := by
  obtain ⟨ti0, hi, hz0, hz1, hz2⟩ := info_parts infoBlk
  refine wp_make w l c 66 hop w.heap.size 73 ti0 _ 3 Try.underlying66 hi hz0 hz1 .i64 .i64 a a NB hl hc hNB.symm hNB.symm (by rw [hz2]; omega) (by unfold maxLen; omega) (Nat.le_refl _) ?_
  intro w' hown hgrow
  rw [made_ints] at hown
  exact hK w' _ (own_rowS hown) (Nat.le_refl _) ((Below.refl _ _).grown hgrow (Nat.le_refl _) (fun k h => by cases h))
theorem rptB_b (v : Int) (b n : Nat) (w : World) (hB : Blk w b 5 #[.int .u8 v]) (n1 : 1 ≤ n) (n2 : n ≤ 100000) :
    Calls Try.prog 30 #[.slice (some ⟨b, 0, none⟩) 1 1, .int .i64 (n : Int)] w fun e' w' => ∃ g, e' = .returned (.slice (some ⟨g, 0, none⟩) n n) ∧ w.heap.size ≤ g ∧ RowT w' g 5 (List.replicate n (.int .u8 v)) ∧ Below w.heap.size w w' :=
  rptB_any v b n w (hB.cell_ 0) hB.lt n1 n2
end Go.Proofs.Ytdfojhkpfbnmgaa
namespace Go.Proofs.Ytdfojhkpfbnmgaa
open Go.ChangeShapes Go.WideShapes Go.ChangeAt Go.RowKit
theorem on_nil  (w : World) : Calls Try.prog 43 #[.pointer none] w fun e' w' => e' = .returned (.bool false) ∧ w = w' := by
  go_enter Try.func43, Try.ntmps43
  go_wp2
  go_ret
  exact ⟨rfl, rfl⟩
def bytesL (n : Nat) (Q : Nat) : List Nat := (List.range Q).map fun i => (n + i * 7) % 256
def bytesP (n Q k : Nat) : List Value := (bytesL n k).map byteV ++ List.replicate (Q - k) (byteV 0)
end Go.Proofs.Ytdfojhkpfbnmgaa
namespace Go.Proofs.Ytdfojhkpfbnmgaa
open Go.ChangeShapes Go.WideShapes Go.ChangeAt Go.RowKit
def aS1 : ChS := { ChS.new 1536 8 with armed := true, turn := (ChS.new 1536 8).ops + 1, cop := 1, cby := 3, fill := 0 }
def aS2 : ChS := aS1.progCut 0 0 48 ((bytesL 7 48).take 3)
def aS3 : ChS := aS2.boot
theorem hm8 : Hid (mayB 8 4 32 0 2 = true) := Lib.hid (by decide)
end Go.Proofs.Ytdfojhkpfbnmgaa
namespace Go.Proofs.Ytdfojhkpfbnmgaa
open Go.ChangeShapes Go.WideShapes Go.ChangeAt Go.RowKit
def lowI (x n : Int) : Int := (x % 18446744073709551616) % n
theorem lowI_bd (x n : Int) (hn : 1 ≤ n) : 0 ≤ lowI x n ∧ lowI x n < n := by
  unfold lowI
  exact ⟨Int.emod_nonneg _ (by omega), Int.emod_lt_of_pos _ (by omega)⟩
theorem low_wrap (x n : Int) (hn : 1 ≤ n) (hm : n ≤ 4611686018427387904) : RowKit.wrap64 ((IntKind.u64.wrap x).tmod n) = lowI x n := by
  have h := lowI_bd x n hn
  have e : IntKind.u64.wrap x = x % 18446744073709551616 := by
    unfold IntKind.wrap
    simp [IntKind.bits, IntKind.signed]
  have h0 : 0 ≤ x % 18446744073709551616 := Int.emod_nonneg _ (by omega)
  rw [e, Int.tmod_eq_emod_of_nonneg h0]
  show RowKit.wrap64 (lowI x n) = lowI x n
  unfold RowKit.wrap64
  omega
theorem low_any (x n : Int) (w : World) (hn : 1 ≤ n) (hm : n ≤ 4611686018427387904) :
    Calls Try.prog 8 #[.int .i64 x, .int .i64 n] w fun e w' => e = .returned (.int .i64 (lowI x n)) ∧ w = w' := by
  go_enter Try.func8, Try.ntmps8
  go_wp2
  go_ret
  exact ⟨congrArg (fun z => Ending.returned (.int .i64 z)) (low_wrap x n hn hm), rfl⟩
end Go.Proofs.Ytdfojhkpfbnmgaa
namespace Go.Proofs.Ytdfojhkpfbnmgaa
open Go.ChangeShapes Go.WideShapes Go.ChangeAt Go.RowKit
structure Stand (s : ChS) (n : Int) : Prop where
  on : s.on = true
  armed : s.armed = false
  bnd : s.Bnd n
end Go.Proofs.Ytdfojhkpfbnmgaa
namespace Go.Proofs.Ytdfojhkpfbnmgaa
open Go.ChangeShapes Go.WideShapes Go.ChangeAt Go.RowKit
theorem putX_page_other {X bs : List Nat} {N N' RW : Nat} (hbl : bs.length = RW) (hf : N * RW + RW ≤ X.length) (hne : N ≠ N') : ((putX X (N * RW) bs).drop (N' * RW)).take RW = (X.drop (N' * RW)).take RW := by
  apply List.ext_getElem?
  intro j
  rw [List.getElem?_take, List.getElem?_take]
  by_cases hj : j < RW
  · rw [if_pos hj, if_pos hj, List.getElem?_drop, List.getElem?_drop, putX_get (by rw [hbl]; exact hf), hbl]
    rcases Nat.lt_or_gt_of_ne hne with h | h
    · have h1 : (N + 1) * RW ≤ N' * RW := Nat.mul_le_mul_right RW h
      rw [Nat.succ_mul] at h1
      rw [if_neg (by omega), if_neg (by omega)]
    · have h1 : (N' + 1) * RW ≤ N * RW := Nat.mul_le_mul_right RW h
      rw [Nat.succ_mul] at h1
      rw [if_pos (by omega)]
  · rw [if_neg hj, if_neg hj]
end Go.Proofs.Ytdfojhkpfbnmgaa
namespace Go.Proofs.Ytdfojhkpfbnmgaa
open Go.ChangeShapes Go.WideShapes Go.ChangeAt Go.RowKit
end Go.Proofs.Ytdfojhkpfbnmgaa
namespace Go.Proofs.Ytdfojhkpfbnmgaa
open Go.ChangeShapes Go.WideShapes Go.ChangeAt Go.RowKit
theorem wipe_kl {s : ChS} {b : Int} {k SZ f : Nat} (l j : Nat) (hl : l ≠ k) (hj : j < 3) : (s.wipe b k SZ f).k (l : Int) j = s.k (l : Int) j := by
  unfold ChS.wipe ChS.k
  dsimp only
  rw [Int.toNat_natCast, getD_setN, if_neg (by omega), getD_setN, if_neg (by omega), getD_setN, if_neg (by omega)]
theorem wipe_page_other {s : ChS} {b : Int} {k SZ f N RW : Nat} (hfit : k * SZ + SZ ≤ s.X.length) (hN : N * RW + RW ≤ k * SZ ∨ k * SZ + SZ ≤ N * RW) : (s.wipe b k SZ f).pageOf N RW = s.pageOf N RW := by
  unfold ChS.pageOf ChS.wipe
  dsimp only
  apply List.ext_getElem?
  intro j
  rw [List.getElem?_take, List.getElem?_take]
  by_cases hj : j < RW
  · rw [if_pos hj, if_pos hj, List.getElem?_drop, List.getElem?_drop, putX_get (by simp; omega), List.length_replicate]
    rcases hN with hN | hN
    · rw [if_pos (by omega)]
    · rw [if_neg (by omega), if_neg (by omega)]
  · rw [if_neg hj, if_neg hj]
theorem page_block {a b c : Int} {k j l N RW SZ : Nat} (hrw : (RW : Int) = c + 16) (hsz : (SZ : Int) = b * (c + 16)) (hl : (l : Int) < b) (hN : (N : Int) = (j : Int) * b + (l : Int)) :
    N * RW = j * SZ + l * RW ∧ l * RW + RW ≤ SZ ∧ (j ≠ k → N * RW + RW ≤ k * SZ ∨ k * SZ + SZ ≤ N * RW) := by
  have e1 : (N : Int) * (RW : Int) = (j : Int) * (SZ : Int) + (l : Int) * (RW : Int) := by
    rw [hN, Int.add_mul, hsz, ← hrw, Int.mul_assoc]
  have e2 : ((l : Int) + 1) * (RW : Int) ≤ b * (RW : Int) := Int.mul_le_mul_of_nonneg_right (by omega) (by omega)
  rw [Int.add_mul, Int.one_mul] at e2
  have e3 : ((N * RW : Nat) : Int) = ((j * SZ + l * RW : Nat) : Int) := by push_cast; exact e1
  have e4 : ((l * RW + RW : Nat) : Int) ≤ (SZ : Int) := by push_cast; rw [hsz, ← hrw]; exact e2
  have f1 : N * RW = j * SZ + l * RW := by omega
  have f2 : l * RW + RW ≤ SZ := by omega
  refine ⟨f1, f2, fun hne => ?_⟩
  rcases Nat.lt_or_gt_of_ne hne with h | h
  · have h1 : (j + 1) * SZ ≤ k * SZ := Nat.mul_le_mul_right SZ h
    rw [Nat.succ_mul] at h1
    omega
  · have h1 : (k + 1) * SZ ≤ j * SZ := Nat.mul_le_mul_right SZ h
    rw [Nat.succ_mul] at h1
    omega
end Go.Proofs.Ytdfojhkpfbnmgaa
namespace Go.Proofs.Ytdfojhkpfbnmgaa
open Go.ChangeShapes Go.WideShapes Go.ChangeAt Go.RowKit
structure Go (s : ChS) (n : Int) : Prop where
  on : s.on = true
  nc : s.cutB = false
  bnd : s.Bnd n
structure GoCut (s : ChS) (n : Int) : Prop where
  on : s.on = true
  cut : s.cutB = true
  bnd : s.Bnd n
theorem Stand.go {s : ChS} {n : Int} (h : Stand s n) : Go s n := ⟨h.on, unarmed h.armed, h.bnd⟩
structure Tickd (s S : ChS) : Prop where
  on : S.on = s.on
  armed : S.armed = s.armed
  turn : S.turn = s.turn
  cop : S.cop = s.cop
  cby : S.cby = s.cby
  fill : S.fill = s.fill
  cuts : S.cuts = s.cuts
  ops : S.ops = s.ops + 1
structure Cutd (s S : ChS) : Prop where
  on : S.on = false
  armed : S.armed = false
  cby : S.cby = s.cby
  fill : S.fill = s.fill
  cuts : S.cuts = s.cuts + 1
  ops : S.ops = s.ops + 1
structure Progd (s S : ChS) (n : Int) (k N RW : Nat) (bs : List Nat) : Prop where
  bnd : S.Bnd (n + 3)
  k0 : S.k (k : Int) 0 = s.k (k : Int) 0 + 1
  k1 : S.k (k : Int) 1 = s.k (k : Int) 1
  ko : ∀ j i : Nat, j ≠ k → i < 3 → S.k (j : Int) i = s.k (j : Int) i
  pg : S.pageOf N RW = bs
  po : ∀ N', N ≠ N' → S.pageOf N' RW = s.pageOf N' RW
structure Wiped (s S : ChS) (n : Int) (b c : Int) (k f : Nat) : Prop where
  bnd : S.Bnd (n + 3)
  k0 : S.k (k : Int) 0 = if f = 255 then 0 else b
  k1 : S.k (k : Int) 1 = s.k (k : Int) 1 + 1
  k2 : S.k (k : Int) 2 = s.k (k : Int) 2 + 1
  ko : ∀ j i : Nat, j ≠ k → i < 3 → S.k (j : Int) i = s.k (j : Int) i
  pg : ∀ l RW N : Nat, (RW : Int) = c + 16 → (l : Int) < b → (N : Int) = (k : Int) * b + (l : Int) → S.pageOf N RW = List.replicate RW f
  po : ∀ j l RW N : Nat, j ≠ k → (RW : Int) = c + 16 → (l : Int) < b → (N : Int) = (j : Int) * b + (l : Int) → S.pageOf N RW = s.pageOf N RW
theorem klenF {w : World} {m gx gb : Nat} {Af : Option Addr} {nf cf : Nat} {a b c d e : Int} {fs : List Flt} {s : ChS} (hC : ChipW w m gx gb Af nf cf a b c d e fs s) {k : Nat} (hk : (k : Int) < a) : k * 3 + 3 ≤ s.K.length := by
  have := hC.lenK
  omega
theorem wipe_k2 {s : ChS} {b : Int} {k SZ f : Nat} (h : k * 3 + 3 ≤ s.K.length) : (s.wipe b k SZ f).k (k : Int) 2 = s.k (k : Int) 2 + 1 := by
  unfold ChS.wipe ChS.k
  dsimp only
  rw [Int.toNat_natCast, getD_setN, if_pos ⟨by omega, by simp; omega⟩]
theorem wiped {w : World} {m gx gb : Nat} {Af : Option Addr} {nf cf : Nat} {a b c d e : Int} {fs : List Flt} {s : ChS} {n : Int} (hC : ChipW w m gx gb Af nf cf a b c d e fs s) {k SZ RW f : Nat} (hk : (k : Int) < a) (hb : s.Bnd n) (hn0 : 20 ≤ n) (hrw : (RW : Int) = c + 16) (hsz : (SZ : Int) = b * (c + 16)) (hfit : k * SZ + SZ ≤ s.X.length) : Wiped s (s.tick.wipe b k SZ f) n b c k f := by
  obtain ⟨g1, g2, g3, g4, -⟩ := may_bd (planMay_bd hC.may).1
  have hkl : k * 3 + 3 ≤ s.tick.K.length := by rw [tick_K]; exact klenF hC hk
  refine ⟨bnd_mono (wipe_bnd (tick_bnd hb) (by omega) (by omega) k SZ f) (by omega), wipe_k0 hkl, ?_, ?_, fun j i hj hi => ?_, fun l RW' N h1 h2 h3 => ?_, fun j l RW' N hj h1 h2 h3 => ?_⟩
  · rw [wipe_k1 hkl]
    unfold ChS.k
    rw [tick_K]
  · rw [wipe_k2 hkl]
    unfold ChS.k
    rw [tick_K]
  · rw [wipe_kl j i hj hi]
    unfold ChS.k
    rw [tick_K]
  · obtain rfl : RW' = RW := by omega
    obtain ⟨f1, f2, -⟩ := page_block (a := a) (k := k) hrw hsz h2 h3
    exact wipe_page (by rw [tick_X]; exact hfit) f1 f2 (l := l)
  · obtain rfl : RW' = RW := by omega
    obtain ⟨f1, f2, f3⟩ := page_block (a := a) (k := k) hrw hsz h2 h3
    rw [wipe_page_other (by rw [tick_X]; exact hfit) (f3 hj)]
    unfold ChS.pageOf
    rw [tick_X]
theorem putX_part_other {X bs : List Nat} {N N' RW : Nat} (hbl : bs.length ≤ RW) (hf : N * RW + RW ≤ X.length) (hne : N ≠ N') : ((putX X (N * RW) bs).drop (N' * RW)).take RW = (X.drop (N' * RW)).take RW := by
  apply List.ext_getElem?
  intro j
  rw [List.getElem?_take, List.getElem?_take]
  by_cases hj : j < RW
  · rw [if_pos hj, if_pos hj, List.getElem?_drop, List.getElem?_drop, putX_get (by omega)]
    rcases Nat.lt_or_gt_of_ne hne with h | h
    · have h1 : (N + 1) * RW ≤ N' * RW := Nat.mul_le_mul_right RW h
      rw [Nat.succ_mul] at h1
      rw [if_neg (by omega), if_neg (by omega)]
    · have h1 : (N' + 1) * RW ≤ N * RW := Nat.mul_le_mul_right RW h
      rw [Nat.succ_mul] at h1
      rw [if_pos (by omega)]
  · rw [if_neg hj, if_neg hj]
theorem progCut_fields {s : ChS} (k N RW : Nat) (bs : List Nat) : (s.progCut k N RW bs).X = putX s.X (N * RW) bs ∧ (s.progCut k N RW bs).K = s.K.set (k * 3 + 0) (s.k (k : Int) 0 + 1) := by
  refine ⟨rfl, ?_⟩
  show s.tick.K.set _ _ = _
  rw [tick_K]
  congr 1
  unfold ChS.k
  dsimp only
  rw [tick_K]
end Go.Proofs.Ytdfojhkpfbnmgaa
namespace Go.Proofs.Ytdfojhkpfbnmgaa
open Go.ChangeShapes Go.WideShapes Go.ChangeAt Go.RowKit
def fltV (f : Flt) : List Value := [.int .i64 f.blk, .bool f.fac, .int .i64 f.aft]
def flatF : List Flt → List Value
  | [] => []
  | f :: fs => fltV f ++ flatF fs
theorem flatF_len : ∀ fs : List Flt, (flatF fs).length = fs.length * 3
  | [] => rfl
  | f :: fs => by
    show (fltV f ++ flatF fs).length = _
    rw [List.length_append, flatF_len fs]
    show 3 + _ = (fs.length + 1) * 3
    omega
theorem flatF_at : ∀ (fs : List Flt) (k : Nat) (f : Flt), fs[k]? = some f → (flatF fs)[k * 3]? = some (.int .i64 f.blk) ∧ (flatF fs)[k * 3 + 1]? = some (.bool f.fac) ∧ (flatF fs)[k * 3 + 2]? = some (.int .i64 f.aft)
  | [], _, _, h => by simp at h
  | g :: fs, 0, f, h => by
    obtain rfl : g = f := by simpa using h
    exact ⟨rfl, rfl, rfl⟩
  | g :: fs, k + 1, f, h => by
    have q := flatF_at fs k f (by simpa using h)
    have e : ∀ j, (flatF (g :: fs))[j + 3]? = (flatF fs)[j]? := fun j => by
      show (fltV g ++ flatF fs)[j + 3]? = _
      rw [List.getElem?_append_right (by simp [fltV])]
      simp [fltV]
    rw [show (k + 1) * 3 = k * 3 + 3 by omega, show k * 3 + 3 + 1 = k * 3 + 1 + 3 by omega, show k * 3 + 3 + 2 = k * 3 + 2 + 3 by omega, e, e, e]
    exact q
theorem flatF_rd {w : World} {g : Nat} : ∀ (fs : List Flt) (off : Nat), (∀ k f, fs[k]? = some f → w.cell? ⟨g, off + k * 3, none⟩ = some (.int .i64 f.blk) ∧ w.cell? ⟨g, off + k * 3 + 1, none⟩ = some (.bool f.fac) ∧ w.cell? ⟨g, off + k * 3 + 2, none⟩ = some (.int .i64 f.aft)) → ∀ j u, (flatF fs)[j]? = some u → w.cell? ⟨g, off + j, none⟩ = some u
  | [], _, _, _, _, hu => by simp [flatF] at hu
  | f :: fs, off, h, j, u, hu => by
    obtain ⟨h0, h1, h2⟩ := h 0 f rfl
    match j, hu with
    | 0, hu =>
      obtain rfl : Value.int .i64 f.blk = u := by simpa [flatF, fltV] using hu
      exact h0
    | 1, hu =>
      obtain rfl : Value.bool f.fac = u := by simpa [flatF, fltV] using hu
      exact h1
    | 2, hu =>
      obtain rfl : Value.int .i64 f.aft = u := by simpa [flatF, fltV] using hu
      exact h2
    | j + 3, hu =>
      have e : (flatF (f :: fs))[j + 3]? = (flatF fs)[j]? := by
        show (fltV f ++ flatF fs)[j + 3]? = _
        rw [List.getElem?_append_right (by simp [fltV])]
        simp [fltV]
      rw [e] at hu
      have q := flatF_rd fs (off + 3) (fun k f' hk => by
        have := h (k + 1) f' (by simpa using hk)
        rw [show off + (k + 1) * 3 = off + 3 + k * 3 by omega] at this
        exact this) j u hu
      rw [show off + (j + 3) = off + 3 + j by omega]
      exact q
theorem flatF_one : ∀ fs : List Flt, ∀ u ∈ flatF fs, u.oneCell' = true
  | [], u, h => by simp [flatF] at h
  | f :: fs, u, h => by
    rcases List.mem_append.1 (show u ∈ fltV f ++ flatF fs from h) with h | h
    · simp only [fltV, List.mem_cons, List.not_mem_nil, or_false] at h
      rcases h with rfl | rfl | rfl <;> rfl
    · exact flatF_one fs u h
def FR (w : World) (A : Option Addr) (fs : List Flt) : Prop := fs = [] ∨ ∃ g, A = some ⟨g, 0, none⟩ ∧ RowT w g 64 (flatF fs)
def FNe (A : Option Addr) (fs : List Flt) (k : Nat) : Prop := fs = [] ∨ ∃ g, A = some ⟨g, 0, none⟩ ∧ g ≠ k
def FGe (A : Option Addr) (fs : List Flt) (k : Nat) : Prop := fs = [] ∨ ∃ g, A = some ⟨g, 0, none⟩ ∧ k ≤ g
theorem FR.below_ {w w' : World} {A : Option Addr} {fs : List Flt} (h : FR w A fs) (hb : Below w.heap.size w w') : FR w' A fs := by
  rcases h with h | ⟨g, e, h⟩
  · exact Or.inl h
  · exact Or.inr ⟨g, e, h.below hb⟩
theorem FR.ne {w : World} {A : Option Addr} {fs : List Flt} (h : FR w A fs) {k : Nat} (hk : w.heap.size ≤ k) : FNe A fs k := by
  rcases h with h | ⟨g, e, h⟩
  · exact Or.inl h
  · exact Or.inr ⟨g, e, by have := h.lt; omega⟩
theorem FNe.fresh {A : Option Addr} {fs : List Flt} {n k : Nat} (h : FGe A fs n) (hk : k < n) : FNe A fs k := by
  rcases h with h | ⟨g, e, h⟩
  · exact Or.inl h
  · exact Or.inr ⟨g, e, by omega⟩
theorem FR.at_ {w : World} {A : Option Addr} {fs : List Flt} (h : FR w A fs) {m gx gb : Nat} (h1 : FNe A fs m) (h2 : FNe A fs gx) (h3 : FNe A fs gb) : FltAt w A fs m gx gb := by
  rcases h with h | ⟨g, e, h⟩
  · exact Or.inl h
  rcases h1 with h1 | ⟨g1, e1, h1⟩
  · exact Or.inl h1
  rcases h2 with h2 | ⟨g2, e2, h2⟩
  · exact Or.inl h2
  rcases h3 with h3 | ⟨g3, e3, h3⟩
  · exact Or.inl h3
  subst e
  cases e1
  cases e2
  cases e3
  refine Or.inr ⟨g, 0, rfl, h.lt, h1, h2, h3, fun k f hf => ?_⟩
  obtain ⟨q0, q1, q2⟩ := flatF_at fs k f hf
  rw [Nat.zero_add]
  exact ⟨h.cell_ q0, h.cell_ q1, h.cell_ q2⟩
theorem infoF : (Try.prog.info? 64).map (fun i => (i.zero, i.size, i.bytes)) = some (some (.agg #[.int .i64 0, .bool false, .int .i64 0]), 3, 24) := by kernel_rfl
theorem slF_not_nil (a : Addr) (n c : Nat) (w : World) : (binOp BinOp.eql 24 (.slice (some a) n c) (.slice none 0 0)).run Try.prog w = .ok (.bool false) w := by kernel_rfl
theorem own_emptyF (w : World) (e : TypeId) : (w.alloc (.cells #[] e)).ownsRow w.heap.size e 3 (.slice (some ⟨w.heap.size, 0, none⟩) 0 0) 0 [] :=
  ⟨by simp, Or.inr ⟨w.heap.size, 0, #[], rfl, Nat.le_refl _, heap_alloc_new w _, by omega, by unfold maxLen; omega, by simp, by simp⟩⟩
theorem own_rowF {w : World} {base n : Nat} {t : TypeId} {v : Value} {xs : List Value} (h : w.ownsRow base t 3 v n xs) : ∃ A c, v = .slice A n c ∧ (n = 0 ∨ ∃ g, A = some ⟨g, 0, none⟩ ∧ RowT w g t xs ∧ base ≤ g) := by
  obtain ⟨hl, h'⟩ := h
  rcases h' with ⟨hv, h0⟩ | ⟨g, cap, cur, rfl, hb, hh, hnc, _, hsz, ht⟩
  · rw [h0] at hl
    simp at hl
    have hn : n = 0 := by omega
    subst hn
    exact ⟨none, 0, hv, Or.inl rfl⟩
  · refine ⟨some ⟨g, 0, none⟩, cap, rfl, Or.inr ⟨g, rfl, ⟨cur.toList.drop (n * 3), ?_⟩, hb⟩⟩
    unfold Blk
    rw [← ht, List.take_append_drop]
    exact hh
theorem fclone_any (fs : List Flt) (A : Option Addr) (c : Nat) (w : World) (hs : SlF w w.heap.size A fs) (hlen : fs.length ≤ 100000) :
    Calls Try.prog 29 #[.slice A fs.length c] w fun e' w' => (∃ A' c', e' = .returned (.slice A' fs.length c') ∧ FR w' A' fs ∧ FGe A' fs w.heap.size) ∧ Below w.heap.size w w' := by
  rcases A with _ | ⟨g, o, sp⟩
  · obtain rfl : fs = [] := by
      rcases hs with h | ⟨g, off, e, _⟩
      · exact h
      · cases e
    have hnil : (binOp BinOp.eql 24 (.slice none 0 c) (.slice none 0 0)).run Try.prog w = .ok (.bool true) w := by kernel_rfl
    go_enter Try.func29, Try.ntmps29
    go_wp2
    go_ret
    exact ⟨⟨none, 0, rfl, Or.inl rfl, Or.inl rfl⟩, Below.refl _ _⟩
  · have hnil := slF_not_nil ⟨g, o, sp⟩ fs.length c w
    have HR : Rd (w.alloc (.cells #[] 64)) (some ⟨g, o, sp⟩) fs.length 3 (flatF fs) := by
      refine ⟨flatF_len fs, ?_⟩
      rcases hs with h | ⟨g', off, e, hlt, hc⟩
      · left
        rw [h]
        rfl
      · cases e
        refine Or.inr ⟨g, o, rfl, fun j u hu => ?_⟩
        refine (Below.cell (p := ⟨g, o + j, none⟩) ((Below.refl w.heap.size w).alloc (Nat.le_refl _) (.cells #[] 64)) hlt).trans ?_
        exact flatF_rd fs o hc j u hu
    clear hs
    go_enter Try.func29, Try.ntmps29
    go_upto_region 3 with fail
    refine wp_region_lit ?_
    refine wpList_plain rfl (fun K hK => ?_)
    go_simp
    refine hK _ _ ?_
    clear hK K
    try simp only [Act.put, pz1, pz2, pz3]
    refine wpList_plain rfl (fun K hK => ?_)
    go_simp
    refine hK _ _ ?_
    clear hK K
    try simp only [Act.put, pz1, pz2, pz3]
    obtain ⟨ti0, hi, hz0, hz1, hz2⟩ := info_parts infoF
    refine wpList_app _ rfl (.tmp 5) (.tmp 6) _ rfl w.heap.size 64 ti0 _ 3 24 Try.underlying24 hi hz0 hz1 hz2 rfl (by decide) (.slice (some ⟨w.heap.size, 0, none⟩) 0 0) 0 [] rfl (own_emptyF w _) (some ⟨g, o, sp⟩) fs.length c (flatF fs) rfl HR (flatF_one fs) (by unfold maxLen; omega) (by omega) (by simp) ?_
    intro v' w' ho' hg' hv'
    clear hi hz0 hz1 hz2
    rw [Nat.zero_add, List.nil_append] at ho'
    obtain ⟨A', c', rfl, hR'⟩ := own_rowF ho'
    have HG := Lib.hid hg'
    have HRR := Lib.hid hR'
    clear hg' hR' ho' hv' hnil
    try simp only [Act.put, pz1, pz2, pz3]
    go_wp2_with fail
    go_ret
    have hB : Below w.heap.size w w' := ((Below.refl _ _).alloc (Nat.le_refl _) _).grown HG.out (by simp) (fun g' hg'' => by simp [Value.ownBlock] at hg''; omega)
    refine ⟨⟨A', c', rfl, ?_, ?_⟩, hB⟩
    · rcases HRR.out with h | ⟨g', e, h, _⟩
      · exact Or.inl (List.eq_nil_of_length_eq_zero h)
      · exact Or.inr ⟨g', e, h⟩
    · rcases HRR.out with h | ⟨g', e, _, h⟩
      · exact Or.inl (List.eq_nil_of_length_eq_zero h)
      · exact Or.inr ⟨g', e, h⟩
theorem box_chipF (a b c d e : Int) (AF : Option Addr) (nf cf gx NX gb NB : Nat) (w : World) : (Instr.box 68 (.agg #[.int .i64 a, .int .i64 b, .int .i64 c, .int .i64 d, .int .i64 e, .slice AF nf cf, .slice (some ⟨gx, 0, none⟩) NX NX, .slice (some ⟨gb, 0, none⟩) NB NB, .int .i64 0, .int .i64 0, .bool true, .bool false, .int .i64 0, .int .i64 0, .int .i64 0, .int .u8 0])).run Try.prog w = .ok (.pointer (some ⟨w.heap.size, 0, none⟩)) (w.alloc (.cells #[.int .i64 a, .int .i64 b, .int .i64 c, .int .i64 d, .int .i64 e, .slice AF nf cf, .slice (some ⟨gx, 0, none⟩) NX NX, .slice (some ⟨gb, 0, none⟩) NB NB, .int .i64 0, .int .i64 0, .bool true, .bool false, .int .i64 0, .int .i64 0, .int .i64 0, .int .u8 0] 68)) := by kernel_rfl
theorem wp_boxF {w : World} {o : Oper} {a' : Act} {K : Act → World → Prop} {Q : Exit → Act → World → Prop} (x : Operand) (hop : o.op = Op.box 68 x)
    {a b c d e : Int} {AF : Option Addr} {nf cf gx NX gb NB : Nat} (hx : a'.eval x = .agg #[.int .i64 a, .int .i64 b, .int .i64 c, .int .i64 d, .int .i64 e, .slice AF nf cf, .slice (some ⟨gx, 0, none⟩) NX NX, .slice (some ⟨gb, 0, none⟩) NB NB, .int .i64 0, .int .i64 0, .bool true, .bool false, .int .i64 0, .int .i64 0, .int .i64 0, .int .u8 0])
    (hK : ∀ w' m, Blk w' m 68 #[.int .i64 a, .int .i64 b, .int .i64 c, .int .i64 d, .int .i64 e, .slice AF nf cf, .slice (some ⟨gx, 0, none⟩) NX NX, .slice (some ⟨gb, 0, none⟩) NB NB, .int .i64 0, .int .i64 0, .bool true, .bool false, .int .i64 0, .int .i64 0, .int .i64 0, .int .u8 0] → w.heap.size ≤ m → Below w.heap.size w w' → K (a'.put o.dst (.pointer (some ⟨m, 0, none⟩))) w') : Oper.wp Try.prog o a' w K Q := by
  have hrun := box_chipF a b c d e AF nf cf gx NX gb NB w
  unfold Oper.wp
  simp [execOp, hop, hx, hrun, Result.andThen]
  exact hK _ _ (Blk.new_ _ _ _) (Nat.le_refl _) ((Below.refl _ _).alloc (Nat.le_refl _) _)
theorem pmayF_b (a b c d e : Int) (fs : List Flt) (A : Option Addr) (c0 : Nat) (T : Bool) (w : World) (hs : SlF w w.heap.size A fs) (hc0 : fs.length ≤ c0) (hc1 : c0 ≤ maxLen) (h : Hid (planMay a b c d e fs = T)) : Calls Try.prog 27 #[.agg #[.int .i64 a, .int .i64 b, .int .i64 c, .int .i64 d, .int .i64 e], .slice A fs.length c0] w fun e' w' => e' = .returned (.bool T) ∧ Below w.heap.size w w' := by
  have := pMay_any a b c d e fs A c0 w hs hc0 hc1
  rwa [h.out] at this
theorem newF_no (a b c d e : Int) (fs : List Flt) (A : Option Addr) (c0 : Nat) (w : World) (hs : SlF w w.heap.size A fs) (hc0 : fs.length ≤ c0) (hc1 : c0 ≤ maxLen) (HP : Hid (planMay a b c d e fs = false)) : Calls Try.prog 6 #[.agg #[.int .i64 a, .int .i64 b, .int .i64 c, .int .i64 d, .int .i64 e], .slice A fs.length c0] w fun e' w' => e' = .returned (.pointer none) ∧ Below w.heap.size w w' := by
  have HB0 : Below w.heap.size w (w.alloc (.cells #[.int .i64 a, .int .i64 b, .int .i64 c, .int .i64 d, .int .i64 e] 23)) := (Below.refl _ _).alloc (Nat.le_refl _) _
  have HSF := hs.next HB0
  go_enter Try.func6, Try.ntmps6
  go_wp2_with (go_at_call 27; ((with_reducible refine (pmayF_b _ _ _ _ _ fs _ _ _ _ HSF hc0 hc1 HP).mono ?_); rintro e' wN ⟨rfl, hb⟩; replace HB0 := btr HB0 HB0.size hb))
  go_ret
  exact ⟨rfl, HB0⟩
theorem newF_yes (a b c d e : Int) (fs : List Flt) (A : Option Addr) (c0 : Nat) (NX NB : Nat) (w : World) (hs : SlF w w.heap.size A fs) (hc0 : fs.length ≤ c0) (hc1 : c0 ≤ maxLen) (hfl : fs.length ≤ 100000) (HP : Hid (planMay a b c d e fs = true)) (hNX : (NX : Int) = a * b * (c + 16)) (hNB : (NB : Int) = a) (n1 : 1 ≤ NX) (n2 : NX ≤ 100000) (n3 : NB ≤ 1000) :
    Calls Try.prog 6 #[.agg #[.int .i64 a, .int .i64 b, .int .i64 c, .int .i64 d, .int .i64 e], .slice A fs.length c0] w fun e' w' => (∃ m gx gb AF cf, e' = .returned (.pointer (some ⟨m, 0, none⟩)) ∧ ChipW w' m gx gb AF fs.length cf a b c d e fs (ChS.new NX NB) ∧ w.heap.size ≤ m ∧ w.heap.size ≤ gx ∧ w.heap.size ≤ gb) ∧ Below w.heap.size w w' := by
  have HM : Hid (mayB a b c d e = true) := Lib.hid (planMay_bd HP.out).1
  obtain ⟨q1, q2, q3, q4, q5, q6, -⟩ := may_bd HM.out
  obtain ⟨M, hM⟩ : ∃ M, a * b = M := ⟨_, rfl⟩
  have hMb : 32 ≤ M ∧ M ≤ 160 := by
    have := mul_bd (x := a) (y := b) (lo := 8) (hi := 20) q1 q2 q3 q4 (by omega) (by omega)
    omega
  have hNX' : M * (c + 16) = (NX : Int) := by rw [← hM]; exact hNX.symm
  have hw1 : IntKind.i64.wrap M = M := wrapS _ (by omega) (by omega)
  have hw2 : IntKind.i64.wrap (NX : Int) = (NX : Int) := wrapS _ (by omega) (by omega)
  have HB0 : Below w.heap.size w (w.alloc (.cells #[.int .i64 a, .int .i64 b, .int .i64 c, .int .i64 d, .int .i64 e] 23)) := (Below.refl _ _).alloc (Nat.le_refl _) _
  have HSF := hs.next HB0
  have G1 : Blk (w.alloc (.cells #[.int .i64 a, .int .i64 b, .int .i64 c, .int .i64 d, .int .i64 e] 23)) w.heap.size 23 #[.int .i64 a, .int .i64 b, .int .i64 c, .int .i64 d, .int .i64 e] := Blk.new_ _ _ _
  have HY := cells5 G1
  have HLX : Hid (NX = (a * b * (c + 16)).toNat) := Lib.hid (by rw [← hNX]; rfl)
  have HLK : Hid (3 * NB = 3 * a.toNat) := Lib.hid (by omega)
  clear hNX q1 q2 q3 q4 q5 q6 hMb hs
  go_enter Try.func6, Try.ntmps6
  go_upto_region 3 with (go_at_call 27; ((with_reducible refine (pmayF_b _ _ _ _ _ fs _ _ _ _ HSF hc0 hc1 HP).mono ?_); rintro e' wN ⟨rfl, hb⟩; replace HSF := HSF.next hb; replace G1 := G1.below hb G1.lt; replace HB0 := btr HB0 HB0.size hb; clear HY; have HY := cells5 G1))
  clear hc0 hc1
  refine wp_region_noPanic ?_
  refine wp_region_held_drew (S := (fun w' => w'.cell? ⟨w.heap.size, 0, none⟩ = some (.int .i64 a) ∧ w'.cell? ⟨w.heap.size, 1, none⟩ = some (.int .i64 b) ∧ w'.cell? ⟨w.heap.size, 2, none⟩ = some (.int .i64 c) ∧ w'.cell? ⟨w.heap.size, 3, none⟩ = some (.int .i64 d) ∧ w'.cell? ⟨w.heap.size, 4, none⟩ = some (.int .i64 e))) (by kernel_rfl) ?_ (fun hHeld => ?_)
  · (first | exact HY | assumption)
  refine tk 0 ⟨some 10, .fieldAddr 23 (.tmp 2) 0, 0, "chip.go:42", #[], none⟩ ?_; try simp only [Act.put, pz1, pz2, pz3]
  refine tk 1 ⟨some 11, .load 3 (.tmp 10), 3, "chip.go:42", #[⟨0, .data⟩], none⟩ ?_; try simp only [Act.put, pz1, pz2, pz3]
  refine tk 2 ⟨some 12, .fieldAddr 23 (.tmp 2) 1, 0, "chip.go:42", #[], none⟩ ?_; try simp only [Act.put, pz1, pz2, pz3]
  refine tk 3 ⟨some 13, .load 3 (.tmp 12), 3, "chip.go:42", #[⟨2, .data⟩], none⟩ ?_; try simp only [Act.put, pz1, pz2, pz3]
  refine tk 4 ⟨some 14, .binOp .mul 3 (.tmp 11) (.tmp 13) 3, 3, "chip.go:42", #[⟨1, .data⟩, ⟨3, .data⟩], none⟩ ?_; try simp only [Act.put, pz1, pz2, pz3]
  refine tk 5 ⟨some 15, .load 23 (.tmp 2), 23, "chip.go:42", #[], none⟩ ?_; try simp only [Act.put, pz1, pz2, pz3]
  refine wpAnyH_ready (rs := [6]) (by kernel_rfl) (by simp) ?_
  refine AllReadyH.cons (o := ⟨some 16, .call { callee := .value (.func 28), args := #[.tmp 15], argTypes := #[23] }, 3, "chip.go:42", #[⟨5, .data⟩], none⟩) rfl (fun K hK => ?_) AllReadyH.nil
  go_simp
  (go_at_call 28; ((with_reducible refine (raw_b _ _ _ _ _ _ HM).mono ?_); rintro e' wN ⟨rfl, hb⟩; (try have hb := undrew hb); replace HSF := HSF.next hb; replace G1 := G1.below hb G1.lt; replace HB0 := btr HB0 HB0.size hb; clear HY; have HY := cells5 G1))
  go_wp2_with fail
  refine hK.out _ _ ?_ (fun hNew => ?_)
  · (first | exact HY | assumption)
  clear hK K hHeld
  have hHeld := hNew
  clear hNew
  try simp only [Act.put, pz1, pz2, pz3]
  refine tk 7 ⟨some 17, .binOp .mul 3 (.tmp 14) (.tmp 16) 3, 3, "chip.go:42", #[⟨4, .data⟩, ⟨6, .data⟩], none⟩ ?_; try simp only [Act.put, pz1, pz2, pz3]
  refine tk 8 ⟨some 5, .assign (.tmp 17), 3, "chip.go:42", #[⟨7, .data⟩, ⟨6, .chain⟩, ⟨0, .phase⟩, ⟨1, .phase⟩, ⟨2, .phase⟩, ⟨3, .phase⟩, ⟨4, .phase⟩, ⟨5, .phase⟩, ⟨6, .phase⟩, ⟨7, .phase⟩], none⟩ ?_; try simp only [Act.put, pz1, pz2, pz3]
  refine wpAnyH_done (by kernel_rfl) ?_ _
  refine NoPanic.normal ?_
  go_upto_region 4 with fail
  replace G1 : Blk wN.drew w.heap.size 23 #[.int .i64 a, .int .i64 b, .int .i64 c, .int .i64 d, .int .i64 e] := G1
  replace HB0 := HB0.drew
  replace HSF : SlF wN.drew wN.drew.heap.size A fs := HSF
  have HS : w.heap.size + 1 ≤ wN.drew.heap.size := G1.lt
  clear HY
  have HY := cells5 G1
  clear hb hNX' hw1 hw2 hM
  refine wp_region_noPanic ?_
  refine wp_region_held_drew (S := (fun w' => w'.cell? ⟨w.heap.size, 0, none⟩ = some (.int .i64 a) ∧ w'.cell? ⟨w.heap.size, 1, none⟩ = some (.int .i64 b) ∧ w'.cell? ⟨w.heap.size, 2, none⟩ = some (.int .i64 c) ∧ w'.cell? ⟨w.heap.size, 3, none⟩ = some (.int .i64 d) ∧ w'.cell? ⟨w.heap.size, 4, none⟩ = some (.int .i64 e))) (by kernel_rfl) ?_ (fun hHeld => ?_)
  · (first | exact HY | assumption)
  refine tk 0 ⟨some 18, .load 23 (.tmp 2), 23, "chip.go:43", #[], none⟩ ?_; try simp only [Act.put, pz1, pz2, pz3]
  refine tk 1 ⟨some 19, .move (.tmp 1), 24, "chip.go:43", #[], none⟩ ?_; try simp only [Act.put, pz1, pz2, pz3]
  refine tk 4 ⟨some 22, .move (.tmp 5), 3, "chip.go:43", #[], none⟩ ?_; try simp only [Act.put, pz1, pz2, pz3]
  refine tk 6 ⟨some 24, .fieldAddr 23 (.tmp 2) 0, 0, "chip.go:43", #[], none⟩ ?_; try simp only [Act.put, pz1, pz2, pz3]
  refine tk 7 ⟨some 25, .load 3 (.tmp 24), 3, "chip.go:43", #[⟨6, .data⟩], none⟩ ?_; try simp only [Act.put, pz1, pz2, pz3]
  refine wpAnyH_ready (rs := [2, 3, 8]) (by kernel_rfl) (by simp) ?_
  refine (AllReadyH.cons (o := ⟨some 20, .call { callee := .value (.func 29), args := #[.tmp 19], argTypes := #[24] }, 24, "chip.go:45", #[⟨1, .data⟩], none⟩) rfl (fun K hK => ?_) (AllReadyH.cons (o := ⟨some 21, .buildSlice 46 1 #[(0, .const (.int .u8 255))], 46, "chip.go:43", #[], none⟩) rfl (fun K hK => ?_) (AllReadyH.cons (o := ⟨some 26, .makeSlice 66 (.tmp 25) (.tmp 25), 66, "chip.go:43", #[⟨7, .data⟩, ⟨7, .data⟩], none⟩) rfl (fun K hK => ?_) AllReadyH.nil)))
  · go_simp
    (go_at_call 29; ((with_reducible refine (fclone_any fs _ _ _ HSF hfl).mono ?_); rintro e' wN ⟨⟨AF, cf, rfl, RF, hqf⟩, hb⟩))
    go_wp2_with fail
    (try have hfx := FNe.fresh hqf RX.lt)
    (try have hfb := FNe.fresh hqf RB.lt)
    (try replace HSF := HSF.next hb)
    (try replace B3 := B3.below hb B3.lt)
    (try replace RX := RX.below hb)
    (try replace RB := RB.below hb)
    replace G1 := G1.below hb G1.lt
    clear HY
    have HY := cells5 G1
    replace HB0 := btr HB0 HB0.size hb
    replace HS := Nat.le_trans HS hb.size
    refine hK.out _ _ ?_ (fun hNew => ?_)
    · (first | exact HY | assumption)
    clear hK K hHeld
    have hHeld := hNew
    clear hNew
    try simp only [Act.put, pz1, pz2, pz3]
    refine wpAnyH_ready (rs := [3, 8]) (by kernel_rfl) (by simp) ?_
    refine (AllReadyH.cons (o := ⟨some 21, .buildSlice 46 1 #[(0, .const (.int .u8 255))], 46, "chip.go:43", #[], none⟩) rfl (fun K hK => ?_) (AllReadyH.cons (o := ⟨some 26, .makeSlice 66 (.tmp 25) (.tmp 25), 66, "chip.go:43", #[⟨7, .data⟩, ⟨7, .data⟩], none⟩) rfl (fun K hK => ?_) AllReadyH.nil))
    · refine wp_build1b _ rfl 255 rfl ?_
      intro wN b3 B3 hq hb
      (try replace RF := RF.below_ hb)
      (try replace HSF := HSF.next hb)
      (try replace RX := RX.below hb)
      (try replace RB := RB.below hb)
      replace G1 := G1.below hb G1.lt
      clear HY
      have HY := cells5 G1
      replace HB0 := btr HB0 HB0.size hb
      replace HS := Nat.le_trans HS hb.size
      refine hK.out _ _ ?_ (fun hNew => ?_)
      · (first | exact HY | assumption)
      clear hK K hHeld
      have hHeld := hNew
      clear hNew
      try simp only [Act.put, pz1, pz2, pz3]
      refine wpAnyH_ready (rs := [5, 8]) (by kernel_rfl) (by simp) ?_
      refine (AllReadyH.cons (o := ⟨some 23, .call { callee := .value (.func 30), args := #[.tmp 21, .tmp 22], argTypes := #[46, 3] }, 46, "chip.go:46", #[⟨3, .data⟩, ⟨4, .data⟩, ⟨2, .chain⟩], none⟩) rfl (fun K hK => ?_) (AllReadyH.cons (o := ⟨some 26, .makeSlice 66 (.tmp 25) (.tmp 25), 66, "chip.go:43", #[⟨7, .data⟩, ⟨7, .data⟩], none⟩) rfl (fun K hK => ?_) AllReadyH.nil))
      · go_simp
        (go_at_call 30; ((with_reducible refine (rptB_b 255 b3 NX _ B3 n1 n2).mono ?_); rintro e' wN ⟨gx, rfl, hqx, RX, hb⟩))
        go_wp2_with fail
        have hgx := Nat.le_trans HS hqx
        (try have hxb := Nat.ne_of_gt (Nat.lt_of_lt_of_le RB.lt hqx))
        (try have hfx := RF.ne hqx)
        (try replace RF := RF.below_ hb)
        (try replace HSF := HSF.next hb)
        (try replace B3 := B3.below hb B3.lt)
        (try replace RB := RB.below hb)
        replace G1 := G1.below hb G1.lt
        clear HY
        have HY := cells5 G1
        replace HB0 := btr HB0 HB0.size hb
        replace HS := Nat.le_trans HS hb.size
        refine hK.out _ _ ?_ (fun hNew => ?_)
        · (first | exact HY | assumption)
        clear hK K hHeld
        have hHeld := hNew
        clear hNew
        try simp only [Act.put, pz1, pz2, pz3]
        refine wpAnyH_ready (rs := [8]) (by kernel_rfl) (by simp) ?_
        refine AllReadyH.cons (o := ⟨some 26, .makeSlice 66 (.tmp 25) (.tmp 25), 66, "chip.go:43", #[⟨7, .data⟩, ⟨7, .data⟩], none⟩) rfl (fun K hK => ?_) AllReadyH.nil
        refine wp_makeK _ _ rfl a NB rfl rfl hNB (by omega) ?_
        intro wN gb RB hqb hb
        have hgb := Nat.le_trans HS hqb
        (try have hxb := Nat.ne_of_lt (Nat.lt_of_lt_of_le RX.lt hqb))
        (try have hfb := RF.ne hqb)
        (try replace RF := RF.below_ hb)
        (try replace HSF := HSF.next hb)
        (try replace B3 := B3.below hb B3.lt)
        (try replace RX := RX.below hb)
        replace G1 := G1.below hb G1.lt
        clear HY
        have HY := cells5 G1
        replace HB0 := btr HB0 HB0.size hb
        replace HS := Nat.le_trans HS hb.size
        refine hK.out _ _ ?_ (fun hNew => ?_)
        · (first | exact HY | assumption)
        clear hK K hHeld
        have hHeld := hNew
        clear hNew
        try simp only [Act.put, pz1, pz2, pz3]
        refine tk 9 ⟨some 27, .build 68 #[(0, .tmp 18), (1, .tmp 20), (2, .tmp 23), (3, .tmp 26), (6, .const (.bool true))], 68, "chip.go:43", #[⟨0, .data⟩, ⟨2, .data⟩, ⟨5, .data⟩, ⟨8, .data⟩], none⟩ ?_; try simp only [Act.put, pz1, pz2, pz3]
        refine wpAnyH_ready (rs := [10]) (by kernel_rfl) (by simp) ?_
        refine AllReadyH.cons (o := ⟨some 28, .box 68 (.tmp 27), 26, "chip.go:43", #[⟨9, .data⟩], none⟩) rfl (fun K hK => ?_) AllReadyH.nil
        refine wp_boxF _ rfl rfl ?_
        intro wN m BM hqm hb
        have hm := Nat.le_trans HS hqm
        have h1 : m ≠ gx := Nat.ne_of_gt (Nat.lt_of_lt_of_le RX.lt hqm)
        have h2 : m ≠ gb := Nat.ne_of_gt (Nat.lt_of_lt_of_le RB.lt hqm)
        have hfm := RF.ne hqm
        (try replace RF := RF.below_ hb)
        (try replace HSF := HSF.next hb)
        (try replace B3 := B3.below hb B3.lt)
        (try replace RX := RX.below hb)
        (try replace RB := RB.below hb)
        replace G1 := G1.below hb G1.lt
        clear HY
        have HY := cells5 G1
        replace HB0 := btr HB0 HB0.size hb
        replace HS := Nat.le_trans HS hb.size
        refine hK.out _ _ ?_ (fun hNew => ?_)
        · (first | exact HY | assumption)
        clear hK K hHeld
        have hHeld := hNew
        clear hNew
        try simp only [Act.put, pz1, pz2, pz3]
        refine tk 11 ⟨some 4, .assign (.tmp 28), 26, "chip.go:43", #[⟨10, .data⟩, ⟨5, .chain⟩, ⟨0, .phase⟩, ⟨1, .phase⟩, ⟨2, .phase⟩, ⟨3, .phase⟩, ⟨4, .phase⟩, ⟨5, .phase⟩, ⟨6, .phase⟩, ⟨7, .phase⟩, ⟨8, .phase⟩, ⟨9, .phase⟩, ⟨10, .phase⟩], none⟩ ?_; try simp only [Act.put, pz1, pz2, pz3]
        refine wpAnyH_done (by kernel_rfl) ?_ _
        refine NoPanic.normal ?_
        go_wp2_with fail
        go_ret
        refine ⟨⟨m, gx, gb, AF, cf, rfl, ⟨⟨NX, NB, NX, NB, by simp [ChS.new], hNB, Nat.le_refl _, BM⟩, by simpa [ChS.new, byteV] using RX, by simpa [ChS.new] using RB, RF.at_ hfm hfx hfb, h1, h2, hxb, (List.length_replicate ..).trans HLX.out, (List.length_replicate ..).trans HLK.out, rfl, HP.out⟩, by omega, by omega, by omega⟩, HB0⟩
      · refine wp_makeK _ _ rfl a NB rfl rfl hNB (by omega) ?_
        intro wN gb RB hqb hb
        have hgb := Nat.le_trans HS hqb
        (try have hxb := Nat.ne_of_lt (Nat.lt_of_lt_of_le RX.lt hqb))
        (try have hfb := RF.ne hqb)
        (try replace RF := RF.below_ hb)
        (try replace HSF := HSF.next hb)
        (try replace B3 := B3.below hb B3.lt)
        (try replace RX := RX.below hb)
        replace G1 := G1.below hb G1.lt
        clear HY
        have HY := cells5 G1
        replace HB0 := btr HB0 HB0.size hb
        replace HS := Nat.le_trans HS hb.size
        refine hK.out _ _ ?_ (fun hNew => ?_)
        · (first | exact HY | assumption)
        clear hK K hHeld
        have hHeld := hNew
        clear hNew
        try simp only [Act.put, pz1, pz2, pz3]
        refine wpAnyH_ready (rs := [5]) (by kernel_rfl) (by simp) ?_
        refine AllReadyH.cons (o := ⟨some 23, .call { callee := .value (.func 30), args := #[.tmp 21, .tmp 22], argTypes := #[46, 3] }, 46, "chip.go:46", #[⟨3, .data⟩, ⟨4, .data⟩, ⟨2, .chain⟩], none⟩) rfl (fun K hK => ?_) AllReadyH.nil
        go_simp
        (go_at_call 30; ((with_reducible refine (rptB_b 255 b3 NX _ B3 n1 n2).mono ?_); rintro e' wN ⟨gx, rfl, hqx, RX, hb⟩))
        go_wp2_with fail
        have hgx := Nat.le_trans HS hqx
        (try have hxb := Nat.ne_of_gt (Nat.lt_of_lt_of_le RB.lt hqx))
        (try have hfx := RF.ne hqx)
        (try replace RF := RF.below_ hb)
        (try replace HSF := HSF.next hb)
        (try replace B3 := B3.below hb B3.lt)
        (try replace RB := RB.below hb)
        replace G1 := G1.below hb G1.lt
        clear HY
        have HY := cells5 G1
        replace HB0 := btr HB0 HB0.size hb
        replace HS := Nat.le_trans HS hb.size
        refine hK.out _ _ ?_ (fun hNew => ?_)
        · (first | exact HY | assumption)
        clear hK K hHeld
        have hHeld := hNew
        clear hNew
        try simp only [Act.put, pz1, pz2, pz3]
        refine tk 9 ⟨some 27, .build 68 #[(0, .tmp 18), (1, .tmp 20), (2, .tmp 23), (3, .tmp 26), (6, .const (.bool true))], 68, "chip.go:43", #[⟨0, .data⟩, ⟨2, .data⟩, ⟨5, .data⟩, ⟨8, .data⟩], none⟩ ?_; try simp only [Act.put, pz1, pz2, pz3]
        refine wpAnyH_ready (rs := [10]) (by kernel_rfl) (by simp) ?_
        refine AllReadyH.cons (o := ⟨some 28, .box 68 (.tmp 27), 26, "chip.go:43", #[⟨9, .data⟩], none⟩) rfl (fun K hK => ?_) AllReadyH.nil
        refine wp_boxF _ rfl rfl ?_
        intro wN m BM hqm hb
        have hm := Nat.le_trans HS hqm
        have h1 : m ≠ gx := Nat.ne_of_gt (Nat.lt_of_lt_of_le RX.lt hqm)
        have h2 : m ≠ gb := Nat.ne_of_gt (Nat.lt_of_lt_of_le RB.lt hqm)
        have hfm := RF.ne hqm
        (try replace RF := RF.below_ hb)
        (try replace HSF := HSF.next hb)
        (try replace B3 := B3.below hb B3.lt)
        (try replace RX := RX.below hb)
        (try replace RB := RB.below hb)
        replace G1 := G1.below hb G1.lt
        clear HY
        have HY := cells5 G1
        replace HB0 := btr HB0 HB0.size hb
        replace HS := Nat.le_trans HS hb.size
        refine hK.out _ _ ?_ (fun hNew => ?_)
        · (first | exact HY | assumption)
        clear hK K hHeld
        have hHeld := hNew
        clear hNew
        try simp only [Act.put, pz1, pz2, pz3]
        refine tk 11 ⟨some 4, .assign (.tmp 28), 26, "chip.go:43", #[⟨10, .data⟩, ⟨5, .chain⟩, ⟨0, .phase⟩, ⟨1, .phase⟩, ⟨2, .phase⟩, ⟨3, .phase⟩, ⟨4, .phase⟩, ⟨5, .phase⟩, ⟨6, .phase⟩, ⟨7, .phase⟩, ⟨8, .phase⟩, ⟨9, .phase⟩, ⟨10, .phase⟩], none⟩ ?_; try simp only [Act.put, pz1, pz2, pz3]
        refine wpAnyH_done (by kernel_rfl) ?_ _
        refine NoPanic.normal ?_
        go_wp2_with fail
        go_ret
        refine ⟨⟨m, gx, gb, AF, cf, rfl, ⟨⟨NX, NB, NX, NB, by simp [ChS.new], hNB, Nat.le_refl _, BM⟩, by simpa [ChS.new, byteV] using RX, by simpa [ChS.new] using RB, RF.at_ hfm hfx hfb, h1, h2, hxb, (List.length_replicate ..).trans HLX.out, (List.length_replicate ..).trans HLK.out, rfl, HP.out⟩, by omega, by omega, by omega⟩, HB0⟩
    · refine wp_makeK _ _ rfl a NB rfl rfl hNB (by omega) ?_
      intro wN gb RB hqb hb
      have hgb := Nat.le_trans HS hqb
      (try have hxb := Nat.ne_of_lt (Nat.lt_of_lt_of_le RX.lt hqb))
      (try have hfb := RF.ne hqb)
      (try replace RF := RF.below_ hb)
      (try replace HSF := HSF.next hb)
      (try replace B3 := B3.below hb B3.lt)
      (try replace RX := RX.below hb)
      replace G1 := G1.below hb G1.lt
      clear HY
      have HY := cells5 G1
      replace HB0 := btr HB0 HB0.size hb
      replace HS := Nat.le_trans HS hb.size
      refine hK.out _ _ ?_ (fun hNew => ?_)
      · (first | exact HY | assumption)
      clear hK K hHeld
      have hHeld := hNew
      clear hNew
      try simp only [Act.put, pz1, pz2, pz3]
      refine wpAnyH_ready (rs := [3]) (by kernel_rfl) (by simp) ?_
      refine AllReadyH.cons (o := ⟨some 21, .buildSlice 46 1 #[(0, .const (.int .u8 255))], 46, "chip.go:43", #[], none⟩) rfl (fun K hK => ?_) AllReadyH.nil
      refine wp_build1b _ rfl 255 rfl ?_
      intro wN b3 B3 hq hb
      (try replace RF := RF.below_ hb)
      (try replace HSF := HSF.next hb)
      (try replace RX := RX.below hb)
      (try replace RB := RB.below hb)
      replace G1 := G1.below hb G1.lt
      clear HY
      have HY := cells5 G1
      replace HB0 := btr HB0 HB0.size hb
      replace HS := Nat.le_trans HS hb.size
      refine hK.out _ _ ?_ (fun hNew => ?_)
      · (first | exact HY | assumption)
      clear hK K hHeld
      have hHeld := hNew
      clear hNew
      try simp only [Act.put, pz1, pz2, pz3]
      refine wpAnyH_ready (rs := [5]) (by kernel_rfl) (by simp) ?_
      refine AllReadyH.cons (o := ⟨some 23, .call { callee := .value (.func 30), args := #[.tmp 21, .tmp 22], argTypes := #[46, 3] }, 46, "chip.go:46", #[⟨3, .data⟩, ⟨4, .data⟩, ⟨2, .chain⟩], none⟩) rfl (fun K hK => ?_) AllReadyH.nil
      go_simp
      (go_at_call 30; ((with_reducible refine (rptB_b 255 b3 NX _ B3 n1 n2).mono ?_); rintro e' wN ⟨gx, rfl, hqx, RX, hb⟩))
      go_wp2_with fail
      have hgx := Nat.le_trans HS hqx
      (try have hxb := Nat.ne_of_gt (Nat.lt_of_lt_of_le RB.lt hqx))
      (try have hfx := RF.ne hqx)
      (try replace RF := RF.below_ hb)
      (try replace HSF := HSF.next hb)
      (try replace B3 := B3.below hb B3.lt)
      (try replace RB := RB.below hb)
      replace G1 := G1.below hb G1.lt
      clear HY
      have HY := cells5 G1
      replace HB0 := btr HB0 HB0.size hb
      replace HS := Nat.le_trans HS hb.size
      refine hK.out _ _ ?_ (fun hNew => ?_)
      · (first | exact HY | assumption)
      clear hK K hHeld
      have hHeld := hNew
      clear hNew
      try simp only [Act.put, pz1, pz2, pz3]
      refine tk 9 ⟨some 27, .build 68 #[(0, .tmp 18), (1, .tmp 20), (2, .tmp 23), (3, .tmp 26), (6, .const (.bool true))], 68, "chip.go:43", #[⟨0, .data⟩, ⟨2, .data⟩, ⟨5, .data⟩, ⟨8, .data⟩], none⟩ ?_; try simp only [Act.put, pz1, pz2, pz3]
      refine wpAnyH_ready (rs := [10]) (by kernel_rfl) (by simp) ?_
      refine AllReadyH.cons (o := ⟨some 28, .box 68 (.tmp 27), 26, "chip.go:43", #[⟨9, .data⟩], none⟩) rfl (fun K hK => ?_) AllReadyH.nil
      refine wp_boxF _ rfl rfl ?_
      intro wN m BM hqm hb
      have hm := Nat.le_trans HS hqm
      have h1 : m ≠ gx := Nat.ne_of_gt (Nat.lt_of_lt_of_le RX.lt hqm)
      have h2 : m ≠ gb := Nat.ne_of_gt (Nat.lt_of_lt_of_le RB.lt hqm)
      have hfm := RF.ne hqm
      (try replace RF := RF.below_ hb)
      (try replace HSF := HSF.next hb)
      (try replace B3 := B3.below hb B3.lt)
      (try replace RX := RX.below hb)
      (try replace RB := RB.below hb)
      replace G1 := G1.below hb G1.lt
      clear HY
      have HY := cells5 G1
      replace HB0 := btr HB0 HB0.size hb
      replace HS := Nat.le_trans HS hb.size
      refine hK.out _ _ ?_ (fun hNew => ?_)
      · (first | exact HY | assumption)
      clear hK K hHeld
      have hHeld := hNew
      clear hNew
      try simp only [Act.put, pz1, pz2, pz3]
      refine tk 11 ⟨some 4, .assign (.tmp 28), 26, "chip.go:43", #[⟨10, .data⟩, ⟨5, .chain⟩, ⟨0, .phase⟩, ⟨1, .phase⟩, ⟨2, .phase⟩, ⟨3, .phase⟩, ⟨4, .phase⟩, ⟨5, .phase⟩, ⟨6, .phase⟩, ⟨7, .phase⟩, ⟨8, .phase⟩, ⟨9, .phase⟩, ⟨10, .phase⟩], none⟩ ?_; try simp only [Act.put, pz1, pz2, pz3]
      refine wpAnyH_done (by kernel_rfl) ?_ _
      refine NoPanic.normal ?_
      go_wp2_with fail
      go_ret
      refine ⟨⟨m, gx, gb, AF, cf, rfl, ⟨⟨NX, NB, NX, NB, by simp [ChS.new], hNB, Nat.le_refl _, BM⟩, by simpa [ChS.new, byteV] using RX, by simpa [ChS.new] using RB, RF.at_ hfm hfx hfb, h1, h2, hxb, (List.length_replicate ..).trans HLX.out, (List.length_replicate ..).trans HLK.out, rfl, HP.out⟩, by omega, by omega, by omega⟩, HB0⟩
  · refine wp_build1b _ rfl 255 rfl ?_
    intro wN b3 B3 hq hb
    (try replace RF := RF.below_ hb)
    (try replace HSF := HSF.next hb)
    (try replace RX := RX.below hb)
    (try replace RB := RB.below hb)
    replace G1 := G1.below hb G1.lt
    clear HY
    have HY := cells5 G1
    replace HB0 := btr HB0 HB0.size hb
    replace HS := Nat.le_trans HS hb.size
    refine hK.out _ _ ?_ (fun hNew => ?_)
    · (first | exact HY | assumption)
    clear hK K hHeld
    have hHeld := hNew
    clear hNew
    try simp only [Act.put, pz1, pz2, pz3]
    refine wpAnyH_ready (rs := [2, 8]) (by kernel_rfl) (by simp) ?_
    refine (AllReadyH.cons (o := ⟨some 20, .call { callee := .value (.func 29), args := #[.tmp 19], argTypes := #[24] }, 24, "chip.go:45", #[⟨1, .data⟩], none⟩) rfl (fun K hK => ?_) (AllReadyH.cons (o := ⟨some 26, .makeSlice 66 (.tmp 25) (.tmp 25), 66, "chip.go:43", #[⟨7, .data⟩, ⟨7, .data⟩], none⟩) rfl (fun K hK => ?_) AllReadyH.nil))
    · go_simp
      (go_at_call 29; ((with_reducible refine (fclone_any fs _ _ _ HSF hfl).mono ?_); rintro e' wN ⟨⟨AF, cf, rfl, RF, hqf⟩, hb⟩))
      go_wp2_with fail
      (try have hfx := FNe.fresh hqf RX.lt)
      (try have hfb := FNe.fresh hqf RB.lt)
      (try replace HSF := HSF.next hb)
      (try replace B3 := B3.below hb B3.lt)
      (try replace RX := RX.below hb)
      (try replace RB := RB.below hb)
      replace G1 := G1.below hb G1.lt
      clear HY
      have HY := cells5 G1
      replace HB0 := btr HB0 HB0.size hb
      replace HS := Nat.le_trans HS hb.size
      refine hK.out _ _ ?_ (fun hNew => ?_)
      · (first | exact HY | assumption)
      clear hK K hHeld
      have hHeld := hNew
      clear hNew
      try simp only [Act.put, pz1, pz2, pz3]
      refine wpAnyH_ready (rs := [5, 8]) (by kernel_rfl) (by simp) ?_
      refine (AllReadyH.cons (o := ⟨some 23, .call { callee := .value (.func 30), args := #[.tmp 21, .tmp 22], argTypes := #[46, 3] }, 46, "chip.go:46", #[⟨3, .data⟩, ⟨4, .data⟩, ⟨2, .chain⟩], none⟩) rfl (fun K hK => ?_) (AllReadyH.cons (o := ⟨some 26, .makeSlice 66 (.tmp 25) (.tmp 25), 66, "chip.go:43", #[⟨7, .data⟩, ⟨7, .data⟩], none⟩) rfl (fun K hK => ?_) AllReadyH.nil))
      · go_simp
        (go_at_call 30; ((with_reducible refine (rptB_b 255 b3 NX _ B3 n1 n2).mono ?_); rintro e' wN ⟨gx, rfl, hqx, RX, hb⟩))
        go_wp2_with fail
        have hgx := Nat.le_trans HS hqx
        (try have hxb := Nat.ne_of_gt (Nat.lt_of_lt_of_le RB.lt hqx))
        (try have hfx := RF.ne hqx)
        (try replace RF := RF.below_ hb)
        (try replace HSF := HSF.next hb)
        (try replace B3 := B3.below hb B3.lt)
        (try replace RB := RB.below hb)
        replace G1 := G1.below hb G1.lt
        clear HY
        have HY := cells5 G1
        replace HB0 := btr HB0 HB0.size hb
        replace HS := Nat.le_trans HS hb.size
        refine hK.out _ _ ?_ (fun hNew => ?_)
        · (first | exact HY | assumption)
        clear hK K hHeld
        have hHeld := hNew
        clear hNew
        try simp only [Act.put, pz1, pz2, pz3]
        refine wpAnyH_ready (rs := [8]) (by kernel_rfl) (by simp) ?_
        refine AllReadyH.cons (o := ⟨some 26, .makeSlice 66 (.tmp 25) (.tmp 25), 66, "chip.go:43", #[⟨7, .data⟩, ⟨7, .data⟩], none⟩) rfl (fun K hK => ?_) AllReadyH.nil
        refine wp_makeK _ _ rfl a NB rfl rfl hNB (by omega) ?_
        intro wN gb RB hqb hb
        have hgb := Nat.le_trans HS hqb
        (try have hxb := Nat.ne_of_lt (Nat.lt_of_lt_of_le RX.lt hqb))
        (try have hfb := RF.ne hqb)
        (try replace RF := RF.below_ hb)
        (try replace HSF := HSF.next hb)
        (try replace B3 := B3.below hb B3.lt)
        (try replace RX := RX.below hb)
        replace G1 := G1.below hb G1.lt
        clear HY
        have HY := cells5 G1
        replace HB0 := btr HB0 HB0.size hb
        replace HS := Nat.le_trans HS hb.size
        refine hK.out _ _ ?_ (fun hNew => ?_)
        · (first | exact HY | assumption)
        clear hK K hHeld
        have hHeld := hNew
        clear hNew
        try simp only [Act.put, pz1, pz2, pz3]
        refine tk 9 ⟨some 27, .build 68 #[(0, .tmp 18), (1, .tmp 20), (2, .tmp 23), (3, .tmp 26), (6, .const (.bool true))], 68, "chip.go:43", #[⟨0, .data⟩, ⟨2, .data⟩, ⟨5, .data⟩, ⟨8, .data⟩], none⟩ ?_; try simp only [Act.put, pz1, pz2, pz3]
        refine wpAnyH_ready (rs := [10]) (by kernel_rfl) (by simp) ?_
        refine AllReadyH.cons (o := ⟨some 28, .box 68 (.tmp 27), 26, "chip.go:43", #[⟨9, .data⟩], none⟩) rfl (fun K hK => ?_) AllReadyH.nil
        refine wp_boxF _ rfl rfl ?_
        intro wN m BM hqm hb
        have hm := Nat.le_trans HS hqm
        have h1 : m ≠ gx := Nat.ne_of_gt (Nat.lt_of_lt_of_le RX.lt hqm)
        have h2 : m ≠ gb := Nat.ne_of_gt (Nat.lt_of_lt_of_le RB.lt hqm)
        have hfm := RF.ne hqm
        (try replace RF := RF.below_ hb)
        (try replace HSF := HSF.next hb)
        (try replace B3 := B3.below hb B3.lt)
        (try replace RX := RX.below hb)
        (try replace RB := RB.below hb)
        replace G1 := G1.below hb G1.lt
        clear HY
        have HY := cells5 G1
        replace HB0 := btr HB0 HB0.size hb
        replace HS := Nat.le_trans HS hb.size
        refine hK.out _ _ ?_ (fun hNew => ?_)
        · (first | exact HY | assumption)
        clear hK K hHeld
        have hHeld := hNew
        clear hNew
        try simp only [Act.put, pz1, pz2, pz3]
        refine tk 11 ⟨some 4, .assign (.tmp 28), 26, "chip.go:43", #[⟨10, .data⟩, ⟨5, .chain⟩, ⟨0, .phase⟩, ⟨1, .phase⟩, ⟨2, .phase⟩, ⟨3, .phase⟩, ⟨4, .phase⟩, ⟨5, .phase⟩, ⟨6, .phase⟩, ⟨7, .phase⟩, ⟨8, .phase⟩, ⟨9, .phase⟩, ⟨10, .phase⟩], none⟩ ?_; try simp only [Act.put, pz1, pz2, pz3]
        refine wpAnyH_done (by kernel_rfl) ?_ _
        refine NoPanic.normal ?_
        go_wp2_with fail
        go_ret
        refine ⟨⟨m, gx, gb, AF, cf, rfl, ⟨⟨NX, NB, NX, NB, by simp [ChS.new], hNB, Nat.le_refl _, BM⟩, by simpa [ChS.new, byteV] using RX, by simpa [ChS.new] using RB, RF.at_ hfm hfx hfb, h1, h2, hxb, (List.length_replicate ..).trans HLX.out, (List.length_replicate ..).trans HLK.out, rfl, HP.out⟩, by omega, by omega, by omega⟩, HB0⟩
      · refine wp_makeK _ _ rfl a NB rfl rfl hNB (by omega) ?_
        intro wN gb RB hqb hb
        have hgb := Nat.le_trans HS hqb
        (try have hxb := Nat.ne_of_lt (Nat.lt_of_lt_of_le RX.lt hqb))
        (try have hfb := RF.ne hqb)
        (try replace RF := RF.below_ hb)
        (try replace HSF := HSF.next hb)
        (try replace B3 := B3.below hb B3.lt)
        (try replace RX := RX.below hb)
        replace G1 := G1.below hb G1.lt
        clear HY
        have HY := cells5 G1
        replace HB0 := btr HB0 HB0.size hb
        replace HS := Nat.le_trans HS hb.size
        refine hK.out _ _ ?_ (fun hNew => ?_)
        · (first | exact HY | assumption)
        clear hK K hHeld
        have hHeld := hNew
        clear hNew
        try simp only [Act.put, pz1, pz2, pz3]
        refine wpAnyH_ready (rs := [5]) (by kernel_rfl) (by simp) ?_
        refine AllReadyH.cons (o := ⟨some 23, .call { callee := .value (.func 30), args := #[.tmp 21, .tmp 22], argTypes := #[46, 3] }, 46, "chip.go:46", #[⟨3, .data⟩, ⟨4, .data⟩, ⟨2, .chain⟩], none⟩) rfl (fun K hK => ?_) AllReadyH.nil
        go_simp
        (go_at_call 30; ((with_reducible refine (rptB_b 255 b3 NX _ B3 n1 n2).mono ?_); rintro e' wN ⟨gx, rfl, hqx, RX, hb⟩))
        go_wp2_with fail
        have hgx := Nat.le_trans HS hqx
        (try have hxb := Nat.ne_of_gt (Nat.lt_of_lt_of_le RB.lt hqx))
        (try have hfx := RF.ne hqx)
        (try replace RF := RF.below_ hb)
        (try replace HSF := HSF.next hb)
        (try replace B3 := B3.below hb B3.lt)
        (try replace RB := RB.below hb)
        replace G1 := G1.below hb G1.lt
        clear HY
        have HY := cells5 G1
        replace HB0 := btr HB0 HB0.size hb
        replace HS := Nat.le_trans HS hb.size
        refine hK.out _ _ ?_ (fun hNew => ?_)
        · (first | exact HY | assumption)
        clear hK K hHeld
        have hHeld := hNew
        clear hNew
        try simp only [Act.put, pz1, pz2, pz3]
        refine tk 9 ⟨some 27, .build 68 #[(0, .tmp 18), (1, .tmp 20), (2, .tmp 23), (3, .tmp 26), (6, .const (.bool true))], 68, "chip.go:43", #[⟨0, .data⟩, ⟨2, .data⟩, ⟨5, .data⟩, ⟨8, .data⟩], none⟩ ?_; try simp only [Act.put, pz1, pz2, pz3]
        refine wpAnyH_ready (rs := [10]) (by kernel_rfl) (by simp) ?_
        refine AllReadyH.cons (o := ⟨some 28, .box 68 (.tmp 27), 26, "chip.go:43", #[⟨9, .data⟩], none⟩) rfl (fun K hK => ?_) AllReadyH.nil
        refine wp_boxF _ rfl rfl ?_
        intro wN m BM hqm hb
        have hm := Nat.le_trans HS hqm
        have h1 : m ≠ gx := Nat.ne_of_gt (Nat.lt_of_lt_of_le RX.lt hqm)
        have h2 : m ≠ gb := Nat.ne_of_gt (Nat.lt_of_lt_of_le RB.lt hqm)
        have hfm := RF.ne hqm
        (try replace RF := RF.below_ hb)
        (try replace HSF := HSF.next hb)
        (try replace B3 := B3.below hb B3.lt)
        (try replace RX := RX.below hb)
        (try replace RB := RB.below hb)
        replace G1 := G1.below hb G1.lt
        clear HY
        have HY := cells5 G1
        replace HB0 := btr HB0 HB0.size hb
        replace HS := Nat.le_trans HS hb.size
        refine hK.out _ _ ?_ (fun hNew => ?_)
        · (first | exact HY | assumption)
        clear hK K hHeld
        have hHeld := hNew
        clear hNew
        try simp only [Act.put, pz1, pz2, pz3]
        refine tk 11 ⟨some 4, .assign (.tmp 28), 26, "chip.go:43", #[⟨10, .data⟩, ⟨5, .chain⟩, ⟨0, .phase⟩, ⟨1, .phase⟩, ⟨2, .phase⟩, ⟨3, .phase⟩, ⟨4, .phase⟩, ⟨5, .phase⟩, ⟨6, .phase⟩, ⟨7, .phase⟩, ⟨8, .phase⟩, ⟨9, .phase⟩, ⟨10, .phase⟩], none⟩ ?_; try simp only [Act.put, pz1, pz2, pz3]
        refine wpAnyH_done (by kernel_rfl) ?_ _
        refine NoPanic.normal ?_
        go_wp2_with fail
        go_ret
        refine ⟨⟨m, gx, gb, AF, cf, rfl, ⟨⟨NX, NB, NX, NB, by simp [ChS.new], hNB, Nat.le_refl _, BM⟩, by simpa [ChS.new, byteV] using RX, by simpa [ChS.new] using RB, RF.at_ hfm hfx hfb, h1, h2, hxb, (List.length_replicate ..).trans HLX.out, (List.length_replicate ..).trans HLK.out, rfl, HP.out⟩, by omega, by omega, by omega⟩, HB0⟩
    · refine wp_makeK _ _ rfl a NB rfl rfl hNB (by omega) ?_
      intro wN gb RB hqb hb
      have hgb := Nat.le_trans HS hqb
      (try have hxb := Nat.ne_of_lt (Nat.lt_of_lt_of_le RX.lt hqb))
      (try have hfb := RF.ne hqb)
      (try replace RF := RF.below_ hb)
      (try replace HSF := HSF.next hb)
      (try replace B3 := B3.below hb B3.lt)
      (try replace RX := RX.below hb)
      replace G1 := G1.below hb G1.lt
      clear HY
      have HY := cells5 G1
      replace HB0 := btr HB0 HB0.size hb
      replace HS := Nat.le_trans HS hb.size
      refine hK.out _ _ ?_ (fun hNew => ?_)
      · (first | exact HY | assumption)
      clear hK K hHeld
      have hHeld := hNew
      clear hNew
      try simp only [Act.put, pz1, pz2, pz3]
      refine wpAnyH_ready (rs := [2]) (by kernel_rfl) (by simp) ?_
      refine AllReadyH.cons (o := ⟨some 20, .call { callee := .value (.func 29), args := #[.tmp 19], argTypes := #[24] }, 24, "chip.go:45", #[⟨1, .data⟩], none⟩) rfl (fun K hK => ?_) AllReadyH.nil
      go_simp
      (go_at_call 29; ((with_reducible refine (fclone_any fs _ _ _ HSF hfl).mono ?_); rintro e' wN ⟨⟨AF, cf, rfl, RF, hqf⟩, hb⟩))
      go_wp2_with fail
      (try have hfx := FNe.fresh hqf RX.lt)
      (try have hfb := FNe.fresh hqf RB.lt)
      (try replace HSF := HSF.next hb)
      (try replace B3 := B3.below hb B3.lt)
      (try replace RX := RX.below hb)
      (try replace RB := RB.below hb)
      replace G1 := G1.below hb G1.lt
      clear HY
      have HY := cells5 G1
      replace HB0 := btr HB0 HB0.size hb
      replace HS := Nat.le_trans HS hb.size
      refine hK.out _ _ ?_ (fun hNew => ?_)
      · (first | exact HY | assumption)
      clear hK K hHeld
      have hHeld := hNew
      clear hNew
      try simp only [Act.put, pz1, pz2, pz3]
      refine wpAnyH_ready (rs := [5]) (by kernel_rfl) (by simp) ?_
      refine AllReadyH.cons (o := ⟨some 23, .call { callee := .value (.func 30), args := #[.tmp 21, .tmp 22], argTypes := #[46, 3] }, 46, "chip.go:46", #[⟨3, .data⟩, ⟨4, .data⟩, ⟨2, .chain⟩], none⟩) rfl (fun K hK => ?_) AllReadyH.nil
      go_simp
      (go_at_call 30; ((with_reducible refine (rptB_b 255 b3 NX _ B3 n1 n2).mono ?_); rintro e' wN ⟨gx, rfl, hqx, RX, hb⟩))
      go_wp2_with fail
      have hgx := Nat.le_trans HS hqx
      (try have hxb := Nat.ne_of_gt (Nat.lt_of_lt_of_le RB.lt hqx))
      (try have hfx := RF.ne hqx)
      (try replace RF := RF.below_ hb)
      (try replace HSF := HSF.next hb)
      (try replace B3 := B3.below hb B3.lt)
      (try replace RB := RB.below hb)
      replace G1 := G1.below hb G1.lt
      clear HY
      have HY := cells5 G1
      replace HB0 := btr HB0 HB0.size hb
      replace HS := Nat.le_trans HS hb.size
      refine hK.out _ _ ?_ (fun hNew => ?_)
      · (first | exact HY | assumption)
      clear hK K hHeld
      have hHeld := hNew
      clear hNew
      try simp only [Act.put, pz1, pz2, pz3]
      refine tk 9 ⟨some 27, .build 68 #[(0, .tmp 18), (1, .tmp 20), (2, .tmp 23), (3, .tmp 26), (6, .const (.bool true))], 68, "chip.go:43", #[⟨0, .data⟩, ⟨2, .data⟩, ⟨5, .data⟩, ⟨8, .data⟩], none⟩ ?_; try simp only [Act.put, pz1, pz2, pz3]
      refine wpAnyH_ready (rs := [10]) (by kernel_rfl) (by simp) ?_
      refine AllReadyH.cons (o := ⟨some 28, .box 68 (.tmp 27), 26, "chip.go:43", #[⟨9, .data⟩], none⟩) rfl (fun K hK => ?_) AllReadyH.nil
      refine wp_boxF _ rfl rfl ?_
      intro wN m BM hqm hb
      have hm := Nat.le_trans HS hqm
      have h1 : m ≠ gx := Nat.ne_of_gt (Nat.lt_of_lt_of_le RX.lt hqm)
      have h2 : m ≠ gb := Nat.ne_of_gt (Nat.lt_of_lt_of_le RB.lt hqm)
      have hfm := RF.ne hqm
      (try replace RF := RF.below_ hb)
      (try replace HSF := HSF.next hb)
      (try replace B3 := B3.below hb B3.lt)
      (try replace RX := RX.below hb)
      (try replace RB := RB.below hb)
      replace G1 := G1.below hb G1.lt
      clear HY
      have HY := cells5 G1
      replace HB0 := btr HB0 HB0.size hb
      replace HS := Nat.le_trans HS hb.size
      refine hK.out _ _ ?_ (fun hNew => ?_)
      · (first | exact HY | assumption)
      clear hK K hHeld
      have hHeld := hNew
      clear hNew
      try simp only [Act.put, pz1, pz2, pz3]
      refine tk 11 ⟨some 4, .assign (.tmp 28), 26, "chip.go:43", #[⟨10, .data⟩, ⟨5, .chain⟩, ⟨0, .phase⟩, ⟨1, .phase⟩, ⟨2, .phase⟩, ⟨3, .phase⟩, ⟨4, .phase⟩, ⟨5, .phase⟩, ⟨6, .phase⟩, ⟨7, .phase⟩, ⟨8, .phase⟩, ⟨9, .phase⟩, ⟨10, .phase⟩], none⟩ ?_; try simp only [Act.put, pz1, pz2, pz3]
      refine wpAnyH_done (by kernel_rfl) ?_ _
      refine NoPanic.normal ?_
      go_wp2_with fail
      go_ret
      refine ⟨⟨m, gx, gb, AF, cf, rfl, ⟨⟨NX, NB, NX, NB, by simp [ChS.new], hNB, Nat.le_refl _, BM⟩, by simpa [ChS.new, byteV] using RX, by simpa [ChS.new] using RB, RF.at_ hfm hfx hfb, h1, h2, hxb, (List.length_replicate ..).trans HLX.out, (List.length_replicate ..).trans HLK.out, rfl, HP.out⟩, by omega, by omega, by omega⟩, HB0⟩
  · refine wp_makeK _ _ rfl a NB rfl rfl hNB (by omega) ?_
    intro wN gb RB hqb hb
    have hgb := Nat.le_trans HS hqb
    (try have hxb := Nat.ne_of_lt (Nat.lt_of_lt_of_le RX.lt hqb))
    (try have hfb := RF.ne hqb)
    (try replace RF := RF.below_ hb)
    (try replace HSF := HSF.next hb)
    (try replace B3 := B3.below hb B3.lt)
    (try replace RX := RX.below hb)
    replace G1 := G1.below hb G1.lt
    clear HY
    have HY := cells5 G1
    replace HB0 := btr HB0 HB0.size hb
    replace HS := Nat.le_trans HS hb.size
    refine hK.out _ _ ?_ (fun hNew => ?_)
    · (first | exact HY | assumption)
    clear hK K hHeld
    have hHeld := hNew
    clear hNew
    try simp only [Act.put, pz1, pz2, pz3]
    refine wpAnyH_ready (rs := [2, 3]) (by kernel_rfl) (by simp) ?_
    refine (AllReadyH.cons (o := ⟨some 20, .call { callee := .value (.func 29), args := #[.tmp 19], argTypes := #[24] }, 24, "chip.go:45", #[⟨1, .data⟩], none⟩) rfl (fun K hK => ?_) (AllReadyH.cons (o := ⟨some 21, .buildSlice 46 1 #[(0, .const (.int .u8 255))], 46, "chip.go:43", #[], none⟩) rfl (fun K hK => ?_) AllReadyH.nil))
    · go_simp
      (go_at_call 29; ((with_reducible refine (fclone_any fs _ _ _ HSF hfl).mono ?_); rintro e' wN ⟨⟨AF, cf, rfl, RF, hqf⟩, hb⟩))
      go_wp2_with fail
      (try have hfx := FNe.fresh hqf RX.lt)
      (try have hfb := FNe.fresh hqf RB.lt)
      (try replace HSF := HSF.next hb)
      (try replace B3 := B3.below hb B3.lt)
      (try replace RX := RX.below hb)
      (try replace RB := RB.below hb)
      replace G1 := G1.below hb G1.lt
      clear HY
      have HY := cells5 G1
      replace HB0 := btr HB0 HB0.size hb
      replace HS := Nat.le_trans HS hb.size
      refine hK.out _ _ ?_ (fun hNew => ?_)
      · (first | exact HY | assumption)
      clear hK K hHeld
      have hHeld := hNew
      clear hNew
      try simp only [Act.put, pz1, pz2, pz3]
      refine wpAnyH_ready (rs := [3]) (by kernel_rfl) (by simp) ?_
      refine AllReadyH.cons (o := ⟨some 21, .buildSlice 46 1 #[(0, .const (.int .u8 255))], 46, "chip.go:43", #[], none⟩) rfl (fun K hK => ?_) AllReadyH.nil
      refine wp_build1b _ rfl 255 rfl ?_
      intro wN b3 B3 hq hb
      (try replace RF := RF.below_ hb)
      (try replace HSF := HSF.next hb)
      (try replace RX := RX.below hb)
      (try replace RB := RB.below hb)
      replace G1 := G1.below hb G1.lt
      clear HY
      have HY := cells5 G1
      replace HB0 := btr HB0 HB0.size hb
      replace HS := Nat.le_trans HS hb.size
      refine hK.out _ _ ?_ (fun hNew => ?_)
      · (first | exact HY | assumption)
      clear hK K hHeld
      have hHeld := hNew
      clear hNew
      try simp only [Act.put, pz1, pz2, pz3]
      refine wpAnyH_ready (rs := [5]) (by kernel_rfl) (by simp) ?_
      refine AllReadyH.cons (o := ⟨some 23, .call { callee := .value (.func 30), args := #[.tmp 21, .tmp 22], argTypes := #[46, 3] }, 46, "chip.go:46", #[⟨3, .data⟩, ⟨4, .data⟩, ⟨2, .chain⟩], none⟩) rfl (fun K hK => ?_) AllReadyH.nil
      go_simp
      (go_at_call 30; ((with_reducible refine (rptB_b 255 b3 NX _ B3 n1 n2).mono ?_); rintro e' wN ⟨gx, rfl, hqx, RX, hb⟩))
      go_wp2_with fail
      have hgx := Nat.le_trans HS hqx
      (try have hxb := Nat.ne_of_gt (Nat.lt_of_lt_of_le RB.lt hqx))
      (try have hfx := RF.ne hqx)
      (try replace RF := RF.below_ hb)
      (try replace HSF := HSF.next hb)
      (try replace B3 := B3.below hb B3.lt)
      (try replace RB := RB.below hb)
      replace G1 := G1.below hb G1.lt
      clear HY
      have HY := cells5 G1
      replace HB0 := btr HB0 HB0.size hb
      replace HS := Nat.le_trans HS hb.size
      refine hK.out _ _ ?_ (fun hNew => ?_)
      · (first | exact HY | assumption)
      clear hK K hHeld
      have hHeld := hNew
      clear hNew
      try simp only [Act.put, pz1, pz2, pz3]
      refine tk 9 ⟨some 27, .build 68 #[(0, .tmp 18), (1, .tmp 20), (2, .tmp 23), (3, .tmp 26), (6, .const (.bool true))], 68, "chip.go:43", #[⟨0, .data⟩, ⟨2, .data⟩, ⟨5, .data⟩, ⟨8, .data⟩], none⟩ ?_; try simp only [Act.put, pz1, pz2, pz3]
      refine wpAnyH_ready (rs := [10]) (by kernel_rfl) (by simp) ?_
      refine AllReadyH.cons (o := ⟨some 28, .box 68 (.tmp 27), 26, "chip.go:43", #[⟨9, .data⟩], none⟩) rfl (fun K hK => ?_) AllReadyH.nil
      refine wp_boxF _ rfl rfl ?_
      intro wN m BM hqm hb
      have hm := Nat.le_trans HS hqm
      have h1 : m ≠ gx := Nat.ne_of_gt (Nat.lt_of_lt_of_le RX.lt hqm)
      have h2 : m ≠ gb := Nat.ne_of_gt (Nat.lt_of_lt_of_le RB.lt hqm)
      have hfm := RF.ne hqm
      (try replace RF := RF.below_ hb)
      (try replace HSF := HSF.next hb)
      (try replace B3 := B3.below hb B3.lt)
      (try replace RX := RX.below hb)
      (try replace RB := RB.below hb)
      replace G1 := G1.below hb G1.lt
      clear HY
      have HY := cells5 G1
      replace HB0 := btr HB0 HB0.size hb
      replace HS := Nat.le_trans HS hb.size
      refine hK.out _ _ ?_ (fun hNew => ?_)
      · (first | exact HY | assumption)
      clear hK K hHeld
      have hHeld := hNew
      clear hNew
      try simp only [Act.put, pz1, pz2, pz3]
      refine tk 11 ⟨some 4, .assign (.tmp 28), 26, "chip.go:43", #[⟨10, .data⟩, ⟨5, .chain⟩, ⟨0, .phase⟩, ⟨1, .phase⟩, ⟨2, .phase⟩, ⟨3, .phase⟩, ⟨4, .phase⟩, ⟨5, .phase⟩, ⟨6, .phase⟩, ⟨7, .phase⟩, ⟨8, .phase⟩, ⟨9, .phase⟩, ⟨10, .phase⟩], none⟩ ?_; try simp only [Act.put, pz1, pz2, pz3]
      refine wpAnyH_done (by kernel_rfl) ?_ _
      refine NoPanic.normal ?_
      go_wp2_with fail
      go_ret
      refine ⟨⟨m, gx, gb, AF, cf, rfl, ⟨⟨NX, NB, NX, NB, by simp [ChS.new], hNB, Nat.le_refl _, BM⟩, by simpa [ChS.new, byteV] using RX, by simpa [ChS.new] using RB, RF.at_ hfm hfx hfb, h1, h2, hxb, (List.length_replicate ..).trans HLX.out, (List.length_replicate ..).trans HLK.out, rfl, HP.out⟩, by omega, by omega, by omega⟩, HB0⟩
    · refine wp_build1b _ rfl 255 rfl ?_
      intro wN b3 B3 hq hb
      (try replace RF := RF.below_ hb)
      (try replace HSF := HSF.next hb)
      (try replace RX := RX.below hb)
      (try replace RB := RB.below hb)
      replace G1 := G1.below hb G1.lt
      clear HY
      have HY := cells5 G1
      replace HB0 := btr HB0 HB0.size hb
      replace HS := Nat.le_trans HS hb.size
      refine hK.out _ _ ?_ (fun hNew => ?_)
      · (first | exact HY | assumption)
      clear hK K hHeld
      have hHeld := hNew
      clear hNew
      try simp only [Act.put, pz1, pz2, pz3]
      refine wpAnyH_ready (rs := [2]) (by kernel_rfl) (by simp) ?_
      refine AllReadyH.cons (o := ⟨some 20, .call { callee := .value (.func 29), args := #[.tmp 19], argTypes := #[24] }, 24, "chip.go:45", #[⟨1, .data⟩], none⟩) rfl (fun K hK => ?_) AllReadyH.nil
      go_simp
      (go_at_call 29; ((with_reducible refine (fclone_any fs _ _ _ HSF hfl).mono ?_); rintro e' wN ⟨⟨AF, cf, rfl, RF, hqf⟩, hb⟩))
      go_wp2_with fail
      (try have hfx := FNe.fresh hqf RX.lt)
      (try have hfb := FNe.fresh hqf RB.lt)
      (try replace HSF := HSF.next hb)
      (try replace B3 := B3.below hb B3.lt)
      (try replace RX := RX.below hb)
      (try replace RB := RB.below hb)
      replace G1 := G1.below hb G1.lt
      clear HY
      have HY := cells5 G1
      replace HB0 := btr HB0 HB0.size hb
      replace HS := Nat.le_trans HS hb.size
      refine hK.out _ _ ?_ (fun hNew => ?_)
      · (first | exact HY | assumption)
      clear hK K hHeld
      have hHeld := hNew
      clear hNew
      try simp only [Act.put, pz1, pz2, pz3]
      refine wpAnyH_ready (rs := [5]) (by kernel_rfl) (by simp) ?_
      refine AllReadyH.cons (o := ⟨some 23, .call { callee := .value (.func 30), args := #[.tmp 21, .tmp 22], argTypes := #[46, 3] }, 46, "chip.go:46", #[⟨3, .data⟩, ⟨4, .data⟩, ⟨2, .chain⟩], none⟩) rfl (fun K hK => ?_) AllReadyH.nil
      go_simp
      (go_at_call 30; ((with_reducible refine (rptB_b 255 b3 NX _ B3 n1 n2).mono ?_); rintro e' wN ⟨gx, rfl, hqx, RX, hb⟩))
      go_wp2_with fail
      have hgx := Nat.le_trans HS hqx
      (try have hxb := Nat.ne_of_gt (Nat.lt_of_lt_of_le RB.lt hqx))
      (try have hfx := RF.ne hqx)
      (try replace RF := RF.below_ hb)
      (try replace HSF := HSF.next hb)
      (try replace B3 := B3.below hb B3.lt)
      (try replace RB := RB.below hb)
      replace G1 := G1.below hb G1.lt
      clear HY
      have HY := cells5 G1
      replace HB0 := btr HB0 HB0.size hb
      replace HS := Nat.le_trans HS hb.size
      refine hK.out _ _ ?_ (fun hNew => ?_)
      · (first | exact HY | assumption)
      clear hK K hHeld
      have hHeld := hNew
      clear hNew
      try simp only [Act.put, pz1, pz2, pz3]
      refine tk 9 ⟨some 27, .build 68 #[(0, .tmp 18), (1, .tmp 20), (2, .tmp 23), (3, .tmp 26), (6, .const (.bool true))], 68, "chip.go:43", #[⟨0, .data⟩, ⟨2, .data⟩, ⟨5, .data⟩, ⟨8, .data⟩], none⟩ ?_; try simp only [Act.put, pz1, pz2, pz3]
      refine wpAnyH_ready (rs := [10]) (by kernel_rfl) (by simp) ?_
      refine AllReadyH.cons (o := ⟨some 28, .box 68 (.tmp 27), 26, "chip.go:43", #[⟨9, .data⟩], none⟩) rfl (fun K hK => ?_) AllReadyH.nil
      refine wp_boxF _ rfl rfl ?_
      intro wN m BM hqm hb
      have hm := Nat.le_trans HS hqm
      have h1 : m ≠ gx := Nat.ne_of_gt (Nat.lt_of_lt_of_le RX.lt hqm)
      have h2 : m ≠ gb := Nat.ne_of_gt (Nat.lt_of_lt_of_le RB.lt hqm)
      have hfm := RF.ne hqm
      (try replace RF := RF.below_ hb)
      (try replace HSF := HSF.next hb)
      (try replace B3 := B3.below hb B3.lt)
      (try replace RX := RX.below hb)
      (try replace RB := RB.below hb)
      replace G1 := G1.below hb G1.lt
      clear HY
      have HY := cells5 G1
      replace HB0 := btr HB0 HB0.size hb
      replace HS := Nat.le_trans HS hb.size
      refine hK.out _ _ ?_ (fun hNew => ?_)
      · (first | exact HY | assumption)
      clear hK K hHeld
      have hHeld := hNew
      clear hNew
      try simp only [Act.put, pz1, pz2, pz3]
      refine tk 11 ⟨some 4, .assign (.tmp 28), 26, "chip.go:43", #[⟨10, .data⟩, ⟨5, .chain⟩, ⟨0, .phase⟩, ⟨1, .phase⟩, ⟨2, .phase⟩, ⟨3, .phase⟩, ⟨4, .phase⟩, ⟨5, .phase⟩, ⟨6, .phase⟩, ⟨7, .phase⟩, ⟨8, .phase⟩, ⟨9, .phase⟩, ⟨10, .phase⟩], none⟩ ?_; try simp only [Act.put, pz1, pz2, pz3]
      refine wpAnyH_done (by kernel_rfl) ?_ _
      refine NoPanic.normal ?_
      go_wp2_with fail
      go_ret
      refine ⟨⟨m, gx, gb, AF, cf, rfl, ⟨⟨NX, NB, NX, NB, by simp [ChS.new], hNB, Nat.le_refl _, BM⟩, by simpa [ChS.new, byteV] using RX, by simpa [ChS.new] using RB, RF.at_ hfm hfx hfb, h1, h2, hxb, (List.length_replicate ..).trans HLX.out, (List.length_replicate ..).trans HLK.out, rfl, HP.out⟩, by omega, by omega, by omega⟩, HB0⟩
end Go.Proofs.Ytdfojhkpfbnmgaa
namespace Go.Proofs.Ytdfojhkpfbnmgaa
open Go.ChangeShapes Go.WideShapes Go.ChangeAt Go.RowKit
structure Fine (s : ChS) (n : Int) : Prop where
  bnd : s.Bnd n
  cby : 0 ≤ s.cby
  fill : s.fill < 256
def ChS.progZ (s : ChS) (a b c : Int) (fs : List Flt) (x y : Int) (L : Nat) : Int :=
  if s.on then (if thereB a b x y && decide ((L : Int) = c + 16) then (if s.cutB then 9 else s.wrong a fs x.toNat y.toNat) else 2) else 9
def ChS.progS (s : ChS) (a b c : Int) (fs : List Flt) (x y : Int) (bs : List Nat) : ChS :=
  if s.on && (thereB a b x y && decide ((bs.length : Int) = c + 16)) then
    (if s.wrong a fs x.toNat y.toNat = 0 then (if s.cutB then s.progCut x.toNat (x * b + y).toNat bs.length (bs.take (min bs.length s.cby.toNat)) else s.prog x.toNat (x * b + y).toNat bs.length bs) else s.tick)
  else s
theorem there_nat {a b x y : Int} (h : thereB a b x y = true) : ∃ k l : Nat, x = (k : Int) ∧ y = (l : Int) ∧ (k : Int) < a ∧ (l : Int) < b := by
  obtain ⟨h1, h2, h3, h4⟩ := there_bd h
  exact ⟨x.toNat, y.toNat, by omega, by omega, by omega, by omega⟩
def ChS.eraseZ (s : ChS) (a : Int) (fs : List Flt) (x : Int) : Int :=
  if s.on then (if inB a x then (if s.cutB then 9 else (if failedB a fs s x then 10 else 0)) else 2) else 9
def ChS.eraseS (s : ChS) (a b c : Int) (fs : List Flt) (x : Int) : ChS :=
  if s.on && inB a x then (if failedB a fs s x then s.tick else s.tick.wipe b x.toNat (b * (c + 16)).toNat (if s.cutB then s.fill else 255)) else s
theorem in_nat {a x : Int} (h : inB a x = true) : ∃ k : Nat, x = (k : Int) ∧ (k : Int) < a := by
  unfold inB at h
  simp only [Bool.and_eq_true, decide_eq_true_eq] at h
  exact ⟨x.toNat, by omega, by omega⟩
theorem erase_all (m gx gb : Nat) (Af : Option Addr) (nf cf : Nat) (a b c d e : Int) (fs : List Flt) (x : Int) (n : Int) (w : World) (s : ChS) (hC : ChipW w m gx gb Af nf cf a b c d e fs s) (hs : Fine s n) (hn : n ≤ 900000000) :
    Calls Try.prog 9 #[.pointer (some ⟨m, 0, none⟩), .int .i64 x] w fun e' w' => e' = .returned (.int .i64 (s.eraseZ a fs x)) ∧ ChipW w' m gx gb Af nf cf a b c d e fs (s.eraseS a b c fs x) ∧ Tch (chB m gx gb) w w' := by
  cases ho : s.on
  · have e1 : s.eraseZ a fs x = 9 := by simp [ChS.eraseZ, ho]
    have e2 : s.eraseS a b c fs x = s := by simp [ChS.eraseS, ho]
    rw [e1, e2]
    refine (erase_off m gx gb Af nf cf a b c d e fs x w s hC ho).mono ?_
    rintro e' w' ⟨rfl, rfl⟩
    exact ⟨rfl, hC, Tch.refl _⟩
  cases ht : inB a x
  · have e1 : s.eraseZ a fs x = 2 := by simp [ChS.eraseZ, ho, ht]
    have e2 : s.eraseS a b c fs x = s := by simp [ChS.eraseS, ht]
    rw [e1, e2]
    refine (erase_arg m gx gb Af nf cf a b c d e fs x w s hC ho (Lib.hid ht)).mono ?_
    rintro e' w' ⟨rfl, rfl⟩
    exact ⟨rfl, hC, Tch.refl _⟩
  obtain ⟨k, hx, hk⟩ := in_nat ht
  subst hx
  obtain ⟨SZ, RW, hrw, hsz, hfit, z1, z2⟩ := blk_ok hC hk
  have hS : (b * (c + 16)).toNat = SZ := by omega
  have hk' : ((k : Int)).toNat = k := Int.toNat_natCast k
  unfold ChS.eraseZ ChS.eraseS
  rw [ho, ht, hS, hk']
  cases hf : failedB a fs s (k : Int)
  · cases hc : s.cutB
    · have := erase_ok m gx gb Af nf cf a b c d e fs k SZ RW n w s hC hs.bnd (by omega) (by omega) ho hk (Lib.hid hc) hf (Lib.hid hrw) hsz hfit z1 z2
      simpa using this
    · have := erase_cut m gx gb Af nf cf a b c d e fs k SZ RW n w s hC hs.bnd (by omega) (by omega) ho hk (Lib.hid hc) hf hs.fill (Lib.hid hrw) hsz hfit z1 z2
      simpa using this
  · cases hc : s.cutB
    · have := erase_fail m gx gb Af nf cf a b c d e fs k n w s hC hs.bnd (by omega) ho hk (Lib.hid hc) hf
      simpa using this
    · have := erase_cutfail m gx gb Af nf cf a b c d e fs k n w s hC hs.bnd (by omega) ho hk (Lib.hid hc) hf
      simpa using this
def ChS.readZ (s : ChS) (a b x y : Int) : Int := if s.on then (if thereB a b x y then (if s.cutB then 9 else 0) else 2) else 9
def ChS.readS (s : ChS) (a b x y : Int) : ChS := if s.on && thereB a b x y then s.tick else s
def ChS.readB (s : ChS) (a b c x y : Int) : List Nat := if s.on && (thereB a b x y && !s.cutB) then s.pageOf (x * b + y).toNat (c + 16).toNat else []
def cntL (z : Int) : Nat := (min (max z 0) 200).toNat
end Go.Proofs.Ytdfojhkpfbnmgaa
namespace Go.Proofs.Ytdfojhkpfbnmgaa
open Go.ChangeShapes Go.WideShapes Go.ChangeAt Go.RowKit
def Filled (s : ChS) (b c : Int) (n k i : Nat) : Prop :=
  s.k (k : Int) 0 = (i : Int) ∧ s.k (k : Int) 1 = 0 ∧ ∀ l RW N : Nat, (RW : Int) = c + 16 → (l : Int) < b → (N : Int) = (k : Int) * b + (l : Int) → s.pageOf N RW = if l < i then bytesL ((n + l) % 256) RW else List.replicate RW 255
theorem Filled.next {s : ChS} {b c : Int} {n k i : Nat} (h : Filled s b c n k i) : s.k (k : Int) 0 = (i : Int) := h.1
theorem Filled.worn {s : ChS} {b c : Int} {n k i : Nat} (h : Filled s b c n k i) : s.k (k : Int) 1 = 0 := h.2.1
theorem Filled.pages {s : ChS} {b c : Int} {n k i : Nat} (h : Filled s b c n k i) : ∀ l RW N : Nat, (RW : Int) = c + 16 → (l : Int) < b → (N : Int) = (k : Int) * b + (l : Int) → s.pageOf N RW = if l < i then bytesL ((n + l) % 256) RW else List.replicate RW 255 := h.2.2
theorem Filled.of {s S : ChS} {b c : Int} {n k i : Nat} (h : Filled s b c n k i) (hk : ∀ B j, S.k B j = s.k B j) (hX : S.X = s.X) : Filled S b c n k i := by
  refine ⟨(hk _ _).trans h.1, (hk _ _).trans h.2.1, fun l RW N h1 h2 h3 => ?_⟩
  have := h.2.2 l RW N h1 h2 h3
  unfold ChS.pageOf at this ⊢
  rw [hX]
  exact this
theorem Filled.more {s S : ChS} {b c : Int} {n k i N0 RW0 : Nat} (h : Filled s b c n k i) (hr : (RW0 : Int) = c + 16) (hN : (N0 : Int) = (k : Int) * b + (i : Int)) (h0 : S.k (k : Int) 0 = (i : Int) + 1) (h1 : S.k (k : Int) 1 = s.k (k : Int) 1) (hp : S.pageOf N0 RW0 = bytesL ((n + i) % 256) RW0) (ho : ∀ N', N0 ≠ N' → S.pageOf N' RW0 = s.pageOf N' RW0) : Filled S b c n k (i + 1) := by
  refine ⟨by rw [h0]; omega, h1.trans h.2.1, fun l RW N q1 q2 q3 => ?_⟩
  obtain rfl : RW = RW0 := by omega
  by_cases hl : l = i
  · subst hl
    obtain rfl : N = N0 := by omega
    rw [hp, if_pos (by omega)]
  · rw [ho N (by omega), h.2.2 l RW N q1 q2 q3]
    by_cases h2 : l < i
    · rw [if_pos h2, if_pos (by omega)]
    · rw [if_neg h2, if_neg (by omega)]
end Go.Proofs.Ytdfojhkpfbnmgaa
namespace Go.Proofs.Ytdfojhkpfbnmgaa
open Go.ChangeShapes Go.WideShapes Go.ChangeAt Go.RowKit
theorem Fine.tick {s : ChS} {n : Int} (h : Fine s n) : Fine s.tick (n + 1) := by
  refine ⟨tick_bnd h.bnd, by rw [tick_cby]; exact h.cby, ?_⟩
  have : s.tick.fill = s.fill := by unfold ChS.tick; split <;> rfl
  rw [this]
  exact h.fill
theorem Fine.mono {s : ChS} {n n' : Int} (h : Fine s n) (hn : n ≤ n') : Fine s n' := ⟨bnd_mono h.bnd hn, h.cby, h.fill⟩
structure Same (s S : ChS) (b c : Int) (k : Nat) : Prop where
  kk : ∀ i : Nat, i < 3 → S.k (k : Int) i = s.k (k : Int) i
  pg : ∀ l RW N : Nat, (RW : Int) = c + 16 → (l : Int) < b → (N : Int) = (k : Int) * b + (l : Int) → S.pageOf N RW = s.pageOf N RW
theorem Same.refl (s : ChS) (b c : Int) (k : Nat) : Same s s b c k := ⟨fun _ _ => rfl, fun _ _ _ _ _ _ => rfl⟩
theorem Same.like {s S : ChS} {b c : Int} {k : Nat} (h1 : S.X = s.X) (h2 : S.K = s.K) : Same s S b c k :=
  ⟨fun i _ => by unfold ChS.k; rw [h2], fun l RW N _ _ _ => by unfold ChS.pageOf; rw [h1]⟩
theorem num_ne {b : Int} {x k y l N N' : Nat} (hb : 0 < b) (hx : x ≠ k) (hy : (y : Int) < b) (hl : (l : Int) < b) (h1 : (N : Int) = (x : Int) * b + (y : Int)) (h2 : (N' : Int) = (k : Int) * b + (l : Int)) : N ≠ N' := by
  intro e
  subst e
  rcases Nat.lt_or_gt_of_ne hx with h | h
  · have := Int.mul_le_mul_of_nonneg_right (a := (x : Int) + 1) (b := (k : Int)) (c := b) (by omega) (by omega)
    rw [Int.add_mul, Int.one_mul] at this
    omega
  · have := Int.mul_le_mul_of_nonneg_right (a := (k : Int) + 1) (b := (x : Int)) (c := b) (by omega) (by omega)
    rw [Int.add_mul, Int.one_mul] at this
    omega
theorem prog_same {w : World} {m gx gb : Nat} {Af : Option Addr} {nf cf : Nat} {a b c d e : Int} {fs : List Flt} {s : ChS} (hC : ChipW w m gx gb Af nf cf a b c d e fs s) {n : Int} (hs : Fine s n) (x y : Int) (bs : List Nat) (k : Nat) (hx : x ≠ (k : Int)) : Same s (s.progS a b c fs x y bs) b c k ∧ Fine (s.progS a b c fs x y bs) (n + 3) := by
  unfold ChS.progS
  cases ho : s.on
  · exact ⟨Same.refl _ _ _ _, hs.mono (by omega)⟩
  cases ht : thereB a b x y
  · exact ⟨Same.refl _ _ _ _, hs.mono (by omega)⟩
  by_cases hL : (bs.length : Int) = c + 16
  · rw [decide_eq_true hL]
    obtain ⟨j, l, rfl, rfl, hj, hl⟩ := there_nat ht
    obtain ⟨N, RW, hnum, hrw, hfit, r1, r2, hN2, hNN⟩ := page_ok hC hj hl
    have hRW : RW = bs.length := by omega
    subst hRW
    have hN' : ((j : Int) * b + (l : Int)).toNat = N := by omega
    have hb := (may_bd (planMay_bd hC.may).1).2.2.1
    simp only [Bool.and_self, if_true, Int.toNat_natCast, hN']
    have hne : ∀ l' N' : Nat, (l' : Int) < b → (N' : Int) = (k : Int) * b + (l' : Int) → N ≠ N' := fun l' N' h1 h2 => num_ne (by omega) (by omega) hl h1 hNN h2
    by_cases hw : s.wrong a fs j l = 0
    · rw [if_pos hw]
      cases hc : s.cutB
      · rw [if_neg (by simp)]
        have hp := prog_on (s := s) j N bs.length bs
        refine ⟨⟨fun i hi => prog_kl N bs.length bs k i (by omega) hi, fun l' RW' N' h1 h2 h3 => ?_⟩, ⟨prog_bnd hs.bnd j N bs.length bs, ?_, ?_⟩⟩
        · obtain rfl : RW' = bs.length := by omega
          unfold ChS.pageOf
          rw [hp.2.2.2.2.2.1]
          exact putX_page_other rfl hfit (hne l' N' h2 h3)
        · exact hs.tick.cby
        · exact hs.tick.fill
      · rw [if_pos rfl]
        have hl2 : (bs.take (min bs.length s.cby.toNat)).length ≤ bs.length := by rw [List.length_take]; omega
        obtain ⟨p1, p2⟩ := progCut_fields (s := s) j N bs.length (bs.take (min bs.length s.cby.toNat))
        refine ⟨⟨fun i hi => ?_, fun l' RW' N' h1 h2 h3 => ?_⟩, ⟨?_, ?_, ?_⟩⟩
        · unfold ChS.k
          rw [p2, Int.toNat_natCast, getD_setN, if_neg (by omega)]
        · obtain rfl : RW' = bs.length := by omega
          unfold ChS.pageOf
          rw [p1]
          exact putX_part_other hl2 hfit (hne l' N' h2 h3)
        · have h1 := inc_bnd (bnd_X (tick_bnd hs.bnd) (putX s.X (N * bs.length) (bs.take (min bs.length s.cby.toNat)))) j 0
          exact bnd_mono h1 (by omega)
        · exact hs.tick.cby
        · exact hs.tick.fill
    · rw [if_neg hw]
      exact ⟨Same.like (tick_X s) (tick_K s), hs.tick.mono (by omega)⟩
  · rw [decide_eq_false hL]
    exact ⟨Same.refl _ _ _ _, hs.mono (by omega)⟩
theorem erase_same {w : World} {m gx gb : Nat} {Af : Option Addr} {nf cf : Nat} {a b c d e : Int} {fs : List Flt} {s : ChS} (hC : ChipW w m gx gb Af nf cf a b c d e fs s) {n : Int} (hs : Fine s n) (hn0 : 20 ≤ n) (x : Int) (k : Nat) (hx : x ≠ (k : Int)) : Same s (s.eraseS a b c fs x) b c k ∧ Fine (s.eraseS a b c fs x) (n + 3) := by
  unfold ChS.eraseS
  cases ho : s.on
  · exact ⟨Same.refl _ _ _ _, hs.mono (by omega)⟩
  cases ht : inB a x
  · exact ⟨Same.refl _ _ _ _, hs.mono (by omega)⟩
  obtain ⟨j, rfl, hj⟩ := in_nat ht
  obtain ⟨SZ, RW, hrw, hsz, hfit, z1, z2⟩ := blk_ok hC hj
  have hS : (b * (c + 16)).toNat = SZ := by omega
  rw [hS, Int.toNat_natCast]
  simp only [Bool.and_self, if_true]
  cases hf : failedB a fs s (j : Int)
  · rw [if_neg (by simp)]
    obtain ⟨F, hF⟩ : ∃ F, (if s.cutB = true then s.fill else 255) = F := ⟨_, rfl⟩
    rw [hF]
    have hq := wiped (f := F) hC hj hs.bnd hn0 hrw hsz hfit
    exact ⟨⟨fun i hi => hq.ko k i (by omega) hi, fun l RW' N h1 h2 h3 => hq.po k l RW' N (by omega) h1 h2 h3⟩, ⟨hq.bnd, hs.tick.cby, hs.tick.fill⟩⟩
  · rw [if_pos rfl]
    exact ⟨Same.like (tick_X s) (tick_K s), hs.tick.mono (by omega)⟩
theorem arm_same (s : ChS) (b c : Int) {n : Int} (hs : Fine s n) (xo xb : Int) (xf k : Nat) (hf : xf < 256) : Same s (s.arm xo xb xf) b c k ∧ Fine (s.arm xo xb xf) n := by
  unfold ChS.arm
  cases h : s.on && armOkB xo xb
  · exact ⟨Same.refl _ _ _ _, hs⟩
  · have hx : 0 ≤ xb := by
      simp only [Bool.and_eq_true] at h
      have := h.2
      unfold armOkB at this
      simp at this
      omega
    obtain ⟨o0, o1, c0, c1, k0, k1⟩ := hs.bnd
    exact ⟨Same.like rfl rfl, ⟨⟨o0, o1, c0, c1, k0, k1⟩, hx, hf⟩⟩
theorem boot_same (s : ChS) (b c : Int) {n : Int} (hs : Fine s n) (k : Nat) : Same s s.boot b c k ∧ Fine s.boot n := by
  unfold ChS.boot
  cases h : s.on
  · obtain ⟨o0, o1, c0, c1, k0, k1⟩ := hs.bnd
    exact ⟨Same.like rfl rfl, ⟨⟨o0, o1, c0, c1, k0, k1⟩, hs.cby, hs.fill⟩⟩
  · exact ⟨Same.refl _ _ _ _, hs⟩
end Go.Proofs.Ytdfojhkpfbnmgaa
namespace Go.Proofs.Ytdfojhkpfbnmgaa
open Go.ChangeShapes Go.WideShapes Go.ChangeAt Go.RowKit
theorem own_base {w : World} {b b' e n size : Nat} {v : Value} {xs : List Value} (h : w.ownsRow b e size v n xs) (hb : b' ≤ b) : w.ownsRow b' e size v n xs := by
  obtain ⟨hl, h⟩ := h
  refine ⟨hl, ?_⟩
  rcases h with h | ⟨g, cap, cur, rfl, hg, r⟩
  · exact Or.inl h
  · exact Or.inr ⟨g, cap, cur, rfl, by omega, r⟩
theorem bclone_own (g o n c : Nat) (bs : List Nat) (w : World) (hr : Rd w (some ⟨g, o, none⟩) n 1 (bs.map byteV)) (hlt : g < w.heap.size) (hn : 1 ≤ n) (hn2 : n ≤ 100000) :
    Calls Try.prog 53 #[.slice (some ⟨g, o, none⟩) n c] w fun e' w' => (∃ g' c', e' = .returned (.slice (some ⟨g', 0, none⟩) n c') ∧ RowT w' g' 5 (bs.map byteV) ∧ w.heap.size ≤ g' ∧ w'.ownsRow w.heap.size 5 1 (.slice (some ⟨g', 0, none⟩) n c') n (bs.map byteV)) ∧ Below w.heap.size w w' := by
  have HR : Rd (w.alloc (.cells #[] 5)) (some ⟨g, o, none⟩) n 1 (bs.map byteV) := hr.keep (fun b o' e j => by
    cases e
    exact Below.cell (p := ⟨g, j, none⟩) ((Below.refl w.heap.size w).alloc (Nat.le_refl _) (.cells #[] 5)) hlt)
  have hnil := slB_not_nil ⟨g, o, none⟩ n c w
  go_enter Try.func53, Try.ntmps53
  go_upto_region 3 with fail
  refine wp_region_lit ?_
  refine wpList_plain rfl (fun K hK => ?_)
  go_simp
  refine hK _ _ ?_
  clear hK K
  try simp only [Act.put, pz1, pz2, pz3]
  refine wpList_plain rfl (fun K hK => ?_)
  go_simp
  refine hK _ _ ?_
  clear hK K
  try simp only [Act.put, pz1, pz2, pz3]
  obtain ⟨ti0, hi, hz0, hz1, hz2⟩ := info_parts infoByte
  refine wpList_app _ rfl (.tmp 5) (.tmp 6) _ rfl w.heap.size 5 ti0 _ 1 1 Try.underlying46 hi hz0 hz1 hz2 rfl (by decide) (.slice (some ⟨w.heap.size, 0, none⟩) 0 0) 0 [] rfl (own_emptyB w _) (some ⟨g, o, none⟩) n c (bs.map byteV) rfl HR (oneB bs) (by unfold maxLen; omega) (by omega) (by simp) ?_
  intro v' w' ho' hg' hv'
  clear hi hz0 hz1 hz2
  rw [Nat.zero_add, List.nil_append] at ho'
  have ho2 := ho'
  obtain ⟨g', c', rfl, hR', hge⟩ := own_rowT ho' hn
  have HO2 := Lib.hid ho2
  clear ho2
  have HG := Lib.hid hg'
  have HRR := Lib.hid hR'
  clear hg' hR' ho' hv' hnil
  try simp only [Act.put, pz1, pz2, pz3]
  go_wp2_with fail
  go_ret
  exact ⟨⟨g', c', rfl, HRR.out, hge, HO2.out⟩, ((Below.refl _ _).alloc (Nat.le_refl _) _).grown HG.out (by simp) (fun g' hg'' => by simp [Value.ownBlock] at hg''; omega)⟩
theorem read_okO (m gx gb : Nat) (Af : Option Addr) (nf cf : Nat) (a b c d e : Int) (fs : List Flt) (k l N RW : Nat) (n : Int) (w : World) (s : ChS) (hC : ChipW w m gx gb Af nf cf a b c d e fs s) (hbn : s.Bnd n) (hn : n ≤ 1000000000) (ho : s.on = true) (hcu : Hid (s.cutB = false)) (hk : (k : Int) < a) (hl : (l : Int) < b) (hnum : Hid (numberI a b (k : Int) (l : Int) = (N : Int))) (hrw : (RW : Int) = c + 16) (hfit0 : N * RW + RW ≤ s.X.length) (r1 : 40 ≤ RW) (r2 : RW ≤ 80) (hN2 : N < 200) : Calls Try.prog 25 #[.pointer (some ⟨m, 0, none⟩), .agg #[.int .i64 (k : Int), .int .i64 (l : Int)]] w fun e' w' => (∃ g' c', e' = .returned (.tuple #[.slice (some ⟨g', 0, none⟩) RW c', .int .i64 0]) ∧ RowT w' g' 5 ((s.pageOf N RW).map byteV) ∧ w.heap.size ≤ g' ∧ w'.ownsRow w.heap.size 5 1 (.slice (some ⟨g', 0, none⟩) RW c') RW ((s.pageOf N RW).map byteV)) ∧ ChipW w' m gx gb Af nf cf a b c d e fs s.tick ∧ Tch (chB m gx gb) w w' := by
  have hnb : ¬ chB m gx gb w.heap.size := by have := hC.lt; unfold chB; omega
  have ht : Hid (thereB a b (k : Int) (l : Int) = true) := Lib.hid (by unfold thereB withinB; simp; omega)
  have hfit : N * RW + RW ≤ s.tick.X.length := by rw [tick_X]; exact hfit0
  have hpo : s.tick.pageOf N RW = s.pageOf N RW := by unfold ChS.pageOf; rw [tick_X]
  have HPO := Lib.hid hpo
  have HRW := Lib.hid hrw
  clear hpo hrw hfit0
  have HB0 : Below w.heap.size w (w.alloc (.cells #[.int .i64 (k : Int), .int .i64 (l : Int)] 53)) := (Below.refl _ _).alloc (Nat.le_refl _) _
  have G1 : Blk (w.alloc (.cells #[.int .i64 (k : Int), .int .i64 (l : Int)] 53)) w.heap.size 53 #[.int .i64 (k : Int), .int .i64 (l : Int)] := Blk.new_ _ _ _
  have z0 : (w.alloc (.cells #[.int .i64 (k : Int), .int .i64 (l : Int)] 53)).cell? ⟨w.heap.size, 0, none⟩ = some (.int .i64 (k : Int)) := G1.cell_ 0
  have z1 : (w.alloc (.cells #[.int .i64 (k : Int), .int .i64 (l : Int)] 53)).cell? ⟨w.heap.size, 1, none⟩ = some (.int .i64 (l : Int)) := G1.cell_ 1
  have hC := hC.below HB0
  have y10 := cell10 hC
  rw [ho] at y10
  clear ho
  go_enter Try.func25, Try.ntmps25
  go_wp2_with (first
    | (go_at_call 50; ((with_reducible refine (hasPage_b _ _ _ _ _ _ _ _ _ _ _ _ _ _ _ _ _ hC ht).mono ?_); rintro e' wN ⟨rfl, hb⟩; replace hC := hC.below hb; replace HB0 := btr HB0 HB0.size hb; replace G1 := G1.below hb G1.lt; clear z0 z1 y10; have z0 := G1.cell_ 0; have z1 := G1.cell_ 1; simp at z0 z1))
    | (go_at_call 34; ((with_reducible refine (begin_b _ _ _ _ _ _ _ _ _ _ _ _ _ _ _ _ hC hbn hn hcu).mono ?_); rintro e' wN ⟨rfl, hC2, hT⟩; have HT := (Tch.of_below (S := chB m gx gb) HB0).trans hT; have hlt0 := hT.far w.heap.size G1.lt hnb; replace G1 : Blk wN w.heap.size _ _ := hlt0.trans G1; clear hlt0 hC; have hC := hC2; clear hC2 z0 z1; have z0 := G1.cell_ 0; have z1 := G1.cell_ 1; simp at z0 z1))
    | (go_at_call 52; ((with_reducible refine (page_any _ _ _ _ _ _ _ _ _ _ _ _ k l N RW _ _ hC hk hl hnum HRW.out hfit r1 r2 hN2).mono ?_); rintro e' wN ⟨⟨q, hq, rfl⟩, hb⟩; replace hC := hC.below hb; replace HT := HT.then hb))
    | (go_at_call 53; ((with_reducible refine (bclone_own gx (N * RW) RW q (s.pageOf N RW) _ (by rw [← HPO.out]; exact chip_rd hC hfit) hC.lt.2.1 (by omega) (by omega)).mono ?_); rintro e' wN ⟨⟨g9, c9, rfl, hR9, hg9, ho9⟩, hb⟩; replace hC := hC.below hb; have HSZ := HT.size; replace HT := HT.then hb)))
  go_ret2
  exact ⟨⟨g9, c9, rfl, hR9, by omega, own_base ho9 (by omega)⟩, hC, HT⟩
theorem read_allO (m gx gb : Nat) (Af : Option Addr) (nf cf : Nat) (a b c d e : Int) (fs : List Flt) (x y : Int) (n : Int) (w : World) (s : ChS) (hC : ChipW w m gx gb Af nf cf a b c d e fs s) (hs : Fine s n) (hn : n ≤ 900000000) :
    Calls Try.prog 25 #[.pointer (some ⟨m, 0, none⟩), .agg #[.int .i64 x, .int .i64 y]] w fun e' w' => (∃ A c', e' = .returned (.tuple #[.slice A (s.readB a b c x y).length c', .int .i64 (s.readZ a b x y)]) ∧ (s.readB a b c x y = [] ∧ A = none ∧ c' = 0 ∨ ∃ g, A = some ⟨g, 0, none⟩ ∧ RowT w' g 5 ((s.readB a b c x y).map byteV) ∧ w.heap.size ≤ g ∧ w'.ownsRow w.heap.size 5 1 (.slice (some ⟨g, 0, none⟩) (s.readB a b c x y).length c') (s.readB a b c x y).length ((s.readB a b c x y).map byteV))) ∧ ChipW w' m gx gb Af nf cf a b c d e fs (s.readS a b x y) ∧ Tch (chB m gx gb) w w' := by
  cases ho : s.on
  · have e1 : s.readZ a b x y = 9 := by simp [ChS.readZ, ho]
    have e2 : s.readS a b x y = s := by simp [ChS.readS, ho]
    have e3 : s.readB a b c x y = [] := by simp [ChS.readB, ho]
    rw [e1, e2, e3]
    refine (read_off m gx gb Af nf cf a b c d e fs x y w s hC ho).mono ?_
    rintro e' w' ⟨rfl, hb⟩
    exact ⟨⟨none, 0, rfl, Or.inl ⟨rfl, rfl, rfl⟩⟩, hC.below hb, Tch.of_below hb⟩
  cases ht : thereB a b x y
  · have e1 : s.readZ a b x y = 2 := by simp [ChS.readZ, ho, ht]
    have e2 : s.readS a b x y = s := by simp [ChS.readS, ht]
    have e3 : s.readB a b c x y = [] := by simp [ChS.readB, ht]
    rw [e1, e2, e3]
    refine (read_arg m gx gb Af nf cf a b c d e fs x y w s hC ho (Lib.hid ht)).mono ?_
    rintro e' w' ⟨rfl, hb⟩
    exact ⟨⟨none, 0, rfl, Or.inl ⟨rfl, rfl, rfl⟩⟩, hC.below hb, Tch.of_below hb⟩
  have e2 : s.readS a b x y = s.tick := by simp [ChS.readS, ht, ho]
  rw [e2]
  cases hc : s.cutB
  · obtain ⟨k, l, hx, hy, hk, hl⟩ := there_nat ht
    obtain ⟨N, RW, hnum, hrw, hfit, r1, r2, hN2, hNN⟩ := page_ok hC hk hl
    have hN' : (x * b + y).toNat = N := by rw [hx, hy, ← hNN]; omega
    have hr' : (c + 16).toNat = RW := by omega
    have e1 : s.readZ a b x y = 0 := by simp [ChS.readZ, ho, ht, hc]
    have e3 : s.readB a b c x y = s.pageOf N RW := by
      unfold ChS.readB
      rw [ho, ht, hc, hN', hr']
      rfl
    have e4 : (s.pageOf N RW).length = RW := by
      unfold ChS.pageOf
      rw [List.length_take, List.length_drop]
      omega
    rw [e1, e3, e4]
    subst hx hy
    refine (read_okO m gx gb Af nf cf a b c d e fs k l N RW n w s hC hs.bnd (by omega) ho (Lib.hid hc) hk hl (Lib.hid hnum) hrw hfit r1 r2 hN2).mono ?_
    rintro e' w' ⟨⟨g, c', h1, h2, h3, h4⟩, hC', hT⟩
    exact ⟨⟨_, c', h1, Or.inr ⟨g, rfl, h2, h3, h4⟩⟩, hC', hT⟩
  · have e1 : s.readZ a b x y = 9 := by simp [ChS.readZ, ho, ht, hc]
    have e3 : s.readB a b c x y = [] := by simp [ChS.readB, hc]
    rw [e1, e3]
    refine (read_cut m gx gb Af nf cf a b c d e fs x y n w s hC hs.bnd (by omega) ho (Lib.hid ht) (Lib.hid hc)).mono ?_
    rintro e' w' ⟨rfl, hC', hT⟩
    exact ⟨⟨none, 0, rfl, Or.inl ⟨rfl, rfl, rfl⟩⟩, hC', hT⟩
end Go.Proofs.Ytdfojhkpfbnmgaa
namespace Go.Proofs.Ytdfojhkpfbnmgaa
open Go.ChangeShapes Go.WideShapes Go.ChangeAt Go.RowKit
def Bytes8 (bs : List Nat) : Prop := ∀ b ∈ bs, b < 256
theorem Bytes8.at_ {bs : List Nat} (h : Bytes8 bs) (k : Nat) : bs.getD k 0 < 256 := by
  rcases Nat.lt_or_ge k bs.length with hk | hk
  · simp only [List.getD_eq_getElem?_getD, List.getElem?_eq_getElem hk, Option.getD_some]
    exact h _ (List.getElem_mem _)
  · simp [List.getElem?_eq_none hk]
theorem crcReg_next (bs : List Nat) (r : Nat) (k : Nat) (h : k < bs.length) : crcReg r (bs.take (k + 1)) = crcPut 8 (crcReg r (bs.take k)) (bs.getD k 0) := by
  rw [List.take_succ_eq_append_getElem h, crcReg_append]
  simp [h, crcReg]
theorem more_any (s : Nat) (bs : List Nat) (A : Option Addr) (c : Nat) (w : World) (hs : s < 4294967296) (h1 : Sl w w.heap.size A (bs.map byteV)) (h8 : Bytes8 bs) (n1 : bs.length ≤ 1000000000) :
    Calls Try.prog 80 #[.int .u32 (s : Int), .slice A bs.length c] w fun e w' => e = .returned (.int .u32 (crcMore s bs : Nat)) ∧ w' = w := by
  have hn := not_lt hs
  have en := crcNot hs
  obtain ⟨s0, hs0⟩ : ∃ z, z = 4294967295 ^^^ s := ⟨_, rfl⟩
  rw [← hs0] at en hn
  go_enter Try.func80, Try.ntmps80
  go_wp2
  go_loopw [5, 12] (fun rv i wr => ∃ k r1 : Nat, k ≤ bs.length ∧ i = .int .i64 k ∧ rv = .int .u32 (r1 : Int) ∧ r1 < 4294967296 ∧ Hid (r1 = crcReg s0 (bs.take k)) ∧ wr = w) (fun _ i _ => bs.length - (intOf i).toNat)
  case atStart => exact ⟨0, s0, by omega, rfl, by rw [hs0], hn, Lib.hid rfl, rfl⟩
  case round =>
    obtain ⟨k, r1, hk, rfl, rfl, hr1, he, rfl⟩ := hrel
    by_cases hlt : k < bs.length
    · obtain ⟨b1, o1, rfl, l1, q1⟩ := h1.at_ (by simpa using (by omega : 0 < bs.length))
      have hx := h8.at_ k
      have hg := crcReg_next bs s0 k hlt
      obtain ⟨x, hxe⟩ : ∃ x, bs.getD k 0 = x := ⟨_, rfl⟩
      have ck : wr.cell? ⟨b1, o1 + k, none⟩ = some (.int .u8 (x : Int)) := q1 k _ (by rw [← hxe]; simp [hlt, byteV])
      rw [hxe] at hx hg
      rw [← he.out] at hg
      have Hg := Lib.hid hg
      clear hg hxe q1 he
      have hp := crcPut_lt (k := 8) (x := x) hr1
      have i1 : (0 : Int) ≤ (k : Int) := by omega
      have i2 : (k : Int) < (bs.length : Int) := by omega
      go_wp2_with (go_at_call 81; refine (put_any _ _ _ hr1 hx).mono ?_; rintro e w' ⟨rfl, rfl⟩)
      refine ⟨⟨k + 1, crcPut 8 r1 x, by omega, by go_num, rfl, hp, Lib.hid Hg.out.symm, trivial⟩, by simp [intOf]; omega⟩
    · have : k = bs.length := by omega
      subst this
      have e2 := crcNot hr1
      have e3 : crcMore s bs = 4294967295 ^^^ r1 := by
        unfold crcMore
        rw [he.out, List.take_length, hs0]
      clear he
      go_wp2
      go_ret
      exact ⟨by rw [e3]; rfl, rfl⟩
theorem crcOf_any (bs : List Nat) (A : Option Addr) (c : Nat) (w : World) (h1 : Sl w w.heap.size A (bs.map byteV)) (h8 : Bytes8 bs) (n1 : bs.length ≤ 1000000000) :
    Calls Try.prog 79 #[.slice A bs.length c] w fun e w' => e = .returned (.int .u32 (crcMore 0 bs : Nat)) ∧ w' = w := by
  go_enter Try.func79, Try.ntmps79
  go_wp2_with (go_at_call 80; refine (more_any 0 bs A c _ (by omega) h1 h8 n1).mono ?_; rintro e w' ⟨rfl, rfl⟩)
  go_ret
  exact ⟨rfl, rfl⟩
end Go.Proofs.Ytdfojhkpfbnmgaa
namespace Go.Proofs.Ytdfojhkpfbnmgaa
end Go.Proofs.Ytdfojhkpfbnmgaa
namespace Go.Proofs.Ytdfojhkpfbnmgaa
def beB (v n : Nat) : List Nat := (List.range n).map fun i => v / 2 ^ (8 * (n - 1 - i)) % 256
def numB (bs : List Nat) : Nat := bs.foldl (fun a b => a * 256 + b) 0
theorem beB_4 (v : Nat) : beB v 4 = [v / 16777216 % 256, v / 65536 % 256, v / 256 % 256, v % 256] := by simp [beB, List.range_succ]
theorem be_num4 {bs : List Nat} (hl : bs.length = 4) (h : Bytes8 bs) : beB (numB bs) 4 = bs ∧ numB bs < 4294967296 := by
  match bs, hl with
  | [a, b, c, d], _ =>
    have ha := h a (by simp)
    have hb := h b (by simp)
    have hc := h c (by simp)
    have hd := h d (by simp)
    rw [beB_4]
    simp [numB]
    omega
theorem numB_snoc (bs : List Nat) (b : Nat) : numB (bs ++ [b]) = numB bs * 256 + b := by simp [numB]
theorem numB_next {bs : List Nat} {k : Nat} (hk : k < bs.length) : numB (bs.take (k + 1)) = numB (bs.take k) * 256 + bs[k] := by
  rw [List.take_succ_eq_append_getElem hk, numB_snoc]
theorem numB_lt : ∀ {k : Nat} {bs : List Nat}, Bytes8 bs → k ≤ bs.length → numB (bs.take k) < 256 ^ k
  | 0, _, _, _ => by simp [numB]
  | k + 1, bs, h, hk => by
    have ih := numB_lt (k := k) h (by omega)
    have hb := h bs[k] (List.getElem_mem _)
    rw [numB_next (by omega), Nat.pow_succ]
    omega
end Go.Proofs.Ytdfojhkpfbnmgaa
namespace Go.Proofs.Ytdfojhkpfbnmgaa
open Go.ChangeShapes Go.WideShapes Go.ChangeAt Go.RowKit
theorem Sl.held {W w' : World} {A : Option Addr} {vs : List Value} (h : Sl W W.heap.size A vs) (hz : W.heap.size ≤ w'.heap.size) (hc : ∀ b o, b < W.heap.size → w'.cell? ⟨b, o, none⟩ = W.cell? ⟨b, o, none⟩) : Sl w' w'.heap.size A vs := by
  rcases h with h | ⟨b, off, e, hlt, hq⟩
  · exact Or.inl h
  · exact Or.inr ⟨b, off, e, by omega, fun k v hv => (hc b (off + k) hlt).trans (hq k v hv)⟩
end Go.Proofs.Ytdfojhkpfbnmgaa
namespace Go.Proofs.Ytdfojhkpfbnmgaa
open Go.ChangeShapes Go.WideShapes Go.ChangeAt Go.RowKit
attribute [local go_sem ↓] Go.wp_at_zero Go.wp_at_succ
end Go.Proofs.Ytdfojhkpfbnmgaa
namespace Go.Proofs.Ytdfojhkpfbnmgaa
open Go.ChangeShapes Go.WideShapes Go.ChangeAt Go.RowKit
attribute [local go_sem ↓] Go.wp_at_zero Go.wp_at_succ
theorem ret_boolT {a b : Bool} (h : a = b) : Ending.returned (.bool a) = Ending.returned (.bool b) := by rw [h]
theorem ret_nat {a b : Nat} (h : a = b) : Ending.returned (.int .i64 (a : Int)) = Ending.returned (.int .i64 (b : Int)) := by rw [h]
theorem numB_bd {bs : List Nat} (h8 : Bytes8 bs) (hl : bs.length ≤ 4) (k : Nat) (hk : k ≤ bs.length) : numB (bs.take k) < 4294967296 := by
  have h := numB_lt (k := k) h8 hk
  have : 256 ^ k ≤ 256 ^ 4 := Nat.pow_le_pow_right (by omega) (by omega)
  omega
theorem orByte (a b : Nat) (ha : a < 4294967296) (hb : b < 256) : bits .or .i64 ((a : Int) * 256) (b : Int) = ((a * 256 + b : Nat) : Int) := by
  have e : (a : Int) * 256 = ((a * 256 : Nat) : Int) := by omega
  have h : a * 256 ||| b = a * 256 + b := by
    have := Nat.shiftLeft_add_eq_or_of_lt (i := 8) (b := b) (by omega) a
    simp only [Nat.shiftLeft_eq, Nat.reducePow] at this
    exact this.symm
  rw [e]
  show IntKind.i64.wrap ((BitVec.ofInt 64 ((a * 256 : Nat) : Int) ||| BitVec.ofInt 64 (b : Int)).toNat : Int) = _
  rw [BitVec.toNat_or, BitVec.ofInt_natCast, BitVec.ofInt_natCast, BitVec.toNat_ofNat, BitVec.toNat_ofNat, Nat.mod_eq_of_lt (by omega), Nat.mod_eq_of_lt (by omega), h]
  exact IntWalk.i64_in _ (by omega)
theorem number_any (bs : List Nat) (A : Option Addr) (c : Nat) (w : World) (h1 : Sl w w.heap.size A (bs.map byteV)) (h8 : Bytes8 bs) (n1 : bs.length ≤ 4) :
    Calls Try.prog 77 #[.slice A bs.length c] w fun e w' => e = .returned (.int .i64 (numB bs)) ∧ w = w' := by
  go_enter Try.func77, Try.ntmps77
  go_wp2
  go_loop [3, 8] (fun v i => ∃ k : Nat, k ≤ bs.length ∧ i = .int .i64 k ∧ v = .int .i64 (numB (bs.take k))) (fun _ i => bs.length - (intOf i).toNat)
  case atStart => exact ⟨0, Nat.zero_le _, rfl, rfl⟩
  case round =>
    obtain ⟨k, hk, rfl, rfl⟩ := hrel
    by_cases hlt : k < bs.length
    · obtain ⟨b1, o1, rfl, l1, q1⟩ := h1.at_ (by simpa using (by omega : 0 < bs.length))
      have hb := h8 bs[k] (List.getElem_mem hlt)
      have hr := numB_next hlt
      have hnb := numB_bd h8 n1 k hk
      obtain ⟨x, hx⟩ : ∃ x, bs[k] = x := ⟨_, rfl⟩
      rw [hx] at hb hr
      have x1 : w.cell? ⟨b1, o1 + k, none⟩ = some (.int .u8 (x : Int)) := by rw [← hx]; exact q1 k _ (by simp [hlt, byteV])
      obtain ⟨N, hN⟩ : ∃ N, numB (bs.take k) = N := ⟨_, rfl⟩
      rw [hN] at hnb hr ⊢
      have HR := Lib.hid hr
      have ho := orByte N x hnb hb
      have s1 : (0 : Int) ≤ (N : Int) := by omega
      have s2 : (N : Int) < 4294967296 := by omega
      have s3 : (x : Int) < 256 := by omega
      have i0 : (0 : Int) ≤ (k : Int) := by omega
      have i1 : (k : Int) < (bs.length : Int) := by omega
      clear q1 hx hN hr
      go_wp2
      go_round
      case rel =>
        exact ⟨k + 1, by omega, by go_num, by rw [HR.out]; exact congrArg (Value.int .i64) (by omega)⟩
      case measure => simp [intOf]; omega
    · go_wp2
      have hkk : k = bs.length := by omega
      subst hkk
      go_ret
      exact ⟨ret_nat (by rw [List.take_length]), rfl⟩
def withinT (x hi : Int) : Bool := decide (0 ≤ x) && decide (x ≤ hi)
theorem withint_any (x hi : Int) (w : World) :
    Calls Try.prog 78 #[.int .i64 x, .int .i64 hi] w fun e w' => e = .returned (.bool (withinT x hi)) ∧ w = w' := by
  unfold withinT
  by_cases h1 : 0 ≤ x <;> by_cases h2 : x ≤ hi
  all_goals
    go_enter Try.func78, Try.ntmps78
    go_wp2
    go_ret
    exact ⟨by simp [h1, h2], rfl⟩
def mayDataB (n : Int) : Bool := decide (24 ≤ n) && decide (n ≤ 64)
theorem mayData_any (x : Int) (w : World) :
    Calls Try.prog 72 #[.int .i64 x] w fun e w' => e = .returned (.bool (mayDataB x)) ∧ w = w' := by
  unfold mayDataB
  by_cases h1 : 24 ≤ x <;> by_cases h2 : x ≤ 64
  all_goals
    go_enter Try.func72, Try.ntmps72
    go_wp2
    go_ret
    exact ⟨by simp [h1, h2], rfl⟩
def tagB (k p s e : Int) : Bool := !decide (k < 1) && (!decide (3 < k) && (!((k == 3) && (p != 0)) && (withinT p 65535 && (withinT s 4294967295 && withinT e 16777215))))
theorem tmay_any (k p s e : Int) (w : World) :
    Calls Try.prog 75 #[.agg #[.int .i64 k, .int .i64 p, .int .i64 s, .int .i64 e]] w fun e' w' => e' = .returned (.bool (tagB k p s e)) ∧ Below w.heap.size w w' := by
  go_enter Try.func75, Try.ntmps75
  rcases (by cases hq : (decide (k < 1) : Bool) <;> simp : (decide (k < 1) : Bool) = true ∨ (decide (k < 1) : Bool) = false) with t1 | t1
  · have hr : tagB k p s e = false := by unfold tagB; rw [t1]; simp
    have HR := Lib.hid hr
    clear hr
    go_wp2_with (go_at_call 78; refine (withint_any _ _ _).mono ?_; rintro e' w' ⟨rfl, rfl⟩)
    go_ret
    exact ⟨ret_boolT HR.out.symm, ((Below.refl _ _).alloc (Nat.le_refl _) _)⟩
  · rcases (by cases hq : (decide (3 < k) : Bool) <;> simp : (decide (3 < k) : Bool) = true ∨ (decide (3 < k) : Bool) = false) with t2 | t2
    · have hr : tagB k p s e = false := by unfold tagB; rw [t1, t2]; simp
      have HR := Lib.hid hr
      clear hr
      go_wp2_with (go_at_call 78; refine (withint_any _ _ _).mono ?_; rintro e' w' ⟨rfl, rfl⟩)
      go_ret
      exact ⟨ret_boolT HR.out.symm, ((Below.refl _ _).alloc (Nat.le_refl _) _)⟩
    · rcases (by cases hq : (k == 3 : Bool) <;> simp : (k == 3) = true ∨ (k == 3) = false) with t3 | t3
      · rcases (by cases hq : (p != 0 : Bool) <;> simp : (p != 0 : Bool) = true ∨ (p != 0 : Bool) = false) with t4 | t4
        · have hr : tagB k p s e = false := by unfold tagB; rw [t1, t2, t3, t4]; simp
          have HR := Lib.hid hr
          clear hr
          go_wp2_with (go_at_call 78; refine (withint_any _ _ _).mono ?_; rintro e' w' ⟨rfl, rfl⟩)
          go_ret
          exact ⟨ret_boolT HR.out.symm, ((Below.refl _ _).alloc (Nat.le_refl _) _)⟩
        · rcases (by cases hq : (withinT p 65535 : Bool) <;> simp : (withinT p 65535 : Bool) = false ∨ (withinT p 65535 : Bool) = true) with t5 | t5
          · have hr : tagB k p s e = false := by unfold tagB; rw [t1, t2, t3, t4, t5]; simp
            have HR := Lib.hid hr
            clear hr
            go_wp2_with (go_at_call 78; refine (withint_any _ _ _).mono ?_; rintro e' w' ⟨rfl, rfl⟩)
            go_ret
            exact ⟨ret_boolT HR.out.symm, ((Below.refl _ _).alloc (Nat.le_refl _) _)⟩
          · rcases (by cases hq : (withinT s 4294967295 : Bool) <;> simp : (withinT s 4294967295 : Bool) = false ∨ (withinT s 4294967295 : Bool) = true) with t6 | t6
            · have hr : tagB k p s e = false := by unfold tagB; rw [t1, t2, t3, t4, t5, t6]; simp
              have HR := Lib.hid hr
              clear hr
              go_wp2_with (go_at_call 78; refine (withint_any _ _ _).mono ?_; rintro e' w' ⟨rfl, rfl⟩)
              go_ret
              exact ⟨ret_boolT HR.out.symm, ((Below.refl _ _).alloc (Nat.le_refl _) _)⟩
            · rcases (by cases hq : (withinT e 16777215 : Bool) <;> simp : (withinT e 16777215 : Bool) = false ∨ (withinT e 16777215 : Bool) = true) with t7 | t7
              · have hr : tagB k p s e = false := by unfold tagB; rw [t1, t2, t3, t4, t5, t6, t7]; simp
                have HR := Lib.hid hr
                clear hr
                go_wp2_with (go_at_call 78; refine (withint_any _ _ _).mono ?_; rintro e' w' ⟨rfl, rfl⟩)
                go_ret
                exact ⟨ret_boolT HR.out.symm, ((Below.refl _ _).alloc (Nat.le_refl _) _)⟩
              · have hr : tagB k p s e = true := by unfold tagB; rw [t1, t2, t3, t4, t5, t6, t7]; simp
                have HR := Lib.hid hr
                clear hr
                go_wp2_with (go_at_call 78; refine (withint_any _ _ _).mono ?_; rintro e' w' ⟨rfl, rfl⟩)
                go_ret
                exact ⟨ret_boolT HR.out.symm, ((Below.refl _ _).alloc (Nat.le_refl _) _)⟩
      · rcases (by cases hq : (withinT p 65535 : Bool) <;> simp : (withinT p 65535 : Bool) = false ∨ (withinT p 65535 : Bool) = true) with t4 | t4
        · have hr : tagB k p s e = false := by unfold tagB; rw [t1, t2, t3, t4]; simp
          have HR := Lib.hid hr
          clear hr
          go_wp2_with (go_at_call 78; refine (withint_any _ _ _).mono ?_; rintro e' w' ⟨rfl, rfl⟩)
          go_ret
          exact ⟨ret_boolT HR.out.symm, ((Below.refl _ _).alloc (Nat.le_refl _) _)⟩
        · rcases (by cases hq : (withinT s 4294967295 : Bool) <;> simp : (withinT s 4294967295 : Bool) = false ∨ (withinT s 4294967295 : Bool) = true) with t5 | t5
          · have hr : tagB k p s e = false := by unfold tagB; rw [t1, t2, t3, t4, t5]; simp
            have HR := Lib.hid hr
            clear hr
            go_wp2_with (go_at_call 78; refine (withint_any _ _ _).mono ?_; rintro e' w' ⟨rfl, rfl⟩)
            go_ret
            exact ⟨ret_boolT HR.out.symm, ((Below.refl _ _).alloc (Nat.le_refl _) _)⟩
          · rcases (by cases hq : (withinT e 16777215 : Bool) <;> simp : (withinT e 16777215 : Bool) = false ∨ (withinT e 16777215 : Bool) = true) with t6 | t6
            · have hr : tagB k p s e = false := by unfold tagB; rw [t1, t2, t3, t4, t5, t6]; simp
              have HR := Lib.hid hr
              clear hr
              go_wp2_with (go_at_call 78; refine (withint_any _ _ _).mono ?_; rintro e' w' ⟨rfl, rfl⟩)
              go_ret
              exact ⟨ret_boolT HR.out.symm, ((Below.refl _ _).alloc (Nat.le_refl _) _)⟩
            · have hr : tagB k p s e = true := by unfold tagB; rw [t1, t2, t3, t4, t5, t6]; simp
              have HR := Lib.hid hr
              clear hr
              go_wp2_with (go_at_call 78; refine (withint_any _ _ _).mono ?_; rintro e' w' ⟨rfl, rfl⟩)
              go_ret
              exact ⟨ret_boolT HR.out.symm, ((Below.refl _ _).alloc (Nat.le_refl _) _)⟩
def blankB (bs : List Nat) : Bool := bs.all fun b => b == 255
theorem all_take {p : Nat → Bool} {bs : List Nat} {k : Nat} (hk : k < bs.length) : (bs.take (k + 1)).all p = ((bs.take k).all p && p bs[k]) := by
  rw [List.take_succ_eq_append_getElem hk, List.all_append, List.all_cons, List.all_nil, Bool.and_true]
theorem erased_any (bs : List Nat) (A : Option Addr) (c : Nat) (w : World) (h1 : Sl w w.heap.size A (bs.map byteV)) (h8 : Bytes8 bs) (n1 : bs.length ≤ 1000000) :
    Calls Try.prog 73 #[.slice A bs.length c] w fun e w' => e = .returned (.bool (blankB bs)) ∧ w = w' := by
  go_enter Try.func73, Try.ntmps73
  go_wp2
  go_loop [7] (fun i => ∃ k : Nat, k ≤ bs.length ∧ i = .int .i64 k ∧ Hid ((bs.take k).all (fun b => b == 255) = true)) (fun i => bs.length - (intOf i).toNat)
  case atStart => exact ⟨0, Nat.zero_le _, rfl, Lib.hid (by simp)⟩
  case round =>
    obtain ⟨k, hk, rfl, H0⟩ := hrel
    by_cases hlt : k < bs.length
    · obtain ⟨b1, o1, rfl, l1, q1⟩ := h1.at_ (by simpa using (by omega : 0 < bs.length))
      have hr := all_take (p := fun b => b == 255) hlt
      have hm := List.getElem_mem hlt
      obtain ⟨x, hx⟩ : ∃ x, bs[k] = x := ⟨_, rfl⟩
      rw [hx] at hr hm
      have x1 : w.cell? ⟨b1, o1 + k, none⟩ = some (.int .u8 (x : Int)) := by rw [← hx]; exact q1 k _ (by simp [hlt, byteV])
      have HR := Lib.hid (hr.trans (by rw [H0.out, Bool.true_and]))
      have i0 : (0 : Int) ≤ (k : Int) := by omega
      have i1 : (k : Int) < (bs.length : Int) := by omega
      clear q1 hx hr
      by_cases he : x = 255
      · have t1 : ((x : Int) != 255) = false := by simp; omega
        have hn : (bs.take (k + 1)).all (fun b => b == 255) = true := HR.out.trans (by simpa using he)
        have HN := Lib.hid hn
        clear hn he
        go_wp2
        go_round
        case rel => exact ⟨k + 1, by omega, by go_num, HN⟩
        case measure => simp [intOf]; omega
      · have t1 : ((x : Int) != 255) = true := by simp; omega
        have hf : blankB bs = false := by
          unfold blankB
          rw [List.all_eq_false]
          exact ⟨x, hm, by simpa using he⟩
        have HF := Lib.hid hf
        clear hf he
        go_wp2
        go_ret
        exact ⟨ret_boolT HF.out.symm, rfl⟩
    · go_wp2
      have hkk : k = bs.length := by omega
      subst hkk
      have hr : blankB bs = true := by have := H0.out; rwa [List.take_length] at this
      go_ret
      exact ⟨ret_boolT hr.symm, rfl⟩
end Go.Proofs.Ytdfojhkpfbnmgaa
namespace Go.Proofs.Ytdfojhkpfbnmgaa
open Go.ChangeShapes Go.WideShapes Go.ChangeAt Go.RowKit
attribute [local go_sem ↓] Go.wp_at_zero Go.wp_at_succ
def bodyB (data : List Nat) (k p s e : Nat) : List Nat := (((data ++ [74, k]) ++ beB p 2) ++ beB s 4) ++ beB e 3
def rawB (data : List Nat) (k p s e : Nat) : List Nat := (bodyB data k p s e ++ beB (crcMore 0 (bodyB data k p s e)) 4) ++ [0]
theorem own_mono {w : World} {base base' : Nat} {e : TypeId} {size n : Nat} {v : Value} {xs : List Value} (h : w.ownsRow base e size v n xs) (hb : base' ≤ base) : w.ownsRow base' e size v n xs := by
  obtain ⟨hl, h⟩ := h
  rcases h with h | ⟨g, cap, cur, hv, hbg, hr⟩
  · exact ⟨hl, Or.inl h⟩
  · exact ⟨hl, Or.inr ⟨g, cap, cur, hv, by omega, hr⟩⟩
theorem own_len {w : World} {base : Nat} {e : TypeId} {size n m : Nat} {v : Value} {xs : List Value} (h : n = m) (ho : w.ownsRow base e size v n xs) : w.ownsRow base e size v m xs := by rw [← h]; exact ho
theorem crcOf_len (bs : List Nat) (n : Nat) (hn : bs.length = n) (A : Option Addr) (c : Nat) (w : World) (h1 : Sl w w.heap.size A (bs.map byteV)) (h8 : Bytes8 bs) (n1 : bs.length ≤ 1000000000) :
    Calls Try.prog 79 #[.slice A n c] w fun e w' => e = .returned (.int .u32 (crcMore 0 bs)) ∧ w = w' := by
  subst hn
  exact (crcOf_any bs A c w h1 h8 n1).mono fun e w' h => ⟨h.1, h.2.symm⟩
theorem Rd.list {w : World} {g : Nat} {t : TypeId} {vs : List Value} (h : Blk w g t vs.toArray) {m : Nat} (hm : vs.length = m) : Rd w (some ⟨g, 0, none⟩) m 1 vs := by
  refine ⟨by omega, Or.inr ⟨g, 0, rfl, fun j u hj => ?_⟩⟩
  rw [Nat.zero_add, h.cell_ j]
  simpa using hj
end Go.Proofs.Ytdfojhkpfbnmgaa
namespace Go.Proofs.Ytdfojhkpfbnmgaa
open Go.ChangeShapes Go.WideShapes Go.ChangeAt Go.RowKit
attribute [local go_sem ↓] Go.wp_at_zero Go.wp_at_succ
theorem sl_sub {w : World} {B b o : Nat} {vs : List Value} (h : Sl w B (some ⟨b, o, none⟩) vs) (i n : Nat) : Sl w B (some ⟨b, o + i, none⟩) ((vs.drop i).take n) := by
  rcases h with h | ⟨b', off, e, hlt, hc⟩
  · exact Or.inl (by rw [h]; simp)
  · cases e
    refine Or.inr ⟨b, o + i, rfl, hlt, fun k v hv => ?_⟩
    rw [List.getElem?_take] at hv
    split at hv
    · rw [List.getElem?_drop] at hv
      have := hc (i + k) v hv
      rwa [← Nat.add_assoc] at this
    · cases hv
theorem held_of {w w' : World} (h : Below w.heap.size w w') : Below w.heap.size w w' ∧ w.heap.size ≤ w'.heap.size ∧ ∀ (k o : Nat), k < w.heap.size → w'.cell? ⟨k, o, none⟩ = w.cell? ⟨k, o, none⟩ := ⟨h, h.size, fun k o hk => h.cell (p := ⟨k, o, none⟩) hk⟩
theorem number_n (bs : List Nat) (n : Nat) (hn : bs.length = n) (A : Option Addr) (c : Nat) (w : World) (h1 : Sl w w.heap.size A (bs.map byteV)) (h8 : Bytes8 bs) (n1 : n ≤ 4) :
    Calls Try.prog 77 #[.slice A n c] w fun e w' => e = .returned (.int .i64 (numB bs)) ∧ w = w' := by
  subst hn
  exact number_any bs A c w h1 h8 n1
def part (tl : List Nat) (i n : Nat) : List Nat := (tl.drop i).take n
theorem part_len {tl : List Nat} {i n : Nat} (h : i + n ≤ tl.length) : (part tl i n).length = n := by simp [part]; omega
theorem part_8 {tl : List Nat} (h : Bytes8 tl) (i n : Nat) : Bytes8 (part tl i n) := fun b hb => h b (List.mem_of_mem_drop (List.mem_of_mem_take hb))
theorem part_map (tl : List Nat) (i n : Nat) : (part tl i n).map byteV = ((tl.map byteV).drop i).take n := by simp [part, List.map_take, List.map_drop]
def tK (tl : List Nat) : Nat := tl.getD 1 0
def tP (tl : List Nat) : Nat := numB (part tl 2 2)
def tS (tl : List Nat) : Nat := numB (part tl 4 4)
def tE (tl : List Nat) : Nat := numB (part tl 8 3)
theorem parse_any (tl : List Nat) (b o c : Nat) (w : World) (h1 : Sl w w.heap.size (some ⟨b, o, none⟩) (tl.map byteV)) (h8 : Bytes8 tl) (hl : tl.length = 16) (hc : 16 ≤ c) (hc2 : c ≤ maxLen) :
    Calls Try.prog 74 #[.slice (some ⟨b, o, none⟩) 16 c] w fun e' w' => e' = .returned (.agg #[.int .i64 (tK tl), .int .i64 (tP tl), .int .i64 (tS tl), .int .i64 (tE tl)]) ∧ Below w.heap.size w w' := by
  unfold maxLen at hc2
  obtain ⟨b', o', hA, lb, q⟩ := h1.at_ (by simp; omega)
  cases hA
  have c1 : w.cell? ⟨b, o + 1, none⟩ = some (.int .u8 (tK tl : Nat)) := q 1 _ (by simp [tK, byteV, show 1 < tl.length by omega])
  have hk8 : (tK tl) < 256 := Bytes8.at_ h8 1
  have k1 : ((tK tl : Nat) : Int) < 256 := by omega
  have k0 : (0 : Int) ≤ ((tK tl : Nat) : Int) := by omega
  have P1 : Sl w w.heap.size (some ⟨b, o + 2, none⟩) ((part tl 2 2).map byteV) := by rw [part_map]; exact sl_sub h1 2 2
  have P2 : Sl w w.heap.size (some ⟨b, o + 4, none⟩) ((part tl 4 4).map byteV) := by rw [part_map]; exact sl_sub h1 4 4
  have P3 : Sl w w.heap.size (some ⟨b, o + 8, none⟩) ((part tl 8 3).map byteV) := by rw [part_map]; exact sl_sub h1 8 3
  have L1 : Hid ((part tl 2 2).length = 2) := Lib.hid (part_len (by omega))
  have L2 : Hid ((part tl 4 4).length = 4) := Lib.hid (part_len (by omega))
  have L3 : Hid ((part tl 8 3).length = 3) := Lib.hid (part_len (by omega))
  have hcc : (16 : Int) ≤ (c : Int) := by omega
  have q4 : (4 : Int) ≤ (c : Int) := by omega
  have q8 : (8 : Int) ≤ (c : Int) := by omega
  have q11 : (11 : Int) ≤ (c : Int) := by omega
  have n2 : ¬ c = 2 := by omega
  have n4 : ¬ c = 4 := by omega
  have n8 : ¬ c = 8 := by omega
  have ww : IntKind.i64.wrap ((tK tl : Nat) : Int) = ((tK tl : Nat) : Int) := IntWalk.i64_in _ (by omega)
  have hw : ∀ (B : Nat) (wx : World), wx = w → True := fun _ _ _ => trivial
  clear hl q hw
  go_enter Try.func74, Try.ntmps74
  go_wp2_with fail
  refine wp_region_noPanic ?_
  refine wp_region_held_drew (S := (fun w' => Below w.heap.size w w' ∧ w.heap.size ≤ w'.heap.size ∧ ∀ (k o : Nat), k < w.heap.size → w'.cell? ⟨k, o, none⟩ = w.cell? ⟨k, o, none⟩)) (by kernel_rfl) ?_ (fun hHeld => ?_)
  · (first | assumption | exact held_of (((Below.refl w.heap.size w).alloc (Nat.le_refl _) _).drew) | exact held_of ((Below.refl w.heap.size w).alloc (Nat.le_refl _) _))
  refine tk 0 ⟨some 3, .move (.tmp 0), 46, "tag.go:81", #[], none⟩ ?_; try simp only [Act.put, pz1, pz2, pz3]
  refine tk 1 ⟨some 4, .indexAddr 46 (.tmp 3) (.const (.int .i64 1)), 0, "tag.go:81", #[⟨0, .data⟩], none⟩ ?_; try simp only [Act.put, pz1, pz2, pz3]
  refine tk 2 ⟨some 5, .load 5 (.tmp 4), 5, "tag.go:81", #[⟨1, .data⟩], none⟩ ?_; try simp only [Act.put, pz1, pz2, pz3]
  refine tk 3 ⟨some 6, .convert 5 3 (.tmp 5), 3, "tag.go:81", #[⟨2, .data⟩], none⟩ ?_; try simp only [Act.put, pz1, pz2, pz3]
  refine tk 4 ⟨some 7, .move (.tmp 0), 46, "tag.go:81", #[], none⟩ ?_; try simp only [Act.put, pz1, pz2, pz3]
  refine tk 5 ⟨some 8, .slice 46 (.tmp 7) (some (.const (.int .i64 2))) (some (.const (.int .i64 4))) none, 46, "tag.go:81", #[⟨4, .data⟩], none⟩ ?_; try simp only [Act.put, pz1, pz2, pz3]
  refine tk 7 ⟨some 10, .move (.tmp 0), 46, "tag.go:81", #[], none⟩ ?_; try simp only [Act.put, pz1, pz2, pz3]
  refine tk 8 ⟨some 11, .slice 46 (.tmp 10) (some (.const (.int .i64 4))) (some (.const (.int .i64 8))) none, 46, "tag.go:81", #[⟨7, .data⟩], none⟩ ?_; try simp only [Act.put, pz1, pz2, pz3]
  refine tk 10 ⟨some 13, .move (.tmp 0), 46, "tag.go:81", #[], none⟩ ?_; try simp only [Act.put, pz1, pz2, pz3]
  refine tk 11 ⟨some 14, .slice 46 (.tmp 13) (some (.const (.int .i64 8))) (some (.const (.int .i64 11))) none, 46, "tag.go:81", #[⟨10, .data⟩], none⟩ ?_; try simp only [Act.put, pz1, pz2, pz3]
  refine wpAnyH_ready (rs := [6]) (by kernel_rfl) (by simp) ?_
  refine AllReadyH.cons (o := ⟨some 9, .call { callee := .value (.func 77), args := #[.tmp 8], argTypes := #[46] }, 3, "tag.go:83", #[⟨5, .data⟩], none⟩) rfl (fun K hK => ?_) AllReadyH.nil
  go_simp
  (first
      | (go_at_call 77; ((with_reducible refine (number_n (part tl 2 2) 2 L1.out (some ⟨b, o + 2, none⟩) _ _ (P1.held hHeld.2.1 hHeld.2.2) (part_8 h8 _ _) (by omega)).mono ?_); rintro e' w3 ⟨rfl, rfl⟩))
      | (go_at_call 77; ((with_reducible refine (number_n (part tl 4 4) 4 L2.out (some ⟨b, o + 4, none⟩) _ _ (P2.held hHeld.2.1 hHeld.2.2) (part_8 h8 _ _) (by omega)).mono ?_); rintro e' w3 ⟨rfl, rfl⟩))
      | (go_at_call 77; ((with_reducible refine (number_n (part tl 8 3) 3 L3.out (some ⟨b, o + 8, none⟩) _ _ (P3.held hHeld.2.1 hHeld.2.2) (part_8 h8 _ _) (by omega)).mono ?_); rintro e' w3 ⟨rfl, rfl⟩)))
  go_wp2_with fail
  refine hK.out _ _ ?_ (fun hNew => ?_)
  · (first | assumption | exact held_of (((Below.refl w.heap.size w).alloc (Nat.le_refl _) _).drew) | exact held_of ((Below.refl w.heap.size w).alloc (Nat.le_refl _) _))
  clear hK K hHeld
  have hHeld := hNew
  clear hNew
  try simp only [Act.put, pz1, pz2, pz3]
  refine wpAnyH_ready (rs := [9]) (by kernel_rfl) (by simp) ?_
  refine AllReadyH.cons (o := ⟨some 12, .call { callee := .value (.func 77), args := #[.tmp 11], argTypes := #[46] }, 3, "tag.go:84", #[⟨8, .data⟩, ⟨6, .chain⟩], none⟩) rfl (fun K hK => ?_) AllReadyH.nil
  go_simp
  (first
      | (go_at_call 77; ((with_reducible refine (number_n (part tl 2 2) 2 L1.out (some ⟨b, o + 2, none⟩) _ _ (P1.held hHeld.2.1 hHeld.2.2) (part_8 h8 _ _) (by omega)).mono ?_); rintro e' w3 ⟨rfl, rfl⟩))
      | (go_at_call 77; ((with_reducible refine (number_n (part tl 4 4) 4 L2.out (some ⟨b, o + 4, none⟩) _ _ (P2.held hHeld.2.1 hHeld.2.2) (part_8 h8 _ _) (by omega)).mono ?_); rintro e' w3 ⟨rfl, rfl⟩))
      | (go_at_call 77; ((with_reducible refine (number_n (part tl 8 3) 3 L3.out (some ⟨b, o + 8, none⟩) _ _ (P3.held hHeld.2.1 hHeld.2.2) (part_8 h8 _ _) (by omega)).mono ?_); rintro e' w3 ⟨rfl, rfl⟩)))
  go_wp2_with fail
  refine hK.out _ _ ?_ (fun hNew => ?_)
  · (first | assumption | exact held_of (((Below.refl w.heap.size w).alloc (Nat.le_refl _) _).drew) | exact held_of ((Below.refl w.heap.size w).alloc (Nat.le_refl _) _))
  clear hK K hHeld
  have hHeld := hNew
  clear hNew
  try simp only [Act.put, pz1, pz2, pz3]
  refine wpAnyH_ready (rs := [12]) (by kernel_rfl) (by simp) ?_
  refine AllReadyH.cons (o := ⟨some 15, .call { callee := .value (.func 77), args := #[.tmp 14], argTypes := #[46] }, 3, "tag.go:85", #[⟨11, .data⟩, ⟨9, .chain⟩], none⟩) rfl (fun K hK => ?_) AllReadyH.nil
  go_simp
  (first
      | (go_at_call 77; ((with_reducible refine (number_n (part tl 2 2) 2 L1.out (some ⟨b, o + 2, none⟩) _ _ (P1.held hHeld.2.1 hHeld.2.2) (part_8 h8 _ _) (by omega)).mono ?_); rintro e' w3 ⟨rfl, rfl⟩))
      | (go_at_call 77; ((with_reducible refine (number_n (part tl 4 4) 4 L2.out (some ⟨b, o + 4, none⟩) _ _ (P2.held hHeld.2.1 hHeld.2.2) (part_8 h8 _ _) (by omega)).mono ?_); rintro e' w3 ⟨rfl, rfl⟩))
      | (go_at_call 77; ((with_reducible refine (number_n (part tl 8 3) 3 L3.out (some ⟨b, o + 8, none⟩) _ _ (P3.held hHeld.2.1 hHeld.2.2) (part_8 h8 _ _) (by omega)).mono ?_); rintro e' w3 ⟨rfl, rfl⟩)))
  go_wp2_with fail
  refine hK.out _ _ ?_ (fun hNew => ?_)
  · (first | assumption | exact held_of (((Below.refl w.heap.size w).alloc (Nat.le_refl _) _).drew) | exact held_of ((Below.refl w.heap.size w).alloc (Nat.le_refl _) _))
  clear hK K hHeld
  have hHeld := hNew
  clear hNew
  try simp only [Act.put, pz1, pz2, pz3]
  refine tk 13 ⟨some 16, .build 50 #[(0, .tmp 6), (1, .tmp 9), (2, .tmp 12), (3, .tmp 15)], 50, "tag.go:81", #[⟨3, .data⟩, ⟨6, .data⟩, ⟨9, .data⟩, ⟨12, .data⟩], none⟩ ?_; try simp only [Act.put, pz1, pz2, pz3]
  refine wpAnyH_ready (rs := [14]) (by kernel_rfl) (by simp) ?_
  refine AllReadyH.cons (o := ⟨none, .store 50 (.tmp 2) (.tmp 16), 0, "tag.go:81", #[⟨13, .data⟩, ⟨12, .chain⟩, ⟨0, .phase⟩, ⟨1, .phase⟩, ⟨2, .phase⟩, ⟨3, .phase⟩, ⟨4, .phase⟩, ⟨5, .phase⟩, ⟨6, .phase⟩, ⟨7, .phase⟩, ⟨8, .phase⟩, ⟨9, .phase⟩, ⟨10, .phase⟩, ⟨11, .phase⟩, ⟨12, .phase⟩, ⟨13, .phase⟩], none⟩) rfl (fun K hK => ?_) AllReadyH.nil
  go_simp
  refine hK.out _ _ ?_ (fun hNew => ?_)
  · (first | assumption | exact held_of (((Below.refl w.heap.size w).alloc (Nat.le_refl _) _).drew) | exact held_of ((Below.refl w.heap.size w).alloc (Nat.le_refl _) _))
  clear hK K hHeld
  have hHeld := hNew
  clear hNew
  try simp only [Act.put, pz1, pz2, pz3]
  refine wpAnyH_done (by kernel_rfl) ?_ _
  refine NoPanic.normal ?_
  go_wp2
  exact bodyPost_ret (v := .agg #[.int .i64 (tK tl), .int .i64 (tP tl), .int .i64 (tS tl), .int .i64 (tE tl)]) (by simp [results, Try.results74, go_sem, tP, tS, tE]) rfl ⟨rfl, ((Below.refl _ _).alloc (Nat.le_refl _) _).drew⟩
def soundB (bs : List Nat) (n : Nat) : Bool := (bs.getD n 0 == 74) && ((bs.getD (n + 15) 0 == 0) && (numB (part bs (n + 11) 4) == crcMore 0 (bs.take (n + 11))))
theorem eqNat (a b : Nat) : ((a : Int) == (b : Int)) = (a == b) := by
  rw [Bool.eq_iff_iff]
  simp only [beq_iff_eq]
  omega
theorem sound_any (bs : List Nat) (n b o c : Nat) (w : World) (h1 : Sl w w.heap.size (some ⟨b, o, none⟩) (bs.map byteV)) (h8 : Bytes8 bs) (hl : bs.length = n + 16) (hn : n ≤ 1000) (hc : n + 16 ≤ c) (hc2 : c ≤ maxLen) :
    Calls Try.prog 76 #[.slice (some ⟨b, o, none⟩) (n + 16) c, .int .i64 n] w fun e' w' => e' = .returned (.bool (soundB bs n)) ∧ w = w' := by
  unfold maxLen at hc2
  obtain ⟨b', o', hA, lb, q⟩ := h1.at_ (by simp; omega)
  cases hA
  obtain ⟨x0, hx0⟩ : ∃ x, bs.getD n 0 = x := ⟨_, rfl⟩
  obtain ⟨x1, hx1⟩ : ∃ x, bs.getD (n + 15) 0 = x := ⟨_, rfl⟩
  have hb0 : x0 < 256 := by rw [← hx0]; exact Bytes8.at_ h8 n
  have hb1 : x1 < 256 := by rw [← hx1]; exact Bytes8.at_ h8 (n + 15)
  have c0 : w.cell? ⟨b, o + n, none⟩ = some (.int .u8 (x0 : Int)) := q n _ (by rw [← hx0]; simp [byteV, show n < bs.length by omega])
  have c1 : w.cell? ⟨b, o + (n + 15), none⟩ = some (.int .u8 (x1 : Int)) := q (n + 15) _ (by rw [← hx1]; simp [byteV, show n + 15 < bs.length by omega])
  have P1 : Sl w w.heap.size (some ⟨b, o + (n + 11), none⟩) ((part bs (n + 11) 4).map byteV) := by rw [part_map]; exact sl_sub h1 (n + 11) 4
  have P2 : Sl w w.heap.size (some ⟨b, o, none⟩) ((bs.take (n + 11)).map byteV) := by have := sl_sub h1 0 (n + 11); simpa [List.map_take] using this
  have L1 : Hid ((part bs (n + 11) 4).length = 4) := Lib.hid (part_len (by omega))
  have L2 : Hid ((bs.take (n + 11)).length = n + 11) := Lib.hid (by simp; omega)
  have h8t : Bytes8 (bs.take (n + 11)) := fun b hb => h8 b (List.mem_of_mem_take hb)
  have hsd : soundB bs n = ((x0 == 74) && ((x1 == 0) && (numB (part bs (n + 11) 4) == crcMore 0 (bs.take (n + 11))))) := by unfold soundB; rw [hx0, hx1]
  have hNb : numB (part bs (n + 11) 4) < 4294967296 := (be_num4 (part_len (by omega)) (part_8 h8 _ _)).2
  have hCb : crcMore 0 (bs.take (n + 11)) < 4294967296 := crcMore_lt (by omega)
  obtain ⟨N, hN⟩ : ∃ N, numB (part bs (n + 11) 4) = N := ⟨_, rfl⟩
  obtain ⟨C, hC⟩ : ∃ C, crcMore 0 (bs.take (n + 11)) = C := ⟨_, rfl⟩
  rw [hN] at hNb hsd
  rw [hC] at hCb hsd
  have HN := Lib.hid hN
  have HC := Lib.hid hC
  have HSD := Lib.hid hsd
  have i0 : (0 : Int) ≤ (n : Int) := by omega
  have i1 : (n : Int) ≤ 1000 := by omega
  have q1 : (n : Int) + 16 ≤ (c : Int) := by omega
  have q2 : (n : Int) + 11 + 4 ≤ (c : Int) := by omega
  have q3 : (n : Int) + 11 ≤ (c : Int) := by omega
  have q4 : (n : Int) < (n : Int) + 16 := by omega
  have n1 : ¬ c = n + 11 := by omega
  have b0 : (N : Int) < 4294967296 := by omega
  have b1 : (C : Int) < 4294967296 := by omega
  have b2 : (0 : Int) ≤ (C : Int) := by omega
  clear q hx0 hx1 hl hN hC hsd
  rcases (by cases hq : (x0 == 74 : Bool) <;> simp : (x0 == 74) = true ∨ (x0 == 74) = false) with t1 | t1
  · have u1 : ((x0 : Int) == 74) = true := (eqNat x0 74).trans t1
    rcases (by cases hq : (x1 == 0 : Bool) <;> simp : (x1 == 0) = true ∨ (x1 == 0) = false) with t2 | t2
    · have u2 : ((x1 : Int) == 0) = true := (eqNat x1 0).trans t2
      have hr := HSD.out.trans (by rw [t1, t2, Bool.true_and, Bool.true_and] : _ = (N == C))
      have hr2 := hr.trans (eqNat N C).symm
      have HR := Lib.hid hr2
      clear hr hr2 t1 t2
      go_enter Try.func76, Try.ntmps76
      go_wp2_with (first
        | (go_at_call 77; refine (number_n (part bs (n + 11) 4) 4 L1.out _ _ _ P1 (part_8 h8 _ _) (by omega)).mono ?_; rw [HN.out]; rintro e' w3 ⟨rfl, rfl⟩)
        | (go_at_call 79; refine (crcOf_len (bs.take (n + 11)) (n + 11) L2.out _ _ _ P2 h8t (by have := L2.out; omega)).mono ?_; rw [HC.out]; rintro e' w3 ⟨rfl, rfl⟩))
      go_ret
      exact ⟨ret_boolT HR.out.symm, rfl⟩
    · have u2 : ((x1 : Int) == 0) = false := (eqNat x1 0).trans t2
      have hr := HSD.out.trans (by rw [t1, t2]; rfl : _ = false)
      have HR := Lib.hid hr
      clear hr t1 t2
      go_enter Try.func76, Try.ntmps76
      go_wp2_with (first
        | (go_at_call 77; refine (number_n (part bs (n + 11) 4) 4 L1.out _ _ _ P1 (part_8 h8 _ _) (by omega)).mono ?_; rw [HN.out]; rintro e' w3 ⟨rfl, rfl⟩)
        | (go_at_call 79; refine (crcOf_len (bs.take (n + 11)) (n + 11) L2.out _ _ _ P2 h8t (by have := L2.out; omega)).mono ?_; rw [HC.out]; rintro e' w3 ⟨rfl, rfl⟩))
      go_ret
      exact ⟨ret_boolT HR.out.symm, rfl⟩
  · have u1 : ((x0 : Int) == 74) = false := (eqNat x0 74).trans t1
    have hr := HSD.out.trans (by rw [t1]; rfl : _ = false)
    have HR := Lib.hid hr
    clear hr t1
    go_enter Try.func76, Try.ntmps76
    go_wp2_with (first
        | (go_at_call 77; refine (number_n (part bs (n + 11) 4) 4 L1.out _ _ _ P1 (part_8 h8 _ _) (by omega)).mono ?_; rw [HN.out]; rintro e' w3 ⟨rfl, rfl⟩)
        | (go_at_call 79; refine (crcOf_len (bs.take (n + 11)) (n + 11) L2.out _ _ _ P2 h8t (by have := L2.out; omega)).mono ?_; rw [HC.out]; rintro e' w3 ⟨rfl, rfl⟩))
    go_ret
    exact ⟨ret_boolT HR.out.symm, rfl⟩
theorem clone_any (bs : List Nat) (n b o c : Nat) (w : World) (h1 : Sl w w.heap.size (some ⟨b, o, none⟩) (bs.map byteV)) (hl : bs.length = n) (hn : n ≤ 1000) :
    Calls Try.prog 53 #[.slice (some ⟨b, o, none⟩) n c] w fun e' w' => ∃ sv, e' = .returned sv ∧ w'.ownsRow w.heap.size 5 1 sv n (bs.map byteV) ∧ Below w.heap.size w w' := by
  obtain ⟨i0, hi, hz0, hz1, hz2⟩ := info_parts infoByte
  have HL := Lib.hid hl
  clear hl
  have hnil := fun (w : World) => Lib.run_eql_slice_nil (P := Try.prog) w 46 5 (some ⟨b, o, none⟩) n c 0 0 Try.underlying46
  go_enter Try.func53, Try.ntmps53
  go_wp2_with (at_builtin; refine wpList_app _ rfl (.tmp 5) (.tmp 6) _ rfl w.heap.size 5 i0 _ 1 1 Try.underlying46 hi hz0 hz1 hz2 rfl (by decide) _ 0 [] rfl (World.ownsRow_lit w #[] 0 (Nat.le_refl _) (by unfold maxLen; omega) rfl) _ n _ (bs.map byteV) rfl (Rd.of_sl (h1.next ((Below.refl _ _).alloc (Nat.le_refl _) _)) (by simp; exact HL.out)) (oneB bs) (by unfold maxLen; omega) (by omega) (by simp) ?_; intro s2 w2 ho2 hg2 hv2)
  go_ret
  refine ⟨_, rfl, own_len (n := 0 + n) (by omega) (by simpa using ho2), ((Below.refl _ _).alloc (Nat.le_refl _) _).trans (below_app (Nat.le_refl _) (by simp) (World.ownsRow_lit (e := 5) (size := 1) w #[] 0 (Nat.le_refl _) (by unfold maxLen; omega) rfl) hg2)⟩
end Go.Proofs.Ytdfojhkpfbnmgaa
namespace Go.Proofs.Ytdfojhkpfbnmgaa
open Go.ChangeShapes Go.WideShapes Go.ChangeAt Go.RowKit
attribute [local go_sem ↓] Go.wp_at_zero Go.wp_at_succ
def readSt (bs : List Nat) : Nat :=
  if 40 ≤ bs.length ∧ bs.length ≤ 80 then
    (if blankB bs = true then 0 else if tagB (tK (bs.drop (bs.length - 16))) (tP (bs.drop (bs.length - 16))) (tS (bs.drop (bs.length - 16))) (tE (bs.drop (bs.length - 16))) = true ∧ soundB bs (bs.length - 16) = true then 1 else 2) else 2
def st4 (w : World) (g : Nat) (u0 u1 u2 u3 : Value) : World := (((w.setCell ⟨g, 0, none⟩ u0).setCell ⟨g, 1, none⟩ u1).setCell ⟨g, 2, none⟩ u2).setCell ⟨g, 3, none⟩ u3
theorem st4_blk {wx : World} {g : Nat} {T : TypeId} {a b c d : Value} (h : Blk wx g T #[a, b, c, d]) (u0 u1 u2 u3 : Value) : Blk (st4 wx g u0 u1 u2 u3) g T #[u0, u1, u2, u3] := by
  have := (((h.set_ 0 u0).set_ 1 u1).set_ 2 u2).set_ 3 u3
  simpa [st4] using this
theorem st4_below {B g : Nat} {w wx : World} (h : Below B w wx) (hg : B ≤ g) (u0 u1 u2 u3 : Value) : Below B w (st4 wx g u0 u1 u2 u3) :=
  (((h.setCell (p := ⟨g, 0, none⟩) hg u0).setCell (p := ⟨g, 1, none⟩) hg u1).setCell (p := ⟨g, 2, none⟩) hg u2).setCell (p := ⟨g, 3, none⟩) hg u3
theorem st4_far {wx : World} {g g1 : Nat} {T : TypeId} {cs : Array Value} (h : Blk wx g1 T cs) (hne : g1 ≠ g) (u0 u1 u2 u3 : Value) : Blk (st4 wx g u0 u1 u2 u3) g1 T cs :=
  (((h.far (p := ⟨g, 0, none⟩) hne u0).far (p := ⟨g, 1, none⟩) hne u1).far (p := ⟨g, 2, none⟩) hne u2).far (p := ⟨g, 3, none⟩) hne u3
theorem st4_own {wx : World} {base g : Nat} {e : TypeId} {size n : Nat} {v : Value} {xs : List Value} (h : wx.ownsRow base e size v n xs) (hg : g < base) (u0 u1 u2 u3 : Value) : (st4 wx g u0 u1 u2 u3).ownsRow base e size v n xs :=
  ownsRow_setCell_below (a := ⟨g, 3, none⟩) (ownsRow_setCell_below (a := ⟨g, 2, none⟩) (ownsRow_setCell_below (a := ⟨g, 1, none⟩) (ownsRow_setCell_below (a := ⟨g, 0, none⟩) h hg u0) hg u1) hg u2) hg u3
theorem st4_keep {w wx : World} {g1 : Nat} {T : TypeId} {a b c d : Value} (hB : Below w.heap.size w wx) (hT : Blk wx g1 T #[a, b, c, d]) (hne : g1 ≠ w.heap.size) (u0 u1 u2 u3 : Value) :
    Below w.heap.size w (st4 wx w.heap.size u0 u1 u2 u3) ∧ (st4 wx w.heap.size u0 u1 u2 u3).cell? ⟨g1, 0, none⟩ = some a ∧ (st4 wx w.heap.size u0 u1 u2 u3).cell? ⟨g1, 1, none⟩ = some b ∧ (st4 wx w.heap.size u0 u1 u2 u3).cell? ⟨g1, 2, none⟩ = some c ∧ (st4 wx w.heap.size u0 u1 u2 u3).cell? ⟨g1, 3, none⟩ = some d := by
  have h := st4_far hT hne u0 u1 u2 u3
  exact ⟨st4_below hB (Nat.le_refl _) _ _ _ _, h.cell_ 0, h.cell_ 1, h.cell_ 2, h.cell_ 3⟩
theorem sl_take {w : World} {B : Nat} {A : Option Addr} {vs : List Value} (h : Sl w B A vs) (n : Nat) : Sl w B A (vs.take n) := by
  rcases h with h | ⟨b, off, e, hlt, hc⟩
  · exact Or.inl (by simp [h])
  · refine Or.inr ⟨b, off, e, hlt, fun k f hv => hc k f ?_⟩
    rw [List.getElem?_take] at hv
    split at hv
    · exact hv
    · cases hv
theorem read_len (bs : List Nat) (A : Option Addr) (c : Nat) (w : World) (hl : ¬ (40 ≤ bs.length ∧ bs.length ≤ 80)) (n1 : bs.length ≤ 1000000) :
    Calls Try.prog 71 #[.slice A bs.length c] w fun e' w' => e' = .returned (.tuple #[.slice none 0 0, .agg #[.int .i64 0, .int .i64 0, .int .i64 0, .int .i64 0], .int .i64 2]) ∧ Below w.heap.size w w' := by
  have hd : mayDataB ((bs.length : Int) - 16) = false := by unfold mayDataB; rw [Bool.and_eq_false_iff, decide_eq_false_iff_not, decide_eq_false_iff_not]; omega
  have HD := Lib.hid hd
  clear hd hl
  go_enter Try.func71, Try.ntmps71
  go_wp2_with (go_at_call 72; refine (mayData_any _ _).mono ?_; rw [HD.out]; rintro e' w' ⟨rfl, rfl⟩)
  exact bodyPost_ret (v := .tuple #[.slice none 0 0, .agg #[.int .i64 0, .int .i64 0, .int .i64 0, .int .i64 0], .int .i64 2]) (by simp [results, Try.results71, go_sem]) rfl ⟨rfl, (Below.refl _ _).alloc (Nat.le_refl _) _⟩
theorem read_in (bs : List Nat) (n b o c : Nat) (w : World) (h1 : Sl w w.heap.size (some ⟨b, o, none⟩) (bs.map byteV)) (h8 : Bytes8 bs) (hl : bs.length = n + 16) (hn1 : 24 ≤ n) (hn2 : n ≤ 64) (hc : n + 16 ≤ c) (hc2 : c ≤ maxLen) :
    (blankB bs = true → Calls Try.prog 71 #[.slice (some ⟨b, o, none⟩) (n + 16) c] w fun e' w' => e' = .returned (.tuple #[.slice none 0 0, .agg #[.int .i64 0, .int .i64 0, .int .i64 0, .int .i64 0], .int .i64 0]) ∧ Below w.heap.size w w') ∧
    (blankB bs = false → ¬ (tagB (tK (bs.drop n)) (tP (bs.drop n)) (tS (bs.drop n)) (tE (bs.drop n)) = true ∧ soundB bs n = true) → Calls Try.prog 71 #[.slice (some ⟨b, o, none⟩) (n + 16) c] w fun e' w' => e' = .returned (.tuple #[.slice none 0 0, .agg #[.int .i64 0, .int .i64 0, .int .i64 0, .int .i64 0], .int .i64 2]) ∧ Below w.heap.size w w') ∧
    (blankB bs = false → tagB (tK (bs.drop n)) (tP (bs.drop n)) (tS (bs.drop n)) (tE (bs.drop n)) = true → soundB bs n = true → Calls Try.prog 71 #[.slice (some ⟨b, o, none⟩) (n + 16) c] w fun e' w' => ∃ sv, e' = .returned (.tuple #[sv, .agg #[.int .i64 (tK (bs.drop n)), .int .i64 (tP (bs.drop n)), .int .i64 (tS (bs.drop n)), .int .i64 (tE (bs.drop n))], .int .i64 1]) ∧ w'.ownsRow (w.heap.size + 1) 5 1 sv n ((bs.take n).map byteV) ∧ Below w.heap.size w w') := by
  have hd : mayDataB ((n : Int)) = true := by unfold mayDataB; rw [Bool.and_eq_true, decide_eq_true_eq, decide_eq_true_eq]; omega
  have hd' : mayDataB ((n : Int) + 16 - 16) = true := by rw [show (n : Int) + 16 - 16 = n by omega]; exact hd
  have HD := Lib.hid hd
  have HD' := Lib.hid hd'
  obtain ⟨b', o', hA, lb, q⟩ := h1.at_ (by simp; omega)
  cases hA
  have hB0 : Below w.heap.size w (w.alloc (.cells #[.int .i64 0, .int .i64 0, .int .i64 0, .int .i64 0] 50)) := (Below.refl _ _).alloc (Nat.le_refl _) _
  have h0 := h1.next hB0
  have htl : Sl w w.heap.size (some ⟨b, o + n, none⟩) ((bs.drop n).map byteV) := by have := sl_sub h1 n 16; rwa [← List.map_drop, List.take_of_length_le (by simp; omega)] at this
  have htl0 := htl.next hB0
  have HL := Lib.hid hl
  have HTL : Hid ((bs.drop n).length = 16) := Lib.hid (by simp; omega)
  have h8t : Bytes8 (bs.drop n) := fun x hx => h8 x (List.mem_of_mem_drop hx)
  have hc3 : c ≤ 9223372036854775807 := by unfold maxLen at hc2; omega
  have HC2 := Lib.hid hc2
  have i1 : (24 : Int) ≤ (n : Int) := by omega
  have i2 : (n : Int) ≤ 64 := by omega
  have i3 : (n : Int) ≤ (c : Int) := by omega
  have i4 : ¬ c = n := by omega
  have hcn : 16 ≤ c - n := by omega
  have hcn2 : c - n ≤ maxLen := by unfold maxLen at hc2 ⊢; omega
  have HCN2 := Lib.hid hcn2
  clear hd hd' hc2 q hcn2
  refine ⟨fun he => ?_, fun he hno => ?_, fun he ht hs => ?_⟩
  · have HE := Lib.hid he
    clear he
    have hE : ∀ (w : World), Sl w w.heap.size (some ⟨b, o, none⟩) (bs.map byteV) → Calls Try.prog 73 #[.slice (some ⟨b, o, none⟩) (n + 16) c] w fun e w' => e = .returned (.bool true) ∧ w = w' := fun w h => by
      have := erased_any bs _ c w h h8 (by have := HL.out; omega)
      rwa [HL.out, HE.out] at this
    have HE2 := Lib.hid hE
    clear hE hl
    go_enter Try.func71, Try.ntmps71
    go_wp2_with (first | (go_at_call 72; refine (mayData_any _ _).mono ?_; first | (rw [HD.out]; rintro e' w' ⟨rfl, rfl⟩) | (rw [HD'.out]; rintro e' w' ⟨rfl, rfl⟩)) | (go_at_call 73; refine (HE2.out _ h0).mono ?_; rintro e' w' ⟨rfl, rfl⟩))
    exact bodyPost_ret (v := .tuple #[.slice none 0 0, .agg #[.int .i64 0, .int .i64 0, .int .i64 0, .int .i64 0], .int .i64 0]) (by simp [results, Try.results71, go_sem]) rfl ⟨rfl, (Below.refl _ _).alloc (Nat.le_refl _) _⟩
  all_goals
    have HE := Lib.hid he
    clear he
    have hE : ∀ (w : World), Sl w w.heap.size (some ⟨b, o, none⟩) (bs.map byteV) → Calls Try.prog 73 #[.slice (some ⟨b, o, none⟩) (n + 16) c] w fun e w' => e = .returned (.bool false) ∧ w = w' := fun w h => by
      have := erased_any bs _ c w h h8 (by have := HL.out; omega)
      rwa [HL.out, HE.out] at this
    have HE2 := Lib.hid hE
    clear hE
  · rcases (by cases hq : tagB (tK (bs.drop n)) (tP (bs.drop n)) (tS (bs.drop n)) (tE (bs.drop n)) <;> simp : tagB (tK (bs.drop n)) (tP (bs.drop n)) (tS (bs.drop n)) (tE (bs.drop n)) = false ∨ tagB (tK (bs.drop n)) (tP (bs.drop n)) (tS (bs.drop n)) (tE (bs.drop n)) = true) with ht | ht
    · have HT := Lib.hid ht
      clear ht hno hl
      go_enter Try.func71, Try.ntmps71
      go_wp2_with (first
        | (go_at_call 72; refine (mayData_any _ _).mono ?_; first | (rw [HD.out]; rintro e' w' ⟨rfl, rfl⟩) | (rw [HD'.out]; rintro e' w' ⟨rfl, rfl⟩))
        | (go_at_call 73; refine (HE2.out _ h0).mono ?_; rintro e' w' ⟨rfl, rfl⟩)
        | (go_at_call 74; refine (parse_any (bs.drop n) b (o + n) _ _ htl0 h8t HTL.out hcn HCN2.out).mono ?_; rintro e' w1 ⟨rfl, hb1⟩; have HB1 := below1 hb1; have HZ1 : Blk w1 w.heap.size 50 #[.int .i64 0, .int .i64 0, .int .i64 0, .int .i64 0] := (Blk.new_ _ _ _).below hb1 (by simp); have hz1 : w.heap.size < w1.heap.size := (by { have := hb1.size; simp at this; omega }))
        | (go_at_call 75; refine (tmay_any _ _ _ _ _).mono ?_; rw [HT.out]; rintro e' w2 ⟨rfl, hb2⟩; have HB2 := btr (HB1.alloc HB1.size (.cells #[.int .i64 (tK (bs.drop n)), .int .i64 (tP (bs.drop n)), .int .i64 (tS (bs.drop n)), .int .i64 (tE (bs.drop n))] 50)) (by simp; omega) hb2; have HZ2 : Blk w2 w.heap.size 50 #[.int .i64 0, .int .i64 0, .int .i64 0, .int .i64 0] := (HZ1.alloc_ _).below hb2 (by simp; omega); have HT2 : Blk w2 w1.heap.size 50 #[.int .i64 (tK (bs.drop n)), .int .i64 (tP (bs.drop n)), .int .i64 (tS (bs.drop n)), .int .i64 (tE (bs.drop n))] := (Blk.new_ _ _ _).below hb2 (by simp); have hz2 : w1.heap.size < w2.heap.size := (by { have := hb2.size; simp at this; omega }); have SLX := ((h0.next hb1).alloc_ (.cells #[.int .i64 (tK (bs.drop n)), .int .i64 (tP (bs.drop n)), .int .i64 (tS (bs.drop n)), .int .i64 (tE (bs.drop n))] 50)).next hb2; have y0 := HZ2.cell_ 0; have y1 := HZ2.cell_ 1; have y2 := HZ2.cell_ 2; have y3 := HZ2.cell_ 3; simp at y0 y1 y2 y3; have yf := HZ2.free; have z0 := HT2.cell_ 0; have z1 := HT2.cell_ 1; have z2 := HT2.cell_ 2; have z3 := HT2.cell_ 3; simp at z0 z1 z2 z3)
        | (go_at_call 76; refine (sound_any bs n b o c _ SLX h8 HL.out (by omega) hc HC2.out).mono ?_; rw [HS.out]; rintro e' w3 ⟨rfl, rfl⟩))
      have HW := st4_blk HZ2 (.int .i64 0) (.int .i64 0) (.int .i64 0) (.int .i64 0)
      have HBW := st4_below HB2 (Nat.le_refl _) (.int .i64 0) (.int .i64 0) (.int .i64 0) (.int .i64 0)
      change bodyPost _ _ _ _ _ (st4 w2 w.heap.size (.int .i64 0) (.int .i64 0) (.int .i64 0) (.int .i64 0))
      generalize st4 w2 w.heap.size (.int .i64 0) (.int .i64 0) (.int .i64 0) (.int .i64 0) = wz at HW HBW ⊢
      have r0 := HW.cell_ 0
      have r1 := HW.cell_ 1
      have r2 := HW.cell_ 2
      have r3 := HW.cell_ 3
      simp at r0 r1 r2 r3
      exact bodyPost_ret (v := .tuple #[.slice none 0 0, .agg #[.int .i64 0, .int .i64 0, .int .i64 0, .int .i64 0], .int .i64 2]) (by simp [results, Try.results71, go_sem, r0, r1, r2, r3]) rfl ⟨rfl, HBW⟩
    · have hs : soundB bs n = false := by
        rcases (by cases hq : soundB bs n <;> simp : soundB bs n = false ∨ soundB bs n = true) with h | h
        · exact h
        · exact absurd ⟨ht, h⟩ hno
      have HT := Lib.hid ht
      have HS := Lib.hid hs
      clear ht hs hno hl
      go_enter Try.func71, Try.ntmps71
      go_wp2_with (first
        | (go_at_call 72; refine (mayData_any _ _).mono ?_; first | (rw [HD.out]; rintro e' w' ⟨rfl, rfl⟩) | (rw [HD'.out]; rintro e' w' ⟨rfl, rfl⟩))
        | (go_at_call 73; refine (HE2.out _ h0).mono ?_; rintro e' w' ⟨rfl, rfl⟩)
        | (go_at_call 74; refine (parse_any (bs.drop n) b (o + n) _ _ htl0 h8t HTL.out hcn HCN2.out).mono ?_; rintro e' w1 ⟨rfl, hb1⟩; have HB1 := below1 hb1; have HZ1 : Blk w1 w.heap.size 50 #[.int .i64 0, .int .i64 0, .int .i64 0, .int .i64 0] := (Blk.new_ _ _ _).below hb1 (by simp); have hz1 : w.heap.size < w1.heap.size := (by { have := hb1.size; simp at this; omega }))
        | (go_at_call 75; refine (tmay_any _ _ _ _ _).mono ?_; rw [HT.out]; rintro e' w2 ⟨rfl, hb2⟩; have HB2 := btr (HB1.alloc HB1.size (.cells #[.int .i64 (tK (bs.drop n)), .int .i64 (tP (bs.drop n)), .int .i64 (tS (bs.drop n)), .int .i64 (tE (bs.drop n))] 50)) (by simp; omega) hb2; have HZ2 : Blk w2 w.heap.size 50 #[.int .i64 0, .int .i64 0, .int .i64 0, .int .i64 0] := (HZ1.alloc_ _).below hb2 (by simp; omega); have HT2 : Blk w2 w1.heap.size 50 #[.int .i64 (tK (bs.drop n)), .int .i64 (tP (bs.drop n)), .int .i64 (tS (bs.drop n)), .int .i64 (tE (bs.drop n))] := (Blk.new_ _ _ _).below hb2 (by simp); have hz2 : w1.heap.size < w2.heap.size := (by { have := hb2.size; simp at this; omega }); have SLX := ((h0.next hb1).alloc_ (.cells #[.int .i64 (tK (bs.drop n)), .int .i64 (tP (bs.drop n)), .int .i64 (tS (bs.drop n)), .int .i64 (tE (bs.drop n))] 50)).next hb2; have y0 := HZ2.cell_ 0; have y1 := HZ2.cell_ 1; have y2 := HZ2.cell_ 2; have y3 := HZ2.cell_ 3; simp at y0 y1 y2 y3; have yf := HZ2.free; have z0 := HT2.cell_ 0; have z1 := HT2.cell_ 1; have z2 := HT2.cell_ 2; have z3 := HT2.cell_ 3; simp at z0 z1 z2 z3)
        | (go_at_call 76; refine (sound_any bs n b o c _ SLX h8 HL.out (by omega) hc HC2.out).mono ?_; rw [HS.out]; rintro e' w3 ⟨rfl, rfl⟩))
      have HW := st4_blk HZ2 (.int .i64 0) (.int .i64 0) (.int .i64 0) (.int .i64 0)
      have HBW := st4_below HB2 (Nat.le_refl _) (.int .i64 0) (.int .i64 0) (.int .i64 0) (.int .i64 0)
      change bodyPost _ _ _ _ _ (st4 w2 w.heap.size (.int .i64 0) (.int .i64 0) (.int .i64 0) (.int .i64 0))
      generalize st4 w2 w.heap.size (.int .i64 0) (.int .i64 0) (.int .i64 0) (.int .i64 0) = wz at HW HBW ⊢
      have r0 := HW.cell_ 0
      have r1 := HW.cell_ 1
      have r2 := HW.cell_ 2
      have r3 := HW.cell_ 3
      simp at r0 r1 r2 r3
      exact bodyPost_ret (v := .tuple #[.slice none 0 0, .agg #[.int .i64 0, .int .i64 0, .int .i64 0, .int .i64 0], .int .i64 2]) (by simp [results, Try.results71, go_sem, r0, r1, r2, r3]) rfl ⟨rfl, HBW⟩
  · have HT := Lib.hid ht
    have HS := Lib.hid hs
    clear ht hs hl
    go_enter Try.func71, Try.ntmps71
    go_wp2_with (first
        | (go_at_call 72; refine (mayData_any _ _).mono ?_; first | (rw [HD.out]; rintro e' w' ⟨rfl, rfl⟩) | (rw [HD'.out]; rintro e' w' ⟨rfl, rfl⟩))
        | (go_at_call 73; refine (HE2.out _ h0).mono ?_; rintro e' w' ⟨rfl, rfl⟩)
        | (go_at_call 74; refine (parse_any (bs.drop n) b (o + n) _ _ htl0 h8t HTL.out hcn HCN2.out).mono ?_; rintro e' w1 ⟨rfl, hb1⟩; have HB1 := below1 hb1; have HZ1 : Blk w1 w.heap.size 50 #[.int .i64 0, .int .i64 0, .int .i64 0, .int .i64 0] := (Blk.new_ _ _ _).below hb1 (by simp); have hz1 : w.heap.size < w1.heap.size := (by { have := hb1.size; simp at this; omega }))
        | (go_at_call 75; refine (tmay_any _ _ _ _ _).mono ?_; rw [HT.out]; rintro e' w2 ⟨rfl, hb2⟩; have HB2 := btr (HB1.alloc HB1.size (.cells #[.int .i64 (tK (bs.drop n)), .int .i64 (tP (bs.drop n)), .int .i64 (tS (bs.drop n)), .int .i64 (tE (bs.drop n))] 50)) (by simp; omega) hb2; have HZ2 : Blk w2 w.heap.size 50 #[.int .i64 0, .int .i64 0, .int .i64 0, .int .i64 0] := (HZ1.alloc_ _).below hb2 (by simp; omega); have HT2 : Blk w2 w1.heap.size 50 #[.int .i64 (tK (bs.drop n)), .int .i64 (tP (bs.drop n)), .int .i64 (tS (bs.drop n)), .int .i64 (tE (bs.drop n))] := (Blk.new_ _ _ _).below hb2 (by simp); have hz2 : w1.heap.size < w2.heap.size := (by { have := hb2.size; simp at this; omega }); have SLX := ((h0.next hb1).alloc_ (.cells #[.int .i64 (tK (bs.drop n)), .int .i64 (tP (bs.drop n)), .int .i64 (tS (bs.drop n)), .int .i64 (tE (bs.drop n))] 50)).next hb2; have y0 := HZ2.cell_ 0; have y1 := HZ2.cell_ 1; have y2 := HZ2.cell_ 2; have y3 := HZ2.cell_ 3; simp at y0 y1 y2 y3; have yf := HZ2.free; have z0 := HT2.cell_ 0; have z1 := HT2.cell_ 1; have z2 := HT2.cell_ 2; have z3 := HT2.cell_ 3; simp at z0 z1 z2 z3)
        | (go_at_call 76; refine (sound_any bs n b o c _ SLX h8 HL.out (by omega) hc HC2.out).mono ?_; rw [HS.out]; rintro e' w3 ⟨rfl, rfl⟩))
    have SLT : Sl w2 w2.heap.size (some ⟨b, o, none⟩) ((bs.take n).map byteV) := by rw [List.map_take]; exact sl_take SLX n
    go_wp2_with fail
    refine wp_region_noPanic ?_
    refine wp_region_held_drew (S := (fun w' => Below w.heap.size w w' ∧ w'.cell? ⟨w1.heap.size, 0, none⟩ = some (.int .i64 (tK (bs.drop n))) ∧ w'.cell? ⟨w1.heap.size, 1, none⟩ = some (.int .i64 (tP (bs.drop n))) ∧ w'.cell? ⟨w1.heap.size, 2, none⟩ = some (.int .i64 (tS (bs.drop n))) ∧ w'.cell? ⟨w1.heap.size, 3, none⟩ = some (.int .i64 (tE (bs.drop n))))) (by kernel_rfl) ?_ (fun hHeld => ?_)
    · (first | exact ⟨HB2.drew, z0, z1, z2, z3⟩ | exact ⟨HB4, x0, x1, x2, x3⟩ | exact st4_keep HB4 HT4 (by omega) _ _ _ _)
    refine tk 0 ⟨some 31, .move (.tmp 0), 46, "tag.go:68", #[], none⟩ ?_; try simp only [Act.put, pz1, pz2, pz3]
    refine tk 1 ⟨some 32, .move (.tmp 5), 3, "tag.go:68", #[], none⟩ ?_; try simp only [Act.put, pz1, pz2, pz3]
    refine tk 2 ⟨some 33, .slice 46 (.tmp 31) none (some (.tmp 32)) none, 46, "tag.go:68", #[⟨0, .data⟩, ⟨1, .data⟩], none⟩ ?_; try simp only [Act.put, pz1, pz2, pz3]
    refine tk 4 ⟨some 35, .load 50 (.tmp 6), 50, "tag.go:68", #[{ on := 5, ground := Ground.gcOnly Departure.lateStores }], none⟩ ?_; try simp only [Act.put, pz1, pz2, pz3]
    refine wpAnyH_ready (rs := [3]) (by kernel_rfl) (by simp) ?_
    refine AllReadyH.cons (o := ⟨some 34, .call { callee := .value (.func 53), args := #[.tmp 33], argTypes := #[46] }, 46, "tag.go:68", #[⟨2, .data⟩], none⟩) rfl (fun K hK => ?_) AllReadyH.nil
    go_simp
    (go_at_call 53; refine (clone_any (bs.take n) n b o _ _ (show Sl w2.drew w2.drew.heap.size (some ⟨b, o, none⟩) ((bs.take n).map byteV) from SLT) (by simp [HL.out]) (by omega)).mono ?_; rintro e' w4 ⟨sv, rfl, ho4, hb4⟩; have HB4 : Below w.heap.size w w4 := HB2.drew.trans (hb4.mono HB2.size); have HZ4 : Blk w4 w.heap.size 50 #[.int .i64 0, .int .i64 0, .int .i64 0, .int .i64 0] := Blk.below (w := w2.drew) HZ2 hb4 (by simp; omega); have HT4 : Blk w4 w1.heap.size 50 #[.int .i64 (tK (bs.drop n)), .int .i64 (tP (bs.drop n)), .int .i64 (tS (bs.drop n)), .int .i64 (tE (bs.drop n))] := Blk.below (w := w2.drew) HT2 hb4 (by simp; omega); have v0 := HZ4.cell_ 0; have v1 := HZ4.cell_ 1; have v2 := HZ4.cell_ 2; have v3 := HZ4.cell_ 3; simp at v0 v1 v2 v3; have vf := HZ4.free; have x0 := HT4.cell_ 0; have x1 := HT4.cell_ 1; have x2 := HT4.cell_ 2; have x3 := HT4.cell_ 3; simp at x0 x1 x2 x3)
    go_wp2_with fail
    refine hK.out _ _ ?_ (fun hNew => ?_)
    · (first | exact ⟨HB2.drew, z0, z1, z2, z3⟩ | exact ⟨HB4, x0, x1, x2, x3⟩ | exact st4_keep HB4 HT4 (by omega) _ _ _ _)
    clear hK K hHeld
    have hHeld := hNew
    clear hNew
    try simp only [Act.put, pz1, pz2, pz3]
    refine tk 5 ⟨some 2, .assign (.tmp 34), 46, "tag.go:68", #[⟨3, .data⟩, ⟨3, .chain⟩, ⟨0, .phase⟩, ⟨1, .phase⟩, ⟨2, .phase⟩, ⟨3, .phase⟩, { on := 4, ground := Ground.textOnly Departure.lateStores }], none⟩ ?_; try simp only [Act.put, pz1, pz2, pz3]
    refine wpAnyH_ready (rs := [6]) (by kernel_rfl) (by simp) ?_
    refine AllReadyH.cons (o := ⟨none, .store 50 (.tmp 3) (.tmp 35), 0, "tag.go:68", #[⟨4, .data⟩, ⟨5, .chain⟩, ⟨0, .phase⟩, ⟨1, .phase⟩, ⟨2, .phase⟩, ⟨3, .phase⟩, ⟨4, .phase⟩, ⟨5, .phase⟩], none⟩) rfl (fun K hK => ?_) AllReadyH.nil
    go_simp
    refine hK.out _ _ ?_ (fun hNew => ?_)
    · (first | exact ⟨HB2.drew, z0, z1, z2, z3⟩ | exact ⟨HB4, x0, x1, x2, x3⟩ | exact st4_keep HB4 HT4 (by omega) _ _ _ _)
    clear hK K hHeld
    have hHeld := hNew
    clear hNew
    try simp only [Act.put, pz1, pz2, pz3]
    refine tk 7 ⟨some 4, .assign (.const (.int .i64 1)), 3, "tag.go:68", #[⟨6, .chain⟩, ⟨0, .phase⟩, ⟨1, .phase⟩, ⟨2, .phase⟩, ⟨3, .phase⟩, ⟨4, .phase⟩, ⟨5, .phase⟩, ⟨6, .phase⟩], none⟩ ?_; try simp only [Act.put, pz1, pz2, pz3]
    refine wpAnyH_done (by kernel_rfl) ?_ _
    refine NoPanic.normal ?_
    go_wp2
    have HW := st4_blk HZ4 (.int .i64 (tK (bs.drop n))) (.int .i64 (tP (bs.drop n))) (.int .i64 (tS (bs.drop n))) (.int .i64 (tE (bs.drop n)))
    have HBW := st4_below HB4 (Nat.le_refl _) (.int .i64 (tK (bs.drop n))) (.int .i64 (tP (bs.drop n))) (.int .i64 (tS (bs.drop n))) (.int .i64 (tE (bs.drop n)))
    have HOW := st4_own (g := w.heap.size) (own_mono ho4 (base' := w.heap.size + 1) (by have := HB2.size; simp; omega)) (by omega) (.int .i64 (tK (bs.drop n))) (.int .i64 (tP (bs.drop n))) (.int .i64 (tS (bs.drop n))) (.int .i64 (tE (bs.drop n)))
    change bodyPost _ _ _ _ _ (st4 w4 w.heap.size (.int .i64 (tK (bs.drop n))) (.int .i64 (tP (bs.drop n))) (.int .i64 (tS (bs.drop n))) (.int .i64 (tE (bs.drop n))))
    generalize st4 w4 w.heap.size (.int .i64 (tK (bs.drop n))) (.int .i64 (tP (bs.drop n))) (.int .i64 (tS (bs.drop n))) (.int .i64 (tE (bs.drop n))) = wz at HW HBW HOW ⊢
    have r0 := HW.cell_ 0
    have r1 := HW.cell_ 1
    have r2 := HW.cell_ 2
    have r3 := HW.cell_ 3
    simp at r0 r1 r2 r3
    exact bodyPost_ret (v := .tuple #[sv, .agg #[.int .i64 (tK (bs.drop n)), .int .i64 (tP (bs.drop n)), .int .i64 (tS (bs.drop n)), .int .i64 (tE (bs.drop n))], .int .i64 1]) (by simp [results, Try.results71, go_sem, r0, r1, r2, r3]) rfl ⟨sv, rfl, HOW, HBW⟩
end Go.Proofs.Ytdfojhkpfbnmgaa
namespace Go.Proofs.Ytdfojhkpfbnmgaa
open Go.ChangeShapes Go.WideShapes Go.ChangeAt Go.RowKit
attribute [local go_sem ↓] Go.wp_at_zero Go.wp_at_succ
def tailB (k p s e C : Nat) : List Nat := [74, k, p / 256 % 256, p % 256, s / 16777216 % 256, s / 65536 % 256, s / 256 % 256, s % 256, e / 65536 % 256, e / 256 % 256, e % 256, C / 16777216 % 256, C / 65536 % 256, C / 256 % 256, C % 256, 0]
def LayOk (d : List Nat) (k p s e : Nat) : Prop := 24 ≤ d.length ∧ d.length ≤ 64 ∧ 1 ≤ k ∧ k ≤ 3 ∧ (k = 3 → p = 0) ∧ p < 65536 ∧ s < 4294967296 ∧ e < 16777216 ∧ Bytes8 d
theorem read_bad (bs : List Nat) (N : Nat) (hN : bs.length = N) (A : Option Addr) (c : Nat) (w : World) (h1 : Sl w w.heap.size A (bs.map byteV)) (h8 : Bytes8 bs) (hc : N ≤ c) (hc2 : c ≤ maxLen) (n1 : N ≤ 1000000) (st : Nat) (hst : readSt bs = st) (hne : st ≠ 1) :
    Calls Try.prog 71 #[.slice A N c] w fun e' w' => e' = .returned (.tuple #[.slice none 0 0, .agg #[.int .i64 0, .int .i64 0, .int .i64 0, .int .i64 0], .int .i64 st]) ∧ Below w.heap.size w w' := by
  subst hN
  by_cases hr : 40 ≤ bs.length ∧ bs.length ≤ 80
  · obtain ⟨b, o, rfl, lb, q⟩ := h1.at_ (by simp; omega)
    obtain ⟨n, hn⟩ : ∃ n, bs.length = n + 16 := ⟨bs.length - 16, by omega⟩
    obtain ⟨r1, r2, r3⟩ := read_in bs n b o c w h1 h8 hn (by omega) (by omega) (by omega) hc2
    unfold readSt at hst
    rw [if_pos hr, show bs.length - 16 = n by omega] at hst
    rw [hn]
    by_cases hb : blankB bs = true
    · rw [if_pos hb] at hst
      subst hst
      exact r1 hb
    · rw [if_neg hb] at hst
      by_cases hs : tagB (tK (bs.drop n)) (tP (bs.drop n)) (tS (bs.drop n)) (tE (bs.drop n)) = true ∧ soundB bs n = true
      · rw [if_pos hs] at hst
        exact absurd hst.symm hne
      · rw [if_neg hs] at hst
        subst hst
        exact r2 (by simpa using hb) hs
  · have : st = 2 := by
      rw [← hst]
      unfold readSt
      rw [if_neg hr]
    subst this
    exact read_len bs A c w hr n1
end Go.Proofs.Ytdfojhkpfbnmgaa
namespace Go.Proofs.Ytdfojhkpfbnmgaa
open Go.ChangeShapes Go.WideShapes Go.ChangeAt Go.RowKit
attribute [local go_sem ↓] Go.wp_at_zero Go.wp_at_succ
section
variable {P : Program} (w : World)
end
def zeros : List Nat := List.replicate 24 0
end Go.Proofs.Ytdfojhkpfbnmgaa
namespace Go.Proofs.Ytdfojhkpfbnmgaa
open Go.ChangeShapes Go.WideShapes Go.ChangeAt Go.RowKit Go.Deep
def SlA (w : World) (A : Option Addr) (n c : Nat) (vs : List Value) : Prop := n = vs.length ∧ Sl w w.heap.size A vs ∧ n ≤ c ∧ c ≤ maxLen ∧ (A = none → n = 0 ∧ c = 0)
section
variable {H : Type} {enc : TypeId × Value → H} {P : Program} {w : World} {base : Nat} {spare : Nat → Bool} {held : Bool}
end
end Go.Proofs.Ytdfojhkpfbnmgaa
namespace Go.Proofs.Ytdfojhkpfbnmgaa
open Go.ChangeShapes Go.WideShapes Go.ChangeAt Go.RowKit Go.Deep
attribute [local go_sem ↓] Go.wp_at_zero Go.wp_at_succ
end Go.Proofs.Ytdfojhkpfbnmgaa
namespace Go.Proofs.Ytdfojhkpfbnmgaa
open Go.ChangeShapes Go.WideShapes Go.ChangeAt Go.RowKit
attribute [local go_sem ↓] Go.wp_at_zero Go.wp_at_succ
end Go.Proofs.Ytdfojhkpfbnmgaa
namespace Go.Proofs.Ytdfojhkpfbnmgaa
open Go.ChangeShapes Go.WideShapes Go.ChangeAt Go.RowKit
attribute [local go_sem ↓] Go.wp_at_zero Go.wp_at_succ
theorem four {l : List Nat} (h : l.length = 4) : ∃ a b c d, l = [a, b, c, d] := by
  match l, h with
  | [a, b, c, d], _ => exact ⟨a, b, c, d, rfl⟩
def strB (bs : List Nat) : ByteArray := ⟨(bs.map fun n => UInt8.ofNat n).toArray⟩
end Go.Proofs.Ytdfojhkpfbnmgaa
namespace Go.Proofs.Ytdfojhkpfbnmgaa
open Go.ChangeShapes Go.WideShapes Go.ChangeAt Go.RowKit
attribute [local go_sem ↓] Go.wp_at_zero Go.wp_at_succ
end Go.Proofs.Ytdfojhkpfbnmgaa
namespace Go.Proofs.Ytdfojhkpfbnmgaa
open Go.ChangeShapes Go.WideShapes Go.ChangeAt Go.RowKit
attribute [local go_sem ↓] Go.wp_at_zero Go.wp_at_succ
end Go.Proofs.Ytdfojhkpfbnmgaa
namespace Go.Proofs.Ytdfojhkpfbnmgaa
open Go.ChangeShapes Go.WideShapes Go.ChangeAt Go.RowKit
attribute [local go_sem ↓] Go.wp_at_zero Go.wp_at_succ
end Go.Proofs.Ytdfojhkpfbnmgaa
namespace Go.Proofs.Ytdfojhkpfbnmgaa
open Go.ChangeShapes Go.WideShapes Go.ChangeAt Go.RowKit
attribute [local go_sem ↓] Go.wp_at_zero Go.wp_at_succ
structure OkRead (bs : List Nat) (N n : Nat) (D : List Nat) (K P S E : Nat) : Prop where
  h8 : Bytes8 bs
  hl : bs.length = n + 16
  hN : n + 16 = N
  hn1 : 24 ≤ n
  hn2 : n ≤ 64
  hD : bs.take n = D
  hK : tK (bs.drop n) = K
  hP : tP (bs.drop n) = P
  hS : tS (bs.drop n) = S
  hE : tE (bs.drop n) = E
  hst : readSt bs = 1
theorem st_ok {bs : List Nat} {n : Nat} (hl : bs.length = n + 16) (h : readSt bs = 1) : 24 ≤ n ∧ n ≤ 64 ∧ blankB bs = false ∧ tagB (tK (bs.drop n)) (tP (bs.drop n)) (tS (bs.drop n)) (tE (bs.drop n)) = true ∧ soundB bs n = true := by
  unfold readSt at h
  by_cases hr : 40 ≤ bs.length ∧ bs.length ≤ 80
  · rw [if_pos hr, show bs.length - 16 = n by omega] at h
    by_cases hb : blankB bs = true
    · rw [if_pos hb] at h
      cases h
    · rw [if_neg hb] at h
      split at h
      · rename_i h2
        exact ⟨by omega, by omega, by simpa using hb, h2.1, h2.2⟩
      · cases h
  · rw [if_neg hr] at h
    cases h
theorem ok_split {bs : List Nat} (h8 : Bytes8 bs) (h : readSt bs = 1) : ∃ n D K P S E, OkRead bs bs.length n D K P S E := by
  have hr : 40 ≤ bs.length ∧ bs.length ≤ 80 := by
    by_cases hr : 40 ≤ bs.length ∧ bs.length ≤ 80
    · exact hr
    · unfold readSt at h
      rw [if_neg hr] at h
      cases h
  obtain ⟨n, hn⟩ : ∃ n, bs.length = n + 16 := ⟨bs.length - 16, by omega⟩
  have q := st_ok hn h
  exact ⟨n, _, _, _, _, _, h8, hn, hn.symm, q.1, q.2.1, rfl, rfl, rfl, rfl, rfl, h⟩
theorem read_okT {bs D : List Nat} {N n Ka Pa Sa Ea : Nat} (hf : OkRead bs N n D Ka Pa Sa Ea) (A : Option Addr) (c : Nat) (w : World) (h1 : Sl w w.heap.size A (bs.map byteV)) (hc : N ≤ c) (hc2 : c ≤ maxLen) :
    Calls Try.prog 71 #[.slice A N c] w fun e' w' => ∃ sv, e' = .returned (.tuple #[sv, .agg #[.int .i64 (Ka : Nat), .int .i64 (Pa : Nat), .int .i64 (Sa : Nat), .int .i64 (Ea : Nat)], .int .i64 1]) ∧ w'.ownsRow (w.heap.size + 1) 5 1 sv n (D.map byteV) ∧ Below w.heap.size w w' := by
  obtain ⟨h8, hl, hN, hn1, hn2, hD, hK, hP, hS, hE, hst⟩ := hf
  obtain ⟨b, o, rfl, lb, q⟩ := h1.at_ (by simp; omega)
  clear q lb
  subst hN hD hK hP hS hE
  have q := st_ok hl hst
  exact (read_in bs n b o c w h1 h8 hl hn1 hn2 hc hc2).2.2 q.2.2.1 q.2.2.2.1 q.2.2.2.2
end Go.Proofs.Ytdfojhkpfbnmgaa
namespace Go.Proofs.Ytdfojhkpfbnmgaa
open Go.ChangeShapes Go.WideShapes Go.ChangeAt Go.RowKit
def lkD (bs : List Nat) : List Nat := if readSt bs = 1 then bs.take (bs.length - 16) else []
def lkT (bs : List Nat) : Nat × Nat × Nat × Nat := if readSt bs = 1 then (tK (bs.drop (bs.length - 16)), tP (bs.drop (bs.length - 16)), tS (bs.drop (bs.length - 16)), tE (bs.drop (bs.length - 16))) else (0, 0, 0, 0)
structure Lk (bs D : List Nat) (n K P S E st : Nat) : Prop where
  d : lkD bs = D
  n : D.length = n
  t : lkT bs = (K, P, S, E)
  st : readSt bs = st
theorem Lk.ex (bs : List Nat) : ∃ D n K P S E st, Lk bs D n K P S E st := ⟨_, _, _, _, _, _, _, rfl, rfl, rfl, rfl⟩
theorem Lk.no {bs D : List Nat} {n K P S E st : Nat} (h : Lk bs D n K P S E st) (h1 : st ≠ 1) : D = [] ∧ n = 0 ∧ K = 0 ∧ P = 0 ∧ S = 0 ∧ E = 0 := by
  obtain ⟨rfl, rfl, ht, rfl⟩ := h
  unfold lkT at ht
  unfold lkD
  rw [if_neg h1] at ht ⊢
  cases ht
  exact ⟨rfl, rfl, rfl, rfl, rfl, rfl⟩
theorem Lk.yes {bs D : List Nat} {n K P S E st : Nat} (h : Lk bs D n K P S E st) (h1 : st = 1) (h8 : Bytes8 bs) : OkRead bs bs.length n D K P S E := by
  obtain ⟨rfl, rfl, ht, hst⟩ := h
  rw [h1] at hst
  obtain ⟨n, D, K', P', S', E', hok⟩ := ok_split h8 hst
  have hl := hok.hl
  have e1 : bs.length - 16 = n := by omega
  unfold lkT at ht
  rw [if_pos hst, e1] at ht
  cases ht
  have e2 : lkD bs = D := by unfold lkD; rw [if_pos hst, e1, hok.hD]
  rw [e2]
  have e3 : D.length = n := by rw [← hok.hD, List.length_take]; omega
  rw [e3]
  exact ⟨h8, hl, rfl.trans hok.hN, hok.hn1, hok.hn2, hok.hD, rfl, rfl, rfl, rfl, hst⟩
end Go.Proofs.Ytdfojhkpfbnmgaa
namespace Go.Proofs.Ytdfojhkpfbnmgaa
open Go.ChangeShapes Go.WideShapes Go.ChangeAt Go.RowKit
attribute [local go_sem ↓] Go.wp_at_zero Go.wp_at_succ
theorem tread_any (bs D : List Nat) (n K P S E st : Nat) (hk : Lk bs D n K P S E st) (N : Nat) (hN : bs.length = N) (A : Option Addr) (c : Nat) (w : World) (h1 : Sl w w.heap.size A (bs.map byteV)) (h8 : Bytes8 bs) (hc : N ≤ c) (hc2 : c ≤ maxLen) (n1 : N ≤ 1000000) :
    Calls Try.prog 71 #[.slice A N c] w fun e' w' => (∃ A' c', e' = .returned (.tuple #[.slice A' n c', .agg #[.int .i64 (K : Nat), .int .i64 (P : Nat), .int .i64 (S : Nat), .int .i64 (E : Nat)], .int .i64 (st : Nat)]) ∧ w'.ownsRow w.heap.size 5 1 (.slice A' n c') n (D.map byteV)) ∧ Below w.heap.size w w' := by
  by_cases h : st = 1
  · have hq := hk.yes h h8
    rw [hN] at hq
    refine (read_okT hq A c w h1 hc hc2).mono ?_
    rintro e' w' ⟨sv, rfl, ho, hb⟩
    subst h
    refine ⟨?_, hb⟩
    have ho := own_base ho (Nat.le_succ _)
    have ho2 := ho
    rcases ho2.2 with ⟨rfl, h0⟩ | ⟨g, cap, cur, rfl, _⟩
    · subst h0
      exact ⟨none, 0, rfl, ho⟩
    · exact ⟨_, _, rfl, ho⟩
  · obtain ⟨rfl, rfl, rfl, rfl, rfl, rfl⟩ := hk.no h
    refine (read_bad bs N hN A c w h1 h8 hc hc2 n1 st hk.st h).mono ?_
    rintro e' w' ⟨rfl, hb⟩
    exact ⟨⟨none, 0, rfl, World.ownsRow_nil _ _ _ _⟩, hb⟩
end Go.Proofs.Ytdfojhkpfbnmgaa
