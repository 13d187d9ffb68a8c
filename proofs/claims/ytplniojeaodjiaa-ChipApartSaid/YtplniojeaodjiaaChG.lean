/- Read of a chip. -/
import Derived.Test.YtplniojeaodjiaaChF
namespace Go.Proofs.Ytplniojeaodjiaa
open Go.ChangeShapes Go.WideShapes Go.ChangeAt Go.RowKit
set_option linter.unusedSimpArgs false
set_option linter.unusedVariables false

theorem cell10 {w : World} {m gx gb : Nat} {Af : Option Addr} {nf cf : Nat} {a b c d e : Int} {fs : List Flt} {s : ChS} (h : ChipW w m gx gb Af nf cf a b c d e fs s) : w.cell? ⟨m, 10, none⟩ = some (.bool s.on) := by
  obtain ⟨cx, cb, NX, NB, hX, hN, hcx, hB⟩ := h.blk
  exact hB.cell_ 10
theorem begin_b (m gx gb : Nat) (Af : Option Addr) (nf cf : Nat) (a b c d e : Int) (fs : List Flt) (n : Int) (T : Bool) (w : World) (s : ChS) (hC : ChipW w m gx gb Af nf cf a b c d e fs s) (hb : s.Bnd n) (hn : n ≤ 1000000000) (hcu : Hid (s.cutB = T)) : Calls Try.prog 54 #[.pointer (some ⟨m, 0, none⟩)] w fun e' w' => e' = .returned (.bool T) ∧ ChipW w' m gx gb Af nf cf a b c d e fs s.tick ∧ Tch (chB m gx gb) w w' := by
  have := begin_any m gx gb Af nf cf a b c d e fs n w s hC hb hn
  rwa [hcu.out] at this
theorem tick_X (s : ChS) : s.tick.X = s.X := by unfold ChS.tick; split <;> rfl
theorem tick_K (s : ChS) : s.tick.K = s.K := by unfold ChS.tick; split <;> rfl
def ChS.pageOf (s : ChS) (n RW : Nat) : List Nat := (s.X.drop (n * RW)).take RW
theorem chip_rd {w : World} {m gx gb : Nat} {Af : Option Addr} {nf cf : Nat} {a b c d e : Int} {fs : List Flt} {s : ChS} (h : ChipW w m gx gb Af nf cf a b c d e fs s) {n RW : Nat} (hf : n * RW + RW ≤ s.X.length) : Rd w (some ⟨gx, n * RW, none⟩) RW 1 ((s.pageOf n RW).map byteV) := by
  refine ⟨by simp [ChS.pageOf]; omega, Or.inr ⟨gx, n * RW, rfl, fun j u hu => h.rX.cell_ ?_⟩⟩
  rw [List.getElem?_map] at hu ⊢
  unfold ChS.pageOf at hu
  rw [List.getElem?_take] at hu
  split at hu
  · rw [List.getElem?_drop] at hu
    exact hu
  · cases hu
theorem read_off (m gx gb : Nat) (Af : Option Addr) (nf cf : Nat) (a b c d e : Int) (fs : List Flt) (x y : Int) (w : World) (s : ChS) (hC : ChipW w m gx gb Af nf cf a b c d e fs s) (ho : s.on = false) : Calls Try.prog 19 #[.pointer (some ⟨m, 0, none⟩), .agg #[.int .i64 x, .int .i64 y]] w fun e' w' => e' = .returned (.tuple #[.slice none 0 0, .int .i64 9]) ∧ Below w.heap.size w w' := by
  have HB0 : Below w.heap.size w (w.alloc (.cells #[.int .i64 x, .int .i64 y] 33)) := (Below.refl _ _).alloc (Nat.le_refl _) _
  have G1 : Blk (w.alloc (.cells #[.int .i64 x, .int .i64 y] 33)) w.heap.size 33 #[.int .i64 x, .int .i64 y] := Blk.new_ _ _ _
  have z0 : (w.alloc (.cells #[.int .i64 x, .int .i64 y] 33)).cell? ⟨w.heap.size, 0, none⟩ = some (.int .i64 x) := G1.cell_ 0
  have z1 : (w.alloc (.cells #[.int .i64 x, .int .i64 y] 33)).cell? ⟨w.heap.size, 1, none⟩ = some (.int .i64 y) := G1.cell_ 1
  have hC := hC.below HB0
  have y10 := cell10 hC
  rw [ho] at y10
  clear ho
  clear hC
  go_enter Try.func19, Try.ntmps19
  go_wp2_with fail
  go_ret2
  exact ⟨rfl, HB0⟩
theorem read_arg (m gx gb : Nat) (Af : Option Addr) (nf cf : Nat) (a b c d e : Int) (fs : List Flt) (x y : Int) (w : World) (s : ChS) (hC : ChipW w m gx gb Af nf cf a b c d e fs s) (ho : s.on = true) (ht : Hid (thereB a b x y = false)) : Calls Try.prog 19 #[.pointer (some ⟨m, 0, none⟩), .agg #[.int .i64 x, .int .i64 y]] w fun e' w' => e' = .returned (.tuple #[.slice none 0 0, .int .i64 2]) ∧ Below w.heap.size w w' := by
  have HB0 : Below w.heap.size w (w.alloc (.cells #[.int .i64 x, .int .i64 y] 33)) := (Below.refl _ _).alloc (Nat.le_refl _) _
  have G1 : Blk (w.alloc (.cells #[.int .i64 x, .int .i64 y] 33)) w.heap.size 33 #[.int .i64 x, .int .i64 y] := Blk.new_ _ _ _
  have z0 : (w.alloc (.cells #[.int .i64 x, .int .i64 y] 33)).cell? ⟨w.heap.size, 0, none⟩ = some (.int .i64 x) := G1.cell_ 0
  have z1 : (w.alloc (.cells #[.int .i64 x, .int .i64 y] 33)).cell? ⟨w.heap.size, 1, none⟩ = some (.int .i64 y) := G1.cell_ 1
  have hC := hC.below HB0
  have y10 := cell10 hC
  rw [ho] at y10
  clear ho
  go_enter Try.func19, Try.ntmps19
  go_wp2_with (go_at_call 53; ((with_reducible refine (hasPage_b _ _ _ _ _ _ _ _ _ _ _ _ _ _ _ _ _ hC ht).mono ?_); rintro e' wN ⟨rfl, hb⟩; replace hC := hC.below hb; replace HB0 := btr HB0 HB0.size hb; replace G1 := G1.below hb G1.lt; clear z0 z1 y10; have z0 := G1.cell_ 0; have z1 := G1.cell_ 1; simp at z0 z1))
  go_ret2
  exact ⟨rfl, HB0⟩
theorem read_cut (m gx gb : Nat) (Af : Option Addr) (nf cf : Nat) (a b c d e : Int) (fs : List Flt) (x y n : Int) (w : World) (s : ChS) (hC : ChipW w m gx gb Af nf cf a b c d e fs s) (hbn : s.Bnd n) (hn : n ≤ 1000000000) (ho : s.on = true) (ht : Hid (thereB a b x y = true)) (hcu : Hid (s.cutB = true)) : Calls Try.prog 19 #[.pointer (some ⟨m, 0, none⟩), .agg #[.int .i64 x, .int .i64 y]] w fun e' w' => e' = .returned (.tuple #[.slice none 0 0, .int .i64 9]) ∧ ChipW w' m gx gb Af nf cf a b c d e fs s.tick ∧ Tch (chB m gx gb) w w' := by
  have hnb : ¬ chB m gx gb w.heap.size := by have := hC.lt; unfold chB; omega
  have HB0 : Below w.heap.size w (w.alloc (.cells #[.int .i64 x, .int .i64 y] 33)) := (Below.refl _ _).alloc (Nat.le_refl _) _
  have G1 : Blk (w.alloc (.cells #[.int .i64 x, .int .i64 y] 33)) w.heap.size 33 #[.int .i64 x, .int .i64 y] := Blk.new_ _ _ _
  have z0 : (w.alloc (.cells #[.int .i64 x, .int .i64 y] 33)).cell? ⟨w.heap.size, 0, none⟩ = some (.int .i64 x) := G1.cell_ 0
  have z1 : (w.alloc (.cells #[.int .i64 x, .int .i64 y] 33)).cell? ⟨w.heap.size, 1, none⟩ = some (.int .i64 y) := G1.cell_ 1
  have hC := hC.below HB0
  have y10 := cell10 hC
  rw [ho] at y10
  clear ho
  go_enter Try.func19, Try.ntmps19
  go_wp2_with (first
    | (go_at_call 53; ((with_reducible refine (hasPage_b _ _ _ _ _ _ _ _ _ _ _ _ _ _ _ _ _ hC ht).mono ?_); rintro e' wN ⟨rfl, hb⟩; replace hC := hC.below hb; replace HB0 := btr HB0 HB0.size hb; replace G1 := G1.below hb G1.lt; clear z0 z1 y10; have z0 := G1.cell_ 0; have z1 := G1.cell_ 1; simp at z0 z1))
    | (go_at_call 54; ((with_reducible refine (begin_b _ _ _ _ _ _ _ _ _ _ _ _ _ _ _ _ hC hbn hn hcu).mono ?_); rintro e' wN ⟨rfl, hC2, hT⟩; have HT := (Tch.of_below (S := chB m gx gb) HB0).trans hT; have hlt0 := hT.far w.heap.size G1.lt hnb; replace G1 : Blk wN w.heap.size _ _ := hlt0.trans G1; clear hlt0 hC; have hC := hC2; clear hC2 z0 z1; have z0 := G1.cell_ 0; have z1 := G1.cell_ 1; simp at z0 z1)))
  go_ret2
  exact ⟨rfl, hC, HT⟩
set_option maxHeartbeats 4000000 in
theorem read_ok (m gx gb : Nat) (Af : Option Addr) (nf cf : Nat) (a b c d e : Int) (fs : List Flt) (k l N RW : Nat) (n : Int) (w : World) (s : ChS) (hC : ChipW w m gx gb Af nf cf a b c d e fs s) (hbn : s.Bnd n) (hn : n ≤ 1000000000) (ho : s.on = true) (hcu : Hid (s.cutB = false)) (hk : (k : Int) < a) (hl : (l : Int) < b) (hnum : Hid (numberI a b (k : Int) (l : Int) = (N : Int))) (hrw : (RW : Int) = c + 16) (hfit0 : N * RW + RW ≤ s.X.length) (r1 : 40 ≤ RW) (r2 : RW ≤ 80) (hN2 : N < 200) : Calls Try.prog 19 #[.pointer (some ⟨m, 0, none⟩), .agg #[.int .i64 (k : Int), .int .i64 (l : Int)]] w fun e' w' => (∃ g' c', e' = .returned (.tuple #[.slice (some ⟨g', 0, none⟩) RW c', .int .i64 0]) ∧ RowT w' g' 5 ((s.pageOf N RW).map byteV) ∧ w.heap.size ≤ g') ∧ ChipW w' m gx gb Af nf cf a b c d e fs s.tick ∧ Tch (chB m gx gb) w w' := by
  have hnb : ¬ chB m gx gb w.heap.size := by have := hC.lt; unfold chB; omega
  have ht : Hid (thereB a b (k : Int) (l : Int) = true) := Lib.hid (by unfold thereB withinB; simp; omega)
  have hfit : N * RW + RW ≤ s.tick.X.length := by rw [tick_X]; exact hfit0
  have hpo : s.tick.pageOf N RW = s.pageOf N RW := by unfold ChS.pageOf; rw [tick_X]
  have HPO := Lib.hid hpo
  have HRW := Lib.hid hrw
  clear hpo hrw hfit0
  have HB0 : Below w.heap.size w (w.alloc (.cells #[.int .i64 (k : Int), .int .i64 (l : Int)] 33)) := (Below.refl _ _).alloc (Nat.le_refl _) _
  have G1 : Blk (w.alloc (.cells #[.int .i64 (k : Int), .int .i64 (l : Int)] 33)) w.heap.size 33 #[.int .i64 (k : Int), .int .i64 (l : Int)] := Blk.new_ _ _ _
  have z0 : (w.alloc (.cells #[.int .i64 (k : Int), .int .i64 (l : Int)] 33)).cell? ⟨w.heap.size, 0, none⟩ = some (.int .i64 (k : Int)) := G1.cell_ 0
  have z1 : (w.alloc (.cells #[.int .i64 (k : Int), .int .i64 (l : Int)] 33)).cell? ⟨w.heap.size, 1, none⟩ = some (.int .i64 (l : Int)) := G1.cell_ 1
  have hC := hC.below HB0
  have y10 := cell10 hC
  rw [ho] at y10
  clear ho
  go_enter Try.func19, Try.ntmps19
  go_wp2_with (first
    | (go_at_call 53; ((with_reducible refine (hasPage_b _ _ _ _ _ _ _ _ _ _ _ _ _ _ _ _ _ hC ht).mono ?_); rintro e' wN ⟨rfl, hb⟩; replace hC := hC.below hb; replace HB0 := btr HB0 HB0.size hb; replace G1 := G1.below hb G1.lt; clear z0 z1 y10; have z0 := G1.cell_ 0; have z1 := G1.cell_ 1; simp at z0 z1))
    | (go_at_call 54; ((with_reducible refine (begin_b _ _ _ _ _ _ _ _ _ _ _ _ _ _ _ _ hC hbn hn hcu).mono ?_); rintro e' wN ⟨rfl, hC2, hT⟩; have HT := (Tch.of_below (S := chB m gx gb) HB0).trans hT; have hlt0 := hT.far w.heap.size G1.lt hnb; replace G1 : Blk wN w.heap.size _ _ := hlt0.trans G1; clear hlt0 hC; have hC := hC2; clear hC2 z0 z1; have z0 := G1.cell_ 0; have z1 := G1.cell_ 1; simp at z0 z1))
    | (go_at_call 56; ((with_reducible refine (page_any _ _ _ _ _ _ _ _ _ _ _ _ k l N RW _ _ hC hk hl hnum HRW.out hfit r1 r2 hN2).mono ?_); rintro e' wN ⟨⟨q, hq, rfl⟩, hb⟩; replace hC := hC.below hb; replace HT := HT.then hb))
    | (go_at_call 57; ((with_reducible refine (bclone_any gx (N * RW) RW q (s.pageOf N RW) _ (by rw [← HPO.out]; exact chip_rd hC hfit) hC.lt.2.1 (by omega) (by omega)).mono ?_); rintro e' wN ⟨⟨g9, c9, rfl, hR9, hg9⟩, hb⟩; replace hC := hC.below hb; have HSZ := HT.size; replace HT := HT.then hb)))
  go_ret2
  exact ⟨⟨g9, c9, rfl, hR9, by omega⟩, hC, HT⟩
end Go.Proofs.Ytplniojeaodjiaa
