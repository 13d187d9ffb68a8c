/- Program where there is no such place; out of order. -/
import Derived.Test.YtplniojeaodjiaaChQ
namespace Go.Proofs.Ytplniojeaodjiaa
open Go.ChangeShapes Go.WideShapes Go.ChangeAt Go.RowKit
set_option linter.unusedSimpArgs false
set_option linter.unusedVariables false

theorem prog_arg (m gx gb : Nat) (Af : Option Addr) (nf cf : Nat) (a b c d e : Int) (fs : List Flt) (x y : Int) (A : Option Addr) (nb cA : Nat) (w : World) (s : ChS) (hC : ChipW w m gx gb Af nf cf a b c d e fs s) (ho : s.on = true) (ht : Hid (thereB a b x y = false)) : Calls Try.prog 17 #[.pointer (some ⟨m, 0, none⟩), .agg #[.int .i64 x, .int .i64 y], .slice A nb cA] w fun e' w' => e' = .returned (.int .i64 2) ∧ Below w.heap.size w w' := by
  have HB0 : Below w.heap.size w (w.alloc (.cells #[.int .i64 x, .int .i64 y] 33)) := (Below.refl _ _).alloc (Nat.le_refl _) _
  have G1 : Blk (w.alloc (.cells #[.int .i64 x, .int .i64 y] 33)) w.heap.size 33 #[.int .i64 x, .int .i64 y] := Blk.new_ _ _ _
  have z0 : (w.alloc (.cells #[.int .i64 x, .int .i64 y] 33)).cell? ⟨w.heap.size, 0, none⟩ = some (.int .i64 x) := G1.cell_ 0
  have z1 : (w.alloc (.cells #[.int .i64 x, .int .i64 y] 33)).cell? ⟨w.heap.size, 1, none⟩ = some (.int .i64 y) := G1.cell_ 1
  have hC := hC.below HB0
  have y10 := cell10 hC
  rw [ho] at y10
  clear ho
  go_enter Try.func17, Try.ntmps17
  go_wp2_with (go_at_call 53; ((with_reducible refine (hasPage_b _ _ _ _ _ _ _ _ _ _ _ _ _ _ _ _ _ hC ht).mono ?_); rintro e' wN ⟨rfl, hb⟩; replace HB0 := btr HB0 HB0.size hb))
  go_ret
  exact ⟨rfl, HB0⟩
theorem prog_arg_go (m gx gb : Nat) (a b c d e : Int) (x y : Int) (A : Option Addr) (nb cA : Nat) (n : Int) (w : World) (s : ChS) (hC : ChipW w m gx gb none 0 0 a b c d e [] s) (hs : Stand s n) (ht : Hid (thereB a b x y = false)) :
    Calls Try.prog 17 #[.pointer (some ⟨m, 0, none⟩), .agg #[.int .i64 x, .int .i64 y], .slice A nb cA] w fun e' w' => e' = .returned (.int .i64 2) ∧ Below w.heap.size w w' :=
  prog_arg m gx gb none 0 0 a b c d e [] x y A nb cA w s hC hs.on ht
theorem prog_order_go (m gx gb : Nat) (a b c d e : Int) (k l RW gA : Nat) (n : Int) (bs : List Nat) (w : World) (s : ChS) (hC : ChipW w m gx gb none 0 0 a b c d e [] s) (hs : Stand s n) (hn : n ≤ 1000000000) (hk : (k : Int) < a) (hl : (l : Int) < b) (HRW : Hid ((RW : Int) = c + 16)) (hz : s.k (k : Int) 0 ≠ (l : Int)) (hR : RowT w gA 5 (bs.map byteV)) (hgn : ¬ chB m gx gb gA) (hbl : bs.length = RW) :
    Calls Try.prog 17 #[.pointer (some ⟨m, 0, none⟩), .agg #[.int .i64 (k : Int), .int .i64 (l : Int)], .slice (some ⟨gA, 0, none⟩) RW RW] w fun e' w' => e' = .returned (.int .i64 11) ∧ ChipW w' m gx gb none 0 0 a b c d e [] { s with ops := s.ops + 1 } ∧ Stand { s with ops := s.ops + 1 } (n + 1) ∧ Tch (chB m gx gb) w w' := by
  obtain ⟨N, RW', hnum, hrw, hfit, r1, r2, hN2, hNN⟩ := page_ok hC hk hl
  obtain rfl : RW' = RW := by have := HRW.out; omega
  refine (prog_err m gx gb none 0 0 a b c d e [] k l N RW' n bs gA 0 RW' w s hC hs.bnd hn hs.on hk hl (Lib.hid hnum) HRW (Lib.hid hfit) r1 r2 hN2 (row_read hR) hR.lt hgn hbl (Lib.hid (unarmed hs.armed)) 11 (wrong_order hz) (by omega)).mono ?_
  rintro e' w' ⟨rfl, hC', hT⟩
  have hb := tick_bnd hs.bnd
  rw [tick_nc (unarmed hs.armed)] at hC' hb
  exact ⟨rfl, hC', ⟨hs.on, hs.armed, hb⟩, hT⟩
theorem bytesN (n RW : Nat) (w : World) (hn : n < 256) (h1 : 1 ≤ RW) (h2 : RW ≤ 200) : Calls Try.prog 18 #[.int .u8 (n : Int), .int .i64 (RW : Int)] w fun e' w' => (∃ g, e' = .returned (.slice (some ⟨g, 0, none⟩) RW RW) ∧ RowT w' g 5 ((bytesL n RW).map byteV) ∧ w.heap.size ≤ g) ∧ Below w.heap.size w w' :=
  bytes_any n RW w hn h2 h1
theorem putX_page {X bs : List Nat} {N RW l : Nat} (hbl : bs.length = RW) (hf : N * RW + RW ≤ X.length) : ((putX X (N * RW) bs).drop (N * RW)).take RW = bs := by
  apply List.ext_getElem?
  intro j
  rw [List.getElem?_take]
  by_cases hj : j < RW
  · rw [if_pos hj, List.getElem?_drop, putX_get (by rw [hbl]; exact hf), if_neg (by omega), if_pos (by omega)]
    congr 1
    omega
  · rw [if_neg hj, List.getElem?_eq_none (by omega)]
theorem putX_page_other {X bs : List Nat} {N N' RW : Nat} (hbl : bs.length = RW) (hf : N * RW + RW ≤ X.length) (hne : N ≠ N') : ((putX X (N * RW) bs).drop (N' * RW)).take RW = (X.drop (N' * RW)).take RW := by
  apply List.ext_getElem?
  intro j
  rw [List.getElem?_take, List.getElem?_take]
  by_cases hj : j < RW
  · rw [if_pos hj, if_pos hj, List.getElem?_drop, List.getElem?_drop, putX_get (by rw [hbl]; exact hf), hbl]
    rcases Nat.lt_or_gt_of_ne hne with h | h
    · have h1 : (N + 1) * RW ≤ N' * RW := Nat.mul_le_mul_right RW h
      rw [Nat.succ_mul] at h1
      rw [if_neg (by omega), if_neg (by omega)]
    · have h1 : (N' + 1) * RW ≤ N * RW := Nat.mul_le_mul_right RW h
      rw [Nat.succ_mul] at h1
      rw [if_pos (by omega)]
  · rw [if_neg hj, if_neg hj]
end Go.Proofs.Ytplniojeaodjiaa
