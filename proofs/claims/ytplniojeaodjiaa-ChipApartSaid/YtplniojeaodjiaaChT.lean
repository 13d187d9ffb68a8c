/- Program that goes well, and what stands on the pages behind it. -/
import Derived.Test.YtplniojeaodjiaaChS
namespace Go.Proofs.Ytplniojeaodjiaa
open Go.ChangeShapes Go.WideShapes Go.ChangeAt Go.RowKit
set_option linter.unusedSimpArgs false
set_option linter.unusedVariables false

/-- The number of a place of block k is that of no other place. -/
theorem prog_goX (m gx gb : Nat) (a b c d e : Int) (k l N RW gA : Nat) (n : Int) (bs : List Nat) (w : World) (s : ChS) (hC : ChipW w m gx gb none 0 0 a b c d e [] s) (hs : Stand s n) (hn : n ≤ 1000000000) (hk : (k : Int) < a) (hl : (l : Int) < b) (HRW : Hid ((RW : Int) = c + 16)) (hN : (N : Int) = (k : Int) * b + (l : Int)) (hz : s.k (k : Int) 0 = (l : Int)) (hR : RowT w gA 5 (bs.map byteV)) (hgn : ¬ chB m gx gb gA) (hbl : bs.length = RW) :
    Calls Try.prog 17 #[.pointer (some ⟨m, 0, none⟩), .agg #[.int .i64 (k : Int), .int .i64 (l : Int)], .slice (some ⟨gA, 0, none⟩) RW RW] w fun e' w' => e' = .returned (.int .i64 0) ∧ (∃ S, ChipW w' m gx gb none 0 0 a b c d e [] S ∧ Stand S (n + 3) ∧ S.k (k : Int) 0 = (l : Int) + 1 ∧ S.k (k : Int) 1 = s.k (k : Int) 1 ∧ S.ops = s.ops + 1 ∧ S.cuts = s.cuts ∧ (∀ (j i : Nat), j ≠ k → i < 3 → S.k (j : Int) i = s.k (j : Int) i) ∧ S.pageOf N RW = bs ∧ ∀ N', N ≠ N' → S.pageOf N' RW = s.pageOf N' RW) ∧ Tch (chB m gx gb) w w' := by
  obtain ⟨N', RW', hnum, hrw, hfit, r1, r2, hN2, hNN⟩ := page_ok hC hk hl
  obtain rfl : RW' = RW := by have := HRW.out; omega
  obtain rfl : N' = N := by omega
  refine (prog_ok m gx gb none 0 0 a b c d e [] k l N' RW' n bs gA 0 RW' w s hC hs.bnd hn hs.on hk hl (Lib.hid hnum) HRW (Lib.hid hfit) r1 r2 hN2 (row_read hR) hR.lt hgn hbl (Lib.hid (unarmed hs.armed)) (wrong_next hz)).mono ?_
  rintro e' w' ⟨rfl, hC', hT⟩
  have hp := prog_on (s := s) k N' RW' bs
  have ht := tick_nc (unarmed hs.armed)
  refine ⟨rfl, ⟨_, hC', ⟨?_, ?_, prog_bnd hs.bnd k N' RW' bs⟩, ?_, prog_k1 N' RW' bs, hp.2.2.2.1, ?_, fun j i hj hi => prog_kl N' RW' bs j i hj hi, ?_, fun N'' hne => ?_⟩, hT⟩
  · rw [hp.1, ht]
    exact hs.on
  · rw [hp.2.1, ht]
    exact hs.armed
  · rw [prog_k0 N' RW' bs (klen hC hk), hz]
  · rw [hp.2.2.2.2.1, ht]
  · unfold ChS.pageOf
    rw [hp.2.2.2.2.2.1]
    exact putX_page (l := 0) hbl hfit
  · unfold ChS.pageOf
    rw [hp.2.2.2.2.2.1]
    exact putX_page_other hbl hfit hne
theorem page_new {s : ChS} (h : ∀ i, i < s.X.length → s.X.getD i 0 = 255) {N RW : Nat} (hf : N * RW + RW ≤ s.X.length) : s.pageOf N RW = List.replicate RW 255 := by
  unfold ChS.pageOf
  apply List.ext_getElem?
  intro j
  rw [List.getElem?_take, List.getElem?_replicate]
  by_cases hj : j < RW
  · rw [if_pos hj, if_pos hj, List.getElem?_drop]
    have := h (N * RW + j) (by omega)
    rw [List.getD_eq_getElem?_getD, List.getElem?_eq_getElem (by omega)] at this
    rw [List.getElem?_eq_getElem (by omega)]
    exact congrArg some this
  · rw [if_neg hj, if_neg hj]
end Go.Proofs.Ytplniojeaodjiaa
