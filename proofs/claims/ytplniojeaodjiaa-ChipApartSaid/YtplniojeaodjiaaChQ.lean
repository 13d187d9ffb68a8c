/- Calls of a chip without faults, by what a law wants. -/
import Derived.Test.YtplniojeaodjiaaChP
import Derived.Test.YtplniojeaodjiaaChAw
import Derived.Test.YtplniojeaodjiaaLow
namespace Go.Proofs.Ytplniojeaodjiaa
open Go.ChangeShapes Go.WideShapes Go.ChangeAt Go.RowKit
set_option linter.unusedSimpArgs false
set_option linter.unusedVariables false

/-- A chip that stands: power, no cut waits, all its numbers from 0 to n. -/
structure Stand (s : ChS) (n : Int) : Prop where
  on : s.on = true
  armed : s.armed = false
  bnd : s.Bnd n
theorem klen {w : World} {m gx gb : Nat} {a b c d e : Int} {s : ChS} (hC : ChipW w m gx gb none 0 0 a b c d e [] s) {k : Nat} (hk : (k : Int) < a) : k * 3 + 3 ≤ s.K.length := by
  have := hC.lenK
  omega
theorem prog_go (m gx gb : Nat) (a b c d e : Int) (k l RW gA : Nat) (n : Int) (bs : List Nat) (w : World) (s : ChS) (hC : ChipW w m gx gb none 0 0 a b c d e [] s) (hs : Stand s n) (hn : n ≤ 1000000000) (hk : (k : Int) < a) (hl : (l : Int) < b) (HRW : Hid ((RW : Int) = c + 16)) (hz : s.k (k : Int) 0 = (l : Int)) (hR : RowT w gA 5 (bs.map byteV)) (hgn : ¬ chB m gx gb gA) (hbl : bs.length = RW) :
    Calls Try.prog 17 #[.pointer (some ⟨m, 0, none⟩), .agg #[.int .i64 (k : Int), .int .i64 (l : Int)], .slice (some ⟨gA, 0, none⟩) RW RW] w fun e' w' => e' = .returned (.int .i64 0) ∧ (∃ S, ChipW w' m gx gb none 0 0 a b c d e [] S ∧ Stand S (n + 3) ∧ S.k (k : Int) 0 = (l : Int) + 1 ∧ S.k (k : Int) 1 = s.k (k : Int) 1) ∧ Tch (chB m gx gb) w w' := by
  obtain ⟨N, RW', hnum, hrw, hfit, r1, r2, hN2, hNN⟩ := page_ok hC hk hl
  obtain rfl : RW' = RW := by have := HRW.out; omega
  refine (prog_ok m gx gb none 0 0 a b c d e [] k l N RW' n bs gA 0 RW' w s hC hs.bnd hn hs.on hk hl (Lib.hid hnum) HRW (Lib.hid hfit) r1 r2 hN2 (row_read hR) hR.lt hgn hbl (Lib.hid (unarmed hs.armed)) (wrong_next hz)).mono ?_
  rintro e' w' ⟨rfl, hC', hT⟩
  have hp := prog_on (s := s) k N RW' bs
  have ht := tick_nc (unarmed hs.armed)
  refine ⟨rfl, ⟨_, hC', ⟨?_, ?_, prog_bnd hs.bnd k N RW' bs⟩, ?_, prog_k1 N RW' bs⟩, hT⟩
  · rw [hp.1, ht]
    exact hs.on
  · rw [hp.2.1, ht]
    exact hs.armed
  · rw [prog_k0 N RW' bs (klen hC hk), hz]
theorem bytes9 (RW : Nat) (w : World) (h1 : 1 ≤ RW) (h2 : RW ≤ 200) : Calls Try.prog 18 #[.int .u8 9, .int .i64 (RW : Int)] w fun e' w' => (∃ g, e' = .returned (.slice (some ⟨g, 0, none⟩) RW RW) ∧ RowT w' g 5 ((bytesL 9 RW).map byteV) ∧ w.heap.size ≤ g) ∧ Below w.heap.size w w' :=
  bytes_any 9 RW w (by omega) h2 h1
theorem erase_go (m gx gb : Nat) (a b c d e : Int) (k : Nat) (n : Int) (w : World) (s : ChS) (hC : ChipW w m gx gb none 0 0 a b c d e [] s) (hs : Stand s n) (hn : n ≤ 900000000) (hn0 : 20 ≤ n) (hk : (k : Int) < a) :
    Calls Try.prog 22 #[.pointer (some ⟨m, 0, none⟩), .int .i64 (k : Int)] w fun e' w' => e' = .returned (.int .i64 0) ∧ (∃ S, ChipW w' m gx gb none 0 0 a b c d e [] S ∧ Stand S (n + 3) ∧ S.k (k : Int) 0 = 0 ∧ S.k (k : Int) 1 = s.k (k : Int) 1 + 1) ∧ Tch (chB m gx gb) w w' := by
  obtain ⟨SZ, RW, hrw, hsz, hfit, z1, z2⟩ := blk_ok hC hk
  refine (erase_ok m gx gb none 0 0 a b c d e [] k SZ RW n w s hC hs.bnd (by omega) (by omega) hs.on hk (Lib.hid (unarmed hs.armed)) (failed_none _ _ _) (Lib.hid hrw) hsz hfit z1 z2).mono ?_
  rintro e' w' ⟨rfl, hC', hT⟩
  have ht := tick_nc (unarmed hs.armed)
  obtain ⟨g1, g2, g3, g4, -⟩ := may_bd (planMay_bd hC.may).1
  have hkl : k * 3 + 3 ≤ s.tick.K.length := by rw [tick_K]; exact klen hC hk
  refine ⟨rfl, ⟨_, hC', ⟨?_, ?_, bnd_mono (wipe_bnd (tick_bnd hs.bnd) (by omega) (by omega) k SZ 255) (by omega)⟩, ?_, ?_⟩, hT⟩
  · show s.tick.on = true
    rw [ht]
    exact hs.on
  · show s.tick.armed = false
    rw [ht]
    exact hs.armed
  · rw [wipe_k0 hkl]
    rfl
  · rw [wipe_k1 hkl]
    unfold ChS.k
    rw [tick_K]
theorem read_go (m gx gb : Nat) (a b c d e : Int) (k l N RW : Nat) (n : Int) (w : World) (s : ChS) (hC : ChipW w m gx gb none 0 0 a b c d e [] s) (hs : Stand s n) (hn : n ≤ 900000000) (hk : (k : Int) < a) (hl : (l : Int) < b) (HRW : Hid ((RW : Int) = c + 16)) (hN : (N : Int) = (k : Int) * b + (l : Int)) :
    Calls Try.prog 19 #[.pointer (some ⟨m, 0, none⟩), .agg #[.int .i64 (k : Int), .int .i64 (l : Int)]] w fun e' w' => (∃ g' c', e' = .returned (.tuple #[.slice (some ⟨g', 0, none⟩) RW c', .int .i64 0]) ∧ RowT w' g' 5 ((s.pageOf N RW).map byteV) ∧ w.heap.size ≤ g') ∧ ChipW w' m gx gb none 0 0 a b c d e [] { s with ops := s.ops + 1 } ∧ Stand { s with ops := s.ops + 1 } (n + 1) ∧ Tch (chB m gx gb) w w' := by
  obtain ⟨N', RW', hnum, hrw, hfit, r1, r2, hN2, hNN⟩ := page_ok hC hk hl
  obtain rfl : RW' = RW := by have := HRW.out; omega
  obtain rfl : N' = N := by omega
  refine (read_ok m gx gb none 0 0 a b c d e [] k l N' RW' n w s hC hs.bnd (by omega) hs.on (Lib.hid (unarmed hs.armed)) hk hl (Lib.hid hnum) hrw hfit r1 r2 hN2).mono ?_
  rintro e' w' ⟨h1, h2, h3⟩
  have ht := tick_nc (unarmed hs.armed)
  have hb := tick_bnd hs.bnd
  rw [ht] at h2 hb
  exact ⟨h1, h2, ⟨hs.on, hs.armed, hb⟩, h3⟩
theorem new_go (a b c d e : Int) (w : World) (HM : Hid (mayB a b c d e = true)) :
    Calls Try.prog 11 #[.agg #[.int .i64 a, .int .i64 b, .int .i64 c, .int .i64 d, .int .i64 e], .slice none 0 0] w fun e' w' => (∃ m gx gb S, e' = .returned (.pointer (some ⟨m, 0, none⟩)) ∧ ChipW w' m gx gb none 0 0 a b c d e [] S ∧ Stand S 0 ∧ (∀ B j, S.k B j = 0) ∧ (∀ i, i < S.X.length → S.X.getD i 0 = 255) ∧ S.ops = 0 ∧ S.cuts = 0 ∧ w.heap.size ≤ m ∧ w.heap.size ≤ gx ∧ w.heap.size ≤ gb) ∧ Below w.heap.size w w' := by
  obtain ⟨g1, g2, g3, g4, g5, g6, -⟩ := may_bd HM.out
  obtain ⟨p1, p2⟩ := mul_bd (x := a) (y := b) (lo := 8) (hi := 20) (l2 := 4) (h2 := 8) g1 g2 g3 g4 (by omega) (by omega)
  obtain ⟨p3, p4⟩ := mul_bd (x := a * b) (y := c + 16) (lo := 32) (hi := 160) (l2 := 40) (h2 := 80) (by omega) (by omega) (by omega) (by omega) (by omega) (by omega)
  obtain ⟨NX, hNX⟩ : ∃ NX : Nat, (NX : Int) = a * b * (c + 16) := ⟨(a * b * (c + 16)).toNat, by omega⟩
  obtain ⟨NB, hNB⟩ : ∃ NB : Nat, (NB : Int) = a := ⟨a.toNat, by omega⟩
  refine (new0_yes a b c d e NX NB w HM hNX hNB (by omega) (by omega) (by omega)).mono ?_
  rintro e' w' ⟨⟨m, gx, gb, rfl, hC, h1, h2, h3⟩, hb⟩
  have hK : ∀ i, (ChS.new NX NB).K.getD i 0 = 0 := by
    intro i
    rw [List.getD_eq_getElem?_getD]
    show ((List.replicate (3 * NB) (0 : Int))[i]?).getD 0 = 0
    rw [List.getElem?_replicate]
    split <;> rfl
  refine ⟨⟨m, gx, gb, _, rfl, hC, ⟨rfl, rfl, ⟨Int.le_refl _, Int.le_refl _, Int.le_refl _, Int.le_refl _, fun i => by rw [hK]; exact Int.le_refl _, fun i => by rw [hK]; exact Int.le_refl _⟩⟩, fun B j => hK _, fun i hi => ?_, rfl, rfl, h1, h2, h3⟩, hb⟩
  have hi' : i < NX := by simpa [ChS.new] using hi
  rw [List.getD_eq_getElem?_getD]
  show ((List.replicate NX 255)[i]?).getD 0 = 255
  rw [List.getElem?_replicate, if_pos hi']
  rfl
end Go.Proofs.Ytplniojeaodjiaa
