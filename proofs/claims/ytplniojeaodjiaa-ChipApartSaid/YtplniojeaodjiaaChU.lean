/- What more the laws ask of a chip without faults. -/
import Derived.Test.YtplniojeaodjiaaChT
import Derived.Test.YtplniojeaodjiaaGeomR6
namespace Go.Proofs.Ytplniojeaodjiaa
open Go.ChangeShapes Go.WideShapes Go.ChangeAt Go.RowKit
set_option linter.unusedSimpArgs false
set_option linter.unusedVariables false

theorem wipe_kl {s : ChS} {b : Int} {k SZ f : Nat} (l j : Nat) (hl : l ≠ k) (hj : j < 3) : (s.wipe b k SZ f).k (l : Int) j = s.k (l : Int) j := by
  unfold ChS.wipe ChS.k
  dsimp only
  rw [Int.toNat_natCast, getD_setN, if_neg (by omega), getD_setN, if_neg (by omega), getD_setN, if_neg (by omega)]
theorem wipe_page_other {s : ChS} {b : Int} {k SZ f N RW : Nat} (hfit : k * SZ + SZ ≤ s.X.length) (hN : N * RW + RW ≤ k * SZ ∨ k * SZ + SZ ≤ N * RW) : (s.wipe b k SZ f).pageOf N RW = s.pageOf N RW := by
  unfold ChS.pageOf ChS.wipe
  dsimp only
  apply List.ext_getElem?
  intro j
  rw [List.getElem?_take, List.getElem?_take]
  by_cases hj : j < RW
  · rw [if_pos hj, if_pos hj, List.getElem?_drop, List.getElem?_drop, putX_get (by simp; omega), List.length_replicate]
    rcases hN with hN | hN
    · rw [if_pos (by omega)]
    · rw [if_neg (by omega), if_neg (by omega)]
  · rw [if_neg hj, if_neg hj]
/-- Where page l of block j stands, against block k. -/
theorem page_block {a b c : Int} {k j l N RW SZ : Nat} (hrw : (RW : Int) = c + 16) (hsz : (SZ : Int) = b * (c + 16)) (hl : (l : Int) < b) (hN : (N : Int) = (j : Int) * b + (l : Int)) :
    N * RW = j * SZ + l * RW ∧ l * RW + RW ≤ SZ ∧ (j ≠ k → N * RW + RW ≤ k * SZ ∨ k * SZ + SZ ≤ N * RW) := by
  have e1 : (N : Int) * (RW : Int) = (j : Int) * (SZ : Int) + (l : Int) * (RW : Int) := by
    rw [hN, Int.add_mul, hsz, ← hrw, Int.mul_assoc]
  have e2 : ((l : Int) + 1) * (RW : Int) ≤ b * (RW : Int) := Int.mul_le_mul_of_nonneg_right (by omega) (by omega)
  rw [Int.add_mul, Int.one_mul] at e2
  have e3 : ((N * RW : Nat) : Int) = ((j * SZ + l * RW : Nat) : Int) := by push_cast; exact e1
  have e4 : ((l * RW + RW : Nat) : Int) ≤ (SZ : Int) := by push_cast; rw [hsz, ← hrw]; exact e2
  have f1 : N * RW = j * SZ + l * RW := by omega
  have f2 : l * RW + RW ≤ SZ := by omega
  refine ⟨f1, f2, fun hne => ?_⟩
  rcases Nat.lt_or_gt_of_ne hne with h | h
  · have h1 : (j + 1) * SZ ≤ k * SZ := Nat.mul_le_mul_right SZ h
    rw [Nat.succ_mul] at h1
    omega
  · have h1 : (k + 1) * SZ ≤ j * SZ := Nat.mul_le_mul_right SZ h
    rw [Nat.succ_mul] at h1
    omega
theorem prog_next_go (m gx gb : Nat) (a b c d e : Int) (k i RW gA : Nat) (bs : List Nat) (n : Int) (w : World) (s : ChS) (hC : ChipW w m gx gb none 0 0 a b c d e [] s) (hs : Stand s n) (hn : n ≤ 900000000) (hk : (k : Int) < a) (hl : (i : Int) < b) (HRW : Hid ((RW : Int) = c + 16)) (hz : s.k (k : Int) 0 = (i : Int)) (hR : RowT w gA 5 (bs.map byteV)) (hgn : ¬ chB m gx gb gA) (hbl : bs.length = RW) :
    Calls Try.prog 17 #[.pointer (some ⟨m, 0, none⟩), .agg #[.int .i64 (k : Int), .int .i64 ((i : Int) + 1)], .slice (some ⟨gA, 0, none⟩) RW RW] w fun e' w' => (∃ z, e' = .returned (.int .i64 z) ∧ Hid (z ≠ 0)) ∧ (∃ S, ChipW w' m gx gb none 0 0 a b c d e [] S ∧ Stand S (n + 1) ∧ (∀ B j, S.k B j = s.k B j) ∧ S.X = s.X) ∧ Tch (chB m gx gb) w w' := by
  by_cases hl' : (i : Int) + 1 < b
  · have q := prog_order_go m gx gb a b c d e k (i + 1) RW gA n bs w s hC hs (by omega) hk (by omega) HRW (by rw [hz]; omega) hR hgn hbl
    rw [show ((i + 1 : Nat) : Int) = (i : Int) + 1 by omega] at q
    refine q.mono ?_
    rintro e' w' ⟨rfl, hC', hS', hT⟩
    exact ⟨⟨11, rfl, Lib.hid (by decide)⟩, ⟨_, hC', hS', fun _ _ => rfl, rfl⟩, hT⟩
  · refine (prog_arg_go m gx gb a b c d e (k : Int) ((i : Int) + 1) (some ⟨gA, 0, none⟩) RW RW n w s hC hs (Lib.hid (by unfold thereB withinB; rw [show decide ((i : Int) + 1 ≤ b - 1) = false from decide_eq_false (by omega)]; simp))).mono ?_
    rintro e' w' ⟨rfl, hB⟩
    exact ⟨⟨2, rfl, Lib.hid (by decide)⟩, ⟨s, hC.below hB, ⟨hs.on, hs.armed, bnd_mono hs.bnd (by omega)⟩, fun _ _ => rfl, rfl⟩, (Tch.refl _).then hB⟩
theorem erase_goX (m gx gb : Nat) (a b c d e : Int) (k : Nat) (n : Int) (w : World) (s : ChS) (hC : ChipW w m gx gb none 0 0 a b c d e [] s) (hs : Stand s n) (hn : n ≤ 900000000) (hn0 : 20 ≤ n) (hk : (k : Int) < a) :
    Calls Try.prog 22 #[.pointer (some ⟨m, 0, none⟩), .int .i64 (k : Int)] w fun e' w' => e' = .returned (.int .i64 0) ∧ (∃ S, ChipW w' m gx gb none 0 0 a b c d e [] S ∧ Stand S (n + 3) ∧ S.k (k : Int) 0 = 0 ∧ S.k (k : Int) 1 = s.k (k : Int) 1 + 1 ∧ S.ops = s.ops + 1 ∧ S.cuts = s.cuts ∧ (∀ (j i : Nat), j ≠ k → i < 3 → S.k (j : Int) i = s.k (j : Int) i) ∧ (∀ l RW N : Nat, (RW : Int) = c + 16 → (l : Int) < b → (N : Int) = (k : Int) * b + (l : Int) → S.pageOf N RW = List.replicate RW 255) ∧ (∀ j l RW N : Nat, j ≠ k → (RW : Int) = c + 16 → (l : Int) < b → (N : Int) = (j : Int) * b + (l : Int) → S.pageOf N RW = s.pageOf N RW)) ∧ Tch (chB m gx gb) w w' := by
  obtain ⟨SZ, RW, hrw, hsz, hfit, z1, z2⟩ := blk_ok hC hk
  refine (erase_ok m gx gb none 0 0 a b c d e [] k SZ RW n w s hC hs.bnd (by omega) (by omega) hs.on hk (Lib.hid (unarmed hs.armed)) (failed_none _ _ _) (Lib.hid hrw) hsz hfit z1 z2).mono ?_
  rintro e' w' ⟨rfl, hC', hT⟩
  have ht := tick_nc (unarmed hs.armed)
  obtain ⟨g1, g2, g3, g4, -⟩ := may_bd (planMay_bd hC.may).1
  have hkl : k * 3 + 3 ≤ s.tick.K.length := by rw [tick_K]; exact klen hC hk
  refine ⟨rfl, ⟨_, hC', ⟨?_, ?_, bnd_mono (wipe_bnd (tick_bnd hs.bnd) (by omega) (by omega) k SZ 255) (by omega)⟩, ?_, ?_, ?_, ?_, fun j i hj hi => ?_, fun l RW' N h1 h2 h3 => ?_, fun j l RW' N hj h1 h2 h3 => ?_⟩, hT⟩
  · show s.tick.on = true
    rw [ht]
    exact hs.on
  · show s.tick.armed = false
    rw [ht]
    exact hs.armed
  · rw [wipe_k0 hkl]
    rfl
  · rw [wipe_k1 hkl]
    unfold ChS.k
    rw [tick_K]
  · show s.tick.ops = _
    rw [ht]
  · show s.tick.cuts = _
    rw [ht]
  · rw [wipe_kl j i hj hi]
    unfold ChS.k
    rw [tick_K]
  · obtain rfl : RW' = RW := by omega
    obtain ⟨f1, f2, -⟩ := page_block (a := a) (k := k) hrw hsz h2 h3
    exact wipe_page (by rw [tick_X]; exact hfit) f1 f2 (l := l)
  · obtain rfl : RW' = RW := by omega
    obtain ⟨f1, f2, f3⟩ := page_block (a := a) (k := k) hrw hsz h2 h3
    rw [wipe_page_other (by rw [tick_X]; exact hfit) (f3 hj)]
    unfold ChS.pageOf
    rw [tick_X]
theorem bytesZ (z : Int) (n RW : Nat) (w : World) (hz : z = (n : Int)) (hn : n < 256) (h1 : 1 ≤ RW) (h2 : RW ≤ 200) : Calls Try.prog 18 #[.int .u8 z, .int .i64 (RW : Int)] w fun e' w' => (∃ g, e' = .returned (.slice (some ⟨g, 0, none⟩) RW RW) ∧ RowT w' g 5 ((bytesL n RW).map byteV) ∧ w.heap.size ≤ g) ∧ Below w.heap.size w w' := by
  subst hz
  exact bytes_any n RW w hn h2 h1
theorem read_at0 (m gx gb : Nat) (a b c d e : Int) (k N RW : Nat) (n : Int) (w : World) (s : ChS) (hC : ChipW w m gx gb none 0 0 a b c d e [] s) (hs : Stand s n) (hn : n ≤ 900000000) (hk : (k : Int) < a) (hl : (0 : Int) < b) (HRW : Hid ((RW : Int) = c + 16)) (hN : (N : Int) = (k : Int) * b) :
    Calls Try.prog 19 #[.pointer (some ⟨m, 0, none⟩), .agg #[.int .i64 (k : Int), .int .i64 0]] w fun e' w' => (∃ g' c', e' = .returned (.tuple #[.slice (some ⟨g', 0, none⟩) RW c', .int .i64 0]) ∧ RowT w' g' 5 ((s.pageOf N RW).map byteV) ∧ w.heap.size ≤ g') ∧ ChipW w' m gx gb none 0 0 a b c d e [] { s with ops := s.ops + 1 } ∧ Stand { s with ops := s.ops + 1 } (n + 1) ∧ Tch (chB m gx gb) w w' :=
  read_go m gx gb a b c d e k 0 N RW n w s hC hs hn hk hl HRW (by rw [hN]; simp)
theorem prog_at0 (m gx gb : Nat) (a b c d e : Int) (k RW gA : Nat) (bs : List Nat) (n : Int) (w : World) (s : ChS) (hC : ChipW w m gx gb none 0 0 a b c d e [] s) (hs : Stand s n) (hn : n ≤ 900000000) (hk : (k : Int) < a) (hl : (0 : Int) < b) (HRW : Hid ((RW : Int) = c + 16)) (hz : s.k (k : Int) 0 = 0) (hR : RowT w gA 5 (bs.map byteV)) (hgn : ¬ chB m gx gb gA) (hbl : bs.length = RW) :
    Calls Try.prog 17 #[.pointer (some ⟨m, 0, none⟩), .agg #[.int .i64 (k : Int), .int .i64 0], .slice (some ⟨gA, 0, none⟩) RW RW] w fun e' w' => e' = .returned (.int .i64 0) ∧ (∃ S, ChipW w' m gx gb none 0 0 a b c d e [] S ∧ Stand S (n + 3) ∧ S.k (k : Int) 0 = 1 ∧ S.k (k : Int) 1 = s.k (k : Int) 1) ∧ Tch (chB m gx gb) w w' := by
  refine (prog_go m gx gb a b c d e k 0 RW gA n bs w s hC hs (by omega) hk hl HRW hz hR hgn hbl).mono ?_
  rintro e' w' ⟨rfl, ⟨S, h1, h2, h3, h4⟩, hT⟩
  exact ⟨rfl, ⟨S, h1, h2, by rw [h3]; rfl, h4⟩, hT⟩
theorem used_go (m gx gb : Nat) (a b c d e : Int) (k : Nat) (z : Int) (w : World) (s : ChS) (hC : ChipW w m gx gb none 0 0 a b c d e [] s) (hk : (k : Int) < a) (hz : s.k (k : Int) 0 = z) : Calls Try.prog 21 #[.pointer (some ⟨m, 0, none⟩), .int .i64 (k : Int)] w fun e' w' => e' = .returned (.int .i64 z) ∧ w = w' := by
  have := used_any m gx gb none 0 0 a b c d e [] (k : Int) w s hC
  rwa [show s.ask a (k : Int) 0 = z by unfold ChS.ask; rw [inB_yes (by omega) hk]; exact hz] at this
theorem wear_go (m gx gb : Nat) (a b c d e : Int) (k : Nat) (z : Int) (w : World) (s : ChS) (hC : ChipW w m gx gb none 0 0 a b c d e [] s) (hk : (k : Int) < a) (hz : s.k (k : Int) 1 = z) : Calls Try.prog 23 #[.pointer (some ⟨m, 0, none⟩), .int .i64 (k : Int)] w fun e' w' => e' = .returned (.int .i64 z) ∧ w = w' := by
  have := wear_any m gx gb none 0 0 a b c d e [] (k : Int) w s hC
  rwa [show s.ask a (k : Int) 1 = z by unfold ChS.ask; rw [inB_yes (by omega) hk]; exact hz] at this
theorem rmay_b (a b c d e : Int) (M : Bool) (w : World) (hm : Hid (mayB a b c d e = M)) :
    Calls Try.prog 15 #[.agg #[.int .i64 a, .int .i64 b, .int .i64 c, .int .i64 d, .int .i64 e]] w fun e' w' => e' = .returned (.bool M) ∧ Below w.heap.size w w' := by
  have q := rmay_any a b c d e w
  rwa [hm.out] at q
end Go.Proofs.Ytplniojeaodjiaa
