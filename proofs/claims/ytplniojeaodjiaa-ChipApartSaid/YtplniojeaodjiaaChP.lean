/- Plain facts on a chip's states. -/
import Derived.Test.YtplniojeaodjiaaChN
namespace Go.Proofs.Ytplniojeaodjiaa
open Go.ChangeShapes Go.WideShapes Go.ChangeAt Go.RowKit
set_option linter.unusedSimpArgs false
set_option linter.unusedVariables false

theorem tick_nc {s : ChS} (h : s.cutB = false) : s.tick = { s with ops := s.ops + 1 } := by simp [ChS.tick, h]
theorem tick_cut {s : ChS} (h : s.cutB = true) : s.tick = { s with ops := s.ops + 1, armed := false, on := false, cuts := s.cuts + 1 } := by simp [ChS.tick, h]
theorem unarmed {s : ChS} (h : s.armed = false) : s.cutB = false := by simp [ChS.cutB, h]
theorem k_set_same {s : ChS} {k j : Nat} (v : Int) (h : k * 3 + j < s.K.length) : ({ s with K := s.K.set (k * 3 + j) v } : ChS).k (k : Int) j = v := by
  unfold ChS.k
  dsimp only
  rw [Int.toNat_natCast, getD_setN, if_pos ⟨by omega, h⟩]
theorem k_set_other {s : ChS} {k j i : Nat} (v : Int) (l : Nat) (h : i ≠ 3 * l + j) : ({ s with K := s.K.set i v } : ChS).k (l : Int) j = s.k (l : Int) j := by
  unfold ChS.k
  dsimp only
  rw [Int.toNat_natCast, getD_setN, if_neg (fun e => h e.1)]
theorem bnd_set {s : ChS} {n : Int} (h : s.Bnd n) (i : Nat) (v : Int) (h0 : 0 ≤ v) (h1 : v ≤ n) : ({ s with K := s.K.set i v } : ChS).Bnd n := by
  obtain ⟨o0, o1, c0, c1, k0, k1⟩ := h
  refine ⟨o0, o1, c0, c1, fun j => ?_, fun j => ?_⟩
  · dsimp only
    rw [getD_setN]
    split
    · exact h0
    · exact k0 j
  · dsimp only
    rw [getD_setN]
    split
    · exact h1
    · exact k1 j
theorem bnd_mono {s : ChS} {n n' : Int} (h : s.Bnd n) (hn : n ≤ n') : s.Bnd n' := by
  obtain ⟨o0, o1, c0, c1, k0, k1⟩ := h
  exact ⟨o0, by omega, c0, by omega, k0, fun j => by have := k1 j; omega⟩
theorem bnd_X {s : ChS} {n : Int} (h : s.Bnd n) (X : List Nat) : ({ s with X := X } : ChS).Bnd n := by
  obtain ⟨o0, o1, c0, c1, k0, k1⟩ := h
  exact ⟨o0, o1, c0, c1, k0, k1⟩
theorem k_le {s : ChS} {n : Int} (h : s.Bnd n) (B : Int) (j : Nat) : 0 ≤ s.k B j ∧ s.k B j ≤ n := ⟨h.k0 _, h.k1 _⟩
theorem inc_bnd {s : ChS} {n : Int} (h : s.Bnd n) (k j : Nat) : (s.inc k j).Bnd (n + 1) := by
  have := k_le h (k : Int) j
  exact bnd_set (bnd_mono h (by omega)) _ _ (by omega) (by omega)
theorem prog_bnd {s : ChS} {n : Int} (h : s.Bnd n) (k N RW : Nat) (bs : List Nat) : (s.prog k N RW bs).Bnd (n + 3) := by
  have h1 := inc_bnd (inc_bnd (bnd_X (tick_bnd h) (putX s.X (N * RW) bs)) k 0) k 2
  exact bnd_mono h1 (by omega)
theorem inc_k {s : ChS} {k j : Nat} (h : k * 3 + j < s.K.length) : (s.inc k j).k (k : Int) j = s.k (k : Int) j + 1 := k_set_same _ h
theorem inc_ko {s : ChS} {k j : Nat} (i l : Nat) (h : k * 3 + j ≠ 3 * l + i) : (s.inc k j).k (l : Int) i = s.k (l : Int) i := k_set_other (k := 0) _ l h
theorem inc_len (s : ChS) (k j : Nat) : (s.inc k j).K.length = s.K.length := by simp [ChS.inc]
theorem prog_k0 {s : ChS} {k : Nat} (N RW : Nat) (bs : List Nat) (h : k * 3 + 3 ≤ s.K.length) : (s.prog k N RW bs).k (k : Int) 0 = s.k (k : Int) 0 + 1 := by
  unfold ChS.prog
  rw [inc_ko 0 k (by omega), inc_k (by dsimp only; rw [tick_K]; omega)]
  unfold ChS.k
  dsimp only
  rw [tick_K]
theorem prog_k1 {s : ChS} {k : Nat} (N RW : Nat) (bs : List Nat) : (s.prog k N RW bs).k (k : Int) 1 = s.k (k : Int) 1 := by
  unfold ChS.prog
  rw [inc_ko 1 k (by omega), inc_ko 1 k (by omega)]
  unfold ChS.k
  dsimp only
  rw [tick_K]
theorem prog_k2 {s : ChS} {k : Nat} (N RW : Nat) (bs : List Nat) (h : k * 3 + 3 ≤ s.K.length) : (s.prog k N RW bs).k (k : Int) 2 = s.k (k : Int) 2 + 1 := by
  unfold ChS.prog
  rw [inc_k (by rw [inc_len]; dsimp only; rw [tick_K]; omega), inc_ko 2 k (by omega)]
  unfold ChS.k
  dsimp only
  rw [tick_K]
theorem prog_kl {s : ChS} {k : Nat} (N RW : Nat) (bs : List Nat) (l j : Nat) (hl : l ≠ k) (hj : j < 3) : (s.prog k N RW bs).k (l : Int) j = s.k (l : Int) j := by
  unfold ChS.prog
  rw [inc_ko j l (by omega), inc_ko j l (by omega)]
  unfold ChS.k
  dsimp only
  rw [tick_K]
theorem prog_on {s : ChS} (k N RW : Nat) (bs : List Nat) : (s.prog k N RW bs).on = s.tick.on ∧ (s.prog k N RW bs).armed = s.tick.armed ∧ (s.prog k N RW bs).turn = s.tick.turn ∧ (s.prog k N RW bs).ops = s.ops + 1 ∧ (s.prog k N RW bs).cuts = s.tick.cuts ∧ (s.prog k N RW bs).X = putX s.X (N * RW) bs ∧ (s.prog k N RW bs).K.length = s.K.length := by
  refine ⟨rfl, rfl, rfl, ?_, rfl, rfl, ?_⟩
  · show s.tick.ops = s.ops + 1
    unfold ChS.tick
    split <;> rfl
  · show ((s.tick.K.set _ _).set _ _).length = _
    rw [List.length_set, List.length_set, tick_K]
theorem failed_none (a : Int) (s : ChS) (B : Int) : failedB a [] s B = false := by
  unfold failedB failsB
  simp
theorem wrong_next {a : Int} {s : ChS} {k l : Nat} (h : s.k (k : Int) 0 = (l : Int)) : s.wrong a [] k l = 0 := by
  unfold ChS.wrong
  rw [failed_none, if_neg (by simp), if_neg (by rw [h]; simp)]
theorem wrong_order {a : Int} {s : ChS} {k l : Nat} (h : s.k (k : Int) 0 ≠ (l : Int)) : s.wrong a [] k l = 11 := by
  unfold ChS.wrong
  rw [failed_none, if_neg (by simp), if_pos (fun e => h e.symm)]
theorem wipe_bnd {s : ChS} {n : Int} (h : s.Bnd n) {b : Int} (hb0 : 0 ≤ b) (hb : b ≤ n + 1) (k SZ f : Nat) : (s.wipe b k SZ f).Bnd (n + 1) := by
  have h1 := k_le h (k : Int) 1
  have h2 := k_le h (k : Int) 2
  unfold ChS.wipe
  have g0 := bnd_set (bnd_X (bnd_mono h (n' := n + 1) (by omega)) (putX s.X (k * SZ) (List.replicate SZ f))) (k * 3) (if f = 255 then 0 else b) (by split <;> omega) (by split <;> omega)
  have g1 := bnd_set g0 (k * 3 + 1) (s.k (k : Int) 1 + 1) (by omega) (by omega)
  exact bnd_set g1 (k * 3 + 2) (s.k (k : Int) 2 + 1) (by omega) (by omega)
theorem wipe_k0 {s : ChS} {b : Int} {k SZ f : Nat} (h : k * 3 + 3 ≤ s.K.length) : (s.wipe b k SZ f).k (k : Int) 0 = if f = 255 then 0 else b := by
  unfold ChS.wipe ChS.k
  dsimp only
  rw [Int.toNat_natCast, getD_setN, if_neg (by omega), getD_setN, if_neg (by omega), getD_setN, if_pos ⟨by omega, by omega⟩]
theorem wipe_k1 {s : ChS} {b : Int} {k SZ f : Nat} (h : k * 3 + 3 ≤ s.K.length) : (s.wipe b k SZ f).k (k : Int) 1 = s.k (k : Int) 1 + 1 := by
  unfold ChS.wipe ChS.k
  dsimp only
  rw [Int.toNat_natCast, getD_setN, if_neg (by omega), getD_setN, if_pos ⟨by omega, by simp; omega⟩]
theorem wipe_page {s : ChS} {b : Int} {k SZ f l RW N : Nat} (hfit : k * SZ + SZ ≤ s.X.length) (hN : N * RW = k * SZ + l * RW) (hl : l * RW + RW ≤ SZ) : (s.wipe b k SZ f).pageOf N RW = List.replicate RW f := by
  unfold ChS.pageOf ChS.wipe
  dsimp only
  apply List.ext_getElem?
  intro j
  rw [List.getElem?_take, List.getElem?_replicate]
  by_cases hj : j < RW
  · rw [if_pos hj, if_pos hj, List.getElem?_drop, putX_get (by simp; omega), if_neg (by omega), if_pos (by simp; omega), List.getElem?_replicate, if_pos (by omega)]
  · rw [if_neg hj, if_neg hj]
end Go.Proofs.Ytplniojeaodjiaa
