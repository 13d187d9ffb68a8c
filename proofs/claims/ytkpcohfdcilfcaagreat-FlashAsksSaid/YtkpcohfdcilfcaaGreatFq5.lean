/- Plain facts on a chip's states. -/
import Derived.Test.YtkpcohfdcilfcaaGreatFq4
import Derived.Test.YtkpcohfdcilfcaaGreatFq3
import Derived.Test.YtkpcohfdcilfcaaGreatFq1
import Derived.Deep.RegionHeld3
import Derived.Deep.DrawnRows
import Derived.Deep.DeepCutAuto
import Derived.ScopeJumps
import Derived.WalkMore
set_option linter.unusedSimpArgs false
set_option linter.unusedVariables false
set_option maxRecDepth 100000
set_option maxHeartbeats 16000000
namespace Go.Proofs.YtkpcohfdcilfcaaGreat
open Go.ChangeShapes Go.WideShapes Go.ChangeAt Go.RowKit
theorem tick_nc {s : ChS} (h : s.cutB = false) : s.tick = { s with ops := s.ops + 1 } := by simp [ChS.tick, h]
theorem unarmed {s : ChS} (h : s.armed = false) : s.cutB = false := by simp [ChS.cutB, h]
theorem k_set_other {s : ChS} {k j i : Nat} (v : Int) (l : Nat) (h : i ≠ 3 * l + j) : ({ s with K := s.K.set i v } : ChS).k (l : Int) j = s.k (l : Int) j := by
  unfold ChS.k
  dsimp only
  rw [Int.toNat_natCast, getD_setN, if_neg (fun e => h e.1)]
theorem bnd_set {s : ChS} {n : Int} (h : s.Bnd n) (i : Nat) (v : Int) (h0 : 0 ≤ v) (h1 : v ≤ n) : ({ s with K := s.K.set i v } : ChS).Bnd n := by
  obtain ⟨o0, o1, c0, c1, k0, k1⟩ := h
  refine ⟨o0, o1, c0, c1, fun j => ?_, fun j => ?_⟩
  · dsimp only
    rw [getD_setN]
    split
    · exact h0
    · exact k0 j
  · dsimp only
    rw [getD_setN]
    split
    · exact h1
    · exact k1 j
theorem bnd_mono {s : ChS} {n n' : Int} (h : s.Bnd n) (hn : n ≤ n') : s.Bnd n' := by
  obtain ⟨o0, o1, c0, c1, k0, k1⟩ := h
  exact ⟨o0, by omega, c0, by omega, k0, fun j => by have := k1 j; omega⟩
theorem bnd_X {s : ChS} {n : Int} (h : s.Bnd n) (X : List Nat) : ({ s with X := X } : ChS).Bnd n := by
  obtain ⟨o0, o1, c0, c1, k0, k1⟩ := h
  exact ⟨o0, o1, c0, c1, k0, k1⟩
theorem k_le {s : ChS} {n : Int} (h : s.Bnd n) (B : Int) (j : Nat) : 0 ≤ s.k B j ∧ s.k B j ≤ n := ⟨h.k0 _, h.k1 _⟩
theorem inc_bnd {s : ChS} {n : Int} (h : s.Bnd n) (k j : Nat) : (s.inc k j).Bnd (n + 1) := by
  have := k_le h (k : Int) j
  exact bnd_set (bnd_mono h (by omega)) _ _ (by omega) (by omega)
theorem prog_bnd {s : ChS} {n : Int} (h : s.Bnd n) (k N RW : Nat) (bs : List Nat) : (s.prog k N RW bs).Bnd (n + 3) := by
  have h1 := inc_bnd (inc_bnd (bnd_X (tick_bnd h) (putX s.X (N * RW) bs)) k 0) k 2
  exact bnd_mono h1 (by omega)
theorem inc_ko {s : ChS} {k j : Nat} (i l : Nat) (h : k * 3 + j ≠ 3 * l + i) : (s.inc k j).k (l : Int) i = s.k (l : Int) i := k_set_other (k := 0) _ l h
theorem prog_kl {s : ChS} {k : Nat} (N RW : Nat) (bs : List Nat) (l j : Nat) (hl : l ≠ k) (hj : j < 3) : (s.prog k N RW bs).k (l : Int) j = s.k (l : Int) j := by
  unfold ChS.prog
  rw [inc_ko j l (by omega), inc_ko j l (by omega)]
  unfold ChS.k
  dsimp only
  rw [tick_K]
theorem prog_on {s : ChS} (k N RW : Nat) (bs : List Nat) : (s.prog k N RW bs).on = s.tick.on ∧ (s.prog k N RW bs).armed = s.tick.armed ∧ (s.prog k N RW bs).turn = s.tick.turn ∧ (s.prog k N RW bs).ops = s.ops + 1 ∧ (s.prog k N RW bs).cuts = s.tick.cuts ∧ (s.prog k N RW bs).X = putX s.X (N * RW) bs ∧ (s.prog k N RW bs).K.length = s.K.length := by
  refine ⟨rfl, rfl, rfl, ?_, rfl, rfl, ?_⟩
  · show s.tick.ops = s.ops + 1
    unfold ChS.tick
    split <;> rfl
  · show ((s.tick.K.set _ _).set _ _).length = _
    rw [List.length_set, List.length_set, tick_K]
theorem failed_none (a : Int) (s : ChS) (B : Int) : failedB a [] s B = false := by
  unfold failedB failsB
  simp
theorem wrong_next {a : Int} {s : ChS} {k l : Nat} (h : s.k (k : Int) 0 = (l : Int)) : s.wrong a [] k l = 0 := by
  unfold ChS.wrong
  rw [failed_none, if_neg (by simp), if_neg (by rw [h]; simp)]
end Go.Proofs.YtkpcohfdcilfcaaGreat
namespace Go.Proofs.YtkpcohfdcilfcaaGreat
open Go.ChangeShapes Go.WideShapes Go.ChangeAt Go.RowKit
def bytesL (n : Nat) (Q : Nat) : List Nat := (List.range Q).map fun i => (n + i * 7) % 256
def bytesP (n Q k : Nat) : List Value := (bytesL n k).map byteV ++ List.replicate (Q - k) (byteV 0)
end Go.Proofs.YtkpcohfdcilfcaaGreat
namespace Go.Proofs.YtkpcohfdcilfcaaGreat
open Go.ChangeShapes Go.WideShapes Go.ChangeAt Go.RowKit
def aS1 : ChS := { ChS.new 1536 8 with armed := true, turn := (ChS.new 1536 8).ops + 1, cop := 1, cby := 3, fill := 0 }
def aS2 : ChS := aS1.progCut 0 0 48 ((bytesL 7 48).take 3)
def aS3 : ChS := aS2.boot
theorem hm8 : Hid (mayB 8 4 32 0 2 = true) := Lib.hid (by decide)
end Go.Proofs.YtkpcohfdcilfcaaGreat
namespace Go.Proofs.YtkpcohfdcilfcaaGreat
open Go.ChangeShapes Go.WideShapes Go.ChangeAt Go.RowKit
structure Stand (s : ChS) (n : Int) : Prop where
  on : s.on = true
  armed : s.armed = false
  bnd : s.Bnd n
end Go.Proofs.YtkpcohfdcilfcaaGreat
namespace Go.Proofs.YtkpcohfdcilfcaaGreat
open Go.ChangeShapes Go.WideShapes Go.ChangeAt Go.RowKit
theorem prog_arg (m gx gb : Nat) (Af : Option Addr) (nf cf : Nat) (a b c d e : Int) (fs : List Flt) (x y : Int) (A : Option Addr) (nb cA : Nat) (w : World) (s : ChS) (hC : ChipW w m gx gb Af nf cf a b c d e fs s) (ho : s.on = true) (ht : Hid (thereB a b x y = false)) : Calls Tryz.prog 162 #[.pointer (some ⟨m, 0, none⟩), .agg #[.int .i64 x, .int .i64 y], .slice A nb cA] w fun e' w' => e' = .returned (.int .i64 2) ∧ Below w.heap.size w w' := by
  have HB0 : Below w.heap.size w (w.alloc (.cells #[.int .i64 x, .int .i64 y] 68)) := (Below.refl _ _).alloc (Nat.le_refl _) _
  have G1 : Blk (w.alloc (.cells #[.int .i64 x, .int .i64 y] 68)) w.heap.size 68 #[.int .i64 x, .int .i64 y] := Blk.new_ _ _ _
  have z0 : (w.alloc (.cells #[.int .i64 x, .int .i64 y] 68)).cell? ⟨w.heap.size, 0, none⟩ = some (.int .i64 x) := G1.cell_ 0
  have z1 : (w.alloc (.cells #[.int .i64 x, .int .i64 y] 68)).cell? ⟨w.heap.size, 1, none⟩ = some (.int .i64 y) := G1.cell_ 1
  have hC := hC.below HB0
  have y10 := cell10 hC
  rw [ho] at y10
  clear ho
  go_enter Tryz.func162, Tryz.ntmps162
  go_wp2_with (go_at_call 73; ((with_reducible refine (hasPage_b _ _ _ _ _ _ _ _ _ _ _ _ _ _ _ _ _ hC ht).mono ?_); rintro e' wN ⟨rfl, hb⟩; replace HB0 := btr HB0 HB0.size hb))
  go_ret
  exact ⟨rfl, HB0⟩
theorem putX_page_other {X bs : List Nat} {N N' RW : Nat} (hbl : bs.length = RW) (hf : N * RW + RW ≤ X.length) (hne : N ≠ N') : ((putX X (N * RW) bs).drop (N' * RW)).take RW = (X.drop (N' * RW)).take RW := by
  apply List.ext_getElem?
  intro j
  rw [List.getElem?_take, List.getElem?_take]
  by_cases hj : j < RW
  · rw [if_pos hj, if_pos hj, List.getElem?_drop, List.getElem?_drop, putX_get (by rw [hbl]; exact hf), hbl]
    rcases Nat.lt_or_gt_of_ne hne with h | h
    · have h1 : (N + 1) * RW ≤ N' * RW := Nat.mul_le_mul_right RW h
      rw [Nat.succ_mul] at h1
      rw [if_neg (by omega), if_neg (by omega)]
    · have h1 : (N' + 1) * RW ≤ N * RW := Nat.mul_le_mul_right RW h
      rw [Nat.succ_mul] at h1
      rw [if_pos (by omega)]
  · rw [if_neg hj, if_neg hj]
end Go.Proofs.YtkpcohfdcilfcaaGreat
namespace Go.Proofs.YtkpcohfdcilfcaaGreat
open Go.ChangeShapes Go.WideShapes Go.ChangeAt Go.RowKit
end Go.Proofs.YtkpcohfdcilfcaaGreat
namespace Go.Proofs.YtkpcohfdcilfcaaGreat
open Go.ChangeShapes Go.WideShapes Go.ChangeAt Go.RowKit
end Go.Proofs.YtkpcohfdcilfcaaGreat
namespace Go.Proofs.YtkpcohfdcilfcaaGreat
open Go.ChangeShapes Go.WideShapes Go.ChangeAt Go.RowKit
structure Go (s : ChS) (n : Int) : Prop where
  on : s.on = true
  nc : s.cutB = false
  bnd : s.Bnd n
structure GoCut (s : ChS) (n : Int) : Prop where
  on : s.on = true
  cut : s.cutB = true
  bnd : s.Bnd n
theorem Stand.go {s : ChS} {n : Int} (h : Stand s n) : Go s n := ⟨h.on, unarmed h.armed, h.bnd⟩
structure Tickd (s S : ChS) : Prop where
  on : S.on = s.on
  armed : S.armed = s.armed
  turn : S.turn = s.turn
  cop : S.cop = s.cop
  cby : S.cby = s.cby
  fill : S.fill = s.fill
  cuts : S.cuts = s.cuts
  ops : S.ops = s.ops + 1
structure Cutd (s S : ChS) : Prop where
  on : S.on = false
  armed : S.armed = false
  cby : S.cby = s.cby
  fill : S.fill = s.fill
  cuts : S.cuts = s.cuts + 1
  ops : S.ops = s.ops + 1
structure Progd (s S : ChS) (n : Int) (k N RW : Nat) (bs : List Nat) : Prop where
  bnd : S.Bnd (n + 3)
  k0 : S.k (k : Int) 0 = s.k (k : Int) 0 + 1
  k1 : S.k (k : Int) 1 = s.k (k : Int) 1
  ko : ∀ j i : Nat, j ≠ k → i < 3 → S.k (j : Int) i = s.k (j : Int) i
  pg : S.pageOf N RW = bs
  po : ∀ N', N ≠ N' → S.pageOf N' RW = s.pageOf N' RW
structure Wiped (s S : ChS) (n : Int) (b c : Int) (k f : Nat) : Prop where
  bnd : S.Bnd (n + 3)
  k0 : S.k (k : Int) 0 = if f = 255 then 0 else b
  k1 : S.k (k : Int) 1 = s.k (k : Int) 1 + 1
  k2 : S.k (k : Int) 2 = s.k (k : Int) 2 + 1
  ko : ∀ j i : Nat, j ≠ k → i < 3 → S.k (j : Int) i = s.k (j : Int) i
  pg : ∀ l RW N : Nat, (RW : Int) = c + 16 → (l : Int) < b → (N : Int) = (k : Int) * b + (l : Int) → S.pageOf N RW = List.replicate RW f
  po : ∀ j l RW N : Nat, j ≠ k → (RW : Int) = c + 16 → (l : Int) < b → (N : Int) = (j : Int) * b + (l : Int) → S.pageOf N RW = s.pageOf N RW
theorem putX_part_other {X bs : List Nat} {N N' RW : Nat} (hbl : bs.length ≤ RW) (hf : N * RW + RW ≤ X.length) (hne : N ≠ N') : ((putX X (N * RW) bs).drop (N' * RW)).take RW = (X.drop (N' * RW)).take RW := by
  apply List.ext_getElem?
  intro j
  rw [List.getElem?_take, List.getElem?_take]
  by_cases hj : j < RW
  · rw [if_pos hj, if_pos hj, List.getElem?_drop, List.getElem?_drop, putX_get (by omega)]
    rcases Nat.lt_or_gt_of_ne hne with h | h
    · have h1 : (N + 1) * RW ≤ N' * RW := Nat.mul_le_mul_right RW h
      rw [Nat.succ_mul] at h1
      rw [if_neg (by omega), if_neg (by omega)]
    · have h1 : (N' + 1) * RW ≤ N * RW := Nat.mul_le_mul_right RW h
      rw [Nat.succ_mul] at h1
      rw [if_pos (by omega)]
  · rw [if_neg hj, if_neg hj]
theorem progCut_fields {s : ChS} (k N RW : Nat) (bs : List Nat) : (s.progCut k N RW bs).X = putX s.X (N * RW) bs ∧ (s.progCut k N RW bs).K = s.K.set (k * 3 + 0) (s.k (k : Int) 0 + 1) := by
  refine ⟨rfl, ?_⟩
  show s.tick.K.set _ _ = _
  rw [tick_K]
  congr 1
  unfold ChS.k
  dsimp only
  rw [tick_K]
end Go.Proofs.YtkpcohfdcilfcaaGreat
namespace Go.Proofs.YtkpcohfdcilfcaaGreat
open Go.ChangeShapes Go.WideShapes Go.ChangeAt Go.RowKit
def fltV (f : Flt) : List Value := [.int .i64 f.blk, .bool f.fac, .int .i64 f.aft]
def flatF : List Flt → List Value
  | [] => []
  | f :: fs => fltV f ++ flatF fs
theorem flatF_len : ∀ fs : List Flt, (flatF fs).length = fs.length * 3
  | [] => rfl
  | f :: fs => by
    show (fltV f ++ flatF fs).length = _
    rw [List.length_append, flatF_len fs]
    show 3 + _ = (fs.length + 1) * 3
    omega
theorem flatF_at : ∀ (fs : List Flt) (k : Nat) (f : Flt), fs[k]? = some f → (flatF fs)[k * 3]? = some (.int .i64 f.blk) ∧ (flatF fs)[k * 3 + 1]? = some (.bool f.fac) ∧ (flatF fs)[k * 3 + 2]? = some (.int .i64 f.aft)
  | [], _, _, h => by simp at h
  | g :: fs, 0, f, h => by
    obtain rfl : g = f := by simpa using h
    exact ⟨rfl, rfl, rfl⟩
  | g :: fs, k + 1, f, h => by
    have q := flatF_at fs k f (by simpa using h)
    have e : ∀ j, (flatF (g :: fs))[j + 3]? = (flatF fs)[j]? := fun j => by
      show (fltV g ++ flatF fs)[j + 3]? = _
      rw [List.getElem?_append_right (by simp [fltV])]
      simp [fltV]
    rw [show (k + 1) * 3 = k * 3 + 3 by omega, show k * 3 + 3 + 1 = k * 3 + 1 + 3 by omega, show k * 3 + 3 + 2 = k * 3 + 2 + 3 by omega, e, e, e]
    exact q
theorem flatF_rd {w : World} {g : Nat} : ∀ (fs : List Flt) (off : Nat), (∀ k f, fs[k]? = some f → w.cell? ⟨g, off + k * 3, none⟩ = some (.int .i64 f.blk) ∧ w.cell? ⟨g, off + k * 3 + 1, none⟩ = some (.bool f.fac) ∧ w.cell? ⟨g, off + k * 3 + 2, none⟩ = some (.int .i64 f.aft)) → ∀ j u, (flatF fs)[j]? = some u → w.cell? ⟨g, off + j, none⟩ = some u
  | [], _, _, _, _, hu => by simp [flatF] at hu
  | f :: fs, off, h, j, u, hu => by
    obtain ⟨h0, h1, h2⟩ := h 0 f rfl
    match j, hu with
    | 0, hu =>
      obtain rfl : Value.int .i64 f.blk = u := by simpa [flatF, fltV] using hu
      exact h0
    | 1, hu =>
      obtain rfl : Value.bool f.fac = u := by simpa [flatF, fltV] using hu
      exact h1
    | 2, hu =>
      obtain rfl : Value.int .i64 f.aft = u := by simpa [flatF, fltV] using hu
      exact h2
    | j + 3, hu =>
      have e : (flatF (f :: fs))[j + 3]? = (flatF fs)[j]? := by
        show (fltV f ++ flatF fs)[j + 3]? = _
        rw [List.getElem?_append_right (by simp [fltV])]
        simp [fltV]
      rw [e] at hu
      have q := flatF_rd fs (off + 3) (fun k f' hk => by
        have := h (k + 1) f' (by simpa using hk)
        rw [show off + (k + 1) * 3 = off + 3 + k * 3 by omega] at this
        exact this) j u hu
      rw [show off + (j + 3) = off + 3 + j by omega]
      exact q
theorem flatF_one : ∀ fs : List Flt, ∀ u ∈ flatF fs, u.oneCell' = true
  | [], u, h => by simp [flatF] at h
  | f :: fs, u, h => by
    rcases List.mem_append.1 (show u ∈ fltV f ++ flatF fs from h) with h | h
    · simp only [fltV, List.mem_cons, List.not_mem_nil, or_false] at h
      rcases h with rfl | rfl | rfl <;> rfl
    · exact flatF_one fs u h
def FR (w : World) (A : Option Addr) (fs : List Flt) : Prop := fs = [] ∨ ∃ g, A = some ⟨g, 0, none⟩ ∧ RowT w g 100 (flatF fs)
def FNe (A : Option Addr) (fs : List Flt) (k : Nat) : Prop := fs = [] ∨ ∃ g, A = some ⟨g, 0, none⟩ ∧ g ≠ k
def FGe (A : Option Addr) (fs : List Flt) (k : Nat) : Prop := fs = [] ∨ ∃ g, A = some ⟨g, 0, none⟩ ∧ k ≤ g
theorem FR.below_ {w w' : World} {A : Option Addr} {fs : List Flt} (h : FR w A fs) (hb : Below w.heap.size w w') : FR w' A fs := by
  rcases h with h | ⟨g, e, h⟩
  · exact Or.inl h
  · exact Or.inr ⟨g, e, h.below hb⟩
theorem FR.ne {w : World} {A : Option Addr} {fs : List Flt} (h : FR w A fs) {k : Nat} (hk : w.heap.size ≤ k) : FNe A fs k := by
  rcases h with h | ⟨g, e, h⟩
  · exact Or.inl h
  · exact Or.inr ⟨g, e, by have := h.lt; omega⟩
theorem FNe.fresh {A : Option Addr} {fs : List Flt} {n k : Nat} (h : FGe A fs n) (hk : k < n) : FNe A fs k := by
  rcases h with h | ⟨g, e, h⟩
  · exact Or.inl h
  · exact Or.inr ⟨g, e, by omega⟩
theorem FR.at_ {w : World} {A : Option Addr} {fs : List Flt} (h : FR w A fs) {m gx gb : Nat} (h1 : FNe A fs m) (h2 : FNe A fs gx) (h3 : FNe A fs gb) : FltAt w A fs m gx gb := by
  rcases h with h | ⟨g, e, h⟩
  · exact Or.inl h
  rcases h1 with h1 | ⟨g1, e1, h1⟩
  · exact Or.inl h1
  rcases h2 with h2 | ⟨g2, e2, h2⟩
  · exact Or.inl h2
  rcases h3 with h3 | ⟨g3, e3, h3⟩
  · exact Or.inl h3
  subst e
  cases e1
  cases e2
  cases e3
  refine Or.inr ⟨g, 0, rfl, h.lt, h1, h2, h3, fun k f hf => ?_⟩
  obtain ⟨q0, q1, q2⟩ := flatF_at fs k f hf
  rw [Nat.zero_add]
  exact ⟨h.cell_ q0, h.cell_ q1, h.cell_ q2⟩
theorem infoF : (Tryz.prog.info? 100).map (fun i => (i.zero, i.size, i.bytes)) = some (some (.agg #[.int .i64 0, .bool false, .int .i64 0]), 3, 24) := by kernel_rfl
theorem slF_not_nil (a : Addr) (n c : Nat) (w : World) : (binOp BinOp.eql 44 (.slice (some a) n c) (.slice none 0 0)).run Tryz.prog w = .ok (.bool false) w := by kernel_rfl
theorem own_emptyF (w : World) (e : TypeId) : (w.alloc (.cells #[] e)).ownsRow w.heap.size e 3 (.slice (some ⟨w.heap.size, 0, none⟩) 0 0) 0 [] :=
  ⟨by simp, Or.inr ⟨w.heap.size, 0, #[], rfl, Nat.le_refl _, heap_alloc_new w _, by omega, by unfold maxLen; omega, by simp, by simp⟩⟩
theorem own_rowF {w : World} {base n : Nat} {t : TypeId} {v : Value} {xs : List Value} (h : w.ownsRow base t 3 v n xs) : ∃ A c, v = .slice A n c ∧ (n = 0 ∨ ∃ g, A = some ⟨g, 0, none⟩ ∧ RowT w g t xs ∧ base ≤ g) := by
  obtain ⟨hl, h'⟩ := h
  rcases h' with ⟨hv, h0⟩ | ⟨g, cap, cur, rfl, hb, hh, hnc, _, hsz, ht⟩
  · rw [h0] at hl
    simp at hl
    have hn : n = 0 := by omega
    subst hn
    exact ⟨none, 0, hv, Or.inl rfl⟩
  · refine ⟨some ⟨g, 0, none⟩, cap, rfl, Or.inr ⟨g, rfl, ⟨cur.toList.drop (n * 3), ?_⟩, hb⟩⟩
    unfold Blk
    rw [← ht, List.take_append_drop]
    exact hh
theorem fclone_any (fs : List Flt) (A : Option Addr) (c : Nat) (w : World) (hs : SlF w w.heap.size A fs) (hlen : fs.length ≤ 100000) :
    Calls Tryz.prog 68 #[.slice A fs.length c] w fun e' w' => (∃ A' c', e' = .returned (.slice A' fs.length c') ∧ FR w' A' fs ∧ FGe A' fs w.heap.size) ∧ Below w.heap.size w w' := by
  rcases A with _ | ⟨g, o, sp⟩
  · obtain rfl : fs = [] := by
      rcases hs with h | ⟨g, off, e, _⟩
      · exact h
      · cases e
    have hnil : (binOp BinOp.eql 44 (.slice none 0 c) (.slice none 0 0)).run Tryz.prog w = .ok (.bool true) w := by kernel_rfl
    go_enter Tryz.func68, Tryz.ntmps68
    go_wp2
    go_ret
    exact ⟨⟨none, 0, rfl, Or.inl rfl, Or.inl rfl⟩, Below.refl _ _⟩
  · have hnil := slF_not_nil ⟨g, o, sp⟩ fs.length c w
    have HR : Rd (w.alloc (.cells #[] 100)) (some ⟨g, o, sp⟩) fs.length 3 (flatF fs) := by
      refine ⟨flatF_len fs, ?_⟩
      rcases hs with h | ⟨g', off, e, hlt, hc⟩
      · left
        rw [h]
        rfl
      · cases e
        refine Or.inr ⟨g, o, rfl, fun j u hu => ?_⟩
        refine (Below.cell (p := ⟨g, o + j, none⟩) ((Below.refl w.heap.size w).alloc (Nat.le_refl _) (.cells #[] 100)) hlt).trans ?_
        exact flatF_rd fs o hc j u hu
    clear hs
    go_enter Tryz.func68, Tryz.ntmps68
    go_upto_region 3 with fail
    refine wp_region_lit ?_
    refine wpList_plain rfl (fun K hK => ?_)
    go_simp
    refine hK _ _ ?_
    clear hK K
    try simp only [Act.put, pz1, pz2, pz3]
    refine wpList_plain rfl (fun K hK => ?_)
    go_simp
    refine hK _ _ ?_
    clear hK K
    try simp only [Act.put, pz1, pz2, pz3]
    obtain ⟨ti0, hi, hz0, hz1, hz2⟩ := info_parts infoF
    refine wpList_app _ rfl (.tmp 5) (.tmp 6) _ rfl w.heap.size 100 ti0 _ 3 24 Tryz.underlying44 hi hz0 hz1 hz2 rfl (by decide) (.slice (some ⟨w.heap.size, 0, none⟩) 0 0) 0 [] rfl (own_emptyF w _) (some ⟨g, o, sp⟩) fs.length c (flatF fs) rfl HR (flatF_one fs) (by unfold maxLen; omega) (by omega) (by simp) ?_
    intro v' w' ho' hg' hv'
    clear hi hz0 hz1 hz2
    rw [Nat.zero_add, List.nil_append] at ho'
    obtain ⟨A', c', rfl, hR'⟩ := own_rowF ho'
    have HG := Lib.hid hg'
    have HRR := Lib.hid hR'
    clear hg' hR' ho' hv' hnil
    try simp only [Act.put, pz1, pz2, pz3]
    go_wp2_with fail
    go_ret
    have hB : Below w.heap.size w w' := ((Below.refl _ _).alloc (Nat.le_refl _) _).grown HG.out (by simp) (fun g' hg'' => by simp [Value.ownBlock] at hg''; omega)
    refine ⟨⟨A', c', rfl, ?_, ?_⟩, hB⟩
    · rcases HRR.out with h | ⟨g', e, h, _⟩
      · exact Or.inl (List.eq_nil_of_length_eq_zero h)
      · exact Or.inr ⟨g', e, h⟩
    · rcases HRR.out with h | ⟨g', e, _, h⟩
      · exact Or.inl (List.eq_nil_of_length_eq_zero h)
      · exact Or.inr ⟨g', e, h⟩
theorem box_chipF (a b c d e : Int) (AF : Option Addr) (nf cf gx NX gb NB : Nat) (w : World) : (Instr.box 81 (.agg #[.int .i64 a, .int .i64 b, .int .i64 c, .int .i64 d, .int .i64 e, .slice AF nf cf, .slice (some ⟨gx, 0, none⟩) NX NX, .slice (some ⟨gb, 0, none⟩) NB NB, .int .i64 0, .int .i64 0, .bool true, .bool false, .int .i64 0, .int .i64 0, .int .i64 0, .int .u8 0])).run Tryz.prog w = .ok (.pointer (some ⟨w.heap.size, 0, none⟩)) (w.alloc (.cells #[.int .i64 a, .int .i64 b, .int .i64 c, .int .i64 d, .int .i64 e, .slice AF nf cf, .slice (some ⟨gx, 0, none⟩) NX NX, .slice (some ⟨gb, 0, none⟩) NB NB, .int .i64 0, .int .i64 0, .bool true, .bool false, .int .i64 0, .int .i64 0, .int .i64 0, .int .u8 0] 81)) := by kernel_rfl
theorem wp_boxF {w : World} {o : Oper} {a' : Act} {K : Act → World → Prop} {Q : Exit → Act → World → Prop} (x : Operand) (hop : o.op = Op.box 81 x)
    {a b c d e : Int} {AF : Option Addr} {nf cf gx NX gb NB : Nat} (hx : a'.eval x = .agg #[.int .i64 a, .int .i64 b, .int .i64 c, .int .i64 d, .int .i64 e, .slice AF nf cf, .slice (some ⟨gx, 0, none⟩) NX NX, .slice (some ⟨gb, 0, none⟩) NB NB, .int .i64 0, .int .i64 0, .bool true, .bool false, .int .i64 0, .int .i64 0, .int .i64 0, .int .u8 0])
    (hK : ∀ w' m, Blk w' m 81 #[.int .i64 a, .int .i64 b, .int .i64 c, .int .i64 d, .int .i64 e, .slice AF nf cf, .slice (some ⟨gx, 0, none⟩) NX NX, .slice (some ⟨gb, 0, none⟩) NB NB, .int .i64 0, .int .i64 0, .bool true, .bool false, .int .i64 0, .int .i64 0, .int .i64 0, .int .u8 0] → w.heap.size ≤ m → Below w.heap.size w w' → K (a'.put o.dst (.pointer (some ⟨m, 0, none⟩))) w') : Oper.wp Tryz.prog o a' w K Q := by
  have hrun := box_chipF a b c d e AF nf cf gx NX gb NB w
  unfold Oper.wp
  simp [execOp, hop, hx, hrun, Result.andThen]
  exact hK _ _ (Blk.new_ _ _ _) (Nat.le_refl _) ((Below.refl _ _).alloc (Nat.le_refl _) _)
theorem pmayF_b (a b c d e : Int) (fs : List Flt) (A : Option Addr) (c0 : Nat) (T : Bool) (w : World) (hs : SlF w w.heap.size A fs) (hc0 : fs.length ≤ c0) (hc1 : c0 ≤ maxLen) (h : Hid (planMay a b c d e fs = T)) : Calls Tryz.prog 66 #[.agg #[.int .i64 a, .int .i64 b, .int .i64 c, .int .i64 d, .int .i64 e], .slice A fs.length c0] w fun e' w' => e' = .returned (.bool T) ∧ Below w.heap.size w w' := by
  have := pMay_any a b c d e fs A c0 w hs hc0 hc1
  rwa [h.out] at this
theorem newF_no (a b c d e : Int) (fs : List Flt) (A : Option Addr) (c0 : Nat) (w : World) (hs : SlF w w.heap.size A fs) (hc0 : fs.length ≤ c0) (hc1 : c0 ≤ maxLen) (HP : Hid (planMay a b c d e fs = false)) : Calls Tryz.prog 28 #[.agg #[.int .i64 a, .int .i64 b, .int .i64 c, .int .i64 d, .int .i64 e], .slice A fs.length c0] w fun e' w' => e' = .returned (.pointer none) ∧ Below w.heap.size w w' := by
  have HB0 : Below w.heap.size w (w.alloc (.cells #[.int .i64 a, .int .i64 b, .int .i64 c, .int .i64 d, .int .i64 e] 23)) := (Below.refl _ _).alloc (Nat.le_refl _) _
  have HSF := hs.next HB0
  go_enter Tryz.func28, Tryz.ntmps28
  go_wp2_with (go_at_call 66; ((with_reducible refine (pmayF_b _ _ _ _ _ fs _ _ _ _ HSF hc0 hc1 HP).mono ?_); rintro e' wN ⟨rfl, hb⟩; replace HB0 := btr HB0 HB0.size hb))
  go_ret
  exact ⟨rfl, HB0⟩
theorem newF_yes (a b c d e : Int) (fs : List Flt) (A : Option Addr) (c0 : Nat) (NX NB : Nat) (w : World) (hs : SlF w w.heap.size A fs) (hc0 : fs.length ≤ c0) (hc1 : c0 ≤ maxLen) (hfl : fs.length ≤ 100000) (HP : Hid (planMay a b c d e fs = true)) (hNX : (NX : Int) = a * b * (c + 16)) (hNB : (NB : Int) = a) (n1 : 1 ≤ NX) (n2 : NX ≤ 100000) (n3 : NB ≤ 1000) :
    Calls Tryz.prog 28 #[.agg #[.int .i64 a, .int .i64 b, .int .i64 c, .int .i64 d, .int .i64 e], .slice A fs.length c0] w fun e' w' => (∃ m gx gb AF cf, e' = .returned (.pointer (some ⟨m, 0, none⟩)) ∧ ChipW w' m gx gb AF fs.length cf a b c d e fs (ChS.new NX NB) ∧ w.heap.size ≤ m ∧ w.heap.size ≤ gx ∧ w.heap.size ≤ gb) ∧ Below w.heap.size w w' := by
  have HM : Hid (mayB a b c d e = true) := Lib.hid (planMay_bd HP.out).1
  obtain ⟨q1, q2, q3, q4, q5, q6, -⟩ := may_bd HM.out
  obtain ⟨M, hM⟩ : ∃ M, a * b = M := ⟨_, rfl⟩
  have hMb : 32 ≤ M ∧ M ≤ 160 := by
    have := mul_bd (x := a) (y := b) (lo := 8) (hi := 20) q1 q2 q3 q4 (by omega) (by omega)
    omega
  have hNX' : M * (c + 16) = (NX : Int) := by rw [← hM]; exact hNX.symm
  have hw1 : IntKind.i64.wrap M = M := wrapS _ (by omega) (by omega)
  have hw2 : IntKind.i64.wrap (NX : Int) = (NX : Int) := wrapS _ (by omega) (by omega)
  have HB0 : Below w.heap.size w (w.alloc (.cells #[.int .i64 a, .int .i64 b, .int .i64 c, .int .i64 d, .int .i64 e] 23)) := (Below.refl _ _).alloc (Nat.le_refl _) _
  have HSF := hs.next HB0
  have G1 : Blk (w.alloc (.cells #[.int .i64 a, .int .i64 b, .int .i64 c, .int .i64 d, .int .i64 e] 23)) w.heap.size 23 #[.int .i64 a, .int .i64 b, .int .i64 c, .int .i64 d, .int .i64 e] := Blk.new_ _ _ _
  have HY := cells5 G1
  have HLX : Hid (NX = (a * b * (c + 16)).toNat) := Lib.hid (by rw [← hNX]; rfl)
  have HLK : Hid (3 * NB = 3 * a.toNat) := Lib.hid (by omega)
  clear hNX q1 q2 q3 q4 q5 q6 hMb hs
  go_enter Tryz.func28, Tryz.ntmps28
  go_upto_region 3 with (go_at_call 66; ((with_reducible refine (pmayF_b _ _ _ _ _ fs _ _ _ _ HSF hc0 hc1 HP).mono ?_); rintro e' wN ⟨rfl, hb⟩; replace HSF := HSF.next hb; replace G1 := G1.below hb G1.lt; replace HB0 := btr HB0 HB0.size hb; clear HY; have HY := cells5 G1))
  clear hc0 hc1
  refine wp_region_noPanic ?_
  refine wp_region_held_drew (S := (fun w' => w'.cell? ⟨w.heap.size, 0, none⟩ = some (.int .i64 a) ∧ w'.cell? ⟨w.heap.size, 1, none⟩ = some (.int .i64 b) ∧ w'.cell? ⟨w.heap.size, 2, none⟩ = some (.int .i64 c) ∧ w'.cell? ⟨w.heap.size, 3, none⟩ = some (.int .i64 d) ∧ w'.cell? ⟨w.heap.size, 4, none⟩ = some (.int .i64 e))) (by kernel_rfl) ?_ (fun hHeld => ?_)
  · (first | exact HY | assumption)
  refine tk 0 ?_; try simp only [Act.put, pz1, pz2, pz3]
  refine tk 1 ?_; try simp only [Act.put, pz1, pz2, pz3]
  refine tk 2 ?_; try simp only [Act.put, pz1, pz2, pz3]
  refine tk 3 ?_; try simp only [Act.put, pz1, pz2, pz3]
  refine tk 4 ?_; try simp only [Act.put, pz1, pz2, pz3]
  refine tk 5 ?_; try simp only [Act.put, pz1, pz2, pz3]
  refine wpAnyH_ready (rs := [6]) (by kernel_rfl) (by simp) ?_
  refine AllReadyH.cons (o := ⟨some 16, .call { callee := .value (.func 67), args := #[.tmp 15], argTypes := #[23] }, 3, "chip.go:42", #[⟨5, .data⟩], none⟩) rfl (fun K hK => ?_) AllReadyH.nil
  go_simp
  (go_at_call 67; ((with_reducible refine (raw_b _ _ _ _ _ _ HM).mono ?_); rintro e' wN ⟨rfl, hb⟩; (try have hb := undrew hb); replace HSF := HSF.next hb; replace G1 := G1.below hb G1.lt; replace HB0 := btr HB0 HB0.size hb; clear HY; have HY := cells5 G1))
  go_wp2_with fail
  refine hK.out _ _ ?_ (fun hNew => ?_)
  · (first | exact HY | assumption)
  clear hK K hHeld
  have hHeld := hNew
  clear hNew
  try simp only [Act.put, pz1, pz2, pz3]
  refine tk 7 ?_; try simp only [Act.put, pz1, pz2, pz3]
  refine tk 8 ?_; try simp only [Act.put, pz1, pz2, pz3]
  refine wpAnyH_done (by kernel_rfl) ?_ _
  refine NoPanic.normal ?_
  go_upto_region 4 with fail
  replace G1 : Blk wN.drew w.heap.size 23 #[.int .i64 a, .int .i64 b, .int .i64 c, .int .i64 d, .int .i64 e] := G1
  replace HB0 := HB0.drew
  replace HSF : SlF wN.drew wN.drew.heap.size A fs := HSF
  have HS : w.heap.size + 1 ≤ wN.drew.heap.size := G1.lt
  clear HY
  have HY := cells5 G1
  clear hb hNX' hw1 hw2 hM
  refine wp_region_noPanic ?_
  refine wp_region_held_drew (S := (fun w' => w'.cell? ⟨w.heap.size, 0, none⟩ = some (.int .i64 a) ∧ w'.cell? ⟨w.heap.size, 1, none⟩ = some (.int .i64 b) ∧ w'.cell? ⟨w.heap.size, 2, none⟩ = some (.int .i64 c) ∧ w'.cell? ⟨w.heap.size, 3, none⟩ = some (.int .i64 d) ∧ w'.cell? ⟨w.heap.size, 4, none⟩ = some (.int .i64 e))) (by kernel_rfl) ?_ (fun hHeld => ?_)
  · (first | exact HY | assumption)
  refine tk 0 ?_; try simp only [Act.put, pz1, pz2, pz3]
  refine tk 1 ?_; try simp only [Act.put, pz1, pz2, pz3]
  refine tk 4 ?_; try simp only [Act.put, pz1, pz2, pz3]
  refine tk 6 ?_; try simp only [Act.put, pz1, pz2, pz3]
  refine tk 7 ?_; try simp only [Act.put, pz1, pz2, pz3]
  refine wpAnyH_ready (rs := [2, 3, 8]) (by kernel_rfl) (by simp) ?_
  refine (AllReadyH.cons (o := ⟨some 20, .call { callee := .value (.func 68), args := #[.tmp 19], argTypes := #[44] }, 44, "chip.go:45", #[⟨1, .data⟩], none⟩) rfl (fun K hK => ?_) (AllReadyH.cons (o := ⟨some 21, .buildSlice 37 1 #[(0, .const (.int .u8 255))], 37, "chip.go:43", #[], none⟩) rfl (fun K hK => ?_) (AllReadyH.cons (o := ⟨some 26, .makeSlice 79 (.tmp 25) (.tmp 25), 79, "chip.go:43", #[⟨7, .data⟩, ⟨7, .data⟩], none⟩) rfl (fun K hK => ?_) AllReadyH.nil)))
  · go_simp
    (go_at_call 68; ((with_reducible refine (fclone_any fs _ _ _ HSF hfl).mono ?_); rintro e' wN ⟨⟨AF, cf, rfl, RF, hqf⟩, hb⟩))
    go_wp2_with fail
    (try have hfx := FNe.fresh hqf RX.lt)
    (try have hfb := FNe.fresh hqf RB.lt)
    (try replace HSF := HSF.next hb)
    (try replace B3 := B3.below hb B3.lt)
    (try replace RX := RX.below hb)
    (try replace RB := RB.below hb)
    replace G1 := G1.below hb G1.lt
    clear HY
    have HY := cells5 G1
    replace HB0 := btr HB0 HB0.size hb
    replace HS := Nat.le_trans HS hb.size
    refine hK.out _ _ ?_ (fun hNew => ?_)
    · (first | exact HY | assumption)
    clear hK K hHeld
    have hHeld := hNew
    clear hNew
    try simp only [Act.put, pz1, pz2, pz3]
    refine wpAnyH_ready (rs := [3, 8]) (by kernel_rfl) (by simp) ?_
    refine (AllReadyH.cons (o := ⟨some 21, .buildSlice 37 1 #[(0, .const (.int .u8 255))], 37, "chip.go:43", #[], none⟩) rfl (fun K hK => ?_) (AllReadyH.cons (o := ⟨some 26, .makeSlice 79 (.tmp 25) (.tmp 25), 79, "chip.go:43", #[⟨7, .data⟩, ⟨7, .data⟩], none⟩) rfl (fun K hK => ?_) AllReadyH.nil))
    · refine wp_build1b _ rfl 255 rfl ?_
      intro wN b3 B3 hq hb
      (try replace RF := RF.below_ hb)
      (try replace HSF := HSF.next hb)
      (try replace RX := RX.below hb)
      (try replace RB := RB.below hb)
      replace G1 := G1.below hb G1.lt
      clear HY
      have HY := cells5 G1
      replace HB0 := btr HB0 HB0.size hb
      replace HS := Nat.le_trans HS hb.size
      refine hK.out _ _ ?_ (fun hNew => ?_)
      · (first | exact HY | assumption)
      clear hK K hHeld
      have hHeld := hNew
      clear hNew
      try simp only [Act.put, pz1, pz2, pz3]
      refine wpAnyH_ready (rs := [5, 8]) (by kernel_rfl) (by simp) ?_
      refine (AllReadyH.cons (o := ⟨some 23, .call { callee := .value (.func 69), args := #[.tmp 21, .tmp 22], argTypes := #[37, 3] }, 37, "chip.go:46", #[⟨3, .data⟩, ⟨4, .data⟩, ⟨2, .chain⟩], none⟩) rfl (fun K hK => ?_) (AllReadyH.cons (o := ⟨some 26, .makeSlice 79 (.tmp 25) (.tmp 25), 79, "chip.go:43", #[⟨7, .data⟩, ⟨7, .data⟩], none⟩) rfl (fun K hK => ?_) AllReadyH.nil))
      · go_simp
        (go_at_call 69; ((with_reducible refine (rptB_b 255 b3 NX _ B3 n1 n2).mono ?_); rintro e' wN ⟨gx, rfl, hqx, RX, hb⟩))
        go_wp2_with fail
        have hgx := Nat.le_trans HS hqx
        (try have hxb := Nat.ne_of_gt (Nat.lt_of_lt_of_le RB.lt hqx))
        (try have hfx := RF.ne hqx)
        (try replace RF := RF.below_ hb)
        (try replace HSF := HSF.next hb)
        (try replace B3 := B3.below hb B3.lt)
        (try replace RB := RB.below hb)
        replace G1 := G1.below hb G1.lt
        clear HY
        have HY := cells5 G1
        replace HB0 := btr HB0 HB0.size hb
        replace HS := Nat.le_trans HS hb.size
        refine hK.out _ _ ?_ (fun hNew => ?_)
        · (first | exact HY | assumption)
        clear hK K hHeld
        have hHeld := hNew
        clear hNew
        try simp only [Act.put, pz1, pz2, pz3]
        refine wpAnyH_ready (rs := [8]) (by kernel_rfl) (by simp) ?_
        refine AllReadyH.cons (o := ⟨some 26, .makeSlice 79 (.tmp 25) (.tmp 25), 79, "chip.go:43", #[⟨7, .data⟩, ⟨7, .data⟩], none⟩) rfl (fun K hK => ?_) AllReadyH.nil
        refine wp_makeK _ _ rfl a NB rfl rfl hNB (by omega) ?_
        intro wN gb RB hqb hb
        have hgb := Nat.le_trans HS hqb
        (try have hxb := Nat.ne_of_lt (Nat.lt_of_lt_of_le RX.lt hqb))
        (try have hfb := RF.ne hqb)
        (try replace RF := RF.below_ hb)
        (try replace HSF := HSF.next hb)
        (try replace B3 := B3.below hb B3.lt)
        (try replace RX := RX.below hb)
        replace G1 := G1.below hb G1.lt
        clear HY
        have HY := cells5 G1
        replace HB0 := btr HB0 HB0.size hb
        replace HS := Nat.le_trans HS hb.size
        refine hK.out _ _ ?_ (fun hNew => ?_)
        · (first | exact HY | assumption)
        clear hK K hHeld
        have hHeld := hNew
        clear hNew
        try simp only [Act.put, pz1, pz2, pz3]
        refine tk 9 ?_; try simp only [Act.put, pz1, pz2, pz3]
        refine wpAnyH_ready (rs := [10]) (by kernel_rfl) (by simp) ?_
        refine AllReadyH.cons (o := ⟨some 28, .box 81 (.tmp 27), 27, "chip.go:43", #[⟨9, .data⟩], none⟩) rfl (fun K hK => ?_) AllReadyH.nil
        refine wp_boxF _ rfl rfl ?_
        intro wN m BM hqm hb
        have hm := Nat.le_trans HS hqm
        have h1 : m ≠ gx := Nat.ne_of_gt (Nat.lt_of_lt_of_le RX.lt hqm)
        have h2 : m ≠ gb := Nat.ne_of_gt (Nat.lt_of_lt_of_le RB.lt hqm)
        have hfm := RF.ne hqm
        (try replace RF := RF.below_ hb)
        (try replace HSF := HSF.next hb)
        (try replace B3 := B3.below hb B3.lt)
        (try replace RX := RX.below hb)
        (try replace RB := RB.below hb)
        replace G1 := G1.below hb G1.lt
        clear HY
        have HY := cells5 G1
        replace HB0 := btr HB0 HB0.size hb
        replace HS := Nat.le_trans HS hb.size
        refine hK.out _ _ ?_ (fun hNew => ?_)
        · (first | exact HY | assumption)
        clear hK K hHeld
        have hHeld := hNew
        clear hNew
        try simp only [Act.put, pz1, pz2, pz3]
        refine tk 11 ?_; try simp only [Act.put, pz1, pz2, pz3]
        refine wpAnyH_done (by kernel_rfl) ?_ _
        refine NoPanic.normal ?_
        go_wp2_with fail
        go_ret
        refine ⟨⟨m, gx, gb, AF, cf, rfl, ⟨⟨NX, NB, NX, NB, by simp [ChS.new], hNB, Nat.le_refl _, BM⟩, by simpa [ChS.new, byteV] using RX, by simpa [ChS.new] using RB, RF.at_ hfm hfx hfb, h1, h2, hxb, (List.length_replicate ..).trans HLX.out, (List.length_replicate ..).trans HLK.out, rfl, HP.out⟩, by omega, by omega, by omega⟩, HB0⟩
      · refine wp_makeK _ _ rfl a NB rfl rfl hNB (by omega) ?_
        intro wN gb RB hqb hb
        have hgb := Nat.le_trans HS hqb
        (try have hxb := Nat.ne_of_lt (Nat.lt_of_lt_of_le RX.lt hqb))
        (try have hfb := RF.ne hqb)
        (try replace RF := RF.below_ hb)
        (try replace HSF := HSF.next hb)
        (try replace B3 := B3.below hb B3.lt)
        (try replace RX := RX.below hb)
        replace G1 := G1.below hb G1.lt
        clear HY
        have HY := cells5 G1
        replace HB0 := btr HB0 HB0.size hb
        replace HS := Nat.le_trans HS hb.size
        refine hK.out _ _ ?_ (fun hNew => ?_)
        · (first | exact HY | assumption)
        clear hK K hHeld
        have hHeld := hNew
        clear hNew
        try simp only [Act.put, pz1, pz2, pz3]
        refine wpAnyH_ready (rs := [5]) (by kernel_rfl) (by simp) ?_
        refine AllReadyH.cons (o := ⟨some 23, .call { callee := .value (.func 69), args := #[.tmp 21, .tmp 22], argTypes := #[37, 3] }, 37, "chip.go:46", #[⟨3, .data⟩, ⟨4, .data⟩, ⟨2, .chain⟩], none⟩) rfl (fun K hK => ?_) AllReadyH.nil
        go_simp
        (go_at_call 69; ((with_reducible refine (rptB_b 255 b3 NX _ B3 n1 n2).mono ?_); rintro e' wN ⟨gx, rfl, hqx, RX, hb⟩))
        go_wp2_with fail
        have hgx := Nat.le_trans HS hqx
        (try have hxb := Nat.ne_of_gt (Nat.lt_of_lt_of_le RB.lt hqx))
        (try have hfx := RF.ne hqx)
        (try replace RF := RF.below_ hb)
        (try replace HSF := HSF.next hb)
        (try replace B3 := B3.below hb B3.lt)
        (try replace RB := RB.below hb)
        replace G1 := G1.below hb G1.lt
        clear HY
        have HY := cells5 G1
        replace HB0 := btr HB0 HB0.size hb
        replace HS := Nat.le_trans HS hb.size
        refine hK.out _ _ ?_ (fun hNew => ?_)
        · (first | exact HY | assumption)
        clear hK K hHeld
        have hHeld := hNew
        clear hNew
        try simp only [Act.put, pz1, pz2, pz3]
        refine tk 9 ?_; try simp only [Act.put, pz1, pz2, pz3]
        refine wpAnyH_ready (rs := [10]) (by kernel_rfl) (by simp) ?_
        refine AllReadyH.cons (o := ⟨some 28, .box 81 (.tmp 27), 27, "chip.go:43", #[⟨9, .data⟩], none⟩) rfl (fun K hK => ?_) AllReadyH.nil
        refine wp_boxF _ rfl rfl ?_
        intro wN m BM hqm hb
        have hm := Nat.le_trans HS hqm
        have h1 : m ≠ gx := Nat.ne_of_gt (Nat.lt_of_lt_of_le RX.lt hqm)
        have h2 : m ≠ gb := Nat.ne_of_gt (Nat.lt_of_lt_of_le RB.lt hqm)
        have hfm := RF.ne hqm
        (try replace RF := RF.below_ hb)
        (try replace HSF := HSF.next hb)
        (try replace B3 := B3.below hb B3.lt)
        (try replace RX := RX.below hb)
        (try replace RB := RB.below hb)
        replace G1 := G1.below hb G1.lt
        clear HY
        have HY := cells5 G1
        replace HB0 := btr HB0 HB0.size hb
        replace HS := Nat.le_trans HS hb.size
        refine hK.out _ _ ?_ (fun hNew => ?_)
        · (first | exact HY | assumption)
        clear hK K hHeld
        have hHeld := hNew
        clear hNew
        try simp only [Act.put, pz1, pz2, pz3]
        refine tk 11 ?_; try simp only [Act.put, pz1, pz2, pz3]
        refine wpAnyH_done (by kernel_rfl) ?_ _
        refine NoPanic.normal ?_
        go_wp2_with fail
        go_ret
        refine ⟨⟨m, gx, gb, AF, cf, rfl, ⟨⟨NX, NB, NX, NB, by simp [ChS.new], hNB, Nat.le_refl _, BM⟩, by simpa [ChS.new, byteV] using RX, by simpa [ChS.new] using RB, RF.at_ hfm hfx hfb, h1, h2, hxb, (List.length_replicate ..).trans HLX.out, (List.length_replicate ..).trans HLK.out, rfl, HP.out⟩, by omega, by omega, by omega⟩, HB0⟩
    · refine wp_makeK _ _ rfl a NB rfl rfl hNB (by omega) ?_
      intro wN gb RB hqb hb
      have hgb := Nat.le_trans HS hqb
      (try have hxb := Nat.ne_of_lt (Nat.lt_of_lt_of_le RX.lt hqb))
      (try have hfb := RF.ne hqb)
      (try replace RF := RF.below_ hb)
      (try replace HSF := HSF.next hb)
      (try replace B3 := B3.below hb B3.lt)
      (try replace RX := RX.below hb)
      replace G1 := G1.below hb G1.lt
      clear HY
      have HY := cells5 G1
      replace HB0 := btr HB0 HB0.size hb
      replace HS := Nat.le_trans HS hb.size
      refine hK.out _ _ ?_ (fun hNew => ?_)
      · (first | exact HY | assumption)
      clear hK K hHeld
      have hHeld := hNew
      clear hNew
      try simp only [Act.put, pz1, pz2, pz3]
      refine wpAnyH_ready (rs := [3]) (by kernel_rfl) (by simp) ?_
      refine AllReadyH.cons (o := ⟨some 21, .buildSlice 37 1 #[(0, .const (.int .u8 255))], 37, "chip.go:43", #[], none⟩) rfl (fun K hK => ?_) AllReadyH.nil
      refine wp_build1b _ rfl 255 rfl ?_
      intro wN b3 B3 hq hb
      (try replace RF := RF.below_ hb)
      (try replace HSF := HSF.next hb)
      (try replace RX := RX.below hb)
      (try replace RB := RB.below hb)
      replace G1 := G1.below hb G1.lt
      clear HY
      have HY := cells5 G1
      replace HB0 := btr HB0 HB0.size hb
      replace HS := Nat.le_trans HS hb.size
      refine hK.out _ _ ?_ (fun hNew => ?_)
      · (first | exact HY | assumption)
      clear hK K hHeld
      have hHeld := hNew
      clear hNew
      try simp only [Act.put, pz1, pz2, pz3]
      refine wpAnyH_ready (rs := [5]) (by kernel_rfl) (by simp) ?_
      refine AllReadyH.cons (o := ⟨some 23, .call { callee := .value (.func 69), args := #[.tmp 21, .tmp 22], argTypes := #[37, 3] }, 37, "chip.go:46", #[⟨3, .data⟩, ⟨4, .data⟩, ⟨2, .chain⟩], none⟩) rfl (fun K hK => ?_) AllReadyH.nil
      go_simp
      (go_at_call 69; ((with_reducible refine (rptB_b 255 b3 NX _ B3 n1 n2).mono ?_); rintro e' wN ⟨gx, rfl, hqx, RX, hb⟩))
      go_wp2_with fail
      have hgx := Nat.le_trans HS hqx
      (try have hxb := Nat.ne_of_gt (Nat.lt_of_lt_of_le RB.lt hqx))
      (try have hfx := RF.ne hqx)
      (try replace RF := RF.below_ hb)
      (try replace HSF := HSF.next hb)
      (try replace B3 := B3.below hb B3.lt)
      (try replace RB := RB.below hb)
      replace G1 := G1.below hb G1.lt
      clear HY
      have HY := cells5 G1
      replace HB0 := btr HB0 HB0.size hb
      replace HS := Nat.le_trans HS hb.size
      refine hK.out _ _ ?_ (fun hNew => ?_)
      · (first | exact HY | assumption)
      clear hK K hHeld
      have hHeld := hNew
      clear hNew
      try simp only [Act.put, pz1, pz2, pz3]
      refine tk 9 ?_; try simp only [Act.put, pz1, pz2, pz3]
      refine wpAnyH_ready (rs := [10]) (by kernel_rfl) (by simp) ?_
      refine AllReadyH.cons (o := ⟨some 28, .box 81 (.tmp 27), 27, "chip.go:43", #[⟨9, .data⟩], none⟩) rfl (fun K hK => ?_) AllReadyH.nil
      refine wp_boxF _ rfl rfl ?_
      intro wN m BM hqm hb
      have hm := Nat.le_trans HS hqm
      have h1 : m ≠ gx := Nat.ne_of_gt (Nat.lt_of_lt_of_le RX.lt hqm)
      have h2 : m ≠ gb := Nat.ne_of_gt (Nat.lt_of_lt_of_le RB.lt hqm)
      have hfm := RF.ne hqm
      (try replace RF := RF.below_ hb)
      (try replace HSF := HSF.next hb)
      (try replace B3 := B3.below hb B3.lt)
      (try replace RX := RX.below hb)
      (try replace RB := RB.below hb)
      replace G1 := G1.below hb G1.lt
      clear HY
      have HY := cells5 G1
      replace HB0 := btr HB0 HB0.size hb
      replace HS := Nat.le_trans HS hb.size
      refine hK.out _ _ ?_ (fun hNew => ?_)
      · (first | exact HY | assumption)
      clear hK K hHeld
      have hHeld := hNew
      clear hNew
      try simp only [Act.put, pz1, pz2, pz3]
      refine tk 11 ?_; try simp only [Act.put, pz1, pz2, pz3]
      refine wpAnyH_done (by kernel_rfl) ?_ _
      refine NoPanic.normal ?_
      go_wp2_with fail
      go_ret
      refine ⟨⟨m, gx, gb, AF, cf, rfl, ⟨⟨NX, NB, NX, NB, by simp [ChS.new], hNB, Nat.le_refl _, BM⟩, by simpa [ChS.new, byteV] using RX, by simpa [ChS.new] using RB, RF.at_ hfm hfx hfb, h1, h2, hxb, (List.length_replicate ..).trans HLX.out, (List.length_replicate ..).trans HLK.out, rfl, HP.out⟩, by omega, by omega, by omega⟩, HB0⟩
  · refine wp_build1b _ rfl 255 rfl ?_
    intro wN b3 B3 hq hb
    (try replace RF := RF.below_ hb)
    (try replace HSF := HSF.next hb)
    (try replace RX := RX.below hb)
    (try replace RB := RB.below hb)
    replace G1 := G1.below hb G1.lt
    clear HY
    have HY := cells5 G1
    replace HB0 := btr HB0 HB0.size hb
    replace HS := Nat.le_trans HS hb.size
    refine hK.out _ _ ?_ (fun hNew => ?_)
    · (first | exact HY | assumption)
    clear hK K hHeld
    have hHeld := hNew
    clear hNew
    try simp only [Act.put, pz1, pz2, pz3]
    refine wpAnyH_ready (rs := [2, 8]) (by kernel_rfl) (by simp) ?_
    refine (AllReadyH.cons (o := ⟨some 20, .call { callee := .value (.func 68), args := #[.tmp 19], argTypes := #[44] }, 44, "chip.go:45", #[⟨1, .data⟩], none⟩) rfl (fun K hK => ?_) (AllReadyH.cons (o := ⟨some 26, .makeSlice 79 (.tmp 25) (.tmp 25), 79, "chip.go:43", #[⟨7, .data⟩, ⟨7, .data⟩], none⟩) rfl (fun K hK => ?_) AllReadyH.nil))
    · go_simp
      (go_at_call 68; ((with_reducible refine (fclone_any fs _ _ _ HSF hfl).mono ?_); rintro e' wN ⟨⟨AF, cf, rfl, RF, hqf⟩, hb⟩))
      go_wp2_with fail
      (try have hfx := FNe.fresh hqf RX.lt)
      (try have hfb := FNe.fresh hqf RB.lt)
      (try replace HSF := HSF.next hb)
      (try replace B3 := B3.below hb B3.lt)
      (try replace RX := RX.below hb)
      (try replace RB := RB.below hb)
      replace G1 := G1.below hb G1.lt
      clear HY
      have HY := cells5 G1
      replace HB0 := btr HB0 HB0.size hb
      replace HS := Nat.le_trans HS hb.size
      refine hK.out _ _ ?_ (fun hNew => ?_)
      · (first | exact HY | assumption)
      clear hK K hHeld
      have hHeld := hNew
      clear hNew
      try simp only [Act.put, pz1, pz2, pz3]
      refine wpAnyH_ready (rs := [5, 8]) (by kernel_rfl) (by simp) ?_
      refine (AllReadyH.cons (o := ⟨some 23, .call { callee := .value (.func 69), args := #[.tmp 21, .tmp 22], argTypes := #[37, 3] }, 37, "chip.go:46", #[⟨3, .data⟩, ⟨4, .data⟩, ⟨2, .chain⟩], none⟩) rfl (fun K hK => ?_) (AllReadyH.cons (o := ⟨some 26, .makeSlice 79 (.tmp 25) (.tmp 25), 79, "chip.go:43", #[⟨7, .data⟩, ⟨7, .data⟩], none⟩) rfl (fun K hK => ?_) AllReadyH.nil))
      · go_simp
        (go_at_call 69; ((with_reducible refine (rptB_b 255 b3 NX _ B3 n1 n2).mono ?_); rintro e' wN ⟨gx, rfl, hqx, RX, hb⟩))
        go_wp2_with fail
        have hgx := Nat.le_trans HS hqx
        (try have hxb := Nat.ne_of_gt (Nat.lt_of_lt_of_le RB.lt hqx))
        (try have hfx := RF.ne hqx)
        (try replace RF := RF.below_ hb)
        (try replace HSF := HSF.next hb)
        (try replace B3 := B3.below hb B3.lt)
        (try replace RB := RB.below hb)
        replace G1 := G1.below hb G1.lt
        clear HY
        have HY := cells5 G1
        replace HB0 := btr HB0 HB0.size hb
        replace HS := Nat.le_trans HS hb.size
        refine hK.out _ _ ?_ (fun hNew => ?_)
        · (first | exact HY | assumption)
        clear hK K hHeld
        have hHeld := hNew
        clear hNew
        try simp only [Act.put, pz1, pz2, pz3]
        refine wpAnyH_ready (rs := [8]) (by kernel_rfl) (by simp) ?_
        refine AllReadyH.cons (o := ⟨some 26, .makeSlice 79 (.tmp 25) (.tmp 25), 79, "chip.go:43", #[⟨7, .data⟩, ⟨7, .data⟩], none⟩) rfl (fun K hK => ?_) AllReadyH.nil
        refine wp_makeK _ _ rfl a NB rfl rfl hNB (by omega) ?_
        intro wN gb RB hqb hb
        have hgb := Nat.le_trans HS hqb
        (try have hxb := Nat.ne_of_lt (Nat.lt_of_lt_of_le RX.lt hqb))
        (try have hfb := RF.ne hqb)
        (try replace RF := RF.below_ hb)
        (try replace HSF := HSF.next hb)
        (try replace B3 := B3.below hb B3.lt)
        (try replace RX := RX.below hb)
        replace G1 := G1.below hb G1.lt
        clear HY
        have HY := cells5 G1
        replace HB0 := btr HB0 HB0.size hb
        replace HS := Nat.le_trans HS hb.size
        refine hK.out _ _ ?_ (fun hNew => ?_)
        · (first | exact HY | assumption)
        clear hK K hHeld
        have hHeld := hNew
        clear hNew
        try simp only [Act.put, pz1, pz2, pz3]
        refine tk 9 ?_; try simp only [Act.put, pz1, pz2, pz3]
        refine wpAnyH_ready (rs := [10]) (by kernel_rfl) (by simp) ?_
        refine AllReadyH.cons (o := ⟨some 28, .box 81 (.tmp 27), 27, "chip.go:43", #[⟨9, .data⟩], none⟩) rfl (fun K hK => ?_) AllReadyH.nil
        refine wp_boxF _ rfl rfl ?_
        intro wN m BM hqm hb
        have hm := Nat.le_trans HS hqm
        have h1 : m ≠ gx := Nat.ne_of_gt (Nat.lt_of_lt_of_le RX.lt hqm)
        have h2 : m ≠ gb := Nat.ne_of_gt (Nat.lt_of_lt_of_le RB.lt hqm)
        have hfm := RF.ne hqm
        (try replace RF := RF.below_ hb)
        (try replace HSF := HSF.next hb)
        (try replace B3 := B3.below hb B3.lt)
        (try replace RX := RX.below hb)
        (try replace RB := RB.below hb)
        replace G1 := G1.below hb G1.lt
        clear HY
        have HY := cells5 G1
        replace HB0 := btr HB0 HB0.size hb
        replace HS := Nat.le_trans HS hb.size
        refine hK.out _ _ ?_ (fun hNew => ?_)
        · (first | exact HY | assumption)
        clear hK K hHeld
        have hHeld := hNew
        clear hNew
        try simp only [Act.put, pz1, pz2, pz3]
        refine tk 11 ?_; try simp only [Act.put, pz1, pz2, pz3]
        refine wpAnyH_done (by kernel_rfl) ?_ _
        refine NoPanic.normal ?_
        go_wp2_with fail
        go_ret
        refine ⟨⟨m, gx, gb, AF, cf, rfl, ⟨⟨NX, NB, NX, NB, by simp [ChS.new], hNB, Nat.le_refl _, BM⟩, by simpa [ChS.new, byteV] using RX, by simpa [ChS.new] using RB, RF.at_ hfm hfx hfb, h1, h2, hxb, (List.length_replicate ..).trans HLX.out, (List.length_replicate ..).trans HLK.out, rfl, HP.out⟩, by omega, by omega, by omega⟩, HB0⟩
      · refine wp_makeK _ _ rfl a NB rfl rfl hNB (by omega) ?_
        intro wN gb RB hqb hb
        have hgb := Nat.le_trans HS hqb
        (try have hxb := Nat.ne_of_lt (Nat.lt_of_lt_of_le RX.lt hqb))
        (try have hfb := RF.ne hqb)
        (try replace RF := RF.below_ hb)
        (try replace HSF := HSF.next hb)
        (try replace B3 := B3.below hb B3.lt)
        (try replace RX := RX.below hb)
        replace G1 := G1.below hb G1.lt
        clear HY
        have HY := cells5 G1
        replace HB0 := btr HB0 HB0.size hb
        replace HS := Nat.le_trans HS hb.size
        refine hK.out _ _ ?_ (fun hNew => ?_)
        · (first | exact HY | assumption)
        clear hK K hHeld
        have hHeld := hNew
        clear hNew
        try simp only [Act.put, pz1, pz2, pz3]
        refine wpAnyH_ready (rs := [5]) (by kernel_rfl) (by simp) ?_
        refine AllReadyH.cons (o := ⟨some 23, .call { callee := .value (.func 69), args := #[.tmp 21, .tmp 22], argTypes := #[37, 3] }, 37, "chip.go:46", #[⟨3, .data⟩, ⟨4, .data⟩, ⟨2, .chain⟩], none⟩) rfl (fun K hK => ?_) AllReadyH.nil
        go_simp
        (go_at_call 69; ((with_reducible refine (rptB_b 255 b3 NX _ B3 n1 n2).mono ?_); rintro e' wN ⟨gx, rfl, hqx, RX, hb⟩))
        go_wp2_with fail
        have hgx := Nat.le_trans HS hqx
        (try have hxb := Nat.ne_of_gt (Nat.lt_of_lt_of_le RB.lt hqx))
        (try have hfx := RF.ne hqx)
        (try replace RF := RF.below_ hb)
        (try replace HSF := HSF.next hb)
        (try replace B3 := B3.below hb B3.lt)
        (try replace RB := RB.below hb)
        replace G1 := G1.below hb G1.lt
        clear HY
        have HY := cells5 G1
        replace HB0 := btr HB0 HB0.size hb
        replace HS := Nat.le_trans HS hb.size
        refine hK.out _ _ ?_ (fun hNew => ?_)
        · (first | exact HY | assumption)
        clear hK K hHeld
        have hHeld := hNew
        clear hNew
        try simp only [Act.put, pz1, pz2, pz3]
        refine tk 9 ?_; try simp only [Act.put, pz1, pz2, pz3]
        refine wpAnyH_ready (rs := [10]) (by kernel_rfl) (by simp) ?_
        refine AllReadyH.cons (o := ⟨some 28, .box 81 (.tmp 27), 27, "chip.go:43", #[⟨9, .data⟩], none⟩) rfl (fun K hK => ?_) AllReadyH.nil
        refine wp_boxF _ rfl rfl ?_
        intro wN m BM hqm hb
        have hm := Nat.le_trans HS hqm
        have h1 : m ≠ gx := Nat.ne_of_gt (Nat.lt_of_lt_of_le RX.lt hqm)
        have h2 : m ≠ gb := Nat.ne_of_gt (Nat.lt_of_lt_of_le RB.lt hqm)
        have hfm := RF.ne hqm
        (try replace RF := RF.below_ hb)
        (try replace HSF := HSF.next hb)
        (try replace B3 := B3.below hb B3.lt)
        (try replace RX := RX.below hb)
        (try replace RB := RB.below hb)
        replace G1 := G1.below hb G1.lt
        clear HY
        have HY := cells5 G1
        replace HB0 := btr HB0 HB0.size hb
        replace HS := Nat.le_trans HS hb.size
        refine hK.out _ _ ?_ (fun hNew => ?_)
        · (first | exact HY | assumption)
        clear hK K hHeld
        have hHeld := hNew
        clear hNew
        try simp only [Act.put, pz1, pz2, pz3]
        refine tk 11 ?_; try simp only [Act.put, pz1, pz2, pz3]
        refine wpAnyH_done (by kernel_rfl) ?_ _
        refine NoPanic.normal ?_
        go_wp2_with fail
        go_ret
        refine ⟨⟨m, gx, gb, AF, cf, rfl, ⟨⟨NX, NB, NX, NB, by simp [ChS.new], hNB, Nat.le_refl _, BM⟩, by simpa [ChS.new, byteV] using RX, by simpa [ChS.new] using RB, RF.at_ hfm hfx hfb, h1, h2, hxb, (List.length_replicate ..).trans HLX.out, (List.length_replicate ..).trans HLK.out, rfl, HP.out⟩, by omega, by omega, by omega⟩, HB0⟩
    · refine wp_makeK _ _ rfl a NB rfl rfl hNB (by omega) ?_
      intro wN gb RB hqb hb
      have hgb := Nat.le_trans HS hqb
      (try have hxb := Nat.ne_of_lt (Nat.lt_of_lt_of_le RX.lt hqb))
      (try have hfb := RF.ne hqb)
      (try replace RF := RF.below_ hb)
      (try replace HSF := HSF.next hb)
      (try replace B3 := B3.below hb B3.lt)
      (try replace RX := RX.below hb)
      replace G1 := G1.below hb G1.lt
      clear HY
      have HY := cells5 G1
      replace HB0 := btr HB0 HB0.size hb
      replace HS := Nat.le_trans HS hb.size
      refine hK.out _ _ ?_ (fun hNew => ?_)
      · (first | exact HY | assumption)
      clear hK K hHeld
      have hHeld := hNew
      clear hNew
      try simp only [Act.put, pz1, pz2, pz3]
      refine wpAnyH_ready (rs := [2]) (by kernel_rfl) (by simp) ?_
      refine AllReadyH.cons (o := ⟨some 20, .call { callee := .value (.func 68), args := #[.tmp 19], argTypes := #[44] }, 44, "chip.go:45", #[⟨1, .data⟩], none⟩) rfl (fun K hK => ?_) AllReadyH.nil
      go_simp
      (go_at_call 68; ((with_reducible refine (fclone_any fs _ _ _ HSF hfl).mono ?_); rintro e' wN ⟨⟨AF, cf, rfl, RF, hqf⟩, hb⟩))
      go_wp2_with fail
      (try have hfx := FNe.fresh hqf RX.lt)
      (try have hfb := FNe.fresh hqf RB.lt)
      (try replace HSF := HSF.next hb)
      (try replace B3 := B3.below hb B3.lt)
      (try replace RX := RX.below hb)
      (try replace RB := RB.below hb)
      replace G1 := G1.below hb G1.lt
      clear HY
      have HY := cells5 G1
      replace HB0 := btr HB0 HB0.size hb
      replace HS := Nat.le_trans HS hb.size
      refine hK.out _ _ ?_ (fun hNew => ?_)
      · (first | exact HY | assumption)
      clear hK K hHeld
      have hHeld := hNew
      clear hNew
      try simp only [Act.put, pz1, pz2, pz3]
      refine wpAnyH_ready (rs := [5]) (by kernel_rfl) (by simp) ?_
      refine AllReadyH.cons (o := ⟨some 23, .call { callee := .value (.func 69), args := #[.tmp 21, .tmp 22], argTypes := #[37, 3] }, 37, "chip.go:46", #[⟨3, .data⟩, ⟨4, .data⟩, ⟨2, .chain⟩], none⟩) rfl (fun K hK => ?_) AllReadyH.nil
      go_simp
      (go_at_call 69; ((with_reducible refine (rptB_b 255 b3 NX _ B3 n1 n2).mono ?_); rintro e' wN ⟨gx, rfl, hqx, RX, hb⟩))
      go_wp2_with fail
      have hgx := Nat.le_trans HS hqx
      (try have hxb := Nat.ne_of_gt (Nat.lt_of_lt_of_le RB.lt hqx))
      (try have hfx := RF.ne hqx)
      (try replace RF := RF.below_ hb)
      (try replace HSF := HSF.next hb)
      (try replace B3 := B3.below hb B3.lt)
      (try replace RB := RB.below hb)
      replace G1 := G1.below hb G1.lt
      clear HY
      have HY := cells5 G1
      replace HB0 := btr HB0 HB0.size hb
      replace HS := Nat.le_trans HS hb.size
      refine hK.out _ _ ?_ (fun hNew => ?_)
      · (first | exact HY | assumption)
      clear hK K hHeld
      have hHeld := hNew
      clear hNew
      try simp only [Act.put, pz1, pz2, pz3]
      refine tk 9 ?_; try simp only [Act.put, pz1, pz2, pz3]
      refine wpAnyH_ready (rs := [10]) (by kernel_rfl) (by simp) ?_
      refine AllReadyH.cons (o := ⟨some 28, .box 81 (.tmp 27), 27, "chip.go:43", #[⟨9, .data⟩], none⟩) rfl (fun K hK => ?_) AllReadyH.nil
      refine wp_boxF _ rfl rfl ?_
      intro wN m BM hqm hb
      have hm := Nat.le_trans HS hqm
      have h1 : m ≠ gx := Nat.ne_of_gt (Nat.lt_of_lt_of_le RX.lt hqm)
      have h2 : m ≠ gb := Nat.ne_of_gt (Nat.lt_of_lt_of_le RB.lt hqm)
      have hfm := RF.ne hqm
      (try replace RF := RF.below_ hb)
      (try replace HSF := HSF.next hb)
      (try replace B3 := B3.below hb B3.lt)
      (try replace RX := RX.below hb)
      (try replace RB := RB.below hb)
      replace G1 := G1.below hb G1.lt
      clear HY
      have HY := cells5 G1
      replace HB0 := btr HB0 HB0.size hb
      replace HS := Nat.le_trans HS hb.size
      refine hK.out _ _ ?_ (fun hNew => ?_)
      · (first | exact HY | assumption)
      clear hK K hHeld
      have hHeld := hNew
      clear hNew
      try simp only [Act.put, pz1, pz2, pz3]
      refine tk 11 ?_; try simp only [Act.put, pz1, pz2, pz3]
      refine wpAnyH_done (by kernel_rfl) ?_ _
      refine NoPanic.normal ?_
      go_wp2_with fail
      go_ret
      refine ⟨⟨m, gx, gb, AF, cf, rfl, ⟨⟨NX, NB, NX, NB, by simp [ChS.new], hNB, Nat.le_refl _, BM⟩, by simpa [ChS.new, byteV] using RX, by simpa [ChS.new] using RB, RF.at_ hfm hfx hfb, h1, h2, hxb, (List.length_replicate ..).trans HLX.out, (List.length_replicate ..).trans HLK.out, rfl, HP.out⟩, by omega, by omega, by omega⟩, HB0⟩
  · refine wp_makeK _ _ rfl a NB rfl rfl hNB (by omega) ?_
    intro wN gb RB hqb hb
    have hgb := Nat.le_trans HS hqb
    (try have hxb := Nat.ne_of_lt (Nat.lt_of_lt_of_le RX.lt hqb))
    (try have hfb := RF.ne hqb)
    (try replace RF := RF.below_ hb)
    (try replace HSF := HSF.next hb)
    (try replace B3 := B3.below hb B3.lt)
    (try replace RX := RX.below hb)
    replace G1 := G1.below hb G1.lt
    clear HY
    have HY := cells5 G1
    replace HB0 := btr HB0 HB0.size hb
    replace HS := Nat.le_trans HS hb.size
    refine hK.out _ _ ?_ (fun hNew => ?_)
    · (first | exact HY | assumption)
    clear hK K hHeld
    have hHeld := hNew
    clear hNew
    try simp only [Act.put, pz1, pz2, pz3]
    refine wpAnyH_ready (rs := [2, 3]) (by kernel_rfl) (by simp) ?_
    refine (AllReadyH.cons (o := ⟨some 20, .call { callee := .value (.func 68), args := #[.tmp 19], argTypes := #[44] }, 44, "chip.go:45", #[⟨1, .data⟩], none⟩) rfl (fun K hK => ?_) (AllReadyH.cons (o := ⟨some 21, .buildSlice 37 1 #[(0, .const (.int .u8 255))], 37, "chip.go:43", #[], none⟩) rfl (fun K hK => ?_) AllReadyH.nil))
    · go_simp
      (go_at_call 68; ((with_reducible refine (fclone_any fs _ _ _ HSF hfl).mono ?_); rintro e' wN ⟨⟨AF, cf, rfl, RF, hqf⟩, hb⟩))
      go_wp2_with fail
      (try have hfx := FNe.fresh hqf RX.lt)
      (try have hfb := FNe.fresh hqf RB.lt)
      (try replace HSF := HSF.next hb)
      (try replace B3 := B3.below hb B3.lt)
      (try replace RX := RX.below hb)
      (try replace RB := RB.below hb)
      replace G1 := G1.below hb G1.lt
      clear HY
      have HY := cells5 G1
      replace HB0 := btr HB0 HB0.size hb
      replace HS := Nat.le_trans HS hb.size
      refine hK.out _ _ ?_ (fun hNew => ?_)
      · (first | exact HY | assumption)
      clear hK K hHeld
      have hHeld := hNew
      clear hNew
      try simp only [Act.put, pz1, pz2, pz3]
      refine wpAnyH_ready (rs := [3]) (by kernel_rfl) (by simp) ?_
      refine AllReadyH.cons (o := ⟨some 21, .buildSlice 37 1 #[(0, .const (.int .u8 255))], 37, "chip.go:43", #[], none⟩) rfl (fun K hK => ?_) AllReadyH.nil
      refine wp_build1b _ rfl 255 rfl ?_
      intro wN b3 B3 hq hb
      (try replace RF := RF.below_ hb)
      (try replace HSF := HSF.next hb)
      (try replace RX := RX.below hb)
      (try replace RB := RB.below hb)
      replace G1 := G1.below hb G1.lt
      clear HY
      have HY := cells5 G1
      replace HB0 := btr HB0 HB0.size hb
      replace HS := Nat.le_trans HS hb.size
      refine hK.out _ _ ?_ (fun hNew => ?_)
      · (first | exact HY | assumption)
      clear hK K hHeld
      have hHeld := hNew
      clear hNew
      try simp only [Act.put, pz1, pz2, pz3]
      refine wpAnyH_ready (rs := [5]) (by kernel_rfl) (by simp) ?_
      refine AllReadyH.cons (o := ⟨some 23, .call { callee := .value (.func 69), args := #[.tmp 21, .tmp 22], argTypes := #[37, 3] }, 37, "chip.go:46", #[⟨3, .data⟩, ⟨4, .data⟩, ⟨2, .chain⟩], none⟩) rfl (fun K hK => ?_) AllReadyH.nil
      go_simp
      (go_at_call 69; ((with_reducible refine (rptB_b 255 b3 NX _ B3 n1 n2).mono ?_); rintro e' wN ⟨gx, rfl, hqx, RX, hb⟩))
      go_wp2_with fail
      have hgx := Nat.le_trans HS hqx
      (try have hxb := Nat.ne_of_gt (Nat.lt_of_lt_of_le RB.lt hqx))
      (try have hfx := RF.ne hqx)
      (try replace RF := RF.below_ hb)
      (try replace HSF := HSF.next hb)
      (try replace B3 := B3.below hb B3.lt)
      (try replace RB := RB.below hb)
      replace G1 := G1.below hb G1.lt
      clear HY
      have HY := cells5 G1
      replace HB0 := btr HB0 HB0.size hb
      replace HS := Nat.le_trans HS hb.size
      refine hK.out _ _ ?_ (fun hNew => ?_)
      · (first | exact HY | assumption)
      clear hK K hHeld
      have hHeld := hNew
      clear hNew
      try simp only [Act.put, pz1, pz2, pz3]
      refine tk 9 ?_; try simp only [Act.put, pz1, pz2, pz3]
      refine wpAnyH_ready (rs := [10]) (by kernel_rfl) (by simp) ?_
      refine AllReadyH.cons (o := ⟨some 28, .box 81 (.tmp 27), 27, "chip.go:43", #[⟨9, .data⟩], none⟩) rfl (fun K hK => ?_) AllReadyH.nil
      refine wp_boxF _ rfl rfl ?_
      intro wN m BM hqm hb
      have hm := Nat.le_trans HS hqm
      have h1 : m ≠ gx := Nat.ne_of_gt (Nat.lt_of_lt_of_le RX.lt hqm)
      have h2 : m ≠ gb := Nat.ne_of_gt (Nat.lt_of_lt_of_le RB.lt hqm)
      have hfm := RF.ne hqm
      (try replace RF := RF.below_ hb)
      (try replace HSF := HSF.next hb)
      (try replace B3 := B3.below hb B3.lt)
      (try replace RX := RX.below hb)
      (try replace RB := RB.below hb)
      replace G1 := G1.below hb G1.lt
      clear HY
      have HY := cells5 G1
      replace HB0 := btr HB0 HB0.size hb
      replace HS := Nat.le_trans HS hb.size
      refine hK.out _ _ ?_ (fun hNew => ?_)
      · (first | exact HY | assumption)
      clear hK K hHeld
      have hHeld := hNew
      clear hNew
      try simp only [Act.put, pz1, pz2, pz3]
      refine tk 11 ?_; try simp only [Act.put, pz1, pz2, pz3]
      refine wpAnyH_done (by kernel_rfl) ?_ _
      refine NoPanic.normal ?_
      go_wp2_with fail
      go_ret
      refine ⟨⟨m, gx, gb, AF, cf, rfl, ⟨⟨NX, NB, NX, NB, by simp [ChS.new], hNB, Nat.le_refl _, BM⟩, by simpa [ChS.new, byteV] using RX, by simpa [ChS.new] using RB, RF.at_ hfm hfx hfb, h1, h2, hxb, (List.length_replicate ..).trans HLX.out, (List.length_replicate ..).trans HLK.out, rfl, HP.out⟩, by omega, by omega, by omega⟩, HB0⟩
    · refine wp_build1b _ rfl 255 rfl ?_
      intro wN b3 B3 hq hb
      (try replace RF := RF.below_ hb)
      (try replace HSF := HSF.next hb)
      (try replace RX := RX.below hb)
      (try replace RB := RB.below hb)
      replace G1 := G1.below hb G1.lt
      clear HY
      have HY := cells5 G1
      replace HB0 := btr HB0 HB0.size hb
      replace HS := Nat.le_trans HS hb.size
      refine hK.out _ _ ?_ (fun hNew => ?_)
      · (first | exact HY | assumption)
      clear hK K hHeld
      have hHeld := hNew
      clear hNew
      try simp only [Act.put, pz1, pz2, pz3]
      refine wpAnyH_ready (rs := [2]) (by kernel_rfl) (by simp) ?_
      refine AllReadyH.cons (o := ⟨some 20, .call { callee := .value (.func 68), args := #[.tmp 19], argTypes := #[44] }, 44, "chip.go:45", #[⟨1, .data⟩], none⟩) rfl (fun K hK => ?_) AllReadyH.nil
      go_simp
      (go_at_call 68; ((with_reducible refine (fclone_any fs _ _ _ HSF hfl).mono ?_); rintro e' wN ⟨⟨AF, cf, rfl, RF, hqf⟩, hb⟩))
      go_wp2_with fail
      (try have hfx := FNe.fresh hqf RX.lt)
      (try have hfb := FNe.fresh hqf RB.lt)
      (try replace HSF := HSF.next hb)
      (try replace B3 := B3.below hb B3.lt)
      (try replace RX := RX.below hb)
      (try replace RB := RB.below hb)
      replace G1 := G1.below hb G1.lt
      clear HY
      have HY := cells5 G1
      replace HB0 := btr HB0 HB0.size hb
      replace HS := Nat.le_trans HS hb.size
      refine hK.out _ _ ?_ (fun hNew => ?_)
      · (first | exact HY | assumption)
      clear hK K hHeld
      have hHeld := hNew
      clear hNew
      try simp only [Act.put, pz1, pz2, pz3]
      refine wpAnyH_ready (rs := [5]) (by kernel_rfl) (by simp) ?_
      refine AllReadyH.cons (o := ⟨some 23, .call { callee := .value (.func 69), args := #[.tmp 21, .tmp 22], argTypes := #[37, 3] }, 37, "chip.go:46", #[⟨3, .data⟩, ⟨4, .data⟩, ⟨2, .chain⟩], none⟩) rfl (fun K hK => ?_) AllReadyH.nil
      go_simp
      (go_at_call 69; ((with_reducible refine (rptB_b 255 b3 NX _ B3 n1 n2).mono ?_); rintro e' wN ⟨gx, rfl, hqx, RX, hb⟩))
      go_wp2_with fail
      have hgx := Nat.le_trans HS hqx
      (try have hxb := Nat.ne_of_gt (Nat.lt_of_lt_of_le RB.lt hqx))
      (try have hfx := RF.ne hqx)
      (try replace RF := RF.below_ hb)
      (try replace HSF := HSF.next hb)
      (try replace B3 := B3.below hb B3.lt)
      (try replace RB := RB.below hb)
      replace G1 := G1.below hb G1.lt
      clear HY
      have HY := cells5 G1
      replace HB0 := btr HB0 HB0.size hb
      replace HS := Nat.le_trans HS hb.size
      refine hK.out _ _ ?_ (fun hNew => ?_)
      · (first | exact HY | assumption)
      clear hK K hHeld
      have hHeld := hNew
      clear hNew
      try simp only [Act.put, pz1, pz2, pz3]
      refine tk 9 ?_; try simp only [Act.put, pz1, pz2, pz3]
      refine wpAnyH_ready (rs := [10]) (by kernel_rfl) (by simp) ?_
      refine AllReadyH.cons (o := ⟨some 28, .box 81 (.tmp 27), 27, "chip.go:43", #[⟨9, .data⟩], none⟩) rfl (fun K hK => ?_) AllReadyH.nil
      refine wp_boxF _ rfl rfl ?_
      intro wN m BM hqm hb
      have hm := Nat.le_trans HS hqm
      have h1 : m ≠ gx := Nat.ne_of_gt (Nat.lt_of_lt_of_le RX.lt hqm)
      have h2 : m ≠ gb := Nat.ne_of_gt (Nat.lt_of_lt_of_le RB.lt hqm)
      have hfm := RF.ne hqm
      (try replace RF := RF.below_ hb)
      (try replace HSF := HSF.next hb)
      (try replace B3 := B3.below hb B3.lt)
      (try replace RX := RX.below hb)
      (try replace RB := RB.below hb)
      replace G1 := G1.below hb G1.lt
      clear HY
      have HY := cells5 G1
      replace HB0 := btr HB0 HB0.size hb
      replace HS := Nat.le_trans HS hb.size
      refine hK.out _ _ ?_ (fun hNew => ?_)
      · (first | exact HY | assumption)
      clear hK K hHeld
      have hHeld := hNew
      clear hNew
      try simp only [Act.put, pz1, pz2, pz3]
      refine tk 11 ?_; try simp only [Act.put, pz1, pz2, pz3]
      refine wpAnyH_done (by kernel_rfl) ?_ _
      refine NoPanic.normal ?_
      go_wp2_with fail
      go_ret
      refine ⟨⟨m, gx, gb, AF, cf, rfl, ⟨⟨NX, NB, NX, NB, by simp [ChS.new], hNB, Nat.le_refl _, BM⟩, by simpa [ChS.new, byteV] using RX, by simpa [ChS.new] using RB, RF.at_ hfm hfx hfb, h1, h2, hxb, (List.length_replicate ..).trans HLX.out, (List.length_replicate ..).trans HLK.out, rfl, HP.out⟩, by omega, by omega, by omega⟩, HB0⟩
end Go.Proofs.YtkpcohfdcilfcaaGreat
namespace Go.Proofs.YtkpcohfdcilfcaaGreat
open Go.ChangeShapes Go.WideShapes Go.ChangeAt Go.RowKit
theorem prog_len (m gx gb : Nat) (Af : Option Addr) (nf cf : Nat) (a b c d e : Int) (fs : List Flt) (RW : Nat) (x y : Int) (A : Option Addr) (nb cA : Nat) (w : World) (s : ChS) (hC : ChipW w m gx gb Af nf cf a b c d e fs s) (ho : s.on = true) (ht : Hid (thereB a b x y = true)) (HRW : Hid ((RW : Int) = c + 16)) (hne : nb ≠ RW) : Calls Tryz.prog 162 #[.pointer (some ⟨m, 0, none⟩), .agg #[.int .i64 x, .int .i64 y], .slice A nb cA] w fun e' w' => e' = .returned (.int .i64 2) ∧ Below w.heap.size w w' := by
  have HM := Lib.hid (planMay_bd hC.may).1
  have HB0 : Below w.heap.size w (w.alloc (.cells #[.int .i64 x, .int .i64 y] 68)) := (Below.refl _ _).alloc (Nat.le_refl _) _
  have G1 : Blk (w.alloc (.cells #[.int .i64 x, .int .i64 y] 68)) w.heap.size 68 #[.int .i64 x, .int .i64 y] := Blk.new_ _ _ _
  have z0 : (w.alloc (.cells #[.int .i64 x, .int .i64 y] 68)).cell? ⟨w.heap.size, 0, none⟩ = some (.int .i64 x) := G1.cell_ 0
  have z1 : (w.alloc (.cells #[.int .i64 x, .int .i64 y] 68)).cell? ⟨w.heap.size, 1, none⟩ = some (.int .i64 y) := G1.cell_ 1
  have hC := hC.below HB0
  have y10 := cell10 hC
  rw [ho] at y10
  clear ho
  have hnn : ((nb : Int) == (RW : Int)) = false := by simp; omega
  have hnm : ((nb : Int) != (RW : Int)) = true := by simp; omega
  clear hne
  go_enter Tryz.func162, Tryz.ntmps162
  go_wp2_with (first
    | (go_at_call 73; ((with_reducible refine (hasPage_b _ _ _ _ _ _ _ _ _ _ _ _ _ _ _ _ _ hC ht).mono ?_); rintro e' wN ⟨rfl, hb⟩; replace hC := hC.below hb; replace HB0 := btr HB0 HB0.size hb; obtain ⟨y0, y1, y2, y3, y4⟩ := geo5 hC))
    | (go_at_call 67; ((with_reducible refine (raw_bb _ _ _ _ _ RW _ HM HRW).mono ?_); rintro e' wN ⟨rfl, hb⟩; replace HB0 := btr HB0 HB0.size hb)))
  go_ret
  exact ⟨rfl, HB0⟩
structure Fine (s : ChS) (n : Int) : Prop where
  bnd : s.Bnd n
  cby : 0 ≤ s.cby
  fill : s.fill < 256
def ChS.progZ (s : ChS) (a b c : Int) (fs : List Flt) (x y : Int) (L : Nat) : Int :=
  if s.on then (if thereB a b x y && decide ((L : Int) = c + 16) then (if s.cutB then 9 else s.wrong a fs x.toNat y.toNat) else 2) else 9
def ChS.progS (s : ChS) (a b c : Int) (fs : List Flt) (x y : Int) (bs : List Nat) : ChS :=
  if s.on && (thereB a b x y && decide ((bs.length : Int) = c + 16)) then
    (if s.wrong a fs x.toNat y.toNat = 0 then (if s.cutB then s.progCut x.toNat (x * b + y).toNat bs.length (bs.take (min bs.length s.cby.toNat)) else s.prog x.toNat (x * b + y).toNat bs.length bs) else s.tick)
  else s
theorem there_nat {a b x y : Int} (h : thereB a b x y = true) : ∃ k l : Nat, x = (k : Int) ∧ y = (l : Int) ∧ (k : Int) < a ∧ (l : Int) < b := by
  obtain ⟨h1, h2, h3, h4⟩ := there_bd h
  exact ⟨x.toNat, y.toNat, by omega, by omega, by omega, by omega⟩
def ChS.eraseZ (s : ChS) (a : Int) (fs : List Flt) (x : Int) : Int :=
  if s.on then (if inB a x then (if s.cutB then 9 else (if failedB a fs s x then 10 else 0)) else 2) else 9
def ChS.eraseS (s : ChS) (a b c : Int) (fs : List Flt) (x : Int) : ChS :=
  if s.on && inB a x then (if failedB a fs s x then s.tick else s.tick.wipe b x.toNat (b * (c + 16)).toNat (if s.cutB then s.fill else 255)) else s
theorem arm_all (m gx gb : Nat) (Af : Option Addr) (nf cf : Nat) (a b c d e : Int) (fs : List Flt) (xo xb : Int) (xf : Nat) (n : Int) (w : World) (s : ChS) (hC : ChipW w m gx gb Af nf cf a b c d e fs s) (hs : Fine s n) (hn : n ≤ 900000000) :
    Calls Tryz.prog 38 #[.pointer (some ⟨m, 0, none⟩), .agg #[.int .i64 xo, .int .i64 xb, .int .u8 (xf : Nat)]] w fun e' w' => e' = .returned (.int .i64 (s.armC xo xb)) ∧ ChipW w' m gx gb Af nf cf a b c d e fs (s.arm xo xb xf) ∧ Tch (chB m gx gb) w w' := by
  cases ho : s.on
  · have e1 : s.armC xo xb = 9 := by simp [ChS.armC, ho]
    have e2 : s.arm xo xb xf = s := by simp [ChS.arm, ho]
    rw [e1, e2]
    refine (arm_off m gx gb Af nf cf a b c d e fs xo xb xf w s hC ho).mono ?_
    rintro e' w' ⟨rfl, hb⟩
    exact ⟨rfl, hC.below hb, Tch.of_below hb⟩
  by_cases hx : 1 ≤ xo ∧ xo ≤ 1073741824 ∧ 0 ≤ xb ∧ xb ≤ 1073741824
  · obtain ⟨x1, x2, x3, x4⟩ := hx
    have ha : armOkB xo xb = true := by unfold armOkB; simp; omega
    have e1 : s.armC xo xb = 0 := by simp [ChS.armC, ho, ha]
    have e2 : s.arm xo xb xf = { s with armed := true, turn := s.ops + xo, cop := xo, cby := xb, fill := xf } := by simp [ChS.arm, ho, ha]
    rw [e1, e2]
    exact arm_yes m gx gb Af nf cf a b c d e fs xo xb xf n w s hC hs.bnd (by omega) ho x1 x2 x3 x4
  · have ha : armOkB xo xb = false := by
      cases h : armOkB xo xb
      · rfl
      · exfalso
        apply hx
        unfold armOkB at h
        simp at h
        omega
    have e1 : s.armC xo xb = 2 := by simp [ChS.armC, ho, ha]
    have e2 : s.arm xo xb xf = s := by simp [ChS.arm, ha]
    rw [e1, e2]
    refine (arm_arg m gx gb Af nf cf a b c d e fs xo xb xf w s hC ho (by omega)).mono ?_
    rintro e' w' ⟨rfl, hb⟩
    exact ⟨rfl, hC.below hb, Tch.of_below hb⟩
def ChS.readZ (s : ChS) (a b x y : Int) : Int := if s.on then (if thereB a b x y then (if s.cutB then 9 else 0) else 2) else 9
def ChS.readS (s : ChS) (a b x y : Int) : ChS := if s.on && thereB a b x y then s.tick else s
def ChS.readB (s : ChS) (a b c x y : Int) : List Nat := if s.on && (thereB a b x y && !s.cutB) then s.pageOf (x * b + y).toNat (c + 16).toNat else []
theorem read_all (m gx gb : Nat) (Af : Option Addr) (nf cf : Nat) (a b c d e : Int) (fs : List Flt) (x y : Int) (n : Int) (w : World) (s : ChS) (hC : ChipW w m gx gb Af nf cf a b c d e fs s) (hs : Fine s n) (hn : n ≤ 900000000) :
    Calls Tryz.prog 39 #[.pointer (some ⟨m, 0, none⟩), .agg #[.int .i64 x, .int .i64 y]] w fun e' w' => (∃ A c', e' = .returned (.tuple #[.slice A (s.readB a b c x y).length c', .int .i64 (s.readZ a b x y)]) ∧ (s.readB a b c x y = [] ∧ A = none ∧ c' = 0 ∨ ∃ g, A = some ⟨g, 0, none⟩ ∧ RowT w' g 5 ((s.readB a b c x y).map byteV) ∧ w.heap.size ≤ g)) ∧ ChipW w' m gx gb Af nf cf a b c d e fs (s.readS a b x y) ∧ Tch (chB m gx gb) w w' := by
  cases ho : s.on
  · have e1 : s.readZ a b x y = 9 := by simp [ChS.readZ, ho]
    have e2 : s.readS a b x y = s := by simp [ChS.readS, ho]
    have e3 : s.readB a b c x y = [] := by simp [ChS.readB, ho]
    rw [e1, e2, e3]
    refine (read_off m gx gb Af nf cf a b c d e fs x y w s hC ho).mono ?_
    rintro e' w' ⟨rfl, hb⟩
    exact ⟨⟨none, 0, rfl, Or.inl ⟨rfl, rfl, rfl⟩⟩, hC.below hb, Tch.of_below hb⟩
  cases ht : thereB a b x y
  · have e1 : s.readZ a b x y = 2 := by simp [ChS.readZ, ho, ht]
    have e2 : s.readS a b x y = s := by simp [ChS.readS, ht]
    have e3 : s.readB a b c x y = [] := by simp [ChS.readB, ht]
    rw [e1, e2, e3]
    refine (read_arg m gx gb Af nf cf a b c d e fs x y w s hC ho (Lib.hid ht)).mono ?_
    rintro e' w' ⟨rfl, hb⟩
    exact ⟨⟨none, 0, rfl, Or.inl ⟨rfl, rfl, rfl⟩⟩, hC.below hb, Tch.of_below hb⟩
  have e2 : s.readS a b x y = s.tick := by simp [ChS.readS, ht, ho]
  rw [e2]
  cases hc : s.cutB
  · obtain ⟨k, l, hx, hy, hk, hl⟩ := there_nat ht
    obtain ⟨N, RW, hnum, hrw, hfit, r1, r2, hN2, hNN⟩ := page_ok hC hk hl
    have hN' : (x * b + y).toNat = N := by rw [hx, hy, ← hNN]; omega
    have hr' : (c + 16).toNat = RW := by omega
    have e1 : s.readZ a b x y = 0 := by simp [ChS.readZ, ho, ht, hc]
    have e3 : s.readB a b c x y = s.pageOf N RW := by
      unfold ChS.readB
      rw [ho, ht, hc, hN', hr']
      rfl
    have e4 : (s.pageOf N RW).length = RW := by
      unfold ChS.pageOf
      rw [List.length_take, List.length_drop]
      omega
    rw [e1, e3, e4]
    subst hx hy
    refine (read_ok m gx gb Af nf cf a b c d e fs k l N RW n w s hC hs.bnd (by omega) ho (Lib.hid hc) hk hl (Lib.hid hnum) hrw hfit r1 r2 hN2).mono ?_
    rintro e' w' ⟨⟨g, c', h1, h2, h3⟩, hC', hT⟩
    exact ⟨⟨_, c', h1, Or.inr ⟨g, rfl, h2, h3⟩⟩, hC', hT⟩
  · have e1 : s.readZ a b x y = 9 := by simp [ChS.readZ, ho, ht, hc]
    have e3 : s.readB a b c x y = [] := by simp [ChS.readB, hc]
    rw [e1, e3]
    refine (read_cut m gx gb Af nf cf a b c d e fs x y n w s hC hs.bnd (by omega) ho (Lib.hid ht) (Lib.hid hc)).mono ?_
    rintro e' w' ⟨rfl, hC', hT⟩
    exact ⟨⟨none, 0, rfl, Or.inl ⟨rfl, rfl, rfl⟩⟩, hC', hT⟩
def cntL (z : Int) : Nat := (min (max z 0) 200).toNat
end Go.Proofs.YtkpcohfdcilfcaaGreat
namespace Go.Proofs.YtkpcohfdcilfcaaGreat
open Go.ChangeShapes Go.WideShapes Go.ChangeAt Go.RowKit
def Filled (s : ChS) (b c : Int) (n k i : Nat) : Prop :=
  s.k (k : Int) 0 = (i : Int) ∧ s.k (k : Int) 1 = 0 ∧ ∀ l RW N : Nat, (RW : Int) = c + 16 → (l : Int) < b → (N : Int) = (k : Int) * b + (l : Int) → s.pageOf N RW = if l < i then bytesL ((n + l) % 256) RW else List.replicate RW 255
theorem Filled.next {s : ChS} {b c : Int} {n k i : Nat} (h : Filled s b c n k i) : s.k (k : Int) 0 = (i : Int) := h.1
theorem Filled.worn {s : ChS} {b c : Int} {n k i : Nat} (h : Filled s b c n k i) : s.k (k : Int) 1 = 0 := h.2.1
theorem Filled.pages {s : ChS} {b c : Int} {n k i : Nat} (h : Filled s b c n k i) : ∀ l RW N : Nat, (RW : Int) = c + 16 → (l : Int) < b → (N : Int) = (k : Int) * b + (l : Int) → s.pageOf N RW = if l < i then bytesL ((n + l) % 256) RW else List.replicate RW 255 := h.2.2
theorem Filled.of {s S : ChS} {b c : Int} {n k i : Nat} (h : Filled s b c n k i) (hk : ∀ B j, S.k B j = s.k B j) (hX : S.X = s.X) : Filled S b c n k i := by
  refine ⟨(hk _ _).trans h.1, (hk _ _).trans h.2.1, fun l RW N h1 h2 h3 => ?_⟩
  have := h.2.2 l RW N h1 h2 h3
  unfold ChS.pageOf at this ⊢
  rw [hX]
  exact this
theorem Filled.more {s S : ChS} {b c : Int} {n k i N0 RW0 : Nat} (h : Filled s b c n k i) (hr : (RW0 : Int) = c + 16) (hN : (N0 : Int) = (k : Int) * b + (i : Int)) (h0 : S.k (k : Int) 0 = (i : Int) + 1) (h1 : S.k (k : Int) 1 = s.k (k : Int) 1) (hp : S.pageOf N0 RW0 = bytesL ((n + i) % 256) RW0) (ho : ∀ N', N0 ≠ N' → S.pageOf N' RW0 = s.pageOf N' RW0) : Filled S b c n k (i + 1) := by
  refine ⟨by rw [h0]; omega, h1.trans h.2.1, fun l RW N q1 q2 q3 => ?_⟩
  obtain rfl : RW = RW0 := by omega
  by_cases hl : l = i
  · subst hl
    obtain rfl : N = N0 := by omega
    rw [hp, if_pos (by omega)]
  · rw [ho N (by omega), h.2.2 l RW N q1 q2 q3]
    by_cases h2 : l < i
    · rw [if_pos h2, if_pos (by omega)]
    · rw [if_neg h2, if_neg (by omega)]
end Go.Proofs.YtkpcohfdcilfcaaGreat
namespace Go.Proofs.YtkpcohfdcilfcaaGreat
open Go.ChangeShapes Go.WideShapes Go.ChangeAt Go.RowKit
theorem Fine.tick {s : ChS} {n : Int} (h : Fine s n) : Fine s.tick (n + 1) := by
  refine ⟨tick_bnd h.bnd, by rw [tick_cby]; exact h.cby, ?_⟩
  have : s.tick.fill = s.fill := by unfold ChS.tick; split <;> rfl
  rw [this]
  exact h.fill
theorem Fine.mono {s : ChS} {n n' : Int} (h : Fine s n) (hn : n ≤ n') : Fine s n' := ⟨bnd_mono h.bnd hn, h.cby, h.fill⟩
structure Same (s S : ChS) (b c : Int) (k : Nat) : Prop where
  kk : ∀ i : Nat, i < 3 → S.k (k : Int) i = s.k (k : Int) i
  pg : ∀ l RW N : Nat, (RW : Int) = c + 16 → (l : Int) < b → (N : Int) = (k : Int) * b + (l : Int) → S.pageOf N RW = s.pageOf N RW
theorem Same.refl (s : ChS) (b c : Int) (k : Nat) : Same s s b c k := ⟨fun _ _ => rfl, fun _ _ _ _ _ _ => rfl⟩
theorem Same.like {s S : ChS} {b c : Int} {k : Nat} (h1 : S.X = s.X) (h2 : S.K = s.K) : Same s S b c k :=
  ⟨fun i _ => by unfold ChS.k; rw [h2], fun l RW N _ _ _ => by unfold ChS.pageOf; rw [h1]⟩
theorem num_ne {b : Int} {x k y l N N' : Nat} (hb : 0 < b) (hx : x ≠ k) (hy : (y : Int) < b) (hl : (l : Int) < b) (h1 : (N : Int) = (x : Int) * b + (y : Int)) (h2 : (N' : Int) = (k : Int) * b + (l : Int)) : N ≠ N' := by
  intro e
  subst e
  rcases Nat.lt_or_gt_of_ne hx with h | h
  · have := Int.mul_le_mul_of_nonneg_right (a := (x : Int) + 1) (b := (k : Int)) (c := b) (by omega) (by omega)
    rw [Int.add_mul, Int.one_mul] at this
    omega
  · have := Int.mul_le_mul_of_nonneg_right (a := (k : Int) + 1) (b := (x : Int)) (c := b) (by omega) (by omega)
    rw [Int.add_mul, Int.one_mul] at this
    omega
theorem prog_same {w : World} {m gx gb : Nat} {Af : Option Addr} {nf cf : Nat} {a b c d e : Int} {fs : List Flt} {s : ChS} (hC : ChipW w m gx gb Af nf cf a b c d e fs s) {n : Int} (hs : Fine s n) (x y : Int) (bs : List Nat) (k : Nat) (hx : x ≠ (k : Int)) : Same s (s.progS a b c fs x y bs) b c k ∧ Fine (s.progS a b c fs x y bs) (n + 3) := by
  unfold ChS.progS
  cases ho : s.on
  · exact ⟨Same.refl _ _ _ _, hs.mono (by omega)⟩
  cases ht : thereB a b x y
  · exact ⟨Same.refl _ _ _ _, hs.mono (by omega)⟩
  by_cases hL : (bs.length : Int) = c + 16
  · rw [decide_eq_true hL]
    obtain ⟨j, l, rfl, rfl, hj, hl⟩ := there_nat ht
    obtain ⟨N, RW, hnum, hrw, hfit, r1, r2, hN2, hNN⟩ := page_ok hC hj hl
    have hRW : RW = bs.length := by omega
    subst hRW
    have hN' : ((j : Int) * b + (l : Int)).toNat = N := by omega
    have hb := (may_bd (planMay_bd hC.may).1).2.2.1
    simp only [Bool.and_self, if_true, Int.toNat_natCast, hN']
    have hne : ∀ l' N' : Nat, (l' : Int) < b → (N' : Int) = (k : Int) * b + (l' : Int) → N ≠ N' := fun l' N' h1 h2 => num_ne (by omega) (by omega) hl h1 hNN h2
    by_cases hw : s.wrong a fs j l = 0
    · rw [if_pos hw]
      cases hc : s.cutB
      · rw [if_neg (by simp)]
        have hp := prog_on (s := s) j N bs.length bs
        refine ⟨⟨fun i hi => prog_kl N bs.length bs k i (by omega) hi, fun l' RW' N' h1 h2 h3 => ?_⟩, ⟨prog_bnd hs.bnd j N bs.length bs, ?_, ?_⟩⟩
        · obtain rfl : RW' = bs.length := by omega
          unfold ChS.pageOf
          rw [hp.2.2.2.2.2.1]
          exact putX_page_other rfl hfit (hne l' N' h2 h3)
        · exact hs.tick.cby
        · exact hs.tick.fill
      · rw [if_pos rfl]
        have hl2 : (bs.take (min bs.length s.cby.toNat)).length ≤ bs.length := by rw [List.length_take]; omega
        obtain ⟨p1, p2⟩ := progCut_fields (s := s) j N bs.length (bs.take (min bs.length s.cby.toNat))
        refine ⟨⟨fun i hi => ?_, fun l' RW' N' h1 h2 h3 => ?_⟩, ⟨?_, ?_, ?_⟩⟩
        · unfold ChS.k
          rw [p2, Int.toNat_natCast, getD_setN, if_neg (by omega)]
        · obtain rfl : RW' = bs.length := by omega
          unfold ChS.pageOf
          rw [p1]
          exact putX_part_other hl2 hfit (hne l' N' h2 h3)
        · have h1 := inc_bnd (bnd_X (tick_bnd hs.bnd) (putX s.X (N * bs.length) (bs.take (min bs.length s.cby.toNat)))) j 0
          exact bnd_mono h1 (by omega)
        · exact hs.tick.cby
        · exact hs.tick.fill
    · rw [if_neg hw]
      exact ⟨Same.like (tick_X s) (tick_K s), hs.tick.mono (by omega)⟩
  · rw [decide_eq_false hL]
    exact ⟨Same.refl _ _ _ _, hs.mono (by omega)⟩
theorem arm_same (s : ChS) (b c : Int) {n : Int} (hs : Fine s n) (xo xb : Int) (xf k : Nat) (hf : xf < 256) : Same s (s.arm xo xb xf) b c k ∧ Fine (s.arm xo xb xf) n := by
  unfold ChS.arm
  cases h : s.on && armOkB xo xb
  · exact ⟨Same.refl _ _ _ _, hs⟩
  · have hx : 0 ≤ xb := by
      simp only [Bool.and_eq_true] at h
      have := h.2
      unfold armOkB at this
      simp at this
      omega
    obtain ⟨o0, o1, c0, c1, k0, k1⟩ := hs.bnd
    exact ⟨Same.like rfl rfl, ⟨⟨o0, o1, c0, c1, k0, k1⟩, hx, hf⟩⟩
theorem boot_same (s : ChS) (b c : Int) {n : Int} (hs : Fine s n) (k : Nat) : Same s s.boot b c k ∧ Fine s.boot n := by
  unfold ChS.boot
  cases h : s.on
  · obtain ⟨o0, o1, c0, c1, k0, k1⟩ := hs.bnd
    exact ⟨Same.like rfl rfl, ⟨⟨o0, o1, c0, c1, k0, k1⟩, hs.cby, hs.fill⟩⟩
  · exact ⟨Same.refl _ _ _ _, hs⟩
end Go.Proofs.YtkpcohfdcilfcaaGreat
namespace Go.Proofs.YtkpcohfdcilfcaaGreat
open Go.ChangeShapes Go.WideShapes Go.ChangeAt Go.RowKit
theorem own_base {w : World} {b b' e n size : Nat} {v : Value} {xs : List Value} (h : w.ownsRow b e size v n xs) (hb : b' ≤ b) : w.ownsRow b' e size v n xs := by
  obtain ⟨hl, h⟩ := h
  refine ⟨hl, ?_⟩
  rcases h with h | ⟨g, cap, cur, rfl, hg, r⟩
  · exact Or.inl h
  · exact Or.inr ⟨g, cap, cur, rfl, by omega, r⟩
theorem bclone_own (g o n c : Nat) (bs : List Nat) (w : World) (hr : Rd w (some ⟨g, o, none⟩) n 1 (bs.map byteV)) (hlt : g < w.heap.size) (hn : 1 ≤ n) (hn2 : n ≤ 100000) :
    Calls Tryz.prog 48 #[.slice (some ⟨g, o, none⟩) n c] w fun e' w' => (∃ g' c', e' = .returned (.slice (some ⟨g', 0, none⟩) n c') ∧ RowT w' g' 5 (bs.map byteV) ∧ w.heap.size ≤ g' ∧ w'.ownsRow w.heap.size 5 1 (.slice (some ⟨g', 0, none⟩) n c') n (bs.map byteV)) ∧ Below w.heap.size w w' := by
  have HR : Rd (w.alloc (.cells #[] 5)) (some ⟨g, o, none⟩) n 1 (bs.map byteV) := hr.keep (fun b o' e j => by
    cases e
    exact Below.cell (p := ⟨g, j, none⟩) ((Below.refl w.heap.size w).alloc (Nat.le_refl _) (.cells #[] 5)) hlt)
  have hnil := slB_not_nil ⟨g, o, none⟩ n c w
  go_enter Tryz.func48, Tryz.ntmps48
  go_upto_region 3 with fail
  refine wp_region_lit ?_
  refine wpList_plain rfl (fun K hK => ?_)
  go_simp
  refine hK _ _ ?_
  clear hK K
  try simp only [Act.put, pz1, pz2, pz3]
  refine wpList_plain rfl (fun K hK => ?_)
  go_simp
  refine hK _ _ ?_
  clear hK K
  try simp only [Act.put, pz1, pz2, pz3]
  obtain ⟨ti0, hi, hz0, hz1, hz2⟩ := info_parts infoByte
  refine wpList_app _ rfl (.tmp 5) (.tmp 6) _ rfl w.heap.size 5 ti0 _ 1 1 Tryz.underlying37 hi hz0 hz1 hz2 rfl (by decide) (.slice (some ⟨w.heap.size, 0, none⟩) 0 0) 0 [] rfl (own_emptyB w _) (some ⟨g, o, none⟩) n c (bs.map byteV) rfl HR (oneB bs) (by unfold maxLen; omega) (by omega) (by simp) ?_
  intro v' w' ho' hg' hv'
  clear hi hz0 hz1 hz2
  rw [Nat.zero_add, List.nil_append] at ho'
  have ho2 := ho'
  obtain ⟨g', c', rfl, hR', hge⟩ := own_rowT ho' hn
  have HO2 := Lib.hid ho2
  clear ho2
  have HG := Lib.hid hg'
  have HRR := Lib.hid hR'
  clear hg' hR' ho' hv' hnil
  try simp only [Act.put, pz1, pz2, pz3]
  go_wp2_with fail
  go_ret
  exact ⟨⟨g', c', rfl, HRR.out, hge, HO2.out⟩, ((Below.refl _ _).alloc (Nat.le_refl _) _).grown HG.out (by simp) (fun g' hg'' => by simp [Value.ownBlock] at hg''; omega)⟩
theorem read_okO (m gx gb : Nat) (Af : Option Addr) (nf cf : Nat) (a b c d e : Int) (fs : List Flt) (k l N RW : Nat) (n : Int) (w : World) (s : ChS) (hC : ChipW w m gx gb Af nf cf a b c d e fs s) (hbn : s.Bnd n) (hn : n ≤ 1000000000) (ho : s.on = true) (hcu : Hid (s.cutB = false)) (hk : (k : Int) < a) (hl : (l : Int) < b) (hnum : Hid (numberI a b (k : Int) (l : Int) = (N : Int))) (hrw : (RW : Int) = c + 16) (hfit0 : N * RW + RW ≤ s.X.length) (r1 : 40 ≤ RW) (r2 : RW ≤ 80) (hN2 : N < 200) : Calls Tryz.prog 39 #[.pointer (some ⟨m, 0, none⟩), .agg #[.int .i64 (k : Int), .int .i64 (l : Int)]] w fun e' w' => (∃ g' c', e' = .returned (.tuple #[.slice (some ⟨g', 0, none⟩) RW c', .int .i64 0]) ∧ RowT w' g' 5 ((s.pageOf N RW).map byteV) ∧ w.heap.size ≤ g' ∧ w'.ownsRow w.heap.size 5 1 (.slice (some ⟨g', 0, none⟩) RW c') RW ((s.pageOf N RW).map byteV)) ∧ ChipW w' m gx gb Af nf cf a b c d e fs s.tick ∧ Tch (chB m gx gb) w w' := by
  have hnb : ¬ chB m gx gb w.heap.size := by have := hC.lt; unfold chB; omega
  have ht : Hid (thereB a b (k : Int) (l : Int) = true) := Lib.hid (by unfold thereB withinB; simp; omega)
  have hfit : N * RW + RW ≤ s.tick.X.length := by rw [tick_X]; exact hfit0
  have hpo : s.tick.pageOf N RW = s.pageOf N RW := by unfold ChS.pageOf; rw [tick_X]
  have HPO := Lib.hid hpo
  have HRW := Lib.hid hrw
  clear hpo hrw hfit0
  have HB0 : Below w.heap.size w (w.alloc (.cells #[.int .i64 (k : Int), .int .i64 (l : Int)] 68)) := (Below.refl _ _).alloc (Nat.le_refl _) _
  have G1 : Blk (w.alloc (.cells #[.int .i64 (k : Int), .int .i64 (l : Int)] 68)) w.heap.size 68 #[.int .i64 (k : Int), .int .i64 (l : Int)] := Blk.new_ _ _ _
  have z0 : (w.alloc (.cells #[.int .i64 (k : Int), .int .i64 (l : Int)] 68)).cell? ⟨w.heap.size, 0, none⟩ = some (.int .i64 (k : Int)) := G1.cell_ 0
  have z1 : (w.alloc (.cells #[.int .i64 (k : Int), .int .i64 (l : Int)] 68)).cell? ⟨w.heap.size, 1, none⟩ = some (.int .i64 (l : Int)) := G1.cell_ 1
  have hC := hC.below HB0
  have y10 := cell10 hC
  rw [ho] at y10
  clear ho
  go_enter Tryz.func39, Tryz.ntmps39
  go_wp2_with (first
    | (go_at_call 73; ((with_reducible refine (hasPage_b _ _ _ _ _ _ _ _ _ _ _ _ _ _ _ _ _ hC ht).mono ?_); rintro e' wN ⟨rfl, hb⟩; replace hC := hC.below hb; replace HB0 := btr HB0 HB0.size hb; replace G1 := G1.below hb G1.lt; clear z0 z1 y10; have z0 := G1.cell_ 0; have z1 := G1.cell_ 1; simp at z0 z1))
    | (go_at_call 74; ((with_reducible refine (begin_b _ _ _ _ _ _ _ _ _ _ _ _ _ _ _ _ hC hbn hn hcu).mono ?_); rintro e' wN ⟨rfl, hC2, hT⟩; have HT := (Tch.of_below (S := chB m gx gb) HB0).trans hT; have hlt0 := hT.far w.heap.size G1.lt hnb; replace G1 : Blk wN w.heap.size _ _ := hlt0.trans G1; clear hlt0 hC; have hC := hC2; clear hC2 z0 z1; have z0 := G1.cell_ 0; have z1 := G1.cell_ 1; simp at z0 z1))
    | (go_at_call 75; ((with_reducible refine (page_any _ _ _ _ _ _ _ _ _ _ _ _ k l N RW _ _ hC hk hl hnum HRW.out hfit r1 r2 hN2).mono ?_); rintro e' wN ⟨⟨q, hq, rfl⟩, hb⟩; replace hC := hC.below hb; replace HT := HT.then hb))
    | (go_at_call 48; ((with_reducible refine (bclone_own gx (N * RW) RW q (s.pageOf N RW) _ (by rw [← HPO.out]; exact chip_rd hC hfit) hC.lt.2.1 (by omega) (by omega)).mono ?_); rintro e' wN ⟨⟨g9, c9, rfl, hR9, hg9, ho9⟩, hb⟩; replace hC := hC.below hb; have HSZ := HT.size; replace HT := HT.then hb)))
  go_ret2
  exact ⟨⟨g9, c9, rfl, hR9, by omega, own_base ho9 (by omega)⟩, hC, HT⟩
theorem read_allO (m gx gb : Nat) (Af : Option Addr) (nf cf : Nat) (a b c d e : Int) (fs : List Flt) (x y : Int) (n : Int) (w : World) (s : ChS) (hC : ChipW w m gx gb Af nf cf a b c d e fs s) (hs : Fine s n) (hn : n ≤ 900000000) :
    Calls Tryz.prog 39 #[.pointer (some ⟨m, 0, none⟩), .agg #[.int .i64 x, .int .i64 y]] w fun e' w' => (∃ A c', e' = .returned (.tuple #[.slice A (s.readB a b c x y).length c', .int .i64 (s.readZ a b x y)]) ∧ (s.readB a b c x y = [] ∧ A = none ∧ c' = 0 ∨ ∃ g, A = some ⟨g, 0, none⟩ ∧ RowT w' g 5 ((s.readB a b c x y).map byteV) ∧ w.heap.size ≤ g ∧ w'.ownsRow w.heap.size 5 1 (.slice (some ⟨g, 0, none⟩) (s.readB a b c x y).length c') (s.readB a b c x y).length ((s.readB a b c x y).map byteV))) ∧ ChipW w' m gx gb Af nf cf a b c d e fs (s.readS a b x y) ∧ Tch (chB m gx gb) w w' := by
  cases ho : s.on
  · have e1 : s.readZ a b x y = 9 := by simp [ChS.readZ, ho]
    have e2 : s.readS a b x y = s := by simp [ChS.readS, ho]
    have e3 : s.readB a b c x y = [] := by simp [ChS.readB, ho]
    rw [e1, e2, e3]
    refine (read_off m gx gb Af nf cf a b c d e fs x y w s hC ho).mono ?_
    rintro e' w' ⟨rfl, hb⟩
    exact ⟨⟨none, 0, rfl, Or.inl ⟨rfl, rfl, rfl⟩⟩, hC.below hb, Tch.of_below hb⟩
  cases ht : thereB a b x y
  · have e1 : s.readZ a b x y = 2 := by simp [ChS.readZ, ho, ht]
    have e2 : s.readS a b x y = s := by simp [ChS.readS, ht]
    have e3 : s.readB a b c x y = [] := by simp [ChS.readB, ht]
    rw [e1, e2, e3]
    refine (read_arg m gx gb Af nf cf a b c d e fs x y w s hC ho (Lib.hid ht)).mono ?_
    rintro e' w' ⟨rfl, hb⟩
    exact ⟨⟨none, 0, rfl, Or.inl ⟨rfl, rfl, rfl⟩⟩, hC.below hb, Tch.of_below hb⟩
  have e2 : s.readS a b x y = s.tick := by simp [ChS.readS, ht, ho]
  rw [e2]
  cases hc : s.cutB
  · obtain ⟨k, l, hx, hy, hk, hl⟩ := there_nat ht
    obtain ⟨N, RW, hnum, hrw, hfit, r1, r2, hN2, hNN⟩ := page_ok hC hk hl
    have hN' : (x * b + y).toNat = N := by rw [hx, hy, ← hNN]; omega
    have hr' : (c + 16).toNat = RW := by omega
    have e1 : s.readZ a b x y = 0 := by simp [ChS.readZ, ho, ht, hc]
    have e3 : s.readB a b c x y = s.pageOf N RW := by
      unfold ChS.readB
      rw [ho, ht, hc, hN', hr']
      rfl
    have e4 : (s.pageOf N RW).length = RW := by
      unfold ChS.pageOf
      rw [List.length_take, List.length_drop]
      omega
    rw [e1, e3, e4]
    subst hx hy
    refine (read_okO m gx gb Af nf cf a b c d e fs k l N RW n w s hC hs.bnd (by omega) ho (Lib.hid hc) hk hl (Lib.hid hnum) hrw hfit r1 r2 hN2).mono ?_
    rintro e' w' ⟨⟨g, c', h1, h2, h3, h4⟩, hC', hT⟩
    exact ⟨⟨_, c', h1, Or.inr ⟨g, rfl, h2, h3, h4⟩⟩, hC', hT⟩
  · have e1 : s.readZ a b x y = 9 := by simp [ChS.readZ, ho, ht, hc]
    have e3 : s.readB a b c x y = [] := by simp [ChS.readB, hc]
    rw [e1, e3]
    refine (read_cut m gx gb Af nf cf a b c d e fs x y n w s hC hs.bnd (by omega) ho (Lib.hid ht) (Lib.hid hc)).mono ?_
    rintro e' w' ⟨rfl, hC', hT⟩
    exact ⟨⟨none, 0, rfl, Or.inl ⟨rfl, rfl, rfl⟩⟩, hC', hT⟩
theorem prog_allC (m gx gb : Nat) (Af : Option Addr) (nf cf : Nat) (a b c d e : Int) (fs : List Flt) (x y : Int) (bs : List Nat) (gA cA : Nat) (n : Int) (w : World) (s : ChS) (hC : ChipW w m gx gb Af nf cf a b c d e fs s) (hs : Fine s n) (hn : n ≤ 900000000) (hR : ∀ j u, (bs.map byteV)[j]? = some u → w.cell? ⟨gA, 0 + j, none⟩ = some u) (hlt : gA < w.heap.size) (hcA : bs.length ≤ cA) (hcA2 : cA ≤ maxLen) (hgn : ¬ chB m gx gb gA) :
    Calls Tryz.prog 162 #[.pointer (some ⟨m, 0, none⟩), .agg #[.int .i64 x, .int .i64 y], .slice (some ⟨gA, 0, none⟩) bs.length cA] w fun e' w' => e' = .returned (.int .i64 (s.progZ a b c fs x y bs.length)) ∧ ChipW w' m gx gb Af nf cf a b c d e fs (s.progS a b c fs x y bs) ∧ Tch (chB m gx gb) w w' := by
  cases ho : s.on
  · have e1 : s.progZ a b c fs x y bs.length = 9 := by simp [ChS.progZ, ho]
    have e2 : s.progS a b c fs x y bs = s := by simp [ChS.progS, ho]
    rw [e1, e2]
    refine (prog_off m gx gb Af nf cf a b c d e fs x y _ _ _ w s hC ho).mono ?_
    rintro e' w' ⟨rfl, hb⟩
    exact ⟨rfl, hC.below hb, Tch.of_below hb⟩
  cases ht : thereB a b x y
  · have e1 : s.progZ a b c fs x y bs.length = 2 := by simp [ChS.progZ, ho, ht]
    have e2 : s.progS a b c fs x y bs = s := by simp [ChS.progS, ht]
    rw [e1, e2]
    refine (prog_arg m gx gb Af nf cf a b c d e fs x y _ _ _ w s hC ho (Lib.hid ht)).mono ?_
    rintro e' w' ⟨rfl, hb⟩
    exact ⟨rfl, hC.below hb, Tch.of_below hb⟩
  obtain ⟨k, l, hx, hy, hk, hl⟩ := there_nat ht
  obtain ⟨N, RW, hnum, hrw, hfit, r1, r2, hN2, hNN⟩ := page_ok hC hk hl
  by_cases hL : bs.length = RW
  · subst hL
    have hd : decide ((bs.length : Int) = c + 16) = true := decide_eq_true hrw
    have hN' : (x * b + y).toNat = N := by rw [hx, hy, ← hNN]; omega
    have hk' : x.toNat = k := by omega
    have hl' : y.toNat = l := by omega
    have e2 : s.progS a b c fs x y bs = (if s.wrong a fs k l = 0 then (if s.cutB then s.progCut k N bs.length (bs.take (min bs.length s.cby.toNat)) else s.prog k N bs.length bs) else s.tick) := by
      unfold ChS.progS
      rw [ho, ht, hd, hN', hk', hl']
      rfl
    have e1 : s.progZ a b c fs x y bs.length = (if s.cutB then 9 else s.wrong a fs k l) := by
      unfold ChS.progZ
      rw [ho, ht, hd, hk', hl']
      rfl
    rw [e1, e2]
    subst hx hy
    clear e1 e2 hk' hl' hN'
    by_cases hw : s.wrong a fs k l = 0
    · rw [if_pos hw]
      cases hc : s.cutB
      · have := prog_ok m gx gb Af nf cf a b c d e fs k l N bs.length n bs gA 0 cA w s hC hs.bnd (by omega) ho hk hl (Lib.hid hnum) (Lib.hid hrw) (Lib.hid hfit) r1 r2 hN2 hR hlt hgn rfl (Lib.hid hc) hw
        simpa [hw] using this
      · have := prog_cut m gx gb Af nf cf a b c d e fs k l N bs.length n bs gA 0 cA w s hC hs.bnd (by omega) ho hk hl (Lib.hid hnum) (Lib.hid hrw) (Lib.hid hfit) r1 r2 hN2 hR hlt hgn rfl (Lib.hid hc) hw _ hs.cby rfl hcA hcA2
        simpa using this
    · rw [if_neg hw]
      cases hc : s.cutB
      · have := prog_err m gx gb Af nf cf a b c d e fs k l N bs.length n bs gA 0 cA w s hC hs.bnd (by omega) ho hk hl (Lib.hid hnum) (Lib.hid hrw) (Lib.hid hfit) r1 r2 hN2 hR hlt hgn rfl (Lib.hid hc) _ rfl hw
        simpa using this
      · have := prog_cutbad m gx gb Af nf cf a b c d e fs k l N bs.length n bs gA 0 cA w s hC hs.bnd (by omega) ho hk hl (Lib.hid hnum) (Lib.hid hrw) (Lib.hid hfit) r1 r2 hN2 hR hlt hgn rfl (Lib.hid hc) _ rfl hw
        simpa using this
  · have hd : decide ((bs.length : Int) = c + 16) = false := decide_eq_false (by omega)
    have e1 : s.progZ a b c fs x y bs.length = 2 := by unfold ChS.progZ; rw [ho, ht, hd]; rfl
    have e2 : s.progS a b c fs x y bs = s := by unfold ChS.progS; rw [ho, ht, hd]; rfl
    rw [e1, e2]
    refine (prog_len m gx gb Af nf cf a b c d e fs RW x y _ _ _ w s hC ho (Lib.hid ht) (Lib.hid hrw) hL).mono ?_
    rintro e' w' ⟨rfl, hb⟩
    exact ⟨rfl, hC.below hb, Tch.of_below hb⟩
theorem over_nil (c : Nat) (w : World) :
    Calls Tryz.prog 36 #[.slice none 0 0] w fun e w' => (∃ v, e = .returned v) ∧ Below w.heap.size w w' := by
  obtain ⟨i0, hi, hz0, hz1, hz2⟩ := info_parts infoByte
  go_enter Tryz.func36, Tryz.ntmps36
  go_wp2
  go_loopw [2] (fun i wr => i = .int .i64 0 ∧ wr = w) (fun _ _ => 0)
  case atStart => exact ⟨rfl, rfl⟩
  case round =>
    obtain ⟨rfl, rfl⟩ := hrel
    go_wp2_with (at_builtin; refine wpList_app _ rfl (.tmp 12) (.tmp 13) _ rfl wr.heap.size 5 i0 _ 1 1 Tryz.underlying37 hi hz0 hz1 hz2 rfl (by decide) (.slice none 0 0) 0 [] rfl (World.ownsRow_nil _ _ _ _) _ 1 _ [.int .u8 238] rfl (Rd.one (by simp)) (by simp [Value.oneCell']) (by unfold maxLen; omega) (by omega) (by simp) ?_; intro s2 w2 ho2 hg2 hv2)
    have HF : Below wr.heap.size wr w2 := ((Below.refl _ _).alloc (Nat.le_refl _) _).trans (below_app (Nat.le_refl _) (by simp) (World.ownsRow_nil _ wr.heap.size 5 1) hg2)
    exact bodyPost_end (v := .tuple #[]) (by simp [results, Tryz.results36, go_sem]) rfl ⟨⟨_, rfl⟩, HF⟩
end Go.Proofs.YtkpcohfdcilfcaaGreat
namespace Go.Proofs.YtkpcohfdcilfcaaGreat
open Go.ChangeShapes Go.WideShapes Go.ChangeAt Go.RowKit
def Bytes8 (bs : List Nat) : Prop := ∀ b ∈ bs, b < 256
theorem Bytes8.at_ {bs : List Nat} (h : Bytes8 bs) (k : Nat) : bs.getD k 0 < 256 := by
  rcases Nat.lt_or_ge k bs.length with hk | hk
  · simp only [List.getD_eq_getElem?_getD, List.getElem?_eq_getElem hk, Option.getD_some]
    exact h _ (List.getElem_mem _)
  · simp [List.getElem?_eq_none hk]
theorem crcReg_next (bs : List Nat) (r : Nat) (k : Nat) (h : k < bs.length) : crcReg r (bs.take (k + 1)) = crcPut 8 (crcReg r (bs.take k)) (bs.getD k 0) := by
  rw [List.take_succ_eq_append_getElem h, crcReg_append]
  simp [h, crcReg]
theorem more_any (s : Nat) (bs : List Nat) (A : Option Addr) (c : Nat) (w : World) (hs : s < 4294967296) (h1 : Sl w w.heap.size A (bs.map byteV)) (h8 : Bytes8 bs) (n1 : bs.length ≤ 1000000000) :
    Calls Tryz.prog 186 #[.int .u32 (s : Int), .slice A bs.length c] w fun e w' => e = .returned (.int .u32 (crcMore s bs : Nat)) ∧ w' = w := by
  have hn := not_lt hs
  have en := crcNot hs
  obtain ⟨s0, hs0⟩ : ∃ z, z = 4294967295 ^^^ s := ⟨_, rfl⟩
  rw [← hs0] at en hn
  go_enter Tryz.func186, Tryz.ntmps186
  go_wp2
  go_loopw [5, 12] (fun rv i wr => ∃ k r1 : Nat, k ≤ bs.length ∧ i = .int .i64 k ∧ rv = .int .u32 (r1 : Int) ∧ r1 < 4294967296 ∧ Hid (r1 = crcReg s0 (bs.take k)) ∧ wr = w) (fun _ i _ => bs.length - (intOf i).toNat)
  case atStart => exact ⟨0, s0, by omega, rfl, by rw [hs0], hn, Lib.hid rfl, rfl⟩
  case round =>
    obtain ⟨k, r1, hk, rfl, rfl, hr1, he, rfl⟩ := hrel
    by_cases hlt : k < bs.length
    · obtain ⟨b1, o1, rfl, l1, q1⟩ := h1.at_ (by simpa using (by omega : 0 < bs.length))
      have hx := h8.at_ k
      have hg := crcReg_next bs s0 k hlt
      obtain ⟨x, hxe⟩ : ∃ x, bs.getD k 0 = x := ⟨_, rfl⟩
      have ck : wr.cell? ⟨b1, o1 + k, none⟩ = some (.int .u8 (x : Int)) := q1 k _ (by rw [← hxe]; simp [hlt, byteV])
      rw [hxe] at hx hg
      rw [← he.out] at hg
      have Hg := Lib.hid hg
      clear hg hxe q1 he
      have hp := crcPut_lt (k := 8) (x := x) hr1
      have i1 : (0 : Int) ≤ (k : Int) := by omega
      have i2 : (k : Int) < (bs.length : Int) := by omega
      go_wp2_with (go_at_call 199; refine (put_any _ _ _ hr1 hx).mono ?_; rintro e w' ⟨rfl, rfl⟩)
      refine ⟨⟨k + 1, crcPut 8 r1 x, by omega, by go_num, rfl, hp, Lib.hid Hg.out.symm, trivial⟩, by simp [intOf]; omega⟩
    · have : k = bs.length := by omega
      subst this
      have e2 := crcNot hr1
      have e3 : crcMore s bs = 4294967295 ^^^ r1 := by
        unfold crcMore
        rw [he.out, List.take_length, hs0]
      clear he
      go_wp2
      go_ret
      exact ⟨by rw [e3]; rfl, rfl⟩
theorem crcOf_any (bs : List Nat) (A : Option Addr) (c : Nat) (w : World) (h1 : Sl w w.heap.size A (bs.map byteV)) (h8 : Bytes8 bs) (n1 : bs.length ≤ 1000000000) :
    Calls Tryz.prog 176 #[.slice A bs.length c] w fun e w' => e = .returned (.int .u32 (crcMore 0 bs : Nat)) ∧ w' = w := by
  go_enter Tryz.func176, Tryz.ntmps176
  go_wp2_with (go_at_call 186; refine (more_any 0 bs A c _ (by omega) h1 h8 n1).mono ?_; rintro e w' ⟨rfl, rfl⟩)
  go_ret
  exact ⟨rfl, rfl⟩
end Go.Proofs.YtkpcohfdcilfcaaGreat
namespace Go.Proofs.YtkpcohfdcilfcaaGreat
end Go.Proofs.YtkpcohfdcilfcaaGreat
namespace Go.Proofs.YtkpcohfdcilfcaaGreat
def beB (v n : Nat) : List Nat := (List.range n).map fun i => v / 2 ^ (8 * (n - 1 - i)) % 256
def numB (bs : List Nat) : Nat := bs.foldl (fun a b => a * 256 + b) 0
theorem beB_len (v n : Nat) : (beB v n).length = n := by simp [beB]
theorem beB_8 (v n : Nat) : Bytes8 (beB v n) := by
  intro b hb
  obtain ⟨i, _, rfl⟩ := List.mem_map.1 hb
  omega
theorem beB_snoc (v n k : Nat) (hk : k < n) : (beB v n).take (k + 1) = (beB v n).take k ++ [v / 2 ^ (8 * (n - 1 - k)) % 256] := by
  rw [List.take_succ_eq_append_getElem (by rw [beB_len]; exact hk)]
  simp [beB]
theorem beB_2 (v : Nat) : beB v 2 = [v / 256 % 256, v % 256] := by simp [beB, List.range_succ]
theorem beB_3 (v : Nat) : beB v 3 = [v / 65536 % 256, v / 256 % 256, v % 256] := by simp [beB, List.range_succ]
theorem beB_4 (v : Nat) : beB v 4 = [v / 16777216 % 256, v / 65536 % 256, v / 256 % 256, v % 256] := by simp [beB, List.range_succ]
theorem num_be4 {v : Nat} (h : v < 4294967296) : numB (beB v 4) = v := by rw [beB_4]; simp [numB]; omega
theorem be_num4 {bs : List Nat} (hl : bs.length = 4) (h : Bytes8 bs) : beB (numB bs) 4 = bs ∧ numB bs < 4294967296 := by
  match bs, hl with
  | [a, b, c, d], _ =>
    have ha := h a (by simp)
    have hb := h b (by simp)
    have hc := h c (by simp)
    have hd := h d (by simp)
    rw [beB_4]
    simp [numB]
    omega
theorem numB_snoc (bs : List Nat) (b : Nat) : numB (bs ++ [b]) = numB bs * 256 + b := by simp [numB]
theorem numB_next {bs : List Nat} {k : Nat} (hk : k < bs.length) : numB (bs.take (k + 1)) = numB (bs.take k) * 256 + bs[k] := by
  rw [List.take_succ_eq_append_getElem hk, numB_snoc]
theorem numB_lt : ∀ {k : Nat} {bs : List Nat}, Bytes8 bs → k ≤ bs.length → numB (bs.take k) < 256 ^ k
  | 0, _, _, _ => by simp [numB]
  | k + 1, bs, h, hk => by
    have ih := numB_lt (k := k) h (by omega)
    have hb := h bs[k] (List.getElem_mem _)
    rw [numB_next (by omega), Nat.pow_succ]
    omega
end Go.Proofs.YtkpcohfdcilfcaaGreat
namespace Go.Proofs.YtkpcohfdcilfcaaGreat
open Go.ChangeShapes Go.WideShapes Go.ChangeAt Go.RowKit
attribute [local go_sem ↓] Go.wp_at_zero Go.wp_at_succ
theorem own_below {w w' : World} {base : Nat} {e : TypeId} {size n : Nat} {v : Value} {xs : List Value} (h : w.ownsRow base e size v n xs) (hb : Below w.heap.size w w') : w'.ownsRow base e size v n xs :=
  h.kept (row := none) ⟨hb.os, hb.tape, hb.output, hb.size, fun k hk _ => hb.block k hk⟩ (by cases v.ownBlock <;> simp)
theorem bapp_any (v : Nat) (n : Nat) (base : Nat) (sv : Value) (m : Nat) (xs : List Nat) (w : World) (hv : v < 4294967296) (hn1 : 1 ≤ n) (hn : n ≤ 4) (hown : w.ownsRow base 5 1 sv m (xs.map byteV)) (hbase : base ≤ w.heap.size) (hm : m ≤ 1000) :
    Calls Tryz.prog 175 #[sv, .int .i64 v, .int .i64 n] w fun e w' =>
      ∃ sv', e = .returned sv' ∧ w'.ownsRow base 5 1 sv' (m + n) ((xs ++ beB v n).map byteV) ∧ Below base w w' ∧ (sv'.ownBlock = sv.ownBlock ∨ ∃ g, sv'.ownBlock = some g ∧ w.heap.size ≤ g) := by
  obtain ⟨i0, hi, hz0, hz1, hz2⟩ := info_parts infoByte
  go_enter Tryz.func175, Tryz.ntmps175
  go_wp2
  go_loopw [0, 7] (fun s i wr => ∃ k : Nat, k ≤ n ∧ i = .int .i64 (8 * (n : Int) - 8 - 8 * (k : Int)) ∧ wr.ownsRow base 5 1 s (m + k) ((xs ++ (beB v n).take k).map byteV) ∧ Below base w wr ∧ (s.ownBlock = sv.ownBlock ∨ ∃ g, s.ownBlock = some g ∧ w.heap.size ≤ g)) (fun _ i _ => ((intOf i) + 8).toNat)
  case atStart => exact ⟨0, Nat.zero_le _, by go_num, by simpa using hown, Below.refl _ _, Or.inl rfl⟩
  case round =>
    obtain ⟨k, hk, rfl, ho, hB, hblk⟩ := hrel
    by_cases hlt : k < n
    · obtain ⟨q, hq⟩ : ∃ q : Nat, n - 1 - k = q := ⟨_, rfl⟩
      have e1 : 8 * (n : Int) - 8 - 8 * (k : Int) = ((8 * q : Nat) : Int) := by omega
      rw [e1]
      have hsn := beB_snoc v n k hlt
      rw [hq] at hsn
      have hq3 : q ≤ 3 := by omega
      have HQ := Lib.hid hq
      have HS := Lib.hid hsn
      have hbs := hB.size
      clear hq hsn e1
      have q0 : (0 : Int) ≤ 8 * (q : Int) := by omega
      have q1 : 8 * (q : Int) ≤ 24 := by omega
      go_wp2_with (at_builtin; refine wpList_app _ rfl (.tmp 15) (.tmp 20) _ rfl base 5 i0 _ 1 1 Tryz.underlying37 hi hz0 hz1 hz2 rfl (by decide) _ _ _ rfl (ho.alloc _) _ 1 _ [byteV (v / 2 ^ (8 * q) % 256)] rfl (Rd.one (by simp [byteV])) (by simp [byteV, Value.oneCell']) (by unfold maxLen; omega) (by omega) (by simp; omega) ?_; intro s2 w2 ho2 hg2 hv2)
      go_roundw
      case rel => exact ⟨k + 1, by omega, by have := HQ.out; congr 1; omega, by rw [HS.out]; simpa [Nat.add_assoc] using ho2, (hB.alloc (by omega) _).trans (below_app (Nat.le_refl _) (by simp; omega) (ho.alloc _) hg2), by
        rcases hv2 with h2 | h2
        · rw [h2]
          exact hblk
        · right
          exact ⟨_, h2, by simp; omega⟩⟩
      case measure => simp [intOf]; omega
    · have hkn : k = n := by omega
      have e0 : 8 * (n : Int) - 8 - 8 * (k : Int) = -8 := by omega
      rw [e0]
      clear e0
      go_wp2
      go_ret
      exact ⟨_, rfl, by rw [hkn, List.take_of_length_le (by rw [beB_len]; omega)] at ho; exact ho, hB, hblk⟩
end Go.Proofs.YtkpcohfdcilfcaaGreat
namespace Go.Proofs.YtkpcohfdcilfcaaGreat
open Go.ChangeShapes Go.WideShapes Go.ChangeAt Go.RowKit
attribute [local go_sem ↓] Go.wp_at_zero Go.wp_at_succ
theorem ret_boolT {a b : Bool} (h : a = b) : Ending.returned (.bool a) = Ending.returned (.bool b) := by rw [h]
theorem ret_nat {a b : Nat} (h : a = b) : Ending.returned (.int .i64 (a : Int)) = Ending.returned (.int .i64 (b : Int)) := by rw [h]
theorem numB_bd {bs : List Nat} (h8 : Bytes8 bs) (hl : bs.length ≤ 4) (k : Nat) (hk : k ≤ bs.length) : numB (bs.take k) < 4294967296 := by
  have h := numB_lt (k := k) h8 hk
  have : 256 ^ k ≤ 256 ^ 4 := Nat.pow_le_pow_right (by omega) (by omega)
  omega
theorem orByte (a b : Nat) (ha : a < 4294967296) (hb : b < 256) : bits .or .i64 ((a : Int) * 256) (b : Int) = ((a * 256 + b : Nat) : Int) := by
  have e : (a : Int) * 256 = ((a * 256 : Nat) : Int) := by omega
  have h : a * 256 ||| b = a * 256 + b := by
    have := Nat.shiftLeft_add_eq_or_of_lt (i := 8) (b := b) (by omega) a
    simp only [Nat.shiftLeft_eq, Nat.reducePow] at this
    exact this.symm
  rw [e]
  show IntKind.i64.wrap ((BitVec.ofInt 64 ((a * 256 : Nat) : Int) ||| BitVec.ofInt 64 (b : Int)).toNat : Int) = _
  rw [BitVec.toNat_or, BitVec.ofInt_natCast, BitVec.ofInt_natCast, BitVec.toNat_ofNat, BitVec.toNat_ofNat, Nat.mod_eq_of_lt (by omega), Nat.mod_eq_of_lt (by omega), h]
  exact IntWalk.i64_in _ (by omega)
theorem number_any (bs : List Nat) (A : Option Addr) (c : Nat) (w : World) (h1 : Sl w w.heap.size A (bs.map byteV)) (h8 : Bytes8 bs) (n1 : bs.length ≤ 4) :
    Calls Tryz.prog 187 #[.slice A bs.length c] w fun e w' => e = .returned (.int .i64 (numB bs)) ∧ w = w' := by
  go_enter Tryz.func187, Tryz.ntmps187
  go_wp2
  go_loop [3, 8] (fun v i => ∃ k : Nat, k ≤ bs.length ∧ i = .int .i64 k ∧ v = .int .i64 (numB (bs.take k))) (fun _ i => bs.length - (intOf i).toNat)
  case atStart => exact ⟨0, Nat.zero_le _, rfl, rfl⟩
  case round =>
    obtain ⟨k, hk, rfl, rfl⟩ := hrel
    by_cases hlt : k < bs.length
    · obtain ⟨b1, o1, rfl, l1, q1⟩ := h1.at_ (by simpa using (by omega : 0 < bs.length))
      have hb := h8 bs[k] (List.getElem_mem hlt)
      have hr := numB_next hlt
      have hnb := numB_bd h8 n1 k hk
      obtain ⟨x, hx⟩ : ∃ x, bs[k] = x := ⟨_, rfl⟩
      rw [hx] at hb hr
      have x1 : w.cell? ⟨b1, o1 + k, none⟩ = some (.int .u8 (x : Int)) := by rw [← hx]; exact q1 k _ (by simp [hlt, byteV])
      obtain ⟨N, hN⟩ : ∃ N, numB (bs.take k) = N := ⟨_, rfl⟩
      rw [hN] at hnb hr ⊢
      have HR := Lib.hid hr
      have ho := orByte N x hnb hb
      have s1 : (0 : Int) ≤ (N : Int) := by omega
      have s2 : (N : Int) < 4294967296 := by omega
      have s3 : (x : Int) < 256 := by omega
      have i0 : (0 : Int) ≤ (k : Int) := by omega
      have i1 : (k : Int) < (bs.length : Int) := by omega
      clear q1 hx hN hr
      go_wp2
      go_round
      case rel =>
        exact ⟨k + 1, by omega, by go_num, by rw [HR.out]; exact congrArg (Value.int .i64) (by omega)⟩
      case measure => simp [intOf]; omega
    · go_wp2
      have hkk : k = bs.length := by omega
      subst hkk
      go_ret
      exact ⟨ret_nat (by rw [List.take_length]), rfl⟩
def withinT (x hi : Int) : Bool := decide (0 ≤ x) && decide (x ≤ hi)
theorem withint_any (x hi : Int) (w : World) :
    Calls Tryz.prog 185 #[.int .i64 x, .int .i64 hi] w fun e w' => e = .returned (.bool (withinT x hi)) ∧ w = w' := by
  unfold withinT
  by_cases h1 : 0 ≤ x <;> by_cases h2 : x ≤ hi
  all_goals
    go_enter Tryz.func185, Tryz.ntmps185
    go_wp2
    go_ret
    exact ⟨by simp [h1, h2], rfl⟩
def mayDataB (n : Int) : Bool := decide (24 ≤ n) && decide (n ≤ 64)
theorem mayData_any (x : Int) (w : World) :
    Calls Tryz.prog 173 #[.int .i64 x] w fun e w' => e = .returned (.bool (mayDataB x)) ∧ w = w' := by
  unfold mayDataB
  by_cases h1 : 24 ≤ x <;> by_cases h2 : x ≤ 64
  all_goals
    go_enter Tryz.func173, Tryz.ntmps173
    go_wp2
    go_ret
    exact ⟨by simp [h1, h2], rfl⟩
def tagB (k p s e : Int) : Bool := !decide (k < 1) && (!decide (3 < k) && (!((k == 3) && (p != 0)) && (withinT p 65535 && (withinT s 4294967295 && withinT e 16777215))))
theorem tagB_iff {k p s e : Int} : tagB k p s e = true ↔ 1 ≤ k ∧ k ≤ 3 ∧ (k = 3 → p = 0) ∧ 0 ≤ p ∧ p ≤ 65535 ∧ 0 ≤ s ∧ s ≤ 4294967295 ∧ 0 ≤ e ∧ e ≤ 16777215 := by
  unfold tagB withinT
  simp only [Bool.and_eq_true, Bool.not_eq_true', decide_eq_true_eq, decide_eq_false_iff_not, Bool.and_eq_false_iff, beq_eq_false_iff_ne, bne_eq_false_iff_eq, ne_eq]
  omega
theorem tmay_any (k p s e : Int) (w : World) :
    Calls Tryz.prog 174 #[.agg #[.int .i64 k, .int .i64 p, .int .i64 s, .int .i64 e]] w fun e' w' => e' = .returned (.bool (tagB k p s e)) ∧ Below w.heap.size w w' := by
  go_enter Tryz.func174, Tryz.ntmps174
  rcases (by cases hq : (decide (k < 1) : Bool) <;> simp : (decide (k < 1) : Bool) = true ∨ (decide (k < 1) : Bool) = false) with t1 | t1
  · have hr : tagB k p s e = false := by unfold tagB; rw [t1]; simp
    have HR := Lib.hid hr
    clear hr
    go_wp2_with (go_at_call 185; refine (withint_any _ _ _).mono ?_; rintro e' w' ⟨rfl, rfl⟩)
    go_ret
    exact ⟨ret_boolT HR.out.symm, ((Below.refl _ _).alloc (Nat.le_refl _) _)⟩
  · rcases (by cases hq : (decide (3 < k) : Bool) <;> simp : (decide (3 < k) : Bool) = true ∨ (decide (3 < k) : Bool) = false) with t2 | t2
    · have hr : tagB k p s e = false := by unfold tagB; rw [t1, t2]; simp
      have HR := Lib.hid hr
      clear hr
      go_wp2_with (go_at_call 185; refine (withint_any _ _ _).mono ?_; rintro e' w' ⟨rfl, rfl⟩)
      go_ret
      exact ⟨ret_boolT HR.out.symm, ((Below.refl _ _).alloc (Nat.le_refl _) _)⟩
    · rcases (by cases hq : (k == 3 : Bool) <;> simp : (k == 3) = true ∨ (k == 3) = false) with t3 | t3
      · rcases (by cases hq : (p != 0 : Bool) <;> simp : (p != 0 : Bool) = true ∨ (p != 0 : Bool) = false) with t4 | t4
        · have hr : tagB k p s e = false := by unfold tagB; rw [t1, t2, t3, t4]; simp
          have HR := Lib.hid hr
          clear hr
          go_wp2_with (go_at_call 185; refine (withint_any _ _ _).mono ?_; rintro e' w' ⟨rfl, rfl⟩)
          go_ret
          exact ⟨ret_boolT HR.out.symm, ((Below.refl _ _).alloc (Nat.le_refl _) _)⟩
        · rcases (by cases hq : (withinT p 65535 : Bool) <;> simp : (withinT p 65535 : Bool) = false ∨ (withinT p 65535 : Bool) = true) with t5 | t5
          · have hr : tagB k p s e = false := by unfold tagB; rw [t1, t2, t3, t4, t5]; simp
            have HR := Lib.hid hr
            clear hr
            go_wp2_with (go_at_call 185; refine (withint_any _ _ _).mono ?_; rintro e' w' ⟨rfl, rfl⟩)
            go_ret
            exact ⟨ret_boolT HR.out.symm, ((Below.refl _ _).alloc (Nat.le_refl _) _)⟩
          · rcases (by cases hq : (withinT s 4294967295 : Bool) <;> simp : (withinT s 4294967295 : Bool) = false ∨ (withinT s 4294967295 : Bool) = true) with t6 | t6
            · have hr : tagB k p s e = false := by unfold tagB; rw [t1, t2, t3, t4, t5, t6]; simp
              have HR := Lib.hid hr
              clear hr
              go_wp2_with (go_at_call 185; refine (withint_any _ _ _).mono ?_; rintro e' w' ⟨rfl, rfl⟩)
              go_ret
              exact ⟨ret_boolT HR.out.symm, ((Below.refl _ _).alloc (Nat.le_refl _) _)⟩
            · rcases (by cases hq : (withinT e 16777215 : Bool) <;> simp : (withinT e 16777215 : Bool) = false ∨ (withinT e 16777215 : Bool) = true) with t7 | t7
              · have hr : tagB k p s e = false := by unfold tagB; rw [t1, t2, t3, t4, t5, t6, t7]; simp
                have HR := Lib.hid hr
                clear hr
                go_wp2_with (go_at_call 185; refine (withint_any _ _ _).mono ?_; rintro e' w' ⟨rfl, rfl⟩)
                go_ret
                exact ⟨ret_boolT HR.out.symm, ((Below.refl _ _).alloc (Nat.le_refl _) _)⟩
              · have hr : tagB k p s e = true := by unfold tagB; rw [t1, t2, t3, t4, t5, t6, t7]; simp
                have HR := Lib.hid hr
                clear hr
                go_wp2_with (go_at_call 185; refine (withint_any _ _ _).mono ?_; rintro e' w' ⟨rfl, rfl⟩)
                go_ret
                exact ⟨ret_boolT HR.out.symm, ((Below.refl _ _).alloc (Nat.le_refl _) _)⟩
      · rcases (by cases hq : (withinT p 65535 : Bool) <;> simp : (withinT p 65535 : Bool) = false ∨ (withinT p 65535 : Bool) = true) with t4 | t4
        · have hr : tagB k p s e = false := by unfold tagB; rw [t1, t2, t3, t4]; simp
          have HR := Lib.hid hr
          clear hr
          go_wp2_with (go_at_call 185; refine (withint_any _ _ _).mono ?_; rintro e' w' ⟨rfl, rfl⟩)
          go_ret
          exact ⟨ret_boolT HR.out.symm, ((Below.refl _ _).alloc (Nat.le_refl _) _)⟩
        · rcases (by cases hq : (withinT s 4294967295 : Bool) <;> simp : (withinT s 4294967295 : Bool) = false ∨ (withinT s 4294967295 : Bool) = true) with t5 | t5
          · have hr : tagB k p s e = false := by unfold tagB; rw [t1, t2, t3, t4, t5]; simp
            have HR := Lib.hid hr
            clear hr
            go_wp2_with (go_at_call 185; refine (withint_any _ _ _).mono ?_; rintro e' w' ⟨rfl, rfl⟩)
            go_ret
            exact ⟨ret_boolT HR.out.symm, ((Below.refl _ _).alloc (Nat.le_refl _) _)⟩
          · rcases (by cases hq : (withinT e 16777215 : Bool) <;> simp : (withinT e 16777215 : Bool) = false ∨ (withinT e 16777215 : Bool) = true) with t6 | t6
            · have hr : tagB k p s e = false := by unfold tagB; rw [t1, t2, t3, t4, t5, t6]; simp
              have HR := Lib.hid hr
              clear hr
              go_wp2_with (go_at_call 185; refine (withint_any _ _ _).mono ?_; rintro e' w' ⟨rfl, rfl⟩)
              go_ret
              exact ⟨ret_boolT HR.out.symm, ((Below.refl _ _).alloc (Nat.le_refl _) _)⟩
            · have hr : tagB k p s e = true := by unfold tagB; rw [t1, t2, t3, t4, t5, t6]; simp
              have HR := Lib.hid hr
              clear hr
              go_wp2_with (go_at_call 185; refine (withint_any _ _ _).mono ?_; rintro e' w' ⟨rfl, rfl⟩)
              go_ret
              exact ⟨ret_boolT HR.out.symm, ((Below.refl _ _).alloc (Nat.le_refl _) _)⟩
def blankB (bs : List Nat) : Bool := bs.all fun b => b == 255
theorem all_take {p : Nat → Bool} {bs : List Nat} {k : Nat} (hk : k < bs.length) : (bs.take (k + 1)).all p = ((bs.take k).all p && p bs[k]) := by
  rw [List.take_succ_eq_append_getElem hk, List.all_append, List.all_cons, List.all_nil, Bool.and_true]
theorem erased_any (bs : List Nat) (A : Option Addr) (c : Nat) (w : World) (h1 : Sl w w.heap.size A (bs.map byteV)) (h8 : Bytes8 bs) (n1 : bs.length ≤ 1000000) :
    Calls Tryz.prog 178 #[.slice A bs.length c] w fun e w' => e = .returned (.bool (blankB bs)) ∧ w = w' := by
  go_enter Tryz.func178, Tryz.ntmps178
  go_wp2
  go_loop [7] (fun i => ∃ k : Nat, k ≤ bs.length ∧ i = .int .i64 k ∧ Hid ((bs.take k).all (fun b => b == 255) = true)) (fun i => bs.length - (intOf i).toNat)
  case atStart => exact ⟨0, Nat.zero_le _, rfl, Lib.hid (by simp)⟩
  case round =>
    obtain ⟨k, hk, rfl, H0⟩ := hrel
    by_cases hlt : k < bs.length
    · obtain ⟨b1, o1, rfl, l1, q1⟩ := h1.at_ (by simpa using (by omega : 0 < bs.length))
      have hr := all_take (p := fun b => b == 255) hlt
      have hm := List.getElem_mem hlt
      obtain ⟨x, hx⟩ : ∃ x, bs[k] = x := ⟨_, rfl⟩
      rw [hx] at hr hm
      have x1 : w.cell? ⟨b1, o1 + k, none⟩ = some (.int .u8 (x : Int)) := by rw [← hx]; exact q1 k _ (by simp [hlt, byteV])
      have HR := Lib.hid (hr.trans (by rw [H0.out, Bool.true_and]))
      have i0 : (0 : Int) ≤ (k : Int) := by omega
      have i1 : (k : Int) < (bs.length : Int) := by omega
      clear q1 hx hr
      by_cases he : x = 255
      · have t1 : ((x : Int) != 255) = false := by simp; omega
        have hn : (bs.take (k + 1)).all (fun b => b == 255) = true := HR.out.trans (by simpa using he)
        have HN := Lib.hid hn
        clear hn he
        go_wp2
        go_round
        case rel => exact ⟨k + 1, by omega, by go_num, HN⟩
        case measure => simp [intOf]; omega
      · have t1 : ((x : Int) != 255) = true := by simp; omega
        have hf : blankB bs = false := by
          unfold blankB
          rw [List.all_eq_false]
          exact ⟨x, hm, by simpa using he⟩
        have HF := Lib.hid hf
        clear hf he
        go_wp2
        go_ret
        exact ⟨ret_boolT HF.out.symm, rfl⟩
    · go_wp2
      have hkk : k = bs.length := by omega
      subst hkk
      have hr : blankB bs = true := by have := H0.out; rwa [List.take_length] at this
      go_ret
      exact ⟨ret_boolT hr.symm, rfl⟩
end Go.Proofs.YtkpcohfdcilfcaaGreat
namespace Go.Proofs.YtkpcohfdcilfcaaGreat
open Go.ChangeShapes Go.WideShapes Go.ChangeAt Go.RowKit
attribute [local go_sem ↓] Go.wp_at_zero Go.wp_at_succ
def bodyB (data : List Nat) (k p s e : Nat) : List Nat := (((data ++ [74, k]) ++ beB p 2) ++ beB s 4) ++ beB e 3
def rawB (data : List Nat) (k p s e : Nat) : List Nat := (bodyB data k p s e ++ beB (crcMore 0 (bodyB data k p s e)) 4) ++ [0]
theorem bodyB_len (data : List Nat) (k p s e : Nat) : (bodyB data k p s e).length = data.length + 11 := by simp [bodyB, beB_len]
theorem rawB_len (data : List Nat) (k p s e : Nat) : (rawB data k p s e).length = data.length + 16 := by simp [rawB, bodyB_len, beB_len]
theorem bodyB_8 {data : List Nat} {k p s e : Nat} (hd : Bytes8 data) (hk : k < 256) : Bytes8 (bodyB data k p s e) := by
  intro b hb
  simp only [bodyB, List.mem_append, List.mem_cons, List.not_mem_nil, or_false] at hb
  rcases hb with (((h | h) | h) | h) | h
  · exact hd b h
  · omega
  · exact beB_8 _ _ b h
  · exact beB_8 _ _ b h
  · exact beB_8 _ _ b h
theorem rawB_8 {data : List Nat} {k p s e : Nat} (hd : Bytes8 data) (hk : k < 256) : Bytes8 (rawB data k p s e) := by
  intro b hb
  simp only [rawB, List.mem_append, List.mem_cons, List.not_mem_nil, or_false] at hb
  rcases hb with (h | h) | h
  · exact bodyB_8 hd hk b h
  · exact beB_8 _ _ b h
  · omega
theorem own_slice {w : World} {base : Nat} {e : TypeId} {v : Value} {n : Nat} {bs : List Nat} (h : w.ownsRow base e 1 v n (bs.map byteV)) : ∃ (A : Option Addr) (c : Nat), v = .slice A n c ∧ bs.length = n ∧ n ≤ c ∧ c ≤ maxLen ∧ (A = none → n = 0 ∧ c = 0) ∧ Sl w w.heap.size A (bs.map byteV) := by
  have hl : bs.length = n := by
    have := h.1
    simp at this
    omega
  rcases h.2 with ⟨hv, h0⟩ | ⟨g, cap, cur, hv, hbg, hh, hnc, hm, hsz, ht⟩
  · subst h0
    exact ⟨none, 0, hv, hl, Nat.le_refl _, by unfold maxLen; omega, fun _ => ⟨rfl, rfl⟩, Or.inl (by rw [List.eq_nil_of_length_eq_zero hl]; rfl)⟩
  · subst hv
    exact ⟨some ⟨g, 0, none⟩, cap, rfl, hl, hnc, hm, by simp, Sl.of_own h⟩
theorem own_mono {w : World} {base base' : Nat} {e : TypeId} {size n : Nat} {v : Value} {xs : List Value} (h : w.ownsRow base e size v n xs) (hb : base' ≤ base) : w.ownsRow base' e size v n xs := by
  obtain ⟨hl, h⟩ := h
  rcases h with h | ⟨g, cap, cur, hv, hbg, hr⟩
  · exact ⟨hl, Or.inl h⟩
  · exact ⟨hl, Or.inr ⟨g, cap, cur, hv, by omega, hr⟩⟩
theorem own_len {w : World} {base : Nat} {e : TypeId} {size n m : Nat} {v : Value} {xs : List Value} (h : n = m) (ho : w.ownsRow base e size v n xs) : w.ownsRow base e size v m xs := by rw [← h]; exact ho
theorem crcOf_len (bs : List Nat) (n : Nat) (hn : bs.length = n) (A : Option Addr) (c : Nat) (w : World) (h1 : Sl w w.heap.size A (bs.map byteV)) (h8 : Bytes8 bs) (n1 : bs.length ≤ 1000000000) :
    Calls Tryz.prog 176 #[.slice A n c] w fun e w' => e = .returned (.int .u32 (crcMore 0 bs)) ∧ w = w' := by
  subst hn
  exact (crcOf_any bs A c w h1 h8 n1).mono fun e w' h => ⟨h.1, h.2.symm⟩
theorem Rd.list {w : World} {g : Nat} {t : TypeId} {vs : List Value} (h : Blk w g t vs.toArray) {m : Nat} (hm : vs.length = m) : Rd w (some ⟨g, 0, none⟩) m 1 vs := by
  refine ⟨by omega, Or.inr ⟨g, 0, rfl, fun j u hj => ?_⟩⟩
  rw [Nat.zero_add, h.cell_ j]
  simpa using hj
theorem bapp_n (v : Nat) (n : Nat) (N : Int) (hN : (n : Int) = N) (base : Nat) (sv : Value) (m : Nat) (xs : List Nat) (w : World) (hv : v < 4294967296) (hn1 : 1 ≤ n) (hn : n ≤ 4) (hown : w.ownsRow base 5 1 sv m (xs.map byteV)) (hbase : base ≤ w.heap.size) (hm : m ≤ 1000) :
    Calls Tryz.prog 175 #[sv, .int .i64 v, .int .i64 N] w fun e w' =>
      ∃ sv', e = .returned sv' ∧ w'.ownsRow base 5 1 sv' (m + n) ((xs ++ beB v n).map byteV) ∧ Below base w w' ∧ (sv'.ownBlock = sv.ownBlock ∨ ∃ g, sv'.ownBlock = some g ∧ w.heap.size ≤ g) := by
  subst hN
  exact bapp_any v n base sv m xs w hv hn1 hn hown hbase hm
theorem lay_yes (data : List Nat) (A : Option Addr) (c : Nat) (k p s e : Nat) (w : World) (h1 : Sl w w.heap.size A (data.map byteV)) (h8 : Bytes8 data) (hd1 : 24 ≤ data.length) (hd2 : data.length ≤ 64)
    (hk1 : 1 ≤ k) (hk2 : k ≤ 3) (hkp : k = 3 → p = 0) (hp : p < 65536) (hs : s < 4294967296) (he : e < 16777216) :
    Calls Tryz.prog 161 #[.slice A data.length c, .agg #[.int .i64 k, .int .i64 p, .int .i64 s, .int .i64 e]] w fun e' w' => ∃ sv, e' = .returned (.tuple #[sv, .int .i64 0]) ∧ w'.ownsRow (w.heap.size + 1) 5 1 sv (data.length + 16) ((rawB data k p s e).map byteV) ∧ Below w.heap.size w w' := by
  have hd : mayDataB data.length = true := by unfold mayDataB; simp; omega
  have ht : tagB k p s e = true := tagB_iff.2 (by omega)
  have HD := Lib.hid hd
  have HT := Lib.hid ht
  have HKP := Lib.hid hkp
  have hG0 : Blk (w.alloc (.cells #[.int .i64 k, .int .i64 p, .int .i64 s, .int .i64 e] 109)) w.heap.size 109 #[.int .i64 k, .int .i64 p, .int .i64 s, .int .i64 e] := Blk.new_ w _ _
  have h0 := h1.next ((Below.refl _ _).alloc (Nat.le_refl _) (.cells #[.int .i64 k, .int .i64 p, .int .i64 s, .int .i64 e] 109))
  have hK : (1 : Int) ≤ (k : Int) := by omega
  have hK2 : (k : Int) ≤ 3 := by omega
  have he4 : e < 4294967296 := by omega
  have hp4 : p < 4294967296 := by omega
  have hcrc : crcMore 0 (bodyB data k p s e) < 4294967296 := crcMore_lt (by omega)
  have hb8 : Hid (Bytes8 (bodyB data k p s e)) := Lib.hid (bodyB_8 h8 (by omega))
  have hbl : Hid ((bodyB data k p s e).length = data.length + 11) := Lib.hid (bodyB_len _ _ _ _ _)
  obtain ⟨B, hB⟩ : ∃ B, bodyB data k p s e = B := ⟨_, rfl⟩
  have HBB := Lib.hid hB
  have hraw : (rawB data k p s e) = (B ++ beB (crcMore 0 B) 4) ++ [0] := by unfold rawB; rw [hB]
  rw [hraw]
  rw [hB] at hcrc hb8 hbl
  clear hd ht hkp hB hraw
  obtain ⟨i0, hi, hz0, hz1, hz2⟩ := info_parts infoByte
  go_enter Tryz.func161, Tryz.ntmps161
  go_wp2_with (first
    | (go_at_call 173; refine (mayData_any _ _).mono ?_; rw [HD.out]; rintro e' w' ⟨rfl, rfl⟩)
    | (go_at_call 174; refine (tmay_any _ _ _ _ _).mono ?_; rw [HT.out]; rintro e' w1 ⟨rfl, hb1⟩; have H1 := h0.next hb1; have HG1 := hG0.below hb1 (by simp); have HB1 := below1 hb1; have hzb : w.heap.size < w1.heap.size := (by { have := hb1.size; simp at this; omega }); clear hb1 h0 hG0)
    | (at_make; refine wpList_make_own _ rfl _ _ 37 rfl w1.heap.size 5 i0 _ 1 Tryz.underlying37 hi hz0 hz1 .i64 .i64 _ (data.length + 16) rfl rfl (by push_cast; rfl) (by rw [hz2]; omega) (by unfold maxLen; omega) (Nat.le_refl _) ?_; intro w2 ho0 hg2; have HX : Below w1.heap.size w1 w2 := (Below.refl _ _).grown hg2 (Nat.le_refl _) (fun k h => by cases h))
    | (at_builtin; refine wpList_app _ rfl (.tmp 20) (.tmp 21) _ rfl w1.heap.size 5 i0 _ 1 1 Tryz.underlying37 hi hz0 hz1 hz2 rfl (by decide) _ _ _ rfl ho0 _ data.length _ (data.map byteV) rfl (Rd.of_sl (H1.below HX) (by simp)) (oneB data) (by unfold maxLen; omega) (by omega) (by have := HX.size; first | omega | (simp; omega)) ?_; intro s3 w3 ho1 hg3 _; have HX := HX.trans (below_app (Nat.le_refl _) HX.size ho0 hg3); have y0 := (HG1.below HX hzb).cell_ 0; have y1 := (HG1.below HX hzb).cell_ 1; have y2 := (HG1.below HX hzb).cell_ 2; have y3 := (HG1.below HX hzb).cell_ 3; simp at y0 y1 y2 y3)
    | (at_builtin; refine wpList_app _ rfl (.tmp 23) (.tmp 27) _ rfl w1.heap.size 5 i0 _ 1 1 Tryz.underlying37 hi hz0 hz1 hz2 rfl (by decide) _ _ _ rfl (ho1.alloc _) _ 2 _ ([74, k].map byteV) rfl (Rd.list (vs := [74, k].map byteV) (Blk.new_ _ _ _) rfl) (oneB [74, k]) (by unfold maxLen; omega) (by omega) (by have := HX.size; first | omega | (simp; omega)) ?_; intro s4 w4 ho2 hg4 _; have HX := (HX.alloc HX.size _).trans (below_app (Nat.le_refl _) (by simp; have := HX.size; omega) (ho1.alloc _) hg4); clear y0 y1 y2 y3; have y0 := (HG1.below HX hzb).cell_ 0; have y1 := (HG1.below HX hzb).cell_ 1; have y2 := (HG1.below HX hzb).cell_ 2; have y3 := (HG1.below HX hzb).cell_ 3; simp at y0 y1 y2 y3)
    | (go_at_call 175; ((with_reducible refine (bapp_n p 2 2 rfl w1.heap.size _ (data.length + 2) (data ++ [74, k]) _ hp4 (by omega) (by omega) (by simpa using ho2) HX.size (by omega)).mono ?_); rintro e' w5 ⟨s5, rfl, ho3, hb5, _⟩; have HX := HX.trans hb5; clear y0 y1 y2 y3; have y0 := (HG1.below HX hzb).cell_ 0; have y1 := (HG1.below HX hzb).cell_ 1; have y2 := (HG1.below HX hzb).cell_ 2; have y3 := (HG1.below HX hzb).cell_ 3; simp at y0 y1 y2 y3))
    | (go_at_call 175; ((with_reducible refine (bapp_n s 4 4 rfl w1.heap.size _ _ _ _ hs (by omega) (by omega) ho3 HX.size (by omega)).mono ?_); rintro e' w6 ⟨s6, rfl, ho4, hb6, _⟩; have HX := HX.trans hb6; clear y0 y1 y2 y3; have y0 := (HG1.below HX hzb).cell_ 0; have y1 := (HG1.below HX hzb).cell_ 1; have y2 := (HG1.below HX hzb).cell_ 2; have y3 := (HG1.below HX hzb).cell_ 3; simp at y0 y1 y2 y3))
    | (go_at_call 175; ((with_reducible refine (bapp_n e 3 3 rfl w1.heap.size _ _ _ _ he4 (by omega) (by omega) ho4 HX.size (by omega)).mono ?_); rintro e' w7 ⟨s7, rfl, ho5, hb7, _⟩; have HX := HX.trans hb7; clear y0 y1 y2 y3; rw [show (((data ++ [74, k]) ++ beB p 2) ++ beB s 4) ++ beB e 3 = B from HBB.out] at ho5; obtain ⟨A5, c5, rfl, hl5, hc5, hc6, hA5, H5⟩ := own_slice ho5; have HL5 := Lib.hid hl5; have HA5 := Lib.hid hA5; clear hl5 hc5 hc6 hA5))
    | (go_at_call 176; refine (crcOf_len B _ HL5.out _ _ _ H5 hb8.out (by have := hbl.out; omega)).mono ?_; rintro e' w8 ⟨rfl, rfl⟩; have ho6 := ho5)
    | (go_at_call 175; ((with_reducible refine (bapp_n (crcMore 0 B) 4 4 rfl w1.heap.size _ _ _ _ hcrc (by omega) (by omega) ho6 HX.size (by omega)).mono ?_); rintro e' w9 ⟨s9, rfl, ho7, hb9, _⟩; have HX := HX.trans hb9))
    | (at_builtin; refine wpList_app _ rfl (.tmp 46) (.tmp 47) _ rfl w1.heap.size 5 i0 _ 1 1 Tryz.underlying37 hi hz0 hz1 hz2 rfl (by decide) _ _ _ rfl (ho7.alloc _) _ 1 _ ([0].map byteV) rfl (Rd.list (vs := [0].map byteV) (Blk.new_ _ _ _) rfl) (oneB [0]) (by unfold maxLen; omega) (by omega) (by have := HX.size; first | omega | (simp; omega)) ?_; intro s10 w10 ho8 hg10 _; have HX := (HX.alloc HX.size _).trans (below_app (Nat.le_refl _) (by simp; have := HX.size; omega) (ho7.alloc _) hg10)))
  go_ret2
  refine ⟨_, rfl, own_mono (own_len ?_ (by rw [List.map_append]; exact ho8)) (by omega), HB1.trans (HX.mono (by omega))⟩
  omega
end Go.Proofs.YtkpcohfdcilfcaaGreat
namespace Go.Proofs.YtkpcohfdcilfcaaGreat
open Go.ChangeShapes Go.WideShapes Go.ChangeAt Go.RowKit
attribute [local go_sem ↓] Go.wp_at_zero Go.wp_at_succ
theorem slT {w w' : World} {B : Nat} {A : Option Addr} {vs : List Value} {S : Nat → Prop} (h : Sl w B A vs) (hT : Tch S w w') (hB : B ≤ w.heap.size) (hd : vs ≠ [] → ∀ g o, A = some ⟨g, o, none⟩ → ¬ S g) : Sl w' B A vs := by
  rcases h with h | ⟨b, off, hA, hl, hq⟩
  · exact Or.inl h
  · by_cases hv : vs = []
    · exact Or.inl hv
    · have hb := hT.far b (Nat.lt_of_lt_of_le hl hB) (hd hv b off hA)
      exact Or.inr ⟨b, off, hA, hl, fun j u hj => (cell_of_heap hb _).trans (hq j u hj)⟩
theorem used_g (F : FlK) (a b c d e : Int) (fs : List Flt) (L N : Nat) (s : FlS) (B u : Int) (w : World) (hF : FlW w F a b c d e fs L N s) (hu : s.ch.ask a B 0 = u) : Calls Tryz.prog 155 #[.pointer (some ⟨F.m, 0, none⟩), .int .i64 B] w fun e' w' => e' = .returned (.int .i64 u) ∧ w = w' := by
  have h := used_any F.m F.gx F.gb F.Af F.nf F.cf a b c d e fs B w s.ch hF.chip
  rwa [hu] at h
theorem lay_n (data : List Nat) (n : Nat) (hn : data.length = n) (A : Option Addr) (c : Nat) (k p s e : Nat) (sI : Int) (hsI : sI = (s : Int)) (w : World) (h1 : Sl w w.heap.size A (data.map byteV)) (h8 : Bytes8 data) (hd1 : 24 ≤ n) (hd2 : n ≤ 64)
    (hk1 : 1 ≤ k) (hk2 : k ≤ 3) (hkp : k = 3 → p = 0) (hp : p < 65536) (hs : s < 4294967296) (he : e < 16777216) :
    Calls Tryz.prog 161 #[.slice A n c, .agg #[.int .i64 k, .int .i64 p, .int .i64 sI, .int .i64 e]] w fun e' w' => (∃ g c', e' = .returned (.tuple #[.slice (some ⟨g, 0, none⟩) (n + 16) c', .int .i64 0]) ∧ w.heap.size ≤ g ∧ g < w'.heap.size ∧ n + 16 ≤ c' ∧ c' ≤ maxLen ∧ ∀ j u, ((rawB data k p s e).map byteV)[j]? = some u → w'.cell? ⟨g, 0 + j, none⟩ = some u) ∧ Below w.heap.size w w' := by
  subst hn hsI
  refine (lay_yes data A c k p s e w h1 h8 hd1 hd2 hk1 hk2 hkp hp hs he).mono ?_
  rintro e' w' ⟨sv, rfl, ho, hb⟩
  refine ⟨?_, hb⟩
  rcases ho.2 with ⟨hv, h0⟩ | ⟨g, cap, cur, hv, hbg, hh, hnc, hm, hsz, ht⟩
  · omega
  · subst hv
    have hlt := (World.ownsRow.lt ho g rfl).2
    exact ⟨g, cap, rfl, by omega, hlt, hnc, hm, fun j u hj => by
      have h9 := World.ownsRow.cells (g := g) ho rfl j u hj
      rwa [show (⟨g, 0, none⟩ : Addr).add j = ⟨g, 0 + j, none⟩ from by unfold Addr.add; split <;> simp_all] at h9⟩
theorem prog_n (F : FlK) (a b c d e : Int) (fs : List Flt) (L N : Nat) (s : FlS) (x y : Int) (bs : List Nat) (nl : Nat) (hl : bs.length = nl) (gA cA : Nat) (n : Int) (w : World) (hF : FlW w F a b c d e fs L N s) (hs : Fine s.ch n) (hn : n ≤ 900000000) (hR : ∀ j u, (bs.map byteV)[j]? = some u → w.cell? ⟨gA, 0 + j, none⟩ = some u) (hlt : gA < w.heap.size) (hcA : nl ≤ cA) (hcA2 : cA ≤ maxLen) (hgn : ¬ FlB F gA) (z : Int) (S1 : ChS) (hz : s.ch.progZ a b c fs x y nl = z) (hS1 : s.ch.progS a b c fs x y bs = S1) :
    Calls Tryz.prog 162 #[.pointer (some ⟨F.m, 0, none⟩), .agg #[.int .i64 x, .int .i64 y], .slice (some ⟨gA, 0, none⟩) nl cA] w fun e' w' => e' = .returned (.int .i64 z) ∧ FlW w' F a b c d e fs L N { s with ch := S1 } ∧ Tch (chB F.m F.gx F.gb) w w' := by
  subst hl hz hS1
  refine (prog_allC F.m F.gx F.gb F.Af F.nf F.cf a b c d e fs x y bs gA cA n w s.ch hF.chip hs hn hR hlt hcA hcA2 (fun h => hgn (flB_chip h))).mono ?_
  rintro e' w' ⟨rfl, hC, hT⟩
  exact ⟨rfl, hF.chip_ hC hT, hT⟩
def PrgPost (w : World) (F : FlK) (a b c d e : Int) (fs : List Flt) (L N : Nat) (s : FlS) (q kb ub : Nat) (z zt : Int) (S1 : ChS) (T : Bool) (e' : Ending) (w' : World) : Prop :=
  (z ≠ 0 → e' = .returned (.tuple #[.agg #[.int .i64 0, .int .i64 0], .int .i64 z]) ∧ FlW w' F a b c d e fs L N { s with seq := (q : Int) + 1, ch := S1 }) ∧ (z = 0 → e' = .returned (.tuple #[.agg #[.int .i64 (kb : Int), .int .i64 (ub : Int)], .int .i64 zt]) ∧ FlW w' F a b c d e fs L N { s with seq := (q : Int) + 1, ch := S1, degr := T }) ∧ Tch (FlB F) w w'
theorem program_f (F : FlK) (a b c d e : Int) (fs : List Flt) (L N : Nat) (s : FlS) (q kb ub kd pg ep nd : Nat) (tz : Int) (data : List Nat) (A : Option Addr) (cA : Nat) (n : Int) (w : World) (hF : FlW w F a b c d e fs L N s) (hq : s.seq = (q : Int)) (hq2 : q ≤ 1000000000) (hkb : (kb : Int) < a) (hub : s.ch.ask a (kb : Int) 0 = (ub : Int)) (hub2 : (ub : Int) < b)
    (hSl : Sl w w.heap.size A (data.map byteV)) (hdis : data.map byteV ≠ [] → ∀ h o, A = some ⟨h, o, none⟩ → ¬ FlB F h) (h8 : Bytes8 data) (hnd : data.length = nd) (hc : (nd : Int) = c) (hk1 : 1 ≤ kd) (hk2 : kd ≤ 3) (hkp : kd = 3 → pg = 0) (hpg : pg < 65536) (hep : ep < 16777216) (hfn : Fine s.ch n) (hn : n ≤ 900000000)
    (z : Int) (S1 : ChS) (hz : s.ch.progZ a b c fs (kb : Int) (ub : Int) (nd + 16) = z) (hS1 : s.ch.progS a b c fs (kb : Int) (ub : Int) (rawB data kd pg (q + 1) ep) = S1) (T : Bool) (hT : ({ s with seq := ((q : Int) + 1), ch := S1 } : FlS).over a d fs = T) (zt : Int) (hzt : (if T then 12 else 0) = zt) :
    Calls Tryz.prog 126 #[.pointer (some ⟨F.fm, 0, none⟩), .int .i64 (kb : Int), .agg #[.int .i64 (kd : Nat), .int .i64 (pg : Nat), .int .i64 tz, .int .i64 (ep : Nat)], .slice A nd cA] w fun e' w' => PrgPost w F a b c d e fs L N s q kb ub z zt S1 T e' w' := by
  have hm := may_bd hF.may
  obtain ⟨-, -, -, -, hc1, hc2, -⟩ := hm
  have hd1 : 24 ≤ nd := by omega
  have hd2 : nd ≤ 64 := by omega
  have HZT := Lib.hid hzt
  clear hzt
  have HND := Lib.hid hnd
  have HRL : Hid ((rawB data kd pg (q + 1) ep).length = nd + 16) := Lib.hid (by rw [rawB_len, hnd])
  have H8 := Lib.hid h8
  have HUB := Lib.hid hub
  have HZ := Lib.hid hz
  have HS1 := Lib.hid hS1
  have HT := Lib.hid hT
  have HQ := Lib.hid hq
  clear hnd h8 hz hS1 hT
  have HB : Below w.heap.size w ((w.alloc (.cells #[.int .i64 (kd : Nat), .int .i64 (pg : Nat), .int .i64 tz, .int .i64 (ep : Nat)] 109)).alloc (.cells #[.int .i64 0, .int .i64 0] 68)) := ((Below.refl w.heap.size w).alloc (Nat.le_refl _) _).alloc (by simp) _
  have B6 : Blk ((w.alloc (.cells #[.int .i64 (kd : Nat), .int .i64 (pg : Nat), .int .i64 tz, .int .i64 (ep : Nat)] 109)).alloc (.cells #[.int .i64 0, .int .i64 0] 68)) w.heap.size 109 #[.int .i64 (kd : Nat), .int .i64 (pg : Nat), .int .i64 tz, .int .i64 (ep : Nat)] := (Blk.new_ w 109 #[.int .i64 (kd : Nat), .int .i64 (pg : Nat), .int .i64 tz, .int .i64 (ep : Nat)]).alloc_ _
  have B8 : Blk ((w.alloc (.cells #[.int .i64 (kd : Nat), .int .i64 (pg : Nat), .int .i64 tz, .int .i64 (ep : Nat)] 109)).alloc (.cells #[.int .i64 0, .int .i64 0] 68)) (w.heap.size + 1) 68 #[.int .i64 0, .int .i64 0] := by
    have := Blk.new_ (w.alloc (.cells #[.int .i64 (kd : Nat), .int .i64 (pg : Nat), .int .i64 tz, .int .i64 (ep : Nat)] 109)) 68 #[.int .i64 0, .int .i64 0]
    simpa using this
  have hG := hF.below HB
  have h6 : ∀ h, FlB F h → w.heap.size ≠ h ∧ w.heap.size + 1 ≠ h := fun h hb => by
    have := hF.blt hb
    omega
  have k8 := hG.c8
  rw [hq] at k8
  have f8 := hG.free 8
  have hC := hG.seqSet ((q : Int) + 1)
  clear hq hub
  go_enter Tryz.func126, Tryz.ntmps126
  go_upto_region 2 with fail
  obtain ⟨V1, hV⟩ : ∃ V : World, V = ((w.alloc (.cells #[.int .i64 (kd : Nat), .int .i64 (pg : Nat), .int .i64 tz, .int .i64 (ep : Nat)] 109)).alloc (.cells #[.int .i64 0, .int .i64 0] 68)).setCell ⟨F.fm, 8, none⟩ (.int .i64 ((q : Int) + 1)) := ⟨_, rfl⟩
  have hG1 := hC.1
  have HT1 := (tch_bel (S := FlB F) HB).trans hC.2
  have B61 := B6.far (p := ⟨F.fm, 8, none⟩) (h6 _ flB_fm).1 (.int .i64 ((q : Int) + 1))
  have B81 := B8.far (p := ⟨F.fm, 8, none⟩) (h6 _ flB_fm).2 (.int .i64 ((q : Int) + 1))
  rw [← hV] at hG1 HT1 B61 B81 ⊢
  clear hV hC B6 B8 k8 f8 hG HB
  have k8 := hG1.c8
  obtain ⟨y0, y1, y2, y3⟩ : _ ∧ _ ∧ _ ∧ _ := ⟨B61.cell_ 0, B61.cell_ 1, B61.cell_ 2, B61.cell_ 3⟩
  simp at y0 y1 y2 y3
  have f6 := B61.free 2
  have B62 := B61.set_ 2 (.int .i64 ((q : Int) + 1))
  simp at B62
  go_upto_region 3 with fail
  obtain ⟨V2, hV⟩ : ∃ V : World, V = V1.setCell ⟨w.heap.size, 2, none⟩ (.int .i64 ((q : Int) + 1)) := ⟨_, rfl⟩
  have hset : Tch (fun g => g = w.heap.size) V1 V2 := by rw [hV]; exact Tch.setm V1 _ 2 _
  have B6 : Blk V2 w.heap.size 109 #[.int .i64 (kd : Nat), .int .i64 (pg : Nat), .int .i64 ((q : Int) + 1), .int .i64 (ep : Nat)] := by rw [hV]; exact B62
  have B8 := hset.blk B81 (by omega)
  rw [← hV]
  have hG2 := hG1.far hset (fun g hu e => by have := hF.lt g hu; omega)
  have HT2 : Tch (FlB F) w V2 := ((HT1.mono (S' := fun g => FlB F g ∨ g = w.heap.size) (fun g h => Or.inl h)).trans (hset.mono (fun g h => Or.inr h))).monoL (fun g hg h => by
    rcases h with h | h
    · exact h
    · omega)
  have hSl2 : Sl V2 V2.heap.size A (data.map byteV) := (slT hSl HT2 (Nat.le_refl _) hdis).mono HT2.size
  clear hV y0 y1 y2 y3 k8 f6 B61 B62 B81 hset hG1 HT1
  obtain ⟨y0, y1, y2, y3⟩ : _ ∧ _ ∧ _ ∧ _ := ⟨B6.cell_ 0, B6.cell_ 1, B6.cell_ 2, B6.cell_ 3⟩
  simp at y0 y1 y2 y3
  go_upto_region 4 with (go_at_call 161; ((with_reducible refine (lay_n data nd HND.out A cA kd pg (q + 1) ep ((q : Int) + 1) (by omega) _ hSl2 H8.out hd1 hd2 hk1 hk2 hkp hpg (by omega) hep).mono ?_); rintro e' w3 ⟨⟨gA, cR, rfl, g1, g2, g3, g4, hrd⟩, b3⟩; have hG3 := hG2.below b3; have B6 := B6.below b3 B6.lt; have B8 := B8.below b3 B8.lt; have hz3 := b3.size; have k0 := hG3.c0))
  have HT3 := HT2.trans (tch_bel b3)
  have hT2z := HT2.size
  have hB8z := B8.lt
  have hSl3 := hz3
  go_upto_region 7 with (go_at_call 155; ((with_reducible refine (used_g F a b c d e fs L N { s with seq := (q : Int) + 1 } (kb : Int) (ub : Int) _ hG3 HUB.out).mono ?_); rintro e' w4 ⟨rfl, rfl⟩; skip))
  obtain ⟨V4, hV⟩ : ∃ V : World, V = w3.alloc (.cells #[.int .i64 (kb : Int), .int .i64 (ub : Int)] 68) := ⟨_, rfl⟩
  have b4 : Below w3.heap.size w3 V4 := by rw [hV]; exact (Below.refl _ _).alloc (Nat.le_refl _) _
  have B12 : Blk V4 w3.heap.size 68 #[.int .i64 (kb : Int), .int .i64 (ub : Int)] := by rw [hV]; exact Blk.new_ _ _ _
  rw [← hV]
  obtain ⟨g12, hg12⟩ : ∃ g, w3.heap.size = g := ⟨_, rfl⟩
  rw [hg12] at B12 ⊢
  have hG4 := hG3.below b4
  have B8 := B8.below b4 B8.lt
  have HT4 := HT3.trans (tch_bel b4)
  have hgA : ¬ FlB F gA := fun h => by
    have := hG2.blt h
    omega
  have h12 : ∀ h, FlB F h → g12 ≠ h := fun h hb => by
    have := hG3.blt hb
    omega
  have h812 : w.heap.size + 1 ≠ g12 := by
    have := B8.lt
    have := hT2z
    omega
  have hrd4 : ∀ j u, ((rawB data kd pg (q + 1) ep).map byteV)[j]? = some u → V4.cell? ⟨gA, 0 + j, none⟩ = some u := fun j u hj => (b4.cell (p := ⟨gA, 0 + j, none⟩) g2).trans (hrd j u hj)
  have hlt4 : gA < V4.heap.size := Nat.lt_of_lt_of_le g2 b4.size
  clear hV y0 y1 y2 y3 k0 hrd B6
  have hrdD : ∀ j u, ((rawB data kd pg (q + 1) ep).map byteV)[j]? = some u → V4.drew.cell? ⟨gA, 0 + j, none⟩ = some u := hrd4
  have hltD : gA < V4.drew.heap.size := hlt4
  have hGD := hG4.drew_
  have B12D : Blk V4.drew g12 68 #[.int .i64 (kb : Int), .int .i64 (ub : Int)] := B12
  have B8D : Blk V4.drew (w.heap.size + 1) 68 #[.int .i64 0, .int .i64 0] := B8
  obtain ⟨p0, p1⟩ : _ ∧ _ := ⟨B12D.cell_ 0, B12D.cell_ 1⟩
  simp at p0 p1
  have QD := And.intro hGD.c0 (And.intro p0 p1)
  go_cut [13] (fun v wx => v = .int .i64 z ∧ FlW wx F a b c d e fs L N { s with seq := (q : Int) + 1, ch := S1 } ∧ Tch (FlB F) V4 wx ∧ Blk wx g12 68 #[.int .i64 (kb : Int), .int .i64 (ub : Int)] ∧ Blk wx (w.heap.size + 1) 68 #[.int .i64 0, .int .i64 0])
  case first =>
    refine wp_region_noPanic ?_
    refine wp_region_held_drew (S := (fun w_ => w_.cell? ⟨F.fm, 0, none⟩ = some (.pointer (some ⟨F.m, 0, none⟩)) ∧ w_.cell? ⟨g12, 0, none⟩ = some (.int .i64 (kb : Int)) ∧ w_.cell? ⟨g12, 1, none⟩ = some (.int .i64 (ub : Int)))) (by kernel_rfl) ?_ (fun hHeld => ?_)
    · (first | with_reducible exact QD | with_reducible exact hNext | assumption)
    refine tk 0 ?_; try simp only [Act.put, pz1, pz2, pz3]
    refine tk 1 ?_; try simp only [Act.put, pz1, pz2, pz3]
    refine tk 2 ?_; try simp only [Act.put, pz1, pz2, pz3]
    refine tk 3 ?_; try simp only [Act.put, pz1, pz2, pz3]
    refine tk 4 ?_; try simp only [Act.put, pz1, pz2, pz3]
    refine tk 5 ?_; try simp only [Act.put, pz1, pz2, pz3]
    refine wpAnyH_ready (rs := [6]) (by kernel_rfl) (by simp) ?_
    refine AllReadyH.cons (o := ⟨some 50, .call { callee := .value (.func 162), args := #[.tmp 47, .tmp 48, .tmp 49], argTypes := #[27, 68, 37] }, 34, "write.go:108", #[⟨3, .data⟩, ⟨4, .data⟩, ⟨5, .data⟩], none⟩) rfl (fun K hK => ?_) AllReadyH.nil
    go_simp
    (go_at_call 162; ((with_reducible refine (prog_n F a b c d e fs L N { s with seq := (q : Int) + 1 } (kb : Int) (ub : Int) (rawB data kd pg (q + 1) ep) (nd + 16) HRL.out gA cR n _ hGD hfn hn hrdD hltD g3 g4 hgA z S1 HZ.out HS1.out).mono ?_); rintro e' w5 ⟨rfl, hG5, hT5⟩; have hT5 := hT5.mono (fun g h => flB_chip h); have B12E := hT5.blk B12D (fun h => h12 _ h rfl); have B8E := hT5.blk B8D (fun h => (h6 _ h).2 rfl); have p2 := B12E.cell_ 0; have p3 := B12E.cell_ 1; simp at p2 p3; have hNext := And.intro hG5.c0 (And.intro p2 p3)))
    go_wp2_with fail
    refine hK.out _ _ ?_ (fun hNew => ?_)
    · (first | with_reducible exact QD | with_reducible exact hNext | assumption)
    clear hK K hHeld
    have hHeld := hNew
    clear hNew
    try simp only [Act.put, pz1, pz2, pz3]
    refine tk 7 ?_; try simp only [Act.put, pz1, pz2, pz3]
    refine wpAnyH_done (by kernel_rfl) ?_ _
    refine NoPanic.normal ?_
    go_wp2_with fail
    go_meet
    exact ⟨rfl, hG5, (tch_bel (below_dr V4)).trans hT5, B12E, B8E⟩
  case rest =>
    obtain ⟨rfl, hG5, hT5, B12, B8⟩ := hcut
    have HT5 := HT4.trans hT5
    clear QD hGD B12D B8D p0 p1 hG4 hrd4 hrdD hlt4 hltD
    have f80 := B8.free 0
    have f81 := B8.free 1
    obtain ⟨o0, o1⟩ : _ ∧ _ := ⟨B8.cell_ 0, B8.cell_ 1⟩
    simp at o0 o1
    by_cases hz0 : z = 0
    · have e0 : (z != 0) = false := by simp [hz0]
      have hGD := hG5.drew_
      have B12D := B12.drew_F
      have B8D := B8.drew_F
      obtain ⟨p0, p1⟩ : _ ∧ _ := ⟨B12D.cell_ 0, B12D.cell_ 1⟩
      simp at p0 p1
      have QD := And.intro p0 p1
      have HZ0 := Lib.hid hz0
      clear hz0
      go_upto_region 10 with fail
      refine wp_region_noPanic ?_
      refine wp_region_held_drew (S := (fun w_ => w_.cell? ⟨g12, 0, none⟩ = some (.int .i64 (kb : Int)) ∧ w_.cell? ⟨g12, 1, none⟩ = some (.int .i64 (ub : Int)))) (by kernel_rfl) ?_ (fun hHeld => ?_)
      · (first | with_reducible exact QD | with_reducible exact hNext | exact QS | assumption)
      refine tk 0 ?_; try simp only [Act.put, pz1, pz2, pz3]
      refine tk 1 ?_; try simp only [Act.put, pz1, pz2, pz3]
      refine wpAnyH_ready (rs := [2]) (by kernel_rfl) (by simp) ?_
      refine AllReadyH.cons (o := ⟨some 57, .call { callee := .value (.func 145), args := #[.tmp 56], argTypes := #[28] }, 34, "write.go:111", #[⟨1, .data⟩], none⟩) rfl (fun K hK => ?_) AllReadyH.nil
      go_simp
      (go_at_call 145; ((with_reducible refine (watch_any F a b c d e fs L N { s with seq := (q : Int) + 1, ch := S1 } _ hGD _ HT.out zt HZT.out).mono ?_); rintro e' w6 ⟨rfl, hG6, hT6⟩; have B12W := hT6.blk B12D (fun h => h12 _ h rfl); have B8W := hT6.blk B8D (fun h => (h6 _ h).2 rfl); have p2 := B12W.cell_ 0; have p3 := B12W.cell_ 1; simp at p2 p3; have hNext := And.intro p2 p3; have v0 := B8W.cell_ 0; have v1 := B8W.cell_ 1; simp at v0 v1; have f82 := B8W.free 0; have f83 := B8W.free 1; have BZ := (B8W.set_ 0 (.int .i64 (kb : Int))).set_ 1 (.int .i64 (ub : Int)); simp at BZ; have r0 := BZ.cell_ 0; have r1 := BZ.cell_ 1; simp at r0 r1; have BS := (B12W.far (p := ⟨w.heap.size + 1, 0, none⟩) (fun e => h812 e.symm) (.int .i64 (kb : Int))).far (p := ⟨w.heap.size + 1, 1, none⟩) (fun e => h812 e.symm) (.int .i64 (ub : Int)); have s0 := BS.cell_ 0; have s1 := BS.cell_ 1; simp at s0 s1; have QS := And.intro s0 s1))
      go_wp2_with fail
      refine hK.out _ _ ?_ (fun hNew => ?_)
      · (first | with_reducible exact QD | with_reducible exact hNext | exact QS | assumption)
      clear hK K hHeld
      have hHeld := hNew
      clear hNew
      try simp only [Act.put, pz1, pz2, pz3]
      refine wpAnyH_ready (rs := [3]) (by kernel_rfl) (by simp) ?_
      refine AllReadyH.cons (o := ⟨none, .store 68 (.tmp 8) (.tmp 55), 0, "write.go:111", #[⟨0, .data⟩, ⟨2, .chain⟩, ⟨0, .phase⟩, { on := 1, ground := Ground.textOnly Departure.lateStores }, { on := 2, ground := Ground.textOnly Departure.lateStoresUnsure }], none⟩) rfl (fun K hK => ?_) AllReadyH.nil
      go_simp
      refine hK.out _ _ ?_ (fun hNew => ?_)
      · (first | with_reducible exact QD | with_reducible exact hNext | exact QS | assumption)
      clear hK K hHeld
      have hHeld := hNew
      clear hNew
      try simp only [Act.put, pz1, pz2, pz3]
      refine tk 4 ?_; try simp only [Act.put, pz1, pz2, pz3]
      refine wpAnyH_done (by kernel_rfl) ?_ _
      refine NoPanic.normal ?_
      have TZ := (Tch.setm w6 (w.heap.size + 1) 0 (.int .i64 (kb : Int))).trans (Tch.setm (w6.setCell ⟨w.heap.size + 1, 0, none⟩ (.int .i64 (kb : Int))) (w.heap.size + 1) 1 (.int .i64 (ub : Int)))
      have hGZ := hG6.far TZ (fun g hu e => by have := hF.lt g hu; omega)
      have HTZ : Tch (FlB F) w ((w6.setCell ⟨w.heap.size + 1, 0, none⟩ (.int .i64 (kb : Int))).setCell ⟨w.heap.size + 1, 1, none⟩ (.int .i64 (ub : Int))) := ((((HT5.trans (tch_bel (below_dr _))).trans hT6).mono (S' := fun g => FlB F g ∨ g = w.heap.size + 1) (fun g h => Or.inl h)).trans (TZ.mono (fun g h => Or.inr h))).monoL (fun g hg h => by
        rcases h with h | h
        · exact h
        · omega)
      go_wp2_with fail
      refine bodyPost_ret (v := .tuple #[.agg #[.int .i64 (kb : Int), .int .i64 (ub : Int)], .int .i64 zt]) (by simp [results, Tryz.results126, go_sem, r0, r1]) rfl ⟨fun h => absurd HZ0.out h, fun _ => ⟨rfl, hGZ.like⟩, HTZ.like⟩
    · have e0 : (z != 0) = true := by simpa using hz0
      have HZ0 := Lib.hid hz0
      clear hz0
      have BZ := (B8.set_ 0 (.int .i64 0)).set_ 1 (.int .i64 0)
      simp at BZ
      obtain ⟨r0, r1⟩ : _ ∧ _ := ⟨BZ.cell_ 0, BZ.cell_ 1⟩
      simp at r0 r1
      have TZ := (Tch.setm wc (w.heap.size + 1) 0 (.int .i64 0)).trans (Tch.setm (wc.setCell ⟨w.heap.size + 1, 0, none⟩ (.int .i64 0)) (w.heap.size + 1) 1 (.int .i64 0))
      have hGZ := hG5.far TZ (fun g hu e => by have := hF.lt g hu; omega)
      have HTZ : Tch (FlB F) w ((wc.setCell ⟨w.heap.size + 1, 0, none⟩ (.int .i64 0)).setCell ⟨w.heap.size + 1, 1, none⟩ (.int .i64 0)) := ((HT5.mono (S' := fun g => FlB F g ∨ g = w.heap.size + 1) (fun g h => Or.inl h)).trans (TZ.mono (fun g h => Or.inr h))).monoL (fun g hg h => by
        rcases h with h | h
        · exact h
        · omega)
      go_wp2_with fail
      refine bodyPost_ret (v := .tuple #[.agg #[.int .i64 0, .int .i64 0], .int .i64 z]) (by simp [results, Tryz.results126, go_sem, r0, r1]) rfl ⟨fun _ => ⟨rfl, hGZ⟩, fun h => absurd h HZ0.out, HTZ⟩
end Go.Proofs.YtkpcohfdcilfcaaGreat
namespace Go.Proofs.YtkpcohfdcilfcaaGreat
open Go.ChangeShapes Go.WideShapes Go.ChangeAt Go.RowKit
def jumpsQ (J : Nat → Act → World → Prop) (Q : Exit → Act → World → Prop) : Exit → Act → World → Prop
  | .goto l, a, w => J l a w
  | e, a, w => Q e a w
theorem jumpsQ_mono {J J' : Nat → Act → World → Prop} {Q : Exit → Act → World → Prop} (h : ∀ l a w, J l a w → J' l a w) : ∀ e a w, jumpsQ J Q e a w → jumpsQ J' Q e a w := by
  intro e a w hq
  cases e with
  | goto l => exact h l a w hq
  | normal => exact hq
  | exit id => exact hq
  | ret => exact hq
  | panic ch => exact hq
  | outgrown => exact hq
theorem wp_to {P : Program} {c : Code} {a : Act} {w : World} {Q Q' : Exit → Act → World → Prop} (h : c.wp P Q a w) (hq : ∀ e a w, Q e a w → Q' e a w) : c.wp P Q' a w := by
  intro b k cs
  obtain ⟨e, a1, w1, h1, h2⟩ := h b k cs
  exact ⟨e, a1, w1, hq _ _ _ h1, h2⟩
theorem wp_scope_many {P : Program} {c : Code} {a : Act} {w : World} {Q : Exit → Act → World → Prop} (J : Nat → Nat → Act → World → Prop)
    (pass : ∀ l n a' w', J l n a' w' → (∀ l' m a1 w1, m < n → J l' m a1 w1 → ∀ rest, findLabel c l' = some (.seq .skip rest) → rest.wp P (jumpsQ (fun l a w => ∃ m, m < n ∧ J l m a w) Q) a1 w1) → ∃ rest, findLabel c l = some (.seq .skip rest) ∧ rest.wp P (jumpsQ (fun l a w => ∃ m, m < n ∧ J l m a w) Q) a' w')
    (first : (∀ l n a' w', J l n a' w' → ∀ rest, findLabel c l = some (.seq .skip rest) → rest.wp P (jumpsQ (fun l a w => ∃ n, J l n a w) Q) a' w') → c.wp P (jumpsQ (fun l a w => ∃ n, J l n a w) Q) a w) : (Code.scope c).wp P Q a w := by
  have step : ∀ n l a w, J l n a w → ∃ rest, findLabel c l = some (.seq .skip rest) ∧ rest.wp P (jumpsQ (fun l a w => ∃ m, m < n ∧ J l m a w) Q) a w := by
    intro n
    induction n using Nat.strongRecOn with
    | _ n ih =>
      intro l a w h
      refine pass l n a w h (fun l' m a1 w1 hm hJ rest hr => ?_)
      obtain ⟨rest', hr', hw⟩ := ih m hm l' a1 w1 hJ
      rw [hr] at hr'
      cases hr'
      exact wp_to hw (jumpsQ_mono fun l a w ⟨k, hk, h⟩ => ⟨k, by omega, h⟩)
  have hfirst := first (fun l n a' w' hJ rest hr => by
    obtain ⟨rest', hr', hw⟩ := step n l a' w' hJ
    rw [hr] at hr'
    cases hr'
    exact wp_to hw (jumpsQ_mono fun l a w ⟨k, hk, h⟩ => ⟨k, h⟩))
  intro b k cs
  have key : ∀ n l a w, J l n a w → ∃ rest, findLabel c l = some rest ∧ ∃ e a' w', Q e a' w' ∧ Arrives P (lone (b.at a (.code rest :: .inScope c :: k)) cs w) b k cs e a' w' := by
    intro n
    induction n using Nat.strongRecOn with
    | _ n ih =>
      intro l a w hJ
      obtain ⟨rest, hr, hw⟩ := step n l a w hJ
      replace hw := wp_seq (x := .skip) (wp_skip hw)
      refine ⟨_, hr, ?_⟩
      obtain ⟨e, a₁, w₁, hq, harr⟩ := hw b (.inScope c :: k) cs
      cases e with
      | normal => exact ⟨.normal, a₁, w₁, hq, Steps.trans harr (.one step_inScope)⟩
      | exit id => exact ⟨.exit id, a₁, w₁, hq, fun k' hk => harr k' (by simp [exitTo, hk])⟩
      | goto l' =>
        obtain ⟨m, hlt, hJ'⟩ := hq
        obtain ⟨rest2, hr2, e₂, a₂, w₂, hq₂, harr₂⟩ := ih m hlt l' a₁ w₁ hJ'
        have hg : gotoIn l' (.inScope c :: k) = some (.code rest2 :: .inScope c :: k) := by simp [gotoIn, hr2]
        exact ⟨e₂, a₂, w₂, hq₂, .of_steps (harr _ hg) harr₂⟩
      | ret => exact ⟨_, a₁, w₁, hq, harr⟩
      | panic ch => exact ⟨_, a₁, w₁, hq, harr⟩
      | outgrown => exact ⟨_, a₁, w₁, hq, harr⟩
  obtain ⟨e, a₁, w₁, hq, harr⟩ := hfirst b (.inScope c :: k) cs
  cases e with
  | normal => exact ⟨.normal, a₁, w₁, hq, .head step_scope (Steps.trans harr (.one step_inScope))⟩
  | exit id => exact ⟨.exit id, a₁, w₁, hq, fun k' hk => .head step_scope (harr k' (by simp [exitTo, hk]))⟩
  | goto l' =>
    obtain ⟨m, hJ'⟩ := hq
    obtain ⟨rest2, hr2, e₂, a₂, w₂, hq₂, harr₂⟩ := key m l' a₁ w₁ hJ'
    have hg : gotoIn l' (.inScope c :: k) = some (.code rest2 :: .inScope c :: k) := by simp [gotoIn, hr2]
    exact ⟨e₂, a₂, w₂, hq₂, .of_steps (.head step_scope (harr _ hg)) harr₂⟩
  | ret => exact ⟨_, a₁, w₁, hq, .of_steps (.one step_scope) harr⟩
  | panic ch => exact ⟨_, a₁, w₁, hq, .of_steps (.one step_scope) harr⟩
  | outgrown => exact ⟨_, a₁, w₁, hq, .of_steps (.one step_scope) harr⟩
theorem jumpsQ_ret {J : Nat → Act → World → Prop} {Q : Exit → Act → World → Prop} {a : Act} {w : World} (h : Q .ret a w) : jumpsQ J Q .ret a w := h
end Go.Proofs.YtkpcohfdcilfcaaGreat
namespace Go.Proofs.YtkpcohfdcilfcaaGreat
open Go.ChangeShapes Go.WideShapes Go.ChangeAt Go.RowKit
attribute [local go_sem ↓] Go.wp_at_zero Go.wp_at_succ
def OpnJ (F : FlK) (w0 : World) (l n : Nat) (a : Act) (w : World) : Prop := l = 0 ∧ a = ⟨#[.pointer (some ⟨F.fm, 0, none⟩), undef, .int .i64 0, .int .i64 0, undef, undef, undef, undef, undef, undef, undef, undef, undef, undef, undef, undef, undef, undef, undef, undef, undef, undef, undef, undef, undef, undef, undef, undef, undef, undef, undef, undef, undef, undef, undef, undef, undef, undef, undef, undef, undef, undef, undef, undef, undef], []⟩ ∧ w = w0
theorem reserve_0 (F : FlK) (a b c d e : Int) (fs : List Flt) (L N : Nat) (s : FlS) (w : World) (hF : FlW w F a b c d e fs L N s) (T : Bool) (hT : resB a d fs s.ch 0 = T) :
    Calls Tryz.prog 117 #[.pointer (some ⟨F.fm, 0, none⟩), .int .i64 0] w fun e' w' => e' = .returned (.bool T) ∧ Below w.heap.size w w' := reserve_f F a b c d e fs L N s 0 w hF (by omega) T hT
theorem reserve_1 (F : FlK) (a b c d e : Int) (fs : List Flt) (L N : Nat) (s : FlS) (w : World) (hF : FlW w F a b c d e fs L N s) (T : Bool) (hT : resB a d fs s.ch 1 = T) :
    Calls Tryz.prog 117 #[.pointer (some ⟨F.fm, 0, none⟩), .int .i64 1] w fun e' w' => e' = .returned (.bool T) ∧ Below w.heap.size w w' := reserve_f F a b c d e fs L N s 1 w hF (by omega) T hT
theorem open_begun (F : FlK) (a b c d e : Int) (fs : List Flt) (L N : Nat) (s : FlS) (w : World) (hF : FlW w F a b c d e fs L N s) (k : Nat) (hz : begI a b fs s.ch (-1) = (k : Int)) :
    Calls Tryz.prog 125 #[.pointer (some ⟨F.fm, 0, none⟩)] w fun e' w' => e' = .returned (.tuple #[.int .i64 (k : Int), .int .i64 0]) ∧ Below w.heap.size w w' := by
  have HZ := Lib.hid hz
  have k0 : (0 : Int) ≤ (k : Int) := by omega
  clear hz
  go_enter Tryz.func125, Tryz.ntmps125
  go_wp2
  refine wp_scope_many (OpnJ F w) ?_ ?_
  · intro l Mm a' wr hJ hcut
    clear hcut
    obtain ⟨rfl, rfl, rfl⟩ := hJ
    refine ⟨_, (by simp only [findLabel, Nat.reduceBEq, if_true, if_false, Bool.false_eq_true]; rfl), ?_⟩
    go_wp2_with ((go_at_call 124; ((with_reducible refine (begun_f F a b c d e fs L N s (-1) _ hF _ HZ.out).mono ?_); rintro e' w1 ⟨rfl, b1⟩; have hG := hF.below b1)))
    refine jumpsQ_ret ?_
    go_ret2
    exact ⟨rfl, b1⟩
  · intro hcut
    have HC := Lib.hid hcut
    clear hcut
    go_wp2_with fail
    rename_i K hK
    go_step3
    show K _ _
    refine hK _ _ ?_
    exact HC.out 0 0 _ _ ⟨rfl, rfl, rfl⟩ _ (by kernel_rfl)
theorem open_rest (F : FlK) (a b c d e : Int) (fs : List Flt) (L N : Nat) (s : FlS) (n : Int) (w : World) (hF : FlW w F a b c d e fs L N s) (hbn : s.ch.Bnd n) (hn : n ≤ 900000000) (hz : begI a b fs s.ch (-1) = -1) (hr : resB a d fs s.ch 1 = true) (z : Int) (hq : restI a fs s.ch = z) :
    Calls Tryz.prog 125 #[.pointer (some ⟨F.fm, 0, none⟩)] w fun e' w' => e' = .returned (.tuple #[.int .i64 z, .int .i64 0]) ∧ Below w.heap.size w w' := by
  have HZ := Lib.hid hz
  have HR := Lib.hid hr
  have HQ := Lib.hid hq
  have HBN := Lib.hid hbn
  clear hz hr hq hbn
  go_enter Tryz.func125, Tryz.ntmps125
  go_wp2
  refine wp_scope_many (OpnJ F w) ?_ ?_
  · intro l Mm a' wr hJ hcut
    clear hcut
    obtain ⟨rfl, rfl, rfl⟩ := hJ
    refine ⟨_, (by simp only [findLabel, Nat.reduceBEq, if_true, if_false, Bool.false_eq_true]; rfl), ?_⟩
    go_wp2_with (first | (go_at_call 124; ((with_reducible refine (begun_f F a b c d e fs L N s (-1) _ hF _ HZ.out).mono ?_); rintro e' w1 ⟨rfl, b1⟩; have hG := hF.below b1)) | (go_at_call 117; ((with_reducible refine (reserve_1 F a b c d e fs L N s _ hG _ HR.out).mono ?_); rintro e' w2 ⟨rfl, b2⟩; have hG2 := hG.below b2)) | (go_at_call 157; ((with_reducible refine (rested_f F a b c d e fs L N s n _ hG2 HBN.out hn _ HQ.out).mono ?_); rintro e' w3 ⟨rfl, b3⟩; skip)))
    refine jumpsQ_ret ?_
    go_ret2
    exact ⟨rfl, btr b1 b1.size (btr b2 b2.size b3)⟩
  · intro hcut
    have HC := Lib.hid hcut
    clear hcut
    go_wp2_with fail
    rename_i K hK
    go_step3
    show K _ _
    refine hK _ _ ?_
    exact HC.out 0 0 _ _ ⟨rfl, rfl, rfl⟩ _ (by kernel_rfl)
end Go.Proofs.YtkpcohfdcilfcaaGreat
namespace Go.Proofs.YtkpcohfdcilfcaaGreat
open Go.ChangeShapes Go.WideShapes Go.ChangeAt Go.RowKit
attribute [local go_sem ↓] Go.wp_at_zero Go.wp_at_succ
theorem restore_no (F : FlK) (a b c d e : Int) (fs : List Flt) (L N : Nat) (s : FlS) (w : World) (hF : FlW w F a b c d e fs L N s) (hr : resB a d fs s.ch 0 = true) :
    Calls Tryz.prog 77 #[.pointer (some ⟨F.fm, 0, none⟩)] w fun e' w' => e' = .returned (.int .i64 0) ∧ Below w.heap.size w w' := by
  obtain ⟨ha1, ha2, -⟩ := may_bd hF.may
  have HR := Lib.hid hr
  obtain ⟨W0, hW⟩ : ∃ V : World, V = w.alloc (.cells #[.pointer (some ⟨F.fm, 0, none⟩)] 28) := ⟨_, rfl⟩
  have hal : Below w.heap.size w W0 := by rw [hW]; exact (Below.refl _ _).alloc (Nat.le_refl _) _
  have BX : Blk W0 w.heap.size 28 #[.pointer (some ⟨F.fm, 0, none⟩)] := by rw [hW]; exact Blk.new_ _ _ _
  have hG := hF.below hal
  have k1 := hG.c1
  have x0 := BX.cell_ 0
  simp at x0
  clear hr
  go_enter Tryz.func77, Tryz.ntmps77
  go_upto_region 1 with fail
  rw [← hW]
  clear hW
  go_wp2_with fail
  go_loop [10] (fun i => i = .int .i64 0) (fun _ => 0)
  case atStart => rfl
  case round =>
    subst hrel
    have i1 : (0 : Int) < a := by omega
    go_wp2_with (go_at_call 117; ((with_reducible refine (reserve_0 F a b c d e fs L N s _ hG _ HR.out).mono ?_); rintro e' w1 ⟨rfl, b1⟩; skip))
    go_ret
    exact ⟨rfl, hal.trans (b1.mono hal.size)⟩
def NoStrand (a b : Int) (fs : List Flt) (s : FlS) : Prop := ∀ k i : Nat, (k : Int) < a → (i : Int) < b → goodB a fs s.ch (k : Int) = false → needB a b s (k : Int) (i : Int) = false
theorem stranded_no (F : FlK) (a b c d e : Int) (fs : List Flt) (L N : Nat) (s : FlS) (w : World) (hF : FlW w F a b c d e fs L N s) (hn : NoStrand a b fs s) :
    Calls Tryz.prog 127 #[.pointer (some ⟨F.fm, 0, none⟩)] w fun e' w' => e' = .returned (.tuple #[.agg #[.int .i64 0, .int .i64 0], .bool false]) ∧ Below w.heap.size w w' := by
  obtain ⟨ha1, ha2, hb1, hb2, -⟩ := may_bd hF.may
  have HN := Lib.hid hn
  obtain ⟨W0, hW⟩ : ∃ V : World, V = w.alloc (.cells #[.int .i64 0, .int .i64 0] 68) := ⟨_, rfl⟩
  have hal : Below w.heap.size w W0 := by rw [hW]; exact (Below.refl _ _).alloc (Nat.le_refl _) _
  have BX : Blk W0 w.heap.size 68 #[.int .i64 0, .int .i64 0] := by rw [hW]; exact Blk.new_ _ _ _
  have hG0 := hF.below hal
  have k1 := hG0.c1
  clear hn
  go_enter Tryz.func127, Tryz.ntmps127
  go_upto_region 1 with fail
  rw [← hW]
  clear hW
  go_wp2_with fail
  go_loopw [12] (fun i wr => ∃ k : Nat, (k : Int) ≤ a ∧ i = .int .i64 k ∧ Below W0.heap.size W0 wr) (fun i _ => a.toNat - (intOf i).toNat)
  case atStart => exact ⟨0, by omega, rfl, Below.refl _ _⟩
  case round =>
    obtain ⟨k, hk, rfl, HB⟩ := hrel
    have hG := hG0.below HB
    by_cases hlt : (k : Int) < a
    · obtain ⟨T, hT⟩ : ∃ T, goodB a fs s.ch (k : Int) = T := ⟨_, rfl⟩
      have HT := Lib.hid hT
      clear hT
      cases T
      · go_upto_region 5 with ((go_at_call 139; ((with_reducible refine (good_b F a b c d e fs L N s _ _ hG _ HT.out).mono ?_); rintro e' w1 ⟨rfl, b1⟩; have HB1 := btr HB HB.size b1)))
        have k2 := (hG0.below HB1).c2
        go_wp2_with fail
        go_loopw [23] (fun j wx => ∃ i : Nat, (i : Int) ≤ b ∧ j = .int .i64 i ∧ Below W0.heap.size W0 wx) (fun j _ => b.toNat - (intOf j).toNat)
        case atStart => exact ⟨0, by omega, rfl, HB1⟩
        case round =>
          obtain ⟨i, hi, rfl, HBx⟩ := hrel
          by_cases hlt2 : (i : Int) < b
          · have HNN := HN.out k i hlt hlt2 HT.out
            have hb9 := HBx.alloc HBx.size (.cells #[.int .i64 (k : Int), .int .i64 (i : Int)] 68)
            have hG2 := hG0.below hb9
            go_wp2_with ((go_at_call 95; ((with_reducible refine (counts_f F a b c d e fs L N s (k : Int) (i : Int) _ hG2 _ HNN).mono ?_); rintro e' w2 ⟨rfl, b2⟩; skip)))
            go_roundw
            case rel => exact ⟨i + 1, by omega, by go_num, btr hb9 hb9.size b2⟩
            case measure => simp [intOf]; omega
          · go_wp2_with fail
            go_roundw
            case rel => exact ⟨k + 1, by omega, by go_num, HBx⟩
            case measure => simp [intOf]; omega
      · go_wp2_with ((go_at_call 139; ((with_reducible refine (good_b F a b c d e fs L N s _ _ hG _ HT.out).mono ?_); rintro e' w1 ⟨rfl, b1⟩; have HB1 := btr HB HB.size b1)))
        go_roundw
        case rel => exact ⟨k + 1, by omega, by go_num, HB1⟩
        case measure => simp [intOf]; omega
    · have B2 := BX.below HB BX.lt
      have f0 := B2.free 0
      have f1 := B2.free 1
      obtain ⟨o0, o1⟩ : _ ∧ _ := ⟨B2.cell_ 0, B2.cell_ 1⟩
      simp at o0 o1
      have BZ := (B2.set_ 0 (.int .i64 0)).set_ 1 (.int .i64 0)
      simp at BZ
      obtain ⟨r0, r1⟩ : _ ∧ _ := ⟨BZ.cell_ 0, BZ.cell_ 1⟩
      simp at r0 r1
      have HZ := ((hal.trans (HB.mono hal.size)).setCell (p := ⟨w.heap.size, 0, none⟩) (Nat.le_refl _) (.int .i64 0)).setCell (p := ⟨w.heap.size, 1, none⟩) (Nat.le_refl _) (.int .i64 0)
      go_wp2_with fail
      refine bodyPost_ret (v := .tuple #[.agg #[.int .i64 0, .int .i64 0], .bool false]) (by simp [results, Tryz.results127, go_sem, r0, r1]) rfl ⟨rfl, HZ⟩
end Go.Proofs.YtkpcohfdcilfcaaGreat
namespace Go.Proofs.YtkpcohfdcilfcaaGreat
open Go.ChangeShapes Go.WideShapes Go.ChangeAt Go.RowKit
attribute [local go_sem ↓] Go.wp_at_zero Go.wp_at_succ
def RscJ (F : FlK) (w0 : World) (l n : Nat) (a : Act) (w : World) : Prop := l = 0 ∧ a = ⟨#[.pointer (some ⟨F.fm, 0, none⟩), undef, .int .i64 0, undef, undef, undef, undef, undef, undef, undef, undef, undef, undef, undef, undef, undef, undef, undef, undef, undef, undef, undef, undef, undef, undef, undef, undef, undef, undef, undef, undef, undef], []⟩ ∧ w = w0
theorem rescue_no (F : FlK) (a b c d e : Int) (fs : List Flt) (L N : Nat) (s : FlS) (w : World) (hF : FlW w F a b c d e fs L N s) (hn : NoStrand a b fs s) :
    Calls Tryz.prog 81 #[.pointer (some ⟨F.fm, 0, none⟩)] w fun e' w' => e' = .returned (.int .i64 0) ∧ Below w.heap.size w w' := by
  have HN := Lib.hid hn
  clear hn
  go_enter Tryz.func81, Tryz.ntmps81
  go_wp2
  refine wp_scope_many (RscJ F w) ?_ ?_
  · intro l Mm a' wr hJ hcut
    clear hcut
    obtain ⟨rfl, rfl, rfl⟩ := hJ
    refine ⟨_, (by simp only [findLabel, Nat.reduceBEq, if_true, if_false, Bool.false_eq_true]; rfl), ?_⟩
    go_wp2_with (go_at_call 127; ((with_reducible refine (stranded_no F a b c d e fs L N s _ hF HN.out).mono ?_); rintro e' w1 ⟨rfl, b1⟩; skip))
    refine jumpsQ_ret ?_
    go_ret
    exact ⟨rfl, b1.alloc b1.size _⟩
  · intro hcut
    have HC := Lib.hid hcut
    clear hcut
    go_wp2_with fail
    rename_i K hK
    go_step3
    show K _ _
    refine hK _ _ ?_
    exact HC.out 0 0 _ _ ⟨rfl, rfl, rfl⟩ _ (by kernel_rfl)
def upTo (p : Nat → Bool) (k : Nat) : List Int := ((List.range k).filter p).map fun (i : Nat) => (i : Int)
theorem upTo_yes {p : Nat → Bool} {k : Nat} (h : p k = true) : upTo p (k + 1) = upTo p k ++ [(k : Int)] := by
  unfold upTo
  rw [List.range_succ, List.filter_append, List.map_append]
  simp [h]
theorem upTo_no {p : Nat → Bool} {k : Nat} (h : p k = false) : upTo p (k + 1) = upTo p k := by
  unfold upTo
  rw [List.range_succ, List.filter_append, List.map_append]
  simp [h]
theorem upTo_len (p : Nat → Bool) (k : Nat) : (upTo p k).length ≤ k := by
  unfold upTo
  rw [List.length_map]
  exact Nat.le_trans (List.length_filter_le _ _) (by simp)
theorem rd_int1 (w : World) (x : Int) {g : Nat} (hg : g = w.heap.size) : Rd (w.alloc (.cells #[.int .i64 x] 3)) (some ⟨g, 0, none⟩) 1 1 [.int .i64 x] := by
  subst hg
  exact Rd.one (by simp)
theorem one_int (x : Int) : ∀ u ∈ [Value.int .i64 x], u.oneCell' = true := fun u hu => by
  simp at hu
  subst hu
  rfl
theorem own_nx {w w' : World} {base n C : Nat} {e : TypeId} {v : Value} {xs : List Value} (h : w.ownsRow base e C v n xs) (hb : Below w.heap.size w w') : w'.ownsRow base e C v n xs :=
  World.ownsRow.kept h (row := none) ⟨hb.os, hb.tape, hb.output, hb.size, fun k hk _ => hb.block k hk⟩ (by cases v.ownBlock <;> simp)
theorem own_shp {w : World} {base C n : Nat} {e : TypeId} {v : Value} {xs : List Value} (h : w.ownsRow base e C v n xs) : ∃ A c, v = .slice A n c ∧ n ≤ c ∧ c ≤ maxLen := by
  rcases h.2 with ⟨hv, h0⟩ | ⟨g, cap, cur, hv, _, _, hnc, hm, _⟩
  · subst h0
    exact ⟨none, 0, hv, Nat.le_refl _, by unfold maxLen; omega⟩
  · exact ⟨_, cap, hv, hnc, hm⟩
theorem pages_f (F : FlK) (a b c d e : Int) (fs : List Flt) (L N : Nat) (s : FlS) (w : World) (hF : FlW w F a b c d e fs L N s) (l : List Int) (hl : upTo (hasF s) L = l) :
    Calls Tryz.prog 41 #[.pointer (some ⟨F.fm, 0, none⟩)] w fun e' w' => (∃ v, e' = .returned v ∧ w'.ownsRow w.heap.size 3 1 v l.length (l.map (Value.int .i64))) ∧ Below w.heap.size w w' := by
  obtain ⟨hL1, -⟩ := hF.bL
  have HL := Lib.hid hl
  clear hl
  go_enter Tryz.func41, Tryz.ntmps41
  go_wp2_with ((go_at_call 18; ((with_reducible refine (logical_f F a b c d e fs L N s _ hF).mono ?_); rintro e' w1 ⟨rfl, rfl⟩; skip)))
  go_loopw [3, 7] (fun av i wr => ∃ k : Nat, k ≤ L ∧ i = .int .i64 k ∧ Hid (∃ S, upTo (hasF s) k = S ∧ wr.ownsRow w.heap.size 3 1 av S.length (S.map (Value.int .i64))) ∧ Below w.heap.size w wr) (fun _ i _ => L - (intOf i).toNat)
  case atStart => exact ⟨0, by omega, rfl, Lib.hid ⟨[], rfl, World.ownsRow_nil _ _ _ _⟩, Below.refl _ _⟩
  case round =>
    obtain ⟨k, hk, rfl, HR, HB⟩ := hrel
    obtain ⟨S, hS, honr⟩ := HR.out
    have HS := Lib.hid hS
    have hSl : S.length ≤ k := by rw [← hS]; exact upTo_len _ _
    clear HR hS
    have hG := hF.below HB
    have hsz := HB.size
    by_cases hlt : k < L
    · have i1 : (k : Int) < (L : Int) := by omega
      obtain ⟨T, hT⟩ : ∃ T, hasF s k = T := ⟨_, rfl⟩
      have HT := Lib.hid hT
      clear hT
      obtain ⟨A3, c3, rfl, -, -⟩ := own_shp honr
      cases T
      · have HNX : Hid (upTo (hasF s) (k + 1) = S) := Lib.hid (by rw [upTo_no HT.out, HS.out])
        go_wp2_with ((go_at_call 70; ((with_reducible refine (has_f F a b c d e fs L N s k _ hG hlt _ HT.out).mono ?_); rintro e' w2 ⟨rfl, b2⟩; have HB2 := btr HB HB.size b2; have hon := own_nx honr b2; have hsz2 := HB2.size)))
        go_roundw
        case rel => exact ⟨k + 1, by omega, by go_num, Lib.hid ⟨S, HNX.out, hon⟩, HB2⟩
        case measure => simp [intOf]; omega
      · have HNX : Hid (upTo (hasF s) (k + 1) = S ++ [(k : Int)]) := Lib.hid (by rw [upTo_yes HT.out, HS.out])
        go_wp2_with (first | (go_at_call 70; ((with_reducible refine (has_f F a b c d e fs L N s k _ hG hlt _ HT.out).mono ?_); rintro e' w2 ⟨rfl, b2⟩; have HB2 := btr HB HB.size b2; have hon := own_nx honr b2; have hsz2 := HB2.size)) | (at_builtin; obtain ⟨ti0, hi, hz0, hz1, hz2⟩ := info_parts infoIntF; refine wpList_app _ rfl (.tmp 13) (.tmp 15) _ rfl w.heap.size 3 ti0 _ 1 8 Tryz.underlying24 hi hz0 hz1 hz2 rfl (by decide) _ S.length (S.map (Value.int .i64)) rfl (hon.alloc _) _ 1 _ [.int .i64 (k : Int)] rfl (rd_int1 _ _ (by simp)) (one_int _) (by unfold maxLen; omega) (by omega) (by simp; omega) ?_; intro v' w' ho' hg' hv'; clear hi hz0 hz1 hz2))
        have HF2 : Below w.heap.size w w' := (HB2.alloc HB2.size _).trans (below_app (by omega) (by simp; omega) (hon.alloc _) hg')
        have HO2 : w'.ownsRow w.heap.size 3 1 v' (S ++ [(k : Int)]).length ((S ++ [(k : Int)]).map (Value.int .i64)) := by
          rw [List.length_append, List.map_append]
          exact ho'
        go_roundw
        case rel => exact ⟨k + 1, by omega, by go_num, Lib.hid ⟨_, HNX.out, HO2⟩, HF2⟩
        case measure => simp [intOf]; omega
    · obtain rfl : L = k := by omega
      have hS9 : S = l := by rw [← HS.out, HL.out]
      subst hS9
      have HO := Lib.hid honr
      clear HS honr
      go_wp2_with fail
      go_ret
      exact ⟨⟨_, rfl, HO.out⟩, HB⟩
end Go.Proofs.YtkpcohfdcilfcaaGreat
namespace Go.Proofs.YtkpcohfdcilfcaaGreat
open Go.ChangeShapes Go.WideShapes Go.ChangeAt Go.RowKit
attribute [local go_sem ↓] Go.wp_at_zero Go.wp_at_succ
def waitP (s : FlS) (k : Nat) : Bool := match s.wt[k]? with
  | some x => x.kind != 0
  | none => false
def chgP (s : FlS) (k : Nat) : Bool := waitP s k || s.st.getD k false
def waitsF (s : FlS) (k : Nat) : Bool := (List.range k).any (waitP s)
theorem waitsF_next (s : FlS) (k : Nat) : waitsF s (k + 1) = (waitsF s k || waitP s k) := by
  unfold waitsF
  rw [List.range_succ, List.any_append]
  simp
def chgL (s : FlS) (n : Nat) : List Int := if waitsF s n then upTo (chgP s) n else []
theorem changed_f (F : FlK) (a b c d e : Int) (fs : List Flt) (L N : Nat) (s : FlS) (w : World) (hF : FlW w F a b c d e fs L N s) (l : List Int) (hl : chgL s L = l) :
    Calls Tryz.prog 49 #[.pointer (some ⟨F.fm, 0, none⟩)] w fun e' w' => (∃ v, e' = .returned v ∧ w'.ownsRow w.heap.size 3 1 v l.length (l.map (Value.int .i64))) ∧ Below w.heap.size w w' := by
  obtain ⟨hL1, -⟩ := hF.bL
  have HL := Lib.hid hl
  have k16 := hF.c16
  clear hl
  go_enter Tryz.func49, Tryz.ntmps49
  go_wp2_with fail
  go_loopw [3, 4, 11] (fun av bv i wr => ∃ (k : Nat) (wb : Bool), k ≤ L ∧ i = .int .i64 k ∧ bv = .bool wb ∧ Hid (waitsF s k = wb) ∧ Hid (∃ S, upTo (chgP s) k = S ∧ wr.ownsRow w.heap.size 3 1 av S.length (S.map (Value.int .i64))) ∧ Below w.heap.size w wr) (fun _ _ i _ => L - (intOf i).toNat)
  case atStart => exact ⟨0, false, by omega, rfl, rfl, Lib.hid rfl, Lib.hid ⟨[], rfl, World.ownsRow_nil _ _ _ _⟩, Below.refl _ _⟩
  case round =>
    obtain ⟨k, wb, hk, rfl, rfl, HW, HR, HB⟩ := hrel
    obtain ⟨S, hS, hon⟩ := HR.out
    have HS := Lib.hid hS
    have hSl : S.length ≤ k := by rw [← hS]; exact upTo_len _ _
    clear HR hS
    have hG := hF.below HB
    have hsz := HB.size
    have j16 := hG.c16
    have j17 := hG.c17
    by_cases hlt : k < L
    · have i0 : (0 : Int) ≤ (k : Int) := by omega
      have i1 : (k : Int) < (L : Int) := by omega
      obtain ⟨x, Ax, cx, hx, -, y0, -, -⟩ := hG.wt_ hlt
      obtain ⟨q, hq⟩ : ∃ q, x.kind = q := ⟨_, rfl⟩
      rw [hq] at y0
      obtain ⟨T1, hT1⟩ : ∃ T, (q != 0) = T := ⟨_, rfl⟩
      have HT1 : Hid (waitP s k = T1) := Lib.hid (by unfold waitP; rw [hx]; simp only [hq, hT1])
      obtain ⟨t0, ht0⟩ : ∃ v, s.st.getD k false = v := ⟨_, rfl⟩
      have y1 : wr.cell? ⟨F.gs, k, none⟩ = some (.bool t0) := hG.st.cell_ (by
        have := hG.lst
        rw [List.getElem?_map, List.getElem?_eq_getElem (by omega), ← ht0, List.getD_eq_getElem?_getD, List.getElem?_eq_getElem (by omega)]
        rfl)
      have HC : Hid (chgP s k = (T1 || t0)) := Lib.hid (by unfold chgP; rw [HT1.out, ht0])
      have HW2 : Hid (waitsF s (k + 1) = (wb || T1)) := Lib.hid (by rw [waitsF_next, HW.out, HT1.out])
      obtain ⟨A3, c3, rfl, -, -⟩ := own_shp hon
      clear hx hq ht0
      cases T1
      · cases t0
        · have HNX : Hid (upTo (chgP s) (k + 1) = S) := Lib.hid (by rw [upTo_no (by rw [HC.out]; rfl), HS.out])
          cases wb
          · go_wp2_with fail
            go_roundw
            case rel => exact ⟨k + 1, false, by omega, by go_num, rfl, HW2, Lib.hid ⟨_, HNX.out, hon⟩, HB⟩
            case measure => simp [intOf]; omega
          · go_wp2_with fail
            go_roundw
            case rel => exact ⟨k + 1, true, by omega, by go_num, rfl, HW2, Lib.hid ⟨_, HNX.out, hon⟩, HB⟩
            case measure => simp [intOf]; omega
        · have HNX : Hid (upTo (chgP s) (k + 1) = S ++ [(k : Int)]) := Lib.hid (by rw [upTo_yes (by rw [HC.out]; rfl), HS.out])
          cases wb
          · go_wp2_with (at_builtin; obtain ⟨ti0, hi, hz0, hz1, hz2⟩ := info_parts infoIntF; refine wpList_app _ rfl (.tmp 44) (.tmp 46) _ rfl w.heap.size 3 ti0 _ 1 8 Tryz.underlying24 hi hz0 hz1 hz2 rfl (by decide) _ S.length (S.map (Value.int .i64)) rfl (hon.alloc _) _ 1 _ [.int .i64 (k : Int)] rfl (rd_int1 _ _ (by simp)) (one_int _) (by unfold maxLen; omega) (by omega) (by simp; omega) ?_; intro v' w' ho' hg' hv'; clear hi hz0 hz1 hz2)
            have HF2 : Below w.heap.size w w' := (HB.alloc HB.size _).trans (below_app (by omega) (by simp; omega) (hon.alloc _) hg')
            have HO2 : w'.ownsRow w.heap.size 3 1 v' (S ++ [(k : Int)]).length ((S ++ [(k : Int)]).map (Value.int .i64)) := by
              rw [List.length_append, List.map_append]
              exact ho'
            go_roundw
            case rel => exact ⟨k + 1, false, by omega, by go_num, rfl, HW2, Lib.hid ⟨_, HNX.out, HO2⟩, HF2⟩
            case measure => simp [intOf]; omega
          · go_wp2_with (at_builtin; obtain ⟨ti0, hi, hz0, hz1, hz2⟩ := info_parts infoIntF; refine wpList_app _ rfl (.tmp 44) (.tmp 46) _ rfl w.heap.size 3 ti0 _ 1 8 Tryz.underlying24 hi hz0 hz1 hz2 rfl (by decide) _ S.length (S.map (Value.int .i64)) rfl (hon.alloc _) _ 1 _ [.int .i64 (k : Int)] rfl (rd_int1 _ _ (by simp)) (one_int _) (by unfold maxLen; omega) (by omega) (by simp; omega) ?_; intro v' w' ho' hg' hv'; clear hi hz0 hz1 hz2)
            have HF2 : Below w.heap.size w w' := (HB.alloc HB.size _).trans (below_app (by omega) (by simp; omega) (hon.alloc _) hg')
            have HO2 : w'.ownsRow w.heap.size 3 1 v' (S ++ [(k : Int)]).length ((S ++ [(k : Int)]).map (Value.int .i64)) := by
              rw [List.length_append, List.map_append]
              exact ho'
            go_roundw
            case rel => exact ⟨k + 1, true, by omega, by go_num, rfl, HW2, Lib.hid ⟨_, HNX.out, HO2⟩, HF2⟩
            case measure => simp [intOf]; omega
      · have HNX : Hid (upTo (chgP s) (k + 1) = S ++ [(k : Int)]) := Lib.hid (by rw [upTo_yes (by rw [HC.out]; rfl), HS.out])
        have HW3 : Hid (waitsF s (k + 1) = true) := Lib.hid (by rw [HW2.out]; cases wb <;> rfl)
        cases wb
        · go_wp2_with (at_builtin; obtain ⟨ti0, hi, hz0, hz1, hz2⟩ := info_parts infoIntF; refine wpList_app _ rfl (.tmp 44) (.tmp 46) _ rfl w.heap.size 3 ti0 _ 1 8 Tryz.underlying24 hi hz0 hz1 hz2 rfl (by decide) _ S.length (S.map (Value.int .i64)) rfl (hon.alloc _) _ 1 _ [.int .i64 (k : Int)] rfl (rd_int1 _ _ (by simp)) (one_int _) (by unfold maxLen; omega) (by omega) (by simp; omega) ?_; intro v' w' ho' hg' hv'; clear hi hz0 hz1 hz2)
          have HF2 : Below w.heap.size w w' := (HB.alloc HB.size _).trans (below_app (by omega) (by simp; omega) (hon.alloc _) hg')
          have HO2 : w'.ownsRow w.heap.size 3 1 v' (S ++ [(k : Int)]).length ((S ++ [(k : Int)]).map (Value.int .i64)) := by
            rw [List.length_append, List.map_append]
            exact ho'
          go_roundw
          case rel => exact ⟨k + 1, true, by omega, by go_num, rfl, HW3, Lib.hid ⟨_, HNX.out, HO2⟩, HF2⟩
          case measure => simp [intOf]; omega
        · go_wp2_with (at_builtin; obtain ⟨ti0, hi, hz0, hz1, hz2⟩ := info_parts infoIntF; refine wpList_app _ rfl (.tmp 44) (.tmp 46) _ rfl w.heap.size 3 ti0 _ 1 8 Tryz.underlying24 hi hz0 hz1 hz2 rfl (by decide) _ S.length (S.map (Value.int .i64)) rfl (hon.alloc _) _ 1 _ [.int .i64 (k : Int)] rfl (rd_int1 _ _ (by simp)) (one_int _) (by unfold maxLen; omega) (by omega) (by simp; omega) ?_; intro v' w' ho' hg' hv'; clear hi hz0 hz1 hz2)
          have HF2 : Below w.heap.size w w' := (HB.alloc HB.size _).trans (below_app (by omega) (by simp; omega) (hon.alloc _) hg')
          have HO2 : w'.ownsRow w.heap.size 3 1 v' (S ++ [(k : Int)]).length ((S ++ [(k : Int)]).map (Value.int .i64)) := by
            rw [List.length_append, List.map_append]
            exact ho'
          go_roundw
          case rel => exact ⟨k + 1, true, by omega, by go_num, rfl, HW3, Lib.hid ⟨_, HNX.out, HO2⟩, HF2⟩
          case measure => simp [intOf]; omega
    · obtain rfl : L = k := by omega
      cases wb
      · have hl9 : l = [] := by rw [← HL.out]; unfold chgL; rw [HW.out]; rfl
        subst hl9
        clear HS hon
        go_wp2_with fail
        go_ret
        exact ⟨⟨_, rfl, World.ownsRow_nil _ _ _ _⟩, HB⟩
      · have hl9 : S = l := by rw [← HL.out]; unfold chgL; rw [HW.out, ← HS.out]; rfl
        subst hl9
        have HO := Lib.hid hon
        clear HS hon
        go_wp2_with fail
        go_ret
        exact ⟨⟨_, rfl, HO.out⟩, HB⟩
end Go.Proofs.YtkpcohfdcilfcaaGreat
namespace Go.Proofs.YtkpcohfdcilfcaaGreat
open Go.ChangeShapes Go.WideShapes Go.ChangeAt Go.RowKit
attribute [local go_sem ↓] Go.wp_at_zero Go.wp_at_succ
theorem wtV_set : ∀ {wt : List Wt} {wa : List (Option Addr × Nat)} {k : Nat} {x : Wt} {A : Option Addr × Nat}, k < wt.length → k < wa.length → wtV (wt.set k x) (wa.set k A) = ((wtV wt wa).set (k * 2) (.int .i64 x.kind)).set (k * 2 + 1) (.slice A.1 x.dat.length A.2)
  | [], _, _, _, _, h, _ => by simp at h
  | _ :: _, [], _, _, _, _, h => by simp at h
  | y :: wt, B :: wa, 0, x, A, _, _ => by
    unfold wtV
    simp [wtC]
  | y :: wt, B :: wa, k + 1, x, A, h1, h2 => by
    have ih := wtV_set (wt := wt) (wa := wa) (k := k) (x := x) (A := A) (by simpa using h1) (by simpa using h2)
    unfold wtV at ih ⊢
    rw [List.set_cons_succ, List.set_cons_succ, List.zipWith_cons_cons, List.flatten_cons, ih, List.zipWith_cons_cons, List.flatten_cons]
    have e : (wtC y B).length = 2 := rfl
    rw [show (k + 1) * 2 = (wtC y B).length + k * 2 by rw [e]; omega, show (wtC y B).length + k * 2 + 1 = (wtC y B).length + (k * 2 + 1) by omega, List.set_append_right _ _ (by omega), List.set_append_right _ _ (by omega), Nat.add_sub_cancel_left, Nat.add_sub_cancel_left]
theorem wtV_len : ∀ {wt : List Wt} {wa : List (Option Addr × Nat)} {L : Nat}, wt.length = L → wa.length = L → (wtV wt wa).length = L * 2
  | [], [], L, h, _ => by
    simp at h
    subst h
    rfl
  | [], _ :: _, L, h, h2 => by
    simp at h h2
    omega
  | _ :: _, [], L, h, h2 => by
    simp at h h2
    omega
  | x :: wt, A :: wa, L, h, h2 => by
    simp at h h2
    obtain ⟨M, rfl⟩ : ∃ M, L = M + 1 := ⟨L - 1, by omega⟩
    have ih := wtV_len (wt := wt) (wa := wa) (L := M) (by omega) (by omega)
    unfold wtV at ih ⊢
    rw [List.zipWith_cons_cons, List.flatten_cons, List.length_append, ih]
    show 2 + M * 2 = (M + 1) * 2
    omega
def FlK.put (F : FlK) (k g c : Nat) : FlK := { F with dat := g :: F.dat, wa := F.wa.set k (some ⟨g, 0, none⟩, c) }
def FlS.put (s : FlS) (k : Nat) (x : Wt) : FlS := { s with wt := s.wt.set k x }
theorem FlW.wtPut {w w' : World} {F : FlK} {a b c d e : Int} {fs : List Flt} {L N : Nat} {s : FlS} (hF : FlW w F a b c d e fs L N s) {k g cd : Nat} {bs : List Nat} (hk : k < L) (hg : ¬ FlB F g) (hgl : g < w.heap.size) (hcd : bs.length ≤ cd) (hcm : cd ≤ maxLen) (hR : ∀ i y, bs[i]? = some y → w.cell? ⟨g, i, none⟩ = some (byteV y))
    (kd : Int) (he : w' = (w.setCell ⟨F.gw, k * 2, none⟩ (.int .i64 kd)).setCell ⟨F.gw, k * 2 + 1, none⟩ (.slice (some ⟨g, 0, none⟩) bs.length cd)) : FlW w' (F.put k g cd) a b c d e fs L N (s.put k ⟨kd, bs⟩) ∧ Tch (FlB F) w w' := by
  have hT : Tch (fun h => h = F.gw) w w' := by
    rw [he]
    exact (Tch.setm w F.gw _ _).trans (Tch.setm _ F.gw _ _)
  have hl1 := hF.lwt
  have hl2 := hF.lwa
  have hvl : (wtV s.wt F.wa).length = L * 2 := wtV_len hl1 hl2
  have q : ∀ h, FlU F h → h ≠ F.gw → w'.heap[h]? = w.heap[h]? := fun h hu hne => hT.far h (hF.lt h hu) (fun e => hne e)
  have hdq : ∀ h ∈ F.dat, w'.heap[h]? = w.heap[h]? := fun h hh => q h (Or.inr hh) (fun e => hF.dj h hh (by rw [e]; exact flB_gw))
  have hgq : w'.heap[g]? = w.heap[g]? := hT.far g hgl (fun e => hg (by rw [e]; exact flB_gw))
  obtain ⟨W1, m1⟩ := hF.kept
  obtain ⟨W2, m2⟩ := hF.fresh
  have Q := fun h (hb : FlB F h) (hne : h ≠ F.gw) => q h (Or.inl hb) hne
  refine ⟨⟨(Q _ flB_fm (hF.ne 0 11)).trans hF.box, hF.chipk hT.size (Q _ flB_m (hF.ne 1 11)) (Q _ flB_gx (hF.ne 2 11)) (Q _ flB_gb (hF.ne 3 11)) hdq, ⟨W1, m1.keep (Q _ flB_km (hF.ne 4 11)) (Q _ flB_k1 (hF.ne 5 11)) (Q _ flB_k2 (hF.ne 6 11))⟩, ⟨W2, m2.keep (Q _ flB_fr (hF.ne 7 11)) (Q _ flB_f1 (hF.ne 8 11)) (Q _ flB_f2 (hF.ne 9 11))⟩, hF.tr.keepb (Q _ flB_gt (hF.ne 10 11)), ?_, hF.st.keepb (Q _ flB_gs (fun e => absurd e.symm (hF.ne 11 12))), hF.nd, ?_, ?_, ?_, hF.ltr, ?_, ?_, hF.lst, ?_, hF.may, hF.hL, hF.hN⟩, hT.mono (fun h e => by rw [e]; exact flB_gw)⟩
  · show RowT w' F.gw 88 (wtV (s.wt.set k ⟨kd, bs⟩) (F.wa.set k (some ⟨g, 0, none⟩, cd)))
    rw [wtV_set (by omega) (by omega), he]
    exact (hF.wt.set_ (by omega) _).set_ (by rw [List.length_set]; omega) _
  · rintro h (hh | hh)
    · exact Nat.lt_of_lt_of_le (hF.lt h (Or.inl hh)) hT.size
    · rcases List.mem_cons.1 hh with rfl | hh
      · exact Nat.lt_of_lt_of_le hgl hT.size
      · exact Nat.lt_of_lt_of_le (hF.lt h (Or.inr hh)) hT.size
  · intro h hh
    rcases List.mem_cons.1 hh with rfl | hh
    · exact hg
    · exact hF.dj h hh
  · rcases hF.fl with h | ⟨h, o, h1, h2⟩
    · exact Or.inl h
    · exact Or.inr ⟨h, o, h1, List.mem_cons_of_mem _ h2⟩
  · show (s.wt.set k ⟨kd, bs⟩).length = L
    rw [List.length_set]
    exact hl1
  · show (F.wa.set k (some ⟨g, 0, none⟩, cd)).length = L
    rw [List.length_set]
    exact hl2
  · intro i x A hx hA
    have hx' : (s.wt.set k ⟨kd, bs⟩)[i]? = some x := hx
    have hA' : (F.wa.set k (some ⟨g, 0, none⟩, cd))[i]? = some A := hA
    by_cases hi : k = i
    · subst hi
      rw [List.getElem?_set_self (by omega)] at hx' hA'
      cases hx'
      cases hA'
      exact ⟨hcd, hcm, Or.inr ⟨g, rfl, List.mem_cons_self, fun j y hy => (cell_of_heap hgq j).trans (hR j y hy)⟩⟩
    · rw [List.getElem?_set_ne hi] at hx' hA'
      obtain ⟨d1, d2, d3⟩ := hF.datk hdq i x A hx' hA'
      refine ⟨d1, d2, d3.imp id ?_⟩
      rintro ⟨h, e1, e2, e3⟩
      exact ⟨h, e1, List.mem_cons_of_mem _ e2, e3⟩
end Go.Proofs.YtkpcohfdcilfcaaGreat
namespace Go.Proofs.YtkpcohfdcilfcaaGreat
open Go.ChangeShapes Go.WideShapes Go.ChangeAt Go.RowKit
attribute [local go_sem ↓] Go.wp_at_zero Go.wp_at_succ
theorem write_off (F : FlK) (a b c d e : Int) (fs : List Flt) (L N : Nat) (s : FlS) (A : Option Addr) (n cp : Nat) (p : Int) (w : World) (hF : FlW w F a b c d e fs L N s) (hon : s.ch.on = false) :
    Calls Tryz.prog 16 #[.pointer (some ⟨F.fm, 0, none⟩), .int .i64 p, .slice A n cp] w fun e' w' => e' = .returned (.int .i64 9) ∧ Below w.heap.size w w' := by
  go_enter Tryz.func16, Tryz.ntmps16
  go_wp2_with ((go_at_call 46; ((with_reducible refine (off_yes F a b c d e fs L N s _ hF hon).mono ?_); rintro e' w1 ⟨rfl, b1⟩; skip)))
  go_ret
  exact ⟨rfl, b1⟩
theorem write_arg (F : FlK) (a b c d e : Int) (fs : List Flt) (L N : Nat) (s : FlS) (A : Option Addr) (n cp : Nat) (p : Int) (w : World) (hF : FlW w F a b c d e fs L N s) (hon : s.ch.on = true) (hc : s.ch.cuts = s.cuts) (hn : n ≤ maxLen) (hb : mayP L p = false ∨ (n : Int) ≠ c) :
    Calls Tryz.prog 16 #[.pointer (some ⟨F.fm, 0, none⟩), .int .i64 p, .slice A n cp] w fun e' w' => e' = .returned (.int .i64 2) ∧ Below w.heap.size w w' := by
  obtain ⟨T, hT⟩ : ∃ T, mayP L p = T := ⟨_, rfl⟩
  rw [hT] at hb
  have HT := Lib.hid hT
  clear hT
  cases T
  · clear hb
    go_enter Tryz.func16, Tryz.ntmps16
    go_wp2_with (first | (go_at_call 46; ((with_reducible refine (off_no F a b c d e fs L N s _ hF hon hc).mono ?_); rintro e' w1 ⟨rfl, b1⟩; have hG := hF.below b1; have k3 := hG.c3; have k7 := hG.c7)) | (go_at_call 47; ((with_reducible refine (may_f F a b c d e fs L N s _ _ hG _ HT.out).mono ?_); rintro e' w2 ⟨rfl, rfl⟩; skip)))
    go_ret
    exact ⟨rfl, b1⟩
  · have hn2 : ((n : Int) == c) = false := by
      rcases hb with h | h
      · exact absurd h (by simp)
      · simpa using h
    clear hb
    go_enter Tryz.func16, Tryz.ntmps16
    go_wp2_with (first | (go_at_call 46; ((with_reducible refine (off_no F a b c d e fs L N s _ hF hon hc).mono ?_); rintro e' w1 ⟨rfl, b1⟩; have hG := hF.below b1; have k3 := hG.c3; have k7 := hG.c7)) | (go_at_call 47; ((with_reducible refine (may_f F a b c d e fs L N s _ _ hG _ HT.out).mono ?_); rintro e' w2 ⟨rfl, rfl⟩; skip)))
    go_ret
    exact ⟨rfl, b1⟩
end Go.Proofs.YtkpcohfdcilfcaaGreat
namespace Go.Proofs.YtkpcohfdcilfcaaGreat
open Go.ChangeShapes Go.WideShapes Go.ChangeAt Go.RowKit
attribute [local go_sem ↓] Go.wp_at_zero Go.wp_at_succ
theorem own_cap {w : World} {base n g c : Nat} {t : TypeId} {z : Nat} {xs : List Value} (h : w.ownsRow base t z (.slice (some ⟨g, 0, none⟩) n c) n xs) : n ≤ c ∧ c ≤ maxLen := by
  obtain ⟨-, ⟨h, -⟩ | ⟨g', c', cur, h, -, -, h1, h2, -⟩⟩ := h
  · cases h
  · cases h
    exact ⟨h1, h2⟩
theorem write_yes (F : FlK) (a b d e : Int) (fs : List Flt) (L N : Nat) (s : FlS) (k gD o cp : Nat) (bs : List Nat) (w : World) (hF : FlW w F a b (bs.length : Int) d e fs L N s) (hon : s.ch.on = true) (hc : s.ch.cuts = s.cuts) (hk : k < L) (hd : s.degr = false) (hrd : Rd w (some ⟨gD, o, none⟩) bs.length 1 (bs.map byteV)) (hlt : gD < w.heap.size) :
    Calls Tryz.prog 16 #[.pointer (some ⟨F.fm, 0, none⟩), .int .i64 (k : Int), .slice (some ⟨gD, o, none⟩) bs.length cp] w fun e' w' => e' = .returned (.int .i64 0) ∧ (∃ g' c', FlW w' (F.put k g' c') a b (bs.length : Int) d e fs L N (s.put k ⟨1, bs⟩) ∧ w.heap.size ≤ g') ∧ Tch (FlB F) w w' := by
  obtain ⟨-, -, -, -, n1, n2, -⟩ := may_bd hF.may
  have HT : Hid (mayP L (k : Int) = true) := Lib.hid (by unfold mayP; simp; omega)
  have i0 : (0 : Int) ≤ (k : Int) := by omega
  have i1 : (k : Int) < (L : Int) := by omega
  go_enter Tryz.func16, Tryz.ntmps16
  go_upto_region 9 with (first | (go_at_call 46; ((with_reducible refine (off_no F a b (bs.length : Int) d e fs L N s _ hF hon hc).mono ?_); rintro e' w1 ⟨rfl, b1⟩; have hG := hF.below b1; have k3 := hG.c3; have k7 := hG.c7; rw [hd] at k7)) | (go_at_call 47; ((with_reducible refine (may_f F a b (bs.length : Int) d e fs L N s _ _ hG _ HT.out).mono ?_); rintro e' w2 ⟨rfl, rfl⟩; skip)))
  have hGD := hG.drew_
  have hRD : Rd w1.drew (some ⟨gD, o, none⟩) bs.length 1 (bs.map byteV) := hrd.keep (fun b o' e j => by
    cases e
    exact Below.cell (p := ⟨gD, j, none⟩) (btr b1 b1.size (below_dr w1)) hlt)
  have hltD : gD < w1.drew.heap.size := Nat.lt_of_lt_of_le hlt (btr b1 b1.size (below_dr w1)).size
  have QD := hGD.c16
  refine wp_region_noPanic ?_
  refine wp_region_held_drew (S := (fun w_ => w_.cell? ⟨F.fm, 16, none⟩ = some (.slice (some ⟨F.gw, 0, none⟩) L L))) (by kernel_rfl) ?_ (fun hHeld => ?_)
  · (first | with_reducible exact QD | with_reducible exact hNext | exact QS | assumption)
  refine tk 0 ?_; try simp only [Act.put, pz1, pz2, pz3]
  refine tk 1 ?_; try simp only [Act.put, pz1, pz2, pz3]
  refine tk 2 ?_; try simp only [Act.put, pz1, pz2, pz3]
  refine tk 3 ?_; try simp only [Act.put, pz1, pz2, pz3]
  refine tk 4 ?_; try simp only [Act.put, pz1, pz2, pz3]
  refine tk 5 ?_; try simp only [Act.put, pz1, pz2, pz3]
  refine wpAnyH_ready (rs := [6]) (by kernel_rfl) (by simp) ?_
  refine AllReadyH.cons (o := ⟨some 39, .call { callee := .value (.func 48), args := #[.tmp 38], argTypes := #[37] }, 37, "flash.go:132", #[⟨5, .data⟩], none⟩) rfl (fun K hK => ?_) AllReadyH.nil
  go_simp
  (go_at_call 48; ((with_reducible refine (bclone_own gD o bs.length cp bs _ hRD hltD (by omega) (by omega)).mono ?_); rintro e' w5 ⟨⟨g5, c5, rfl, hR5, hg5, ho5⟩, hb5⟩; have hG5 := hGD.below hb5; have hNext := hG5.c16; have F2 := own_cap ho5; have hgF : ¬ FlB F g5 := (fun hh => Nat.lt_irrefl _ (Nat.lt_of_lt_of_le (hGD.lt _ (Or.inl hh)) hg5)); have WP := fun wn => hG5.wtPut (w' := wn) hk hgF hR5.lt F2.1 F2.2 (fun i y hy => hR5.cell_ (by rw [List.getElem?_map, hy]; rfl)) 1; obtain ⟨x5, A5, cA5, -, -, y0, y1, -⟩ := hG5.wt_ hk; have f0 := hG5.wt.free (k * 2); have f1 := hG5.wt.free (k * 2 + 1); have QS := (WP _ rfl).1.c16))
  go_wp2_with fail
  refine hK.out _ _ ?_ (fun hNew => ?_)
  · (first | with_reducible exact QD | with_reducible exact hNext | exact QS | assumption)
  clear hK K hHeld
  have hHeld := hNew
  clear hNew
  try simp only [Act.put, pz1, pz2, pz3]
  refine tk 7 ?_; try simp only [Act.put, pz1, pz2, pz3]
  refine tk 8 ?_; try simp only [Act.put, pz1, pz2, pz3]
  refine wpAnyH_ready (rs := [9]) (by kernel_rfl) (by simp) ?_
  refine AllReadyH.cons (o := ⟨none, .store 88 (.tmp 41) (.tmp 40), 0, "flash.go:132", #[⟨8, .data⟩, ⟨7, .data⟩, ⟨6, .chain⟩, ⟨0, .phase⟩, ⟨1, .phase⟩, ⟨2, .phase⟩, ⟨3, .phase⟩, ⟨4, .phase⟩, ⟨5, .phase⟩, ⟨6, .phase⟩, ⟨7, .phase⟩], none⟩) rfl (fun K hK => ?_) AllReadyH.nil
  go_simp
  refine hK.out _ _ ?_ (fun hNew => ?_)
  · (first | with_reducible exact QD | with_reducible exact hNext | exact QS | assumption)
  clear hK K hHeld
  have hHeld := hNew
  clear hNew
  try simp only [Act.put, pz1, pz2, pz3]
  refine wpAnyH_done (by kernel_rfl) ?_ _
  refine NoPanic.normal ?_
  go_wp2_with fail
  go_ret
  have WQ := WP _ rfl
  exact ⟨rfl, ⟨g5, c5, WQ.1, by have := b1.size; exact Nat.le_trans this hg5⟩, ((tch_bel (btr (btr b1 b1.size (below_dr w1)) (btr b1 b1.size (below_dr w1)).size hb5)).trans WQ.2)⟩
end Go.Proofs.YtkpcohfdcilfcaaGreat
namespace Go.Proofs.YtkpcohfdcilfcaaGreat
open Go.ChangeShapes Go.WideShapes Go.ChangeAt Go.RowKit
attribute [local go_sem ↓] Go.wp_at_zero Go.wp_at_succ
theorem rdf_off (F : FlK) (a b c d e : Int) (fs : List Flt) (L N : Nat) (s : FlS) (p : Int) (w : World) (hF : FlW w F a b c d e fs L N s) (hon : s.ch.on = false) :
    Calls Tryz.prog 34 #[.pointer (some ⟨F.fm, 0, none⟩), .int .i64 p] w fun e' w' => e' = .returned (.tuple #[.slice none 0 0, .int .i64 9]) ∧ Below w.heap.size w w' := by
  go_enter Tryz.func34, Tryz.ntmps34
  go_wp2_with ((go_at_call 46; ((with_reducible refine (off_yes F a b c d e fs L N s _ hF hon).mono ?_); rintro e' w1 ⟨rfl, b1⟩; skip)))
  go_ret2
  exact ⟨rfl, b1⟩
theorem rdf_arg (F : FlK) (a b c d e : Int) (fs : List Flt) (L N : Nat) (s : FlS) (p : Int) (w : World) (hF : FlW w F a b c d e fs L N s) (hon : s.ch.on = true) (hc : s.ch.cuts = s.cuts) (hT : mayP L p = false) :
    Calls Tryz.prog 34 #[.pointer (some ⟨F.fm, 0, none⟩), .int .i64 p] w fun e' w' => e' = .returned (.tuple #[.slice none 0 0, .int .i64 2]) ∧ Below w.heap.size w w' := by
  have HT := Lib.hid hT
  clear hT
  go_enter Tryz.func34, Tryz.ntmps34
  go_wp2_with (first | (go_at_call 46; ((with_reducible refine (off_no F a b c d e fs L N s _ hF hon hc).mono ?_); rintro e' w1 ⟨rfl, b1⟩; have hG := hF.below b1; have k7 := hG.c7)) | (go_at_call 47; ((with_reducible refine (may_f F a b c d e fs L N s _ _ hG _ HT.out).mono ?_); rintro e' w2 ⟨rfl, rfl⟩; skip)))
  go_ret2
  exact ⟨rfl, b1⟩
theorem rdf_none (F : FlK) (a b c d e : Int) (fs : List Flt) (L N : Nat) (s : FlS) (k : Nat) (w : World) (hF : FlW w F a b c d e fs L N s) (hon : s.ch.on = true) (hc : s.ch.cuts = s.cuts) (hk : k < L) (hB : hasF s k = false) :
    Calls Tryz.prog 34 #[.pointer (some ⟨F.fm, 0, none⟩), .int .i64 (k : Int)] w fun e' w' => e' = .returned (.tuple #[.slice none 0 0, .int .i64 4]) ∧ Below w.heap.size w w' := by
  have HT : Hid (mayP L (k : Int) = true) := Lib.hid (by unfold mayP; simp; omega)
  have HB := Lib.hid hB
  clear hB
  go_enter Tryz.func34, Tryz.ntmps34
  go_wp2_with (first | (go_at_call 46; ((with_reducible refine (off_no F a b c d e fs L N s _ hF hon hc).mono ?_); rintro e' w1 ⟨rfl, b1⟩; have hG := hF.below b1; have k7 := hG.c7)) | (go_at_call 47; ((with_reducible refine (may_f F a b c d e fs L N s _ _ hG _ HT.out).mono ?_); rintro e' w2 ⟨rfl, rfl⟩; skip)) | (go_at_call 70; ((with_reducible refine (has_f F a b c d e fs L N s _ _ hG hk _ HB.out).mono ?_); rintro e' w3 ⟨rfl, b3⟩; have hG3 := hG.below b3)))
  go_ret2
  exact ⟨rfl, btr b1 b1.size b3⟩
theorem trim_off (F : FlK) (a b c d e : Int) (fs : List Flt) (L N : Nat) (s : FlS) (p : Int) (w : World) (hF : FlW w F a b c d e fs L N s) (hon : s.ch.on = false) :
    Calls Tryz.prog 32 #[.pointer (some ⟨F.fm, 0, none⟩), .int .i64 p] w fun e' w' => e' = .returned (.int .i64 9) ∧ Below w.heap.size w w' := by
  go_enter Tryz.func32, Tryz.ntmps32
  go_wp2_with ((go_at_call 46; ((with_reducible refine (off_yes F a b c d e fs L N s _ hF hon).mono ?_); rintro e' w1 ⟨rfl, b1⟩; skip)))
  go_ret
  exact ⟨rfl, b1⟩
theorem trim_arg (F : FlK) (a b c d e : Int) (fs : List Flt) (L N : Nat) (s : FlS) (p : Int) (w : World) (hF : FlW w F a b c d e fs L N s) (hon : s.ch.on = true) (hc : s.ch.cuts = s.cuts) (hT : mayP L p = false) :
    Calls Tryz.prog 32 #[.pointer (some ⟨F.fm, 0, none⟩), .int .i64 p] w fun e' w' => e' = .returned (.int .i64 2) ∧ Below w.heap.size w w' := by
  have HT := Lib.hid hT
  clear hT
  go_enter Tryz.func32, Tryz.ntmps32
  go_wp2_with (first | (go_at_call 46; ((with_reducible refine (off_no F a b c d e fs L N s _ hF hon hc).mono ?_); rintro e' w1 ⟨rfl, b1⟩; have hG := hF.below b1; have k7 := hG.c7)) | (go_at_call 47; ((with_reducible refine (may_f F a b c d e fs L N s _ _ hG _ HT.out).mono ?_); rintro e' w2 ⟨rfl, rfl⟩; skip)))
  go_ret
  exact ⟨rfl, b1⟩
theorem trim_none (F : FlK) (a b c d e : Int) (fs : List Flt) (L N : Nat) (s : FlS) (k : Nat) (w : World) (hF : FlW w F a b c d e fs L N s) (hon : s.ch.on = true) (hc : s.ch.cuts = s.cuts) (hd : s.degr = false) (hk : k < L) (hB : hasF s k = false) :
    Calls Tryz.prog 32 #[.pointer (some ⟨F.fm, 0, none⟩), .int .i64 (k : Int)] w fun e' w' => e' = .returned (.int .i64 4) ∧ Below w.heap.size w w' := by
  have HT : Hid (mayP L (k : Int) = true) := Lib.hid (by unfold mayP; simp; omega)
  have HB := Lib.hid hB
  clear hB
  go_enter Tryz.func32, Tryz.ntmps32
  go_wp2_with (first | (go_at_call 46; ((with_reducible refine (off_no F a b c d e fs L N s _ hF hon hc).mono ?_); rintro e' w1 ⟨rfl, b1⟩; have hG := hF.below b1; have k7 := hG.c7; rw [hd] at k7)) | (go_at_call 47; ((with_reducible refine (may_f F a b c d e fs L N s _ _ hG _ HT.out).mono ?_); rintro e' w2 ⟨rfl, rfl⟩; skip)) | (go_at_call 70; ((with_reducible refine (has_f F a b c d e fs L N s _ _ hG hk _ HB.out).mono ?_); rintro e' w3 ⟨rfl, b3⟩; have hG3 := hG.below b3)))
  go_ret
  exact ⟨rfl, btr b1 b1.size b3⟩
theorem current_wait (F : FlK) (a b c d e : Int) (fs : List Flt) (L N : Nat) (s : FlS) (k : Nat) (x : Wt) (w : World) (hF : FlW w F a b c d e fs L N s) (hx : s.wt[k]? = some x) (hk1 : x.kind = 1) (n1 : 1 ≤ x.dat.length) (n2 : x.dat.length ≤ 100000) :
    Calls Tryz.prog 72 #[.pointer (some ⟨F.fm, 0, none⟩), .int .i64 (k : Int)] w fun e' w' => (∃ g' c', e' = .returned (.tuple #[.slice (some ⟨g', 0, none⟩) x.dat.length c', .int .i64 0]) ∧ RowT w' g' 5 (x.dat.map byteV) ∧ w.heap.size ≤ g' ∧ w'.ownsRow w.heap.size 5 1 (.slice (some ⟨g', 0, none⟩) x.dat.length c') x.dat.length (x.dat.map byteV)) ∧ Below w.heap.size w w' := by
  have hk : k < L := by have := (List.getElem?_eq_some_iff.1 hx).1; have := hF.lwt; omega
  have k16 := hF.c16
  obtain ⟨x', A, cA, hx', hA, y0, y1, -, -, hd⟩ := hF.wt_ hk
  obtain rfl : x = x' := by rw [hx] at hx'; exact Option.some.inj hx'
  rw [hk1] at y0
  obtain ⟨g, rfl, hgd, hRg⟩ : ∃ g, A = some ⟨g, 0, none⟩ ∧ g ∈ F.dat ∧ ∀ i y, x.dat[i]? = some y → w.cell? ⟨g, i, none⟩ = some (byteV y) := by
    rcases hd with h | h
    · rw [h] at n1
      simp at n1
    · exact h
  have hlt := hF.lt g (Or.inr hgd)
  have i0 : (0 : Int) ≤ (k : Int) := by omega
  have i1 : (k : Int) < (L : Int) := by omega
  have hRD : Rd w (some ⟨g, 0, none⟩) x.dat.length 1 (x.dat.map byteV) := ⟨by simp, Or.inr ⟨g, 0, rfl, fun i u hu => by
    rw [List.getElem?_map] at hu
    obtain ⟨y, hy, rfl⟩ := Option.map_eq_some_iff.1 hu
    rw [Nat.zero_add]
    exact hRg i y hy⟩⟩
  go_enter Tryz.func72, Tryz.ntmps72
  go_wp2_with ((go_at_call 48; ((with_reducible refine (bclone_own g 0 x.dat.length cA x.dat _ hRD hlt n1 n2).mono ?_); rintro e' w5 ⟨⟨g5, c5, rfl, hR5, hg5, ho5⟩, hb5⟩; skip)))
  go_ret2
  exact ⟨⟨g5, c5, rfl, hR5, hg5, ho5⟩, hb5⟩
end Go.Proofs.YtkpcohfdcilfcaaGreat
namespace Go.Proofs.YtkpcohfdcilfcaaGreat
open Go.ChangeShapes Go.WideShapes Go.ChangeAt Go.RowKit
attribute [local go_sem ↓] Go.wp_at_zero Go.wp_at_succ
def FlK.cut (F : FlK) (k : Nat) : FlK := { F with wa := F.wa.set k (none, 0) }
theorem FlW.wtCut {w w' : World} {F : FlK} {a b c d e : Int} {fs : List Flt} {L N : Nat} {s : FlS} (hF : FlW w F a b c d e fs L N s) {k : Nat} (hk : k < L) (kd : Int) (hT : Tch (fun h => h = F.gw) w w') (hRow : RowT w' F.gw 88 (((wtV s.wt F.wa).set (k * 2) (.int .i64 kd)).set (k * 2 + 1) (.slice none 0 0))) : FlW w' (F.cut k) a b c d e fs L N (s.put k ⟨kd, []⟩) ∧ Tch (FlB F) w w' := by
  have hl1 := hF.lwt
  have hl2 := hF.lwa
  have q : ∀ h, FlU F h → h ≠ F.gw → w'.heap[h]? = w.heap[h]? := fun h hu hne => hT.far h (hF.lt h hu) (fun e => hne e)
  have hdq : ∀ h ∈ F.dat, w'.heap[h]? = w.heap[h]? := fun h hh => q h (Or.inr hh) (fun e => hF.dj h hh (by rw [e]; exact flB_gw))
  obtain ⟨W1, m1⟩ := hF.kept
  obtain ⟨W2, m2⟩ := hF.fresh
  have Q := fun h (hb : FlB F h) (hne : h ≠ F.gw) => q h (Or.inl hb) hne
  refine ⟨⟨(Q _ flB_fm (hF.ne 0 11)).trans hF.box, hF.chipk hT.size (Q _ flB_m (hF.ne 1 11)) (Q _ flB_gx (hF.ne 2 11)) (Q _ flB_gb (hF.ne 3 11)) hdq, ⟨W1, m1.keep (Q _ flB_km (hF.ne 4 11)) (Q _ flB_k1 (hF.ne 5 11)) (Q _ flB_k2 (hF.ne 6 11))⟩, ⟨W2, m2.keep (Q _ flB_fr (hF.ne 7 11)) (Q _ flB_f1 (hF.ne 8 11)) (Q _ flB_f2 (hF.ne 9 11))⟩, hF.tr.keepb (Q _ flB_gt (hF.ne 10 11)), ?_, hF.st.keepb (Q _ flB_gs (fun e => absurd e.symm (hF.ne 11 12))), hF.nd, ?_, ?_, ?_, hF.ltr, ?_, ?_, hF.lst, ?_, hF.may, hF.hL, hF.hN⟩, hT.mono (fun h e => by rw [e]; exact flB_gw)⟩
  · show RowT w' F.gw 88 (wtV (s.wt.set k ⟨kd, []⟩) (F.wa.set k (none, 0)))
    rw [wtV_set (by omega) (by omega)]
    exact hRow
  · rintro h (hh | hh)
    · exact Nat.lt_of_lt_of_le (hF.lt h (Or.inl hh)) hT.size
    · exact Nat.lt_of_lt_of_le (hF.lt h (Or.inr hh)) hT.size
  · intro h hh
    exact hF.dj h hh
  · rcases hF.fl with h | ⟨h, o, h1, h2⟩
    · exact Or.inl h
    · exact Or.inr ⟨h, o, h1, h2⟩
  · show (s.wt.set k ⟨kd, []⟩).length = L
    rw [List.length_set]
    exact hl1
  · show (F.wa.set k (none, 0)).length = L
    rw [List.length_set]
    exact hl2
  · intro i x A hx hA
    have hx' : (s.wt.set k ⟨kd, []⟩)[i]? = some x := hx
    have hA' : (F.wa.set k (none, 0))[i]? = some A := hA
    by_cases hi : k = i
    · subst hi
      rw [List.getElem?_set_self (by omega)] at hx' hA'
      cases hx'
      cases hA'
      exact ⟨Nat.le_refl _, Nat.zero_le _, Or.inl rfl⟩
    · rw [List.getElem?_set_ne hi] at hx' hA'
      obtain ⟨d1, d2, d3⟩ := hF.datk hdq i x A hx' hA'
      refine ⟨d1, d2, d3.imp id ?_⟩
      rintro ⟨h, e1, e2, e3⟩
      exact ⟨h, e1, e2, e3⟩
end Go.Proofs.YtkpcohfdcilfcaaGreat
namespace Go.Proofs.YtkpcohfdcilfcaaGreat
open Go.ChangeShapes Go.WideShapes Go.ChangeAt Go.RowKit
attribute [local go_sem ↓] Go.wp_at_zero Go.wp_at_succ
theorem read_wait (F : FlK) (a b c d e : Int) (fs : List Flt) (L N : Nat) (s : FlS) (k : Nat) (x : Wt) (w : World) (hF : FlW w F a b c d e fs L N s) (hon : s.ch.on = true) (hc : s.ch.cuts = s.cuts) (hx : s.wt[k]? = some x) (hk1 : x.kind = 1) (n1 : 1 ≤ x.dat.length) (n2 : x.dat.length ≤ 100000) :
    Calls Tryz.prog 34 #[.pointer (some ⟨F.fm, 0, none⟩), .int .i64 (k : Int)] w fun e' w' => (∃ g' c', e' = .returned (.tuple #[.slice (some ⟨g', 0, none⟩) x.dat.length c', .int .i64 0]) ∧ RowT w' g' 5 (x.dat.map byteV) ∧ w.heap.size ≤ g' ∧ w'.ownsRow w.heap.size 5 1 (.slice (some ⟨g', 0, none⟩) x.dat.length c') x.dat.length (x.dat.map byteV)) ∧ Below w.heap.size w w' := by
  have hk : k < L := by have := (List.getElem?_eq_some_iff.1 hx).1; have := hF.lwt; omega
  have HT : Hid (mayP L (k : Int) = true) := Lib.hid (by unfold mayP; simp; omega)
  have HB : Hid (hasF s k = true) := Lib.hid (by simp [hasF, hx, hk1])
  go_enter Tryz.func34, Tryz.ntmps34
  go_wp2_with (first | (go_at_call 46; ((with_reducible refine (off_no F a b c d e fs L N s _ hF hon hc).mono ?_); rintro e' w1 ⟨rfl, b1⟩; have hG := hF.below b1)) | (go_at_call 47; ((with_reducible refine (may_f F a b c d e fs L N s _ _ hG _ HT.out).mono ?_); rintro e' w2 ⟨rfl, rfl⟩; skip)) | (go_at_call 70; ((with_reducible refine (has_f F a b c d e fs L N s _ _ hG hk _ HB.out).mono ?_); rintro e' w3 ⟨rfl, b3⟩; have hG3 := hG.below b3)) | (go_at_call 72; ((with_reducible refine (current_wait F a b c d e fs L N s k x _ hG3 hx hk1 n1 n2).mono ?_); rintro e' w5 ⟨⟨g5, c5, rfl, hR5, hg5, ho5⟩, hb5⟩; have B3 := btr b1 b1.size b3; have hb6 := btr B3 B3.size hb5; have ho6 := own_base ho5 B3.size; have hg6 := Nat.le_trans B3.size hg5)))
  go_ret2
  exact ⟨⟨g5, c5, rfl, hR5, hg6, ho6⟩, hb6⟩
end Go.Proofs.YtkpcohfdcilfcaaGreat
namespace Go.Proofs.YtkpcohfdcilfcaaGreat
open Go.ChangeShapes Go.WideShapes Go.ChangeAt Go.RowKit
attribute [local go_sem ↓] Go.wp_at_zero Go.wp_at_succ
theorem chipf_f (F : FlK) (a b c d e : Int) (fs : List Flt) (L N : Nat) (s : FlS) (w : World) (hF : FlW w F a b c d e fs L N s) :
    Calls Tryz.prog 40 #[.pointer (some ⟨F.fm, 0, none⟩)] w fun e' w' => e' = .returned (.pointer (some ⟨F.m, 0, none⟩)) ∧ w = w' := by
  have k0 := hF.c0
  go_enter Tryz.func40, Tryz.ntmps40
  go_wp2_with fail
  go_ret
  exact ⟨rfl, rfl⟩
theorem flush_off (F : FlK) (a b c d e : Int) (fs : List Flt) (L N : Nat) (s : FlS) (w : World) (hF : FlW w F a b c d e fs L N s) (hon : s.ch.on = false) :
    Calls Tryz.prog 20 #[.pointer (some ⟨F.fm, 0, none⟩)] w fun e' w' => e' = .returned (.int .i64 9) ∧ Below w.heap.size w w' := by
  go_enter Tryz.func20, Tryz.ntmps20
  go_wp2_with ((go_at_call 46; ((with_reducible refine (off_yes F a b c d e fs L N s _ hF hon).mono ?_); rintro e' w1 ⟨rfl, b1⟩; skip)))
  go_ret
  exact ⟨rfl, b1⟩
end Go.Proofs.YtkpcohfdcilfcaaGreat
