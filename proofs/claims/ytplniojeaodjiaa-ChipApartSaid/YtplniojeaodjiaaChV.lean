/- A chip's calls, by what they leave. -/
import Derived.Test.YtplniojeaodjiaaChU
namespace Go.Proofs.Ytplniojeaodjiaa
open Go.ChangeShapes Go.WideShapes Go.ChangeAt Go.RowKit
set_option linter.unusedSimpArgs false
set_option linter.unusedVariables false

/-- Power, and no cut at the next operation. -/
structure Go (s : ChS) (n : Int) : Prop where
  on : s.on = true
  nc : s.cutB = false
  bnd : s.Bnd n
/-- Power, and the cut at the next operation. -/
structure GoCut (s : ChS) (n : Int) : Prop where
  on : s.on = true
  cut : s.cutB = true
  bnd : s.Bnd n
theorem Stand.go {s : ChS} {n : Int} (h : Stand s n) : Go s n := ⟨h.on, unarmed h.armed, h.bnd⟩
/-- One operation more, without a cut. -/
structure Tickd (s S : ChS) : Prop where
  on : S.on = s.on
  armed : S.armed = s.armed
  turn : S.turn = s.turn
  cop : S.cop = s.cop
  cby : S.cby = s.cby
  fill : S.fill = s.fill
  cuts : S.cuts = s.cuts
  ops : S.ops = s.ops + 1
/-- One operation more, with the cut. -/
structure Cutd (s S : ChS) : Prop where
  on : S.on = false
  armed : S.armed = false
  cby : S.cby = s.cby
  fill : S.fill = s.fill
  cuts : S.cuts = s.cuts + 1
  ops : S.ops = s.ops + 1
structure Progd (s S : ChS) (n : Int) (k N RW : Nat) (bs : List Nat) : Prop where
  bnd : S.Bnd (n + 3)
  k0 : S.k (k : Int) 0 = s.k (k : Int) 0 + 1
  k1 : S.k (k : Int) 1 = s.k (k : Int) 1
  ko : ∀ j i : Nat, j ≠ k → i < 3 → S.k (j : Int) i = s.k (j : Int) i
  pg : S.pageOf N RW = bs
  po : ∀ N', N ≠ N' → S.pageOf N' RW = s.pageOf N' RW
structure Wiped (s S : ChS) (n : Int) (b c : Int) (k f : Nat) : Prop where
  bnd : S.Bnd (n + 3)
  k0 : S.k (k : Int) 0 = if f = 255 then 0 else b
  k1 : S.k (k : Int) 1 = s.k (k : Int) 1 + 1
  k2 : S.k (k : Int) 2 = s.k (k : Int) 2 + 1
  ko : ∀ j i : Nat, j ≠ k → i < 3 → S.k (j : Int) i = s.k (j : Int) i
  pg : ∀ l RW N : Nat, (RW : Int) = c + 16 → (l : Int) < b → (N : Int) = (k : Int) * b + (l : Int) → S.pageOf N RW = List.replicate RW f
  po : ∀ j l RW N : Nat, j ≠ k → (RW : Int) = c + 16 → (l : Int) < b → (N : Int) = (j : Int) * b + (l : Int) → S.pageOf N RW = s.pageOf N RW
theorem klenF {w : World} {m gx gb : Nat} {Af : Option Addr} {nf cf : Nat} {a b c d e : Int} {fs : List Flt} {s : ChS} (hC : ChipW w m gx gb Af nf cf a b c d e fs s) {k : Nat} (hk : (k : Int) < a) : k * 3 + 3 ≤ s.K.length := by
  have := hC.lenK
  omega
theorem wipe_k2 {s : ChS} {b : Int} {k SZ f : Nat} (h : k * 3 + 3 ≤ s.K.length) : (s.wipe b k SZ f).k (k : Int) 2 = s.k (k : Int) 2 + 1 := by
  unfold ChS.wipe ChS.k
  dsimp only
  rw [Int.toNat_natCast, getD_setN, if_pos ⟨by omega, by simp; omega⟩]
theorem wiped {w : World} {m gx gb : Nat} {Af : Option Addr} {nf cf : Nat} {a b c d e : Int} {fs : List Flt} {s : ChS} {n : Int} (hC : ChipW w m gx gb Af nf cf a b c d e fs s) {k SZ RW f : Nat} (hk : (k : Int) < a) (hb : s.Bnd n) (hn0 : 20 ≤ n) (hrw : (RW : Int) = c + 16) (hsz : (SZ : Int) = b * (c + 16)) (hfit : k * SZ + SZ ≤ s.X.length) : Wiped s (s.tick.wipe b k SZ f) n b c k f := by
  obtain ⟨g1, g2, g3, g4, -⟩ := may_bd (planMay_bd hC.may).1
  have hkl : k * 3 + 3 ≤ s.tick.K.length := by rw [tick_K]; exact klenF hC hk
  refine ⟨bnd_mono (wipe_bnd (tick_bnd hb) (by omega) (by omega) k SZ f) (by omega), wipe_k0 hkl, ?_, ?_, fun j i hj hi => ?_, fun l RW' N h1 h2 h3 => ?_, fun j l RW' N hj h1 h2 h3 => ?_⟩
  · rw [wipe_k1 hkl]
    unfold ChS.k
    rw [tick_K]
  · rw [wipe_k2 hkl]
    unfold ChS.k
    rw [tick_K]
  · rw [wipe_kl j i hj hi]
    unfold ChS.k
    rw [tick_K]
  · obtain rfl : RW' = RW := by omega
    obtain ⟨f1, f2, -⟩ := page_block (a := a) (k := k) hrw hsz h2 h3
    exact wipe_page (by rw [tick_X]; exact hfit) f1 f2 (l := l)
  · obtain rfl : RW' = RW := by omega
    obtain ⟨f1, f2, f3⟩ := page_block (a := a) (k := k) hrw hsz h2 h3
    rw [wipe_page_other (by rw [tick_X]; exact hfit) (f3 hj)]
    unfold ChS.pageOf
    rw [tick_X]
theorem tickd {s : ChS} (h : s.cutB = false) : Tickd s s.tick := by
  rw [tick_nc h]
  exact ⟨rfl, rfl, rfl, rfl, rfl, rfl, rfl, rfl⟩
theorem cutd {s : ChS} (h : s.cutB = true) : Cutd s s.tick := by
  rw [tick_cut h]
  exact ⟨rfl, rfl, rfl, rfl, rfl, rfl⟩
theorem wrong_nextF {a : Int} {fs : List Flt} {s : ChS} {k l : Nat} (hf : failedB a fs s (k : Int) = false) (h : s.k (k : Int) 0 = (l : Int)) : s.wrong a fs k l = 0 := by
  unfold ChS.wrong
  rw [hf, if_neg (by simp), if_neg (by rw [h]; simp)]
theorem readI (m gx gb : Nat) (Af : Option Addr) (nf cf : Nat) (a b c d e : Int) (fs : List Flt) (k l N RW : Nat) (n : Int) (x y : Int) (hx : x = (k : Int)) (hy : y = (l : Int)) (hk : (k : Int) < a) (hl : (l : Int) < b) (w : World) (s : ChS) (hC : ChipW w m gx gb Af nf cf a b c d e fs s) (hs : Go s n) (hn : n ≤ 900000000) (HRW : Hid ((RW : Int) = c + 16)) (HN : Hid ((N : Int) = (k : Int) * b + (l : Int))) :
    Calls Try.prog 19 #[.pointer (some ⟨m, 0, none⟩), .agg #[.int .i64 x, .int .i64 y]] w fun e' w' => (∃ g' c', e' = .returned (.tuple #[.slice (some ⟨g', 0, none⟩) RW c', .int .i64 0]) ∧ RowT w' g' 5 ((s.pageOf N RW).map byteV) ∧ w.heap.size ≤ g') ∧ ChipW w' m gx gb Af nf cf a b c d e fs { s with ops := s.ops + 1 } ∧ Go s n ∧ Tch (chB m gx gb) w w' := by
  subst hx hy
  obtain ⟨N', RW', hnum, hrw, hfit, r1, r2, hN2, hNN⟩ := page_ok hC hk hl
  obtain rfl : RW' = RW := by have := HRW.out; omega
  obtain rfl : N' = N := by have := HN.out; omega
  refine (read_ok m gx gb Af nf cf a b c d e fs k l N' RW' n w s hC hs.bnd (by omega) hs.on (Lib.hid hs.nc) hk hl (Lib.hid hnum) hrw hfit r1 r2 hN2).mono ?_
  rintro e' w' ⟨h1, h2, h3⟩
  rw [tick_nc hs.nc] at h2
  exact ⟨h1, h2, hs, h3⟩
theorem progI (m gx gb : Nat) (Af : Option Addr) (nf cf : Nat) (a b c d e : Int) (fs : List Flt) (k l N RW gA : Nat) (n : Int) (bs : List Nat) (x y : Int) (hx : x = (k : Int)) (hy : y = (l : Int)) (hk : (k : Int) < a) (hl : (l : Int) < b) (w : World) (s : ChS) (hC : ChipW w m gx gb Af nf cf a b c d e fs s) (hs : Go s n) (hn : n ≤ 900000000) (HRW : Hid ((RW : Int) = c + 16)) (HN : Hid ((N : Int) = (k : Int) * b + (l : Int))) (hf : failedB a fs s (k : Int) = false) (hz : s.k (k : Int) 0 = (l : Int)) (hR : RowT w gA 5 (bs.map byteV)) (hgn : ¬ chB m gx gb gA) (hbl : bs.length = RW) :
    Calls Try.prog 17 #[.pointer (some ⟨m, 0, none⟩), .agg #[.int .i64 x, .int .i64 y], .slice (some ⟨gA, 0, none⟩) RW RW] w fun e' w' => e' = .returned (.int .i64 0) ∧ (∃ S, ChipW w' m gx gb Af nf cf a b c d e fs S ∧ Hid (Tickd s S ∧ Progd s S n k N RW bs ∧ S.k (k : Int) 2 = s.k (k : Int) 2 + 1)) ∧ Tch (chB m gx gb) w w' := by
  subst hx hy
  obtain ⟨N', RW', hnum, hrw, hfit, r1, r2, hN2, hNN⟩ := page_ok hC hk hl
  obtain rfl : RW' = RW := by have := HRW.out; omega
  obtain rfl : N' = N := by have := HN.out; omega
  refine (prog_ok m gx gb Af nf cf a b c d e fs k l N' RW' n bs gA 0 RW' w s hC hs.bnd (by omega) hs.on hk hl (Lib.hid hnum) HRW (Lib.hid hfit) r1 r2 hN2 (row_read hR) hR.lt hgn hbl (Lib.hid hs.nc) (wrong_nextF hf hz)).mono ?_
  rintro e' w' ⟨rfl, hC', hT⟩
  have hp := prog_on (s := s) k N' RW' bs
  have ht := tick_nc hs.nc
  have hkl := klenF hC hk
  refine ⟨rfl, ⟨_, hC', Lib.hid ⟨⟨?_, ?_, ?_, ?_, ?_, ?_, ?_, hp.2.2.2.1⟩, ⟨prog_bnd hs.bnd k N' RW' bs, prog_k0 N' RW' bs hkl, prog_k1 N' RW' bs, fun j i hj hi => prog_kl N' RW' bs j i hj hi, ?_, fun N'' hne => ?_⟩, prog_k2 N' RW' bs hkl⟩⟩, hT⟩
  · rw [hp.1, ht]
  · rw [hp.2.1, ht]
  · rw [hp.2.2.1, ht]
  · show s.tick.cop = _
    rw [ht]
  · show s.tick.cby = _
    rw [ht]
  · show s.tick.fill = _
    rw [ht]
  · rw [hp.2.2.2.2.1, ht]
  · unfold ChS.pageOf
    rw [hp.2.2.2.2.2.1]
    exact putX_page (l := 0) hbl hfit
  · unfold ChS.pageOf
    rw [hp.2.2.2.2.2.1]
    exact putX_page_other hbl hfit hne
theorem putX_part {X bs : List Nat} {N RW : Nat} (hbl : bs.length ≤ RW) (hf : N * RW + RW ≤ X.length) : ((putX X (N * RW) bs).drop (N * RW)).take RW = bs ++ ((X.drop (N * RW)).take RW).drop bs.length := by
  apply List.ext_getElem?
  intro j
  rw [List.getElem?_take]
  by_cases hj : j < RW
  · rw [if_pos hj, List.getElem?_drop, putX_get (by omega), if_neg (by omega)]
    by_cases h2 : j < bs.length
    · rw [if_pos (by omega), List.getElem?_append_left h2]
      congr 1
      omega
    · rw [if_neg (by omega), List.getElem?_append_right (by omega), List.getElem?_drop, List.getElem?_take, if_pos (by omega), List.getElem?_drop]
      congr 1
      omega
  · rw [if_neg hj, List.getElem?_eq_none]
    simp
    omega
theorem putX_part_other {X bs : List Nat} {N N' RW : Nat} (hbl : bs.length ≤ RW) (hf : N * RW + RW ≤ X.length) (hne : N ≠ N') : ((putX X (N * RW) bs).drop (N' * RW)).take RW = (X.drop (N' * RW)).take RW := by
  apply List.ext_getElem?
  intro j
  rw [List.getElem?_take, List.getElem?_take]
  by_cases hj : j < RW
  · rw [if_pos hj, if_pos hj, List.getElem?_drop, List.getElem?_drop, putX_get (by omega)]
    rcases Nat.lt_or_gt_of_ne hne with h | h
    · have h1 : (N + 1) * RW ≤ N' * RW := Nat.mul_le_mul_right RW h
      rw [Nat.succ_mul] at h1
      rw [if_neg (by omega), if_neg (by omega)]
    · have h1 : (N' + 1) * RW ≤ N * RW := Nat.mul_le_mul_right RW h
      rw [Nat.succ_mul] at h1
      rw [if_pos (by omega)]
  · rw [if_neg hj, if_neg hj]
theorem progCut_fields {s : ChS} (k N RW : Nat) (bs : List Nat) : (s.progCut k N RW bs).X = putX s.X (N * RW) bs ∧ (s.progCut k N RW bs).K = s.K.set (k * 3 + 0) (s.k (k : Int) 0 + 1) := by
  refine ⟨rfl, ?_⟩
  show s.tick.K.set _ _ = _
  rw [tick_K]
  congr 1
  unfold ChS.k
  dsimp only
  rw [tick_K]
theorem progCutI (m gx gb : Nat) (Af : Option Addr) (nf cf : Nat) (a b c d e : Int) (fs : List Flt) (k l N RW gA : Nat) (n : Int) (bs : List Nat) (x y : Int) (hx : x = (k : Int)) (hy : y = (l : Int)) (hk : (k : Int) < a) (hl : (l : Int) < b) (w : World) (s : ChS) (hC : ChipW w m gx gb Af nf cf a b c d e fs s) (hs : GoCut s n) (hn : n ≤ 900000000) (hcb : 0 ≤ s.cby) (HRW : Hid ((RW : Int) = c + 16)) (HN : Hid ((N : Int) = (k : Int) * b + (l : Int))) (hf : failedB a fs s (k : Int) = false) (hz : s.k (k : Int) 0 = (l : Int)) (hR : RowT w gA 5 (bs.map byteV)) (hgn : ¬ chB m gx gb gA) (hbl : bs.length = RW) :
    Calls Try.prog 17 #[.pointer (some ⟨m, 0, none⟩), .agg #[.int .i64 x, .int .i64 y], .slice (some ⟨gA, 0, none⟩) RW RW] w fun e' w' => e' = .returned (.int .i64 9) ∧ (∃ S, ChipW w' m gx gb Af nf cf a b c d e fs S ∧ Hid (Cutd s S ∧ Progd s S n k N RW (bs.take (min RW s.cby.toNat) ++ (s.pageOf N RW).drop (min RW s.cby.toNat)) ∧ S.k (k : Int) 2 = s.k (k : Int) 2)) ∧ Tch (chB m gx gb) w w' := by
  subst hx hy
  obtain ⟨N', RW', hnum, hrw, hfit, r1, r2, hN2, hNN⟩ := page_ok hC hk hl
  obtain rfl : RW' = RW := by have := HRW.out; omega
  obtain rfl : N' = N := by have := HN.out; omega
  refine (prog_cut m gx gb Af nf cf a b c d e fs k l N' RW' n bs gA 0 RW' w s hC hs.bnd (by omega) hs.on hk hl (Lib.hid hnum) HRW (Lib.hid hfit) r1 r2 hN2 (row_read hR) hR.lt hgn hbl (Lib.hid hs.cut) (wrong_nextF hf hz) _ hcb rfl (Nat.le_refl _) (by unfold maxLen; omega)).mono ?_
  rintro e' w' ⟨rfl, hC', hT⟩
  have hl2 : (bs.take (min RW' s.cby.toNat)).length = min RW' s.cby.toNat := by rw [List.length_take]; omega
  obtain ⟨p1, p2⟩ := progCut_fields (s := s) k N' RW' (bs.take (min RW' s.cby.toNat))
  have ht := tick_cut hs.cut
  have hkl := klenF hC hk
  have hk9 := k_le hs.bnd (k : Int) 0
  have hkk : ∀ (j i : Nat), (s.progCut k N' RW' (bs.take (min RW' s.cby.toNat))).k (j : Int) i = if 3 * j + i = k * 3 then s.k (k : Int) 0 + 1 else s.k (j : Int) i := by
    intro j i
    unfold ChS.k
    rw [p2]
    rw [Int.toNat_natCast, getD_setN]
    by_cases h : k * 3 + 0 = 3 * j + i
    · rw [if_pos ⟨h, by omega⟩, if_pos (by omega)]
      rfl
    · rw [if_neg (fun q => h q.1), if_neg (by omega)]
  refine ⟨rfl, ⟨_, hC', Lib.hid ⟨⟨?_, ?_, ?_, ?_, ?_, ?_⟩, ⟨?_, ?_, ?_, fun j i hj hi => ?_, ?_, fun N'' hne => ?_⟩, ?_⟩⟩, hT⟩
  · show s.tick.on = _
    rw [ht]
  · show s.tick.armed = _
    rw [ht]
  · show s.tick.cby = _
    rw [ht]
  · show s.tick.fill = _
    rw [ht]
  · show s.tick.cuts = _
    rw [ht]
  · show s.tick.ops = _
    rw [ht]
  · have h1 := inc_bnd (bnd_X (tick_bnd hs.bnd) (putX s.X (N' * RW') (bs.take (min RW' s.cby.toNat)))) k 0
    exact bnd_mono h1 (by omega)
  · rw [hkk, if_pos (by omega)]
  · rw [hkk, if_neg (by omega)]
  · rw [hkk, if_neg (by omega)]
  · unfold ChS.pageOf
    rw [p1, putX_part (by omega) hfit, hl2]
  · unfold ChS.pageOf
    rw [p1]
    exact putX_part_other (by omega) hfit hne
  · rw [hkk, if_neg (by omega)]
theorem eraseI (m gx gb : Nat) (Af : Option Addr) (nf cf : Nat) (a b c d e : Int) (fs : List Flt) (k : Nat) (n : Int) (x : Int) (hx : x = (k : Int)) (hk : (k : Int) < a) (w : World) (s : ChS) (hC : ChipW w m gx gb Af nf cf a b c d e fs s) (hs : Go s n) (hn : n ≤ 900000000) (hn0 : 20 ≤ n) (hf : failedB a fs s (k : Int) = false) :
    Calls Try.prog 22 #[.pointer (some ⟨m, 0, none⟩), .int .i64 x] w fun e' w' => e' = .returned (.int .i64 0) ∧ (∃ S, ChipW w' m gx gb Af nf cf a b c d e fs S ∧ Hid (Tickd s S ∧ Wiped s S n b c k 255)) ∧ Tch (chB m gx gb) w w' := by
  subst hx
  obtain ⟨SZ, RW, hrw, hsz, hfit, z1, z2⟩ := blk_ok hC hk
  refine (erase_ok m gx gb Af nf cf a b c d e fs k SZ RW n w s hC hs.bnd (by omega) (by omega) hs.on hk (Lib.hid hs.nc) hf (Lib.hid hrw) hsz hfit z1 z2).mono ?_
  rintro e' w' ⟨rfl, hC', hT⟩
  have ht := tickd hs.nc
  exact ⟨rfl, ⟨_, hC', Lib.hid ⟨⟨ht.on, ht.armed, ht.turn, ht.cop, ht.cby, ht.fill, ht.cuts, ht.ops⟩, wiped hC hk hs.bnd hn0 hrw hsz hfit⟩⟩, hT⟩
theorem eraseCutI (m gx gb : Nat) (Af : Option Addr) (nf cf : Nat) (a b c d e : Int) (fs : List Flt) (k : Nat) (n : Int) (x : Int) (hx : x = (k : Int)) (hk : (k : Int) < a) (w : World) (s : ChS) (hC : ChipW w m gx gb Af nf cf a b c d e fs s) (hs : GoCut s n) (hn : n ≤ 900000000) (hn0 : 20 ≤ n) (hf0 : s.fill < 256) (hf : failedB a fs s (k : Int) = false) :
    Calls Try.prog 22 #[.pointer (some ⟨m, 0, none⟩), .int .i64 x] w fun e' w' => e' = .returned (.int .i64 9) ∧ (∃ S, ChipW w' m gx gb Af nf cf a b c d e fs S ∧ Hid (Cutd s S ∧ Wiped s S n b c k s.fill)) ∧ Tch (chB m gx gb) w w' := by
  subst hx
  obtain ⟨SZ, RW, hrw, hsz, hfit, z1, z2⟩ := blk_ok hC hk
  refine (erase_cut m gx gb Af nf cf a b c d e fs k SZ RW n w s hC hs.bnd (by omega) (by omega) hs.on hk (Lib.hid hs.cut) hf hf0 (Lib.hid hrw) hsz hfit z1 z2).mono ?_
  rintro e' w' ⟨rfl, hC', hT⟩
  have ht := cutd hs.cut
  exact ⟨rfl, ⟨_, hC', Lib.hid ⟨⟨ht.on, ht.armed, ht.cby, ht.fill, ht.cuts, ht.ops⟩, wiped hC hk hs.bnd hn0 hrw hsz hfit⟩⟩, hT⟩
end Go.Proofs.Ytplniojeaodjiaa
