/- A chip's calls, whatever is asked: what they answer, what they leave. -/
import Derived.Test.YtplniojeaodjiaaChW
namespace Go.Proofs.Ytplniojeaodjiaa
open Go.ChangeShapes Go.WideShapes Go.ChangeAt Go.RowKit
set_option linter.unusedSimpArgs false
set_option linter.unusedVariables false

theorem prog_len (m gx gb : Nat) (Af : Option Addr) (nf cf : Nat) (a b c d e : Int) (fs : List Flt) (RW : Nat) (x y : Int) (A : Option Addr) (nb cA : Nat) (w : World) (s : ChS) (hC : ChipW w m gx gb Af nf cf a b c d e fs s) (ho : s.on = true) (ht : Hid (thereB a b x y = true)) (HRW : Hid ((RW : Int) = c + 16)) (hne : nb ≠ RW) : Calls Try.prog 17 #[.pointer (some ⟨m, 0, none⟩), .agg #[.int .i64 x, .int .i64 y], .slice A nb cA] w fun e' w' => e' = .returned (.int .i64 2) ∧ Below w.heap.size w w' := by
  have HM := Lib.hid (planMay_bd hC.may).1
  have HB0 : Below w.heap.size w (w.alloc (.cells #[.int .i64 x, .int .i64 y] 33)) := (Below.refl _ _).alloc (Nat.le_refl _) _
  have G1 : Blk (w.alloc (.cells #[.int .i64 x, .int .i64 y] 33)) w.heap.size 33 #[.int .i64 x, .int .i64 y] := Blk.new_ _ _ _
  have z0 : (w.alloc (.cells #[.int .i64 x, .int .i64 y] 33)).cell? ⟨w.heap.size, 0, none⟩ = some (.int .i64 x) := G1.cell_ 0
  have z1 : (w.alloc (.cells #[.int .i64 x, .int .i64 y] 33)).cell? ⟨w.heap.size, 1, none⟩ = some (.int .i64 y) := G1.cell_ 1
  have hC := hC.below HB0
  have y10 := cell10 hC
  rw [ho] at y10
  clear ho
  have hnn : ((nb : Int) == (RW : Int)) = false := by simp; omega
  have hnm : ((nb : Int) != (RW : Int)) = true := by simp; omega
  clear hne
  go_enter Try.func17, Try.ntmps17
  go_wp2_with (first
    | (go_at_call 53; go_loud (((with_reducible refine (hasPage_b _ _ _ _ _ _ _ _ _ _ _ _ _ _ _ _ _ hC ht).mono ?_); rintro e' wN ⟨rfl, hb⟩; replace hC := hC.below hb; replace HB0 := btr HB0 HB0.size hb; obtain ⟨y0, y1, y2, y3, y4⟩ := geo5 hC)))
    | (go_at_call 34; go_loud (((with_reducible refine (raw_bb _ _ _ _ _ RW _ HM HRW).mono ?_); rintro e' wN ⟨rfl, hb⟩; replace HB0 := btr HB0 HB0.size hb))))
  go_ret
  exact ⟨rfl, HB0⟩
/-- Its numbers lie within bounds. -/
structure Fine (s : ChS) (n : Int) : Prop where
  bnd : s.Bnd n
  cby : 0 ≤ s.cby
  fill : s.fill < 256
def ChS.progZ (s : ChS) (a b c : Int) (fs : List Flt) (x y : Int) (L : Nat) : Int :=
  if s.on then (if thereB a b x y && decide ((L : Int) = c + 16) then (if s.cutB then 9 else s.wrong a fs x.toNat y.toNat) else 2) else 9
def ChS.progS (s : ChS) (a b c : Int) (fs : List Flt) (x y : Int) (bs : List Nat) : ChS :=
  if s.on && (thereB a b x y && decide ((bs.length : Int) = c + 16)) then
    (if s.wrong a fs x.toNat y.toNat = 0 then (if s.cutB then s.progCut x.toNat (x * b + y).toNat bs.length (bs.take (min bs.length s.cby.toNat)) else s.prog x.toNat (x * b + y).toNat bs.length bs) else s.tick)
  else s
theorem there_nat {a b x y : Int} (h : thereB a b x y = true) : ∃ k l : Nat, x = (k : Int) ∧ y = (l : Int) ∧ (k : Int) < a ∧ (l : Int) < b := by
  obtain ⟨h1, h2, h3, h4⟩ := there_bd h
  exact ⟨x.toNat, y.toNat, by omega, by omega, by omega, by omega⟩
theorem prog_all (m gx gb : Nat) (Af : Option Addr) (nf cf : Nat) (a b c d e : Int) (fs : List Flt) (x y : Int) (bs : List Nat) (gA : Nat) (n : Int) (w : World) (s : ChS) (hC : ChipW w m gx gb Af nf cf a b c d e fs s) (hs : Fine s n) (hn : n ≤ 900000000) (hR : RowT w gA 5 (bs.map byteV)) (hgn : ¬ chB m gx gb gA) :
    Calls Try.prog 17 #[.pointer (some ⟨m, 0, none⟩), .agg #[.int .i64 x, .int .i64 y], .slice (some ⟨gA, 0, none⟩) bs.length bs.length] w fun e' w' => e' = .returned (.int .i64 (s.progZ a b c fs x y bs.length)) ∧ ChipW w' m gx gb Af nf cf a b c d e fs (s.progS a b c fs x y bs) ∧ Tch (chB m gx gb) w w' := by
  cases ho : s.on
  · have e1 : s.progZ a b c fs x y bs.length = 9 := by simp [ChS.progZ, ho]
    have e2 : s.progS a b c fs x y bs = s := by simp [ChS.progS, ho]
    rw [e1, e2]
    refine (prog_off m gx gb Af nf cf a b c d e fs x y _ _ _ w s hC ho).mono ?_
    rintro e' w' ⟨rfl, hb⟩
    exact ⟨rfl, hC.below hb, Tch.of_below hb⟩
  cases ht : thereB a b x y
  · have e1 : s.progZ a b c fs x y bs.length = 2 := by simp [ChS.progZ, ho, ht]
    have e2 : s.progS a b c fs x y bs = s := by simp [ChS.progS, ht]
    rw [e1, e2]
    refine (prog_arg m gx gb Af nf cf a b c d e fs x y _ _ _ w s hC ho (Lib.hid ht)).mono ?_
    rintro e' w' ⟨rfl, hb⟩
    exact ⟨rfl, hC.below hb, Tch.of_below hb⟩
  obtain ⟨k, l, hx, hy, hk, hl⟩ := there_nat ht
  obtain ⟨N, RW, hnum, hrw, hfit, r1, r2, hN2, hNN⟩ := page_ok hC hk hl
  by_cases hL : bs.length = RW
  · subst hL
    have hd : decide ((bs.length : Int) = c + 16) = true := decide_eq_true hrw
    have hN' : (x * b + y).toNat = N := by rw [hx, hy, ← hNN]; omega
    have hk' : x.toNat = k := by omega
    have hl' : y.toNat = l := by omega
    have e2 : s.progS a b c fs x y bs = (if s.wrong a fs k l = 0 then (if s.cutB then s.progCut k N bs.length (bs.take (min bs.length s.cby.toNat)) else s.prog k N bs.length bs) else s.tick) := by
      unfold ChS.progS
      rw [ho, ht, hd, hN', hk', hl']
      rfl
    have e1 : s.progZ a b c fs x y bs.length = (if s.cutB then 9 else s.wrong a fs k l) := by
      unfold ChS.progZ
      rw [ho, ht, hd, hk', hl']
      rfl
    rw [e1, e2]
    subst hx hy
    clear e1 e2 hk' hl' hN'
    by_cases hw : s.wrong a fs k l = 0
    · rw [if_pos hw]
      cases hc : s.cutB
      · have := prog_ok m gx gb Af nf cf a b c d e fs k l N bs.length n bs gA 0 bs.length w s hC hs.bnd (by omega) ho hk hl (Lib.hid hnum) (Lib.hid hrw) (Lib.hid hfit) r1 r2 hN2 (row_read hR) hR.lt hgn rfl (Lib.hid hc) hw
        simpa [hw] using this
      · have := prog_cut m gx gb Af nf cf a b c d e fs k l N bs.length n bs gA 0 bs.length w s hC hs.bnd (by omega) ho hk hl (Lib.hid hnum) (Lib.hid hrw) (Lib.hid hfit) r1 r2 hN2 (row_read hR) hR.lt hgn rfl (Lib.hid hc) hw _ hs.cby rfl (Nat.le_refl _) (by unfold maxLen; omega)
        simpa using this
    · rw [if_neg hw]
      cases hc : s.cutB
      · have := prog_err m gx gb Af nf cf a b c d e fs k l N bs.length n bs gA 0 bs.length w s hC hs.bnd (by omega) ho hk hl (Lib.hid hnum) (Lib.hid hrw) (Lib.hid hfit) r1 r2 hN2 (row_read hR) hR.lt hgn rfl (Lib.hid hc) _ rfl hw
        simpa using this
      · have := prog_cutbad m gx gb Af nf cf a b c d e fs k l N bs.length n bs gA 0 bs.length w s hC hs.bnd (by omega) ho hk hl (Lib.hid hnum) (Lib.hid hrw) (Lib.hid hfit) r1 r2 hN2 (row_read hR) hR.lt hgn rfl (Lib.hid hc) _ rfl hw
        simpa using this
  · have hd : decide ((bs.length : Int) = c + 16) = false := decide_eq_false (by omega)
    have e1 : s.progZ a b c fs x y bs.length = 2 := by unfold ChS.progZ; rw [ho, ht, hd]; rfl
    have e2 : s.progS a b c fs x y bs = s := by unfold ChS.progS; rw [ho, ht, hd]; rfl
    rw [e1, e2]
    refine (prog_len m gx gb Af nf cf a b c d e fs RW x y _ _ _ w s hC ho (Lib.hid ht) (Lib.hid hrw) hL).mono ?_
    rintro e' w' ⟨rfl, hb⟩
    exact ⟨rfl, hC.below hb, Tch.of_below hb⟩
def ChS.eraseZ (s : ChS) (a : Int) (fs : List Flt) (x : Int) : Int :=
  if s.on then (if inB a x then (if s.cutB then 9 else (if failedB a fs s x then 10 else 0)) else 2) else 9
def ChS.eraseS (s : ChS) (a b c : Int) (fs : List Flt) (x : Int) : ChS :=
  if s.on && inB a x then (if failedB a fs s x then s.tick else s.tick.wipe b x.toNat (b * (c + 16)).toNat (if s.cutB then s.fill else 255)) else s
theorem in_nat {a x : Int} (h : inB a x = true) : ∃ k : Nat, x = (k : Int) ∧ (k : Int) < a := by
  unfold inB at h
  simp only [Bool.and_eq_true, decide_eq_true_eq] at h
  exact ⟨x.toNat, by omega, by omega⟩
theorem erase_all (m gx gb : Nat) (Af : Option Addr) (nf cf : Nat) (a b c d e : Int) (fs : List Flt) (x : Int) (n : Int) (w : World) (s : ChS) (hC : ChipW w m gx gb Af nf cf a b c d e fs s) (hs : Fine s n) (hn : n ≤ 900000000) :
    Calls Try.prog 22 #[.pointer (some ⟨m, 0, none⟩), .int .i64 x] w fun e' w' => e' = .returned (.int .i64 (s.eraseZ a fs x)) ∧ ChipW w' m gx gb Af nf cf a b c d e fs (s.eraseS a b c fs x) ∧ Tch (chB m gx gb) w w' := by
  cases ho : s.on
  · have e1 : s.eraseZ a fs x = 9 := by simp [ChS.eraseZ, ho]
    have e2 : s.eraseS a b c fs x = s := by simp [ChS.eraseS, ho]
    rw [e1, e2]
    refine (erase_off m gx gb Af nf cf a b c d e fs x w s hC ho).mono ?_
    rintro e' w' ⟨rfl, rfl⟩
    exact ⟨rfl, hC, Tch.refl _⟩
  cases ht : inB a x
  · have e1 : s.eraseZ a fs x = 2 := by simp [ChS.eraseZ, ho, ht]
    have e2 : s.eraseS a b c fs x = s := by simp [ChS.eraseS, ht]
    rw [e1, e2]
    refine (erase_arg m gx gb Af nf cf a b c d e fs x w s hC ho (Lib.hid ht)).mono ?_
    rintro e' w' ⟨rfl, rfl⟩
    exact ⟨rfl, hC, Tch.refl _⟩
  obtain ⟨k, hx, hk⟩ := in_nat ht
  subst hx
  obtain ⟨SZ, RW, hrw, hsz, hfit, z1, z2⟩ := blk_ok hC hk
  have hS : (b * (c + 16)).toNat = SZ := by omega
  have hk' : ((k : Int)).toNat = k := Int.toNat_natCast k
  unfold ChS.eraseZ ChS.eraseS
  rw [ho, ht, hS, hk']
  cases hf : failedB a fs s (k : Int)
  · cases hc : s.cutB
    · have := erase_ok m gx gb Af nf cf a b c d e fs k SZ RW n w s hC hs.bnd (by omega) (by omega) ho hk (Lib.hid hc) hf (Lib.hid hrw) hsz hfit z1 z2
      simpa using this
    · have := erase_cut m gx gb Af nf cf a b c d e fs k SZ RW n w s hC hs.bnd (by omega) (by omega) ho hk (Lib.hid hc) hf hs.fill (Lib.hid hrw) hsz hfit z1 z2
      simpa using this
  · cases hc : s.cutB
    · have := erase_fail m gx gb Af nf cf a b c d e fs k n w s hC hs.bnd (by omega) ho hk (Lib.hid hc) hf
      simpa using this
    · have := erase_cutfail m gx gb Af nf cf a b c d e fs k n w s hC hs.bnd (by omega) ho hk (Lib.hid hc) hf
      simpa using this
theorem arm_all (m gx gb : Nat) (Af : Option Addr) (nf cf : Nat) (a b c d e : Int) (fs : List Flt) (xo xb : Int) (xf : Nat) (n : Int) (w : World) (s : ChS) (hC : ChipW w m gx gb Af nf cf a b c d e fs s) (hs : Fine s n) (hn : n ≤ 900000000) :
    Calls Try.prog 24 #[.pointer (some ⟨m, 0, none⟩), .agg #[.int .i64 xo, .int .i64 xb, .int .u8 (xf : Nat)]] w fun e' w' => e' = .returned (.int .i64 (s.armC xo xb)) ∧ ChipW w' m gx gb Af nf cf a b c d e fs (s.arm xo xb xf) ∧ Tch (chB m gx gb) w w' := by
  cases ho : s.on
  · have e1 : s.armC xo xb = 9 := by simp [ChS.armC, ho]
    have e2 : s.arm xo xb xf = s := by simp [ChS.arm, ho]
    rw [e1, e2]
    refine (arm_off m gx gb Af nf cf a b c d e fs xo xb xf w s hC ho).mono ?_
    rintro e' w' ⟨rfl, hb⟩
    exact ⟨rfl, hC.below hb, Tch.of_below hb⟩
  by_cases hx : 1 ≤ xo ∧ xo ≤ 1073741824 ∧ 0 ≤ xb ∧ xb ≤ 1073741824
  · obtain ⟨x1, x2, x3, x4⟩ := hx
    have ha : armOkB xo xb = true := by unfold armOkB; simp; omega
    have e1 : s.armC xo xb = 0 := by simp [ChS.armC, ho, ha]
    have e2 : s.arm xo xb xf = { s with armed := true, turn := s.ops + xo, cop := xo, cby := xb, fill := xf } := by simp [ChS.arm, ho, ha]
    rw [e1, e2]
    exact arm_yes m gx gb Af nf cf a b c d e fs xo xb xf n w s hC hs.bnd (by omega) ho x1 x2 x3 x4
  · have ha : armOkB xo xb = false := by
      cases h : armOkB xo xb
      · rfl
      · exfalso
        apply hx
        unfold armOkB at h
        simp at h
        omega
    have e1 : s.armC xo xb = 2 := by simp [ChS.armC, ho, ha]
    have e2 : s.arm xo xb xf = s := by simp [ChS.arm, ha]
    rw [e1, e2]
    refine (arm_arg m gx gb Af nf cf a b c d e fs xo xb xf w s hC ho (by omega)).mono ?_
    rintro e' w' ⟨rfl, hb⟩
    exact ⟨rfl, hC.below hb, Tch.of_below hb⟩
def ChS.readZ (s : ChS) (a b x y : Int) : Int := if s.on then (if thereB a b x y then (if s.cutB then 9 else 0) else 2) else 9
def ChS.readS (s : ChS) (a b x y : Int) : ChS := if s.on && thereB a b x y then s.tick else s
def ChS.readB (s : ChS) (a b c x y : Int) : List Nat := if s.on && (thereB a b x y && !s.cutB) then s.pageOf (x * b + y).toNat (c + 16).toNat else []
theorem read_all (m gx gb : Nat) (Af : Option Addr) (nf cf : Nat) (a b c d e : Int) (fs : List Flt) (x y : Int) (n : Int) (w : World) (s : ChS) (hC : ChipW w m gx gb Af nf cf a b c d e fs s) (hs : Fine s n) (hn : n ≤ 900000000) :
    Calls Try.prog 19 #[.pointer (some ⟨m, 0, none⟩), .agg #[.int .i64 x, .int .i64 y]] w fun e' w' => (∃ A c', e' = .returned (.tuple #[.slice A (s.readB a b c x y).length c', .int .i64 (s.readZ a b x y)]) ∧ (s.readB a b c x y = [] ∧ A = none ∧ c' = 0 ∨ ∃ g, A = some ⟨g, 0, none⟩ ∧ RowT w' g 5 ((s.readB a b c x y).map byteV) ∧ w.heap.size ≤ g)) ∧ ChipW w' m gx gb Af nf cf a b c d e fs (s.readS a b x y) ∧ Tch (chB m gx gb) w w' := by
  cases ho : s.on
  · have e1 : s.readZ a b x y = 9 := by simp [ChS.readZ, ho]
    have e2 : s.readS a b x y = s := by simp [ChS.readS, ho]
    have e3 : s.readB a b c x y = [] := by simp [ChS.readB, ho]
    rw [e1, e2, e3]
    refine (read_off m gx gb Af nf cf a b c d e fs x y w s hC ho).mono ?_
    rintro e' w' ⟨rfl, hb⟩
    exact ⟨⟨none, 0, rfl, Or.inl ⟨rfl, rfl, rfl⟩⟩, hC.below hb, Tch.of_below hb⟩
  cases ht : thereB a b x y
  · have e1 : s.readZ a b x y = 2 := by simp [ChS.readZ, ho, ht]
    have e2 : s.readS a b x y = s := by simp [ChS.readS, ht]
    have e3 : s.readB a b c x y = [] := by simp [ChS.readB, ht]
    rw [e1, e2, e3]
    refine (read_arg m gx gb Af nf cf a b c d e fs x y w s hC ho (Lib.hid ht)).mono ?_
    rintro e' w' ⟨rfl, hb⟩
    exact ⟨⟨none, 0, rfl, Or.inl ⟨rfl, rfl, rfl⟩⟩, hC.below hb, Tch.of_below hb⟩
  have e2 : s.readS a b x y = s.tick := by simp [ChS.readS, ht, ho]
  rw [e2]
  cases hc : s.cutB
  · obtain ⟨k, l, hx, hy, hk, hl⟩ := there_nat ht
    obtain ⟨N, RW, hnum, hrw, hfit, r1, r2, hN2, hNN⟩ := page_ok hC hk hl
    have hN' : (x * b + y).toNat = N := by rw [hx, hy, ← hNN]; omega
    have hr' : (c + 16).toNat = RW := by omega
    have e1 : s.readZ a b x y = 0 := by simp [ChS.readZ, ho, ht, hc]
    have e3 : s.readB a b c x y = s.pageOf N RW := by
      unfold ChS.readB
      rw [ho, ht, hc, hN', hr']
      rfl
    have e4 : (s.pageOf N RW).length = RW := by
      unfold ChS.pageOf
      rw [List.length_take, List.length_drop]
      omega
    rw [e1, e3, e4]
    subst hx hy
    refine (read_ok m gx gb Af nf cf a b c d e fs k l N RW n w s hC hs.bnd (by omega) ho (Lib.hid hc) hk hl (Lib.hid hnum) hrw hfit r1 r2 hN2).mono ?_
    rintro e' w' ⟨⟨g, c', h1, h2, h3⟩, hC', hT⟩
    exact ⟨⟨_, c', h1, Or.inr ⟨g, rfl, h2, h3⟩⟩, hC', hT⟩
  · have e1 : s.readZ a b x y = 9 := by simp [ChS.readZ, ho, ht, hc]
    have e3 : s.readB a b c x y = [] := by simp [ChS.readB, hc]
    rw [e1, e3]
    refine (read_cut m gx gb Af nf cf a b c d e fs x y n w s hC hs.bnd (by omega) ho (Lib.hid ht) (Lib.hid hc)).mono ?_
    rintro e' w' ⟨rfl, hC', hT⟩
    exact ⟨⟨none, 0, rfl, Or.inl ⟨rfl, rfl, rfl⟩⟩, hC', hT⟩
/-- The laws' own bytes, whatever number is asked for. -/
def cntL (z : Int) : Nat := (min (max z 0) 200).toNat
end Go.Proofs.Ytplniojeaodjiaa
