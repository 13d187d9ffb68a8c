/- Read, with what its answer owns; Program of bytes with room behind them. -/
import Derived.Test.YtplniojeaodjiaaCs5
namespace Go.Proofs.Ytplniojeaodjiaa
open Go.ChangeShapes Go.WideShapes Go.ChangeAt Go.RowKit
set_option linter.unusedSimpArgs false
set_option linter.unusedVariables false

theorem own_base {w : World} {b b' e n size : Nat} {v : Value} {xs : List Value} (h : w.ownsRow b e size v n xs) (hb : b' ≤ b) : w.ownsRow b' e size v n xs := by
  obtain ⟨hl, h⟩ := h
  refine ⟨hl, ?_⟩
  rcases h with h | ⟨g, cap, cur, rfl, hg, r⟩
  · exact Or.inl h
  · exact Or.inr ⟨g, cap, cur, rfl, by omega, r⟩
theorem bclone_own (g o n c : Nat) (bs : List Nat) (w : World) (hr : Rd w (some ⟨g, o, none⟩) n 1 (bs.map byteV)) (hlt : g < w.heap.size) (hn : 1 ≤ n) (hn2 : n ≤ 100000) :
    Calls Try.prog 57 #[.slice (some ⟨g, o, none⟩) n c] w fun e' w' => (∃ g' c', e' = .returned (.slice (some ⟨g', 0, none⟩) n c') ∧ RowT w' g' 5 (bs.map byteV) ∧ w.heap.size ≤ g' ∧ w'.ownsRow w.heap.size 5 1 (.slice (some ⟨g', 0, none⟩) n c') n (bs.map byteV)) ∧ Below w.heap.size w w' := by
  have HR : Rd (w.alloc (.cells #[] 5)) (some ⟨g, o, none⟩) n 1 (bs.map byteV) := hr.keep (fun b o' e j => by
    cases e
    exact Below.cell (p := ⟨g, j, none⟩) ((Below.refl w.heap.size w).alloc (Nat.le_refl _) (.cells #[] 5)) hlt)
  have hnil := slB_not_nil ⟨g, o, none⟩ n c w
  go_enter Try.func57, Try.ntmps57
  go_upto_region 3 with fail
  refine wp_region_lit ?_
  refine wpList_plain rfl (fun K hK => ?_)
  go_simp
  refine hK _ _ ?_
  clear hK K
  try simp only [Act.put, pz1, pz2, pz3]
  refine wpList_plain rfl (fun K hK => ?_)
  go_simp
  refine hK _ _ ?_
  clear hK K
  try simp only [Act.put, pz1, pz2, pz3]
  obtain ⟨ti0, hi, hz0, hz1, hz2⟩ := info_parts infoByte
  refine wpList_app _ rfl (.tmp 5) (.tmp 6) _ rfl w.heap.size 5 ti0 _ 1 1 Try.underlying48 hi hz0 hz1 hz2 rfl (by decide) (.slice (some ⟨w.heap.size, 0, none⟩) 0 0) 0 [] rfl (own_emptyB w _) (some ⟨g, o, none⟩) n c (bs.map byteV) rfl HR (oneB bs) (by unfold maxLen; omega) (by omega) (by simp) ?_
  intro v' w' ho' hg' hv'
  clear hi hz0 hz1 hz2
  rw [Nat.zero_add, List.nil_append] at ho'
  have ho2 := ho'
  obtain ⟨g', c', rfl, hR', hge⟩ := own_rowT ho' hn
  have HO2 := Lib.hid ho2
  clear ho2
  have HG := Lib.hid hg'
  have HRR := Lib.hid hR'
  clear hg' hR' ho' hv' hnil
  try simp only [Act.put, pz1, pz2, pz3]
  go_wp2_with fail
  go_ret
  exact ⟨⟨g', c', rfl, HRR.out, hge, HO2.out⟩, ((Below.refl _ _).alloc (Nat.le_refl _) _).grown HG.out (by simp) (fun g' hg'' => by simp [Value.ownBlock] at hg''; omega)⟩
set_option maxHeartbeats 4000000 in
theorem read_okO (m gx gb : Nat) (Af : Option Addr) (nf cf : Nat) (a b c d e : Int) (fs : List Flt) (k l N RW : Nat) (n : Int) (w : World) (s : ChS) (hC : ChipW w m gx gb Af nf cf a b c d e fs s) (hbn : s.Bnd n) (hn : n ≤ 1000000000) (ho : s.on = true) (hcu : Hid (s.cutB = false)) (hk : (k : Int) < a) (hl : (l : Int) < b) (hnum : Hid (numberI a b (k : Int) (l : Int) = (N : Int))) (hrw : (RW : Int) = c + 16) (hfit0 : N * RW + RW ≤ s.X.length) (r1 : 40 ≤ RW) (r2 : RW ≤ 80) (hN2 : N < 200) : Calls Try.prog 19 #[.pointer (some ⟨m, 0, none⟩), .agg #[.int .i64 (k : Int), .int .i64 (l : Int)]] w fun e' w' => (∃ g' c', e' = .returned (.tuple #[.slice (some ⟨g', 0, none⟩) RW c', .int .i64 0]) ∧ RowT w' g' 5 ((s.pageOf N RW).map byteV) ∧ w.heap.size ≤ g' ∧ w'.ownsRow w.heap.size 5 1 (.slice (some ⟨g', 0, none⟩) RW c') RW ((s.pageOf N RW).map byteV)) ∧ ChipW w' m gx gb Af nf cf a b c d e fs s.tick ∧ Tch (chB m gx gb) w w' := by
  have hnb : ¬ chB m gx gb w.heap.size := by have := hC.lt; unfold chB; omega
  have ht : Hid (thereB a b (k : Int) (l : Int) = true) := Lib.hid (by unfold thereB withinB; simp; omega)
  have hfit : N * RW + RW ≤ s.tick.X.length := by rw [tick_X]; exact hfit0
  have hpo : s.tick.pageOf N RW = s.pageOf N RW := by unfold ChS.pageOf; rw [tick_X]
  have HPO := Lib.hid hpo
  have HRW := Lib.hid hrw
  clear hpo hrw hfit0
  have HB0 : Below w.heap.size w (w.alloc (.cells #[.int .i64 (k : Int), .int .i64 (l : Int)] 33)) := (Below.refl _ _).alloc (Nat.le_refl _) _
  have G1 : Blk (w.alloc (.cells #[.int .i64 (k : Int), .int .i64 (l : Int)] 33)) w.heap.size 33 #[.int .i64 (k : Int), .int .i64 (l : Int)] := Blk.new_ _ _ _
  have z0 : (w.alloc (.cells #[.int .i64 (k : Int), .int .i64 (l : Int)] 33)).cell? ⟨w.heap.size, 0, none⟩ = some (.int .i64 (k : Int)) := G1.cell_ 0
  have z1 : (w.alloc (.cells #[.int .i64 (k : Int), .int .i64 (l : Int)] 33)).cell? ⟨w.heap.size, 1, none⟩ = some (.int .i64 (l : Int)) := G1.cell_ 1
  have hC := hC.below HB0
  have y10 := cell10 hC
  rw [ho] at y10
  clear ho
  go_enter Try.func19, Try.ntmps19
  go_wp2_with (first
    | (go_at_call 53; ((with_reducible refine (hasPage_b _ _ _ _ _ _ _ _ _ _ _ _ _ _ _ _ _ hC ht).mono ?_); rintro e' wN ⟨rfl, hb⟩; replace hC := hC.below hb; replace HB0 := btr HB0 HB0.size hb; replace G1 := G1.below hb G1.lt; clear z0 z1 y10; have z0 := G1.cell_ 0; have z1 := G1.cell_ 1; simp at z0 z1))
    | (go_at_call 54; ((with_reducible refine (begin_b _ _ _ _ _ _ _ _ _ _ _ _ _ _ _ _ hC hbn hn hcu).mono ?_); rintro e' wN ⟨rfl, hC2, hT⟩; have HT := (Tch.of_below (S := chB m gx gb) HB0).trans hT; have hlt0 := hT.far w.heap.size G1.lt hnb; replace G1 : Blk wN w.heap.size _ _ := hlt0.trans G1; clear hlt0 hC; have hC := hC2; clear hC2 z0 z1; have z0 := G1.cell_ 0; have z1 := G1.cell_ 1; simp at z0 z1))
    | (go_at_call 56; ((with_reducible refine (page_any _ _ _ _ _ _ _ _ _ _ _ _ k l N RW _ _ hC hk hl hnum HRW.out hfit r1 r2 hN2).mono ?_); rintro e' wN ⟨⟨q, hq, rfl⟩, hb⟩; replace hC := hC.below hb; replace HT := HT.then hb))
    | (go_at_call 57; ((with_reducible refine (bclone_own gx (N * RW) RW q (s.pageOf N RW) _ (by rw [← HPO.out]; exact chip_rd hC hfit) hC.lt.2.1 (by omega) (by omega)).mono ?_); rintro e' wN ⟨⟨g9, c9, rfl, hR9, hg9, ho9⟩, hb⟩; replace hC := hC.below hb; have HSZ := HT.size; replace HT := HT.then hb)))
  go_ret2
  exact ⟨⟨g9, c9, rfl, hR9, by omega, own_base ho9 (by omega)⟩, hC, HT⟩
theorem read_allO (m gx gb : Nat) (Af : Option Addr) (nf cf : Nat) (a b c d e : Int) (fs : List Flt) (x y : Int) (n : Int) (w : World) (s : ChS) (hC : ChipW w m gx gb Af nf cf a b c d e fs s) (hs : Fine s n) (hn : n ≤ 900000000) :
    Calls Try.prog 19 #[.pointer (some ⟨m, 0, none⟩), .agg #[.int .i64 x, .int .i64 y]] w fun e' w' => (∃ A c', e' = .returned (.tuple #[.slice A (s.readB a b c x y).length c', .int .i64 (s.readZ a b x y)]) ∧ (s.readB a b c x y = [] ∧ A = none ∧ c' = 0 ∨ ∃ g, A = some ⟨g, 0, none⟩ ∧ RowT w' g 5 ((s.readB a b c x y).map byteV) ∧ w.heap.size ≤ g ∧ w'.ownsRow w.heap.size 5 1 (.slice (some ⟨g, 0, none⟩) (s.readB a b c x y).length c') (s.readB a b c x y).length ((s.readB a b c x y).map byteV))) ∧ ChipW w' m gx gb Af nf cf a b c d e fs (s.readS a b x y) ∧ Tch (chB m gx gb) w w' := by
  cases ho : s.on
  · have e1 : s.readZ a b x y = 9 := by simp [ChS.readZ, ho]
    have e2 : s.readS a b x y = s := by simp [ChS.readS, ho]
    have e3 : s.readB a b c x y = [] := by simp [ChS.readB, ho]
    rw [e1, e2, e3]
    refine (read_off m gx gb Af nf cf a b c d e fs x y w s hC ho).mono ?_
    rintro e' w' ⟨rfl, hb⟩
    exact ⟨⟨none, 0, rfl, Or.inl ⟨rfl, rfl, rfl⟩⟩, hC.below hb, Tch.of_below hb⟩
  cases ht : thereB a b x y
  · have e1 : s.readZ a b x y = 2 := by simp [ChS.readZ, ho, ht]
    have e2 : s.readS a b x y = s := by simp [ChS.readS, ht]
    have e3 : s.readB a b c x y = [] := by simp [ChS.readB, ht]
    rw [e1, e2, e3]
    refine (read_arg m gx gb Af nf cf a b c d e fs x y w s hC ho (Lib.hid ht)).mono ?_
    rintro e' w' ⟨rfl, hb⟩
    exact ⟨⟨none, 0, rfl, Or.inl ⟨rfl, rfl, rfl⟩⟩, hC.below hb, Tch.of_below hb⟩
  have e2 : s.readS a b x y = s.tick := by simp [ChS.readS, ht, ho]
  rw [e2]
  cases hc : s.cutB
  · obtain ⟨k, l, hx, hy, hk, hl⟩ := there_nat ht
    obtain ⟨N, RW, hnum, hrw, hfit, r1, r2, hN2, hNN⟩ := page_ok hC hk hl
    have hN' : (x * b + y).toNat = N := by rw [hx, hy, ← hNN]; omega
    have hr' : (c + 16).toNat = RW := by omega
    have e1 : s.readZ a b x y = 0 := by simp [ChS.readZ, ho, ht, hc]
    have e3 : s.readB a b c x y = s.pageOf N RW := by
      unfold ChS.readB
      rw [ho, ht, hc, hN', hr']
      rfl
    have e4 : (s.pageOf N RW).length = RW := by
      unfold ChS.pageOf
      rw [List.length_take, List.length_drop]
      omega
    rw [e1, e3, e4]
    subst hx hy
    refine (read_okO m gx gb Af nf cf a b c d e fs k l N RW n w s hC hs.bnd (by omega) ho (Lib.hid hc) hk hl (Lib.hid hnum) hrw hfit r1 r2 hN2).mono ?_
    rintro e' w' ⟨⟨g, c', h1, h2, h3, h4⟩, hC', hT⟩
    exact ⟨⟨_, c', h1, Or.inr ⟨g, rfl, h2, h3, h4⟩⟩, hC', hT⟩
  · have e1 : s.readZ a b x y = 9 := by simp [ChS.readZ, ho, ht, hc]
    have e3 : s.readB a b c x y = [] := by simp [ChS.readB, hc]
    rw [e1, e3]
    refine (read_cut m gx gb Af nf cf a b c d e fs x y n w s hC hs.bnd (by omega) ho (Lib.hid ht) (Lib.hid hc)).mono ?_
    rintro e' w' ⟨rfl, hC', hT⟩
    exact ⟨⟨none, 0, rfl, Or.inl ⟨rfl, rfl, rfl⟩⟩, hC', hT⟩
theorem prog_allC (m gx gb : Nat) (Af : Option Addr) (nf cf : Nat) (a b c d e : Int) (fs : List Flt) (x y : Int) (bs : List Nat) (gA cA : Nat) (n : Int) (w : World) (s : ChS) (hC : ChipW w m gx gb Af nf cf a b c d e fs s) (hs : Fine s n) (hn : n ≤ 900000000) (hR : ∀ j u, (bs.map byteV)[j]? = some u → w.cell? ⟨gA, 0 + j, none⟩ = some u) (hlt : gA < w.heap.size) (hcA : bs.length ≤ cA) (hcA2 : cA ≤ maxLen) (hgn : ¬ chB m gx gb gA) :
    Calls Try.prog 17 #[.pointer (some ⟨m, 0, none⟩), .agg #[.int .i64 x, .int .i64 y], .slice (some ⟨gA, 0, none⟩) bs.length cA] w fun e' w' => e' = .returned (.int .i64 (s.progZ a b c fs x y bs.length)) ∧ ChipW w' m gx gb Af nf cf a b c d e fs (s.progS a b c fs x y bs) ∧ Tch (chB m gx gb) w w' := by
  cases ho : s.on
  · have e1 : s.progZ a b c fs x y bs.length = 9 := by simp [ChS.progZ, ho]
    have e2 : s.progS a b c fs x y bs = s := by simp [ChS.progS, ho]
    rw [e1, e2]
    refine (prog_off m gx gb Af nf cf a b c d e fs x y _ _ _ w s hC ho).mono ?_
    rintro e' w' ⟨rfl, hb⟩
    exact ⟨rfl, hC.below hb, Tch.of_below hb⟩
  cases ht : thereB a b x y
  · have e1 : s.progZ a b c fs x y bs.length = 2 := by simp [ChS.progZ, ho, ht]
    have e2 : s.progS a b c fs x y bs = s := by simp [ChS.progS, ht]
    rw [e1, e2]
    refine (prog_arg m gx gb Af nf cf a b c d e fs x y _ _ _ w s hC ho (Lib.hid ht)).mono ?_
    rintro e' w' ⟨rfl, hb⟩
    exact ⟨rfl, hC.below hb, Tch.of_below hb⟩
  obtain ⟨k, l, hx, hy, hk, hl⟩ := there_nat ht
  obtain ⟨N, RW, hnum, hrw, hfit, r1, r2, hN2, hNN⟩ := page_ok hC hk hl
  by_cases hL : bs.length = RW
  · subst hL
    have hd : decide ((bs.length : Int) = c + 16) = true := decide_eq_true hrw
    have hN' : (x * b + y).toNat = N := by rw [hx, hy, ← hNN]; omega
    have hk' : x.toNat = k := by omega
    have hl' : y.toNat = l := by omega
    have e2 : s.progS a b c fs x y bs = (if s.wrong a fs k l = 0 then (if s.cutB then s.progCut k N bs.length (bs.take (min bs.length s.cby.toNat)) else s.prog k N bs.length bs) else s.tick) := by
      unfold ChS.progS
      rw [ho, ht, hd, hN', hk', hl']
      rfl
    have e1 : s.progZ a b c fs x y bs.length = (if s.cutB then 9 else s.wrong a fs k l) := by
      unfold ChS.progZ
      rw [ho, ht, hd, hk', hl']
      rfl
    rw [e1, e2]
    subst hx hy
    clear e1 e2 hk' hl' hN'
    by_cases hw : s.wrong a fs k l = 0
    · rw [if_pos hw]
      cases hc : s.cutB
      · have := prog_ok m gx gb Af nf cf a b c d e fs k l N bs.length n bs gA 0 cA w s hC hs.bnd (by omega) ho hk hl (Lib.hid hnum) (Lib.hid hrw) (Lib.hid hfit) r1 r2 hN2 hR hlt hgn rfl (Lib.hid hc) hw
        simpa [hw] using this
      · have := prog_cut m gx gb Af nf cf a b c d e fs k l N bs.length n bs gA 0 cA w s hC hs.bnd (by omega) ho hk hl (Lib.hid hnum) (Lib.hid hrw) (Lib.hid hfit) r1 r2 hN2 hR hlt hgn rfl (Lib.hid hc) hw _ hs.cby rfl hcA hcA2
        simpa using this
    · rw [if_neg hw]
      cases hc : s.cutB
      · have := prog_err m gx gb Af nf cf a b c d e fs k l N bs.length n bs gA 0 cA w s hC hs.bnd (by omega) ho hk hl (Lib.hid hnum) (Lib.hid hrw) (Lib.hid hfit) r1 r2 hN2 hR hlt hgn rfl (Lib.hid hc) _ rfl hw
        simpa using this
      · have := prog_cutbad m gx gb Af nf cf a b c d e fs k l N bs.length n bs gA 0 cA w s hC hs.bnd (by omega) ho hk hl (Lib.hid hnum) (Lib.hid hrw) (Lib.hid hfit) r1 r2 hN2 hR hlt hgn rfl (Lib.hid hc) _ rfl hw
        simpa using this
  · have hd : decide ((bs.length : Int) = c + 16) = false := decide_eq_false (by omega)
    have e1 : s.progZ a b c fs x y bs.length = 2 := by unfold ChS.progZ; rw [ho, ht, hd]; rfl
    have e2 : s.progS a b c fs x y bs = s := by unfold ChS.progS; rw [ho, ht, hd]; rfl
    rw [e1, e2]
    refine (prog_len m gx gb Af nf cf a b c d e fs RW x y _ _ _ w s hC ho (Lib.hid ht) (Lib.hid hrw) hL).mono ?_
    rintro e' w' ⟨rfl, hb⟩
    exact ⟨rfl, hC.below hb, Tch.of_below hb⟩
set_option maxRecDepth 100000 in
set_option maxHeartbeats 4000000 in
theorem over_own (n g cap : Nat) (xs : List Value) (base : Nat) (w : World) (ho : w.ownsRow base 5 1 (.slice (some ⟨g, 0, none⟩) n cap) n xs) (hb : base ≤ w.heap.size) (hn : n ≤ 1000) :
    Calls Try.prog 42 #[.slice (some ⟨g, 0, none⟩) n cap] w fun e w' => (∃ v, e = .returned v) ∧ w.grownBy w' (some g) := by
  obtain ⟨i0, hi, hz0, hz1, hz2⟩ := info_parts infoByte
  go_enter Try.func42, Try.ntmps42
  go_wp2
  go_loopw [2] (fun i wr => ∃ (k : Nat) (ys : List Value), k ≤ n ∧ i = .int .i64 k ∧ wr.ownsRow base 5 1 (.slice (some ⟨g, 0, none⟩) n cap) n ys ∧ w.grownBy wr (some g)) (fun i _ => n - (intOf i).toNat)
  case atStart => exact ⟨0, xs, Nat.zero_le _, rfl, ho, World.grownBy.refl _ _⟩
  case round =>
    obtain ⟨k, ys, hk, rfl, hr, hB⟩ := hrel
    by_cases hlt : k < n
    · have hyl : ys.length = n := by have := hr.1; omega
      have c1 : wr.cell? ⟨g, k, none⟩ = some (ys.getD k (.bool false)) := by
        rw [hr.cellAt k (by omega)]
        simp [show k < ys.length by omega]
      have f1 : wr.frozen? ⟨g, k, none⟩ = false := hr.frozenAt k
      have i0' : (0 : Int) ≤ (k : Int) := by omega
      have i1 : (k : Int) < (n : Int) := by omega
      have hst := hr.stored k (.int .u8 238)
      have hgl := (hr.lt g rfl).1
      clear hyl
      go_wp2
      go_roundw
      case rel => exact ⟨k + 1, ys.set k (.int .u8 238), by omega, by go_num, hst.1, hB.trans hst.2⟩
      case measure => simp [intOf]; omega
    · go_wp2_with (at_builtin; refine wpList_app _ rfl (.tmp 12) (.tmp 13) _ rfl base 5 i0 _ 1 1 Try.underlying48 hi hz0 hz1 hz2 rfl (by decide) _ _ _ rfl (hr.alloc _) _ 1 _ [.int .u8 238] rfl (Rd.one (by simp)) (by simp [Value.oneCell']) (by unfold maxLen; omega) (by omega) (by simp; have := hB.size; omega) ?_; intro s2 w2 ho2 hg2 hv2)
      have HF : w.grownBy w2 (some g) := (hB.trans (World.grownBy_alloc _ _ _)).trans hg2
      exact bodyPost_end (v := .tuple #[]) (by simp [results, Try.results42, go_sem]) rfl ⟨⟨_, rfl⟩, HF⟩
theorem over_nil (c : Nat) (w : World) :
    Calls Try.prog 42 #[.slice none 0 0] w fun e w' => (∃ v, e = .returned v) ∧ Below w.heap.size w w' := by
  obtain ⟨i0, hi, hz0, hz1, hz2⟩ := info_parts infoByte
  go_enter Try.func42, Try.ntmps42
  go_wp2
  go_loopw [2] (fun i wr => i = .int .i64 0 ∧ wr = w) (fun _ _ => 0)
  case atStart => exact ⟨rfl, rfl⟩
  case round =>
    obtain ⟨rfl, rfl⟩ := hrel
    go_wp2_with (at_builtin; refine wpList_app _ rfl (.tmp 12) (.tmp 13) _ rfl wr.heap.size 5 i0 _ 1 1 Try.underlying48 hi hz0 hz1 hz2 rfl (by decide) (.slice none 0 0) 0 [] rfl (World.ownsRow_nil _ _ _ _) _ 1 _ [.int .u8 238] rfl (Rd.one (by simp)) (by simp [Value.oneCell']) (by unfold maxLen; omega) (by omega) (by simp) ?_; intro s2 w2 ho2 hg2 hv2)
    have HF : Below wr.heap.size wr w2 := ((Below.refl _ _).alloc (Nat.le_refl _) _).trans (below_app (Nat.le_refl _) (by simp) (World.ownsRow_nil _ wr.heap.size 5 1) hg2)
    exact bodyPost_end (v := .tuple #[]) (by simp [results, Try.results42, go_sem]) rfl ⟨⟨_, rfl⟩, HF⟩
theorem num_any (z : Int) (w : World) : Calls Try.prog 41 #[.int .i64 z] w fun e w' => e = .returned (.int .i64 z) ∧ w = w' := by
  go_enter Try.func41, Try.ntmps41
  go_wp2
  go_ret
  exact ⟨rfl, rfl⟩
end Go.Proofs.Ytplniojeaodjiaa
namespace Go.Proofs.Ytplniojeaodjiaa
open Go.ChangeShapes Go.WideShapes Go.ChangeAt Go.RowKit
set_option linter.unusedSimpArgs false
set_option linter.unusedVariables false

structure Two (w : World) (L m gx gb : Nat) (Af : Option Addr) (nf cf mR gB gN gW gD : Nat) (AfR : Option Addr) (nfR cfR : Nat) (a b c d e : Int) (fs : List Flt) (s t : ChS) : Prop where
  cl : ChipL w L m gx gb Af nf cf a b c d e fs s
  rl : RefW w mR gB gN gW gD L AfR nfR cfR a b c d e fs t
theorem RefW.L_le {w : World} {m gB gN gW gD L : Nat} {Af : Option Addr} {nf cf : Nat} {a b c d e : Int} {fs : List Flt} {s : ChS} (h : RefW w m gB gN gW gD L Af nf cf a b c d e fs s) : L ≤ w.heap.size := by
  have := h.lt
  have := h.ge m (Or.inl rfl)
  omega
theorem ChipL.below_ {w w' : World} {L : Nat} {m gx gb : Nat} {Af : Option Addr} {nf cf : Nat} {a b c d e : Int} {fs : List Flt} {s : ChS} (h : ChipL w L m gx gb Af nf cf a b c d e fs s) (hb : Below w.heap.size w w') : ChipL w' L m gx gb Af nf cf a b c d e fs s := ⟨h.chip.below hb, h.low, h.lowF⟩
theorem Two.below {w w' : World} {L m gx gb : Nat} {Af : Option Addr} {nf cf mR gB gN gW gD : Nat} {AfR : Option Addr} {nfR cfR : Nat} {a b c d e : Int} {fs : List Flt} {s t : ChS} (h : Two w L m gx gb Af nf cf mR gB gN gW gD AfR nfR cfR a b c d e fs s t) (hb : Below w.heap.size w w') : Two w' L m gx gb Af nf cf mR gB gN gW gD AfR nfR cfR a b c d e fs s t := ⟨h.cl.below_ hb, h.rl.below hb⟩
theorem Two.like {w w' : World} {L m gx gb : Nat} {Af : Option Addr} {nf cf mR gB gN gW gD : Nat} {AfR : Option Addr} {nfR cfR : Nat} {a b c d e : Int} {fs : List Flt} {s t : ChS} (h : Two w L m gx gb Af nf cf mR gB gN gW gD AfR nfR cfR a b c d e fs s t) (e9 : w'.heap = w.heap := by rfl) : Two w' L m gx gb Af nf cf mR gB gN gW gD AfR nfR cfR a b c d e fs s t := ⟨⟨h.cl.chip.like e9, h.cl.low, h.cl.lowF⟩, h.rl.like e9⟩
theorem Two.drew {w : World} {L m gx gb : Nat} {Af : Option Addr} {nf cf mR gB gN gW gD : Nat} {AfR : Option Addr} {nfR cfR : Nat} {a b c d e : Int} {fs : List Flt} {s t : ChS} (h : Two w L m gx gb Af nf cf mR gB gN gW gD AfR nfR cfR a b c d e fs s t) : Two w.drew L m gx gb Af nf cf mR gB gN gW gD AfR nfR cfR a b c d e fs s t := h.like
theorem Two.chip {w w' : World} {L m gx gb : Nat} {Af : Option Addr} {nf cf mR gB gN gW gD : Nat} {AfR : Option Addr} {nfR cfR : Nat} {a b c d e : Int} {fs : List Flt} {s t s' : ChS} (h : Two w L m gx gb Af nf cf mR gB gN gW gD AfR nfR cfR a b c d e fs s t) (hC : ChipW w' m gx gb Af nf cf a b c d e fs s') (hT : Tch (chB m gx gb) w w') : Two w' L m gx gb Af nf cf mR gB gN gW gD AfR nfR cfR a b c d e fs s' t := ⟨h.cl.next hC, h.rl.far hT h.cl.low⟩
theorem Two.ref {w w' : World} {L m gx gb : Nat} {Af : Option Addr} {nf cf mR gB gN gW gD : Nat} {AfR : Option Addr} {nfR cfR : Nat} {a b c d e : Int} {fs : List Flt} {s t t' : ChS} (h : Two w L m gx gb Af nf cf mR gB gN gW gD AfR nfR cfR a b c d e fs s t) (hR : RefW w' mR gB gN gW gD L AfR nfR cfR a b c d e fs t') (hT : Tch (rfB mR gB gN gW gD) w w') : Two w' L m gx gb Af nf cf mR gB gN gW gD AfR nfR cfR a b c d e fs s t' := ⟨h.cl.far hT h.rl.ge, hR⟩
/-- The blocks of both. -/
def twB (m gx gb mR gB gN gW gD : Nat) (g : Nat) : Prop := chB m gx gb g ∨ (rfB mR gB gN gW gD) g
theorem tw_c {m gx gb mR gB gN gW gD : Nat} {w w' : World} (h : Tch (chB m gx gb) w w') : Tch (twB m gx gb mR gB gN gW gD) w w' := h.mono (fun _ e => Or.inl e)
theorem tw_f {m gx gb mR gB gN gW gD : Nat} {w w' : World} (h : Tch (rfB mR gB gN gW gD) w w') : Tch (twB m gx gb mR gB gN gW gD) w w' := h.mono (fun _ e => Or.inr e)
theorem Two.lt {w : World} {L m gx gb : Nat} {Af : Option Addr} {nf cf mR gB gN gW gD : Nat} {AfR : Option Addr} {nfR cfR : Nat} {a b c d e : Int} {fs : List Flt} {s t : ChS} (h : Two w L m gx gb Af nf cf mR gB gN gW gD AfR nfR cfR a b c d e fs s t) : ∀ g, twB m gx gb mR gB gN gW gD g → g < w.heap.size := by
  intro g hg
  rcases hg with hg | hg
  · have := h.cl.low g hg
    have := h.rl.L_le
    omega
  · exact h.rl.lts g hg
theorem own_farT {w w' : World} {base e n size : Nat} {v : Value} {xs : List Value} (h : w.ownsRow base e size v n xs) (hk : ∀ g, v.ownBlock = some g → w'.heap[g]? = w.heap[g]?) : w'.ownsRow base e size v n xs := by
  obtain ⟨hl, h⟩ := h
  refine ⟨hl, ?_⟩
  rcases h with h | ⟨g, cap, cur, rfl, hb, hh, r⟩
  · exact Or.inl h
  · exact Or.inr ⟨g, cap, cur, rfl, hb, (hk g rfl).trans hh, r⟩
/-- A row that is written over, which lies behind all that there was. -/
theorem RefW.over {w0 w1 w w' : World} {m gB gN gW gD L : Nat} {Af : Option Addr} {nf cf : Nat} {a b c d e : Int} {fs : List Flt} {s0 s : ChS} (h0 : RefW w0 m gB gN gW gD L Af nf cf a b c d e fs s0) (h : RefW w m gB gN gW gD L Af nf cf a b c d e fs s) (v : Option Nat) (hF : Fresh w1 w gB) (h01 : ∀ i, w1.cell? ⟨gB, i, none⟩ = w0.cell? ⟨gB, i, none⟩) (hv : ∀ g, v = some g → w0.heap.size ≤ g ∧ g < w1.heap.size) (hg : w.grownBy w' v) : RefW w' m gB gN gW gD L Af nf cf a b c d e fs s := by
  have hlt0 := h0.lts
  have hP0 := h0.blk
  have hF0 := h0.flt
  obtain ⟨⟨cB, NP, NB, RW, hRW, hNP, hNB, hcB, hB, P, hPl, rB, hP⟩, rN, rW, rD, rF, hne, hge, l1, l2, l3, l4⟩ := h
  have hb : ∀ g, rfB m gB gN gW gD g → v ≠ some g := fun g h1 h2 => by
    have := hlt0 g h1
    have := (hv g h2).1
    omega
  have hk : ∀ g, g < w.heap.size → v ≠ some g → w'.heap[g]? = w.heap[g]? := fun g h1 h2 => hg.block g h1 (fun e => h2 e.symm)
  refine ⟨⟨cB, NP, NB, RW, hRW, hNP, hNB, hcB, (hk _ hB.lt (hb _ (Or.inl rfl))).trans hB, P, hPl, rB.keep (hk _ rB.lt (hb _ (Or.inr (Or.inl rfl)))), fun i p hi => ?_⟩, rN.keep (hk _ rN.lt (hb _ (Or.inr (Or.inr (Or.inl rfl))))), rW.keep (hk _ rW.lt (hb _ (Or.inr (Or.inr (Or.inr (Or.inl rfl)))))), rD.keep (hk _ rD.lt (hb _ (Or.inr (Or.inr (Or.inr (Or.inr rfl)))))), ?_, hne, hge, l1, l2, l3, l4⟩
  · have hp := hP i p hi
    refine hp.keep hg.size (hk _ hp.lt (fun e => ?_))
    have hc : w.cell? ⟨gB, i, none⟩ = some (pgV RW p) := rB.cell_ (by rw [List.getElem?_map, hi]; rfl)
    rcases hF i with h1 | ⟨g, n, c', h1, h2⟩
    · rw [h01 i] at h1
      obtain ⟨cB0, NP0, NB0, RW0, hRW0, hNP0, hNB0, hcB0, hB0, P0, hPl0, rB0, hPP⟩ := hP0
      have hiN : i < P0.length := by
        rw [hPl0]
        have : i < P.length := (List.getElem?_eq_some_iff.1 hi).1
        omega
      obtain ⟨p0, hp0⟩ : ∃ p0, P0[i]? = some p0 := ⟨_, List.getElem?_eq_getElem hiN⟩
      have hc0 : w0.cell? ⟨gB, i, none⟩ = some (pgV RW0 p0) := rB0.cell_ (by rw [List.getElem?_map, hp0]; rfl)
      rw [← h1, hc] at hc0
      have e3 : p.1 = p0.1 := by
        simp only [pgV, Option.some.injEq, Value.slice.injEq, Addr.mk.injEq] at hc0
        exact hc0.1.1
      have := (hPP i p0 hp0).lt
      have := (hv _ e).1
      omega
    · rw [hc] at h1
      have e3 : p.1 = g := by
        simp only [pgV, Option.some.injEq, Value.slice.injEq, Addr.mk.injEq] at h1
        exact h1.1.1
      have := (hv _ e).2
      omega
  · rcases hF0 with h1 | ⟨g, off, e, hlt, h1, h2, hc⟩
    · exact Or.inl h1
    · rcases rF with h3 | ⟨g', off', e', hlt', h4, h5, hc'⟩
      · exact Or.inl h3
      · rw [e] at e'
        obtain ⟨rfl, rfl⟩ : g = g' ∧ off = off' := by cases e'; exact ⟨rfl, rfl⟩
        have hq : ∀ o, w'.cell? ⟨g, o, none⟩ = w.cell? ⟨g, o, none⟩ := fun o => World.cell?_of_block (w := w) (hk g hlt' (fun e2 => by have := (hv g e2).1; omega))
        exact Or.inr ⟨g, off, e, by have := hg.size; omega, h1, h2, fun k f hf => by rw [hq, hq, hq]; exact hc' k f hf⟩
theorem Two.over {w0 w1 w w' : World} {L m gx gb : Nat} {Af : Option Addr} {nf cf mR gB gN gW gD : Nat} {AfR : Option Addr} {nfR cfR : Nat} {a b c d e : Int} {fs : List Flt} {s0 t0 s t : ChS} (h0 : Two w0 L m gx gb Af nf cf mR gB gN gW gD AfR nfR cfR a b c d e fs s0 t0) (h : Two w L m gx gb Af nf cf mR gB gN gW gD AfR nfR cfR a b c d e fs s t) (v : Option Nat) (hF : Fresh w1 w gB) (h01 : ∀ i, w1.cell? ⟨gB, i, none⟩ = w0.cell? ⟨gB, i, none⟩) (hv : ∀ g, v = some g → w0.heap.size ≤ g ∧ g < w1.heap.size) (hg : w.grownBy w' v) : Two w' L m gx gb Af nf cf mR gB gN gW gD AfR nfR cfR a b c d e fs s t := by
  refine ⟨h.cl.far (S := fun g => v = some g) ⟨hg.size, fun g h1 h2 => hg.block g h1 (fun e => h2 e.symm), hg.os, hg.tape, hg.output⟩ (fun g e => ?_), h0.rl.over h.rl v hF h01 hv hg⟩
  have := h0.rl.L_le
  have := (hv g e).1
  omega
theorem over_q (q : Nat) (A : Option Addr) (c' : Nat) (xs : List Value) (base : Nat) (w : World) (ho : w.ownsRow base 5 1 (.slice A q c') q xs) (hb : base ≤ w.heap.size) (hn : q ≤ 1000) :
    Calls Try.prog 42 #[.slice A q c'] w fun e' w' => (∃ v, e' = .returned v) ∧ w.grownBy w' (Value.ownBlock (.slice A q c')) := by
  have ho2 := ho
  obtain ⟨hl, h⟩ := ho
  rcases h with ⟨h1, h2⟩ | ⟨g, cap, cur, h1, h2⟩
  · cases h1
    refine (over_nil 0 w).mono ?_
    rintro e' w' ⟨hv, hb⟩
    exact ⟨hv, ⟨hb.os, hb.tape, hb.output, hb.size, fun g hg _ => hb.block g hg⟩⟩
  · cases h1
    exact over_own q g c' xs base w ho2 hb hn
/-- Each one's acts. -/
theorem tw_read (L m gx gb : Nat) (Af : Option Addr) (nf cf mR gB gN gW gD : Nat) (AfR : Option Addr) (nfR cfR : Nat) (a b c d e : Int) (fs : List Flt) (x y : Int) (n : Int) (w : World) (s t : ChS) (h : Two w L m gx gb Af nf cf mR gB gN gW gD AfR nfR cfR a b c d e fs s t) (hs : Fine s n) (hn : n ≤ 900000000) (Z : Int) (bs : List Nat) (q : Nat) (S : ChS) (hZ : Hid (s.readZ a b x y = Z ∧ s.readB a b c x y = bs ∧ bs.length = q ∧ s.readS a b x y = S)) :
    Calls Try.prog 19 #[.pointer (some ⟨m, 0, none⟩), .agg #[.int .i64 x, .int .i64 y]] w fun e' w' => (∃ A c', e' = .returned (.tuple #[.slice A q c', .int .i64 Z]) ∧ w'.ownsRow w.heap.size 5 1 (.slice A q c') q (bs.map byteV)) ∧ Two w' L m gx gb Af nf cf mR gB gN gW gD AfR nfR cfR a b c d e fs S t ∧ Tch (chB m gx gb) w w' := by
  obtain ⟨rfl, rfl, rfl, rfl⟩ := hZ.out
  refine (read_allO m gx gb Af nf cf a b c d e fs x y n w s h.cl.chip hs hn).mono ?_
  rintro e' w' ⟨⟨A, c', h1, h2⟩, hC, hT⟩
  refine ⟨⟨A, c', h1, ?_⟩, h.chip hC hT, hT⟩
  rcases h2 with ⟨h3, rfl, rfl⟩ | ⟨g, rfl, h3, h4, h5⟩
  · rw [h3]
    exact World.ownsRow_nil _ _ _ _
  · exact h5
theorem tw_rread (L m gx gb : Nat) (Af : Option Addr) (nf cf mR gB gN gW gD : Nat) (AfR : Option Addr) (nfR cfR : Nat) (a b c d e : Int) (fs : List Flt) (x y : Int) (n : Int) (w : World) (s t : ChS) (h : Two w L m gx gb Af nf cf mR gB gN gW gD AfR nfR cfR a b c d e fs s t) (hs : Fine t n) (hn : n ≤ 900000000) (hwt : t.Wt) (Z : Int) (bs : List Nat) (q : Nat) (S : ChS) (hZ : Hid (t.readZ a b x y = Z ∧ t.readB a b c x y = bs ∧ bs.length = q ∧ t.readS a b x y = S)) :
    Calls Try.prog 40 #[.pointer (some ⟨mR, 0, none⟩), .agg #[.int .i64 x, .int .i64 y]] w fun e' w' => (∃ A c', e' = .returned (.tuple #[.slice A q c', .int .i64 Z]) ∧ Sl w' w'.heap.size A (bs.map byteV)) ∧ Two w' L m gx gb Af nf cf mR gB gN gW gD AfR nfR cfR a b c d e fs s S ∧ Tch (fun g => g = mR) w w' := by
  obtain ⟨rfl, rfl, rfl, rfl⟩ := hZ.out
  refine (rread_all mR gB gN gW gD L AfR nfR cfR a b c d e fs x y n w t h.rl hs hn hwt).mono ?_
  rintro e' w' ⟨⟨A, c', h1, h2⟩, hC, hT⟩
  refine ⟨⟨A, c', h1, ?_⟩, h.ref hC (tch_r hT), hT⟩
  rcases h2 with ⟨h3, rfl, rfl⟩ | ⟨g, rfl, h3, h4⟩
  · rw [h3]
    exact Sl.nil_
  · exact Or.inr ⟨g, 0, rfl, h3.lt, fun k v hk => by rw [Nat.zero_add]; exact h3.cell_ hk⟩
theorem tw_prog (L m gx gb : Nat) (Af : Option Addr) (nf cf mR gB gN gW gD : Nat) (AfR : Option Addr) (nfR cfR : Nat) (a b c d e : Int) (fs : List Flt) (x y : Int) (bs : List Nat) (gA cA Q : Nat) (n : Int) (w : World) (s t : ChS) (h : Two w L m gx gb Af nf cf mR gB gN gW gD AfR nfR cfR a b c d e fs s t) (hs : Fine s n) (hn : n ≤ 900000000) (hQ : bs.length = Q) (hR : LentB w gA (bs.map byteV)) (hgn : ¬ chB m gx gb gA) (hcA : Q ≤ cA) (hcA2 : cA ≤ maxLen) (Z : Int) (S : ChS) (hZ : Hid (s.progZ a b c fs x y Q = Z ∧ s.progS a b c fs x y bs = S)) :
    Calls Try.prog 17 #[.pointer (some ⟨m, 0, none⟩), .agg #[.int .i64 x, .int .i64 y], .slice (some ⟨gA, 0, none⟩) Q cA] w fun e' w' => e' = .returned (.int .i64 Z) ∧ Two w' L m gx gb Af nf cf mR gB gN gW gD AfR nfR cfR a b c d e fs S t ∧ Tch (chB m gx gb) w w' := by
  obtain ⟨rfl, rfl⟩ := hZ.out
  subst hQ
  refine (prog_allC m gx gb Af nf cf a b c d e fs x y bs gA cA n w s h.cl.chip hs hn ?_ hR.lt hcA hcA2 hgn).mono ?_
  · intro j u hj
    obtain ⟨cur, h1, h2, _⟩ := hR
    rw [Nat.zero_add, h1.cell_]
    exact h2 j u hj
  · rintro e' w' ⟨rfl, hC, hT⟩
    exact ⟨rfl, h.chip hC hT, hT⟩
theorem tw_rprog (L m gx gb : Nat) (Af : Option Addr) (nf cf mR gB gN gW gD : Nat) (AfR : Option Addr) (nfR cfR : Nat) (a b c d e : Int) (fs : List Flt) (x y : Int) (bs : List Nat) (gA Q : Nat) (n : Int) (w : World) (s t : ChS) (h : Two w L m gx gb Af nf cf mR gB gN gW gD AfR nfR cfR a b c d e fs s t) (hs : Fine t n) (hn : n ≤ 900000000) (hwt : t.Wt) (hQ : bs.length = Q) (hR : RowT w gA 5 (bs.map byteV)) (hgn : ¬ rfB mR gB gN gW gD gA) (Z : Int) (S : ChS) (hZ : Hid (t.progZ a b c fs x y Q = Z ∧ t.progS a b c fs x y bs = S)) :
    Calls Try.prog 44 #[.pointer (some ⟨mR, 0, none⟩), .agg #[.int .i64 x, .int .i64 y], .slice (some ⟨gA, 0, none⟩) Q Q] w fun e' w' => e' = .returned (.int .i64 Z) ∧ Two w' L m gx gb Af nf cf mR gB gN gW gD AfR nfR cfR a b c d e fs s S ∧ Tch (rfB mR gB gN gW gD) w w' ∧ Fresh w w' gB := by
  obtain ⟨rfl, rfl⟩ := hZ.out
  subst hQ
  refine (rprog_all mR gB gN gW gD L AfR nfR cfR a b c d e fs x y bs gA n w t h.rl hs hn hwt hR hgn).mono ?_
  rintro e' w' ⟨rfl, hC, hT, hF⟩
  exact ⟨rfl, h.ref hC hT, hT, hF⟩
theorem tw_erase (L m gx gb : Nat) (Af : Option Addr) (nf cf mR gB gN gW gD : Nat) (AfR : Option Addr) (nfR cfR : Nat) (a b c d e : Int) (fs : List Flt) (x : Int) (n : Int) (w : World) (s t : ChS) (h : Two w L m gx gb Af nf cf mR gB gN gW gD AfR nfR cfR a b c d e fs s t) (hs : Fine s n) (hn : n ≤ 900000000) (Z : Int) (S : ChS) (hZ : Hid (s.eraseZ a fs x = Z ∧ s.eraseS a b c fs x = S)) :
    Calls Try.prog 22 #[.pointer (some ⟨m, 0, none⟩), .int .i64 x] w fun e' w' => e' = .returned (.int .i64 Z) ∧ Two w' L m gx gb Af nf cf mR gB gN gW gD AfR nfR cfR a b c d e fs S t ∧ Tch (chB m gx gb) w w' := by
  obtain ⟨rfl, rfl⟩ := hZ.out
  refine (erase_all m gx gb Af nf cf a b c d e fs x n w s h.cl.chip hs hn).mono ?_
  rintro e' w' ⟨rfl, hC, hT⟩
  exact ⟨rfl, h.chip hC hT, hT⟩
theorem tw_rerase (L m gx gb : Nat) (Af : Option Addr) (nf cf mR gB gN gW gD : Nat) (AfR : Option Addr) (nfR cfR : Nat) (a b c d e : Int) (fs : List Flt) (x : Int) (n : Int) (w : World) (s t : ChS) (h : Two w L m gx gb Af nf cf mR gB gN gW gD AfR nfR cfR a b c d e fs s t) (hs : Fine t n) (hn : n ≤ 900000000) (hn0 : 20 ≤ n) (hwt : t.Wt) (Z : Int) (S : ChS) (hZ : Hid (t.eraseZ a fs x = Z ∧ t.eraseS a b c fs x = S)) :
    Calls Try.prog 46 #[.pointer (some ⟨mR, 0, none⟩), .int .i64 x] w fun e' w' => e' = .returned (.int .i64 Z) ∧ Two w' L m gx gb Af nf cf mR gB gN gW gD AfR nfR cfR a b c d e fs s S ∧ Tch (rfB mR gB gN gW gD) w w' := by
  obtain ⟨rfl, rfl⟩ := hZ.out
  refine (rerase_all mR gB gN gW gD L AfR nfR cfR a b c d e fs x n w t h.rl hs hn hn0 hwt).mono ?_
  rintro e' w' ⟨rfl, hC, hT⟩
  exact ⟨rfl, h.ref hC hT, hT⟩
theorem tw_arm (L m gx gb : Nat) (Af : Option Addr) (nf cf mR gB gN gW gD : Nat) (AfR : Option Addr) (nfR cfR : Nat) (a b c d e : Int) (fs : List Flt) (xo xb : Int) (xf : Nat) (n : Int) (w : World) (s t : ChS) (h : Two w L m gx gb Af nf cf mR gB gN gW gD AfR nfR cfR a b c d e fs s t) (hs : Fine s n) (hn : n ≤ 900000000) (Z : Int) (S : ChS) (hZ : Hid (s.armC xo xb = Z ∧ s.arm xo xb xf = S)) :
    Calls Try.prog 24 #[.pointer (some ⟨m, 0, none⟩), .agg #[.int .i64 xo, .int .i64 xb, .int .u8 (xf : Nat)]] w fun e' w' => e' = .returned (.int .i64 Z) ∧ Two w' L m gx gb Af nf cf mR gB gN gW gD AfR nfR cfR a b c d e fs S t ∧ Tch (chB m gx gb) w w' := by
  obtain ⟨rfl, rfl⟩ := hZ.out
  refine (arm_all m gx gb Af nf cf a b c d e fs xo xb xf n w s h.cl.chip hs hn).mono ?_
  rintro e' w' ⟨rfl, hC, hT⟩
  exact ⟨rfl, h.chip hC hT, hT⟩
theorem tw_rarm (L m gx gb : Nat) (Af : Option Addr) (nf cf mR gB gN gW gD : Nat) (AfR : Option Addr) (nfR cfR : Nat) (a b c d e : Int) (fs : List Flt) (xo xb : Int) (xf : Nat) (w : World) (s t : ChS) (h : Two w L m gx gb Af nf cf mR gB gN gW gD AfR nfR cfR a b c d e fs s t) (Z : Int) (S : ChS) (hZ : Hid (t.armC xo xb = Z ∧ t.arm xo xb xf = S)) :
    Calls Try.prog 47 #[.pointer (some ⟨mR, 0, none⟩), .agg #[.int .i64 xo, .int .i64 xb, .int .u8 (xf : Nat)]] w fun e' w' => e' = .returned (.int .i64 Z) ∧ Two w' L m gx gb Af nf cf mR gB gN gW gD AfR nfR cfR a b c d e fs s S ∧ Tch (rfB mR gB gN gW gD) w w' := by
  obtain ⟨rfl, rfl⟩ := hZ.out
  refine (rarm_all mR gB gN gW gD L AfR nfR cfR a b c d e fs xo xb xf w t h.rl).mono ?_
  rintro e' w' ⟨rfl, hC, hT⟩
  exact ⟨rfl, h.ref hC hT, hT⟩
theorem tw_boot (L m gx gb : Nat) (Af : Option Addr) (nf cf mR gB gN gW gD : Nat) (AfR : Option Addr) (nfR cfR : Nat) (a b c d e : Int) (fs : List Flt) (w : World) (s t : ChS) (h : Two w L m gx gb Af nf cf mR gB gN gW gD AfR nfR cfR a b c d e fs s t) (Z : Int) (S : ChS) (hZ : Hid (s.bootC = Z ∧ s.boot = S)) :
    Calls Try.prog 27 #[.pointer (some ⟨m, 0, none⟩)] w fun e' w' => e' = .returned (.int .i64 Z) ∧ Two w' L m gx gb Af nf cf mR gB gN gW gD AfR nfR cfR a b c d e fs S t ∧ Tch (chB m gx gb) w w' := by
  obtain ⟨rfl, rfl⟩ := hZ.out
  refine (boot_any m gx gb Af nf cf a b c d e fs w s h.cl.chip).mono ?_
  rintro e' w' ⟨rfl, hC, hT⟩
  exact ⟨rfl, h.chip hC hT, hT⟩
theorem tw_rboot (L m gx gb : Nat) (Af : Option Addr) (nf cf mR gB gN gW gD : Nat) (AfR : Option Addr) (nfR cfR : Nat) (a b c d e : Int) (fs : List Flt) (w : World) (s t : ChS) (h : Two w L m gx gb Af nf cf mR gB gN gW gD AfR nfR cfR a b c d e fs s t) (Z : Int) (S : ChS) (hZ : Hid (t.bootC = Z ∧ t.boot = S)) :
    Calls Try.prog 48 #[.pointer (some ⟨mR, 0, none⟩)] w fun e' w' => e' = .returned (.int .i64 Z) ∧ Two w' L m gx gb Af nf cf mR gB gN gW gD AfR nfR cfR a b c d e fs s S ∧ Tch (rfB mR gB gN gW gD) w w' := by
  obtain ⟨rfl, rfl⟩ := hZ.out
  refine (rboot_any mR gB gN gW gD L AfR nfR cfR a b c d e fs w t h.rl).mono ?_
  rintro e' w' ⟨rfl, hC, hT⟩
  exact ⟨rfl, h.ref hC (tch_r hT), tch_r hT⟩
/-- What all acts keep. -/
structure Good (s : ChS) (n : Int) : Prop where
  fine : Fine s n
  wt : s.Wt
theorem Good.mono {s : ChS} {n n' : Int} (h : Good s n) (hn : n ≤ n') : Good s n' := ⟨h.fine.mono hn, h.wt⟩
theorem Good.read {s : ChS} {n : Int} (h : Good s n) (a b x y : Int) : Good (s.readS a b x y) (n + 3) := by
  refine ⟨?_, Wt.read h.wt a b x y⟩
  unfold ChS.readS
  split
  · exact h.fine.tick.mono (by omega)
  · exact h.fine.mono (by omega)
theorem Good.prog {w : World} {m gx gb : Nat} {Af : Option Addr} {nf cf : Nat} {a b c d e : Int} {fs : List Flt} {s : ChS} (hC : ChipW w m gx gb Af nf cf a b c d e fs s) {n : Int} (h : Good s n) (x y : Int) (bs : List Nat) : Good (s.progS a b c fs x y bs) (n + 3) :=
  ⟨(prog_same hC h.fine x y bs (x.toNat + 1) (by omega)).2, Wt.prog h.wt a b c fs x y bs⟩
theorem Good.erase {w : World} {m gx gb : Nat} {Af : Option Addr} {nf cf : Nat} {a b c d e : Int} {fs : List Flt} {s : ChS} (hC : ChipW w m gx gb Af nf cf a b c d e fs s) {n : Int} (h : Good s n) (hn : 20 ≤ n) (x : Int) : Good (s.eraseS a b c fs x) (n + 3) :=
  ⟨(erase_same hC h.fine hn x (x.toNat + 1) (by omega)).2, Wt.erase h.wt a b c fs x⟩
theorem Good.arm {s : ChS} {n : Int} (h : Good s n) (hn : n ≤ 900000000) (xo xb : Int) (xf : Nat) (hf : xf < 256) : Good (s.arm xo xb xf) (n + 3) :=
  ⟨((arm_same s 0 0 h.fine xo xb xf 0 hf).2).mono (by omega), Wt.arm h.wt h.fine.bnd hn xo xb xf⟩
theorem Good.boot {s : ChS} {n : Int} (h : Good s n) : Good s.boot (n + 3) := ⟨((boot_same s 0 0 h.fine 0).2).mono (by omega), Wt.boot h.wt⟩
end Go.Proofs.Ytplniojeaodjiaa
namespace Go.Proofs.Ytplniojeaodjiaa
open Go.ChangeShapes Go.WideShapes Go.ChangeAt Go.RowKit
set_option linter.unusedSimpArgs false
set_option linter.unusedVariables false

theorem cells8 {w : World} {g : Nat} {t : TypeId} {u0 u1 u2 u3 u4 u5 u6 u7 : Value} (h : Blk w g t #[u0, u1, u2, u3, u4, u5, u6, u7]) : w.cell? ⟨g, 0, none⟩ = some u0 ∧ w.cell? ⟨g, 1, none⟩ = some u1 ∧ w.cell? ⟨g, 2, none⟩ = some u2 ∧ w.cell? ⟨g, 3, none⟩ = some u3 ∧ w.cell? ⟨g, 4, none⟩ = some u4 ∧ w.cell? ⟨g, 5, none⟩ = some u5 ∧ w.cell? ⟨g, 6, none⟩ = some u6 ∧ w.cell? ⟨g, 7, none⟩ = some u7 := ⟨h.cell_ 0, h.cell_ 1, h.cell_ 2, h.cell_ 3, h.cell_ 4, h.cell_ 5, h.cell_ 6, h.cell_ 7⟩
theorem tch_dr {S : Nat → Prop} {w w1 w2 : World} (h : Tch S w w1) (k : Tch S w1.drew w2) : Tch S w w2 := h.trans k.like0
theorem tch_over {S : Nat → Prop} {w0 w w' : World} {v : Option Nat} (h : Tch S w0 w) (hg : w.grownBy w' v) (hv : ∀ g, v = some g → w0.heap.size ≤ g) : Tch S w0 w' :=
  ⟨Nat.le_trans h.size hg.size, fun g h1 h2 => (hg.block g (Nat.lt_of_lt_of_le h1 h.size) (fun e => by have := hv g e.symm; omega)).trans (h.far g h1 h2), hg.os.trans h.os, hg.tape.trans h.tape, hg.output.trans h.output⟩
theorem same_q (xs : List Nat) (q : Nat) (hq : xs.length = q) (A B : Option Addr) (c' d' : Nat) (w : World) (h1 : Sl w w.heap.size A (xs.map byteV)) (h2 : Sl w w.heap.size B (xs.map byteV)) (n1 : q ≤ 1000000) : Calls Try.prog 20 #[.slice A q c', .slice B q d'] w fun e' w' => e' = .returned (.bool true) ∧ Below w.heap.size w w' := by
  subst hq
  have := sameB_any xs xs A B c' d' w h1 h2 n1 n1
  simpa using this
theorem readB_len (s : ChS) (a b c x y : Int) (hc : c ≤ 64) : (s.readB a b c x y).length ≤ 1000 := by
  unfold ChS.readB
  split
  · unfold ChS.pageOf
    rw [List.length_take]
    omega
  · simp
/-- Bytes that were lent, in a row of one's own. -/
structure InB (w : World) (base g Q : Nat) (bs : List Nat) : Prop where
  lent : LentB w g (bs.map byteV)
  own : w.ownsRow base 5 1 (.slice (some ⟨g, 0, none⟩) Q (Q + 3)) Q (bs.map byteV)
theorem InB.keep {w w' : World} {base g Q : Nat} {bs : List Nat} (h : InB w base g Q bs) (hk : w'.heap[g]? = w.heap[g]?) : InB w' base g Q bs := by
  obtain ⟨⟨cur, h1, h2⟩, h3⟩ := h
  exact ⟨⟨cur, hk.trans h1, h2⟩, own_farT h3 (fun g' e => by cases e; exact hk)⟩
set_option maxRecDepth 100000 in
set_option maxHeartbeats 4000000 in
theorem lendB_own (bs : List Nat) (A : Option Addr) (c : Nat) (w : World) (h1 : Sl w w.heap.size A (bs.map byteV)) (n1 : bs.length ≤ 1000000) (hA : A = none → bs.length = 0 ∧ c = 0) :
    Calls Try.prog 43 #[.slice A bs.length c] w fun e w' =>
      ∃ g, e = .returned (.slice (some ⟨g, 0, none⟩) bs.length (bs.length + 3)) ∧ w.heap.size ≤ g ∧ LentB w' g (bs.map byteV) ∧ w'.ownsRow w.heap.size 5 1 (.slice (some ⟨g, 0, none⟩) bs.length (bs.length + 3)) bs.length (bs.map byteV) ∧ Below w.heap.size w w' := by
  obtain ⟨i0, hi, hz0, hz1, hz2⟩ := info_parts infoByte
  have H1 := Lib.hid h1
  clear h1
  go_enter Try.func43, Try.ntmps43
  go_wp2_with (first
    | (at_make; refine wpList_make_own _ rfl _ _ 48 rfl w.heap.size 5 i0 (.int .u8 0) 1 Try.underlying48 hi hz0 hz1 _ _ _ (bs.length + 3) rfl rfl (by go_num) (by rw [hz2]; omega) (by unfold maxLen; omega) (Nat.le_refl _) ?_; intro w1 hown1 hgrow1)
    | (at_builtin; refine wpList_append_fits_any _ rfl _ _ 48 rfl w.heap.size 5 i0 1 Try.underlying48 hi hz1 w.heap.size 0 (bs.length + 3) [] rfl hown1 A bs.length c (bs.map byteV) rfl (by simp) hA (Sl.cells_ (H1.out.below ((Below.refl _ _).grown hgrow1 (Nat.le_refl _) (fun j hj => by cases hj)))) (oneB bs) (by omega) ?_; intro w2 hown2 hgrow2))
  have e3 : bs.length + 3 - bs.length = 3 := by omega
  rw [e3]
  have hB2 : Below w.heap.size w w2 := ((Below.refl _ _).grown hgrow1 (Nat.le_refl _) (fun j hj => by cases hj)).grown hgrow2 hgrow1.size (fun j hj => by obtain rfl := Option.some.inj hj; exact Nat.le_refl _)
  have hl : (bs.map byteV).length = bs.length := by simp
  obtain ⟨cur, hblk, hsz, hpre⟩ : ∃ cur : Array Value, Blk w2 w.heap.size 5 cur ∧ cur.size = bs.length + 3 ∧ ∀ (j : Nat) (u : Value), (bs.map byteV)[j]? = some u → cur[j]? = some u := by
    rcases hown2.2 with ⟨h, _⟩ | ⟨g', cap', cur, h, _, hg, _, _, hcs, htake⟩
    · simp at h
    · simp only [Value.slice.injEq, Option.some.injEq, Addr.mk.injEq, and_true, true_and] at h
      obtain ⟨rfl, rfl⟩ := h
      refine ⟨cur, hg, by omega, fun j u hu => ?_⟩
      have hj := (List.getElem?_eq_some_iff.1 hu).1
      rw [List.nil_append] at htake
      rw [← htake, List.getElem?_take_of_lt (by omega)] at hu
      simpa using hu
  clear hown2 hown1 hgrow1 hgrow2
  go_loopw [5] (fun i wr => ∃ k : Nat, k ≤ 3 ∧ i = .int .i64 k ∧ (∃ cur : Array Value, Blk wr w.heap.size 5 cur ∧ cur.size = bs.length + 3 ∧ (∀ (j : Nat) (u : Value), (bs.map byteV)[j]? = some u → cur[j]? = some u) ∧ ∀ i : Nat, i < k → cur[bs.length + i]? = some (.int .u8 119)) ∧ Below w.heap.size w wr) (fun i _ => 3 - (intOf i).toNat)
  case atStart => exact ⟨0, by omega, rfl, ⟨cur, hblk, hsz, hpre, fun i hi => by omega⟩, hB2⟩
  case round =>
    obtain ⟨k, hk, rfl, ⟨cur, hblk, hsz, hpre, hdone⟩, hB⟩ := hrel
    by_cases hlt : k < 3
    · obtain ⟨x0, hx0⟩ : ∃ x, cur[bs.length + k]? = some x := ⟨_, Array.getElem?_eq_getElem (by omega)⟩
      have ck : wr.cell? ⟨w.heap.size, bs.length + k, none⟩ = some x0 := by rw [hblk.cell_]; exact hx0
      clear hx0
      have fz := hblk.free (bs.length + k)
      have i1 : (0 : Int) ≤ (k : Int) := by omega
      have i2 : (k : Int) < 3 := by omega
      have Hpre := Lib.hid hpre
      have Hdone := Lib.hid hdone
      have Hsz := Lib.hid hsz
      clear hpre hdone hsz
      go_wp2
      refine ⟨⟨k + 1, by omega, by go_num, ⟨_, hblk.set_ _ _, by rw [Array.size_setIfInBounds]; exact Hsz.out, fun j u hu => ?_, fun i hi => ?_⟩, hB.setCell (Nat.le_refl _) _⟩, by simp [intOf]; omega⟩
      · have hj := (List.getElem?_eq_some_iff.1 hu).1
        rw [Array.getElem?_setIfInBounds_ne (by omega)]
        exact Hpre.out j u hu
      · by_cases hik : i = k
        · subst hik
          rw [Array.getElem?_setIfInBounds_self_of_lt (by have := Hsz.out; omega)]
        · rw [Array.getElem?_setIfInBounds_ne (by omega)]
          exact Hdone.out i (by omega)
    · have : k = 3 := by omega
      subst this
      go_wp2
      go_ret
      refine ⟨_, rfl, Nat.le_refl _, ⟨cur, hblk, hpre, fun i hi => by rw [hl]; exact hdone i hi⟩, ⟨by simp, Or.inr ⟨w.heap.size, bs.length + 3, cur, rfl, Nat.le_refl _, hblk, by omega, by unfold maxLen; omega, by omega, ?_⟩⟩, hB⟩
      apply List.ext_getElem?
      intro j
      rw [List.getElem?_take]
      split
      · have hj : j < (bs.map byteV).length := by rw [hl]; omega
        have := hpre j _ (List.getElem?_eq_getElem hj)
        rw [List.getElem?_eq_getElem hj]
        simpa using this
      · rw [List.getElem?_eq_none (by rw [hl]; omega)]
theorem lend_q (bs : List Nat) (Q : Nat) (hq : bs.length = Q) (g : Nat) (w : World) (h1 : RowT w g 5 (bs.map byteV)) (n1 : Q ≤ 1000000) : Calls Try.prog 43 #[.slice (some ⟨g, 0, none⟩) Q Q] w fun e' w' => (∃ g', e' = .returned (.slice (some ⟨g', 0, none⟩) Q (Q + 3)) ∧ w.heap.size ≤ g' ∧ InB w' w.heap.size g' Q bs) ∧ Below w.heap.size w w' := by
  subst hq
  refine (lendB_own bs (some ⟨g, 0, none⟩) bs.length w (Or.inr ⟨g, 0, rfl, h1.lt, fun k v hk => by rw [Nat.zero_add]; exact h1.cell_ hk⟩) n1 (fun e => by cases e)).mono ?_
  rintro e' w' ⟨g', rfl, h2, h3, h4, hb⟩
  exact ⟨⟨g', rfl, h2, ⟨h3, h4⟩⟩, hb⟩
theorem kept_q (bs : List Nat) (Q : Nat) (hq : bs.length = Q) (base g g2 : Nat) (w : World) (h1 : InB w base g Q bs) (h2 : RowT w g2 5 (bs.map byteV)) (n1 : Q ≤ 1000000) : Calls Try.prog 45 #[.slice (some ⟨g, 0, none⟩) Q (Q + 3), .slice (some ⟨g2, 0, none⟩) Q Q] w fun e' w' => e' = .returned (.bool true) ∧ Below w.heap.size w w' := by
  subst hq
  have := keptB_any bs bs g (some ⟨g2, 0, none⟩) bs.length w h1.lent (Or.inr ⟨g2, 0, rfl, h2.lt, fun k v hk => by rw [Nat.zero_add]; exact h2.cell_ hk⟩) n1 n1
  simpa using this
set_option maxRecDepth 100000 in
set_option maxHeartbeats 8000000 in
theorem done_else (L m gx gb : Nat) (Af : Option Addr) (nf cf mR gB gN gW gD : Nat) (AfR : Option Addr) (nfR cfR : Nat) (a b c d e : Int) (fs : List Flt) (dd px py : Int) (nn : Nat) (ln co cb : Int) (cu : Nat) (n : Int) (w : World) (s : ChS) (h0 : Two w L m gx gb Af nf cf mR gB gN gW gD AfR nfR cfR a b c d e fs s s) (hg : Good s n) (hn : n ≤ 800000000) (hn0 : 20 ≤ n) (hnn : nn < 256) (hln : i64in ln) (hcf : cu < 256) (hd : dd ≠ 0 ∧ dd ≠ 1 ∧ dd ≠ 2 ∧ dd ≠ 3 ∧ dd ≠ 4) : Calls Try.prog 13 #[.pointer (some ⟨m, 0, none⟩), .pointer (some ⟨mR, 0, none⟩), .agg #[.int .i64 dd, .int .i64 px, .int .i64 py, .int .u8 (nn : Int), .int .i64 ln, .int .i64 co, .int .i64 cb, .int .u8 (cu : Int)]] w fun e' w' => e' = .returned (.bool true) ∧ (∃ S, Two w' L m gx gb Af nf cf mR gB gN gW gD AfR nfR cfR a b c d e fs S S ∧ Hid (Good S (n + 3))) ∧ Tch (twB m gx gb mR gB gN gW gD) w w' := by
  have HB0 : Below w.heap.size w (w.alloc (.cells #[.int .i64 dd, .int .i64 px, .int .i64 py, .int .u8 (nn : Int), .int .i64 ln, .int .i64 co, .int .i64 cb, .int .u8 (cu : Int)] 37)) := (Below.refl _ _).alloc (Nat.le_refl _) _
  have G1 : Blk (w.alloc (.cells #[.int .i64 dd, .int .i64 px, .int .i64 py, .int .u8 (nn : Int), .int .i64 ln, .int .i64 co, .int .i64 cb, .int .u8 (cu : Int)] 37)) w.heap.size 37 #[.int .i64 dd, .int .i64 px, .int .i64 py, .int .u8 (nn : Int), .int .i64 ln, .int .i64 co, .int .i64 cb, .int .u8 (cu : Int)] := Blk.new_ _ _ _
  have HY := cells8 G1
  have hno : ¬ twB m gx gb mR gB gN gW gD w.heap.size := fun e => by have := h0.lt _ e; omega
  have h := h0.below HB0
  have HT : Tch (twB m gx gb mR gB gN gW gD) w (w.alloc (.cells #[.int .i64 dd, .int .i64 px, .int .i64 py, .int .u8 (nn : Int), .int .i64 ln, .int .i64 co, .int .i64 cb, .int .u8 (cu : Int)] 37)) := Tch.of_below HB0
  have hcS : ∀ g, chB m gx gb g → g < w.heap.size := fun g e => h0.lt g (Or.inl e)
  have hrS : ∀ g, rfB mR gB gN gW gD g → g < w.heap.size := fun g e => h0.lt g (Or.inr e)
  have HCS := Lib.hid hcS
  have HRS := Lib.hid hrS
  have H0 := Lib.hid h0
  have HG := Lib.hid hg
  have hfi := hg.fine
  have hwt := hg.wt
  have hgc : ¬ chB m gx gb gB := fun e => by have := h0.cl.low _ e; have := h0.rl.ge gB (Or.inr (Or.inl rfl)); omega
  clear hcS hrS h0 hg HB0
  obtain ⟨d0, d1, d2, d3, d4⟩ := hd
  go_enter Try.func13, Try.ntmps13
  go_wp2_with fail
  go_ret
  exact ⟨rfl, ⟨s, h, Lib.hid (HG.out.mono (by omega))⟩, HT⟩
set_option maxRecDepth 100000 in
set_option maxHeartbeats 8000000 in
theorem done_read (L m gx gb : Nat) (Af : Option Addr) (nf cf mR gB gN gW gD : Nat) (AfR : Option Addr) (nfR cfR : Nat) (a b c d e : Int) (fs : List Flt) (dd px py : Int) (nn : Nat) (ln co cb : Int) (cu : Nat) (n : Int) (w : World) (s : ChS) (h0 : Two w L m gx gb Af nf cf mR gB gN gW gD AfR nfR cfR a b c d e fs s s) (hg : Good s n) (hn : n ≤ 800000000) (hn0 : 20 ≤ n) (hnn : nn < 256) (hln : i64in ln) (hcf : cu < 256) (hd : dd = 0) : Calls Try.prog 13 #[.pointer (some ⟨m, 0, none⟩), .pointer (some ⟨mR, 0, none⟩), .agg #[.int .i64 dd, .int .i64 px, .int .i64 py, .int .u8 (nn : Int), .int .i64 ln, .int .i64 co, .int .i64 cb, .int .u8 (cu : Int)]] w fun e' w' => e' = .returned (.bool true) ∧ (∃ S, Two w' L m gx gb Af nf cf mR gB gN gW gD AfR nfR cfR a b c d e fs S S ∧ Hid (Good S (n + 3))) ∧ Tch (twB m gx gb mR gB gN gW gD) w w' := by
  have HB0 : Below w.heap.size w (w.alloc (.cells #[.int .i64 dd, .int .i64 px, .int .i64 py, .int .u8 (nn : Int), .int .i64 ln, .int .i64 co, .int .i64 cb, .int .u8 (cu : Int)] 37)) := (Below.refl _ _).alloc (Nat.le_refl _) _
  have G1 : Blk (w.alloc (.cells #[.int .i64 dd, .int .i64 px, .int .i64 py, .int .u8 (nn : Int), .int .i64 ln, .int .i64 co, .int .i64 cb, .int .u8 (cu : Int)] 37)) w.heap.size 37 #[.int .i64 dd, .int .i64 px, .int .i64 py, .int .u8 (nn : Int), .int .i64 ln, .int .i64 co, .int .i64 cb, .int .u8 (cu : Int)] := Blk.new_ _ _ _
  have HY := cells8 G1
  have hno : ¬ twB m gx gb mR gB gN gW gD w.heap.size := fun e => by have := h0.lt _ e; omega
  have h := h0.below HB0
  have HT : Tch (twB m gx gb mR gB gN gW gD) w (w.alloc (.cells #[.int .i64 dd, .int .i64 px, .int .i64 py, .int .u8 (nn : Int), .int .i64 ln, .int .i64 co, .int .i64 cb, .int .u8 (cu : Int)] 37)) := Tch.of_below HB0
  have hcS : ∀ g, chB m gx gb g → g < w.heap.size := fun g e => h0.lt g (Or.inl e)
  have hrS : ∀ g, rfB mR gB gN gW gD g → g < w.heap.size := fun g e => h0.lt g (Or.inr e)
  have HCS := Lib.hid hcS
  have HRS := Lib.hid hrS
  have H0 := Lib.hid h0
  have HG := Lib.hid hg
  have hfi := hg.fine
  have hwt := hg.wt
  have hgc : ¬ chB m gx gb gB := fun e => by have := h0.cl.low _ e; have := h0.rl.ge gB (Or.inr (Or.inl rfl)); omega
  clear hcS hrS h0 hg HB0
  subst hd
  obtain ⟨Z, hZ1⟩ : ∃ Z, s.readZ a b px py = Z := ⟨_, rfl⟩
  obtain ⟨bs, hZ2⟩ : ∃ bs, s.readB a b c px py = bs := ⟨_, rfl⟩
  obtain ⟨q, hq⟩ : ∃ q, bs.length = q := ⟨_, rfl⟩
  obtain ⟨S, hZ4⟩ : ∃ S, s.readS a b px py = S := ⟨_, rfl⟩
  have hq1 : q ≤ 1000 := by rw [← hq, ← hZ2]; exact readB_len s a b c px py (by have := may_bd (planMay_bd h.cl.chip.may).1; omega)
  have HZ := Lib.hid (And.intro hZ1 (And.intro hZ2 (And.intro hq hZ4)))
  have HQ := Lib.hid hq
  have HSG : Hid (Good S (n + 3)) := Lib.hid (hZ4 ▸ HG.out.read a b px py)
  have HC1 : Tch (chB m gx gb) w (w.alloc (.cells #[.int .i64 0, .int .i64 px, .int .i64 py, .int .u8 (nn : Int), .int .i64 ln, .int .i64 co, .int .i64 cb, .int .u8 (cu : Int)] 37)) := Tch.of_below ((Below.refl _ _).alloc (Nat.le_refl _) _)
  clear hZ1 hZ2 hq hZ4
  go_enter Try.func13, Try.ntmps13
  go_wp2_with (first
    | (go_at_call 19; ((with_reducible refine (tw_read _ _ _ _ _ _ _ _ _ _ _ _ _ _ _ _ _ _ _ _ _ px py n _ s s (by first | exact h | exact Two.drew h) hfi (by omega) Z bs q S HZ).mono ?_); rintro e' wN ⟨⟨A1, c1, rfl, ho⟩, h2, hT⟩; replace ho := own_base ho HC1.size; replace G1 := hT.blk G1 (fun e => hno (Or.inl e)); clear h HY; have h := h2; clear h2; have HY := cells8 G1; replace HT := (by first | exact HT.trans (tw_c hT) | exact tch_dr HT (tw_c hT)); replace HC1 := HC1.trans hT; clear hT))
    | (go_at_call 40; ((with_reducible refine (tw_rread _ _ _ _ _ _ _ _ _ _ _ _ _ _ _ _ _ _ _ _ _ px py n _ S s (by first | exact h | exact Two.drew h) hfi (by omega) hwt Z bs q S HZ).mono ?_); rintro e' wN ⟨⟨A2, c2, rfl, hs2⟩, h2, hT⟩; have hF := Fresh.of (hT.far gB (Nat.lt_of_lt_of_le (HRS.out gB (Or.inr (Or.inl rfl))) HC1.size) (fun e => H0.out.rl.ne.1.1 e.symm)); have hv9 := fun g (e : Value.ownBlock (.slice A1 q c1) = some g) => ho.lt g e; have hG1c := fun i => World.cell?_of_block (w := w) (a := ⟨gB, i, none⟩) (HC1.far gB (HRS.out gB (Or.inr (Or.inl rfl))) hgc); clear HC1; replace ho := own_farT ho (fun g e => hT.far g (hv9 g e).2 (fun e2 => by have := (hv9 g e).1; have := HRS.out mR (Or.inl rfl); omega)); replace G1 := hT.blk G1 (fun e => hno (Or.inr (Or.inl e))); clear h HY; have h := h2; clear h2; have HY := cells8 G1; replace HT := (by first | exact HT.trans (tw_f (tch_r hT)) | exact tch_dr HT (tw_f (tch_r hT))); clear hT))
    | (go_at_call 20; ((with_reducible refine (same_q bs q HQ.out _ _ _ _ _ (Sl.of_own ho) hs2 (by omega)).mono ?_); rintro e' wN ⟨rfl, hb⟩; replace ho := own_farT ho (fun g e => hb.block g (ho.lt g e).2); replace hF := Fresh.then hF (hb.block gB (h.lt gB (Or.inr (Or.inr (Or.inl rfl))))); (try have hb := undrew hb); replace h := h.below hb; replace G1 := G1.below hb G1.lt; clear HY; have HY := cells8 G1; replace HT := HT.then hb))
    | (go_at_call 41; ((with_reducible refine (num_any _ _).mono ?_); rintro e' wN ⟨rfl, rfl⟩; skip))
    | (go_at_call 42; ((with_reducible refine (over_q q _ _ _ _ _ ho (by have := HT.size; omega) hq1).mono ?_); rintro e' wN ⟨⟨v, rfl⟩, hgr⟩; replace h := Two.over H0.out h _ hF hG1c hv9 hgr; replace HT := tch_over HT hgr (fun g e => (hv9 g e).1); clear ho hgr)))
  go_ret
  exact ⟨rfl, ⟨S, h, HSG⟩, HT⟩
set_option maxRecDepth 100000 in
set_option maxHeartbeats 8000000 in
theorem done_prog (L m gx gb : Nat) (Af : Option Addr) (nf cf mR gB gN gW gD : Nat) (AfR : Option Addr) (nfR cfR : Nat) (a b c d e : Int) (fs : List Flt) (dd px py : Int) (nn : Nat) (ln co cb : Int) (cu : Nat) (n : Int) (w : World) (s : ChS) (h0 : Two w L m gx gb Af nf cf mR gB gN gW gD AfR nfR cfR a b c d e fs s s) (hg : Good s n) (hn : n ≤ 800000000) (hn0 : 20 ≤ n) (hnn : nn < 256) (hln : i64in ln) (hcf : cu < 256) (hd : dd = 1) : Calls Try.prog 13 #[.pointer (some ⟨m, 0, none⟩), .pointer (some ⟨mR, 0, none⟩), .agg #[.int .i64 dd, .int .i64 px, .int .i64 py, .int .u8 (nn : Int), .int .i64 ln, .int .i64 co, .int .i64 cb, .int .u8 (cu : Int)]] w fun e' w' => e' = .returned (.bool true) ∧ (∃ S, Two w' L m gx gb Af nf cf mR gB gN gW gD AfR nfR cfR a b c d e fs S S ∧ Hid (Good S (n + 3))) ∧ Tch (twB m gx gb mR gB gN gW gD) w w' := by
  have HB0 : Below w.heap.size w (w.alloc (.cells #[.int .i64 dd, .int .i64 px, .int .i64 py, .int .u8 (nn : Int), .int .i64 ln, .int .i64 co, .int .i64 cb, .int .u8 (cu : Int)] 37)) := (Below.refl _ _).alloc (Nat.le_refl _) _
  have G1 : Blk (w.alloc (.cells #[.int .i64 dd, .int .i64 px, .int .i64 py, .int .u8 (nn : Int), .int .i64 ln, .int .i64 co, .int .i64 cb, .int .u8 (cu : Int)] 37)) w.heap.size 37 #[.int .i64 dd, .int .i64 px, .int .i64 py, .int .u8 (nn : Int), .int .i64 ln, .int .i64 co, .int .i64 cb, .int .u8 (cu : Int)] := Blk.new_ _ _ _
  have HY := cells8 G1
  have hno : ¬ twB m gx gb mR gB gN gW gD w.heap.size := fun e => by have := h0.lt _ e; omega
  have h := h0.below HB0
  have HT : Tch (twB m gx gb mR gB gN gW gD) w (w.alloc (.cells #[.int .i64 dd, .int .i64 px, .int .i64 py, .int .u8 (nn : Int), .int .i64 ln, .int .i64 co, .int .i64 cb, .int .u8 (cu : Int)] 37)) := Tch.of_below HB0
  have hcS : ∀ g, chB m gx gb g → g < w.heap.size := fun g e => h0.lt g (Or.inl e)
  have hrS : ∀ g, rfB mR gB gN gW gD g → g < w.heap.size := fun g e => h0.lt g (Or.inr e)
  have HCS := Lib.hid hcS
  have HRS := Lib.hid hrS
  have H0 := Lib.hid h0
  have HG := Lib.hid hg
  have hfi := hg.fine
  have hwt := hg.wt
  have hgc : ¬ chB m gx gb gB := fun e => by have := h0.cl.low _ e; have := h0.rl.ge gB (Or.inr (Or.inl rfl)); omega
  clear hcS hrS h0 hg HB0
  subst hd
  obtain ⟨Q, HQZ⟩ : ∃ Q : Nat, Hid ((Q : Int) = min (max ln 0) 200) := ⟨(min (max ln 0) 200).toNat, Lib.hid (by omega)⟩
  have hQ2 : Q ≤ 200 := by have := HQZ.out; omega
  obtain ⟨Z, hZ1⟩ : ∃ Z, s.progZ a b c fs px py Q = Z := ⟨_, rfl⟩
  obtain ⟨S, hZ4⟩ : ∃ S, s.progS a b c fs px py (bytesL nn Q) = S := ⟨_, rfl⟩
  have HZ := Lib.hid (And.intro hZ1 hZ4)
  have HSG : Hid (Good S (n + 3)) := Lib.hid (hZ4 ▸ Good.prog h.cl.chip HG.out px py (bytesL nn Q))
  have HC1 : Tch (chB m gx gb) w (w.alloc (.cells #[.int .i64 1, .int .i64 px, .int .i64 py, .int .u8 (nn : Int), .int .i64 ln, .int .i64 co, .int .i64 cb, .int .u8 (cu : Int)] 37)) := Tch.of_below ((Below.refl _ _).alloc (Nat.le_refl _) _)
  clear hZ1 hZ4
  go_enter Try.func13, Try.ntmps13
  go_upto_region 10 with (first
    | (go_at_call 18; ((with_reducible refine (bytes_all nn ln Q _ hnn hln HQZ.out).mono ?_); rintro e' wN ⟨⟨g1, rfl, hR1, hge1⟩, hb⟩; (try have hb := undrew hb); have hsz1 := HT.size; replace h := h.below hb; replace G1 := G1.below hb G1.lt; clear HY; have HY := cells8 G1; replace HT := HT.then hb; (try replace HC1 := HC1.then hb)))
    | (go_at_call 43; ((with_reducible refine (lend_q (bytesL nn Q) Q (bytesL_len nn Q) _ _ hR1 (by omega)).mono ?_); rintro e' wN ⟨⟨g0, rfl, hge0, hI⟩, hb⟩; have hszL := HT.size; (try have hb := undrew hb); replace h := h.below hb; replace G1 := G1.below hb G1.lt; clear HY; have HY := cells8 G1; replace HT := HT.then hb; (try replace HC1 := HC1.then hb))))
  have hw0 : w.heap.size ≤ g0 := by omega
  have hg0c : ¬ chB m gx gb g0 := fun e => by have := HCS.out g0 e; omega
  have hg0r : ¬ rfB mR gB gN gW gD g0 := fun e => by have := HRS.out g0 e; omega
  go_upto_region 11 with (go_at_call 17; ((with_reducible refine (tw_prog _ _ _ _ _ _ _ _ _ _ _ _ _ _ _ _ _ _ _ _ _ px py (bytesL nn Q) g0 (Q + 3) Q n _ s s (by first | exact h | exact Two.drew h) hfi (by omega) (bytesL_len nn Q) hI.lent hg0c (by omega) (by unfold maxLen; omega) Z S HZ).mono ?_); rintro e' wN ⟨rfl, h2, hT⟩; replace hI := hI.keep (hT.far _ hI.lent.lt hg0c); replace G1 := hT.blk G1 (fun e => hno (Or.inl e)); clear h HY; have h := h2; clear h2; have HY := cells8 G1; replace HT := (by first | exact HT.trans (tw_c hT) | exact tch_dr HT (tw_c hT)); replace HC1 := HC1.trans hT; clear hT))
  refine wp_region_noPanic ?_
  refine wp_region_held_drew (S := (fun w' => w'.cell? ⟨w.heap.size, 0, none⟩ = some (.int .i64 1) ∧ w'.cell? ⟨w.heap.size, 1, none⟩ = some (.int .i64 px) ∧ w'.cell? ⟨w.heap.size, 2, none⟩ = some (.int .i64 py) ∧ w'.cell? ⟨w.heap.size, 3, none⟩ = some (.int .u8 (nn : Int)) ∧ w'.cell? ⟨w.heap.size, 4, none⟩ = some (.int .i64 ln) ∧ w'.cell? ⟨w.heap.size, 5, none⟩ = some (.int .i64 co) ∧ w'.cell? ⟨w.heap.size, 6, none⟩ = some (.int .i64 cb) ∧ w'.cell? ⟨w.heap.size, 7, none⟩ = some (.int .u8 (cu : Int)))) (by kernel_rfl) ?_ (fun hHeld => ?_)
  · (first | exact HY | assumption)
  refine wpAnyH_take (i := 0) (oi := ⟨some 59, .move (.tmp 1), 29, "law.go:70", #[], none⟩) (v := ?_) rfl (by kernel_rfl) (by kernel_rfl) (by kernel_rfl) (fun _ _ _ h => h) (Or.inl ⟨by rfl, ?_⟩) (by assumption) ?_
  rotate_left
  · (intro wS hSw; (try dsimp only at hSw); go_simp; (try with_reducible rfl))
  try simp only [Act.put, pz1, pz2, pz3]
  refine wpAnyH_take (i := 1) (oi := ⟨some 60, .fieldAddr 37 (.tmp 5) 1, 0, "law.go:70", #[], none⟩) (v := ?_) rfl (by kernel_rfl) (by kernel_rfl) (by kernel_rfl) (fun _ _ _ h => h) (Or.inl ⟨by rfl, ?_⟩) (by assumption) ?_
  rotate_left
  · (intro wS hSw; (try dsimp only at hSw); go_simp; (try with_reducible rfl))
  try simp only [Act.put, pz1, pz2, pz3]
  refine wpAnyH_take (i := 2) (oi := ⟨some 61, .load 33 (.tmp 60), 33, "law.go:70", #[⟨1, .data⟩], none⟩) (v := ?_) rfl (by kernel_rfl) (by kernel_rfl) (by kernel_rfl) (fun _ _ _ h => h) (Or.inl ⟨by rfl, ?_⟩) (by assumption) ?_
  rotate_left
  · (intro wS hSw; (try dsimp only at hSw); go_simp; (try with_reducible rfl))
  try simp only [Act.put, pz1, pz2, pz3]
  refine wpAnyH_take (i := 3) (oi := ⟨some 62, .fieldAddr 37 (.tmp 5) 2, 0, "law.go:70", #[], none⟩) (v := ?_) rfl (by kernel_rfl) (by kernel_rfl) (by kernel_rfl) (fun _ _ _ h => h) (Or.inl ⟨by rfl, ?_⟩) (by assumption) ?_
  rotate_left
  · (intro wS hSw; (try dsimp only at hSw); go_simp; (try with_reducible rfl))
  try simp only [Act.put, pz1, pz2, pz3]
  refine wpAnyH_take (i := 4) (oi := ⟨some 63, .load 5 (.tmp 62), 5, "law.go:70", #[⟨3, .data⟩], none⟩) (v := ?_) rfl (by kernel_rfl) (by kernel_rfl) (by kernel_rfl) (fun _ _ _ h => h) (Or.inl ⟨by rfl, ?_⟩) (by assumption) ?_
  rotate_left
  · (intro wS hSw; (try dsimp only at hSw); go_simp; (try with_reducible rfl))
  try simp only [Act.put, pz1, pz2, pz3]
  refine wpAnyH_take (i := 5) (oi := ⟨some 64, .fieldAddr 37 (.tmp 5) 3, 0, "law.go:70", #[], none⟩) (v := ?_) rfl (by kernel_rfl) (by kernel_rfl) (by kernel_rfl) (fun _ _ _ h => h) (Or.inl ⟨by rfl, ?_⟩) (by assumption) ?_
  rotate_left
  · (intro wS hSw; (try dsimp only at hSw); go_simp; (try with_reducible rfl))
  try simp only [Act.put, pz1, pz2, pz3]
  refine wpAnyH_take (i := 6) (oi := ⟨some 65, .load 3 (.tmp 64), 3, "law.go:70", #[⟨5, .data⟩], none⟩) (v := ?_) rfl (by kernel_rfl) (by kernel_rfl) (by kernel_rfl) (fun _ _ _ h => h) (Or.inl ⟨by rfl, ?_⟩) (by assumption) ?_
  rotate_left
  · (intro wS hSw; (try dsimp only at hSw); go_simp; (try with_reducible rfl))
  try simp only [Act.put, pz1, pz2, pz3]
  refine wpAnyH_ready (rs := [7]) (by kernel_rfl) (by simp) ?_
  refine AllReadyH.cons (o := ⟨some 66, .call { callee := .value (.func 18), args := #[.tmp 63, .tmp 65], argTypes := #[5, 3] }, 48, "law.go:70", #[⟨4, .data⟩, ⟨6, .data⟩], none⟩) rfl (fun K hK => ?_) AllReadyH.nil
  go_simp
  (first | (go_at_call 18; ((with_reducible refine (bytes_all nn ln Q _ hnn hln HQZ.out).mono ?_); rintro e' wN ⟨⟨g2, rfl, hR2, hge2⟩, hb⟩; (try have hb := undrew hb); have hsz2 := HT.size; have hg2r : ¬ rfB mR gB gN gW gD g2 := (fun e => by have := HRS.out g2 e; have := Nat.le_trans hsz2 hge2; omega); replace hI := hI.keep (hb.block _ hI.lent.lt); replace h := h.below hb; replace G1 := G1.below hb G1.lt; clear HY; have HY := cells8 G1; replace HT := HT.then hb; (try replace HC1 := HC1.then hb))) | (go_at_call 44; ((with_reducible refine (tw_rprog _ _ _ _ _ _ _ _ _ _ _ _ _ _ _ _ _ _ _ _ _ px py (bytesL nn Q) g2 Q n _ S s (by first | exact h | exact Two.drew h) hfi (by omega) hwt (bytesL_len nn Q) hR2 hg2r Z S HZ).mono ?_); rintro e' wN ⟨rfl, h2, hT, hF⟩; have hv9 := fun g (e : Value.ownBlock (.slice (some ⟨g0, 0, none⟩) Q (Q + 3)) = some g) => And.intro (Nat.le_trans hszL (hI.own.lt g e).1) (hI.own.lt g e).2; have hG1c := fun i => World.cell?_of_block (w := w) (a := ⟨gB, i, none⟩) (HC1.far gB (HRS.out gB (Or.inr (Or.inl rfl))) hgc); clear HC1; replace hI := hI.keep (hT.far _ hI.lent.lt hg0r); replace G1 := hT.blk G1 (fun e => hno (Or.inr e)); clear h HY; have h := h2; clear h2; have HY := cells8 G1; replace HT := (by first | exact HT.trans (tw_f hT) | exact tch_dr HT (tw_f hT)); clear hT)))
  go_wp2_with fail
  refine hK.out _ _ ?_ (fun hNew => ?_)
  · (first | exact HY | assumption)
  clear hK K hHeld
  have hHeld := hNew
  clear hNew
  try simp only [Act.put, pz1, pz2, pz3]
  refine wpAnyH_ready (rs := [8]) (by kernel_rfl) (by simp) ?_
  refine AllReadyH.cons (o := ⟨some 67, .call { callee := .value (.func 44), args := #[.tmp 59, .tmp 61, .tmp 66], argTypes := #[29, 33, 48] }, 3, "law.go:70", #[⟨0, .data⟩, ⟨2, .data⟩, ⟨7, .data⟩, ⟨7, .chain⟩], none⟩) rfl (fun K hK => ?_) AllReadyH.nil
  go_simp
  (first | (go_at_call 18; ((with_reducible refine (bytes_all nn ln Q _ hnn hln HQZ.out).mono ?_); rintro e' wN ⟨⟨g2, rfl, hR2, hge2⟩, hb⟩; (try have hb := undrew hb); have hsz2 := HT.size; have hg2r : ¬ rfB mR gB gN gW gD g2 := (fun e => by have := HRS.out g2 e; have := Nat.le_trans hsz2 hge2; omega); replace hI := hI.keep (hb.block _ hI.lent.lt); replace h := h.below hb; replace G1 := G1.below hb G1.lt; clear HY; have HY := cells8 G1; replace HT := HT.then hb; (try replace HC1 := HC1.then hb))) | (go_at_call 44; ((with_reducible refine (tw_rprog _ _ _ _ _ _ _ _ _ _ _ _ _ _ _ _ _ _ _ _ _ px py (bytesL nn Q) g2 Q n _ S s (by first | exact h | exact Two.drew h) hfi (by omega) hwt (bytesL_len nn Q) hR2 hg2r Z S HZ).mono ?_); rintro e' wN ⟨rfl, h2, hT, hF⟩; have hv9 := fun g (e : Value.ownBlock (.slice (some ⟨g0, 0, none⟩) Q (Q + 3)) = some g) => And.intro (Nat.le_trans hszL (hI.own.lt g e).1) (hI.own.lt g e).2; have hG1c := fun i => World.cell?_of_block (w := w) (a := ⟨gB, i, none⟩) (HC1.far gB (HRS.out gB (Or.inr (Or.inl rfl))) hgc); clear HC1; replace hI := hI.keep (hT.far _ hI.lent.lt hg0r); replace G1 := hT.blk G1 (fun e => hno (Or.inr e)); clear h HY; have h := h2; clear h2; have HY := cells8 G1; replace HT := (by first | exact HT.trans (tw_f hT) | exact tch_dr HT (tw_f hT)); clear hT)))
  go_wp2_with fail
  refine hK.out _ _ ?_ (fun hNew => ?_)
  · (first | exact HY | assumption)
  clear hK K hHeld
  have hHeld := hNew
  clear hNew
  try simp only [Act.put, pz1, pz2, pz3]
  refine wpAnyH_take (i := 9) (oi := ⟨some 14, .assign (.tmp 67), 3, "law.go:70", #[⟨8, .data⟩, ⟨8, .chain⟩, ⟨0, .phase⟩, ⟨1, .phase⟩, ⟨2, .phase⟩, ⟨3, .phase⟩, ⟨4, .phase⟩, ⟨5, .phase⟩, ⟨6, .phase⟩, ⟨7, .phase⟩, ⟨8, .phase⟩], none⟩) (v := ?_) rfl (by kernel_rfl) (by kernel_rfl) (by kernel_rfl) (fun _ _ _ h => h) (Or.inl ⟨by rfl, ?_⟩) (by assumption) ?_
  rotate_left
  · (intro wS hSw; (try dsimp only at hSw); go_simp; (try with_reducible rfl))
  try simp only [Act.put, pz1, pz2, pz3]
  refine wpAnyH_done (by kernel_rfl) ?_ _
  refine NoPanic.normal ?_
  go_wp2_with (first
    | (go_at_call 41; ((with_reducible refine (num_any _ _).mono ?_); rintro e' wN ⟨rfl, rfl⟩; skip))
    | (go_at_call 18; ((with_reducible refine (bytes_all nn ln Q _ hnn hln HQZ.out).mono ?_); rintro e' wN ⟨⟨g3, rfl, hR3, hge3⟩, hb⟩; (try have hb := undrew hb); have hsz3 := HT.size; replace hI := hI.keep (hb.block _ hI.lent.lt); replace hF := Fresh.then hF (hb.block gB (h.lt gB (Or.inr (Or.inr (Or.inl rfl))))); replace h := h.below hb; replace G1 := G1.below hb G1.lt; clear HY; have HY := cells8 G1; replace HT := HT.then hb))
    | (go_at_call 45; ((with_reducible refine (kept_q (bytesL nn Q) Q (bytesL_len nn Q) _ _ _ _ hI hR3 (by omega)).mono ?_); rintro e' wN ⟨rfl, hb⟩; replace hI := hI.keep (hb.block _ hI.lent.lt); replace hF := Fresh.then hF (hb.block gB (h.lt gB (Or.inr (Or.inr (Or.inl rfl))))); (try have hb := undrew hb); replace h := h.below hb; replace G1 := G1.below hb G1.lt; clear HY; have HY := cells8 G1; replace HT := HT.then hb))
    | (go_at_call 42; ((with_reducible refine (over_q Q _ _ _ _ _ hI.own (by have := HT.size; have := (hv9 g0 rfl).1; have := hI.lent.lt; omega) (by omega)).mono ?_); rintro e' wN ⟨⟨v, rfl⟩, hgr⟩; replace h := Two.over H0.out h _ hF hG1c hv9 hgr; replace HT := tch_over HT hgr (fun g e => (hv9 g e).1); clear hI hgr)))
  go_ret
  exact ⟨rfl, ⟨S, h, HSG⟩, HT⟩
set_option maxRecDepth 100000 in
set_option maxHeartbeats 8000000 in
theorem done_erase (L m gx gb : Nat) (Af : Option Addr) (nf cf mR gB gN gW gD : Nat) (AfR : Option Addr) (nfR cfR : Nat) (a b c d e : Int) (fs : List Flt) (dd px py : Int) (nn : Nat) (ln co cb : Int) (cu : Nat) (n : Int) (w : World) (s : ChS) (h0 : Two w L m gx gb Af nf cf mR gB gN gW gD AfR nfR cfR a b c d e fs s s) (hg : Good s n) (hn : n ≤ 800000000) (hn0 : 20 ≤ n) (hnn : nn < 256) (hln : i64in ln) (hcf : cu < 256) (hd : dd = 2) : Calls Try.prog 13 #[.pointer (some ⟨m, 0, none⟩), .pointer (some ⟨mR, 0, none⟩), .agg #[.int .i64 dd, .int .i64 px, .int .i64 py, .int .u8 (nn : Int), .int .i64 ln, .int .i64 co, .int .i64 cb, .int .u8 (cu : Int)]] w fun e' w' => e' = .returned (.bool true) ∧ (∃ S, Two w' L m gx gb Af nf cf mR gB gN gW gD AfR nfR cfR a b c d e fs S S ∧ Hid (Good S (n + 3))) ∧ Tch (twB m gx gb mR gB gN gW gD) w w' := by
  have HB0 : Below w.heap.size w (w.alloc (.cells #[.int .i64 dd, .int .i64 px, .int .i64 py, .int .u8 (nn : Int), .int .i64 ln, .int .i64 co, .int .i64 cb, .int .u8 (cu : Int)] 37)) := (Below.refl _ _).alloc (Nat.le_refl _) _
  have G1 : Blk (w.alloc (.cells #[.int .i64 dd, .int .i64 px, .int .i64 py, .int .u8 (nn : Int), .int .i64 ln, .int .i64 co, .int .i64 cb, .int .u8 (cu : Int)] 37)) w.heap.size 37 #[.int .i64 dd, .int .i64 px, .int .i64 py, .int .u8 (nn : Int), .int .i64 ln, .int .i64 co, .int .i64 cb, .int .u8 (cu : Int)] := Blk.new_ _ _ _
  have HY := cells8 G1
  have hno : ¬ twB m gx gb mR gB gN gW gD w.heap.size := fun e => by have := h0.lt _ e; omega
  have h := h0.below HB0
  have HT : Tch (twB m gx gb mR gB gN gW gD) w (w.alloc (.cells #[.int .i64 dd, .int .i64 px, .int .i64 py, .int .u8 (nn : Int), .int .i64 ln, .int .i64 co, .int .i64 cb, .int .u8 (cu : Int)] 37)) := Tch.of_below HB0
  have hcS : ∀ g, chB m gx gb g → g < w.heap.size := fun g e => h0.lt g (Or.inl e)
  have hrS : ∀ g, rfB mR gB gN gW gD g → g < w.heap.size := fun g e => h0.lt g (Or.inr e)
  have HCS := Lib.hid hcS
  have HRS := Lib.hid hrS
  have H0 := Lib.hid h0
  have HG := Lib.hid hg
  have hfi := hg.fine
  have hwt := hg.wt
  have hgc : ¬ chB m gx gb gB := fun e => by have := h0.cl.low _ e; have := h0.rl.ge gB (Or.inr (Or.inl rfl)); omega
  clear hcS hrS h0 hg HB0
  subst hd
  obtain ⟨Z, hZ1⟩ : ∃ Z, s.eraseZ a fs px = Z := ⟨_, rfl⟩
  obtain ⟨S, hZ4⟩ : ∃ S, s.eraseS a b c fs px = S := ⟨_, rfl⟩
  have HZ := Lib.hid (And.intro hZ1 hZ4)
  have HSG : Hid (Good S (n + 3)) := Lib.hid (hZ4 ▸ Good.erase h.cl.chip HG.out hn0 px)
  clear hZ1 hZ4
  go_enter Try.func13, Try.ntmps13
  go_upto_region 16 with fail
  refine wp_region_noPanic ?_
  refine wp_region_held_drew (S := (fun w' => w'.cell? ⟨w.heap.size, 0, none⟩ = some (.int .i64 2) ∧ w'.cell? ⟨w.heap.size, 1, none⟩ = some (.int .i64 px) ∧ w'.cell? ⟨w.heap.size, 2, none⟩ = some (.int .i64 py) ∧ w'.cell? ⟨w.heap.size, 3, none⟩ = some (.int .u8 (nn : Int)) ∧ w'.cell? ⟨w.heap.size, 4, none⟩ = some (.int .i64 ln) ∧ w'.cell? ⟨w.heap.size, 5, none⟩ = some (.int .i64 co) ∧ w'.cell? ⟨w.heap.size, 6, none⟩ = some (.int .i64 cb) ∧ w'.cell? ⟨w.heap.size, 7, none⟩ = some (.int .u8 (cu : Int)))) (by kernel_rfl) ?_ (fun hHeld => ?_)
  · (first | exact HY | assumption)
  refine wpAnyH_take (i := 0) (oi := ⟨some 86, .move (.tmp 0), 27, "law.go:75", #[], none⟩) (v := ?_) rfl (by kernel_rfl) (by kernel_rfl) (by kernel_rfl) (fun _ _ _ h => h) (Or.inl ⟨by rfl, ?_⟩) (by assumption) ?_
  rotate_left
  · (intro wS hSw; (try dsimp only at hSw); go_simp; (try with_reducible rfl))
  try simp only [Act.put, pz1, pz2, pz3]
  refine wpAnyH_take (i := 1) (oi := ⟨some 87, .fieldAddr 37 (.tmp 5) 1, 0, "law.go:75", #[], none⟩) (v := ?_) rfl (by kernel_rfl) (by kernel_rfl) (by kernel_rfl) (fun _ _ _ h => h) (Or.inl ⟨by rfl, ?_⟩) (by assumption) ?_
  rotate_left
  · (intro wS hSw; (try dsimp only at hSw); go_simp; (try with_reducible rfl))
  try simp only [Act.put, pz1, pz2, pz3]
  refine wpAnyH_take (i := 2) (oi := ⟨some 88, .fieldAddr 33 (.tmp 87) 0, 0, "law.go:75", #[⟨1, .data⟩], none⟩) (v := ?_) rfl (by kernel_rfl) (by kernel_rfl) (by kernel_rfl) (fun _ _ _ h => h) (Or.inl ⟨by rfl, ?_⟩) (by assumption) ?_
  rotate_left
  · (intro wS hSw; (try dsimp only at hSw); go_simp; (try with_reducible rfl))
  try simp only [Act.put, pz1, pz2, pz3]
  refine wpAnyH_take (i := 3) (oi := ⟨some 89, .load 3 (.tmp 88), 3, "law.go:75", #[⟨2, .data⟩], none⟩) (v := ?_) rfl (by kernel_rfl) (by kernel_rfl) (by kernel_rfl) (fun _ _ _ h => h) (Or.inl ⟨by rfl, ?_⟩) (by assumption) ?_
  rotate_left
  · (intro wS hSw; (try dsimp only at hSw); go_simp; (try with_reducible rfl))
  try simp only [Act.put, pz1, pz2, pz3]
  refine wpAnyH_take (i := 6) (oi := ⟨some 92, .move (.tmp 1), 29, "law.go:75", #[], none⟩) (v := ?_) rfl (by kernel_rfl) (by kernel_rfl) (by kernel_rfl) (fun _ _ _ h => h) (Or.inl ⟨by rfl, ?_⟩) (by assumption) ?_
  rotate_left
  · (intro wS hSw; (try dsimp only at hSw); go_simp; (try with_reducible rfl))
  try simp only [Act.put, pz1, pz2, pz3]
  refine wpAnyH_take (i := 7) (oi := ⟨some 93, .fieldAddr 37 (.tmp 5) 1, 0, "law.go:75", #[], none⟩) (v := ?_) rfl (by kernel_rfl) (by kernel_rfl) (by kernel_rfl) (fun _ _ _ h => h) (Or.inl ⟨by rfl, ?_⟩) (by assumption) ?_
  rotate_left
  · (intro wS hSw; (try dsimp only at hSw); go_simp; (try with_reducible rfl))
  try simp only [Act.put, pz1, pz2, pz3]
  refine wpAnyH_take (i := 8) (oi := ⟨some 94, .fieldAddr 33 (.tmp 93) 0, 0, "law.go:75", #[⟨7, .data⟩], none⟩) (v := ?_) rfl (by kernel_rfl) (by kernel_rfl) (by kernel_rfl) (fun _ _ _ h => h) (Or.inl ⟨by rfl, ?_⟩) (by assumption) ?_
  rotate_left
  · (intro wS hSw; (try dsimp only at hSw); go_simp; (try with_reducible rfl))
  try simp only [Act.put, pz1, pz2, pz3]
  refine wpAnyH_take (i := 9) (oi := ⟨some 95, .load 3 (.tmp 94), 3, "law.go:75", #[⟨8, .data⟩], none⟩) (v := ?_) rfl (by kernel_rfl) (by kernel_rfl) (by kernel_rfl) (fun _ _ _ h => h) (Or.inl ⟨by rfl, ?_⟩) (by assumption) ?_
  rotate_left
  · (intro wS hSw; (try dsimp only at hSw); go_simp; (try with_reducible rfl))
  try simp only [Act.put, pz1, pz2, pz3]
  refine wpAnyH_ready (rs := [4]) (by kernel_rfl) (by simp) ?_
  refine AllReadyH.cons (o := ⟨some 90, .call { callee := .value (.func 22), args := #[.tmp 86, .tmp 89], argTypes := #[27, 3] }, 46, "law.go:75", #[⟨0, .data⟩, ⟨3, .data⟩], none⟩) rfl (fun K hK => ?_) AllReadyH.nil
  go_simp
  (first | (go_at_call 22; ((with_reducible refine (tw_erase _ _ _ _ _ _ _ _ _ _ _ _ _ _ _ _ _ _ _ _ _ px n _ s s (by first | exact h | exact Two.drew h) hfi (by omega) Z S HZ).mono ?_); rintro e' wN ⟨rfl, h2, hT⟩; replace G1 := hT.blk G1 (fun e => hno (Or.inl e)); clear h HY; have h := h2; clear h2; have HY := cells8 G1; replace HT := (by first | exact HT.trans (tw_c hT) | exact tch_dr HT (tw_c hT)); clear hT)) | (go_at_call 41; ((with_reducible refine (num_any _ _).mono ?_); rintro e' wN ⟨rfl, rfl⟩; skip)) | (go_at_call 46; ((with_reducible refine (tw_rerase _ _ _ _ _ _ _ _ _ _ _ _ _ _ _ _ _ _ _ _ _ px n _ S s (by first | exact h | exact Two.drew h) hfi (by omega) hn0 hwt Z S HZ).mono ?_); rintro e' wN ⟨rfl, h2, hT⟩; replace G1 := hT.blk G1 (fun e => hno (Or.inr e)); clear h HY; have h := h2; clear h2; have HY := cells8 G1; replace HT := (by first | exact HT.trans (tw_f hT) | exact tch_dr HT (tw_f hT)); clear hT)))
  go_wp2_with fail
  refine hK.out _ _ ?_ (fun hNew => ?_)
  · (first | exact HY | assumption)
  clear hK K hHeld
  have hHeld := hNew
  clear hNew
  try simp only [Act.put, pz1, pz2, pz3]
  refine wpAnyH_ready (rs := [5]) (by kernel_rfl) (by simp) ?_
  refine AllReadyH.cons (o := ⟨some 91, .call { callee := .value (.func 41), args := #[.tmp 90], argTypes := #[46] }, 3, "law.go:75", #[⟨4, .data⟩, ⟨4, .chain⟩], none⟩) rfl (fun K hK => ?_) AllReadyH.nil
  go_simp
  (first | (go_at_call 22; ((with_reducible refine (tw_erase _ _ _ _ _ _ _ _ _ _ _ _ _ _ _ _ _ _ _ _ _ px n _ s s (by first | exact h | exact Two.drew h) hfi (by omega) Z S HZ).mono ?_); rintro e' wN ⟨rfl, h2, hT⟩; replace G1 := hT.blk G1 (fun e => hno (Or.inl e)); clear h HY; have h := h2; clear h2; have HY := cells8 G1; replace HT := (by first | exact HT.trans (tw_c hT) | exact tch_dr HT (tw_c hT)); clear hT)) | (go_at_call 41; ((with_reducible refine (num_any _ _).mono ?_); rintro e' wN ⟨rfl, rfl⟩; skip)) | (go_at_call 46; ((with_reducible refine (tw_rerase _ _ _ _ _ _ _ _ _ _ _ _ _ _ _ _ _ _ _ _ _ px n _ S s (by first | exact h | exact Two.drew h) hfi (by omega) hn0 hwt Z S HZ).mono ?_); rintro e' wN ⟨rfl, h2, hT⟩; replace G1 := hT.blk G1 (fun e => hno (Or.inr e)); clear h HY; have h := h2; clear h2; have HY := cells8 G1; replace HT := (by first | exact HT.trans (tw_f hT) | exact tch_dr HT (tw_f hT)); clear hT)))
  go_wp2_with fail
  refine hK.out _ _ ?_ (fun hNew => ?_)
  · (first | exact HY | assumption)
  clear hK K hHeld
  have hHeld := hNew
  clear hNew
  try simp only [Act.put, pz1, pz2, pz3]
  refine wpAnyH_ready (rs := [10]) (by kernel_rfl) (by simp) ?_
  refine AllReadyH.cons (o := ⟨some 96, .call { callee := .value (.func 46), args := #[.tmp 92, .tmp 95], argTypes := #[29, 3] }, 3, "law.go:75", #[⟨6, .data⟩, ⟨9, .data⟩, ⟨5, .chain⟩], none⟩) rfl (fun K hK => ?_) AllReadyH.nil
  go_simp
  (first | (go_at_call 22; ((with_reducible refine (tw_erase _ _ _ _ _ _ _ _ _ _ _ _ _ _ _ _ _ _ _ _ _ px n _ s s (by first | exact h | exact Two.drew h) hfi (by omega) Z S HZ).mono ?_); rintro e' wN ⟨rfl, h2, hT⟩; replace G1 := hT.blk G1 (fun e => hno (Or.inl e)); clear h HY; have h := h2; clear h2; have HY := cells8 G1; replace HT := (by first | exact HT.trans (tw_c hT) | exact tch_dr HT (tw_c hT)); clear hT)) | (go_at_call 41; ((with_reducible refine (num_any _ _).mono ?_); rintro e' wN ⟨rfl, rfl⟩; skip)) | (go_at_call 46; ((with_reducible refine (tw_rerase _ _ _ _ _ _ _ _ _ _ _ _ _ _ _ _ _ _ _ _ _ px n _ S s (by first | exact h | exact Two.drew h) hfi (by omega) hn0 hwt Z S HZ).mono ?_); rintro e' wN ⟨rfl, h2, hT⟩; replace G1 := hT.blk G1 (fun e => hno (Or.inr e)); clear h HY; have h := h2; clear h2; have HY := cells8 G1; replace HT := (by first | exact HT.trans (tw_f hT) | exact tch_dr HT (tw_f hT)); clear hT)))
  go_wp2_with fail
  refine hK.out _ _ ?_ (fun hNew => ?_)
  · (first | exact HY | assumption)
  clear hK K hHeld
  have hHeld := hNew
  clear hNew
  try simp only [Act.put, pz1, pz2, pz3]
  refine wpAnyH_take (i := 11) (oi := ⟨some 97, .binOp .eql 3 (.tmp 91) (.tmp 96) 3, 4, "law.go:75", #[⟨5, .data⟩, ⟨10, .data⟩], none⟩) (v := ?_) rfl (by kernel_rfl) (by kernel_rfl) (by kernel_rfl) (fun _ _ _ h => h) (Or.inl ⟨by rfl, ?_⟩) (by assumption) ?_
  rotate_left
  · (intro wS hSw; (try dsimp only at hSw); go_simp; (try with_reducible rfl))
  try simp only [Act.put, pz1, pz2, pz3]
  refine wpAnyH_take (i := 12) (oi := ⟨some 6, .assign (.tmp 97), 4, "law.go:75", #[⟨11, .data⟩, ⟨10, .chain⟩, ⟨0, .phase⟩, ⟨1, .phase⟩, ⟨2, .phase⟩, ⟨3, .phase⟩, ⟨4, .phase⟩, ⟨5, .phase⟩, ⟨6, .phase⟩, ⟨7, .phase⟩, ⟨8, .phase⟩, ⟨9, .phase⟩, ⟨10, .phase⟩, ⟨11, .phase⟩], none⟩) (v := ?_) rfl (by kernel_rfl) (by kernel_rfl) (by kernel_rfl) (fun _ _ _ h => h) (Or.inl ⟨by rfl, ?_⟩) (by assumption) ?_
  rotate_left
  · (intro wS hSw; (try dsimp only at hSw); go_simp; (try with_reducible rfl))
  try simp only [Act.put, pz1, pz2, pz3]
  refine wpAnyH_done (by kernel_rfl) ?_ _
  refine NoPanic.normal ?_
  go_wp2_with fail
  go_ret
  exact ⟨rfl, ⟨S, h, HSG⟩, HT⟩
set_option maxRecDepth 100000 in
set_option maxHeartbeats 8000000 in
theorem done_arm (L m gx gb : Nat) (Af : Option Addr) (nf cf mR gB gN gW gD : Nat) (AfR : Option Addr) (nfR cfR : Nat) (a b c d e : Int) (fs : List Flt) (dd px py : Int) (nn : Nat) (ln co cb : Int) (cu : Nat) (n : Int) (w : World) (s : ChS) (h0 : Two w L m gx gb Af nf cf mR gB gN gW gD AfR nfR cfR a b c d e fs s s) (hg : Good s n) (hn : n ≤ 800000000) (hn0 : 20 ≤ n) (hnn : nn < 256) (hln : i64in ln) (hcf : cu < 256) (hd : dd = 3) : Calls Try.prog 13 #[.pointer (some ⟨m, 0, none⟩), .pointer (some ⟨mR, 0, none⟩), .agg #[.int .i64 dd, .int .i64 px, .int .i64 py, .int .u8 (nn : Int), .int .i64 ln, .int .i64 co, .int .i64 cb, .int .u8 (cu : Int)]] w fun e' w' => e' = .returned (.bool true) ∧ (∃ S, Two w' L m gx gb Af nf cf mR gB gN gW gD AfR nfR cfR a b c d e fs S S ∧ Hid (Good S (n + 3))) ∧ Tch (twB m gx gb mR gB gN gW gD) w w' := by
  have HB0 : Below w.heap.size w (w.alloc (.cells #[.int .i64 dd, .int .i64 px, .int .i64 py, .int .u8 (nn : Int), .int .i64 ln, .int .i64 co, .int .i64 cb, .int .u8 (cu : Int)] 37)) := (Below.refl _ _).alloc (Nat.le_refl _) _
  have G1 : Blk (w.alloc (.cells #[.int .i64 dd, .int .i64 px, .int .i64 py, .int .u8 (nn : Int), .int .i64 ln, .int .i64 co, .int .i64 cb, .int .u8 (cu : Int)] 37)) w.heap.size 37 #[.int .i64 dd, .int .i64 px, .int .i64 py, .int .u8 (nn : Int), .int .i64 ln, .int .i64 co, .int .i64 cb, .int .u8 (cu : Int)] := Blk.new_ _ _ _
  have HY := cells8 G1
  have hno : ¬ twB m gx gb mR gB gN gW gD w.heap.size := fun e => by have := h0.lt _ e; omega
  have h := h0.below HB0
  have HT : Tch (twB m gx gb mR gB gN gW gD) w (w.alloc (.cells #[.int .i64 dd, .int .i64 px, .int .i64 py, .int .u8 (nn : Int), .int .i64 ln, .int .i64 co, .int .i64 cb, .int .u8 (cu : Int)] 37)) := Tch.of_below HB0
  have hcS : ∀ g, chB m gx gb g → g < w.heap.size := fun g e => h0.lt g (Or.inl e)
  have hrS : ∀ g, rfB mR gB gN gW gD g → g < w.heap.size := fun g e => h0.lt g (Or.inr e)
  have HCS := Lib.hid hcS
  have HRS := Lib.hid hrS
  have H0 := Lib.hid h0
  have HG := Lib.hid hg
  have hfi := hg.fine
  have hwt := hg.wt
  have hgc : ¬ chB m gx gb gB := fun e => by have := h0.cl.low _ e; have := h0.rl.ge gB (Or.inr (Or.inl rfl)); omega
  clear hcS hrS h0 hg HB0
  subst hd
  obtain ⟨Z, hZ1⟩ : ∃ Z, s.armC co cb = Z := ⟨_, rfl⟩
  obtain ⟨S, hZ4⟩ : ∃ S, s.arm co cb cu = S := ⟨_, rfl⟩
  have HZ := Lib.hid (And.intro hZ1 hZ4)
  have HSG : Hid (Good S (n + 3)) := Lib.hid (hZ4 ▸ Good.arm HG.out (by omega) co cb cu hcf)
  clear hZ1 hZ4
  go_enter Try.func13, Try.ntmps13
  go_upto_region 18 with fail
  refine wp_region_noPanic ?_
  refine wp_region_held_drew (S := (fun w' => w'.cell? ⟨w.heap.size, 0, none⟩ = some (.int .i64 3) ∧ w'.cell? ⟨w.heap.size, 1, none⟩ = some (.int .i64 px) ∧ w'.cell? ⟨w.heap.size, 2, none⟩ = some (.int .i64 py) ∧ w'.cell? ⟨w.heap.size, 3, none⟩ = some (.int .u8 (nn : Int)) ∧ w'.cell? ⟨w.heap.size, 4, none⟩ = some (.int .i64 ln) ∧ w'.cell? ⟨w.heap.size, 5, none⟩ = some (.int .i64 co) ∧ w'.cell? ⟨w.heap.size, 6, none⟩ = some (.int .i64 cb) ∧ w'.cell? ⟨w.heap.size, 7, none⟩ = some (.int .u8 (cu : Int)))) (by kernel_rfl) ?_ (fun hHeld => ?_)
  · (first | exact HY | assumption)
  refine wpAnyH_take (i := 0) (oi := ⟨some 100, .move (.tmp 0), 27, "law.go:77", #[], none⟩) (v := ?_) rfl (by kernel_rfl) (by kernel_rfl) (by kernel_rfl) (fun _ _ _ h => h) (Or.inl ⟨by rfl, ?_⟩) (by assumption) ?_
  rotate_left
  · (intro wS hSw; (try dsimp only at hSw); go_simp; (try with_reducible rfl))
  try simp only [Act.put, pz1, pz2, pz3]
  refine wpAnyH_take (i := 1) (oi := ⟨some 101, .fieldAddr 37 (.tmp 5) 4, 0, "law.go:77", #[], none⟩) (v := ?_) rfl (by kernel_rfl) (by kernel_rfl) (by kernel_rfl) (fun _ _ _ h => h) (Or.inl ⟨by rfl, ?_⟩) (by assumption) ?_
  rotate_left
  · (intro wS hSw; (try dsimp only at hSw); go_simp; (try with_reducible rfl))
  try simp only [Act.put, pz1, pz2, pz3]
  refine wpAnyH_take (i := 2) (oi := ⟨some 102, .load 35 (.tmp 101), 35, "law.go:77", #[⟨1, .data⟩], none⟩) (v := ?_) rfl (by kernel_rfl) (by kernel_rfl) (by kernel_rfl) (fun _ _ _ h => h) (Or.inl ⟨by rfl, ?_⟩) (by assumption) ?_
  rotate_left
  · (intro wS hSw; (try dsimp only at hSw); go_simp; (try with_reducible rfl))
  try simp only [Act.put, pz1, pz2, pz3]
  refine wpAnyH_take (i := 5) (oi := ⟨some 105, .move (.tmp 1), 29, "law.go:77", #[], none⟩) (v := ?_) rfl (by kernel_rfl) (by kernel_rfl) (by kernel_rfl) (fun _ _ _ h => h) (Or.inl ⟨by rfl, ?_⟩) (by assumption) ?_
  rotate_left
  · (intro wS hSw; (try dsimp only at hSw); go_simp; (try with_reducible rfl))
  try simp only [Act.put, pz1, pz2, pz3]
  refine wpAnyH_take (i := 6) (oi := ⟨some 106, .fieldAddr 37 (.tmp 5) 4, 0, "law.go:77", #[], none⟩) (v := ?_) rfl (by kernel_rfl) (by kernel_rfl) (by kernel_rfl) (fun _ _ _ h => h) (Or.inl ⟨by rfl, ?_⟩) (by assumption) ?_
  rotate_left
  · (intro wS hSw; (try dsimp only at hSw); go_simp; (try with_reducible rfl))
  try simp only [Act.put, pz1, pz2, pz3]
  refine wpAnyH_take (i := 7) (oi := ⟨some 107, .load 35 (.tmp 106), 35, "law.go:77", #[⟨6, .data⟩], none⟩) (v := ?_) rfl (by kernel_rfl) (by kernel_rfl) (by kernel_rfl) (fun _ _ _ h => h) (Or.inl ⟨by rfl, ?_⟩) (by assumption) ?_
  rotate_left
  · (intro wS hSw; (try dsimp only at hSw); go_simp; (try with_reducible rfl))
  try simp only [Act.put, pz1, pz2, pz3]
  refine wpAnyH_ready (rs := [3]) (by kernel_rfl) (by simp) ?_
  refine AllReadyH.cons (o := ⟨some 103, .call { callee := .value (.func 24), args := #[.tmp 100, .tmp 102], argTypes := #[27, 35] }, 46, "law.go:77", #[⟨0, .data⟩, ⟨2, .data⟩], none⟩) rfl (fun K hK => ?_) AllReadyH.nil
  go_simp
  (first | (go_at_call 24; ((with_reducible refine (tw_arm _ _ _ _ _ _ _ _ _ _ _ _ _ _ _ _ _ _ _ _ _ co cb cu n _ s s (by first | exact h | exact Two.drew h) hfi (by omega) Z S HZ).mono ?_); rintro e' wN ⟨rfl, h2, hT⟩; replace G1 := hT.blk G1 (fun e => hno (Or.inl e)); clear h HY; have h := h2; clear h2; have HY := cells8 G1; replace HT := (by first | exact HT.trans (tw_c hT) | exact tch_dr HT (tw_c hT)); clear hT)) | (go_at_call 41; ((with_reducible refine (num_any _ _).mono ?_); rintro e' wN ⟨rfl, rfl⟩; skip)) | (go_at_call 47; ((with_reducible refine (tw_rarm _ _ _ _ _ _ _ _ _ _ _ _ _ _ _ _ _ _ _ _ _ co cb cu _ S s (by first | exact h | exact Two.drew h) Z S HZ).mono ?_); rintro e' wN ⟨rfl, h2, hT⟩; replace G1 := hT.blk G1 (fun e => hno (Or.inr e)); clear h HY; have h := h2; clear h2; have HY := cells8 G1; replace HT := (by first | exact HT.trans (tw_f hT) | exact tch_dr HT (tw_f hT)); clear hT)))
  go_wp2_with fail
  refine hK.out _ _ ?_ (fun hNew => ?_)
  · (first | exact HY | assumption)
  clear hK K hHeld
  have hHeld := hNew
  clear hNew
  try simp only [Act.put, pz1, pz2, pz3]
  refine wpAnyH_ready (rs := [4]) (by kernel_rfl) (by simp) ?_
  refine AllReadyH.cons (o := ⟨some 104, .call { callee := .value (.func 41), args := #[.tmp 103], argTypes := #[46] }, 3, "law.go:77", #[⟨3, .data⟩, ⟨3, .chain⟩], none⟩) rfl (fun K hK => ?_) AllReadyH.nil
  go_simp
  (first | (go_at_call 24; ((with_reducible refine (tw_arm _ _ _ _ _ _ _ _ _ _ _ _ _ _ _ _ _ _ _ _ _ co cb cu n _ s s (by first | exact h | exact Two.drew h) hfi (by omega) Z S HZ).mono ?_); rintro e' wN ⟨rfl, h2, hT⟩; replace G1 := hT.blk G1 (fun e => hno (Or.inl e)); clear h HY; have h := h2; clear h2; have HY := cells8 G1; replace HT := (by first | exact HT.trans (tw_c hT) | exact tch_dr HT (tw_c hT)); clear hT)) | (go_at_call 41; ((with_reducible refine (num_any _ _).mono ?_); rintro e' wN ⟨rfl, rfl⟩; skip)) | (go_at_call 47; ((with_reducible refine (tw_rarm _ _ _ _ _ _ _ _ _ _ _ _ _ _ _ _ _ _ _ _ _ co cb cu _ S s (by first | exact h | exact Two.drew h) Z S HZ).mono ?_); rintro e' wN ⟨rfl, h2, hT⟩; replace G1 := hT.blk G1 (fun e => hno (Or.inr e)); clear h HY; have h := h2; clear h2; have HY := cells8 G1; replace HT := (by first | exact HT.trans (tw_f hT) | exact tch_dr HT (tw_f hT)); clear hT)))
  go_wp2_with fail
  refine hK.out _ _ ?_ (fun hNew => ?_)
  · (first | exact HY | assumption)
  clear hK K hHeld
  have hHeld := hNew
  clear hNew
  try simp only [Act.put, pz1, pz2, pz3]
  refine wpAnyH_ready (rs := [8]) (by kernel_rfl) (by simp) ?_
  refine AllReadyH.cons (o := ⟨some 108, .call { callee := .value (.func 47), args := #[.tmp 105, .tmp 107], argTypes := #[29, 35] }, 3, "law.go:77", #[⟨5, .data⟩, ⟨7, .data⟩, ⟨4, .chain⟩], none⟩) rfl (fun K hK => ?_) AllReadyH.nil
  go_simp
  (first | (go_at_call 24; ((with_reducible refine (tw_arm _ _ _ _ _ _ _ _ _ _ _ _ _ _ _ _ _ _ _ _ _ co cb cu n _ s s (by first | exact h | exact Two.drew h) hfi (by omega) Z S HZ).mono ?_); rintro e' wN ⟨rfl, h2, hT⟩; replace G1 := hT.blk G1 (fun e => hno (Or.inl e)); clear h HY; have h := h2; clear h2; have HY := cells8 G1; replace HT := (by first | exact HT.trans (tw_c hT) | exact tch_dr HT (tw_c hT)); clear hT)) | (go_at_call 41; ((with_reducible refine (num_any _ _).mono ?_); rintro e' wN ⟨rfl, rfl⟩; skip)) | (go_at_call 47; ((with_reducible refine (tw_rarm _ _ _ _ _ _ _ _ _ _ _ _ _ _ _ _ _ _ _ _ _ co cb cu _ S s (by first | exact h | exact Two.drew h) Z S HZ).mono ?_); rintro e' wN ⟨rfl, h2, hT⟩; replace G1 := hT.blk G1 (fun e => hno (Or.inr e)); clear h HY; have h := h2; clear h2; have HY := cells8 G1; replace HT := (by first | exact HT.trans (tw_f hT) | exact tch_dr HT (tw_f hT)); clear hT)))
  go_wp2_with fail
  refine hK.out _ _ ?_ (fun hNew => ?_)
  · (first | exact HY | assumption)
  clear hK K hHeld
  have hHeld := hNew
  clear hNew
  try simp only [Act.put, pz1, pz2, pz3]
  refine wpAnyH_take (i := 9) (oi := ⟨some 109, .binOp .eql 3 (.tmp 104) (.tmp 108) 3, 4, "law.go:77", #[⟨4, .data⟩, ⟨8, .data⟩], none⟩) (v := ?_) rfl (by kernel_rfl) (by kernel_rfl) (by kernel_rfl) (fun _ _ _ h => h) (Or.inl ⟨by rfl, ?_⟩) (by assumption) ?_
  rotate_left
  · (intro wS hSw; (try dsimp only at hSw); go_simp; (try with_reducible rfl))
  try simp only [Act.put, pz1, pz2, pz3]
  refine wpAnyH_take (i := 10) (oi := ⟨some 6, .assign (.tmp 109), 4, "law.go:77", #[⟨9, .data⟩, ⟨8, .chain⟩, ⟨0, .phase⟩, ⟨1, .phase⟩, ⟨2, .phase⟩, ⟨3, .phase⟩, ⟨4, .phase⟩, ⟨5, .phase⟩, ⟨6, .phase⟩, ⟨7, .phase⟩, ⟨8, .phase⟩, ⟨9, .phase⟩], none⟩) (v := ?_) rfl (by kernel_rfl) (by kernel_rfl) (by kernel_rfl) (fun _ _ _ h => h) (Or.inl ⟨by rfl, ?_⟩) (by assumption) ?_
  rotate_left
  · (intro wS hSw; (try dsimp only at hSw); go_simp; (try with_reducible rfl))
  try simp only [Act.put, pz1, pz2, pz3]
  refine wpAnyH_done (by kernel_rfl) ?_ _
  refine NoPanic.normal ?_
  go_wp2_with fail
  go_ret
  exact ⟨rfl, ⟨S, h, HSG⟩, HT⟩
set_option maxRecDepth 100000 in
set_option maxHeartbeats 8000000 in
theorem done_boot (L m gx gb : Nat) (Af : Option Addr) (nf cf mR gB gN gW gD : Nat) (AfR : Option Addr) (nfR cfR : Nat) (a b c d e : Int) (fs : List Flt) (dd px py : Int) (nn : Nat) (ln co cb : Int) (cu : Nat) (n : Int) (w : World) (s : ChS) (h0 : Two w L m gx gb Af nf cf mR gB gN gW gD AfR nfR cfR a b c d e fs s s) (hg : Good s n) (hn : n ≤ 800000000) (hn0 : 20 ≤ n) (hnn : nn < 256) (hln : i64in ln) (hcf : cu < 256) (hd : dd = 4) : Calls Try.prog 13 #[.pointer (some ⟨m, 0, none⟩), .pointer (some ⟨mR, 0, none⟩), .agg #[.int .i64 dd, .int .i64 px, .int .i64 py, .int .u8 (nn : Int), .int .i64 ln, .int .i64 co, .int .i64 cb, .int .u8 (cu : Int)]] w fun e' w' => e' = .returned (.bool true) ∧ (∃ S, Two w' L m gx gb Af nf cf mR gB gN gW gD AfR nfR cfR a b c d e fs S S ∧ Hid (Good S (n + 3))) ∧ Tch (twB m gx gb mR gB gN gW gD) w w' := by
  have HB0 : Below w.heap.size w (w.alloc (.cells #[.int .i64 dd, .int .i64 px, .int .i64 py, .int .u8 (nn : Int), .int .i64 ln, .int .i64 co, .int .i64 cb, .int .u8 (cu : Int)] 37)) := (Below.refl _ _).alloc (Nat.le_refl _) _
  have G1 : Blk (w.alloc (.cells #[.int .i64 dd, .int .i64 px, .int .i64 py, .int .u8 (nn : Int), .int .i64 ln, .int .i64 co, .int .i64 cb, .int .u8 (cu : Int)] 37)) w.heap.size 37 #[.int .i64 dd, .int .i64 px, .int .i64 py, .int .u8 (nn : Int), .int .i64 ln, .int .i64 co, .int .i64 cb, .int .u8 (cu : Int)] := Blk.new_ _ _ _
  have HY := cells8 G1
  have hno : ¬ twB m gx gb mR gB gN gW gD w.heap.size := fun e => by have := h0.lt _ e; omega
  have h := h0.below HB0
  have HT : Tch (twB m gx gb mR gB gN gW gD) w (w.alloc (.cells #[.int .i64 dd, .int .i64 px, .int .i64 py, .int .u8 (nn : Int), .int .i64 ln, .int .i64 co, .int .i64 cb, .int .u8 (cu : Int)] 37)) := Tch.of_below HB0
  have hcS : ∀ g, chB m gx gb g → g < w.heap.size := fun g e => h0.lt g (Or.inl e)
  have hrS : ∀ g, rfB mR gB gN gW gD g → g < w.heap.size := fun g e => h0.lt g (Or.inr e)
  have HCS := Lib.hid hcS
  have HRS := Lib.hid hrS
  have H0 := Lib.hid h0
  have HG := Lib.hid hg
  have hfi := hg.fine
  have hwt := hg.wt
  have hgc : ¬ chB m gx gb gB := fun e => by have := h0.cl.low _ e; have := h0.rl.ge gB (Or.inr (Or.inl rfl)); omega
  clear hcS hrS h0 hg HB0
  subst hd
  obtain ⟨Z, hZ1⟩ : ∃ Z, s.bootC = Z := ⟨_, rfl⟩
  obtain ⟨S, hZ4⟩ : ∃ S, s.boot = S := ⟨_, rfl⟩
  have HZ := Lib.hid (And.intro hZ1 hZ4)
  have HSG : Hid (Good S (n + 3)) := Lib.hid (hZ4 ▸ Good.boot HG.out)
  clear hZ1 hZ4
  go_enter Try.func13, Try.ntmps13
  go_wp2_with (first | (go_at_call 27; ((with_reducible refine (tw_boot _ _ _ _ _ _ _ _ _ _ _ _ _ _ _ _ _ _ _ _ _ _ s s (by first | exact h | exact Two.drew h) Z S HZ).mono ?_); rintro e' wN ⟨rfl, h2, hT⟩; replace G1 := hT.blk G1 (fun e => hno (Or.inl e)); clear h HY; have h := h2; clear h2; have HY := cells8 G1; replace HT := (by first | exact HT.trans (tw_c hT) | exact tch_dr HT (tw_c hT)); clear hT)) | (go_at_call 41; ((with_reducible refine (num_any _ _).mono ?_); rintro e' wN ⟨rfl, rfl⟩; skip)) | (go_at_call 48; ((with_reducible refine (tw_rboot _ _ _ _ _ _ _ _ _ _ _ _ _ _ _ _ _ _ _ _ _ _ S s (by first | exact h | exact Two.drew h) Z S HZ).mono ?_); rintro e' wN ⟨rfl, h2, hT⟩; replace G1 := hT.blk G1 (fun e => hno (Or.inr e)); clear h HY; have h := h2; clear h2; have HY := cells8 G1; replace HT := (by first | exact HT.trans (tw_f hT) | exact tch_dr HT (tw_f hT)); clear hT)))
  go_ret
  exact ⟨rfl, ⟨S, h, HSG⟩, HT⟩
theorem done_any (L m gx gb : Nat) (Af : Option Addr) (nf cf mR gB gN gW gD : Nat) (AfR : Option Addr) (nfR cfR : Nat) (a b c d e : Int) (fs : List Flt) (dd px py : Int) (nn : Nat) (ln co cb : Int) (cu : Nat) (n : Int) (w : World) (s : ChS) (h0 : Two w L m gx gb Af nf cf mR gB gN gW gD AfR nfR cfR a b c d e fs s s) (hg : Good s n) (hn : n ≤ 800000000) (hn0 : 20 ≤ n) (hnn : nn < 256) (hln : i64in ln) (hcf : cu < 256) : Calls Try.prog 13 #[.pointer (some ⟨m, 0, none⟩), .pointer (some ⟨mR, 0, none⟩), .agg #[.int .i64 dd, .int .i64 px, .int .i64 py, .int .u8 (nn : Int), .int .i64 ln, .int .i64 co, .int .i64 cb, .int .u8 (cu : Int)]] w fun e' w' => e' = .returned (.bool true) ∧ (∃ S, Two w' L m gx gb Af nf cf mR gB gN gW gD AfR nfR cfR a b c d e fs S S ∧ Hid (Good S (n + 3))) ∧ Tch (twB m gx gb mR gB gN gW gD) w w' := by
  by_cases d0 : dd = 0
  · exact done_read L m gx gb Af nf cf mR gB gN gW gD AfR nfR cfR a b c d e fs dd px py nn ln co cb cu n w s h0 hg hn hn0 hnn hln hcf d0
  by_cases d1 : dd = 1
  · exact done_prog L m gx gb Af nf cf mR gB gN gW gD AfR nfR cfR a b c d e fs dd px py nn ln co cb cu n w s h0 hg hn hn0 hnn hln hcf d1
  by_cases d2 : dd = 2
  · exact done_erase L m gx gb Af nf cf mR gB gN gW gD AfR nfR cfR a b c d e fs dd px py nn ln co cb cu n w s h0 hg hn hn0 hnn hln hcf d2
  by_cases d3 : dd = 3
  · exact done_arm L m gx gb Af nf cf mR gB gN gW gD AfR nfR cfR a b c d e fs dd px py nn ln co cb cu n w s h0 hg hn hn0 hnn hln hcf d3
  by_cases d4 : dd = 4
  · exact done_boot L m gx gb Af nf cf mR gB gN gW gD AfR nfR cfR a b c d e fs dd px py nn ln co cb cu n w s h0 hg hn hn0 hnn hln hcf d4
  exact done_else L m gx gb Af nf cf mR gB gN gW gD AfR nfR cfR a b c d e fs dd px py nn ln co cb cu n w s h0 hg hn hn0 hnn hln hcf ⟨d0, d1, d2, d3, d4⟩
end Go.Proofs.Ytplniojeaodjiaa
namespace Go.Proofs.Ytplniojeaodjiaa
open Go.ChangeShapes Go.WideShapes Go.ChangeAt Go.RowKit
set_option linter.unusedSimpArgs false
set_option linter.unusedVariables false

theorem geometry_any (m gx gb : Nat) (Af : Option Addr) (nf cf : Nat) (a b c d e : Int) (fs : List Flt) (w : World) (s : ChS) (hC : ChipW w m gx gb Af nf cf a b c d e fs s) : Calls Try.prog 31 #[.pointer (some ⟨m, 0, none⟩)] w fun e' w' => e' = .returned (.agg #[.int .i64 a, .int .i64 b, .int .i64 c, .int .i64 d, .int .i64 e]) ∧ Below w.heap.size w w' := by
  obtain ⟨cx, cb, NX, NB, hX, hN, hcx, hB⟩ := hC.blk
  have hB := hB.alloc_ (.cells #[.int .i64 0, .int .i64 0, .int .i64 0, .int .i64 0, .int .i64 0] 23)
  have HB0 : Below w.heap.size w (w.alloc (.cells #[.int .i64 0, .int .i64 0, .int .i64 0, .int .i64 0, .int .i64 0] 23)) := (Below.refl _ _).alloc (Nat.le_refl _) _
  have y0 := hB.cell_ 0; have y1 := hB.cell_ 1; have y2 := hB.cell_ 2; have y3 := hB.cell_ 3; have y4 := hB.cell_ 4
  simp at y0 y1 y2 y3 y4
  clear hC hB hX hN hcx
  go_enter Try.func31, Try.ntmps31
  go_wp2_with fail
  refine bodyPost_ret (v := .agg #[.int .i64 a, .int .i64 b, .int .i64 c, .int .i64 d, .int .i64 e]) (by simp [results, Try.results31, go_sem]) rfl ⟨rfl, ?_⟩
  exact (Below.refl _ _).alloc (Nat.le_refl _) _
theorem wear_v (m gx gb : Nat) (Af : Option Addr) (nf cf : Nat) (a b c d e : Int) (fs : List Flt) (B : Int) (W : Int) (w : World) (s : ChS) (hC : ChipW w m gx gb Af nf cf a b c d e fs s) (hv : Hid (s.ask a B 1 = W)) : Calls Try.prog 23 #[.pointer (some ⟨m, 0, none⟩), .int .i64 B] w fun e' w' => e' = .returned (.int .i64 W) ∧ w = w' := by
  have := wear_any m gx gb Af nf cf a b c d e fs B w s hC
  rwa [hv.out] at this
theorem used_v (m gx gb : Nat) (Af : Option Addr) (nf cf : Nat) (a b c d e : Int) (fs : List Flt) (B : Int) (W : Int) (w : World) (s : ChS) (hC : ChipW w m gx gb Af nf cf a b c d e fs s) (hv : Hid (s.ask a B 0 = W)) : Calls Try.prog 21 #[.pointer (some ⟨m, 0, none⟩), .int .i64 B] w fun e' w' => e' = .returned (.int .i64 W) ∧ w = w' := by
  have := used_any m gx gb Af nf cf a b c d e fs B w s hC
  rwa [hv.out] at this
theorem fail_v (m gx gb : Nat) (Af : Option Addr) (nf cf : Nat) (a b c d e : Int) (fs : List Flt) (B : Int) (W : Bool) (w : World) (s : ChS) (hC : ChipW w m gx gb Af nf cf a b c d e fs s) (hv : Hid (failedB a fs s B = W)) : Calls Try.prog 29 #[.pointer (some ⟨m, 0, none⟩), .int .i64 B] w fun e' w' => e' = .returned (.bool W) ∧ Below w.heap.size w w' := by
  have := failed_any m gx gb Af nf cf a b c d e fs B w s hC
  rwa [hv.out] at this
theorem bad_v (m gx gb : Nat) (Af : Option Addr) (nf cf : Nat) (a b c d e : Int) (fs : List Flt) (B : Int) (W : Bool) (w : World) (s : ChS) (hC : ChipW w m gx gb Af nf cf a b c d e fs s) (hv : Hid (badB fs B = W)) : Calls Try.prog 30 #[.pointer (some ⟨m, 0, none⟩), .int .i64 B] w fun e' w' => e' = .returned (.bool W) ∧ Below w.heap.size w w' := by
  have := bad_any m gx gb Af nf cf a b c d e fs B w s hC
  rwa [hv.out] at this
theorem rfail_v (m gB gN gW gD L : Nat) (Af : Option Addr) (nf cf : Nat) (a b c d e : Int) (fs : List Flt) (B : Int) (W : Bool) (w : World) (s : ChS) (hC : RefW w m gB gN gW gD L Af nf cf a b c d e fs s) (hv : Hid (failedB a fs s B = W)) : Calls Try.prog 50 #[.pointer (some ⟨m, 0, none⟩), .int .i64 B] w fun e' w' => e' = .returned (.bool W) ∧ Below w.heap.size w w' := by
  have := rfail_any m gB gN gW gD L Af nf cf a b c d e fs B w s hC
  rwa [hv.out] at this
theorem on_v (m gx gb : Nat) (Af : Option Addr) (nf cf : Nat) (a b c d e : Int) (fs : List Flt) (W : Bool) (w : World) (s : ChS) (hC : ChipW w m gx gb Af nf cf a b c d e fs s) (hv : Hid (s.on = W)) : Calls Try.prog 25 #[.pointer (some ⟨m, 0, none⟩)] w fun e' w' => e' = .returned (.bool W) ∧ w = w' := by
  have := on_any m gx gb Af nf cf a b c d e fs w s hC
  rwa [hv.out] at this
theorem bad_out {a b c d e : Int} {fs : List Flt} (hm : planMay a b c d e fs = true) {B : Int} (hB : inB a B = false) : badB fs B = false := by
  obtain ⟨-, -, h⟩ := planMay_bd hm
  have h2 := preB_all fs.length (Nat.le_refl _) h
  rw [List.take_length] at h2
  unfold badB
  rw [List.any_eq_false]
  intro f hf
  have h3 := h2 f hf
  unfold mayF at h3
  unfold inB at hB
  simp at h3 hB ⊢
  intro h4
  omega
theorem badB_take {fs : List Flt} {B : Int} {i : Nat} {f : Flt} (hf : fs[i]? = some f) : badB (fs.take (i + 1)) B = (badB (fs.take i) B || (f.blk == B && f.fac)) := by
  unfold badB
  rw [List.take_add_one, hf]
  simp
set_option maxRecDepth 100000 in
set_option maxHeartbeats 8000000 in
theorem same_any (L m gx gb : Nat) (Af : Option Addr) (nf cf mR gB gN gW gD : Nat) (AfR : Option Addr) (nfR cfR : Nat) (a b c d e : Int) (fs : List Flt) (w : World) (s : ChS) (h0 : Two w L m gx gb Af nf cf mR gB gN gW gD AfR nfR cfR a b c d e fs s s) : Calls Try.prog 14 #[.pointer (some ⟨m, 0, none⟩), .pointer (some ⟨mR, 0, none⟩)] w fun e' w' => e' = .returned (.bool true) ∧ Below w.heap.size w w' := by
  obtain ⟨q1, q2, q3, q4, q5, q6, -⟩ := may_bd (planMay_bd h0.cl.chip.may).1
  have HNF := Lib.hid h0.rl.nf
  clear q3 q4 q5 q6
  go_enter Try.func14, Try.ntmps14
  go_wp2_with fail
  go_loopw [5] (fun s5 wr => ∃ B : Int, -1 ≤ B ∧ B ≤ a + 1 ∧ s5 = .int .i64 B ∧ Below w.heap.size w wr) (fun s5 _ => (a + 1 - intOf s5).toNat)
  case atStart => exact ⟨-1, by omega, by omega, rfl, Below.refl _ _⟩
  case round =>
    obtain ⟨B, hB1, hB2, rfl, hBr⟩ := hrel
    obtain ⟨wo, hwo⟩ : ∃ V : World, V = wr := ⟨_, rfl⟩
    rw [← hwo] at hBr ⊢
    clear hwo
    have h := h0.below hBr
    have hb1 : IntKind.i64.wrap (B + 1) = B + 1 := wrapS _ (by omega) (by omega)
    obtain ⟨W, hW⟩ : ∃ W, s.ask a B 1 = W := ⟨_, rfl⟩
    obtain ⟨U, hU⟩ : ∃ U, s.ask a B 0 = U := ⟨_, rfl⟩
    obtain ⟨F, hF⟩ : ∃ F, failedB a fs s B = F := ⟨_, rfl⟩
    obtain ⟨D, hD⟩ : ∃ D, badB fs B = D := ⟨_, rfl⟩
    have HW := Lib.hid hW
    have HU := Lib.hid hU
    have HF := Lib.hid hF
    have HD := Lib.hid hD
    obtain ⟨NP, NB, RWc, cB, HCC⟩ := h.rl.cells
    have hNB := HCC.hNB.out
    by_cases hlt : B ≤ a
    · rcases (by cases hq : inB a B <;> simp : inB a B = false ∨ inB a B = true) with hin | hin
      · obtain rfl : W = 0 := by rw [← hW]; unfold ChS.ask; rw [hin]; rfl
        obtain rfl : U = 0 := by rw [← hU]; unfold ChS.ask; rw [hin]; rfl
        obtain rfl : D = false := by rw [← hD]; exact bad_out h.cl.chip.may hin
        have HIN := Lib.hid hin
        have y0 := HCC.y0
        clear hW hU hF hD hin HCC
        cases F
        all_goals
        go_wp2_with (first
          | (go_at_call 49; ((with_reducible refine (rthere_b _ _ _ _ _ _ _ _ _ _ _ _ _ _ _ _ false _ s (by first | exact h.rl | exact (Two.drew h).rl) HIN).mono ?_); rintro e' wN ⟨rfl, rfl⟩; skip))
          | (go_at_call 23; ((with_reducible refine (wear_v _ _ _ _ _ _ _ _ _ _ _ _ _ _ _ s (by first | exact h.cl.chip | exact (Two.drew h).cl.chip) HW).mono ?_); rintro e' wN ⟨rfl, rfl⟩; skip))
          | (go_at_call 21; ((with_reducible refine (used_v _ _ _ _ _ _ _ _ _ _ _ _ _ _ _ s (by first | exact h.cl.chip | exact (Two.drew h).cl.chip) HU).mono ?_); rintro e' wN ⟨rfl, rfl⟩; skip))
          | (go_at_call 29; ((with_reducible refine (fail_v _ _ _ _ _ _ _ _ _ _ _ _ _ _ _ s (by first | exact h.cl.chip | exact (Two.drew h).cl.chip) HF).mono ?_); rintro e' wN ⟨rfl, hb⟩; (try have hb := undrew hb); replace hBr := btr hBr hBr.size hb; replace h := h.below hb))
          | (go_at_call 50; ((with_reducible refine (rfail_v _ _ _ _ _ _ _ _ _ _ _ _ _ _ _ _ _ _ s (by first | exact h.rl | exact (Two.drew h).rl) HF).mono ?_); rintro e' wN ⟨rfl, hb⟩; (try have hb := undrew hb); replace hBr := btr hBr hBr.size hb; replace h := h.below hb))
          | (go_at_call 30; ((with_reducible refine (bad_v _ _ _ _ _ _ _ _ _ _ _ _ _ _ _ s (by first | exact h.cl.chip | exact (Two.drew h).cl.chip) HD).mono ?_); rintro e' wN ⟨rfl, hb⟩; (try have hb := undrew hb); replace hBr := btr hBr hBr.size hb; replace h := h.below hb)))
        go_roundw
        case rel => exact ⟨B + 1, by omega, by omega, by go_num, hBr⟩
        case measure => simp [intOf]; omega
      · obtain ⟨k, rfl, hk⟩ := in_nat hin
        have cW := HCC.n1 k (by omega)
        have cN := HCC.n0 k (by omega)
        have eW : s.k (k : Int) 1 = W := by rw [← hW]; unfold ChS.ask; rw [hin]; rfl
        have eU : s.k (k : Int) 0 = U := by rw [← hU]; unfold ChS.ask; rw [hin]; rfl
        rw [eW] at cW
        rw [eU] at cN
        have HIN := Lib.hid hin
        have y0 := HCC.y0; have y5 := HCC.y5; have y7 := HCC.y7; have y8 := HCC.y8
        have hkN : (k : Int) < (NB : Int) := by omega
        have hk0 : (0 : Int) ≤ (k : Int) := by omega
        clear hW hU hF hD hin HCC eW eU
        go_upto_region 7 with (go_at_call 49; ((with_reducible refine (rthere_b _ _ _ _ _ _ _ _ _ _ _ _ _ _ _ _ true _ s (by first | exact h.rl | exact (Two.drew h).rl) HIN).mono ?_); rintro e' wN ⟨rfl, rfl⟩; skip))
        refine wp_region_noPanic ?_
        refine wp_region_held_drew (S := (fun w' => w'.cell? ⟨mR, 8, none⟩ = some (.slice (some ⟨gW, 0, none⟩) NB NB) ∧ w'.cell? ⟨mR, 7, none⟩ = some (.slice (some ⟨gN, 0, none⟩) NB NB) ∧ w'.cell? ⟨gW, k, none⟩ = some (.int .i64 W) ∧ w'.cell? ⟨gN, k, none⟩ = some (.int .i64 U))) (by kernel_rfl) ?_ (fun hHeld => ?_)
        · (first | exact ⟨y8, y7, cW, cN⟩ | assumption)
        refine wpAnyH_take (i := 0) (oi := ⟨some 22, .move (.tmp 1), 29, "law.go:90", #[], none⟩) (v := ?_) rfl (by kernel_rfl) (by kernel_rfl) (by kernel_rfl) (fun _ _ _ h => h) (Or.inl ⟨by rfl, ?_⟩) (by assumption) ?_
        rotate_left
        · (intro wS hSw; (try dsimp only at hSw); go_simp; (try with_reducible rfl))
        try simp only [Act.put, pz1, pz2, pz3]
        refine wpAnyH_take (i := 1) (oi := ⟨some 23, .nilCheck (.tmp 22), 0, "law.go:90", #[⟨0, .data⟩], none⟩) (v := ?_) rfl (by kernel_rfl) (by kernel_rfl) (by kernel_rfl) (fun _ _ _ h => h) (Or.inl ⟨by rfl, ?_⟩) (by assumption) ?_
        rotate_left
        · (intro wS hSw; (try dsimp only at hSw); go_simp; (try with_reducible rfl))
        try simp only [Act.put, pz1, pz2, pz3]
        refine wpAnyH_take (i := 2) (oi := ⟨some 24, .fieldAddr 42 (.tmp 23) 4, 0, "law.go:90", #[⟨1, .data⟩], none⟩) (v := ?_) rfl (by kernel_rfl) (by kernel_rfl) (by kernel_rfl) (fun _ _ _ h => h) (Or.inl ⟨by rfl, ?_⟩) (by assumption) ?_
        rotate_left
        · (intro wS hSw; (try dsimp only at hSw); go_simp; (try with_reducible rfl))
        try simp only [Act.put, pz1, pz2, pz3]
        refine wpAnyH_take (i := 3) (oi := ⟨some 25, .load 40 (.tmp 24), 40, "law.go:90", #[⟨2, .data⟩], none⟩) (v := ?_) rfl (by kernel_rfl) (by kernel_rfl) (by kernel_rfl) (fun _ _ _ h => h) (Or.inl ⟨by rfl, ?_⟩) (by assumption) ?_
        rotate_left
        · (intro wS hSw; (try dsimp only at hSw); go_simp; (try with_reducible rfl))
        try simp only [Act.put, pz1, pz2, pz3]
        refine wpAnyH_take (i := 4) (oi := ⟨some 26, .move (.tmp 5), 3, "law.go:90", #[], none⟩) (v := ?_) rfl (by kernel_rfl) (by kernel_rfl) (by kernel_rfl) (fun _ _ _ h => h) (Or.inl ⟨by rfl, ?_⟩) (by assumption) ?_
        rotate_left
        · (intro wS hSw; (try dsimp only at hSw); go_simp; (try with_reducible rfl))
        try simp only [Act.put, pz1, pz2, pz3]
        refine wpAnyH_take (i := 5) (oi := ⟨some 27, .indexAddr 40 (.tmp 25) (.tmp 26), 0, "law.go:90", #[⟨3, .data⟩, ⟨4, .data⟩], none⟩) (v := ?_) rfl (by kernel_rfl) (by kernel_rfl) (by kernel_rfl) (fun _ _ _ h => h) (Or.inl ⟨by rfl, ?_⟩) (by assumption) ?_
        rotate_left
        · (intro wS hSw; (try dsimp only at hSw); go_simp; (try with_reducible rfl))
        try simp only [Act.put, pz1, pz2, pz3]
        refine wpAnyH_take (i := 6) (oi := ⟨some 28, .load 3 (.tmp 27), 3, "law.go:90", #[⟨5, .data⟩], none⟩) (v := ?_) rfl (by kernel_rfl) (by kernel_rfl) (by kernel_rfl) (fun _ _ _ h => h) (Or.inl ⟨by rfl, ?_⟩) (by assumption) ?_
        rotate_left
        · (intro wS hSw; (try dsimp only at hSw); go_simp; (try with_reducible rfl))
        try simp only [Act.put, pz1, pz2, pz3]
        refine wpAnyH_take (i := 7) (oi := ⟨some 29, .move (.tmp 1), 29, "law.go:90", #[{ on := 14, ground := Ground.gcOnly Departure.lateStores }], none⟩) (v := ?_) rfl (by kernel_rfl) (by kernel_rfl) (by kernel_rfl) (fun _ _ _ h => h) (Or.inl ⟨by rfl, ?_⟩) (by assumption) ?_
        rotate_left
        · (intro wS hSw; (try dsimp only at hSw); go_simp; (try with_reducible rfl))
        try simp only [Act.put, pz1, pz2, pz3]
        refine wpAnyH_take (i := 8) (oi := ⟨some 30, .nilCheck (.tmp 29), 0, "law.go:90", #[⟨7, .data⟩, { on := 14, ground := Ground.gcOnly Departure.lateStores }], none⟩) (v := ?_) rfl (by kernel_rfl) (by kernel_rfl) (by kernel_rfl) (fun _ _ _ h => h) (Or.inl ⟨by rfl, ?_⟩) (by assumption) ?_
        rotate_left
        · (intro wS hSw; (try dsimp only at hSw); go_simp; (try with_reducible rfl))
        try simp only [Act.put, pz1, pz2, pz3]
        refine wpAnyH_take (i := 9) (oi := ⟨some 31, .fieldAddr 42 (.tmp 30) 3, 0, "law.go:90", #[⟨8, .data⟩, { on := 14, ground := Ground.gcOnly Departure.lateStores }], none⟩) (v := ?_) rfl (by kernel_rfl) (by kernel_rfl) (by kernel_rfl) (fun _ _ _ h => h) (Or.inl ⟨by rfl, ?_⟩) (by assumption) ?_
        rotate_left
        · (intro wS hSw; (try dsimp only at hSw); go_simp; (try with_reducible rfl))
        try simp only [Act.put, pz1, pz2, pz3]
        refine wpAnyH_take (i := 10) (oi := ⟨some 32, .load 40 (.tmp 31), 40, "law.go:90", #[⟨9, .data⟩, { on := 14, ground := Ground.gcOnly Departure.lateStores }], none⟩) (v := ?_) rfl (by kernel_rfl) (by kernel_rfl) (by kernel_rfl) (fun _ _ _ h => h) (Or.inl ⟨by rfl, ?_⟩) (by assumption) ?_
        rotate_left
        · (intro wS hSw; (try dsimp only at hSw); go_simp; (try with_reducible rfl))
        try simp only [Act.put, pz1, pz2, pz3]
        refine wpAnyH_take (i := 11) (oi := ⟨some 33, .move (.tmp 5), 3, "law.go:90", #[{ on := 14, ground := Ground.gcOnly Departure.lateStores }], none⟩) (v := ?_) rfl (by kernel_rfl) (by kernel_rfl) (by kernel_rfl) (fun _ _ _ h => h) (Or.inl ⟨by rfl, ?_⟩) (by assumption) ?_
        rotate_left
        · (intro wS hSw; (try dsimp only at hSw); go_simp; (try with_reducible rfl))
        try simp only [Act.put, pz1, pz2, pz3]
        refine wpAnyH_take (i := 12) (oi := ⟨some 34, .indexAddr 40 (.tmp 32) (.tmp 33), 0, "law.go:90", #[⟨10, .data⟩, ⟨11, .data⟩, { on := 14, ground := Ground.gcOnly Departure.lateStores }], none⟩) (v := ?_) rfl (by kernel_rfl) (by kernel_rfl) (by kernel_rfl) (fun _ _ _ h => h) (Or.inl ⟨by rfl, ?_⟩) (by assumption) ?_
        rotate_left
        · (intro wS hSw; (try dsimp only at hSw); go_simp; (try with_reducible rfl))
        try simp only [Act.put, pz1, pz2, pz3]
        refine wpAnyH_take (i := 13) (oi := ⟨some 35, .load 3 (.tmp 34), 3, "law.go:90", #[⟨12, .data⟩, { on := 14, ground := Ground.gcOnly Departure.lateStores }], none⟩) (v := ?_) rfl (by kernel_rfl) (by kernel_rfl) (by kernel_rfl) (fun _ _ _ h => h) (Or.inl ⟨by rfl, ?_⟩) (by assumption) ?_
        rotate_left
        · (intro wS hSw; (try dsimp only at hSw); go_simp; (try with_reducible rfl))
        try simp only [Act.put, pz1, pz2, pz3]
        refine wpAnyH_take (i := 14) (oi := ⟨some 6, .assign (.tmp 28), 3, "law.go:90", #[⟨6, .data⟩, ⟨0, .phase⟩, ⟨1, .phase⟩, ⟨2, .phase⟩, ⟨3, .phase⟩, ⟨4, .phase⟩, ⟨5, .phase⟩, ⟨6, .phase⟩, { on := 7, ground := Ground.textOnly Departure.lateStores }, { on := 8, ground := Ground.textOnly Departure.lateStores }, { on := 9, ground := Ground.textOnly Departure.lateStores }, { on := 10, ground := Ground.textOnly Departure.lateStores }, { on := 11, ground := Ground.textOnly Departure.lateStores }, { on := 12, ground := Ground.textOnly Departure.lateStores }, { on := 13, ground := Ground.textOnly Departure.lateStores }], none⟩) (v := ?_) rfl (by kernel_rfl) (by kernel_rfl) (by kernel_rfl) (fun _ _ _ h => h) (Or.inl ⟨by rfl, ?_⟩) (by assumption) ?_
        rotate_left
        · (intro wS hSw; (try dsimp only at hSw); go_simp; (try with_reducible rfl))
        try simp only [Act.put, pz1, pz2, pz3]
        refine wpAnyH_take (i := 15) (oi := ⟨some 7, .assign (.tmp 35), 3, "law.go:90", #[⟨13, .data⟩, ⟨14, .chain⟩, ⟨0, .phase⟩, ⟨1, .phase⟩, ⟨2, .phase⟩, ⟨3, .phase⟩, ⟨4, .phase⟩, ⟨5, .phase⟩, ⟨6, .phase⟩, ⟨7, .phase⟩, ⟨8, .phase⟩, ⟨9, .phase⟩, ⟨10, .phase⟩, ⟨11, .phase⟩, ⟨12, .phase⟩, ⟨13, .phase⟩, ⟨14, .phase⟩], none⟩) (v := ?_) rfl (by kernel_rfl) (by kernel_rfl) (by kernel_rfl) (fun _ _ _ h => h) (Or.inl ⟨by rfl, ?_⟩) (by assumption) ?_
        rotate_left
        · (intro wS hSw; (try dsimp only at hSw); go_simp; (try with_reducible rfl))
        try simp only [Act.put, pz1, pz2, pz3]
        refine wpAnyH_done (by kernel_rfl) ?_ _
        refine NoPanic.normal ?_
        go_wp2_with fail
        go_loopw [8, 9] (fun s8 s9 wi => ∃ (i : Nat) (T : Bool), i ≤ nfR ∧ s8 = .bool T ∧ s9 = .int .i64 (i : Int) ∧ Hid (T = badB (fs.take i) (k : Int)) ∧ Below w.heap.size w wi) (fun _ s9 _ => nfR - (intOf s9).toNat)
        case atStart => exact ⟨0, false, Nat.zero_le _, rfl, rfl, Lib.hid rfl, (by first | exact hBr | exact hBr.drew)⟩
        case round =>
          clear hBr h y0 y5 y7 y8 cW cN
          obtain ⟨i, T, hi, rfl, rfl, hT, hBr⟩ := hrel
          obtain ⟨wq, hwq⟩ : ∃ V : World, V = wr := ⟨_, rfl⟩
          rw [← hwq] at hBr ⊢
          clear hwq
          have h := h0.below hBr
          obtain ⟨NP, NB, RWc, cB, HCC⟩ := h.rl.cells
          have y0 := HCC.y0; have y5 := HCC.y5
          have hnf := HNF.out
          by_cases hit : i < nfR
          · have hi' : i < fs.length := by omega
            obtain ⟨b1, o1, hA, l1, q⟩ := (h.rl.flt.sl).at_ (by omega)
            obtain ⟨f, hf⟩ : ∃ f, fs[i]? = some f := ⟨_, List.getElem?_eq_getElem hi'⟩
            obtain ⟨x1, x2, x3⟩ := q i f hf
            rw [hA] at y5
            have hst := badB_take (B := (k : Int)) hf
            have HST := Lib.hid hst
            have i0 : (0 : Int) ≤ (i : Int) := by omega
            have i1 : (i : Int) < (nfR : Int) := by omega
            have i2 : (i : Int) ≤ 8 := by have := planMay_bd h.cl.chip.may; omega
            clear hst q hA HCC hf hi' hnf x3
            rcases (by cases hq : (f.blk == (k : Int)) <;> simp : (f.blk == (k : Int)) = false ∨ (f.blk == (k : Int)) = true) with hbk | hbk
            all_goals
              rcases (by cases hq : f.fac <;> simp : f.fac = false ∨ f.fac = true) with hfc | hfc
              all_goals
                rw [hfc] at x2
                cases T
                all_goals
                  go_wp2_with fail
                  go_roundw
                  case rel => exact ⟨i + 1, _, by omega, rfl, by go_num, Lib.hid (by rw [HST.out, ← hT.out, hbk, hfc]; rfl), hBr⟩
                  case measure => simp [intOf]; omega
          · obtain rfl : i = nfR := by omega
            obtain rfl : T = D := by rw [hT.out, List.take_of_length_le (by omega)]; exact HD.out
            clear hT HCC
            cases F
            all_goals
              cases T
              all_goals
                go_wp2_with (first
          | (go_at_call 49; ((with_reducible refine (rthere_b _ _ _ _ _ _ _ _ _ _ _ _ _ _ _ _ true _ s (by first | exact h.rl | exact (Two.drew h).rl) HIN).mono ?_); rintro e' wN ⟨rfl, rfl⟩; skip))
          | (go_at_call 23; ((with_reducible refine (wear_v _ _ _ _ _ _ _ _ _ _ _ _ _ _ _ s (by first | exact h.cl.chip | exact (Two.drew h).cl.chip) HW).mono ?_); rintro e' wN ⟨rfl, rfl⟩; skip))
          | (go_at_call 21; ((with_reducible refine (used_v _ _ _ _ _ _ _ _ _ _ _ _ _ _ _ s (by first | exact h.cl.chip | exact (Two.drew h).cl.chip) HU).mono ?_); rintro e' wN ⟨rfl, rfl⟩; skip))
          | (go_at_call 29; ((with_reducible refine (fail_v _ _ _ _ _ _ _ _ _ _ _ _ _ _ _ s (by first | exact h.cl.chip | exact (Two.drew h).cl.chip) HF).mono ?_); rintro e' wN ⟨rfl, hb⟩; (try have hb := undrew hb); replace hBr := btr hBr hBr.size hb; replace h := h.below hb))
          | (go_at_call 50; ((with_reducible refine (rfail_v _ _ _ _ _ _ _ _ _ _ _ _ _ _ _ _ _ _ s (by first | exact h.rl | exact (Two.drew h).rl) HF).mono ?_); rintro e' wN ⟨rfl, hb⟩; (try have hb := undrew hb); replace hBr := btr hBr hBr.size hb; replace h := h.below hb))
          | (go_at_call 30; ((with_reducible refine (bad_v _ _ _ _ _ _ _ _ _ _ _ _ _ _ _ s (by first | exact h.cl.chip | exact (Two.drew h).cl.chip) HD).mono ?_); rintro e' wN ⟨rfl, hb⟩; (try have hb := undrew hb); replace hBr := btr hBr hBr.size hb; replace h := h.below hb)))
                go_roundw
                case rel => exact ⟨(k : Int) + 1, by omega, by omega, by go_num, hBr⟩
                case measure => simp [intOf]; omega


    · clear hW hU hF hD HW HU HF HD
      have y0 := HCC.y0; have y1 := HCC.y1; have y2 := HCC.y2; have y3 := HCC.y3; have y4 := HCC.y4; have y10 := HCC.y10; have y11 := HCC.y11; have y12 := HCC.y12
      rcases (by cases hq : s.on <;> simp : s.on = true ∨ s.on = false) with ho | ho
      · have HO := Lib.hid ho
        rw [ho] at y12
        simp only [Bool.not_true, Bool.not_false] at y12
        clear HCC
        go_upto_region 14 with fail
        refine wp_region_noPanic ?_
        refine wp_region_held_drew (S := (fun w' => w'.cell? ⟨mR, 0, none⟩ = some (.int .i64 a) ∧ w'.cell? ⟨mR, 1, none⟩ = some (.int .i64 b) ∧ w'.cell? ⟨mR, 2, none⟩ = some (.int .i64 c) ∧ w'.cell? ⟨mR, 3, none⟩ = some (.int .i64 d) ∧ w'.cell? ⟨mR, 4, none⟩ = some (.int .i64 e) ∧ w'.cell? ⟨mR, 10, none⟩ = some (.int .i64 s.ops) ∧ w'.cell? ⟨mR, 11, none⟩ = some (.int .i64 s.cuts) ∧ w'.cell? ⟨mR, 12, none⟩ = some (.bool false))) (by kernel_rfl) ?_ (fun hHeld => ?_)
        · (first | exact ⟨y0, y1, y2, y3, y4, y10, y11, y12⟩ | assumption)
        refine wpAnyH_take (i := 0) (oi := ⟨some 96, .move (.tmp 0), 27, "law.go:99", #[], none⟩) (v := ?_) rfl (by kernel_rfl) (by kernel_rfl) (by kernel_rfl) (fun _ _ _ h => h) (Or.inl ⟨by rfl, ?_⟩) (by assumption) ?_
        rotate_left
        · (intro wS hSw; (try dsimp only at hSw); go_simp; (try with_reducible rfl))
        try simp only [Act.put, pz1, pz2, pz3]
        refine wpAnyH_take (i := 2) (oi := ⟨some 98, .move (.tmp 1), 29, "law.go:99", #[], none⟩) (v := ?_) rfl (by kernel_rfl) (by kernel_rfl) (by kernel_rfl) (fun _ _ _ h => h) (Or.inl ⟨by rfl, ?_⟩) (by assumption) ?_
        rotate_left
        · (intro wS hSw; (try dsimp only at hSw); go_simp; (try with_reducible rfl))
        try simp only [Act.put, pz1, pz2, pz3]
        refine wpAnyH_take (i := 3) (oi := ⟨some 99, .nilCheck (.tmp 98), 0, "law.go:99", #[⟨2, .data⟩], none⟩) (v := ?_) rfl (by kernel_rfl) (by kernel_rfl) (by kernel_rfl) (fun _ _ _ h => h) (Or.inl ⟨by rfl, ?_⟩) (by assumption) ?_
        rotate_left
        · (intro wS hSw; (try dsimp only at hSw); go_simp; (try with_reducible rfl))
        try simp only [Act.put, pz1, pz2, pz3]
        refine wpAnyH_take (i := 4) (oi := ⟨some 100, .fieldAddr 42 (.tmp 99) 6, 0, "law.go:99", #[⟨3, .data⟩], none⟩) (v := ?_) rfl (by kernel_rfl) (by kernel_rfl) (by kernel_rfl) (fun _ _ _ h => h) (Or.inl ⟨by rfl, ?_⟩) (by assumption) ?_
        rotate_left
        · (intro wS hSw; (try dsimp only at hSw); go_simp; (try with_reducible rfl))
        try simp only [Act.put, pz1, pz2, pz3]
        refine wpAnyH_take (i := 5) (oi := ⟨some 101, .load 3 (.tmp 100), 3, "law.go:99", #[⟨4, .data⟩], none⟩) (v := ?_) rfl (by kernel_rfl) (by kernel_rfl) (by kernel_rfl) (fun _ _ _ h => h) (Or.inl ⟨by rfl, ?_⟩) (by assumption) ?_
        rotate_left
        · (intro wS hSw; (try dsimp only at hSw); go_simp; (try with_reducible rfl))
        try simp only [Act.put, pz1, pz2, pz3]
        refine wpAnyH_ready (rs := [1]) (by kernel_rfl) (by simp) ?_
        refine AllReadyH.cons (o := ⟨some 97, .call { callee := .value (.func 26), args := #[.tmp 96], argTypes := #[27] }, 3, "law.go:99", #[⟨0, .data⟩], none⟩) rfl (fun K hK => ?_) AllReadyH.nil
        go_simp
        (first | (go_at_call 26; ((with_reducible refine (ops_any _ _ _ _ _ _ _ _ _ _ _ _ _ s (by first | exact h.cl.chip | exact (Two.drew h).cl.chip)).mono ?_); rintro e' wN ⟨rfl, rfl⟩; skip)) | (go_at_call 28; ((with_reducible refine (cuts_any _ _ _ _ _ _ _ _ _ _ _ _ _ s (by first | exact h.cl.chip | exact (Two.drew h).cl.chip)).mono ?_); rintro e' wN ⟨rfl, rfl⟩; skip)) | (go_at_call 25; ((with_reducible refine (on_v _ _ _ _ _ _ _ _ _ _ _ _ true _ s (by first | exact h.cl.chip | exact (Two.drew h).cl.chip) HO).mono ?_); rintro e' wN ⟨rfl, rfl⟩; skip)) | (go_at_call 31; ((with_reducible refine (geometry_any _ _ _ _ _ _ _ _ _ _ _ _ _ s (by first | exact h.cl.chip | exact (Two.drew h).cl.chip)).mono ?_); rintro e' wN ⟨rfl, hb⟩; (try have hb := undrew hb); replace hBr := btr hBr hBr.size hb; replace h := h.below hb; clear y0 y1 y2 y3 y4 y10 y11 y12; obtain ⟨NP, NB, RWc, cB, HCC⟩ := h.rl.cells; have y0 := HCC.y0; have y1 := HCC.y1; have y2 := HCC.y2; have y3 := HCC.y3; have y4 := HCC.y4; have y10 := HCC.y10; have y11 := HCC.y11; have y12 := HCC.y12; rw [ho] at y12; simp only [Bool.not_true, Bool.not_false] at y12)))
        go_wp2_with fail
        refine hK.out _ _ ?_ (fun hNew => ?_)
        · (first | exact ⟨y0, y1, y2, y3, y4, y10, y11, y12⟩ | assumption)
        clear hK K hHeld
        have hHeld := hNew
        clear hNew
        try simp only [Act.put, pz1, pz2, pz3]
        refine wpAnyH_take (i := 6) (oi := ⟨some 102, .binOp .eql 3 (.tmp 97) (.tmp 101) 3, 4, "law.go:99", #[⟨1, .data⟩, ⟨5, .data⟩], none⟩) (v := ?_) rfl (by kernel_rfl) (by kernel_rfl) (by kernel_rfl) (fun _ _ _ h => h) (Or.inl ⟨by rfl, ?_⟩) (by assumption) ?_
        rotate_left
        · (intro wS hSw; (try dsimp only at hSw); go_simp; (try with_reducible rfl))
        try simp only [Act.put, pz1, pz2, pz3]
        refine wpAnyH_take (i := 7) (oi := ⟨some 103, .move (.tmp 102), 4, "law.go:99", #[⟨6, .data⟩, ⟨1, .chain⟩], none⟩) (v := ?_) rfl (by kernel_rfl) (by kernel_rfl) (by kernel_rfl) (fun _ _ _ h => h) (Or.inl ⟨by rfl, ?_⟩) (by assumption) ?_
        rotate_left
        · (intro wS hSw; (try dsimp only at hSw); go_simp; (try with_reducible rfl))
        try simp only [Act.put, pz1, pz2, pz3]
        refine wpAnyH_take (i := 8) (oi := ⟨some 104, .move (.tmp 0), 27, "law.go:99", #[⟨7, .guard⟩], some (7, true)⟩) (v := ?_) rfl (by kernel_rfl) (by kernel_rfl) (by kernel_rfl) (fun _ _ _ h => h) (Or.inl ⟨by rfl, ?_⟩) (by assumption) ?_
        rotate_left
        · (intro wS hSw; (try dsimp only at hSw); go_simp; (try with_reducible rfl))
        try simp only [Act.put, pz1, pz2, pz3]
        refine wpAnyH_take (i := 10) (oi := ⟨some 106, .move (.tmp 1), 29, "law.go:99", #[⟨7, .guard⟩], some (7, true)⟩) (v := ?_) rfl (by kernel_rfl) (by kernel_rfl) (by kernel_rfl) (fun _ _ _ h => h) (Or.inl ⟨by rfl, ?_⟩) (by assumption) ?_
        rotate_left
        · (intro wS hSw; (try dsimp only at hSw); go_simp; (try with_reducible rfl))
        try simp only [Act.put, pz1, pz2, pz3]
        refine wpAnyH_take (i := 11) (oi := ⟨some 107, .nilCheck (.tmp 106), 0, "law.go:99", #[⟨10, .data⟩, ⟨7, .guard⟩], some (7, true)⟩) (v := ?_) rfl (by kernel_rfl) (by kernel_rfl) (by kernel_rfl) (fun _ _ _ h => h) (Or.inl ⟨by rfl, ?_⟩) (by assumption) ?_
        rotate_left
        · (intro wS hSw; (try dsimp only at hSw); go_simp; (try with_reducible rfl))
        try simp only [Act.put, pz1, pz2, pz3]
        refine wpAnyH_take (i := 12) (oi := ⟨some 108, .fieldAddr 42 (.tmp 107) 7, 0, "law.go:99", #[⟨11, .data⟩, ⟨7, .guard⟩], some (7, true)⟩) (v := ?_) rfl (by kernel_rfl) (by kernel_rfl) (by kernel_rfl) (fun _ _ _ h => h) (Or.inl ⟨by rfl, ?_⟩) (by assumption) ?_
        rotate_left
        · (intro wS hSw; (try dsimp only at hSw); go_simp; (try with_reducible rfl))
        try simp only [Act.put, pz1, pz2, pz3]
        refine wpAnyH_take (i := 13) (oi := ⟨some 109, .load 3 (.tmp 108), 3, "law.go:99", #[⟨12, .data⟩, ⟨7, .guard⟩], some (7, true)⟩) (v := ?_) rfl (by kernel_rfl) (by kernel_rfl) (by kernel_rfl) (fun _ _ _ h => h) (Or.inl ⟨by rfl, ?_⟩) (by assumption) ?_
        rotate_left
        · (intro wS hSw; (try dsimp only at hSw); go_simp; (try with_reducible rfl))
        try simp only [Act.put, pz1, pz2, pz3]
        refine wpAnyH_ready (rs := [9]) (by kernel_rfl) (by simp) ?_
        refine AllReadyH.cons (o := ⟨some 105, .call { callee := .value (.func 28), args := #[.tmp 104], argTypes := #[27] }, 3, "law.go:99", #[⟨8, .data⟩, ⟨7, .chain⟩, ⟨7, .guard⟩], some (7, true)⟩) rfl (fun K hK => ?_) AllReadyH.nil
        go_simp
        (first | (go_at_call 26; ((with_reducible refine (ops_any _ _ _ _ _ _ _ _ _ _ _ _ _ s (by first | exact h.cl.chip | exact (Two.drew h).cl.chip)).mono ?_); rintro e' wN ⟨rfl, rfl⟩; skip)) | (go_at_call 28; ((with_reducible refine (cuts_any _ _ _ _ _ _ _ _ _ _ _ _ _ s (by first | exact h.cl.chip | exact (Two.drew h).cl.chip)).mono ?_); rintro e' wN ⟨rfl, rfl⟩; skip)) | (go_at_call 25; ((with_reducible refine (on_v _ _ _ _ _ _ _ _ _ _ _ _ true _ s (by first | exact h.cl.chip | exact (Two.drew h).cl.chip) HO).mono ?_); rintro e' wN ⟨rfl, rfl⟩; skip)) | (go_at_call 31; ((with_reducible refine (geometry_any _ _ _ _ _ _ _ _ _ _ _ _ _ s (by first | exact h.cl.chip | exact (Two.drew h).cl.chip)).mono ?_); rintro e' wN ⟨rfl, hb⟩; (try have hb := undrew hb); replace hBr := btr hBr hBr.size hb; replace h := h.below hb; clear y0 y1 y2 y3 y4 y10 y11 y12; obtain ⟨NP, NB, RWc, cB, HCC⟩ := h.rl.cells; have y0 := HCC.y0; have y1 := HCC.y1; have y2 := HCC.y2; have y3 := HCC.y3; have y4 := HCC.y4; have y10 := HCC.y10; have y11 := HCC.y11; have y12 := HCC.y12; rw [ho] at y12; simp only [Bool.not_true, Bool.not_false] at y12)))
        go_wp2_with fail
        refine hK.out _ _ ?_ (fun hNew => ?_)
        · (first | exact ⟨y0, y1, y2, y3, y4, y10, y11, y12⟩ | assumption)
        clear hK K hHeld
        have hHeld := hNew
        clear hNew
        try simp only [Act.put, pz1, pz2, pz3]
        refine wpAnyH_take (i := 14) (oi := ⟨some 110, .binOp .eql 3 (.tmp 105) (.tmp 109) 3, 4, "law.go:99", #[⟨9, .data⟩, ⟨13, .data⟩, ⟨7, .guard⟩], some (7, true)⟩) (v := ?_) rfl (by kernel_rfl) (by kernel_rfl) (by kernel_rfl) (fun _ _ _ h => h) (Or.inl ⟨by rfl, ?_⟩) (by assumption) ?_
        rotate_left
        · (intro wS hSw; (try dsimp only at hSw); go_simp; (try with_reducible rfl))
        try simp only [Act.put, pz1, pz2, pz3]
        refine wpAnyH_take (i := 15) (oi := ⟨some 111, .pick (.tmp 103) (.tmp 110) (.const (.bool false)), 4, "law.go:99", #[⟨7, .data⟩, ⟨14, .data⟩], none⟩) (v := ?_) rfl (by kernel_rfl) (by kernel_rfl) (by kernel_rfl) (fun _ _ _ h => h) (Or.inl ⟨by rfl, ?_⟩) (by assumption) ?_
        rotate_left
        · (intro wS hSw; (try dsimp only at hSw); go_simp; (try with_reducible rfl))
        try simp only [Act.put, pz1, pz2, pz3]
        refine wpAnyH_take (i := 16) (oi := ⟨some 112, .move (.tmp 111), 4, "law.go:99", #[⟨15, .data⟩, ⟨9, .chain⟩], none⟩) (v := ?_) rfl (by kernel_rfl) (by kernel_rfl) (by kernel_rfl) (fun _ _ _ h => h) (Or.inl ⟨by rfl, ?_⟩) (by assumption) ?_
        rotate_left
        · (intro wS hSw; (try dsimp only at hSw); go_simp; (try with_reducible rfl))
        try simp only [Act.put, pz1, pz2, pz3]
        refine wpAnyH_take (i := 17) (oi := ⟨some 113, .move (.tmp 0), 27, "law.go:99", #[⟨16, .guard⟩], some (16, true)⟩) (v := ?_) rfl (by kernel_rfl) (by kernel_rfl) (by kernel_rfl) (fun _ _ _ h => h) (Or.inl ⟨by rfl, ?_⟩) (by assumption) ?_
        rotate_left
        · (intro wS hSw; (try dsimp only at hSw); go_simp; (try with_reducible rfl))
        try simp only [Act.put, pz1, pz2, pz3]
        refine wpAnyH_take (i := 19) (oi := ⟨some 115, .move (.tmp 1), 29, "law.go:99", #[⟨16, .guard⟩], some (16, true)⟩) (v := ?_) rfl (by kernel_rfl) (by kernel_rfl) (by kernel_rfl) (fun _ _ _ h => h) (Or.inl ⟨by rfl, ?_⟩) (by assumption) ?_
        rotate_left
        · (intro wS hSw; (try dsimp only at hSw); go_simp; (try with_reducible rfl))
        try simp only [Act.put, pz1, pz2, pz3]
        refine wpAnyH_take (i := 20) (oi := ⟨some 116, .nilCheck (.tmp 115), 0, "law.go:99", #[⟨19, .data⟩, ⟨16, .guard⟩], some (16, true)⟩) (v := ?_) rfl (by kernel_rfl) (by kernel_rfl) (by kernel_rfl) (fun _ _ _ h => h) (Or.inl ⟨by rfl, ?_⟩) (by assumption) ?_
        rotate_left
        · (intro wS hSw; (try dsimp only at hSw); go_simp; (try with_reducible rfl))
        try simp only [Act.put, pz1, pz2, pz3]
        refine wpAnyH_take (i := 21) (oi := ⟨some 117, .fieldAddr 42 (.tmp 116) 8, 0, "law.go:99", #[⟨20, .data⟩, ⟨16, .guard⟩], some (16, true)⟩) (v := ?_) rfl (by kernel_rfl) (by kernel_rfl) (by kernel_rfl) (fun _ _ _ h => h) (Or.inl ⟨by rfl, ?_⟩) (by assumption) ?_
        rotate_left
        · (intro wS hSw; (try dsimp only at hSw); go_simp; (try with_reducible rfl))
        try simp only [Act.put, pz1, pz2, pz3]
        refine wpAnyH_take (i := 22) (oi := ⟨some 118, .load 4 (.tmp 117), 4, "law.go:99", #[⟨21, .data⟩, ⟨16, .guard⟩], some (16, true)⟩) (v := ?_) rfl (by kernel_rfl) (by kernel_rfl) (by kernel_rfl) (fun _ _ _ h => h) (Or.inl ⟨by rfl, ?_⟩) (by assumption) ?_
        rotate_left
        · (intro wS hSw; (try dsimp only at hSw); go_simp; (try with_reducible rfl))
        try simp only [Act.put, pz1, pz2, pz3]
        refine wpAnyH_take (i := 23) (oi := ⟨some 119, .unOp .not 4 (.tmp 118), 4, "law.go:99", #[⟨22, .data⟩, ⟨16, .guard⟩], some (16, true)⟩) (v := ?_) rfl (by kernel_rfl) (by kernel_rfl) (by kernel_rfl) (fun _ _ _ h => h) (Or.inl ⟨by rfl, ?_⟩) (by assumption) ?_
        rotate_left
        · (intro wS hSw; (try dsimp only at hSw); go_simp; (try with_reducible rfl))
        try simp only [Act.put, pz1, pz2, pz3]
        refine wpAnyH_ready (rs := [18]) (by kernel_rfl) (by simp) ?_
        refine AllReadyH.cons (o := ⟨some 114, .call { callee := .value (.func 25), args := #[.tmp 113], argTypes := #[27] }, 4, "law.go:99", #[⟨17, .data⟩, ⟨16, .chain⟩, ⟨16, .guard⟩], some (16, true)⟩) rfl (fun K hK => ?_) AllReadyH.nil
        go_simp
        (first | (go_at_call 26; ((with_reducible refine (ops_any _ _ _ _ _ _ _ _ _ _ _ _ _ s (by first | exact h.cl.chip | exact (Two.drew h).cl.chip)).mono ?_); rintro e' wN ⟨rfl, rfl⟩; skip)) | (go_at_call 28; ((with_reducible refine (cuts_any _ _ _ _ _ _ _ _ _ _ _ _ _ s (by first | exact h.cl.chip | exact (Two.drew h).cl.chip)).mono ?_); rintro e' wN ⟨rfl, rfl⟩; skip)) | (go_at_call 25; ((with_reducible refine (on_v _ _ _ _ _ _ _ _ _ _ _ _ true _ s (by first | exact h.cl.chip | exact (Two.drew h).cl.chip) HO).mono ?_); rintro e' wN ⟨rfl, rfl⟩; skip)) | (go_at_call 31; ((with_reducible refine (geometry_any _ _ _ _ _ _ _ _ _ _ _ _ _ s (by first | exact h.cl.chip | exact (Two.drew h).cl.chip)).mono ?_); rintro e' wN ⟨rfl, hb⟩; (try have hb := undrew hb); replace hBr := btr hBr hBr.size hb; replace h := h.below hb; clear y0 y1 y2 y3 y4 y10 y11 y12; obtain ⟨NP, NB, RWc, cB, HCC⟩ := h.rl.cells; have y0 := HCC.y0; have y1 := HCC.y1; have y2 := HCC.y2; have y3 := HCC.y3; have y4 := HCC.y4; have y10 := HCC.y10; have y11 := HCC.y11; have y12 := HCC.y12; rw [ho] at y12; simp only [Bool.not_true, Bool.not_false] at y12)))
        go_wp2_with fail
        refine hK.out _ _ ?_ (fun hNew => ?_)
        · (first | exact ⟨y0, y1, y2, y3, y4, y10, y11, y12⟩ | assumption)
        clear hK K hHeld
        have hHeld := hNew
        clear hNew
        try simp only [Act.put, pz1, pz2, pz3]
        refine wpAnyH_take (i := 24) (oi := ⟨some 120, .binOp .eql 4 (.tmp 114) (.tmp 119) 4, 4, "law.go:99", #[⟨18, .data⟩, ⟨23, .data⟩, ⟨16, .guard⟩], some (16, true)⟩) (v := ?_) rfl (by kernel_rfl) (by kernel_rfl) (by kernel_rfl) (fun _ _ _ h => h) (Or.inl ⟨by rfl, ?_⟩) (by assumption) ?_
        rotate_left
        · (intro wS hSw; (try dsimp only at hSw); go_simp; (try with_reducible rfl))
        try simp only [Act.put, pz1, pz2, pz3]
        refine wpAnyH_take (i := 25) (oi := ⟨some 121, .pick (.tmp 112) (.tmp 120) (.const (.bool false)), 4, "law.go:99", #[⟨16, .data⟩, ⟨24, .data⟩], none⟩) (v := ?_) rfl (by kernel_rfl) (by kernel_rfl) (by kernel_rfl) (fun _ _ _ h => h) (Or.inl ⟨by rfl, ?_⟩) (by assumption) ?_
        rotate_left
        · (intro wS hSw; (try dsimp only at hSw); go_simp; (try with_reducible rfl))
        try simp only [Act.put, pz1, pz2, pz3]
        refine wpAnyH_take (i := 26) (oi := ⟨some 122, .move (.tmp 121), 4, "law.go:99", #[⟨25, .data⟩, ⟨18, .chain⟩], none⟩) (v := ?_) rfl (by kernel_rfl) (by kernel_rfl) (by kernel_rfl) (fun _ _ _ h => h) (Or.inl ⟨by rfl, ?_⟩) (by assumption) ?_
        rotate_left
        · (intro wS hSw; (try dsimp only at hSw); go_simp; (try with_reducible rfl))
        try simp only [Act.put, pz1, pz2, pz3]
        refine wpAnyH_take (i := 27) (oi := ⟨some 123, .move (.tmp 0), 27, "law.go:99", #[⟨26, .guard⟩], some (26, true)⟩) (v := ?_) rfl (by kernel_rfl) (by kernel_rfl) (by kernel_rfl) (fun _ _ _ h => h) (Or.inl ⟨by rfl, ?_⟩) (by assumption) ?_
        rotate_left
        · (intro wS hSw; (try dsimp only at hSw); go_simp; (try with_reducible rfl))
        try simp only [Act.put, pz1, pz2, pz3]
        refine wpAnyH_take (i := 29) (oi := ⟨some 125, .move (.tmp 1), 29, "law.go:99", #[⟨26, .guard⟩], some (26, true)⟩) (v := ?_) rfl (by kernel_rfl) (by kernel_rfl) (by kernel_rfl) (fun _ _ _ h => h) (Or.inl ⟨by rfl, ?_⟩) (by assumption) ?_
        rotate_left
        · (intro wS hSw; (try dsimp only at hSw); go_simp; (try with_reducible rfl))
        try simp only [Act.put, pz1, pz2, pz3]
        refine wpAnyH_take (i := 30) (oi := ⟨some 126, .nilCheck (.tmp 125), 0, "law.go:99", #[⟨29, .data⟩, ⟨26, .guard⟩], some (26, true)⟩) (v := ?_) rfl (by kernel_rfl) (by kernel_rfl) (by kernel_rfl) (fun _ _ _ h => h) (Or.inl ⟨by rfl, ?_⟩) (by assumption) ?_
        rotate_left
        · (intro wS hSw; (try dsimp only at hSw); go_simp; (try with_reducible rfl))
        try simp only [Act.put, pz1, pz2, pz3]
        refine wpAnyH_take (i := 31) (oi := ⟨some 127, .fieldAddr 42 (.tmp 126) 0, 0, "law.go:99", #[⟨30, .data⟩, ⟨26, .guard⟩], some (26, true)⟩) (v := ?_) rfl (by kernel_rfl) (by kernel_rfl) (by kernel_rfl) (fun _ _ _ h => h) (Or.inl ⟨by rfl, ?_⟩) (by assumption) ?_
        rotate_left
        · (intro wS hSw; (try dsimp only at hSw); go_simp; (try with_reducible rfl))
        try simp only [Act.put, pz1, pz2, pz3]
        refine wpAnyH_take (i := 32) (oi := ⟨some 128, .load 23 (.tmp 127), 23, "law.go:99", #[⟨31, .data⟩, ⟨26, .guard⟩], some (26, true)⟩) (v := ?_) rfl (by kernel_rfl) (by kernel_rfl) (by kernel_rfl) (fun _ _ _ h => h) (Or.inl ⟨by rfl, ?_⟩) (by assumption) ?_
        rotate_left
        · (intro wS hSw; (try dsimp only at hSw); go_simp; (try with_reducible rfl))
        try simp only [Act.put, pz1, pz2, pz3]
        refine wpAnyH_ready (rs := [28]) (by kernel_rfl) (by simp) ?_
        refine AllReadyH.cons (o := ⟨some 124, .call { callee := .value (.func 31), args := #[.tmp 123], argTypes := #[27] }, 23, "law.go:99", #[⟨27, .data⟩, ⟨26, .chain⟩, ⟨26, .guard⟩], some (26, true)⟩) rfl (fun K hK => ?_) AllReadyH.nil
        go_simp
        (first | (go_at_call 26; ((with_reducible refine (ops_any _ _ _ _ _ _ _ _ _ _ _ _ _ s (by first | exact h.cl.chip | exact (Two.drew h).cl.chip)).mono ?_); rintro e' wN ⟨rfl, rfl⟩; skip)) | (go_at_call 28; ((with_reducible refine (cuts_any _ _ _ _ _ _ _ _ _ _ _ _ _ s (by first | exact h.cl.chip | exact (Two.drew h).cl.chip)).mono ?_); rintro e' wN ⟨rfl, rfl⟩; skip)) | (go_at_call 25; ((with_reducible refine (on_v _ _ _ _ _ _ _ _ _ _ _ _ true _ s (by first | exact h.cl.chip | exact (Two.drew h).cl.chip) HO).mono ?_); rintro e' wN ⟨rfl, rfl⟩; skip)) | (go_at_call 31; ((with_reducible refine (geometry_any _ _ _ _ _ _ _ _ _ _ _ _ _ s (by first | exact h.cl.chip | exact (Two.drew h).cl.chip)).mono ?_); rintro e' wN ⟨rfl, hb⟩; (try have hb := undrew hb); replace hBr := btr hBr hBr.size hb; replace h := h.below hb; clear y0 y1 y2 y3 y4 y10 y11 y12; obtain ⟨NP, NB, RWc, cB, HCC⟩ := h.rl.cells; have y0 := HCC.y0; have y1 := HCC.y1; have y2 := HCC.y2; have y3 := HCC.y3; have y4 := HCC.y4; have y10 := HCC.y10; have y11 := HCC.y11; have y12 := HCC.y12; rw [ho] at y12; simp only [Bool.not_true, Bool.not_false] at y12)))
        go_wp2_with fail
        refine hK.out _ _ ?_ (fun hNew => ?_)
        · (first | exact ⟨y0, y1, y2, y3, y4, y10, y11, y12⟩ | assumption)
        clear hK K hHeld
        have hHeld := hNew
        clear hNew
        try simp only [Act.put, pz1, pz2, pz3]
        refine wpAnyH_take (i := 33) (oi := ⟨some 129, .binOp .eql 23 (.tmp 124) (.tmp 128) 23, 4, "law.go:99", #[⟨28, .data⟩, ⟨32, .data⟩, ⟨26, .guard⟩], some (26, true)⟩) (v := ?_) rfl (by kernel_rfl) (by kernel_rfl) (by kernel_rfl) (fun _ _ _ h => h) (Or.inl ⟨by rfl, ?_⟩) (by assumption) ?_
        rotate_left
        · (intro wS hSw; (try dsimp only at hSw); go_simp; (try with_reducible rfl))
        try simp only [Act.put, pz1, pz2, pz3]
        refine wpAnyH_take (i := 34) (oi := ⟨some 130, .pick (.tmp 122) (.tmp 129) (.const (.bool false)), 4, "law.go:99", #[⟨26, .data⟩, ⟨33, .data⟩], none⟩) (v := ?_) rfl (by kernel_rfl) (by kernel_rfl) (by kernel_rfl) (fun _ _ _ h => h) (Or.inl ⟨by rfl, ?_⟩) (by assumption) ?_
        rotate_left
        · (intro wS hSw; (try dsimp only at hSw); go_simp; (try with_reducible rfl))
        try simp only [Act.put, pz1, pz2, pz3]
        refine wpAnyH_take (i := 35) (oi := ⟨some 4, .assign (.tmp 130), 4, "law.go:99", #[⟨34, .data⟩, ⟨28, .chain⟩, ⟨0, .phase⟩, ⟨1, .phase⟩, ⟨2, .phase⟩, ⟨3, .phase⟩, ⟨4, .phase⟩, ⟨5, .phase⟩, ⟨6, .phase⟩, ⟨7, .phase⟩, ⟨8, .phase⟩, ⟨9, .phase⟩, ⟨10, .phase⟩, ⟨11, .phase⟩, ⟨12, .phase⟩, ⟨13, .phase⟩, ⟨14, .phase⟩, ⟨15, .phase⟩, ⟨16, .phase⟩, ⟨17, .phase⟩, ⟨18, .phase⟩, ⟨19, .phase⟩, ⟨20, .phase⟩, ⟨21, .phase⟩, ⟨22, .phase⟩, ⟨23, .phase⟩, ⟨24, .phase⟩, ⟨25, .phase⟩, ⟨26, .phase⟩, ⟨27, .phase⟩, ⟨28, .phase⟩, ⟨29, .phase⟩, ⟨30, .phase⟩, ⟨31, .phase⟩, ⟨32, .phase⟩, ⟨33, .phase⟩, ⟨34, .phase⟩], none⟩) (v := ?_) rfl (by kernel_rfl) (by kernel_rfl) (by kernel_rfl) (fun _ _ _ h => h) (Or.inl ⟨by rfl, ?_⟩) (by assumption) ?_
        rotate_left
        · (intro wS hSw; (try dsimp only at hSw); go_simp; (try with_reducible rfl))
        try simp only [Act.put, pz1, pz2, pz3]
        refine wpAnyH_done (by kernel_rfl) ?_ _
        refine NoPanic.normal ?_
        go_wp2_with fail
        go_ret
        exact ⟨rfl, hBr⟩
      · have HO := Lib.hid ho
        rw [ho] at y12
        simp only [Bool.not_true, Bool.not_false] at y12
        clear HCC
        go_upto_region 14 with fail
        refine wp_region_noPanic ?_
        refine wp_region_held_drew (S := (fun w' => w'.cell? ⟨mR, 0, none⟩ = some (.int .i64 a) ∧ w'.cell? ⟨mR, 1, none⟩ = some (.int .i64 b) ∧ w'.cell? ⟨mR, 2, none⟩ = some (.int .i64 c) ∧ w'.cell? ⟨mR, 3, none⟩ = some (.int .i64 d) ∧ w'.cell? ⟨mR, 4, none⟩ = some (.int .i64 e) ∧ w'.cell? ⟨mR, 10, none⟩ = some (.int .i64 s.ops) ∧ w'.cell? ⟨mR, 11, none⟩ = some (.int .i64 s.cuts) ∧ w'.cell? ⟨mR, 12, none⟩ = some (.bool true))) (by kernel_rfl) ?_ (fun hHeld => ?_)
        · (first | exact ⟨y0, y1, y2, y3, y4, y10, y11, y12⟩ | assumption)
        refine wpAnyH_take (i := 0) (oi := ⟨some 96, .move (.tmp 0), 27, "law.go:99", #[], none⟩) (v := ?_) rfl (by kernel_rfl) (by kernel_rfl) (by kernel_rfl) (fun _ _ _ h => h) (Or.inl ⟨by rfl, ?_⟩) (by assumption) ?_
        rotate_left
        · (intro wS hSw; (try dsimp only at hSw); go_simp; (try with_reducible rfl))
        try simp only [Act.put, pz1, pz2, pz3]
        refine wpAnyH_take (i := 2) (oi := ⟨some 98, .move (.tmp 1), 29, "law.go:99", #[], none⟩) (v := ?_) rfl (by kernel_rfl) (by kernel_rfl) (by kernel_rfl) (fun _ _ _ h => h) (Or.inl ⟨by rfl, ?_⟩) (by assumption) ?_
        rotate_left
        · (intro wS hSw; (try dsimp only at hSw); go_simp; (try with_reducible rfl))
        try simp only [Act.put, pz1, pz2, pz3]
        refine wpAnyH_take (i := 3) (oi := ⟨some 99, .nilCheck (.tmp 98), 0, "law.go:99", #[⟨2, .data⟩], none⟩) (v := ?_) rfl (by kernel_rfl) (by kernel_rfl) (by kernel_rfl) (fun _ _ _ h => h) (Or.inl ⟨by rfl, ?_⟩) (by assumption) ?_
        rotate_left
        · (intro wS hSw; (try dsimp only at hSw); go_simp; (try with_reducible rfl))
        try simp only [Act.put, pz1, pz2, pz3]
        refine wpAnyH_take (i := 4) (oi := ⟨some 100, .fieldAddr 42 (.tmp 99) 6, 0, "law.go:99", #[⟨3, .data⟩], none⟩) (v := ?_) rfl (by kernel_rfl) (by kernel_rfl) (by kernel_rfl) (fun _ _ _ h => h) (Or.inl ⟨by rfl, ?_⟩) (by assumption) ?_
        rotate_left
        · (intro wS hSw; (try dsimp only at hSw); go_simp; (try with_reducible rfl))
        try simp only [Act.put, pz1, pz2, pz3]
        refine wpAnyH_take (i := 5) (oi := ⟨some 101, .load 3 (.tmp 100), 3, "law.go:99", #[⟨4, .data⟩], none⟩) (v := ?_) rfl (by kernel_rfl) (by kernel_rfl) (by kernel_rfl) (fun _ _ _ h => h) (Or.inl ⟨by rfl, ?_⟩) (by assumption) ?_
        rotate_left
        · (intro wS hSw; (try dsimp only at hSw); go_simp; (try with_reducible rfl))
        try simp only [Act.put, pz1, pz2, pz3]
        refine wpAnyH_ready (rs := [1]) (by kernel_rfl) (by simp) ?_
        refine AllReadyH.cons (o := ⟨some 97, .call { callee := .value (.func 26), args := #[.tmp 96], argTypes := #[27] }, 3, "law.go:99", #[⟨0, .data⟩], none⟩) rfl (fun K hK => ?_) AllReadyH.nil
        go_simp
        (first | (go_at_call 26; ((with_reducible refine (ops_any _ _ _ _ _ _ _ _ _ _ _ _ _ s (by first | exact h.cl.chip | exact (Two.drew h).cl.chip)).mono ?_); rintro e' wN ⟨rfl, rfl⟩; skip)) | (go_at_call 28; ((with_reducible refine (cuts_any _ _ _ _ _ _ _ _ _ _ _ _ _ s (by first | exact h.cl.chip | exact (Two.drew h).cl.chip)).mono ?_); rintro e' wN ⟨rfl, rfl⟩; skip)) | (go_at_call 25; ((with_reducible refine (on_v _ _ _ _ _ _ _ _ _ _ _ _ false _ s (by first | exact h.cl.chip | exact (Two.drew h).cl.chip) HO).mono ?_); rintro e' wN ⟨rfl, rfl⟩; skip)) | (go_at_call 31; ((with_reducible refine (geometry_any _ _ _ _ _ _ _ _ _ _ _ _ _ s (by first | exact h.cl.chip | exact (Two.drew h).cl.chip)).mono ?_); rintro e' wN ⟨rfl, hb⟩; (try have hb := undrew hb); replace hBr := btr hBr hBr.size hb; replace h := h.below hb; clear y0 y1 y2 y3 y4 y10 y11 y12; obtain ⟨NP, NB, RWc, cB, HCC⟩ := h.rl.cells; have y0 := HCC.y0; have y1 := HCC.y1; have y2 := HCC.y2; have y3 := HCC.y3; have y4 := HCC.y4; have y10 := HCC.y10; have y11 := HCC.y11; have y12 := HCC.y12; rw [ho] at y12; simp only [Bool.not_true, Bool.not_false] at y12)))
        go_wp2_with fail
        refine hK.out _ _ ?_ (fun hNew => ?_)
        · (first | exact ⟨y0, y1, y2, y3, y4, y10, y11, y12⟩ | assumption)
        clear hK K hHeld
        have hHeld := hNew
        clear hNew
        try simp only [Act.put, pz1, pz2, pz3]
        refine wpAnyH_take (i := 6) (oi := ⟨some 102, .binOp .eql 3 (.tmp 97) (.tmp 101) 3, 4, "law.go:99", #[⟨1, .data⟩, ⟨5, .data⟩], none⟩) (v := ?_) rfl (by kernel_rfl) (by kernel_rfl) (by kernel_rfl) (fun _ _ _ h => h) (Or.inl ⟨by rfl, ?_⟩) (by assumption) ?_
        rotate_left
        · (intro wS hSw; (try dsimp only at hSw); go_simp; (try with_reducible rfl))
        try simp only [Act.put, pz1, pz2, pz3]
        refine wpAnyH_take (i := 7) (oi := ⟨some 103, .move (.tmp 102), 4, "law.go:99", #[⟨6, .data⟩, ⟨1, .chain⟩], none⟩) (v := ?_) rfl (by kernel_rfl) (by kernel_rfl) (by kernel_rfl) (fun _ _ _ h => h) (Or.inl ⟨by rfl, ?_⟩) (by assumption) ?_
        rotate_left
        · (intro wS hSw; (try dsimp only at hSw); go_simp; (try with_reducible rfl))
        try simp only [Act.put, pz1, pz2, pz3]
        refine wpAnyH_take (i := 8) (oi := ⟨some 104, .move (.tmp 0), 27, "law.go:99", #[⟨7, .guard⟩], some (7, true)⟩) (v := ?_) rfl (by kernel_rfl) (by kernel_rfl) (by kernel_rfl) (fun _ _ _ h => h) (Or.inl ⟨by rfl, ?_⟩) (by assumption) ?_
        rotate_left
        · (intro wS hSw; (try dsimp only at hSw); go_simp; (try with_reducible rfl))
        try simp only [Act.put, pz1, pz2, pz3]
        refine wpAnyH_take (i := 10) (oi := ⟨some 106, .move (.tmp 1), 29, "law.go:99", #[⟨7, .guard⟩], some (7, true)⟩) (v := ?_) rfl (by kernel_rfl) (by kernel_rfl) (by kernel_rfl) (fun _ _ _ h => h) (Or.inl ⟨by rfl, ?_⟩) (by assumption) ?_
        rotate_left
        · (intro wS hSw; (try dsimp only at hSw); go_simp; (try with_reducible rfl))
        try simp only [Act.put, pz1, pz2, pz3]
        refine wpAnyH_take (i := 11) (oi := ⟨some 107, .nilCheck (.tmp 106), 0, "law.go:99", #[⟨10, .data⟩, ⟨7, .guard⟩], some (7, true)⟩) (v := ?_) rfl (by kernel_rfl) (by kernel_rfl) (by kernel_rfl) (fun _ _ _ h => h) (Or.inl ⟨by rfl, ?_⟩) (by assumption) ?_
        rotate_left
        · (intro wS hSw; (try dsimp only at hSw); go_simp; (try with_reducible rfl))
        try simp only [Act.put, pz1, pz2, pz3]
        refine wpAnyH_take (i := 12) (oi := ⟨some 108, .fieldAddr 42 (.tmp 107) 7, 0, "law.go:99", #[⟨11, .data⟩, ⟨7, .guard⟩], some (7, true)⟩) (v := ?_) rfl (by kernel_rfl) (by kernel_rfl) (by kernel_rfl) (fun _ _ _ h => h) (Or.inl ⟨by rfl, ?_⟩) (by assumption) ?_
        rotate_left
        · (intro wS hSw; (try dsimp only at hSw); go_simp; (try with_reducible rfl))
        try simp only [Act.put, pz1, pz2, pz3]
        refine wpAnyH_take (i := 13) (oi := ⟨some 109, .load 3 (.tmp 108), 3, "law.go:99", #[⟨12, .data⟩, ⟨7, .guard⟩], some (7, true)⟩) (v := ?_) rfl (by kernel_rfl) (by kernel_rfl) (by kernel_rfl) (fun _ _ _ h => h) (Or.inl ⟨by rfl, ?_⟩) (by assumption) ?_
        rotate_left
        · (intro wS hSw; (try dsimp only at hSw); go_simp; (try with_reducible rfl))
        try simp only [Act.put, pz1, pz2, pz3]
        refine wpAnyH_ready (rs := [9]) (by kernel_rfl) (by simp) ?_
        refine AllReadyH.cons (o := ⟨some 105, .call { callee := .value (.func 28), args := #[.tmp 104], argTypes := #[27] }, 3, "law.go:99", #[⟨8, .data⟩, ⟨7, .chain⟩, ⟨7, .guard⟩], some (7, true)⟩) rfl (fun K hK => ?_) AllReadyH.nil
        go_simp
        (first | (go_at_call 26; ((with_reducible refine (ops_any _ _ _ _ _ _ _ _ _ _ _ _ _ s (by first | exact h.cl.chip | exact (Two.drew h).cl.chip)).mono ?_); rintro e' wN ⟨rfl, rfl⟩; skip)) | (go_at_call 28; ((with_reducible refine (cuts_any _ _ _ _ _ _ _ _ _ _ _ _ _ s (by first | exact h.cl.chip | exact (Two.drew h).cl.chip)).mono ?_); rintro e' wN ⟨rfl, rfl⟩; skip)) | (go_at_call 25; ((with_reducible refine (on_v _ _ _ _ _ _ _ _ _ _ _ _ false _ s (by first | exact h.cl.chip | exact (Two.drew h).cl.chip) HO).mono ?_); rintro e' wN ⟨rfl, rfl⟩; skip)) | (go_at_call 31; ((with_reducible refine (geometry_any _ _ _ _ _ _ _ _ _ _ _ _ _ s (by first | exact h.cl.chip | exact (Two.drew h).cl.chip)).mono ?_); rintro e' wN ⟨rfl, hb⟩; (try have hb := undrew hb); replace hBr := btr hBr hBr.size hb; replace h := h.below hb; clear y0 y1 y2 y3 y4 y10 y11 y12; obtain ⟨NP, NB, RWc, cB, HCC⟩ := h.rl.cells; have y0 := HCC.y0; have y1 := HCC.y1; have y2 := HCC.y2; have y3 := HCC.y3; have y4 := HCC.y4; have y10 := HCC.y10; have y11 := HCC.y11; have y12 := HCC.y12; rw [ho] at y12; simp only [Bool.not_true, Bool.not_false] at y12)))
        go_wp2_with fail
        refine hK.out _ _ ?_ (fun hNew => ?_)
        · (first | exact ⟨y0, y1, y2, y3, y4, y10, y11, y12⟩ | assumption)
        clear hK K hHeld
        have hHeld := hNew
        clear hNew
        try simp only [Act.put, pz1, pz2, pz3]
        refine wpAnyH_take (i := 14) (oi := ⟨some 110, .binOp .eql 3 (.tmp 105) (.tmp 109) 3, 4, "law.go:99", #[⟨9, .data⟩, ⟨13, .data⟩, ⟨7, .guard⟩], some (7, true)⟩) (v := ?_) rfl (by kernel_rfl) (by kernel_rfl) (by kernel_rfl) (fun _ _ _ h => h) (Or.inl ⟨by rfl, ?_⟩) (by assumption) ?_
        rotate_left
        · (intro wS hSw; (try dsimp only at hSw); go_simp; (try with_reducible rfl))
        try simp only [Act.put, pz1, pz2, pz3]
        refine wpAnyH_take (i := 15) (oi := ⟨some 111, .pick (.tmp 103) (.tmp 110) (.const (.bool false)), 4, "law.go:99", #[⟨7, .data⟩, ⟨14, .data⟩], none⟩) (v := ?_) rfl (by kernel_rfl) (by kernel_rfl) (by kernel_rfl) (fun _ _ _ h => h) (Or.inl ⟨by rfl, ?_⟩) (by assumption) ?_
        rotate_left
        · (intro wS hSw; (try dsimp only at hSw); go_simp; (try with_reducible rfl))
        try simp only [Act.put, pz1, pz2, pz3]
        refine wpAnyH_take (i := 16) (oi := ⟨some 112, .move (.tmp 111), 4, "law.go:99", #[⟨15, .data⟩, ⟨9, .chain⟩], none⟩) (v := ?_) rfl (by kernel_rfl) (by kernel_rfl) (by kernel_rfl) (fun _ _ _ h => h) (Or.inl ⟨by rfl, ?_⟩) (by assumption) ?_
        rotate_left
        · (intro wS hSw; (try dsimp only at hSw); go_simp; (try with_reducible rfl))
        try simp only [Act.put, pz1, pz2, pz3]
        refine wpAnyH_take (i := 17) (oi := ⟨some 113, .move (.tmp 0), 27, "law.go:99", #[⟨16, .guard⟩], some (16, true)⟩) (v := ?_) rfl (by kernel_rfl) (by kernel_rfl) (by kernel_rfl) (fun _ _ _ h => h) (Or.inl ⟨by rfl, ?_⟩) (by assumption) ?_
        rotate_left
        · (intro wS hSw; (try dsimp only at hSw); go_simp; (try with_reducible rfl))
        try simp only [Act.put, pz1, pz2, pz3]
        refine wpAnyH_take (i := 19) (oi := ⟨some 115, .move (.tmp 1), 29, "law.go:99", #[⟨16, .guard⟩], some (16, true)⟩) (v := ?_) rfl (by kernel_rfl) (by kernel_rfl) (by kernel_rfl) (fun _ _ _ h => h) (Or.inl ⟨by rfl, ?_⟩) (by assumption) ?_
        rotate_left
        · (intro wS hSw; (try dsimp only at hSw); go_simp; (try with_reducible rfl))
        try simp only [Act.put, pz1, pz2, pz3]
        refine wpAnyH_take (i := 20) (oi := ⟨some 116, .nilCheck (.tmp 115), 0, "law.go:99", #[⟨19, .data⟩, ⟨16, .guard⟩], some (16, true)⟩) (v := ?_) rfl (by kernel_rfl) (by kernel_rfl) (by kernel_rfl) (fun _ _ _ h => h) (Or.inl ⟨by rfl, ?_⟩) (by assumption) ?_
        rotate_left
        · (intro wS hSw; (try dsimp only at hSw); go_simp; (try with_reducible rfl))
        try simp only [Act.put, pz1, pz2, pz3]
        refine wpAnyH_take (i := 21) (oi := ⟨some 117, .fieldAddr 42 (.tmp 116) 8, 0, "law.go:99", #[⟨20, .data⟩, ⟨16, .guard⟩], some (16, true)⟩) (v := ?_) rfl (by kernel_rfl) (by kernel_rfl) (by kernel_rfl) (fun _ _ _ h => h) (Or.inl ⟨by rfl, ?_⟩) (by assumption) ?_
        rotate_left
        · (intro wS hSw; (try dsimp only at hSw); go_simp; (try with_reducible rfl))
        try simp only [Act.put, pz1, pz2, pz3]
        refine wpAnyH_take (i := 22) (oi := ⟨some 118, .load 4 (.tmp 117), 4, "law.go:99", #[⟨21, .data⟩, ⟨16, .guard⟩], some (16, true)⟩) (v := ?_) rfl (by kernel_rfl) (by kernel_rfl) (by kernel_rfl) (fun _ _ _ h => h) (Or.inl ⟨by rfl, ?_⟩) (by assumption) ?_
        rotate_left
        · (intro wS hSw; (try dsimp only at hSw); go_simp; (try with_reducible rfl))
        try simp only [Act.put, pz1, pz2, pz3]
        refine wpAnyH_take (i := 23) (oi := ⟨some 119, .unOp .not 4 (.tmp 118), 4, "law.go:99", #[⟨22, .data⟩, ⟨16, .guard⟩], some (16, true)⟩) (v := ?_) rfl (by kernel_rfl) (by kernel_rfl) (by kernel_rfl) (fun _ _ _ h => h) (Or.inl ⟨by rfl, ?_⟩) (by assumption) ?_
        rotate_left
        · (intro wS hSw; (try dsimp only at hSw); go_simp; (try with_reducible rfl))
        try simp only [Act.put, pz1, pz2, pz3]
        refine wpAnyH_ready (rs := [18]) (by kernel_rfl) (by simp) ?_
        refine AllReadyH.cons (o := ⟨some 114, .call { callee := .value (.func 25), args := #[.tmp 113], argTypes := #[27] }, 4, "law.go:99", #[⟨17, .data⟩, ⟨16, .chain⟩, ⟨16, .guard⟩], some (16, true)⟩) rfl (fun K hK => ?_) AllReadyH.nil
        go_simp
        (first | (go_at_call 26; ((with_reducible refine (ops_any _ _ _ _ _ _ _ _ _ _ _ _ _ s (by first | exact h.cl.chip | exact (Two.drew h).cl.chip)).mono ?_); rintro e' wN ⟨rfl, rfl⟩; skip)) | (go_at_call 28; ((with_reducible refine (cuts_any _ _ _ _ _ _ _ _ _ _ _ _ _ s (by first | exact h.cl.chip | exact (Two.drew h).cl.chip)).mono ?_); rintro e' wN ⟨rfl, rfl⟩; skip)) | (go_at_call 25; ((with_reducible refine (on_v _ _ _ _ _ _ _ _ _ _ _ _ false _ s (by first | exact h.cl.chip | exact (Two.drew h).cl.chip) HO).mono ?_); rintro e' wN ⟨rfl, rfl⟩; skip)) | (go_at_call 31; ((with_reducible refine (geometry_any _ _ _ _ _ _ _ _ _ _ _ _ _ s (by first | exact h.cl.chip | exact (Two.drew h).cl.chip)).mono ?_); rintro e' wN ⟨rfl, hb⟩; (try have hb := undrew hb); replace hBr := btr hBr hBr.size hb; replace h := h.below hb; clear y0 y1 y2 y3 y4 y10 y11 y12; obtain ⟨NP, NB, RWc, cB, HCC⟩ := h.rl.cells; have y0 := HCC.y0; have y1 := HCC.y1; have y2 := HCC.y2; have y3 := HCC.y3; have y4 := HCC.y4; have y10 := HCC.y10; have y11 := HCC.y11; have y12 := HCC.y12; rw [ho] at y12; simp only [Bool.not_true, Bool.not_false] at y12)))
        go_wp2_with fail
        refine hK.out _ _ ?_ (fun hNew => ?_)
        · (first | exact ⟨y0, y1, y2, y3, y4, y10, y11, y12⟩ | assumption)
        clear hK K hHeld
        have hHeld := hNew
        clear hNew
        try simp only [Act.put, pz1, pz2, pz3]
        refine wpAnyH_take (i := 24) (oi := ⟨some 120, .binOp .eql 4 (.tmp 114) (.tmp 119) 4, 4, "law.go:99", #[⟨18, .data⟩, ⟨23, .data⟩, ⟨16, .guard⟩], some (16, true)⟩) (v := ?_) rfl (by kernel_rfl) (by kernel_rfl) (by kernel_rfl) (fun _ _ _ h => h) (Or.inl ⟨by rfl, ?_⟩) (by assumption) ?_
        rotate_left
        · (intro wS hSw; (try dsimp only at hSw); go_simp; (try with_reducible rfl))
        try simp only [Act.put, pz1, pz2, pz3]
        refine wpAnyH_take (i := 25) (oi := ⟨some 121, .pick (.tmp 112) (.tmp 120) (.const (.bool false)), 4, "law.go:99", #[⟨16, .data⟩, ⟨24, .data⟩], none⟩) (v := ?_) rfl (by kernel_rfl) (by kernel_rfl) (by kernel_rfl) (fun _ _ _ h => h) (Or.inl ⟨by rfl, ?_⟩) (by assumption) ?_
        rotate_left
        · (intro wS hSw; (try dsimp only at hSw); go_simp; (try with_reducible rfl))
        try simp only [Act.put, pz1, pz2, pz3]
        refine wpAnyH_take (i := 26) (oi := ⟨some 122, .move (.tmp 121), 4, "law.go:99", #[⟨25, .data⟩, ⟨18, .chain⟩], none⟩) (v := ?_) rfl (by kernel_rfl) (by kernel_rfl) (by kernel_rfl) (fun _ _ _ h => h) (Or.inl ⟨by rfl, ?_⟩) (by assumption) ?_
        rotate_left
        · (intro wS hSw; (try dsimp only at hSw); go_simp; (try with_reducible rfl))
        try simp only [Act.put, pz1, pz2, pz3]
        refine wpAnyH_take (i := 27) (oi := ⟨some 123, .move (.tmp 0), 27, "law.go:99", #[⟨26, .guard⟩], some (26, true)⟩) (v := ?_) rfl (by kernel_rfl) (by kernel_rfl) (by kernel_rfl) (fun _ _ _ h => h) (Or.inl ⟨by rfl, ?_⟩) (by assumption) ?_
        rotate_left
        · (intro wS hSw; (try dsimp only at hSw); go_simp; (try with_reducible rfl))
        try simp only [Act.put, pz1, pz2, pz3]
        refine wpAnyH_take (i := 29) (oi := ⟨some 125, .move (.tmp 1), 29, "law.go:99", #[⟨26, .guard⟩], some (26, true)⟩) (v := ?_) rfl (by kernel_rfl) (by kernel_rfl) (by kernel_rfl) (fun _ _ _ h => h) (Or.inl ⟨by rfl, ?_⟩) (by assumption) ?_
        rotate_left
        · (intro wS hSw; (try dsimp only at hSw); go_simp; (try with_reducible rfl))
        try simp only [Act.put, pz1, pz2, pz3]
        refine wpAnyH_take (i := 30) (oi := ⟨some 126, .nilCheck (.tmp 125), 0, "law.go:99", #[⟨29, .data⟩, ⟨26, .guard⟩], some (26, true)⟩) (v := ?_) rfl (by kernel_rfl) (by kernel_rfl) (by kernel_rfl) (fun _ _ _ h => h) (Or.inl ⟨by rfl, ?_⟩) (by assumption) ?_
        rotate_left
        · (intro wS hSw; (try dsimp only at hSw); go_simp; (try with_reducible rfl))
        try simp only [Act.put, pz1, pz2, pz3]
        refine wpAnyH_take (i := 31) (oi := ⟨some 127, .fieldAddr 42 (.tmp 126) 0, 0, "law.go:99", #[⟨30, .data⟩, ⟨26, .guard⟩], some (26, true)⟩) (v := ?_) rfl (by kernel_rfl) (by kernel_rfl) (by kernel_rfl) (fun _ _ _ h => h) (Or.inl ⟨by rfl, ?_⟩) (by assumption) ?_
        rotate_left
        · (intro wS hSw; (try dsimp only at hSw); go_simp; (try with_reducible rfl))
        try simp only [Act.put, pz1, pz2, pz3]
        refine wpAnyH_take (i := 32) (oi := ⟨some 128, .load 23 (.tmp 127), 23, "law.go:99", #[⟨31, .data⟩, ⟨26, .guard⟩], some (26, true)⟩) (v := ?_) rfl (by kernel_rfl) (by kernel_rfl) (by kernel_rfl) (fun _ _ _ h => h) (Or.inl ⟨by rfl, ?_⟩) (by assumption) ?_
        rotate_left
        · (intro wS hSw; (try dsimp only at hSw); go_simp; (try with_reducible rfl))
        try simp only [Act.put, pz1, pz2, pz3]
        refine wpAnyH_ready (rs := [28]) (by kernel_rfl) (by simp) ?_
        refine AllReadyH.cons (o := ⟨some 124, .call { callee := .value (.func 31), args := #[.tmp 123], argTypes := #[27] }, 23, "law.go:99", #[⟨27, .data⟩, ⟨26, .chain⟩, ⟨26, .guard⟩], some (26, true)⟩) rfl (fun K hK => ?_) AllReadyH.nil
        go_simp
        (first | (go_at_call 26; ((with_reducible refine (ops_any _ _ _ _ _ _ _ _ _ _ _ _ _ s (by first | exact h.cl.chip | exact (Two.drew h).cl.chip)).mono ?_); rintro e' wN ⟨rfl, rfl⟩; skip)) | (go_at_call 28; ((with_reducible refine (cuts_any _ _ _ _ _ _ _ _ _ _ _ _ _ s (by first | exact h.cl.chip | exact (Two.drew h).cl.chip)).mono ?_); rintro e' wN ⟨rfl, rfl⟩; skip)) | (go_at_call 25; ((with_reducible refine (on_v _ _ _ _ _ _ _ _ _ _ _ _ false _ s (by first | exact h.cl.chip | exact (Two.drew h).cl.chip) HO).mono ?_); rintro e' wN ⟨rfl, rfl⟩; skip)) | (go_at_call 31; ((with_reducible refine (geometry_any _ _ _ _ _ _ _ _ _ _ _ _ _ s (by first | exact h.cl.chip | exact (Two.drew h).cl.chip)).mono ?_); rintro e' wN ⟨rfl, hb⟩; (try have hb := undrew hb); replace hBr := btr hBr hBr.size hb; replace h := h.below hb; clear y0 y1 y2 y3 y4 y10 y11 y12; obtain ⟨NP, NB, RWc, cB, HCC⟩ := h.rl.cells; have y0 := HCC.y0; have y1 := HCC.y1; have y2 := HCC.y2; have y3 := HCC.y3; have y4 := HCC.y4; have y10 := HCC.y10; have y11 := HCC.y11; have y12 := HCC.y12; rw [ho] at y12; simp only [Bool.not_true, Bool.not_false] at y12)))
        go_wp2_with fail
        refine hK.out _ _ ?_ (fun hNew => ?_)
        · (first | exact ⟨y0, y1, y2, y3, y4, y10, y11, y12⟩ | assumption)
        clear hK K hHeld
        have hHeld := hNew
        clear hNew
        try simp only [Act.put, pz1, pz2, pz3]
        refine wpAnyH_take (i := 33) (oi := ⟨some 129, .binOp .eql 23 (.tmp 124) (.tmp 128) 23, 4, "law.go:99", #[⟨28, .data⟩, ⟨32, .data⟩, ⟨26, .guard⟩], some (26, true)⟩) (v := ?_) rfl (by kernel_rfl) (by kernel_rfl) (by kernel_rfl) (fun _ _ _ h => h) (Or.inl ⟨by rfl, ?_⟩) (by assumption) ?_
        rotate_left
        · (intro wS hSw; (try dsimp only at hSw); go_simp; (try with_reducible rfl))
        try simp only [Act.put, pz1, pz2, pz3]
        refine wpAnyH_take (i := 34) (oi := ⟨some 130, .pick (.tmp 122) (.tmp 129) (.const (.bool false)), 4, "law.go:99", #[⟨26, .data⟩, ⟨33, .data⟩], none⟩) (v := ?_) rfl (by kernel_rfl) (by kernel_rfl) (by kernel_rfl) (fun _ _ _ h => h) (Or.inl ⟨by rfl, ?_⟩) (by assumption) ?_
        rotate_left
        · (intro wS hSw; (try dsimp only at hSw); go_simp; (try with_reducible rfl))
        try simp only [Act.put, pz1, pz2, pz3]
        refine wpAnyH_take (i := 35) (oi := ⟨some 4, .assign (.tmp 130), 4, "law.go:99", #[⟨34, .data⟩, ⟨28, .chain⟩, ⟨0, .phase⟩, ⟨1, .phase⟩, ⟨2, .phase⟩, ⟨3, .phase⟩, ⟨4, .phase⟩, ⟨5, .phase⟩, ⟨6, .phase⟩, ⟨7, .phase⟩, ⟨8, .phase⟩, ⟨9, .phase⟩, ⟨10, .phase⟩, ⟨11, .phase⟩, ⟨12, .phase⟩, ⟨13, .phase⟩, ⟨14, .phase⟩, ⟨15, .phase⟩, ⟨16, .phase⟩, ⟨17, .phase⟩, ⟨18, .phase⟩, ⟨19, .phase⟩, ⟨20, .phase⟩, ⟨21, .phase⟩, ⟨22, .phase⟩, ⟨23, .phase⟩, ⟨24, .phase⟩, ⟨25, .phase⟩, ⟨26, .phase⟩, ⟨27, .phase⟩, ⟨28, .phase⟩, ⟨29, .phase⟩, ⟨30, .phase⟩, ⟨31, .phase⟩, ⟨32, .phase⟩, ⟨33, .phase⟩, ⟨34, .phase⟩], none⟩) (v := ?_) rfl (by kernel_rfl) (by kernel_rfl) (by kernel_rfl) (fun _ _ _ h => h) (Or.inl ⟨by rfl, ?_⟩) (by assumption) ?_
        rotate_left
        · (intro wS hSw; (try dsimp only at hSw); go_simp; (try with_reducible rfl))
        try simp only [Act.put, pz1, pz2, pz3]
        refine wpAnyH_done (by kernel_rfl) ?_ _
        refine NoPanic.normal ?_
        go_wp2_with fail
        go_ret
        exact ⟨rfl, hBr⟩
end Go.Proofs.Ytplniojeaodjiaa
namespace Go.Proofs.Ytplniojeaodjiaa
open Go.ChangeShapes Go.WideShapes Go.ChangeAt Go.RowKit
set_option linter.unusedSimpArgs false
set_option linter.unusedVariables false

theorem rpmay_b (a b c d e : Int) (fs : List Flt) (A : Option Addr) (c0 : Nat) (T : Bool) (w : World) (hs : SlF w w.heap.size A fs) (h : Hid (planMay a b c d e fs = T)) : Calls Try.prog 37 #[.agg #[.int .i64 a, .int .i64 b, .int .i64 c, .int .i64 d, .int .i64 e], .slice A fs.length c0] w fun e' w' => e' = .returned (.bool T) ∧ Below w.heap.size w w' := by
  have := rpMay_any a b c d e fs A c0 w hs
  rwa [h.out] at this
theorem rnew_no (a b c d e : Int) (fs : List Flt) (A : Option Addr) (c0 : Nat) (w : World) (hs : SlF w w.heap.size A fs) (HP : Hid (planMay a b c d e fs = false)) : Calls Try.prog 12 #[.agg #[.int .i64 a, .int .i64 b, .int .i64 c, .int .i64 d, .int .i64 e], .slice A fs.length c0] w fun e' w' => e' = .returned (.pointer none) ∧ Below w.heap.size w w' := by
  have HB0 : Below w.heap.size w (w.alloc (.cells #[.int .i64 a, .int .i64 b, .int .i64 c, .int .i64 d, .int .i64 e] 23)) := (Below.refl _ _).alloc (Nat.le_refl _) _
  have G1 : Blk (w.alloc (.cells #[.int .i64 a, .int .i64 b, .int .i64 c, .int .i64 d, .int .i64 e] 23)) w.heap.size 23 #[.int .i64 a, .int .i64 b, .int .i64 c, .int .i64 d, .int .i64 e] := Blk.new_ _ _ _
  have HSF := hs.next HB0
  go_enter Try.func12, Try.ntmps12
  go_wp2_with (go_at_call 37; ((with_reducible refine (rpmay_b a b c d e fs _ _ _ _ HSF HP).mono ?_); rintro e' wN ⟨rfl, hb⟩; replace HSF := HSF.next hb; replace HB0 := btr HB0 HB0.size hb; replace G1 := G1.below hb G1.lt))
  go_ret
  exact ⟨rfl, HB0⟩
/-- A page of its own that is new. -/
structure PgN (w : World) (RW m gN gW gD : Nat) (vB : Value) (p : Nat × Nat) : Prop where
  lt : p.1 < w.heap.size
  nm : p.1 ≠ m ∧ p.1 ≠ gN ∧ p.1 ≠ gW ∧ p.1 ≠ gD
  nb : some p.1 ≠ vB.ownBlock
  cap : RW ≤ p.2
  cap2 : p.2 ≤ maxLen
  cell : ∀ j, j < RW → w.cell? ⟨p.1, j, none⟩ = some (byteV 255)
theorem PgN.keep {w w' : World} {RW m gN gW gD : Nat} {vB vB' : Value} {p : Nat × Nat} (h : PgN w RW m gN gW gD vB p) (hz : w.heap.size ≤ w'.heap.size) (hk : w'.heap[p.1]? = w.heap[p.1]?) (hv : vB'.ownBlock = vB.ownBlock ∨ ∀ g, vB'.ownBlock = some g → w.heap.size ≤ g) : PgN w' RW m gN gW gD vB' p := by
  refine ⟨by have := h.lt; omega, h.nm, ?_, h.cap, h.cap2, fun j hj => (World.cell?_of_block (w := w) hk).trans (h.cell j hj)⟩
  rcases hv with hv | hv
  · rw [hv]; exact h.nb
  · intro e
    have := hv _ e.symm
    have := h.lt
    omega
theorem rd_flt {fs : List Flt} {A : Option Addr} {w : World} (hs : SlF w w.heap.size A fs) : Rd w A fs.length 3 (flatF fs) := by
  refine ⟨flatF_len fs, ?_⟩
  rcases hs with h | ⟨g', off, e, hlt, hc⟩
  · left
    rw [h]
    rfl
  · exact Or.inr ⟨g', off, e, fun j u hu => flatF_rd fs off hc j u hu⟩
/-- The faults, appended to nil: a row of the call's own. -/
theorem wp_appF0 {w : World} {o : Oper} {a : Act} {K : Act → World → Prop} {Q : Exit → Act → World → Prop} (x : Operand)
    (ho : o.op = .call { callee := .builtin .append, args := #[.const (.slice none 0 0), x], argTypes := #[24, 24] }) (hty : o.type = 24)
    (fs : List Flt) (A : Option Addr) (c : Nat) (hx : a.eval x = .slice A fs.length c) (hs : SlF w w.heap.size A fs) (hlen : fs.length ≤ 100000)
    (hK : ∀ w' A' c', FR w' A' fs → FGe A' fs w.heap.size → Below w.heap.size w w' → K (a.put o.dst (.slice A' fs.length c')) w') : Oper.wp Try.prog o a w K Q := by
  obtain ⟨ti0, hi, hz0, hz1, hz2⟩ := info_parts infoF
  refine wp_app w (.const (.slice none 0 0)) x 24 ho w.heap.size 61 ti0 _ 3 24 (by rw [show Try.prog.underlying 24 = _ from Try.underlying24]) hi hz0 hz1 hz2 rfl (by decide) (.slice none 0 0) 0 [] rfl (World.ownsRow_nil _ _ _ _) A fs.length c (flatF fs) hx (rd_flt hs) (flatF_one fs) (by unfold maxLen; omega) (by omega) (Nat.le_refl _) ?_
  intro v' w' ho' hg' hv'
  rw [Nat.zero_add, List.nil_append] at ho'
  obtain ⟨A', c', rfl, hR'⟩ := own_rowF ho'
  refine hK w' A' c' ?_ ?_ ((Below.refl _ _).grown hg' (Nat.le_refl _) (fun k h => by simp [Value.ownBlock] at h))
  · rcases hR' with h | ⟨g', e, h, _⟩
    · exact Or.inl (List.eq_nil_of_length_eq_zero h)
    · exact Or.inr ⟨g', e, h⟩
  · rcases hR' with h | ⟨g', e, _, h⟩
    · exact Or.inl (List.eq_nil_of_length_eq_zero h)
    · exact Or.inr ⟨g', e, h⟩
theorem infoIntR : (Try.prog.info? 3).map (fun i => (i.zero, i.size, i.bytes)) = some (some (.int .i64 0), 1, 8) := by kernel_rfl
/-- A row of zeros of the call's own. -/
theorem wp_makeI {w : World} {o : Oper} {a' : Act} {K : Act → World → Prop} {Q : Exit → Act → World → Prop} (l c : Operand) (hop : o.op = Op.makeSlice 40 l c)
    (a : Int) (NB : Nat) (hl : a'.eval l = .int .i64 a) (hc : a'.eval c = .int .i64 a) (hNB : (NB : Int) = a) (hb : NB ≤ 1000)
    (hK : ∀ w' g, RowT w' g 3 (List.replicate NB (Value.int .i64 0)) → w.heap.size ≤ g → Below w.heap.size w w' → K (a'.put o.dst (.slice (some ⟨g, 0, none⟩) NB NB)) w') : Oper.wp Try.prog o a' w K Q := by
  obtain ⟨ti0, hi, hz0, hz1, hz2⟩ := info_parts infoIntR
  refine wp_make w l c 40 hop w.heap.size 3 ti0 _ 1 Try.underlying40 hi hz0 hz1 .i64 .i64 a a NB hl hc hNB.symm hNB.symm (by rw [hz2]; omega) (by unfold maxLen; omega) (Nat.le_refl _) ?_
  intro w' hown hgrow
  rw [show (madeCells (Value.int .i64 0).cells (NB * 1)).toList = List.replicate (NB * 1) (Value.int .i64 0) from toList_madeCells_one _ _, Nat.mul_one] at hown
  exact hK w' _ (own_rowS hown) (Nat.le_refl _) ((Below.refl _ _).grown hgrow (Nat.le_refl _) (fun k h => by cases h))
theorem box_chipR (a b c d e : Int) (AF : Option Addr) (nf cf gN gW gD NB : Nat) (w : World) : (Instr.box 42 (.agg #[.int .i64 a, .int .i64 b, .int .i64 c, .int .i64 d, .int .i64 e, .slice AF nf cf, .slice none 0 0, .slice (some ⟨gN, 0, none⟩) NB NB, .slice (some ⟨gW, 0, none⟩) NB NB, .slice (some ⟨gD, 0, none⟩) NB NB, .int .i64 0, .int .i64 0, .bool false, .int .i64 0, .int .i64 0, .int .i64 0, .int .u8 0])).run Try.prog w = .ok (.pointer (some ⟨w.heap.size, 0, none⟩)) (w.alloc (.cells #[.int .i64 a, .int .i64 b, .int .i64 c, .int .i64 d, .int .i64 e, .slice AF nf cf, .slice none 0 0, .slice (some ⟨gN, 0, none⟩) NB NB, .slice (some ⟨gW, 0, none⟩) NB NB, .slice (some ⟨gD, 0, none⟩) NB NB, .int .i64 0, .int .i64 0, .bool false, .int .i64 0, .int .i64 0, .int .i64 0, .int .u8 0] 42)) := by kernel_rfl
theorem wp_boxR {w : World} {o : Oper} {a' : Act} {K : Act → World → Prop} {Q : Exit → Act → World → Prop} (x : Operand) (hop : o.op = Op.box 42 x)
    {a b c d e : Int} {AF : Option Addr} {nf cf gN gW gD NB : Nat} (hx : a'.eval x = .agg #[.int .i64 a, .int .i64 b, .int .i64 c, .int .i64 d, .int .i64 e, .slice AF nf cf, .slice none 0 0, .slice (some ⟨gN, 0, none⟩) NB NB, .slice (some ⟨gW, 0, none⟩) NB NB, .slice (some ⟨gD, 0, none⟩) NB NB, .int .i64 0, .int .i64 0, .bool false, .int .i64 0, .int .i64 0, .int .i64 0, .int .u8 0])
    (hK : ∀ w' m, Blk w' m 42 #[.int .i64 a, .int .i64 b, .int .i64 c, .int .i64 d, .int .i64 e, .slice AF nf cf, .slice none 0 0, .slice (some ⟨gN, 0, none⟩) NB NB, .slice (some ⟨gW, 0, none⟩) NB NB, .slice (some ⟨gD, 0, none⟩) NB NB, .int .i64 0, .int .i64 0, .bool false, .int .i64 0, .int .i64 0, .int .i64 0, .int .u8 0] → w.heap.size ≤ m → Below w.heap.size w w' → K (a'.put o.dst (.pointer (some ⟨m, 0, none⟩))) w') : Oper.wp Try.prog o a' w K Q := by
  have hrun := box_chipR a b c d e AF nf cf gN gW gD NB w
  unfold Oper.wp
  simp [execOp, hop, hx, hrun, Result.andThen]
  exact hK _ _ (Blk.new_ _ _ _) (Nat.le_refl _) ((Below.refl _ _).alloc (Nat.le_refl _) _)
end Go.Proofs.Ytplniojeaodjiaa
namespace Go.Proofs.Ytplniojeaodjiaa
open Go.ChangeShapes Go.WideShapes Go.ChangeAt Go.RowKit
set_option linter.unusedSimpArgs false
set_option linter.unusedVariables false
/-- New's chip while it gets its pages. -/
structure NewL (wr w : World) (m gN gW gD : Nat) (AF : Option Addr) (cf : Nat) (a b c d e : Int) (fs : List Flt) (NB RW i : Nat) (vB : Value) (P : List (Nat × Nat)) : Prop where
  BM : Blk wr m 42 #[.int .i64 a, .int .i64 b, .int .i64 c, .int .i64 d, .int .i64 e, .slice AF fs.length cf, vB, .slice (some ⟨gN, 0, none⟩) NB NB, .slice (some ⟨gW, 0, none⟩) NB NB, .slice (some ⟨gD, 0, none⟩) NB NB, .int .i64 0, .int .i64 0, .bool false, .int .i64 0, .int .i64 0, .int .i64 0, .int .u8 0]
  own : wr.ownsRow (w.heap.size + 1) 48 1 vB i (P.map (pgV RW))
  nb : vB.ownBlock ≠ some m ∧ vB.ownBlock ≠ some gN ∧ vB.ownBlock ≠ some gW ∧ vB.ownBlock ≠ some gD
  nbf : fs = [] ∨ ∃ g, AF = some ⟨g, 0, none⟩ ∧ vB.ownBlock ≠ some g
  pg : ∀ (k : Nat) (p : Nat × Nat), P[k]? = some p → p.1 < wr.heap.size ∧ w.heap.size ≤ p.1 ∧ (p.1 ≠ m ∧ p.1 ≠ gN ∧ p.1 ≠ gW ∧ p.1 ≠ gD) ∧ vB.ownBlock ≠ some p.1 ∧ RW ≤ p.2 ∧ p.2 ≤ maxLen ∧ ∀ j, j < RW → wr.cell? ⟨p.1, j, none⟩ = some (byteV 255)
  RN : RowT wr gN 3 (List.replicate NB (Value.int .i64 0))
  RV : RowT wr gW 3 (List.replicate NB (Value.int .i64 0))
  RD : RowT wr gD 3 (List.replicate NB (Value.int .i64 0))
  RF : FR wr AF fs
  ne : m ≠ gN ∧ m ≠ gW ∧ m ≠ gD ∧ gN ≠ gW ∧ gN ≠ gD ∧ gW ≠ gD
  fne : FNe AF fs m ∧ FNe AF fs gN ∧ FNe AF fs gW ∧ FNe AF fs gD
  ge : w.heap.size ≤ m ∧ w.heap.size ≤ gN ∧ w.heap.size ≤ gW ∧ w.heap.size ≤ gD
  nw : w.heap.size ≠ m
  G1 : Blk wr w.heap.size 23 #[.int .i64 a, .int .i64 b, .int .i64 c, .int .i64 d, .int .i64 e]
  HB : Below w.heap.size w wr
  fge : FGe AF fs w.heap.size
theorem FGe.le {AF : Option Addr} {fs : List Flt} {k k' : Nat} (h : FGe AF fs k) (hk : k' ≤ k) : FGe AF fs k' := by
  rcases h with h | ⟨g, e, h⟩
  · exact Or.inl h
  · exact Or.inr ⟨g, e, by omega⟩
theorem blk_ne {w : World} {g h : Nat} {t t' : TypeId} {cs cs' : Array Value} (h1 : Blk w g t cs) (h2 : Blk w h t' cs') (hs : cs.size ≠ cs'.size) : g ≠ h := by
  intro e
  subst e
  unfold Blk at h1 h2
  rw [h1] at h2
  simp only [Option.some.injEq, Obj.cells.injEq] at h2
  exact hs (by rw [h2.1])
theorem own_far {w w' : World} {base e n : Nat} {v : Value} {xs : List Value} (h : w.ownsRow base e 1 v n xs) (hk : ∀ g, v.ownBlock = some g → w'.heap[g]? = w.heap[g]?) : w'.ownsRow base e 1 v n xs := by
  obtain ⟨hl, h⟩ := h
  refine ⟨hl, ?_⟩
  rcases h with h | ⟨g, cap, cur, rfl, hb, hh, r⟩
  · exact Or.inl h
  · exact Or.inr ⟨g, cap, cur, rfl, hb, (hk g rfl).trans hh, r⟩
theorem NewL.start {wr w : World} {m gN gW gD : Nat} {AF : Option Addr} {cf : Nat} {a b c d e : Int} {fs : List Flt} {NB RW : Nat} (BM : Blk wr m 42 #[.int .i64 a, .int .i64 b, .int .i64 c, .int .i64 d, .int .i64 e, .slice AF fs.length cf, .slice none 0 0, .slice (some ⟨gN, 0, none⟩) NB NB, .slice (some ⟨gW, 0, none⟩) NB NB, .slice (some ⟨gD, 0, none⟩) NB NB, .int .i64 0, .int .i64 0, .bool false, .int .i64 0, .int .i64 0, .int .i64 0, .int .u8 0]) (RN : RowT wr gN 3 (List.replicate NB (Value.int .i64 0))) (RV : RowT wr gW 3 (List.replicate NB (Value.int .i64 0))) (RD : RowT wr gD 3 (List.replicate NB (Value.int .i64 0))) (RF : FR wr AF fs)
    (ne : m ≠ gN ∧ m ≠ gW ∧ m ≠ gD ∧ gN ≠ gW ∧ gN ≠ gD ∧ gW ≠ gD) (fne : FNe AF fs m ∧ FNe AF fs gN ∧ FNe AF fs gW ∧ FNe AF fs gD) (ge : w.heap.size ≤ m ∧ w.heap.size ≤ gN ∧ w.heap.size ≤ gW ∧ w.heap.size ≤ gD) (G1 : Blk wr w.heap.size 23 #[.int .i64 a, .int .i64 b, .int .i64 c, .int .i64 d, .int .i64 e]) (HB : Below w.heap.size w wr) (fge : FGe AF fs w.heap.size) : NewL wr w m gN gW gD AF cf a b c d e fs NB RW 0 (.slice none 0 0) [] := by
  refine ⟨BM, World.ownsRow_nil _ _ _ _, ⟨by simp [Value.ownBlock], by simp [Value.ownBlock], by simp [Value.ownBlock], by simp [Value.ownBlock]⟩, ?_, fun k p h => by simp at h, RN, RV, RD, RF, ne, fne, ge, fun e => blk_ne BM G1 (by simp) e.symm, G1, HB, fge⟩
  rcases RF with h | ⟨g, h, _⟩
  · exact Or.inl h
  · exact Or.inr ⟨g, h, by simp [Value.ownBlock]⟩
/-- Worlds of one heap. -/
theorem NewL.like {wr w : World} {m gN gW gD : Nat} {AF : Option Addr} {cf : Nat} {a b c d e : Int} {fs : List Flt} {NB RW i : Nat} {vB : Value} {P : List (Nat × Nat)} (h : NewL wr w m gN gW gD AF cf a b c d e fs NB RW i vB P) {w1 : World} (e1 : w1.heap = wr.heap := by rfl) (e2 : w1.os = wr.os := by rfl) (e3 : w1.tape = wr.tape := by rfl) (e4 : w1.output = wr.output := by rfl) : NewL w1 w m gN gW gD AF cf a b c d e fs NB RW i vB P := by
  have hk : ∀ g : Nat, w1.heap[g]? = wr.heap[g]? := fun g => by rw [e1]
  refine ⟨(hk _).trans h.BM, own_far h.own (fun g _ => hk g), h.nb, h.nbf, fun k p hp => ?_, h.RN.keep (hk _), h.RV.keep (hk _), h.RD.keep (hk _), ?_, h.ne, h.fne, h.ge, h.nw, (hk _).trans h.G1, ⟨e2.trans h.HB.os, e3.trans h.HB.tape, e4.trans h.HB.output, by rw [e1]; exact h.HB.size, fun g hg => (hk g).trans (h.HB.block g hg)⟩, h.fge⟩
  · obtain ⟨p1, p2, p3, p4, p5, p6, p7⟩ := h.pg k p hp
    exact ⟨by rw [e1]; exact p1, p2, p3, p4, p5, p6, fun j hj => (World.cell?_of_block (w := wr) (hk _)).trans (p7 j hj)⟩
  · rcases h.RF with h | ⟨g, e, h⟩
    · exact Or.inl h
    · exact Or.inr ⟨g, e, h.keep (hk _)⟩
theorem NewL.mid {wr w : World} {m gN gW gD : Nat} {AF : Option Addr} {cf : Nat} {a b c d e : Int} {fs : List Flt} {NB RW i : Nat} {vB : Value} {P : List (Nat × Nat)} (h : NewL wr w m gN gW gD AF cf a b c d e fs NB RW i vB P) {wN w' : World} (hb : Below wr.heap.size wr wN) (hg : wN.grownBy w' vB.ownBlock) :
    (∀ k, k < wr.heap.size → vB.ownBlock ≠ some k → w'.heap[k]? = wr.heap[k]?) ∧ Blk w' m 42 #[.int .i64 a, .int .i64 b, .int .i64 c, .int .i64 d, .int .i64 e, .slice AF fs.length cf, vB, .slice (some ⟨gN, 0, none⟩) NB NB, .slice (some ⟨gW, 0, none⟩) NB NB, .slice (some ⟨gD, 0, none⟩) NB NB, .int .i64 0, .int .i64 0, .bool false, .int .i64 0, .int .i64 0, .int .i64 0, .int .u8 0] ∧ Blk w' w.heap.size 23 #[.int .i64 a, .int .i64 b, .int .i64 c, .int .i64 d, .int .i64 e] := by
  have hk : ∀ k, k < wr.heap.size → vB.ownBlock ≠ some k → w'.heap[k]? = wr.heap[k]? := fun k hl hne => (hg.block k (Nat.lt_of_lt_of_le hl hb.size) (fun e => hne e.symm)).trans (hb.block k hl)
  exact ⟨hk, (hk _ h.BM.lt h.nb.1).trans h.BM, (hk _ h.G1.lt (fun e => by have := (h.own.lt _ e).1; omega)).trans h.G1⟩
theorem NewL.step {wr w : World} {m gN gW gD : Nat} {AF : Option Addr} {cf : Nat} {a b c d e : Int} {fs : List Flt} {NB RW i : Nat} {vB : Value} {P : List (Nat × Nat)} (h : NewL wr w m gN gW gD AF cf a b c d e fs NB RW i vB P) {wN w' : World} (hb : Below wr.heap.size wr wN) {g9 : Nat} (hR9 : RowT wN g9 5 ((List.replicate RW 255).map byteV)) (hge9 : wr.heap.size ≤ g9) (hm : RW ≤ maxLen) {v' : Value}
    (ho : w'.ownsRow (w.heap.size + 1) 48 1 v' (i + 1) (P.map (pgV RW) ++ [pgV RW (g9, RW)])) (hg : wN.grownBy w' vB.ownBlock) (hv : v'.ownBlock = vB.ownBlock ∨ v'.ownBlock = some wN.heap.size) : NewL (w'.setCell ⟨m, 6, none⟩ v') w m gN gW gD AF cf a b c d e fs NB RW (i + 1) v' (P ++ [(g9, RW)]) := by
  obtain ⟨hk, hBM, hG1⟩ := h.mid hb hg
  obtain ⟨e1, e2, e3, e4, e5, e6⟩ := h.ne
  obtain ⟨n1, n2, n3, n4⟩ := h.nb
  have hnv : ∀ k, k < wN.heap.size → vB.ownBlock ≠ some k → v'.ownBlock ≠ some k := by
    intro k h1 h2 h3
    rcases hv with hv | hv
    · exact h2 (hv ▸ h3)
    · rw [hv] at h3
      cases h3
      omega
  have hlt : ∀ k, k < wr.heap.size → k < wN.heap.size := fun k h1 => Nat.lt_of_lt_of_le h1 hb.size
  have hs : ∀ k, k ≠ m → (w'.setCell ⟨m, 6, none⟩ v').heap[k]? = w'.heap[k]? := fun k h1 => Below.heap_setCell w' ⟨m, 6, none⟩ v' k h1
  have hsk : ∀ k, k < wr.heap.size → vB.ownBlock ≠ some k → k ≠ m → (w'.setCell ⟨m, 6, none⟩ v').heap[k]? = wr.heap[k]? := fun k h1 h2 h3 => (hs k h3).trans (hk k h1 h2)
  have hown : wN.ownsRow (w.heap.size + 1) 48 1 vB i (P.map (pgV RW)) := own_far h.own (fun g hg => hb.block g (h.own.lt g hg).2)
  have hBl : Below w.heap.size wN w' := below_app (by omega) (Nat.le_trans (Nat.succ_le_of_lt h.G1.lt) hb.size) hown hg
  have hBm := hBM.lt
  have hB2 : Below w.heap.size w (w'.setCell ⟨m, 6, none⟩ v') := ((h.HB.trans (hb.mono h.HB.size)).trans hBl).setCell (p := ⟨m, 6, none⟩) h.ge.1 v'
  have hsz : w'.heap.size ≤ (w'.setCell ⟨m, 6, none⟩ v').heap.size := ((Below.refl (0 : Nat) w').setCell (p := ⟨m, 6, none⟩) (Nat.zero_le _) v').size
  refine ⟨?_, ?_, ⟨hnv m (hlt _ h.BM.lt) n1, hnv gN (hlt _ h.RN.lt) n2, hnv gW (hlt _ h.RV.lt) n3, hnv gD (hlt _ h.RD.lt) n4⟩, ?_, ?_, h.RN.keep (hsk _ h.RN.lt n2 e1.symm), h.RV.keep (hsk _ h.RV.lt n3 e2.symm), h.RD.keep (hsk _ h.RD.lt n4 e3.symm), ?_, h.ne, h.fne, h.ge, h.nw, (hs _ h.nw).trans hG1, hB2, h.fge⟩
  · have := hBM.set_ 6 v'
    simpa using this
  · rw [List.map_append]
    refine own_far ho (fun g hg => hs g (fun e => ?_))
    subst e
    exact hnv g (hlt _ h.BM.lt) n1 hg
  · rcases h.nbf with h1 | ⟨g, h1, h2⟩
    · exact Or.inl h1
    · rcases h.RF with h3 | ⟨g', h3, h4⟩
      · exact Or.inl h3
      · rw [h1] at h3
        cases h3
        exact Or.inr ⟨g, h1, hnv g (hlt _ h4.lt) h2⟩
  · intro k p hp
    have hsw : wN.heap.size ≤ w'.heap.size := hg.size
    have hbs := hb.size
    by_cases hkl : k < P.length
    · rw [List.getElem?_append_left hkl] at hp
      obtain ⟨p1, p2, p3, p4, p5, p6, p7⟩ := h.pg k p hp
      exact ⟨by omega, p2, p3, hnv _ (hlt _ p1) p4, p5, p6, fun j hj => (World.cell?_of_block (w := wr) (hsk _ p1 p4 p3.1)).trans (p7 j hj)⟩
    · rw [List.getElem?_append_right (by omega)] at hp
      have hk0 : k - P.length = 0 := by
        rcases Nat.eq_zero_or_pos (k - P.length) with h0 | h0
        · exact h0
        · rw [List.getElem?_eq_none (by simp; omega)] at hp
          cases hp
      rw [hk0] at hp
      obtain rfl : (g9, RW) = p := by simpa using hp
      have hg9 := hR9.lt
      have hno : vB.ownBlock ≠ some g9 := fun e => by have := (h.own.lt _ e).2; omega
      have hbm := h.BM.lt
      have hbn := h.RN.lt
      have hbv := h.RV.lt
      have hbd := h.RD.lt
      have hws := h.HB.size
      have hne9 : g9 ≠ m := by omega
      refine ⟨by show g9 < _; omega, by show _ ≤ g9; omega, ⟨hne9, by show g9 ≠ _; omega, by show g9 ≠ _; omega, by show g9 ≠ _; omega⟩, hnv _ hg9 hno, Nat.le_refl _, hm, fun j hj => ?_⟩
      rw [World.cell?_of_block (w := w') (a := ⟨g9, j, none⟩) (hs _ hne9), World.cell?_of_block (w := wN) (a := ⟨g9, j, none⟩) (hg.block g9 hg9 (fun e => hno e.symm))]
      exact hR9.cell_ (by rw [List.getElem?_map, List.getElem?_replicate, if_pos hj]; rfl)
  · rcases h.nbf with h1 | ⟨g, h1, h2⟩
    · exact Or.inl h1
    · rcases h.RF with h3 | ⟨g', h3, h4⟩
      · exact Or.inl h3
      · rcases h.fne.1 with h5 | ⟨g'', h5, h6⟩
        · exact Or.inl h5
        · rw [h1] at h3 h5
          cases h3
          cases h5
          exact Or.inr ⟨g, h1, h4.keep (hsk _ h4.lt h2 h6)⟩
theorem NewL.fin {wr w : World} {m gN gW gD : Nat} {AF : Option Addr} {cf : Nat} {a b c d e : Int} {fs : List Flt} {NB RW NP NX : Nat} {vB : Value} {P : List (Nat × Nat)} (h : NewL wr w m gN gW gD AF cf a b c d e fs NB RW NP vB P) (hNP : (NP : Int) = a * b) (h0 : 1 ≤ NP) (hNB : (NB : Int) = a) (hRW : (RW : Int) = c + 16) (hNX : NX = (a * b * (c + 16)).toNat) (hm : planMay a b c d e fs = true) : ∃ gB, RefW wr m gB gN gW gD w.heap.size AF fs.length cf a b c d e fs (ChS.new NX NB) := by
  obtain ⟨gB, cB, rfl, rB, hgB, hcB, hcB2⟩ := own_rowC h.own h0
  obtain ⟨e1, e2, e3, e4, e5, e6⟩ := h.ne
  obtain ⟨n1, n2, n3, n4⟩ := h.nb
  have hn : ∀ k, Value.ownBlock (.slice (some ⟨gB, 0, none⟩) NP cB) ≠ some k → gB ≠ k := fun k h1 e => h1 (by rw [e]; rfl)
  have hlen : P.length = NP := by
    have := h.own.1
    simpa using this
  have hZ : NX = NP * RW := by
    have e1 : ((NP * RW : Nat) : Int) = a * b * (c + 16) := by push_cast; rw [hNP, hRW]
    omega
  have hz : ∀ i, (List.replicate (3 * NB) (0 : Int)).getD i 0 = 0 := by
    intro i
    rw [List.getD_eq_getElem?_getD, List.getElem?_replicate]
    split <;> rfl
  have hcol : ∀ j, kcol (ChS.new NX NB).K j a.toNat = List.replicate NB (Value.int .i64 0) := by
    intro j
    unfold kcol
    apply List.ext_getElem?
    intro i
    rw [List.getElem?_map, List.getElem?_replicate]
    by_cases hi : i < NB
    · rw [List.getElem?_range (by omega), if_pos hi]
      show some (Value.int .i64 ((List.replicate (3 * NB) (0 : Int)).getD (3 * i + j) 0)) = _
      rw [hz]
    · rw [if_neg hi, List.getElem?_eq_none (by simp; omega)]
      rfl
  refine ⟨gB, ⟨⟨cB, NP, NB, RW, hRW, hNP, hNB, hcB, h.BM, P, hlen, rB, fun i p hp => ?_⟩, by rw [hcol]; exact h.RN, by rw [hcol]; exact h.RV, by rw [hcol]; exact h.RD, ?_, ⟨⟨(hn _ n1).symm, e1, e2, e3⟩, ⟨hn _ n2, hn _ n3, hn _ n4⟩, ⟨e4, e5⟩, e6⟩, ?_, by simp [ChS.new, hNX], by simp [ChS.new]; omega, rfl, hm⟩⟩
  · obtain ⟨p1, p2, p3, p4, p5, p6, p7⟩ := h.pg i p hp
    have hiN : i < NP := by rw [← hlen]; exact (List.getElem?_eq_some_iff.1 hp).1
    refine ⟨p1, p2, ?_, p5, p6, fun j hj => ?_⟩
    · intro hr
      rcases hr with hr | hr | hr | hr | hr
      · exact p3.1 hr
      · exact hn _ p4 hr.symm
      · exact p3.2.1 hr
      · exact p3.2.2.1 hr
      · exact p3.2.2.2 hr
    · rw [p7 j hj]
      show _ = some (byteV ((List.replicate NX 255).getD (i * RW + j) 0))
      rw [List.getD_eq_getElem?_getD, List.getElem?_replicate, if_pos]
      · rfl
      · have : (i + 1) * RW ≤ NP * RW := Nat.mul_le_mul_right _ hiN
        rw [Nat.succ_mul] at this
        omega
  · rcases h.RF with h1 | ⟨g, h1, h2⟩
    · exact Or.inl h1
    · rcases h.fne with ⟨f1, f2, f3, f4⟩
      have hx : ∀ k, FNe AF fs k → fs = [] ∨ g ≠ k := by
        intro k hk
        rcases hk with hk | ⟨g', hk, hk2⟩
        · exact Or.inl hk
        · rw [h1] at hk
          cases hk
          exact Or.inr hk2
      by_cases hf : fs = []
      · exact Or.inl hf
      · have hy : ∀ k, FNe AF fs k → g ≠ k := fun k hk => (hx k hk).resolve_left hf
        refine Or.inr ⟨g, 0, h1, h2.lt, ?_, ?_, fun k f hk => ?_⟩
        · rcases h.fge with h3 | ⟨g', h3, h4⟩
          · exact absurd h3 hf
          · rw [h1] at h3
            cases h3
            exact h4
        · intro hr
          rcases hr with hr | hr | hr | hr | hr
          · exact hy _ f1 hr
          · rcases h.nbf with h3 | ⟨g', h3, h4⟩
            · exact hf h3
            · rw [h1] at h3
              cases h3
              exact hn _ h4 hr.symm
          · exact hy _ f2 hr
          · exact hy _ f3 hr
          · exact hy _ f4 hr
        · obtain ⟨q0, q1, q2⟩ := flatF_at fs k f hk
          rw [Nat.zero_add]
          exact ⟨h2.cell_ q0, h2.cell_ q1, h2.cell_ q2⟩
  · intro g hg
    obtain ⟨g1, g2, g3, g4⟩ := h.ge
    rcases hg with rfl | rfl | rfl | rfl | rfl <;> first | assumption | omega
theorem fill_255 (Q : Nat) (w : World) (hQ : Q ≤ 1000) : Calls Try.prog 38 #[.int .u8 255, .int .i64 (Q : Int)] w fun e' w' => (∃ g, e' = .returned (.slice (some ⟨g, 0, none⟩) Q Q) ∧ RowT w' g 5 ((List.replicate Q 255).map byteV) ∧ w.heap.size ≤ g) ∧ Below w.heap.size w w' := fill_any 255 Q w hQ
theorem infoPg : (Try.prog.info? 48).map (fun i => (i.zero, i.size, i.bytes)) = some (some (.slice none 0 0), 1, 24) := by kernel_rfl
theorem build_pg (g n c : Nat) (w : World) : (Instr.buildSlice 39 1 #[(0, .slice (some ⟨g, 0, none⟩) n c)]).run Try.prog w = .ok (.slice (some ⟨w.heap.size, 0, none⟩) 1 1) (w.alloc (.cells #[.slice (some ⟨g, 0, none⟩) n c] 48)) := by kernel_rfl
theorem wp_buildPg {w : World} {o : Oper} {a : Act} {K : Act → World → Prop} {Q : Exit → Act → World → Prop} (x : Operand) (hop : o.op = Op.buildSlice 39 1 #[(0, x)])
    (g n c : Nat) (hx : a.eval x = .slice (some ⟨g, 0, none⟩) n c)
    (hK : ∀ w' b, Blk w' b 48 #[.slice (some ⟨g, 0, none⟩) n c] → w.heap.size ≤ b → Below w.heap.size w w' → K (a.put o.dst (.slice (some ⟨b, 0, none⟩) 1 1)) w') : Oper.wp Try.prog o a w K Q := by
  have hrun := build_pg g n c w
  unfold Oper.wp
  simp [execOp, hop, hx, hrun, Result.andThen]
  exact hK _ _ (Blk.new_ _ _ _) (Nat.le_refl _) ((Below.refl _ _).alloc (Nat.le_refl _) _)
end Go.Proofs.Ytplniojeaodjiaa
