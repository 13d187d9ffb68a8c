/- Chapter 18's own: a tag less, a tag more. -/
import Derived.Test.YtkaoechjekffmaaDoorNy6
import Derived.Test.YtkaoechjekffmaaDoorNy3
import Derived.Shelf.SlicesE.Index
set_option linter.unusedSimpArgs false
set_option linter.unusedVariables false
set_option maxRecDepth 100000
set_option maxHeartbeats 16000000
namespace Go.Proofs.YtkaoechjekffmaaDoor
open Go.ChangeShapes Go.WideShapes Go.ChangeAt Go.RowKit
attribute [local go_sem ↓] Go.wp_at_zero Go.wp_at_succ
theorem has_go (n : Nt) (At As : Option Addr) (ct cs : Nat) (x : ByteArray) (w : World) (L : Nat) (hl : n.tg.length = L) (h : Sl w w.heap.size At (n.tg.map strV)) (hm : L ≤ 100000) (V : Int) (hv : tgAt n.tg x = V) :
    Calls Tryd.prog 56 #[.agg #[.int .i64 n.id, .int .i64 n.bk, .string n.nm, .slice At L ct, .slice As n.sh.length cs], .string x] w fun e' w' => e' = .returned (.int .i64 V) ∧ Below w.heap.size w w' := by
  subst hl
  subst hv
  exact rhas_any n At As ct cs x w h hm
theorem tgAt_iff {l : List ByteArray} {x : ByteArray} : (hasT l x = true ∧ ∃ q : Nat, tgAt l x = (q : Int) ∧ q < l.length) ∨ (hasT l x = false ∧ tgAt l x = -1) := by
  rcases idxP_cases (fun t => sameS t x) l with ⟨h1, h2⟩ | ⟨q, t, h1, h2, h3, _⟩
  · exact Or.inr ⟨h2, h1⟩
  · exact Or.inl ⟨List.any_eq_true.2 ⟨t, List.mem_of_getElem? h2, h3⟩, q, h1, (List.getElem?_eq_some_iff.1 h2).1⟩
theorem runt_no (s : Sf) (v : Value) (y : Int) (x : ByteArray) (w : World) (hS : ShR w w.heap.size v s) (hz : SzF s) (c : Int) (hc : untC s y x = c) (hne : c ≠ 0) :
    Calls Tryd.prog 29 #[v, .int .i64 y, .string x] w fun e' w' => e' = .returned (.tuple #[.agg #[.int .i64 0, .int .i64 0, .int .i64 0, .slice none 0 0, .slice none 0 0], .int .i64 c]) ∧ Below w.heap.size w w' := by
  have hS0 := hS
  obtain ⟨Ab, cb, An, cn, rfl, hB, hN, hcb, hmb, hcn, hmn⟩ := hS.ex
  clear hS
  obtain ⟨HB, B1, B2, S1⟩ := pre2 hS0
  have HZ := Lib.hid hz
  by_cases hf : findC s y = 0
  · obtain ⟨k, n, h⟩ := fdF_of hf
    have HF := Lib.hid h
    have HNN := Lib.hid h.nt
    have HKL : Hid (k < s.ts.length) := Lib.hid (List.getElem?_eq_some_iff.1 h.nt).1
    obtain ⟨L, hL⟩ : ∃ L, n.tg.length = L := ⟨_, rfl⟩
    obtain ⟨T, hTe⟩ : ∃ T, s.ts.length = T := ⟨_, rfl⟩
    have HLL := Lib.hid hL
    have HTT := Lib.hid hTe
    have i0 : (0 : Int) ≤ (k : Int) := by omega
    have i1 : (k : Int) < (T : Int) := by have := HKL.out; omega
    have hL8 : L ≤ 100000 := by rw [← hL]; exact (h.may.small n (List.mem_of_getElem? h.nt)).1
    have hV : tgAt n.tg x = -1 ∧ c = 4 := by
      unfold untC at hc
      rw [hf, h.of_] at hc
      rcases tgAt_iff (l := n.tg) (x := x) with ⟨h1, _⟩ | ⟨h1, h2⟩
      · rw [h1] at hc
        exact absurd hc.symm hne
      · rw [h1] at hc
        exact ⟨h2, hc.symm⟩
    obtain ⟨hV, rfl⟩ := hV
    obtain ⟨V, hVe⟩ : ∃ V : Int, V = -1 := ⟨_, rfl⟩
    rw [← hVe] at hV
    have HV := Lib.hid hV
    have hv0 : V < 0 := by omega
    clear h hL hTe hf hc hne hV hVe
    clear hS0 hB hN hcb hmb hcn hmn hz
    go_enter Tryd.func29, Tryd.ntmps29
    go_upto_region 1 with fail
    obtain ⟨w3, hw3⟩ : ∃ V : World, V = ((w.alloc (.cells #[.int .i64 s.nb, .int .i64 s.nn, .int .i64 s.ns, .slice Ab s.bs.length cb, .slice An s.ts.length cn] 25)).alloc (.cells #[.int .i64 0, .int .i64 0, .int .i64 0, .slice none 0 0, .slice none 0 0] 25)) := ⟨_, rfl⟩
    rw [← hw3] at HB B1 B2 S1 ⊢
    clear hw3
    have k0 := B1.cell_ 0
    have k1 := B1.cell_ 1
    have k2 := B1.cell_ 2
    have k3 := B1.cell_ 3
    have k4 := B1.cell_ 4
    simp at k0 k1 k2 k3 k4
    have hW5 : w.heap.size + 2 ≤ w3.heap.size := by have := B2.lt; omega
    go_upto_region 2 with (go_at_call 35; ((with_reducible refine (rat_yes s _ y _ S1 HZ.out k n HF.out).mono ?_); rintro e' w9 ⟨v6, rfl, hQ, b6⟩; obtain ⟨Ab6, cb6, An6, cn6, rfl, hBk, hNt, q1, q2, q3, q4⟩ := ShA.parts hQ; have B1 := B1.below b6 B1.lt; have B2 := B2.below b6 B2.lt; have HB := btr HB HB.size b6; have hz6 := b6.size; (try clear k0 k1 k2 k3 k4 r0 r1 r2 r3 r4 t0 t1 t2 t3 t4); have k0 := B1.cell_ 0; have t0 := B1.free 0; have k1 := B1.cell_ 1; have t1 := B1.free 1; have k2 := B1.cell_ 2; have t2 := B1.free 2; have k3 := B1.cell_ 3; have t3 := B1.free 3; have k4 := B1.cell_ 4; have t4 := B1.free 4; simp at k0 k1 k2 k3 k4; clear b6 hQ S1))
    have B1u := B1.st5_ (.int .i64 s.nb) (.int .i64 s.nn) (.int .i64 s.ns) (.slice Ab6 s.bs.length cb6) (.slice An6 s.ts.length cn6)
    have hg6 := st5_grown w9 w.heap.size 0 (.int .i64 s.nb) (.int .i64 s.nn) (.int .i64 s.ns) (.slice Ab6 s.bs.length cb6) (.slice An6 s.ts.length cn6)
    have B2u := B2.grown hg6 (by omega)
    have hBk2 := hBk.far hg6 (by omega)
    have hNt2 := hNt.far hg6 (by omega)
    have hb2 := below_grown HB hg6 (Nat.le_refl _) HB.size
    have HSZ : Hid (w3.heap.size ≤ (st5 w9 w.heap.size 0 (.int .i64 s.nb) (.int .i64 s.nn) (.int .i64 s.ns) (.slice Ab6 s.bs.length cb6) (.slice An6 s.ts.length cn6)).heap.size) := Lib.hid (by have := hz6; have := hg6.size; omega)
    clear hg6
    obtain ⟨Wd, hWd⟩ : ∃ V : World, V = (st5 w9 w.heap.size 0 (.int .i64 s.nb) (.int .i64 s.nn) (.int .i64 s.ns) (.slice Ab6 s.bs.length cb6) (.slice An6 s.ts.length cn6)) := ⟨_, rfl⟩
    change Code.wp _ _ _ _ (st5 w9 w.heap.size 0 (.int .i64 s.nb) (.int .i64 s.nn) (.int .i64 s.ns) (.slice Ab6 s.bs.length cb6) (.slice An6 s.ts.length cn6))
    rw [← hWd] at B1u B2u hBk2 hNt2 hb2 HSZ ⊢
    clear hWd B1 B2 HB hBk hNt k0 k1 k2 k3 k4 t0 t1 t2 t3 t4 hz6
    have HW5 := Lib.hid hW5
    obtain ⟨es, hel, hon, hnt, hap⟩ := hNt2
    have hkT := (List.getElem?_eq_some_iff.1 HNN.out).1
    obtain ⟨e0, he⟩ : ∃ e, es[k]? = some e := ⟨_, List.getElem?_eq_getElem (by omega)⟩
    obtain ⟨vt, vs, rfl, q1, q2⟩ := hnt k n e0 HNN.out he
    obtain ⟨At9, ct9, rfl, ht1, ht2⟩ := own_shape q1
    obtain ⟨As9, cs9, rfl, hs1, hs2⟩ := own_shape q2
    obtain ⟨gn, hgn, hgn2⟩ : ∃ gn, An6 = some ⟨gn, 0, none⟩ ∧ w3.heap.size ≤ gn := by
      rcases hon.2 with ⟨h, h0⟩ | ⟨g, c, cu, h, hb, _⟩
      · omega
      · injection h with h1 h2 h3
        exact ⟨g, h1, hb⟩
    subst hgn
    have h5 := es_five hel hnt
    have hga : gn ≠ Wd.heap.size := by
      have := (hon.lt gn rfl).2
      omega
    have HE := Lib.hid he
    have HEL := Lib.hid hel
    have HON := Lib.hid hon
    rw [HLL.out] at he q1
    rw [HTT.out] at hon hel
    have k0 := B1u.cell_ 0
    have k1 := B1u.cell_ 1
    have k2 := B1u.cell_ 2
    have k3 := B1u.cell_ 3
    have k4 := B1u.cell_ 4
    simp at k0 k1 k2 k3 k4
    rw [HTT.out] at k4
    have x0 := own_cellE hon h5 he (j := 0) rfl
    have x1 := own_cellE hon h5 he (j := 1) rfl
    have x2 := own_cellE hon h5 he (j := 2) rfl
    have x3 := own_cellE hon h5 he (j := 3) rfl
    have x4 := own_cellE hon h5 he (j := 4) rfl
    simp only [Nat.add_zero] at x0
    have SA1 := Sl.of_own q1
    clear HE HEL
    go_upto_region 5 with (go_at_call 56; ((with_reducible refine (has_go n At9 As9 ct9 cs9 x _ L HLL.out SA1 hL8 V HV.out).mono ?_); rintro e' w5 ⟨rfl, bx⟩; skip))
    have B1u := B1u.below bx B1u.lt
    have B2u := B2u.below bx B2u.lt
    have hb2 := btr hb2 hb2.size bx
    have hBk2 : BksW w5 w3.heap.size (.slice Ab6 s.bs.length cb6) s.bs := own_belowW hBk2 bx
    have hon := own_belowW hon bx
    have hnt := fun k n e a b => (hnt k n e a b).below bx
    have HON := Lib.hid (own_belowW HON.out bx)
    have q1 := own_belowW q1 bx
    have q2 := own_belowW q2 bx
    have HSZ : Hid (w3.heap.size ≤ w5.heap.size) := Lib.hid (Nat.le_trans HSZ.out bx.size)
    clear bx SA1 k0 k1 k2 k3 k4 x0 x1 x2 x3 x4
    obtain ⟨We, hWe⟩ : ∃ V : World, V = w5 := ⟨_, rfl⟩
    subst hWe
    have k0 := B1u.cell_ 0
    have k1 := B1u.cell_ 1
    have k2 := B1u.cell_ 2
    have k3 := B1u.cell_ 3
    have k4 := B1u.cell_ 4
    simp at k0 k1 k2 k3 k4
    rw [HTT.out] at k4
    have r0 := B2u.cell_ 0
    have t0 := B2u.free 0
    have r1 := B2u.cell_ 1
    have t1 := B2u.free 1
    have r2 := B2u.cell_ 2
    have t2 := B2u.free 2
    have r3 := B2u.cell_ 3
    have t3 := B2u.free 3
    have r4 := B2u.cell_ 4
    have t4 := B2u.free 4
    simp at r0 r1 r2 r3 r4
    go_wp2_with fail
    have B2v := z5_blk B2u
    have hbv := z5_below hb2 (g := w.heap.size + 1) (by omega)
    change bodyPost _ _ _ _ _ (z5 We (w.heap.size + 1))
    generalize z5 We (w.heap.size + 1) = We at B2v hbv ⊢
    apply bodyPost_ret (v := .tuple #[.agg #[.int .i64 0, .int .i64 0, .int .i64 0, .slice none 0 0, .slice none 0 0], .int .i64 4])
    · exact results_cell1 Tryd.results29 _ We _ 25 #[.int .i64 0, .int .i64 0, .int .i64 0, .slice none 0 0, .slice none 0 0] (0, 0) _ rfl B2v Tryd.underlying25 rfl (by kernel_rfl)
    · rfl
    · exact ⟨rfl, hbv⟩
  · have hcf : findC s y = c := by
      unfold untC at hc
      have : (findC s y == 0) = false := by simpa using hf
      rw [this] at hc
      exact hc
    have HC := Lib.hid hcf
    have HE := Lib.hid hne
    have he0 : ¬ c = 0 := hne
    clear hf hcf hc hne
    clear hS0 hB hN hcb hmb hcn hmn hz
    go_enter Tryd.func29, Tryd.ntmps29
    go_upto_region 1 with fail
    obtain ⟨w3, hw3⟩ : ∃ V : World, V = ((w.alloc (.cells #[.int .i64 s.nb, .int .i64 s.nn, .int .i64 s.ns, .slice Ab s.bs.length cb, .slice An s.ts.length cn] 25)).alloc (.cells #[.int .i64 0, .int .i64 0, .int .i64 0, .slice none 0 0, .slice none 0 0] 25)) := ⟨_, rfl⟩
    rw [← hw3] at HB B1 B2 S1 ⊢
    clear hw3
    have k0 := B1.cell_ 0
    have k1 := B1.cell_ 1
    have k2 := B1.cell_ 2
    have k3 := B1.cell_ 3
    have k4 := B1.cell_ 4
    simp at k0 k1 k2 k3 k4
    have hW5 : w.heap.size + 2 ≤ w3.heap.size := by have := B2.lt; omega
    go_upto_region 2 with (go_at_call 35; ((with_reducible refine (rat_no s _ y _ S1 HZ.out c HC.out HE.out).mono ?_); rintro e' w9 ⟨rfl, b6⟩; (try clear k0 k1 k2 k3 k4 r0 r1 r2 r3 r4 t0 t1 t2 t3 t4); obtain ⟨S1, B1, B2, HB, k0, k1, k2, k3, k4, r0, r1, r2, r3, r4, t0, t1, t2, t3, t4⟩ := keepR S1 B1 B2 HB b6; clear b6; have t0' := B1.free 0; have t1' := B1.free 1; have t2' := B1.free 2; have t3' := B1.free 3; have t4' := B1.free 4))
    have B1z := z5_blk B1
    have hgz := st5_grown w9 w.heap.size 0 (.int .i64 0) (.int .i64 0) (.int .i64 0) (.slice none 0 0) (.slice none 0 0)
    have B2z : Blk (z5 w9 w.heap.size) (w.heap.size + 1) 25 #[.int .i64 0, .int .i64 0, .int .i64 0, .slice none 0 0, .slice none 0 0] := B2.grown hgz (by omega)
    have hbz := z5_below HB (g := w.heap.size) (Nat.le_refl _)
    change Code.wp _ _ _ _ (z5 w9 w.heap.size)
    obtain ⟨Wz, hWz⟩ : ∃ V : World, V = z5 w9 w.heap.size := ⟨_, rfl⟩
    rw [← hWz] at B1z B2z hbz ⊢
    clear hgz hWz B1 B2 HB S1 k0 k1 k2 k3 k4 r0 r1 r2 r3 r4 t0 t1 t2 t3 t4 t0' t1' t2' t3' t4'
    have r0 := B2z.cell_ 0
    have r1 := B2z.cell_ 1
    have r2 := B2z.cell_ 2
    have r3 := B2z.cell_ 3
    have r4 := B2z.cell_ 4
    simp at r0 r1 r2 r3 r4
    have t0 := B2z.free 0
    have t1 := B2z.free 1
    have t2 := B2z.free 2
    have t3 := B2z.free 3
    have t4 := B2z.free 4
    go_wp2_with fail
    have B2u := z5_blk B2z
    have hb2 := z5_below hbz (g := w.heap.size + 1) (by omega)
    change bodyPost _ _ _ _ _ (z5 Wz (w.heap.size + 1))
    generalize z5 Wz (w.heap.size + 1) = Wd at B2u hb2 ⊢
    apply bodyPost_ret (v := .tuple #[.agg #[.int .i64 0, .int .i64 0, .int .i64 0, .slice none 0 0, .slice none 0 0], .int .i64 c])
    · exact results_cell1 Tryd.results29 _ Wd _ 25 #[.int .i64 0, .int .i64 0, .int .i64 0, .slice none 0 0, .slice none 0 0] (0, 0) _ rfl B2u Tryd.underlying25 rfl (by kernel_rfl)
    · rfl
    · exact ⟨rfl, hb2⟩
theorem runt_yes (s : Sf) (v : Value) (y : Int) (x : ByteArray) (w : World) (hS : ShR w w.heap.size v s) (hz : SzF s) (hc : untC s y x = 0) :
    Calls Tryd.prog 29 #[v, .int .i64 y, .string x] w fun e' w' => ∃ v', e' = .returned (.tuple #[v', .int .i64 0]) ∧ ShW w' w.heap.size v' (untS s y x) ∧ Below w.heap.size w w' := by
  have hS0 := hS
  obtain ⟨Ab, cb, An, cn, rfl, hB, hN, hcb, hmb, hcn, hmn⟩ := hS.ex
  clear hS
  obtain ⟨HB, B1, B2, S1⟩ := pre2 hS0
  have HZ := Lib.hid hz
  have hf : findC s y = 0 := by
    unfold untC at hc
    by_cases h : findC s y = 0
    · exact h
    · have h2 : (findC s y == 0) = false := by simpa using h
      rw [h2] at hc
      exact absurd hc h
  obtain ⟨k, n, h⟩ := fdF_of hf
  have HF := Lib.hid h
  have HNN := Lib.hid h.nt
  have HKL : Hid (k < s.ts.length) := Lib.hid (List.getElem?_eq_some_iff.1 h.nt).1
  obtain ⟨L, hL⟩ : ∃ L, n.tg.length = L := ⟨_, rfl⟩
  obtain ⟨T, hTe⟩ : ∃ T, s.ts.length = T := ⟨_, rfl⟩
  have HLL := Lib.hid hL
  have HTT := Lib.hid hTe
  have i0 : (0 : Int) ≤ (k : Int) := by omega
  have i1 : (k : Int) < (T : Int) := by have := HKL.out; omega
  have hL8 : L ≤ 100000 := by rw [← hL]; exact (h.may.small n (List.mem_of_getElem? h.nt)).1
  obtain ⟨i, hi, hil⟩ : ∃ q : Nat, tgAt n.tg x = (q : Int) ∧ q < n.tg.length := by
    unfold untC at hc
    rw [hf, h.of_] at hc
    rcases tgAt_iff (l := n.tg) (x := x) with ⟨h1, h2⟩ | ⟨h1, h2⟩
    · exact h2
    · rw [h1] at hc
      cases hc
  have HRS : Hid (untS s y x = { s with ts := s.ts.set k { n with tg := n.tg.eraseIdx i } }) := Lib.hid (by rw [untS_eq h, hi]; rfl)
  have hiL : i < L := by rw [← hL]; exact hil
  obtain ⟨V, hVe⟩ : ∃ V : Int, V = (i : Int) := ⟨_, rfl⟩
  have HV : Hid (tgAt n.tg x = (i : Int)) := Lib.hid hi
  have v0 : ¬ (i : Int) < 0 := by omega
  have j0 : (0 : Int) ≤ (i : Int) := by omega
  have j1 : (i : Int) < (L : Int) := by omega
  have j3 : IntKind.i64.wrap ((i : Int) + 1) = (i : Int) + 1 := wrapS _ (by omega) (by omega)
  clear h hL hTe hf hc hi hil hVe
  clear hS0 hB hN hcb hmb hcn hmn hz
  go_enter Tryd.func29, Tryd.ntmps29
  go_upto_region 1 with fail
  obtain ⟨w3, hw3⟩ : ∃ V : World, V = ((w.alloc (.cells #[.int .i64 s.nb, .int .i64 s.nn, .int .i64 s.ns, .slice Ab s.bs.length cb, .slice An s.ts.length cn] 25)).alloc (.cells #[.int .i64 0, .int .i64 0, .int .i64 0, .slice none 0 0, .slice none 0 0] 25)) := ⟨_, rfl⟩
  rw [← hw3] at HB B1 B2 S1 ⊢
  clear hw3
  have k0 := B1.cell_ 0
  have k1 := B1.cell_ 1
  have k2 := B1.cell_ 2
  have k3 := B1.cell_ 3
  have k4 := B1.cell_ 4
  simp at k0 k1 k2 k3 k4
  have hW5 : w.heap.size + 2 ≤ w3.heap.size := by have := B2.lt; omega
  go_upto_region 2 with (go_at_call 35; ((with_reducible refine (rat_yes s _ y _ S1 HZ.out k n HF.out).mono ?_); rintro e' w9 ⟨v6, rfl, hQ, b6⟩; obtain ⟨Ab6, cb6, An6, cn6, rfl, hBk, hNt, q1, q2, q3, q4⟩ := ShA.parts hQ; have B1 := B1.below b6 B1.lt; have B2 := B2.below b6 B2.lt; have HB := btr HB HB.size b6; have hz6 := b6.size; (try clear k0 k1 k2 k3 k4 r0 r1 r2 r3 r4 t0 t1 t2 t3 t4); have k0 := B1.cell_ 0; have t0 := B1.free 0; have k1 := B1.cell_ 1; have t1 := B1.free 1; have k2 := B1.cell_ 2; have t2 := B1.free 2; have k3 := B1.cell_ 3; have t3 := B1.free 3; have k4 := B1.cell_ 4; have t4 := B1.free 4; simp at k0 k1 k2 k3 k4; clear b6 hQ S1))
  have B1u := B1.st5_ (.int .i64 s.nb) (.int .i64 s.nn) (.int .i64 s.ns) (.slice Ab6 s.bs.length cb6) (.slice An6 s.ts.length cn6)
  have hg6 := st5_grown w9 w.heap.size 0 (.int .i64 s.nb) (.int .i64 s.nn) (.int .i64 s.ns) (.slice Ab6 s.bs.length cb6) (.slice An6 s.ts.length cn6)
  have B2u := B2.grown hg6 (by omega)
  have hBk2 := hBk.far hg6 (by omega)
  have hNt2 := hNt.far hg6 (by omega)
  have hb2 := below_grown HB hg6 (Nat.le_refl _) HB.size
  have HSZ : Hid (w3.heap.size ≤ (st5 w9 w.heap.size 0 (.int .i64 s.nb) (.int .i64 s.nn) (.int .i64 s.ns) (.slice Ab6 s.bs.length cb6) (.slice An6 s.ts.length cn6)).heap.size) := Lib.hid (by have := hz6; have := hg6.size; omega)
  clear hg6
  obtain ⟨Wd, hWd⟩ : ∃ V : World, V = (st5 w9 w.heap.size 0 (.int .i64 s.nb) (.int .i64 s.nn) (.int .i64 s.ns) (.slice Ab6 s.bs.length cb6) (.slice An6 s.ts.length cn6)) := ⟨_, rfl⟩
  change Code.wp _ _ _ _ (st5 w9 w.heap.size 0 (.int .i64 s.nb) (.int .i64 s.nn) (.int .i64 s.ns) (.slice Ab6 s.bs.length cb6) (.slice An6 s.ts.length cn6))
  rw [← hWd] at B1u B2u hBk2 hNt2 hb2 HSZ ⊢
  clear hWd B1 B2 HB hBk hNt k0 k1 k2 k3 k4 t0 t1 t2 t3 t4 hz6
  have HW5 := Lib.hid hW5
  obtain ⟨es, hel, hon, hnt, hap⟩ := hNt2
  have hkT := (List.getElem?_eq_some_iff.1 HNN.out).1
  obtain ⟨e0, he⟩ : ∃ e, es[k]? = some e := ⟨_, List.getElem?_eq_getElem (by omega)⟩
  obtain ⟨vt, vs, rfl, q1, q2⟩ := hnt k n e0 HNN.out he
  obtain ⟨At9, ct9, rfl, ht1, ht2⟩ := own_shape q1
  obtain ⟨As9, cs9, rfl, hs1, hs2⟩ := own_shape q2
  obtain ⟨gn, hgn, hgn2⟩ : ∃ gn, An6 = some ⟨gn, 0, none⟩ ∧ w3.heap.size ≤ gn := by
    rcases hon.2 with ⟨h, h0⟩ | ⟨g, c, cu, h, hb, _⟩
    · omega
    · injection h with h1 h2 h3
      exact ⟨g, h1, hb⟩
  subst hgn
  have h5 := es_five hel hnt
  have hga : gn ≠ Wd.heap.size := by
    have := (hon.lt gn rfl).2
    omega
  have HE := Lib.hid he
  have HEL := Lib.hid hel
  have HON := Lib.hid hon
  rw [HLL.out] at he q1
  rw [HTT.out] at hon hel
  have k0 := B1u.cell_ 0
  have k1 := B1u.cell_ 1
  have k2 := B1u.cell_ 2
  have k3 := B1u.cell_ 3
  have k4 := B1u.cell_ 4
  simp at k0 k1 k2 k3 k4
  rw [HTT.out] at k4
  have x0 := own_cellE hon h5 he (j := 0) rfl
  have x1 := own_cellE hon h5 he (j := 1) rfl
  have x2 := own_cellE hon h5 he (j := 2) rfl
  have x3 := own_cellE hon h5 he (j := 3) rfl
  have x4 := own_cellE hon h5 he (j := 4) rfl
  simp only [Nat.add_zero] at x0
  have SA1 := Sl.of_own q1
  go_upto_region 5 with (go_at_call 56; ((with_reducible refine (has_go n At9 As9 ct9 cs9 x _ L HLL.out SA1 hL8 (i : Int) HV.out).mono ?_); rintro e' w5 ⟨rfl, bx⟩; skip))
  have B1u := B1u.below bx B1u.lt
  have B2u := B2u.below bx B2u.lt
  have hb2 := btr hb2 hb2.size bx
  have hBk2 : BksW w5 w3.heap.size (.slice Ab6 s.bs.length cb6) s.bs := own_belowW hBk2 bx
  have hon := own_belowW hon bx
  have hnt := fun k n e a b => (hnt k n e a b).below bx
  have HON := Lib.hid (own_belowW HON.out bx)
  have q1 := own_belowW q1 bx
  have q2 := own_belowW q2 bx
  have HSZ : Hid (w3.heap.size ≤ w5.heap.size) := Lib.hid (Nat.le_trans HSZ.out bx.size)
  clear bx SA1 k0 k1 k2 k3 k4 x0 x1 x2 x3 x4
  obtain ⟨We, hWe⟩ : ∃ V : World, V = w5 := ⟨_, rfl⟩
  subst hWe
  have k0 := B1u.cell_ 0
  have k1 := B1u.cell_ 1
  have k2 := B1u.cell_ 2
  have k3 := B1u.cell_ 3
  have k4 := B1u.cell_ 4
  simp at k0 k1 k2 k3 k4
  rw [HTT.out] at k4
  go_upto_region 7 with fail
  have x3 := own_cellE hon h5 he (j := 3) rfl
  obtain ⟨gs, hgs, hgs2⟩ : ∃ gs, At9 = some ⟨gs, 0, none⟩ ∧ w3.heap.size ≤ gs := by
    rcases q1.2 with ⟨h, h0⟩ | ⟨g, c, cu, h, hb, _⟩
    · omega
    · injection h with h1 h2 h3
      exact ⟨g, h1, hb⟩
  subst hgs
  have hiL1 : i + 1 ≤ L := hiL
  have hcL : L ≤ ct9 := by
    obtain ⟨A, c', he9, h1, h2⟩ := own_shape q1
    cases he9
    exact h1
  have j2 : ((i : Int) + 1).toNat = i + 1 := by omega
  have j4 : (i : Int) ≤ (ct9 : Int) := by omega
  have j5 : ¬ ct9 = 0 := by omega
  have j6 : (0 : Int) ≤ (i : Int) + 1 := by omega
  have j7 : (i : Int) + 1 ≤ (L : Int) := by omega
  have honc := drew_own (own_cut (i := i) q1 (by simp) (by omega))
  have honr := rd_tail1 (drew_own q1) hiL1
  have hone : ∀ u ∈ (n.tg.map strV).drop (i + 1), u.oneCell' = true := fun u hu => by
    obtain ⟨x, _, rfl⟩ := List.mem_map.1 (List.mem_of_mem_drop hu)
    rfl
  have kd : We.drew.cell? ⟨w.heap.size, 4, none⟩ = some (.slice (some ⟨gn, 0, none⟩) T cn6) := drew_cell k4
  have xd : We.drew.cell? ⟨gn, k * 5 + 3, none⟩ = some (.slice (some ⟨gs, 0, none⟩) L ct9) := drew_cell x3
  have hqb : ∀ g, (Value.slice (some ⟨gs, 0, none⟩) L ct9).ownBlock = some g → w3.heap.size ≤ g := fun g hg => (q1.lt g hg).1
  clear k0 k1 k2 k3 k4 x3
  refine wp_region_noPanic ?_
  refine wp_region_held_drew (S := (fun w_ => w_.cell? ⟨w.heap.size, 4, none⟩ = some (.slice (some ⟨gn, 0, none⟩) T cn6))) (by kernel_rfl) ?_ (fun hHeld => ?_)
  · (first | with_reducible exact kd | with_reducible exact k4' | with_reducible exact kb)
  refine tk 0 ?_; try simp only [Act.put, pz1, pz2, pz3]
  refine tk 1 ?_; try simp only [Act.put, pz1, pz2, pz3]
  refine tk 2 ?_; try simp only [Act.put, pz1, pz2, pz3]
  refine tk 3 ?_; try simp only [Act.put, pz1, pz2, pz3]
  refine tk 4 ?_; try simp only [Act.put, pz1, pz2, pz3]
  refine tk 5 ?_; try simp only [Act.put, pz1, pz2, pz3]
  refine tk 6 ?_; try simp only [Act.put, pz1, pz2, pz3]
  refine tk 7 ?_; try simp only [Act.put, pz1, pz2, pz3]
  refine tk 9 ?_; try simp only [Act.put, pz1, pz2, pz3]
  refine tk 11 ?_; try simp only [Act.put, pz1, pz2, pz3]
  refine tk 12 ?_; try simp only [Act.put, pz1, pz2, pz3]
  refine tk 13 ?_; try simp only [Act.put, pz1, pz2, pz3]
  refine tk 14 ?_; try simp only [Act.put, pz1, pz2, pz3]
  refine tk 15 ?_; try simp only [Act.put, pz1, pz2, pz3]
  refine tk 17 ?_; try simp only [Act.put, pz1, pz2, pz3]
  refine tk 18 ?_; try simp only [Act.put, pz1, pz2, pz3]
  refine wpAnyH_ready (rs := [8, 16]) (by kernel_rfl) (by simp) ?_
  refine (AllReadyH.cons (o := ⟨some 40, .load 46 (.tmp 39), 46, "ref.go:64", #[⟨7, .data⟩], none⟩) rfl (fun K hK => ?_) (AllReadyH.cons (o := ⟨some 48, .load 46 (.tmp 47), 46, "ref.go:64", #[⟨15, .data⟩], none⟩) rfl (fun K hK => ?_) AllReadyH.nil))
  · go_simp
    refine hK.out _ _ ?_ (fun hNew => ?_)
    · (first | with_reducible exact kd | with_reducible exact k4' | with_reducible exact kb)
    clear hK K hHeld
    have hHeld := hNew
    clear hNew
    try simp only [Act.put, pz1, pz2, pz3]
    refine tk 10 ?_; try simp only [Act.put, pz1, pz2, pz3]
    refine wpAnyH_ready (rs := [16]) (by kernel_rfl) (by simp) ?_
    refine AllReadyH.cons (o := ⟨some 48, .load 46 (.tmp 47), 46, "ref.go:64", #[⟨15, .data⟩], none⟩) rfl (fun K hK => ?_) AllReadyH.nil
    go_simp
    refine hK.out _ _ ?_ (fun hNew => ?_)
    · (first | with_reducible exact kd | with_reducible exact k4' | with_reducible exact kb)
    clear hK K hHeld
    have hHeld := hNew
    clear hNew
    try simp only [Act.put, pz1, pz2, pz3]
    refine tk 19 ?_; try simp only [Act.put, pz1, pz2, pz3]
    refine wpAnyH_ready (rs := [20]) (by kernel_rfl) (by simp) ?_
    refine AllReadyH.cons (o := ⟨some 52, .call { callee := .builtin .append, args := #[.tmp 42, .tmp 51], argTypes := #[46, 46] }, 46, "ref.go:64", #[⟨10, .data⟩, ⟨19, .data⟩], none⟩) rfl (fun K hK => ?_) AllReadyH.nil
    obtain ⟨ti0, hi, hz0, hz1, hz2⟩ := info_parts info_clStr
    refine step_app _ rfl (.tmp 42) (.tmp 51) _ rfl w3.heap.size 9 ti0 _ 1 16 Tryd.underlying46 hi hz0 hz1 hz2 rfl (by decide) _ i ((n.tg.map strV).take (i * 1)) rfl honc _ (L - (i + 1)) _ ((n.tg.map strV).drop (i + 1)) rfl honr hone (by unfold maxLen; omega) (by omega) HSZ.out ?_
    intro v7 w7 ho' hg' hv'
    clear hi hz0 hz1 hz2 hv'
    generalize (if ct9 = i + 1 then some (⟨gs, 0, none⟩ : Addr) else some ⟨gs, i + 1, none⟩) = A22
    replace hg' : We.drew.grownBy w7 (Value.slice (some ⟨gs, 0, none⟩) L ct9).ownBlock := hg'
    obtain ⟨A7, c7, rfl, -, -⟩ := own_shape ho'
    have hof : ∀ j, j < w3.heap.size → (Value.slice (some ⟨gs, 0, none⟩) L ct9).ownBlock ≠ some j := fun j hj h => by have := hqb j h; omega
    have B1a := (drew_blk B1u).grownR hg' (hof _ (by have := HW5.out; omega))
    have B2a := (drew_blk B2u).grownR hg' (hof _ (by have := HW5.out; omega))
    have HBa := (drew_below hb2).trans (below_app (B := w.heap.size) (by have := HW5.out; omega) HSZ.out (drew_own q1) hg')
    have hon7 := (drew_own hon).kept hg' (own_apart (drew_own hon) (drew_own q1) (by decide))
    have k4' := B1a.cell_ 4
    simp at k4'
    rw [HTT.out] at k4'
    have x7 := own_cellE hon7 h5 he (j := 3) rfl
    have f7 := World.ownsRow.frozenAt hon7 (k * 5 + 3)
    have kb : (w7.setCell ⟨gn, k * 5 + 3, none⟩ (.slice A7 (i + (L - (i + 1))) c7)).cell? ⟨w.heap.size, 4, none⟩ = some (.slice (some ⟨gn, 0, none⟩) T cn6) := by
      have := (B1a.grown (set1_grown w7 gn (k * 5 + 3) (.slice A7 (i + (L - (i + 1))) c7)) (by have := HW5.out; omega)).cell_ 4
      simp at this
      rw [HTT.out] at this
      exact this
    refine hK.out _ _ ?_ (fun hNew => ?_)
    · (first | with_reducible exact kd | with_reducible exact k4' | with_reducible exact kb)
    clear hK K hHeld
    have hHeld := hNew
    clear hNew
    try simp only [Act.put, pz1, pz2, pz3]
    refine tk 21 ?_; try simp only [Act.put, pz1, pz2, pz3]
    refine tk 22 ?_; try simp only [Act.put, pz1, pz2, pz3]
    refine wpAnyH_ready (rs := [23]) (by kernel_rfl) (by simp) ?_
    refine AllReadyH.cons (o := ⟨none, .store 46 (.tmp 54) (.tmp 52), 0, "ref.go:64", #[⟨22, .data⟩, ⟨20, .data⟩, ⟨20, .chain⟩, ⟨0, .phase⟩, ⟨1, .phase⟩, ⟨2, .phase⟩, ⟨3, .phase⟩, ⟨4, .phase⟩, ⟨5, .phase⟩, ⟨6, .phase⟩, ⟨7, .phase⟩, ⟨8, .phase⟩, ⟨9, .phase⟩, ⟨10, .phase⟩, ⟨11, .phase⟩, ⟨12, .phase⟩, ⟨13, .phase⟩, ⟨14, .phase⟩, ⟨15, .phase⟩, ⟨16, .phase⟩, ⟨17, .phase⟩, ⟨18, .phase⟩, ⟨19, .phase⟩, ⟨20, .phase⟩], none⟩) rfl (fun K hK => ?_) AllReadyH.nil
    go_simp
    refine hK.out _ _ ?_ (fun hNew => ?_)
    · (first | with_reducible exact kd | with_reducible exact k4' | with_reducible exact kb)
    clear hK K hHeld
    have hHeld := hNew
    clear hNew
    try simp only [Act.put, pz1, pz2, pz3]
    refine wpAnyH_done (by kernel_rfl) ?_ _
    refine NoPanic.normal ?_
    replace ho' : w7.ownsRow w3.heap.size 9 1 (.slice A7 (i + (L - (i + 1))) c7) (i + (L - (i + 1))) ((n.tg.eraseIdx i).map strV) := by
      have h := ho'
      rw [Nat.mul_one, ← List.map_take, ← List.map_drop, ← List.map_append, ← List.eraseIdx_eq_take_drop_succ] at h
      exact h
    have hb0 : Below We.heap.size We We.drew := below_dr We
    have hl9 : (n.tg.eraseIdx i).length = i + (L - (i + 1)) := by have := HLL.out; rw [List.length_eraseIdx, if_pos (by omega), this]; omega
    obtain ⟨hNw, hgw⟩ := nt_tags (xs := n.tg.eraseIdx i) HEL.out (drew_own HON.out) (fun k n e a b => (hnt k n e a b).below hb0) hap HNN.out HE.out (by rw [HLL.out]; exact hg') (by rw [hl9]; exact ho')
    have B1w := B1a.grown hgw (by have := HW5.out; omega)
    have B2w := B2a.grown hgw (by have := HW5.out; omega)
    have hB7 : BksW w7 w3.heap.size (.slice Ab6 s.bs.length cb6) s.bs := World.ownsRow.kept (own_belowW hBk2 hb0) hg' (own_apart (own_belowW hBk2 hb0) (drew_own q1) (by decide))
    have hBw := BksW.apartN hB7 hon7 hgw
    have hbw := below_grown HBa hgw (by have := HW5.out; omega) HBa.size
    obtain ⟨Wx, hWx⟩ : ∃ V : World, V = w7.setCell ⟨gn, k * 5 + 3, none⟩ (.slice A7 (i + (L - (i + 1))) c7) := ⟨_, rfl⟩
    rw [← hWx] at hNw B1w B2w hBw hbw ⊢
    clear hWx hgw hB7 hb0 hl9 B1a B2a HBa ho' hg' hon7 k4' x7 f7 kb hof
    have k0 := B1w.cell_ 0
    have r0 := B2w.cell_ 0
    have t0 := B2w.free 0
    have k1 := B1w.cell_ 1
    have r1 := B2w.cell_ 1
    have t1 := B2w.free 1
    have k2 := B1w.cell_ 2
    have r2 := B2w.cell_ 2
    have t2 := B2w.free 2
    have k3 := B1w.cell_ 3
    have r3 := B2w.cell_ 3
    have t3 := B2w.free 3
    have k4 := B1w.cell_ 4
    have r4 := B2w.cell_ 4
    have t4 := B2w.free 4
    simp at k0 k1 k2 k3 k4 r0 r1 r2 r3 r4
    go_wp2_with fail
    have B2e := B2w.st5_ (.int .i64 s.nb) (.int .i64 s.nn) (.int .i64 s.ns) (.slice Ab6 s.bs.length cb6) (.slice (some ⟨gn, 0, none⟩) s.ts.length cn6)
    have hgE := st5_grown Wx (w.heap.size + 1) 0 (.int .i64 s.nb) (.int .i64 s.nn) (.int .i64 s.ns) (.slice Ab6 s.bs.length cb6) (.slice (some ⟨gn, 0, none⟩) s.ts.length cn6)
    have hBe := hBw.far hgE (by have := HW5.out; omega)
    have hNe := hNw.far hgE (by have := HW5.out; omega)
    have hbe := below_grown hbw hgE (by omega) hbw.size
    change bodyPost _ _ _ _ _ (st5 Wx (w.heap.size + 1) 0 (.int .i64 s.nb) (.int .i64 s.nn) (.int .i64 s.ns) (.slice Ab6 s.bs.length cb6) (.slice (some ⟨gn, 0, none⟩) s.ts.length cn6))
    clear hgE
    generalize st5 Wx (w.heap.size + 1) 0 (.int .i64 s.nb) (.int .i64 s.nn) (.int .i64 s.ns) (.slice Ab6 s.bs.length cb6) (.slice (some ⟨gn, 0, none⟩) s.ts.length cn6) = WF at B2e hBe hNe hbe ⊢
    apply bodyPost_ret (v := .tuple #[.agg #[.int .i64 s.nb, .int .i64 s.nn, .int .i64 s.ns, .slice Ab6 s.bs.length cb6, .slice (some ⟨gn, 0, none⟩) s.ts.length cn6], .int .i64 0])
    · exact results_cell1 Tryd.results29 _ WF (w.heap.size + 1) 25 _ (0, 0) _ rfl B2e Tryd.underlying25 rfl (by kernel_rfl)
    · rfl
    · refine ⟨_, rfl, ?_, hbe⟩
      rw [HRS.out]
      exact ShW.base_ (ShW.make (s := { s with ts := s.ts.set k { n with tg := n.tg.eraseIdx i } }) (w := WF) (base := w3.heap.size) (vb := .slice Ab6 s.bs.length cb6) (vn := .slice (some ⟨gn, 0, none⟩) s.ts.length cn6) hBe hNe) (by have := HW5.out; omega)
  · go_simp
    refine hK.out _ _ ?_ (fun hNew => ?_)
    · (first | with_reducible exact kd | with_reducible exact k4' | with_reducible exact kb)
    clear hK K hHeld
    have hHeld := hNew
    clear hNew
    try simp only [Act.put, pz1, pz2, pz3]
    refine tk 19 ?_; try simp only [Act.put, pz1, pz2, pz3]
    refine wpAnyH_ready (rs := [8]) (by kernel_rfl) (by simp) ?_
    refine AllReadyH.cons (o := ⟨some 40, .load 46 (.tmp 39), 46, "ref.go:64", #[⟨7, .data⟩], none⟩) rfl (fun K hK => ?_) AllReadyH.nil
    go_simp
    refine hK.out _ _ ?_ (fun hNew => ?_)
    · (first | with_reducible exact kd | with_reducible exact k4' | with_reducible exact kb)
    clear hK K hHeld
    have hHeld := hNew
    clear hNew
    try simp only [Act.put, pz1, pz2, pz3]
    refine tk 10 ?_; try simp only [Act.put, pz1, pz2, pz3]
    refine wpAnyH_ready (rs := [20]) (by kernel_rfl) (by simp) ?_
    refine AllReadyH.cons (o := ⟨some 52, .call { callee := .builtin .append, args := #[.tmp 42, .tmp 51], argTypes := #[46, 46] }, 46, "ref.go:64", #[⟨10, .data⟩, ⟨19, .data⟩], none⟩) rfl (fun K hK => ?_) AllReadyH.nil
    obtain ⟨ti0, hi, hz0, hz1, hz2⟩ := info_parts info_clStr
    refine step_app _ rfl (.tmp 42) (.tmp 51) _ rfl w3.heap.size 9 ti0 _ 1 16 Tryd.underlying46 hi hz0 hz1 hz2 rfl (by decide) _ i ((n.tg.map strV).take (i * 1)) rfl honc _ (L - (i + 1)) _ ((n.tg.map strV).drop (i + 1)) rfl honr hone (by unfold maxLen; omega) (by omega) HSZ.out ?_
    intro v7 w7 ho' hg' hv'
    clear hi hz0 hz1 hz2 hv'
    generalize (if ct9 = i + 1 then some (⟨gs, 0, none⟩ : Addr) else some ⟨gs, i + 1, none⟩) = A22
    replace hg' : We.drew.grownBy w7 (Value.slice (some ⟨gs, 0, none⟩) L ct9).ownBlock := hg'
    obtain ⟨A7, c7, rfl, -, -⟩ := own_shape ho'
    have hof : ∀ j, j < w3.heap.size → (Value.slice (some ⟨gs, 0, none⟩) L ct9).ownBlock ≠ some j := fun j hj h => by have := hqb j h; omega
    have B1a := (drew_blk B1u).grownR hg' (hof _ (by have := HW5.out; omega))
    have B2a := (drew_blk B2u).grownR hg' (hof _ (by have := HW5.out; omega))
    have HBa := (drew_below hb2).trans (below_app (B := w.heap.size) (by have := HW5.out; omega) HSZ.out (drew_own q1) hg')
    have hon7 := (drew_own hon).kept hg' (own_apart (drew_own hon) (drew_own q1) (by decide))
    have k4' := B1a.cell_ 4
    simp at k4'
    rw [HTT.out] at k4'
    have x7 := own_cellE hon7 h5 he (j := 3) rfl
    have f7 := World.ownsRow.frozenAt hon7 (k * 5 + 3)
    have kb : (w7.setCell ⟨gn, k * 5 + 3, none⟩ (.slice A7 (i + (L - (i + 1))) c7)).cell? ⟨w.heap.size, 4, none⟩ = some (.slice (some ⟨gn, 0, none⟩) T cn6) := by
      have := (B1a.grown (set1_grown w7 gn (k * 5 + 3) (.slice A7 (i + (L - (i + 1))) c7)) (by have := HW5.out; omega)).cell_ 4
      simp at this
      rw [HTT.out] at this
      exact this
    refine hK.out _ _ ?_ (fun hNew => ?_)
    · (first | with_reducible exact kd | with_reducible exact k4' | with_reducible exact kb)
    clear hK K hHeld
    have hHeld := hNew
    clear hNew
    try simp only [Act.put, pz1, pz2, pz3]
    refine tk 21 ?_; try simp only [Act.put, pz1, pz2, pz3]
    refine tk 22 ?_; try simp only [Act.put, pz1, pz2, pz3]
    refine wpAnyH_ready (rs := [23]) (by kernel_rfl) (by simp) ?_
    refine AllReadyH.cons (o := ⟨none, .store 46 (.tmp 54) (.tmp 52), 0, "ref.go:64", #[⟨22, .data⟩, ⟨20, .data⟩, ⟨20, .chain⟩, ⟨0, .phase⟩, ⟨1, .phase⟩, ⟨2, .phase⟩, ⟨3, .phase⟩, ⟨4, .phase⟩, ⟨5, .phase⟩, ⟨6, .phase⟩, ⟨7, .phase⟩, ⟨8, .phase⟩, ⟨9, .phase⟩, ⟨10, .phase⟩, ⟨11, .phase⟩, ⟨12, .phase⟩, ⟨13, .phase⟩, ⟨14, .phase⟩, ⟨15, .phase⟩, ⟨16, .phase⟩, ⟨17, .phase⟩, ⟨18, .phase⟩, ⟨19, .phase⟩, ⟨20, .phase⟩], none⟩) rfl (fun K hK => ?_) AllReadyH.nil
    go_simp
    refine hK.out _ _ ?_ (fun hNew => ?_)
    · (first | with_reducible exact kd | with_reducible exact k4' | with_reducible exact kb)
    clear hK K hHeld
    have hHeld := hNew
    clear hNew
    try simp only [Act.put, pz1, pz2, pz3]
    refine wpAnyH_done (by kernel_rfl) ?_ _
    refine NoPanic.normal ?_
    replace ho' : w7.ownsRow w3.heap.size 9 1 (.slice A7 (i + (L - (i + 1))) c7) (i + (L - (i + 1))) ((n.tg.eraseIdx i).map strV) := by
      have h := ho'
      rw [Nat.mul_one, ← List.map_take, ← List.map_drop, ← List.map_append, ← List.eraseIdx_eq_take_drop_succ] at h
      exact h
    have hb0 : Below We.heap.size We We.drew := below_dr We
    have hl9 : (n.tg.eraseIdx i).length = i + (L - (i + 1)) := by have := HLL.out; rw [List.length_eraseIdx, if_pos (by omega), this]; omega
    obtain ⟨hNw, hgw⟩ := nt_tags (xs := n.tg.eraseIdx i) HEL.out (drew_own HON.out) (fun k n e a b => (hnt k n e a b).below hb0) hap HNN.out HE.out (by rw [HLL.out]; exact hg') (by rw [hl9]; exact ho')
    have B1w := B1a.grown hgw (by have := HW5.out; omega)
    have B2w := B2a.grown hgw (by have := HW5.out; omega)
    have hB7 : BksW w7 w3.heap.size (.slice Ab6 s.bs.length cb6) s.bs := World.ownsRow.kept (own_belowW hBk2 hb0) hg' (own_apart (own_belowW hBk2 hb0) (drew_own q1) (by decide))
    have hBw := BksW.apartN hB7 hon7 hgw
    have hbw := below_grown HBa hgw (by have := HW5.out; omega) HBa.size
    obtain ⟨Wx, hWx⟩ : ∃ V : World, V = w7.setCell ⟨gn, k * 5 + 3, none⟩ (.slice A7 (i + (L - (i + 1))) c7) := ⟨_, rfl⟩
    rw [← hWx] at hNw B1w B2w hBw hbw ⊢
    clear hWx hgw hB7 hb0 hl9 B1a B2a HBa ho' hg' hon7 k4' x7 f7 kb hof
    have k0 := B1w.cell_ 0
    have r0 := B2w.cell_ 0
    have t0 := B2w.free 0
    have k1 := B1w.cell_ 1
    have r1 := B2w.cell_ 1
    have t1 := B2w.free 1
    have k2 := B1w.cell_ 2
    have r2 := B2w.cell_ 2
    have t2 := B2w.free 2
    have k3 := B1w.cell_ 3
    have r3 := B2w.cell_ 3
    have t3 := B2w.free 3
    have k4 := B1w.cell_ 4
    have r4 := B2w.cell_ 4
    have t4 := B2w.free 4
    simp at k0 k1 k2 k3 k4 r0 r1 r2 r3 r4
    go_wp2_with fail
    have B2e := B2w.st5_ (.int .i64 s.nb) (.int .i64 s.nn) (.int .i64 s.ns) (.slice Ab6 s.bs.length cb6) (.slice (some ⟨gn, 0, none⟩) s.ts.length cn6)
    have hgE := st5_grown Wx (w.heap.size + 1) 0 (.int .i64 s.nb) (.int .i64 s.nn) (.int .i64 s.ns) (.slice Ab6 s.bs.length cb6) (.slice (some ⟨gn, 0, none⟩) s.ts.length cn6)
    have hBe := hBw.far hgE (by have := HW5.out; omega)
    have hNe := hNw.far hgE (by have := HW5.out; omega)
    have hbe := below_grown hbw hgE (by omega) hbw.size
    change bodyPost _ _ _ _ _ (st5 Wx (w.heap.size + 1) 0 (.int .i64 s.nb) (.int .i64 s.nn) (.int .i64 s.ns) (.slice Ab6 s.bs.length cb6) (.slice (some ⟨gn, 0, none⟩) s.ts.length cn6))
    clear hgE
    generalize st5 Wx (w.heap.size + 1) 0 (.int .i64 s.nb) (.int .i64 s.nn) (.int .i64 s.ns) (.slice Ab6 s.bs.length cb6) (.slice (some ⟨gn, 0, none⟩) s.ts.length cn6) = WF at B2e hBe hNe hbe ⊢
    apply bodyPost_ret (v := .tuple #[.agg #[.int .i64 s.nb, .int .i64 s.nn, .int .i64 s.ns, .slice Ab6 s.bs.length cb6, .slice (some ⟨gn, 0, none⟩) s.ts.length cn6], .int .i64 0])
    · exact results_cell1 Tryd.results29 _ WF (w.heap.size + 1) 25 _ (0, 0) _ rfl B2e Tryd.underlying25 rfl (by kernel_rfl)
    · rfl
    · refine ⟨_, rfl, ?_, hbe⟩
      rw [HRS.out]
      exact ShW.base_ (ShW.make (s := { s with ts := s.ts.set k { n with tg := n.tg.eraseIdx i } }) (w := WF) (base := w3.heap.size) (vb := .slice Ab6 s.bs.length cb6) (vn := .slice (some ⟨gn, 0, none⟩) s.ts.length cn6) hBe hNe) (by have := HW5.out; omega)
theorem grown_refl (w : World) (o : Option Nat) : w.grownBy w o := ⟨rfl, rfl, rfl, Nat.le_refl _, fun _ _ _ => rfl⟩
theorem ch_nil {w wk w5 : World} (h : Below w.heap.size w wk) (hg : wk.grownBy w5 (Value.slice none 0 0).ownBlock) : Below w.heap.size w w5 := h.grown hg h.size (fun k hk => by simp [Value.ownBlock] at hk)
theorem rd_keep {w w5 : World} {g : Nat} {u : Value} (h : w.cell? ⟨g, 0, none⟩ = some u) (hl : g < w.heap.size) (hg : w.grownBy w5 (Value.slice none 0 0).ownBlock) : Rd w5 (some ⟨g, 0, none⟩) 1 1 [u] :=
  Rd.one (((ch_nil (Below.refl w.heap.size w) hg).cell (p := ⟨g, 0, none⟩) hl).trans h)
theorem keep_c {w w_ : World} {g o : Nat} {v : Value} (h : w.cell? ⟨g, o, none⟩ = some v) (hb : Below w.heap.size w w_) (hg : g < w.heap.size) : w_.cell? ⟨g, o, none⟩ = some v := (hb.cell (p := ⟨g, o, none⟩) hg).trans h
theorem rd_take {w : World} {base n c g k : Nat} {e : TypeId} {xs : List Value} (h : w.ownsRow base e 1 (.slice (some ⟨g, 0, none⟩) n c) n xs) (hk : k ≤ n) : Rd w (some ⟨g, 0, none⟩) k 1 (xs.take k) := by
  have hl := h.1
  refine ⟨by rw [List.length_take, hl]; omega, Or.inr ⟨g, 0, rfl, fun j u hj => ?_⟩⟩
  have hlt := (List.getElem?_eq_some_iff.1 hj).1
  rw [List.length_take] at hlt
  rw [List.getElem?_take_of_lt (by omega)] at hj
  rw [Nat.zero_add, h.cellAt _ (by omega)]
  exact hj
theorem rd_drop {w : World} {base n c g k : Nat} {e : TypeId} {xs : List Value} (h : w.ownsRow base e 1 (.slice (some ⟨g, 0, none⟩) n c) n xs) (hk : k ≤ n) : Rd w (if c = k then some ⟨g, 0, none⟩ else some ⟨g, k, none⟩) (n - k) 1 (xs.drop k) := by
  have hl := h.1
  have hc : n ≤ c := by
    obtain ⟨A, c', he, h1, h2⟩ := own_shape h
    cases he
    exact h1
  refine ⟨by rw [List.length_drop, hl]; omega, ?_⟩
  by_cases hcc : c = k
  · left
    omega
  · right
    rw [if_neg hcc]
    refine ⟨g, k, rfl, fun j u hj => ?_⟩
    rw [List.getElem?_drop] at hj
    have hlt := (List.getElem?_eq_some_iff.1 hj).1
    rw [h.cellAt _ (by omega)]
    exact hj
theorem tgPos_le_drop {l : List ByteArray} {x y : ByteArray} {j : Nat} (h : tgPos l x = j + tgPos (l.drop j) x) (hy : l[j]? = some y) (hl : lessS y x = true) : tgPos l x = (j + 1) + tgPos (l.drop (j + 1)) x := by
  obtain ⟨hlt, he⟩ := List.getElem?_eq_some_iff.1 hy
  rw [List.drop_eq_getElem_cons hlt, he, tgPos, if_pos hl] at h
  omega
theorem tgPos_no_drop {l : List ByteArray} {x y : ByteArray} {j : Nat} (h : tgPos l x = j + tgPos (l.drop j) x) (hy : l[j]? = some y) (hl : lessS y x = false) : tgPos l x = j := by
  obtain ⟨hlt, he⟩ := List.getElem?_eq_some_iff.1 hy
  rw [List.drop_eq_getElem_cons hlt, he, tgPos, if_neg (by rw [hl]; decide)] at h
  omega
theorem tgPos_end {l : List ByteArray} {x : ByteArray} {j : Nat} (h : tgPos l x = j + tgPos (l.drop j) x) (hj : l.length ≤ j) : tgPos l x = j := by
  rw [List.drop_eq_nil_of_le hj, tgPos] at h
  omega
theorem rtag_no (s : Sf) (v : Value) (y : Int) (x : ByteArray) (w : World) (hS : ShR w w.heap.size v s) (hz : SzF s) (hx : x.size ≤ 100000) (c : Int) (hc : tagC s y x = c) (hne : c ≠ 0) :
    Calls Tryd.prog 28 #[v, .int .i64 y, .string x] w fun e' w' => e' = .returned (.tuple #[.agg #[.int .i64 0, .int .i64 0, .int .i64 0, .slice none 0 0, .slice none 0 0], .int .i64 c]) ∧ Below w.heap.size w w' := by
  have hS0 := hS
  obtain ⟨Ab, cb, An, cn, rfl, hB, hN, hcb, hmb, hcn, hmn⟩ := hS.ex
  clear hS
  obtain ⟨HB, B1, B2, S1⟩ := pre2 hS0
  have HZ := Lib.hid hz
  by_cases hf : findC s y = 0
  · obtain ⟨k, n, h⟩ := fdF_of hf
    have HF := Lib.hid h
    have HNN := Lib.hid h.nt
    have HKL : Hid (k < s.ts.length) := Lib.hid (List.getElem?_eq_some_iff.1 h.nt).1
    obtain ⟨L, hL⟩ : ∃ L, n.tg.length = L := ⟨_, rfl⟩
    obtain ⟨T, hTe⟩ : ∃ T, s.ts.length = T := ⟨_, rfl⟩
    have HLL := Lib.hid hL
    have HTT := Lib.hid hTe
    have i0 : (0 : Int) ≤ (k : Int) := by omega
    have i1 : (k : Int) < (T : Int) := by have := HKL.out; omega
    have hL8 : L ≤ 100000 := by rw [← hL]; exact (h.may.small n (List.mem_of_getElem? h.nt)).1
    obtain ⟨N, hN2⟩ : ∃ N, mayN x = N := ⟨_, rfl⟩
    have HNM : Hid (nameB x.data.toList = N) := Lib.hid hN2
    unfold tagC at hc
    rw [hf, h.of_, hN2] at hc
    have hcs : c = cond N (cond (hasT n.tg x) 7 (cond (decide (4 ≤ L)) 3 0)) 6 := by rw [← hL]; exact hc.symm
    clear h hTe hf hc hN2
    clear hS0 hB hN hcb hmb hcn hmn hz
    cases N
    · obtain rfl : c = 6 := hcs
      (try clear hcs)
      clear hne hL
      go_enter Tryd.func28, Tryd.ntmps28
      go_upto_region 1 with fail
      obtain ⟨w3, hw3⟩ : ∃ V : World, V = ((w.alloc (.cells #[.int .i64 s.nb, .int .i64 s.nn, .int .i64 s.ns, .slice Ab s.bs.length cb, .slice An s.ts.length cn] 25)).alloc (.cells #[.int .i64 0, .int .i64 0, .int .i64 0, .slice none 0 0, .slice none 0 0] 25)) := ⟨_, rfl⟩
      rw [← hw3] at HB B1 B2 S1 ⊢
      clear hw3
      have k0 := B1.cell_ 0
      have k1 := B1.cell_ 1
      have k2 := B1.cell_ 2
      have k3 := B1.cell_ 3
      have k4 := B1.cell_ 4
      simp at k0 k1 k2 k3 k4
      have hW5 : w.heap.size + 2 ≤ w3.heap.size := by have := B2.lt; omega
      go_upto_region 2 with (go_at_call 35; ((with_reducible refine (rat_yes s _ y _ S1 HZ.out k n HF.out).mono ?_); rintro e' w9 ⟨v6, rfl, hQ, b6⟩; obtain ⟨Ab6, cb6, An6, cn6, rfl, hBk, hNt, q1, q2, q3, q4⟩ := ShA.parts hQ; have B1 := B1.below b6 B1.lt; have B2 := B2.below b6 B2.lt; have HB := btr HB HB.size b6; have hz6 := b6.size; (try clear k0 k1 k2 k3 k4 r0 r1 r2 r3 r4 t0 t1 t2 t3 t4); have k0 := B1.cell_ 0; have t0 := B1.free 0; have k1 := B1.cell_ 1; have t1 := B1.free 1; have k2 := B1.cell_ 2; have t2 := B1.free 2; have k3 := B1.cell_ 3; have t3 := B1.free 3; have k4 := B1.cell_ 4; have t4 := B1.free 4; simp at k0 k1 k2 k3 k4; clear b6 hQ S1))
      have B1u := B1.st5_ (.int .i64 s.nb) (.int .i64 s.nn) (.int .i64 s.ns) (.slice Ab6 s.bs.length cb6) (.slice An6 s.ts.length cn6)
      have hg6 := st5_grown w9 w.heap.size 0 (.int .i64 s.nb) (.int .i64 s.nn) (.int .i64 s.ns) (.slice Ab6 s.bs.length cb6) (.slice An6 s.ts.length cn6)
      have B2u := B2.grown hg6 (by omega)
      have hBk2 := hBk.far hg6 (by omega)
      have hNt2 := hNt.far hg6 (by omega)
      have hb2 := below_grown HB hg6 (Nat.le_refl _) HB.size
      have HSZ : Hid (w3.heap.size ≤ (st5 w9 w.heap.size 0 (.int .i64 s.nb) (.int .i64 s.nn) (.int .i64 s.ns) (.slice Ab6 s.bs.length cb6) (.slice An6 s.ts.length cn6)).heap.size) := Lib.hid (by have := hz6; have := hg6.size; omega)
      clear hg6
      obtain ⟨Wd, hWd⟩ : ∃ V : World, V = (st5 w9 w.heap.size 0 (.int .i64 s.nb) (.int .i64 s.nn) (.int .i64 s.ns) (.slice Ab6 s.bs.length cb6) (.slice An6 s.ts.length cn6)) := ⟨_, rfl⟩
      change Code.wp _ _ _ _ (st5 w9 w.heap.size 0 (.int .i64 s.nb) (.int .i64 s.nn) (.int .i64 s.ns) (.slice Ab6 s.bs.length cb6) (.slice An6 s.ts.length cn6))
      rw [← hWd] at B1u B2u hBk2 hNt2 hb2 HSZ ⊢
      clear hWd B1 B2 HB hBk hNt k0 k1 k2 k3 k4 t0 t1 t2 t3 t4 hz6
      have HW5 := Lib.hid hW5
      obtain ⟨es, hel, hon, hnt, hap⟩ := hNt2
      have hkT := (List.getElem?_eq_some_iff.1 HNN.out).1
      obtain ⟨e0, he⟩ : ∃ e, es[k]? = some e := ⟨_, List.getElem?_eq_getElem (by omega)⟩
      obtain ⟨vt, vs, rfl, q1, q2⟩ := hnt k n e0 HNN.out he
      obtain ⟨At9, ct9, rfl, ht1, ht2⟩ := own_shape q1
      obtain ⟨As9, cs9, rfl, hs1, hs2⟩ := own_shape q2
      obtain ⟨gn, hgn, hgn2⟩ : ∃ gn, An6 = some ⟨gn, 0, none⟩ ∧ w3.heap.size ≤ gn := by
        rcases hon.2 with ⟨h, h0⟩ | ⟨g, c, cu, h, hb, _⟩
        · omega
        · injection h with h1 h2 h3
          exact ⟨g, h1, hb⟩
      subst hgn
      have h5 := es_five hel hnt
      have hga : gn ≠ Wd.heap.size := by
        have := (hon.lt gn rfl).2
        omega
      have HE := Lib.hid he
      have HEL := Lib.hid hel
      have HON := Lib.hid hon
      rw [HLL.out] at he q1
      rw [HTT.out] at hon hel
      have k0 := B1u.cell_ 0
      have k1 := B1u.cell_ 1
      have k2 := B1u.cell_ 2
      have k3 := B1u.cell_ 3
      have k4 := B1u.cell_ 4
      simp at k0 k1 k2 k3 k4
      rw [HTT.out] at k4
      have x0 := own_cellE hon h5 he (j := 0) rfl
      have x1 := own_cellE hon h5 he (j := 1) rfl
      have x2 := own_cellE hon h5 he (j := 2) rfl
      have x3 := own_cellE hon h5 he (j := 3) rfl
      have x4 := own_cellE hon h5 he (j := 4) rfl
      simp only [Nat.add_zero] at x0
      have SA1 := Sl.of_own q1
      have r0 := B2u.cell_ 0
      have t0 := B2u.free 0
      have r1 := B2u.cell_ 1
      have t1 := B2u.free 1
      have r2 := B2u.cell_ 2
      have t2 := B2u.free 2
      have r3 := B2u.cell_ 3
      have t3 := B2u.free 3
      have r4 := B2u.cell_ 4
      have t4 := B2u.free 4
      simp at r0 r1 r2 r3 r4
      clear HE HEL HON
      go_wp2_with (go_at_call 55; ((with_reducible refine (rmay_any3 x _ _ hx HNM.out).mono ?_); rintro e' wN ⟨rfl, rfl⟩))
      have B2v := z5_blk B2u
      have hbv := z5_below hb2 (g := w.heap.size + 1) (by omega)
      change bodyPost _ _ _ _ _ (z5 Wd (w.heap.size + 1))
      generalize z5 Wd (w.heap.size + 1) = We at B2v hbv ⊢
      apply bodyPost_ret (v := .tuple #[.agg #[.int .i64 0, .int .i64 0, .int .i64 0, .slice none 0 0, .slice none 0 0], .int .i64 6])
      · exact results_cell1 Tryd.results28 _ We _ 25 #[.int .i64 0, .int .i64 0, .int .i64 0, .slice none 0 0, .slice none 0 0] (0, 0) _ rfl B2v Tryd.underlying25 rfl (by kernel_rfl)
      · rfl
      · exact ⟨rfl, hbv⟩
    · rcases tgAt_iff (l := n.tg) (x := x) with ⟨h1, q, hq, _⟩ | ⟨h1, h2⟩
      · obtain rfl : c = 7 := by rw [h1] at hcs; exact hcs
        (try clear hcs)
        have HV : Hid (tgAt n.tg x = (q : Int)) := Lib.hid hq
        have hv0 : (0 : Int) ≤ (q : Int) := by omega
        clear hne hL h1 hq
        go_enter Tryd.func28, Tryd.ntmps28
        go_upto_region 1 with fail
        obtain ⟨w3, hw3⟩ : ∃ V : World, V = ((w.alloc (.cells #[.int .i64 s.nb, .int .i64 s.nn, .int .i64 s.ns, .slice Ab s.bs.length cb, .slice An s.ts.length cn] 25)).alloc (.cells #[.int .i64 0, .int .i64 0, .int .i64 0, .slice none 0 0, .slice none 0 0] 25)) := ⟨_, rfl⟩
        rw [← hw3] at HB B1 B2 S1 ⊢
        clear hw3
        have k0 := B1.cell_ 0
        have k1 := B1.cell_ 1
        have k2 := B1.cell_ 2
        have k3 := B1.cell_ 3
        have k4 := B1.cell_ 4
        simp at k0 k1 k2 k3 k4
        have hW5 : w.heap.size + 2 ≤ w3.heap.size := by have := B2.lt; omega
        go_upto_region 2 with (go_at_call 35; ((with_reducible refine (rat_yes s _ y _ S1 HZ.out k n HF.out).mono ?_); rintro e' w9 ⟨v6, rfl, hQ, b6⟩; obtain ⟨Ab6, cb6, An6, cn6, rfl, hBk, hNt, q1, q2, q3, q4⟩ := ShA.parts hQ; have B1 := B1.below b6 B1.lt; have B2 := B2.below b6 B2.lt; have HB := btr HB HB.size b6; have hz6 := b6.size; (try clear k0 k1 k2 k3 k4 r0 r1 r2 r3 r4 t0 t1 t2 t3 t4); have k0 := B1.cell_ 0; have t0 := B1.free 0; have k1 := B1.cell_ 1; have t1 := B1.free 1; have k2 := B1.cell_ 2; have t2 := B1.free 2; have k3 := B1.cell_ 3; have t3 := B1.free 3; have k4 := B1.cell_ 4; have t4 := B1.free 4; simp at k0 k1 k2 k3 k4; clear b6 hQ S1))
        have B1u := B1.st5_ (.int .i64 s.nb) (.int .i64 s.nn) (.int .i64 s.ns) (.slice Ab6 s.bs.length cb6) (.slice An6 s.ts.length cn6)
        have hg6 := st5_grown w9 w.heap.size 0 (.int .i64 s.nb) (.int .i64 s.nn) (.int .i64 s.ns) (.slice Ab6 s.bs.length cb6) (.slice An6 s.ts.length cn6)
        have B2u := B2.grown hg6 (by omega)
        have hBk2 := hBk.far hg6 (by omega)
        have hNt2 := hNt.far hg6 (by omega)
        have hb2 := below_grown HB hg6 (Nat.le_refl _) HB.size
        have HSZ : Hid (w3.heap.size ≤ (st5 w9 w.heap.size 0 (.int .i64 s.nb) (.int .i64 s.nn) (.int .i64 s.ns) (.slice Ab6 s.bs.length cb6) (.slice An6 s.ts.length cn6)).heap.size) := Lib.hid (by have := hz6; have := hg6.size; omega)
        clear hg6
        obtain ⟨Wd, hWd⟩ : ∃ V : World, V = (st5 w9 w.heap.size 0 (.int .i64 s.nb) (.int .i64 s.nn) (.int .i64 s.ns) (.slice Ab6 s.bs.length cb6) (.slice An6 s.ts.length cn6)) := ⟨_, rfl⟩
        change Code.wp _ _ _ _ (st5 w9 w.heap.size 0 (.int .i64 s.nb) (.int .i64 s.nn) (.int .i64 s.ns) (.slice Ab6 s.bs.length cb6) (.slice An6 s.ts.length cn6))
        rw [← hWd] at B1u B2u hBk2 hNt2 hb2 HSZ ⊢
        clear hWd B1 B2 HB hBk hNt k0 k1 k2 k3 k4 t0 t1 t2 t3 t4 hz6
        have HW5 := Lib.hid hW5
        obtain ⟨es, hel, hon, hnt, hap⟩ := hNt2
        have hkT := (List.getElem?_eq_some_iff.1 HNN.out).1
        obtain ⟨e0, he⟩ : ∃ e, es[k]? = some e := ⟨_, List.getElem?_eq_getElem (by omega)⟩
        obtain ⟨vt, vs, rfl, q1, q2⟩ := hnt k n e0 HNN.out he
        obtain ⟨At9, ct9, rfl, ht1, ht2⟩ := own_shape q1
        obtain ⟨As9, cs9, rfl, hs1, hs2⟩ := own_shape q2
        obtain ⟨gn, hgn, hgn2⟩ : ∃ gn, An6 = some ⟨gn, 0, none⟩ ∧ w3.heap.size ≤ gn := by
          rcases hon.2 with ⟨h, h0⟩ | ⟨g, c, cu, h, hb, _⟩
          · omega
          · injection h with h1 h2 h3
            exact ⟨g, h1, hb⟩
        subst hgn
        have h5 := es_five hel hnt
        have hga : gn ≠ Wd.heap.size := by
          have := (hon.lt gn rfl).2
          omega
        have HE := Lib.hid he
        have HEL := Lib.hid hel
        have HON := Lib.hid hon
        rw [HLL.out] at he q1
        rw [HTT.out] at hon hel
        have k0 := B1u.cell_ 0
        have k1 := B1u.cell_ 1
        have k2 := B1u.cell_ 2
        have k3 := B1u.cell_ 3
        have k4 := B1u.cell_ 4
        simp at k0 k1 k2 k3 k4
        rw [HTT.out] at k4
        have x0 := own_cellE hon h5 he (j := 0) rfl
        have x1 := own_cellE hon h5 he (j := 1) rfl
        have x2 := own_cellE hon h5 he (j := 2) rfl
        have x3 := own_cellE hon h5 he (j := 3) rfl
        have x4 := own_cellE hon h5 he (j := 4) rfl
        simp only [Nat.add_zero] at x0
        have SA1 := Sl.of_own q1
        clear HE HEL
        go_upto_region 7 with (first | (go_at_call 55; ((with_reducible refine (rmay_any3 x _ _ hx HNM.out).mono ?_); rintro e' wN ⟨rfl, rfl⟩)) | (go_at_call 56; ((with_reducible refine (has_go n At9 As9 ct9 cs9 x _ L HLL.out SA1 hL8 (q : Int) HV.out).mono ?_); rintro e' w5 ⟨rfl, bx⟩; skip)))
        have B1u := B1u.below bx B1u.lt
        have B2u := B2u.below bx B2u.lt
        have hb2 := btr hb2 hb2.size bx
        have hBk2 : BksW w5 w3.heap.size (.slice Ab6 s.bs.length cb6) s.bs := own_belowW hBk2 bx
        have hon := own_belowW hon bx
        have hnt := fun k n e a b => (hnt k n e a b).below bx
        have HON := Lib.hid (own_belowW HON.out bx)
        have q1 := own_belowW q1 bx
        have q2 := own_belowW q2 bx
        have HSZ : Hid (w3.heap.size ≤ w5.heap.size) := Lib.hid (Nat.le_trans HSZ.out bx.size)
        clear bx SA1 k0 k1 k2 k3 k4 x0 x1 x2 x3 x4
        obtain ⟨We, hWe⟩ : ∃ V : World, V = w5 := ⟨_, rfl⟩
        subst hWe
        have k0 := B1u.cell_ 0
        have k1 := B1u.cell_ 1
        have k2 := B1u.cell_ 2
        have k3 := B1u.cell_ 3
        have k4 := B1u.cell_ 4
        simp at k0 k1 k2 k3 k4
        rw [HTT.out] at k4
        have r0 := B2u.cell_ 0
        have t0 := B2u.free 0
        have r1 := B2u.cell_ 1
        have t1 := B2u.free 1
        have r2 := B2u.cell_ 2
        have t2 := B2u.free 2
        have r3 := B2u.cell_ 3
        have t3 := B2u.free 3
        have r4 := B2u.cell_ 4
        have t4 := B2u.free 4
        simp at r0 r1 r2 r3 r4
        go_wp2_with fail
        have B2v := z5_blk B2u
        have hbv := z5_below hb2 (g := w.heap.size + 1) (by omega)
        change bodyPost _ _ _ _ _ (z5 We (w.heap.size + 1))
        generalize z5 We (w.heap.size + 1) = We at B2v hbv ⊢
        apply bodyPost_ret (v := .tuple #[.agg #[.int .i64 0, .int .i64 0, .int .i64 0, .slice none 0 0, .slice none 0 0], .int .i64 7])
        · exact results_cell1 Tryd.results28 _ We _ 25 #[.int .i64 0, .int .i64 0, .int .i64 0, .slice none 0 0, .slice none 0 0] (0, 0) _ rfl B2v Tryd.underlying25 rfl (by kernel_rfl)
        · rfl
        · exact ⟨rfl, hbv⟩
      · by_cases h4 : 4 ≤ L
        · obtain rfl : c = 3 := by rw [h1, decide_eq_true h4] at hcs; exact hcs
          (try clear hcs)
          obtain ⟨V, hVe⟩ : ∃ V : Int, V = -1 := ⟨_, rfl⟩
          rw [← hVe] at h2
          have HV := Lib.hid h2
          have hv0 : ¬ (0 : Int) ≤ V := by omega
          have g4 : (4 : Int) ≤ (L : Int) := by omega
          clear hne hL h1 h2 h4 hVe
          go_enter Tryd.func28, Tryd.ntmps28
          go_upto_region 1 with fail
          obtain ⟨w3, hw3⟩ : ∃ V : World, V = ((w.alloc (.cells #[.int .i64 s.nb, .int .i64 s.nn, .int .i64 s.ns, .slice Ab s.bs.length cb, .slice An s.ts.length cn] 25)).alloc (.cells #[.int .i64 0, .int .i64 0, .int .i64 0, .slice none 0 0, .slice none 0 0] 25)) := ⟨_, rfl⟩
          rw [← hw3] at HB B1 B2 S1 ⊢
          clear hw3
          have k0 := B1.cell_ 0
          have k1 := B1.cell_ 1
          have k2 := B1.cell_ 2
          have k3 := B1.cell_ 3
          have k4 := B1.cell_ 4
          simp at k0 k1 k2 k3 k4
          have hW5 : w.heap.size + 2 ≤ w3.heap.size := by have := B2.lt; omega
          go_upto_region 2 with (go_at_call 35; ((with_reducible refine (rat_yes s _ y _ S1 HZ.out k n HF.out).mono ?_); rintro e' w9 ⟨v6, rfl, hQ, b6⟩; obtain ⟨Ab6, cb6, An6, cn6, rfl, hBk, hNt, q1, q2, q3, q4⟩ := ShA.parts hQ; have B1 := B1.below b6 B1.lt; have B2 := B2.below b6 B2.lt; have HB := btr HB HB.size b6; have hz6 := b6.size; (try clear k0 k1 k2 k3 k4 r0 r1 r2 r3 r4 t0 t1 t2 t3 t4); have k0 := B1.cell_ 0; have t0 := B1.free 0; have k1 := B1.cell_ 1; have t1 := B1.free 1; have k2 := B1.cell_ 2; have t2 := B1.free 2; have k3 := B1.cell_ 3; have t3 := B1.free 3; have k4 := B1.cell_ 4; have t4 := B1.free 4; simp at k0 k1 k2 k3 k4; clear b6 hQ S1))
          have B1u := B1.st5_ (.int .i64 s.nb) (.int .i64 s.nn) (.int .i64 s.ns) (.slice Ab6 s.bs.length cb6) (.slice An6 s.ts.length cn6)
          have hg6 := st5_grown w9 w.heap.size 0 (.int .i64 s.nb) (.int .i64 s.nn) (.int .i64 s.ns) (.slice Ab6 s.bs.length cb6) (.slice An6 s.ts.length cn6)
          have B2u := B2.grown hg6 (by omega)
          have hBk2 := hBk.far hg6 (by omega)
          have hNt2 := hNt.far hg6 (by omega)
          have hb2 := below_grown HB hg6 (Nat.le_refl _) HB.size
          have HSZ : Hid (w3.heap.size ≤ (st5 w9 w.heap.size 0 (.int .i64 s.nb) (.int .i64 s.nn) (.int .i64 s.ns) (.slice Ab6 s.bs.length cb6) (.slice An6 s.ts.length cn6)).heap.size) := Lib.hid (by have := hz6; have := hg6.size; omega)
          clear hg6
          obtain ⟨Wd, hWd⟩ : ∃ V : World, V = (st5 w9 w.heap.size 0 (.int .i64 s.nb) (.int .i64 s.nn) (.int .i64 s.ns) (.slice Ab6 s.bs.length cb6) (.slice An6 s.ts.length cn6)) := ⟨_, rfl⟩
          change Code.wp _ _ _ _ (st5 w9 w.heap.size 0 (.int .i64 s.nb) (.int .i64 s.nn) (.int .i64 s.ns) (.slice Ab6 s.bs.length cb6) (.slice An6 s.ts.length cn6))
          rw [← hWd] at B1u B2u hBk2 hNt2 hb2 HSZ ⊢
          clear hWd B1 B2 HB hBk hNt k0 k1 k2 k3 k4 t0 t1 t2 t3 t4 hz6
          have HW5 := Lib.hid hW5
          obtain ⟨es, hel, hon, hnt, hap⟩ := hNt2
          have hkT := (List.getElem?_eq_some_iff.1 HNN.out).1
          obtain ⟨e0, he⟩ : ∃ e, es[k]? = some e := ⟨_, List.getElem?_eq_getElem (by omega)⟩
          obtain ⟨vt, vs, rfl, q1, q2⟩ := hnt k n e0 HNN.out he
          obtain ⟨At9, ct9, rfl, ht1, ht2⟩ := own_shape q1
          obtain ⟨As9, cs9, rfl, hs1, hs2⟩ := own_shape q2
          obtain ⟨gn, hgn, hgn2⟩ : ∃ gn, An6 = some ⟨gn, 0, none⟩ ∧ w3.heap.size ≤ gn := by
            rcases hon.2 with ⟨h, h0⟩ | ⟨g, c, cu, h, hb, _⟩
            · omega
            · injection h with h1 h2 h3
              exact ⟨g, h1, hb⟩
          subst hgn
          have h5 := es_five hel hnt
          have hga : gn ≠ Wd.heap.size := by
            have := (hon.lt gn rfl).2
            omega
          have HE := Lib.hid he
          have HEL := Lib.hid hel
          have HON := Lib.hid hon
          rw [HLL.out] at he q1
          rw [HTT.out] at hon hel
          have k0 := B1u.cell_ 0
          have k1 := B1u.cell_ 1
          have k2 := B1u.cell_ 2
          have k3 := B1u.cell_ 3
          have k4 := B1u.cell_ 4
          simp at k0 k1 k2 k3 k4
          rw [HTT.out] at k4
          have x0 := own_cellE hon h5 he (j := 0) rfl
          have x1 := own_cellE hon h5 he (j := 1) rfl
          have x2 := own_cellE hon h5 he (j := 2) rfl
          have x3 := own_cellE hon h5 he (j := 3) rfl
          have x4 := own_cellE hon h5 he (j := 4) rfl
          simp only [Nat.add_zero] at x0
          have SA1 := Sl.of_own q1
          clear HE HEL
          go_upto_region 8 with (first | (go_at_call 55; ((with_reducible refine (rmay_any3 x _ _ hx HNM.out).mono ?_); rintro e' wN ⟨rfl, rfl⟩)) | (go_at_call 56; ((with_reducible refine (has_go n At9 As9 ct9 cs9 x _ L HLL.out SA1 hL8 V HV.out).mono ?_); rintro e' w5 ⟨rfl, bx⟩; skip)))
          have B1u := B1u.below bx B1u.lt
          have B2u := B2u.below bx B2u.lt
          have hb2 := btr hb2 hb2.size bx
          have hBk2 : BksW w5 w3.heap.size (.slice Ab6 s.bs.length cb6) s.bs := own_belowW hBk2 bx
          have hon := own_belowW hon bx
          have hnt := fun k n e a b => (hnt k n e a b).below bx
          have HON := Lib.hid (own_belowW HON.out bx)
          have q1 := own_belowW q1 bx
          have q2 := own_belowW q2 bx
          have HSZ : Hid (w3.heap.size ≤ w5.heap.size) := Lib.hid (Nat.le_trans HSZ.out bx.size)
          clear bx SA1 k0 k1 k2 k3 k4 x0 x1 x2 x3 x4
          obtain ⟨We, hWe⟩ : ∃ V : World, V = w5 := ⟨_, rfl⟩
          subst hWe
          have k0 := B1u.cell_ 0
          have k1 := B1u.cell_ 1
          have k2 := B1u.cell_ 2
          have k3 := B1u.cell_ 3
          have k4 := B1u.cell_ 4
          simp at k0 k1 k2 k3 k4
          rw [HTT.out] at k4
          have x3 := own_cellE hon h5 he (j := 3) rfl
          have r0 := B2u.cell_ 0
          have t0 := B2u.free 0
          have r1 := B2u.cell_ 1
          have t1 := B2u.free 1
          have r2 := B2u.cell_ 2
          have t2 := B2u.free 2
          have r3 := B2u.cell_ 3
          have t3 := B2u.free 3
          have r4 := B2u.cell_ 4
          have t4 := B2u.free 4
          simp at r0 r1 r2 r3 r4
          go_wp2_with fail
          have B2v := z5_blk B2u
          have hbv := z5_below hb2 (g := w.heap.size + 1) (by omega)
          change bodyPost _ _ _ _ _ (z5 We (w.heap.size + 1))
          generalize z5 We (w.heap.size + 1) = We at B2v hbv ⊢
          apply bodyPost_ret (v := .tuple #[.agg #[.int .i64 0, .int .i64 0, .int .i64 0, .slice none 0 0, .slice none 0 0], .int .i64 3])
          · exact results_cell1 Tryd.results28 _ We _ 25 #[.int .i64 0, .int .i64 0, .int .i64 0, .slice none 0 0, .slice none 0 0] (0, 0) _ rfl B2v Tryd.underlying25 rfl (by kernel_rfl)
          · rfl
          · exact ⟨rfl, hbv⟩
        · exact absurd (by rw [h1, decide_eq_false h4] at hcs; exact hcs) hne
  · have hcf : findC s y = c := by
      unfold tagC at hc
      have : (findC s y == 0) = false := by simpa using hf
      rw [this] at hc
      exact hc
    have HC := Lib.hid hcf
    have HE := Lib.hid hne
    have he0 : ¬ c = 0 := hne
    clear hf hcf hc hne
    clear hS0 hB hN hcb hmb hcn hmn hz
    go_enter Tryd.func28, Tryd.ntmps28
    go_upto_region 1 with fail
    obtain ⟨w3, hw3⟩ : ∃ V : World, V = ((w.alloc (.cells #[.int .i64 s.nb, .int .i64 s.nn, .int .i64 s.ns, .slice Ab s.bs.length cb, .slice An s.ts.length cn] 25)).alloc (.cells #[.int .i64 0, .int .i64 0, .int .i64 0, .slice none 0 0, .slice none 0 0] 25)) := ⟨_, rfl⟩
    rw [← hw3] at HB B1 B2 S1 ⊢
    clear hw3
    have k0 := B1.cell_ 0
    have k1 := B1.cell_ 1
    have k2 := B1.cell_ 2
    have k3 := B1.cell_ 3
    have k4 := B1.cell_ 4
    simp at k0 k1 k2 k3 k4
    have hW5 : w.heap.size + 2 ≤ w3.heap.size := by have := B2.lt; omega
    go_upto_region 2 with (go_at_call 35; ((with_reducible refine (rat_no s _ y _ S1 HZ.out c HC.out HE.out).mono ?_); rintro e' w9 ⟨rfl, b6⟩; (try clear k0 k1 k2 k3 k4 r0 r1 r2 r3 r4 t0 t1 t2 t3 t4); obtain ⟨S1, B1, B2, HB, k0, k1, k2, k3, k4, r0, r1, r2, r3, r4, t0, t1, t2, t3, t4⟩ := keepR S1 B1 B2 HB b6; clear b6; have t0' := B1.free 0; have t1' := B1.free 1; have t2' := B1.free 2; have t3' := B1.free 3; have t4' := B1.free 4))
    have B1z := z5_blk B1
    have hgz := st5_grown w9 w.heap.size 0 (.int .i64 0) (.int .i64 0) (.int .i64 0) (.slice none 0 0) (.slice none 0 0)
    have B2z : Blk (z5 w9 w.heap.size) (w.heap.size + 1) 25 #[.int .i64 0, .int .i64 0, .int .i64 0, .slice none 0 0, .slice none 0 0] := B2.grown hgz (by omega)
    have hbz := z5_below HB (g := w.heap.size) (Nat.le_refl _)
    change Code.wp _ _ _ _ (z5 w9 w.heap.size)
    obtain ⟨Wz, hWz⟩ : ∃ V : World, V = z5 w9 w.heap.size := ⟨_, rfl⟩
    rw [← hWz] at B1z B2z hbz ⊢
    clear hgz hWz B1 B2 HB S1 k0 k1 k2 k3 k4 r0 r1 r2 r3 r4 t0 t1 t2 t3 t4 t0' t1' t2' t3' t4'
    have r0 := B2z.cell_ 0
    have r1 := B2z.cell_ 1
    have r2 := B2z.cell_ 2
    have r3 := B2z.cell_ 3
    have r4 := B2z.cell_ 4
    simp at r0 r1 r2 r3 r4
    have t0 := B2z.free 0
    have t1 := B2z.free 1
    have t2 := B2z.free 2
    have t3 := B2z.free 3
    have t4 := B2z.free 4
    go_wp2_with fail
    have B2u := z5_blk B2z
    have hb2 := z5_below hbz (g := w.heap.size + 1) (by omega)
    change bodyPost _ _ _ _ _ (z5 Wz (w.heap.size + 1))
    generalize z5 Wz (w.heap.size + 1) = Wd at B2u hb2 ⊢
    apply bodyPost_ret (v := .tuple #[.agg #[.int .i64 0, .int .i64 0, .int .i64 0, .slice none 0 0, .slice none 0 0], .int .i64 c])
    · exact results_cell1 Tryd.results28 _ Wd _ 25 #[.int .i64 0, .int .i64 0, .int .i64 0, .slice none 0 0, .slice none 0 0] (0, 0) _ rfl B2u Tryd.underlying25 rfl (by kernel_rfl)
    · rfl
    · exact ⟨rfl, hb2⟩
theorem rtag_yes (s : Sf) (v : Value) (y : Int) (x : ByteArray) (w : World) (hS : ShR w w.heap.size v s) (hz : SzF s) (hx : x.size ≤ 100000) (hc : tagC s y x = 0) :
    Calls Tryd.prog 28 #[v, .int .i64 y, .string x] w fun e' w' => ∃ v', e' = .returned (.tuple #[v', .int .i64 0]) ∧ ShW w' w.heap.size v' (tagS s y x) ∧ Below w.heap.size w w' := by
  have hS0 := hS
  obtain ⟨Ab, cb, An, cn, rfl, hB, hN, hcb, hmb, hcn, hmn⟩ := hS.ex
  clear hS
  obtain ⟨HB, B1, B2, S1⟩ := pre2 hS0
  have HZ := Lib.hid hz
  obtain ⟨hf, hm, hh, h4⟩ := tagC_cases hc
  obtain ⟨k, n, h⟩ := fdF_of hf
  rw [h.of_] at hh h4
  have HF := Lib.hid h
  have HNN := Lib.hid h.nt
  have HKL : Hid (k < s.ts.length) := Lib.hid (List.getElem?_eq_some_iff.1 h.nt).1
  obtain ⟨L, hL⟩ : ∃ L, n.tg.length = L := ⟨_, rfl⟩
  obtain ⟨T, hTe⟩ : ∃ T, s.ts.length = T := ⟨_, rfl⟩
  have HLL := Lib.hid hL
  have HTT := Lib.hid hTe
  have i0 : (0 : Int) ≤ (k : Int) := by omega
  have i1 : (k : Int) < (T : Int) := by have := HKL.out; omega
  have hL8 : L ≤ 100000 := by rw [← hL]; exact (h.may.small n (List.mem_of_getElem? h.nt)).1
  have HRS : Hid (tagS s y x = { s with ts := s.ts.set k { n with tg := tgIns n.tg x } }) := Lib.hid (tagS_eq h)
  have HNM : Hid (nameB x.data.toList = true) := Lib.hid hm
  obtain ⟨V, hVe⟩ : ∃ V : Int, V = -1 := ⟨_, rfl⟩
  have HV : Hid (tgAt n.tg x = V) := Lib.hid (by
    rcases tgAt_iff (l := n.tg) (x := x) with ⟨h1, _⟩ | ⟨h1, h2⟩
    · rw [hh] at h1
      cases h1
    · rw [h2, hVe])
  have hv0 : ¬ (0 : Int) ≤ V := by omega
  have g4 : ¬ (4 : Int) ≤ (L : Int) := by omega
  clear h hL hTe hf hc hm hh h4 hVe
  clear hS0 hB hN hcb hmb hcn hmn hz
  go_enter Tryd.func28, Tryd.ntmps28
  go_upto_region 1 with fail
  obtain ⟨w3, hw3⟩ : ∃ V : World, V = ((w.alloc (.cells #[.int .i64 s.nb, .int .i64 s.nn, .int .i64 s.ns, .slice Ab s.bs.length cb, .slice An s.ts.length cn] 25)).alloc (.cells #[.int .i64 0, .int .i64 0, .int .i64 0, .slice none 0 0, .slice none 0 0] 25)) := ⟨_, rfl⟩
  rw [← hw3] at HB B1 B2 S1 ⊢
  clear hw3
  have k0 := B1.cell_ 0
  have k1 := B1.cell_ 1
  have k2 := B1.cell_ 2
  have k3 := B1.cell_ 3
  have k4 := B1.cell_ 4
  simp at k0 k1 k2 k3 k4
  have hW5 : w.heap.size + 2 ≤ w3.heap.size := by have := B2.lt; omega
  go_upto_region 2 with (go_at_call 35; ((with_reducible refine (rat_yes s _ y _ S1 HZ.out k n HF.out).mono ?_); rintro e' w9 ⟨v6, rfl, hQ, b6⟩; obtain ⟨Ab6, cb6, An6, cn6, rfl, hBk, hNt, q1, q2, q3, q4⟩ := ShA.parts hQ; have B1 := B1.below b6 B1.lt; have B2 := B2.below b6 B2.lt; have HB := btr HB HB.size b6; have hz6 := b6.size; (try clear k0 k1 k2 k3 k4 r0 r1 r2 r3 r4 t0 t1 t2 t3 t4); have k0 := B1.cell_ 0; have t0 := B1.free 0; have k1 := B1.cell_ 1; have t1 := B1.free 1; have k2 := B1.cell_ 2; have t2 := B1.free 2; have k3 := B1.cell_ 3; have t3 := B1.free 3; have k4 := B1.cell_ 4; have t4 := B1.free 4; simp at k0 k1 k2 k3 k4; clear b6 hQ S1))
  have B1u := B1.st5_ (.int .i64 s.nb) (.int .i64 s.nn) (.int .i64 s.ns) (.slice Ab6 s.bs.length cb6) (.slice An6 s.ts.length cn6)
  have hg6 := st5_grown w9 w.heap.size 0 (.int .i64 s.nb) (.int .i64 s.nn) (.int .i64 s.ns) (.slice Ab6 s.bs.length cb6) (.slice An6 s.ts.length cn6)
  have B2u := B2.grown hg6 (by omega)
  have hBk2 := hBk.far hg6 (by omega)
  have hNt2 := hNt.far hg6 (by omega)
  have hb2 := below_grown HB hg6 (Nat.le_refl _) HB.size
  have HSZ : Hid (w3.heap.size ≤ (st5 w9 w.heap.size 0 (.int .i64 s.nb) (.int .i64 s.nn) (.int .i64 s.ns) (.slice Ab6 s.bs.length cb6) (.slice An6 s.ts.length cn6)).heap.size) := Lib.hid (by have := hz6; have := hg6.size; omega)
  clear hg6
  obtain ⟨Wd, hWd⟩ : ∃ V : World, V = (st5 w9 w.heap.size 0 (.int .i64 s.nb) (.int .i64 s.nn) (.int .i64 s.ns) (.slice Ab6 s.bs.length cb6) (.slice An6 s.ts.length cn6)) := ⟨_, rfl⟩
  change Code.wp _ _ _ _ (st5 w9 w.heap.size 0 (.int .i64 s.nb) (.int .i64 s.nn) (.int .i64 s.ns) (.slice Ab6 s.bs.length cb6) (.slice An6 s.ts.length cn6))
  rw [← hWd] at B1u B2u hBk2 hNt2 hb2 HSZ ⊢
  clear hWd B1 B2 HB hBk hNt k0 k1 k2 k3 k4 t0 t1 t2 t3 t4 hz6
  have HW5 := Lib.hid hW5
  obtain ⟨es, hel, hon, hnt, hap⟩ := hNt2
  have hkT := (List.getElem?_eq_some_iff.1 HNN.out).1
  obtain ⟨e0, he⟩ : ∃ e, es[k]? = some e := ⟨_, List.getElem?_eq_getElem (by omega)⟩
  obtain ⟨vt, vs, rfl, q1, q2⟩ := hnt k n e0 HNN.out he
  obtain ⟨At9, ct9, rfl, ht1, ht2⟩ := own_shape q1
  obtain ⟨As9, cs9, rfl, hs1, hs2⟩ := own_shape q2
  obtain ⟨gn, hgn, hgn2⟩ : ∃ gn, An6 = some ⟨gn, 0, none⟩ ∧ w3.heap.size ≤ gn := by
    rcases hon.2 with ⟨h, h0⟩ | ⟨g, c, cu, h, hb, _⟩
    · omega
    · injection h with h1 h2 h3
      exact ⟨g, h1, hb⟩
  subst hgn
  have h5 := es_five hel hnt
  have hga : gn ≠ Wd.heap.size := by
    have := (hon.lt gn rfl).2
    omega
  have HE := Lib.hid he
  have HEL := Lib.hid hel
  have HON := Lib.hid hon
  rw [HLL.out] at he q1
  rw [HTT.out] at hon hel
  have k0 := B1u.cell_ 0
  have k1 := B1u.cell_ 1
  have k2 := B1u.cell_ 2
  have k3 := B1u.cell_ 3
  have k4 := B1u.cell_ 4
  simp at k0 k1 k2 k3 k4
  rw [HTT.out] at k4
  have x0 := own_cellE hon h5 he (j := 0) rfl
  have x1 := own_cellE hon h5 he (j := 1) rfl
  have x2 := own_cellE hon h5 he (j := 2) rfl
  have x3 := own_cellE hon h5 he (j := 3) rfl
  have x4 := own_cellE hon h5 he (j := 4) rfl
  simp only [Nat.add_zero] at x0
  have SA1 := Sl.of_own q1
  go_upto_region 8 with (first | (go_at_call 55; ((with_reducible refine (rmay_any3 x _ _ hx HNM.out).mono ?_); rintro e' wN ⟨rfl, rfl⟩)) | (go_at_call 56; ((with_reducible refine (has_go n At9 As9 ct9 cs9 x _ L HLL.out SA1 hL8 V HV.out).mono ?_); rintro e' w5 ⟨rfl, bx⟩; skip)))
  have B1u := B1u.below bx B1u.lt
  have B2u := B2u.below bx B2u.lt
  have hb2 := btr hb2 hb2.size bx
  have hBk2 : BksW w5 w3.heap.size (.slice Ab6 s.bs.length cb6) s.bs := own_belowW hBk2 bx
  have hon := own_belowW hon bx
  have hnt := fun k n e a b => (hnt k n e a b).below bx
  have HON := Lib.hid (own_belowW HON.out bx)
  have q1 := own_belowW q1 bx
  have q2 := own_belowW q2 bx
  have HSZ : Hid (w3.heap.size ≤ w5.heap.size) := Lib.hid (Nat.le_trans HSZ.out bx.size)
  clear bx SA1 k0 k1 k2 k3 k4 x0 x1 x2 x3 x4
  obtain ⟨We, hWe⟩ : ∃ V : World, V = w5 := ⟨_, rfl⟩
  subst hWe
  have k0 := B1u.cell_ 0
  have k1 := B1u.cell_ 1
  have k2 := B1u.cell_ 2
  have k3 := B1u.cell_ 3
  have k4 := B1u.cell_ 4
  simp at k0 k1 k2 k3 k4
  rw [HTT.out] at k4
  have lBox : w.heap.size < We.heap.size := B1u.lt
  have x3 := own_cellE hon h5 he (j := 3) rfl
  rcases q1.2 with ⟨hnv, hn0⟩ | ⟨gs, _, _, hgs, _, _, _, _, _⟩
  · injection hnv with hn1 hn2 hn3
    subst hn1 hn2 hn3
    go_wp2_with fail
    go_loop [11] (fun i => i = .int .i64 0) (fun i => 0)
    case atStart => rfl
    case round =>
      obtain rfl := hrel
      obtain ⟨p, hp0⟩ : ∃ p : Nat, p = 0 := ⟨0, rfl⟩
      have HP : Hid (tgPos n.tg x = p) := Lib.hid (by
        have h := tgPos_le n.tg x
        rw [HLL.out] at h
        omega)
      have hpL : p ≤ 0 := by omega
      go_upto_region 14 with fail
      have kd : We.drew.cell? ⟨w.heap.size, 4, none⟩ = some (.slice (some ⟨gn, 0, none⟩) T cn6) := drew_cell k4
      have bAL : Below We.heap.size We (We.alloc (.cells #[.string x] 9)).drew := drew_below ((Below.refl _ _).alloc (Nat.le_refl _) _)
      have kA : (We.alloc (.cells #[.string x] 9)).drew.cell? ⟨w.heap.size, 4, none⟩ = some (.slice (some ⟨gn, 0, none⟩) T cn6) := keep_c k4 bAL lBox
      have cxB : (We.alloc (.cells #[.string x] 9)).drew.cell? ⟨We.heap.size, 0, none⟩ = some (.string x) := by
        show (We.alloc (.cells #[.string x] 9)).cell? ⟨We.heap.size, 0, none⟩ = some (.string x)
        rw [Joins.cell_of_block (heap_alloc_new We _)]
        rfl
      have hqs : ∀ u ∈ [Value.string x], u.oneCell' = true := fun u hu => by
        simp at hu
        subst hu
        rfl
      have honeT : ∀ u ∈ (n.tg.map strV).take p, u.oneCell' = true := fun u hu => by
        obtain ⟨x, _, rfl⟩ := List.mem_map.1 (List.mem_of_mem_take hu)
        rfl
      have honeD : ∀ u ∈ (n.tg.map strV).drop p, u.oneCell' = true := fun u hu => by
        obtain ⟨x, _, rfl⟩ := List.mem_map.1 (List.mem_of_mem_drop hu)
        rfl
      have rdN1 : ∀ w : World, Rd w none 0 1 ((n.tg.map strV).take p) := fun w => ⟨by rw [List.length_take, List.length_map, HLL.out]; omega, Or.inl rfl⟩
      have rdN2 : ∀ w : World, Rd w none 0 1 ((n.tg.map strV).drop p) := fun w => ⟨by rw [List.length_drop, List.length_map, HLL.out]; omega, Or.inl rfl⟩
      refine wp_region_noPanic ?_
      refine wp_region_held_drew (S := (fun w_ => w_.cell? ⟨w.heap.size, 4, none⟩ = some (.slice (some ⟨gn, 0, none⟩) T cn6))) (by kernel_rfl) ?_ (fun hHeld => ?_)
      · (first | with_reducible exact kd | with_reducible exact kA | with_reducible exact k5 | with_reducible exact k5a | with_reducible exact k7 | with_reducible exact k8 | with_reducible exact kst)
      refine tk 0 ?_; try simp only [Act.put, pz1, pz2, pz3]
      refine tk 1 ?_; try simp only [Act.put, pz1, pz2, pz3]
      refine tk 2 ?_; try simp only [Act.put, pz1, pz2, pz3]
      refine tk 3 ?_; try simp only [Act.put, pz1, pz2, pz3]
      refine tk 4 ?_; try simp only [Act.put, pz1, pz2, pz3]
      refine tk 5 ?_; try simp only [Act.put, pz1, pz2, pz3]
      refine tk 7 ?_; try simp only [Act.put, pz1, pz2, pz3]
      refine tk 10 ?_; try simp only [Act.put, pz1, pz2, pz3]
      refine tk 11 ?_; try simp only [Act.put, pz1, pz2, pz3]
      refine tk 12 ?_; try simp only [Act.put, pz1, pz2, pz3]
      refine wpAnyH_ready (rs := [6, 8]) (by kernel_rfl) (by simp) ?_
      refine (AllReadyH.cons (o := ⟨some 75, .call { callee := .builtin .append, args := #[.const (.slice none 0 0), .tmp 74], argTypes := #[46, 46] }, 46, "ref.go:50", #[⟨5, .data⟩], none⟩) rfl (fun K hK => ?_) (AllReadyH.cons (o := ⟨some 77, .buildSlice 46 1 #[(0, .tmp 76)], 46, "ref.go:50", #[⟨7, .data⟩], none⟩) rfl (fun K hK => ?_) AllReadyH.nil))
      · obtain ⟨ti0, hi, hz0, hz1, hz2⟩ := info_parts info_clStr
        refine step_app _ rfl (.const (.slice none 0 0)) (.tmp 74) _ rfl We.heap.size 9 ti0 _ 1 16 Tryd.underlying46 hi hz0 hz1 hz2 rfl (by decide) (.slice none 0 0) 0 ([]) rfl (World.ownsRow_nil _ _ _ _) _ 0 _ ((n.tg.map strV).take p) rfl (rdN1 _) honeT (by unfold maxLen; omega) (by omega) (by first | exact Nat.le_refl _ | (simp; done) | (simp; omega)) ?_
        intro v5 w5 ho5 hg5 hv5
        clear hi hz0 hz1 hz2
        rw [Nat.zero_add, List.nil_append] at ho5
        have b5 : Below We.heap.size We w5 := (by first | exact ch_nil (below_dr We) hg5 | exact ch_nil bAL hg5)
        have k5 := keep_c k4 b5 lBox
        have k5a : (w5.alloc (.cells #[.string x] 9)).cell? ⟨w.heap.size, 4, none⟩ = some (.slice (some ⟨gn, 0, none⟩) T cn6) := keep_c k4 (b5.alloc b5.size _) lBox
        (try have RxB := rd_keep cxB (by simp) hg5)
        refine hK.out _ _ ?_ (fun hNew => ?_)
        · (first | with_reducible exact kd | with_reducible exact kA | with_reducible exact k5 | with_reducible exact k5a | with_reducible exact k7 | with_reducible exact k8 | with_reducible exact kst)
        clear hK K hHeld
        have hHeld := hNew
        clear hNew
        try simp only [Act.put, pz1, pz2, pz3]
        refine wpAnyH_ready (rs := [8]) (by kernel_rfl) (by simp) ?_
        refine AllReadyH.cons (o := ⟨some 77, .buildSlice 46 1 #[(0, .tmp 76)], 46, "ref.go:50", #[⟨7, .data⟩], none⟩) rfl (fun K hK => ?_) AllReadyH.nil
        go_simp
        refine hK.out _ _ ?_ (fun hNew => ?_)
        · (first | with_reducible exact kd | with_reducible exact kA | with_reducible exact k5 | with_reducible exact k5a | with_reducible exact k7 | with_reducible exact k8 | with_reducible exact kst)
        clear hK K hHeld
        have hHeld := hNew
        clear hNew
        try simp only [Act.put, pz1, pz2, pz3]
        refine wpAnyH_ready (rs := [9]) (by kernel_rfl) (by simp) ?_
        refine AllReadyH.cons (o := ⟨some 78, .call { callee := .builtin .append, args := #[.tmp 75, .tmp 77], argTypes := #[46, 46] }, 46, "ref.go:50", #[⟨6, .data⟩, ⟨8, .data⟩, ⟨6, .chain⟩], none⟩) rfl (fun K hK => ?_) AllReadyH.nil
        obtain ⟨ti0, hi, hz0, hz1, hz2⟩ := info_parts info_clStr
        refine step_app _ rfl (.tmp 75) (.tmp 77) _ rfl We.heap.size 9 ti0 _ 1 16 Tryd.underlying46 hi hz0 hz1 hz2 rfl (by decide) (v5) 0 ((n.tg.map strV).take p) rfl (by first | exact ho5 | exact ho5.alloc _) _ 1 _ ([.string x]) rfl (by first | exact rd_newV w5 _ _ rfl | exact RxB) hqs (by unfold maxLen; omega) (by omega) (by first | exact b5.size | (have := b5.size; simp; omega)) ?_
        intro v7 w7 ho7 hg7 hv7
        clear hi hz0 hz1 hz2
        have b7 : Below We.heap.size We w7 := (by first | exact b5.trans (below_app (Nat.le_refl _) b5.size ho5 hg7) | exact (b5.alloc b5.size _).trans (below_app (Nat.le_refl _) (by have := b5.size; simp; omega) (ho5.alloc _) hg7))
        have k7 := keep_c k4 b7 lBox
        refine hK.out _ _ ?_ (fun hNew => ?_)
        · (first | with_reducible exact kd | with_reducible exact kA | with_reducible exact k5 | with_reducible exact k5a | with_reducible exact k7 | with_reducible exact k8 | with_reducible exact kst)
        clear hK K hHeld
        have hHeld := hNew
        clear hNew
        try simp only [Act.put, pz1, pz2, pz3]
        refine wpAnyH_ready (rs := [13]) (by kernel_rfl) (by simp) ?_
        refine AllReadyH.cons (o := ⟨some 82, .call { callee := .builtin .append, args := #[.tmp 78, .tmp 81], argTypes := #[46, 46] }, 46, "ref.go:50", #[⟨9, .data⟩, ⟨12, .data⟩, ⟨9, .chain⟩], none⟩) rfl (fun K hK => ?_) AllReadyH.nil
        obtain ⟨ti0, hi, hz0, hz1, hz2⟩ := info_parts info_clStr
        refine step_app _ rfl (.tmp 78) (.tmp 81) _ rfl We.heap.size 9 ti0 _ 1 16 Tryd.underlying46 hi hz0 hz1 hz2 rfl (by decide) (v7) (0 + 1) ((n.tg.map strV).take p ++ [.string x]) rfl ho7 _ 0 _ ((n.tg.map strV).drop p) rfl (rdN2 w7) honeD (by unfold maxLen; omega) (by omega) b7.size ?_
        intro v8 w8 ho8 hg8 hv8
        clear hi hz0 hz1 hz2
        obtain ⟨A8, c8, rfl, -, -⟩ := own_shape ho8
        have b8 := b7.trans (below_app (Nat.le_refl _) b7.size ho7 hg8)
        have k8 := keep_c k4 b8 lBox
        have hon8 := own_belowW hon b8
        have x8 := own_cellE hon8 h5 he (j := 3) rfl
        have f8 := World.ownsRow.frozenAt hon8 (k * 5 + 3)
        have kst : (w8.setCell ⟨gn, k * 5 + 3, none⟩ (.slice A8 (0 + 1 + 0) c8)).cell? ⟨w.heap.size, 4, none⟩ = some (.slice (some ⟨gn, 0, none⟩) T cn6) := by
          have := ((B1u.below b8 B1u.lt).grown (set1_grown w8 gn (k * 5 + 3) (.slice A8 (0 + 1 + 0) c8)) (by have := HW5.out; omega)).cell_ 4
          simp at this
          rw [HTT.out] at this
          exact this
        refine hK.out _ _ ?_ (fun hNew => ?_)
        · (first | with_reducible exact kd | with_reducible exact kA | with_reducible exact k5 | with_reducible exact k5a | with_reducible exact k7 | with_reducible exact k8 | with_reducible exact kst)
        clear hK K hHeld
        have hHeld := hNew
        clear hNew
        try simp only [Act.put, pz1, pz2, pz3]
        refine tk 14 ?_; try simp only [Act.put, pz1, pz2, pz3]
        refine tk 15 ?_; try simp only [Act.put, pz1, pz2, pz3]
        refine wpAnyH_ready (rs := [16]) (by kernel_rfl) (by simp) ?_
        refine AllReadyH.cons (o := ⟨none, .store 46 (.tmp 84) (.tmp 82), 0, "ref.go:50", #[⟨15, .data⟩, ⟨13, .data⟩, ⟨13, .chain⟩, ⟨0, .phase⟩, ⟨1, .phase⟩, ⟨2, .phase⟩, ⟨3, .phase⟩, ⟨4, .phase⟩, ⟨5, .phase⟩, ⟨6, .phase⟩, ⟨7, .phase⟩, ⟨8, .phase⟩, ⟨9, .phase⟩, ⟨10, .phase⟩, ⟨11, .phase⟩, ⟨12, .phase⟩, ⟨13, .phase⟩], none⟩) rfl (fun K hK => ?_) AllReadyH.nil
        go_simp
        refine hK.out _ _ ?_ (fun hNew => ?_)
        · (first | with_reducible exact kd | with_reducible exact kA | with_reducible exact k5 | with_reducible exact k5a | with_reducible exact k7 | with_reducible exact k8 | with_reducible exact kst)
        clear hK K hHeld
        have hHeld := hNew
        clear hNew
        try simp only [Act.put, pz1, pz2, pz3]
        refine wpAnyH_done (by kernel_rfl) ?_ _
        refine NoPanic.normal ?_
        have hl9 : (tgIns n.tg x).length = 0 + 1 + 0 := by have := tgIns_len n.tg x; rw [HLL.out] at this; omega
        replace ho8 : w8.ownsRow We.heap.size 9 1 (.slice A8 (0 + 1 + 0) c8) (0 + 1 + 0) ((tgIns n.tg x).map strV) := by
          have h := ho8
          rw [← List.map_take, ← List.map_drop] at h
          unfold tgIns
          rw [HP.out, List.map_append, List.map_append]
          exact h
        obtain ⟨hNw, hgw⟩ := nt_tags (w := w8) (w7 := w8) (xs := tgIns n.tg x) HEL.out (own_belowW HON.out b8) (fun k n e a b => (hnt k n e a b).below b8) hap HNN.out HE.out (grown_refl _ _) (by rw [hl9]; exact own_base ho8 HSZ.out)
        have B1w := (B1u.below b8 B1u.lt).grown hgw (by have := HW5.out; omega)
        have B2w := (B2u.below b8 B2u.lt).grown hgw (by have := HW5.out; omega)
        have hB8 : BksW w8 w3.heap.size (.slice Ab6 s.bs.length cb6) s.bs := own_belowW hBk2 b8
        have hBw := BksW.apartN hB8 hon8 hgw
        have hbw := below_grown (btr hb2 hb2.size b8) hgw (by have := HW5.out; omega) (btr hb2 hb2.size b8).size
        obtain ⟨Wx, hWx⟩ : ∃ V : World, V = w8.setCell ⟨gn, k * 5 + 3, none⟩ (.slice A8 (0 + 1 + 0) c8) := ⟨_, rfl⟩
        rw [← hWx] at hNw B1w B2w hBw hbw ⊢
        clear hWx hgw hB8 hl9 hon8 x8 f8 kst k5 k5a k7 k8 kd kA k4
        have k0 := B1w.cell_ 0
        have r0 := B2w.cell_ 0
        have t0 := B2w.free 0
        have k1 := B1w.cell_ 1
        have r1 := B2w.cell_ 1
        have t1 := B2w.free 1
        have k2 := B1w.cell_ 2
        have r2 := B2w.cell_ 2
        have t2 := B2w.free 2
        have k3 := B1w.cell_ 3
        have r3 := B2w.cell_ 3
        have t3 := B2w.free 3
        have k4 := B1w.cell_ 4
        have r4 := B2w.cell_ 4
        have t4 := B2w.free 4
        simp at k0 k1 k2 k3 k4 r0 r1 r2 r3 r4
        go_wp2_with fail
        have B2e := B2w.st5_ (.int .i64 s.nb) (.int .i64 s.nn) (.int .i64 s.ns) (.slice Ab6 s.bs.length cb6) (.slice (some ⟨gn, 0, none⟩) s.ts.length cn6)
        have hgE := st5_grown Wx (w.heap.size + 1) 0 (.int .i64 s.nb) (.int .i64 s.nn) (.int .i64 s.ns) (.slice Ab6 s.bs.length cb6) (.slice (some ⟨gn, 0, none⟩) s.ts.length cn6)
        have hBe := hBw.far hgE (by have := HW5.out; omega)
        have hNe := hNw.far hgE (by have := HW5.out; omega)
        have hbe := below_grown hbw hgE (by omega) hbw.size
        change bodyPost _ _ _ _ _ (st5 Wx (w.heap.size + 1) 0 (.int .i64 s.nb) (.int .i64 s.nn) (.int .i64 s.ns) (.slice Ab6 s.bs.length cb6) (.slice (some ⟨gn, 0, none⟩) s.ts.length cn6))
        clear hgE
        generalize st5 Wx (w.heap.size + 1) 0 (.int .i64 s.nb) (.int .i64 s.nn) (.int .i64 s.ns) (.slice Ab6 s.bs.length cb6) (.slice (some ⟨gn, 0, none⟩) s.ts.length cn6) = WF at B2e hBe hNe hbe ⊢
        apply bodyPost_ret (v := .tuple #[.agg #[.int .i64 s.nb, .int .i64 s.nn, .int .i64 s.ns, .slice Ab6 s.bs.length cb6, .slice (some ⟨gn, 0, none⟩) s.ts.length cn6], .int .i64 0])
        · exact results_cell1 Tryd.results28 _ WF (w.heap.size + 1) 25 _ (0, 0) _ rfl B2e Tryd.underlying25 rfl (by kernel_rfl)
        · rfl
        · refine ⟨_, rfl, ?_, hbe⟩
          rw [HRS.out]
          exact ShW.base_ (ShW.make (s := { s with ts := s.ts.set k { n with tg := tgIns n.tg x } }) (w := WF) (base := w3.heap.size) (vb := .slice Ab6 s.bs.length cb6) (vn := .slice (some ⟨gn, 0, none⟩) s.ts.length cn6) hBe hNe) (by have := HW5.out; omega)
      · go_simp
        refine hK.out _ _ ?_ (fun hNew => ?_)
        · (first | with_reducible exact kd | with_reducible exact kA | with_reducible exact k5 | with_reducible exact k5a | with_reducible exact k7 | with_reducible exact k8 | with_reducible exact kst)
        clear hK K hHeld
        have hHeld := hNew
        clear hNew
        try simp only [Act.put, pz1, pz2, pz3]
        refine wpAnyH_ready (rs := [6]) (by kernel_rfl) (by simp) ?_
        refine AllReadyH.cons (o := ⟨some 75, .call { callee := .builtin .append, args := #[.const (.slice none 0 0), .tmp 74], argTypes := #[46, 46] }, 46, "ref.go:50", #[⟨5, .data⟩], none⟩) rfl (fun K hK => ?_) AllReadyH.nil
        obtain ⟨ti0, hi, hz0, hz1, hz2⟩ := info_parts info_clStr
        refine step_app _ rfl (.const (.slice none 0 0)) (.tmp 74) _ rfl We.heap.size 9 ti0 _ 1 16 Tryd.underlying46 hi hz0 hz1 hz2 rfl (by decide) (.slice none 0 0) 0 ([]) rfl (World.ownsRow_nil _ _ _ _) _ 0 _ ((n.tg.map strV).take p) rfl (rdN1 _) honeT (by unfold maxLen; omega) (by omega) (by first | exact Nat.le_refl _ | (simp; done) | (simp; omega)) ?_
        intro v5 w5 ho5 hg5 hv5
        clear hi hz0 hz1 hz2
        rw [Nat.zero_add, List.nil_append] at ho5
        have b5 : Below We.heap.size We w5 := (by first | exact ch_nil (below_dr We) hg5 | exact ch_nil bAL hg5)
        have k5 := keep_c k4 b5 lBox
        have k5a : (w5.alloc (.cells #[.string x] 9)).cell? ⟨w.heap.size, 4, none⟩ = some (.slice (some ⟨gn, 0, none⟩) T cn6) := keep_c k4 (b5.alloc b5.size _) lBox
        (try have RxB := rd_keep cxB (by simp) hg5)
        refine hK.out _ _ ?_ (fun hNew => ?_)
        · (first | with_reducible exact kd | with_reducible exact kA | with_reducible exact k5 | with_reducible exact k5a | with_reducible exact k7 | with_reducible exact k8 | with_reducible exact kst)
        clear hK K hHeld
        have hHeld := hNew
        clear hNew
        try simp only [Act.put, pz1, pz2, pz3]
        refine wpAnyH_ready (rs := [9]) (by kernel_rfl) (by simp) ?_
        refine AllReadyH.cons (o := ⟨some 78, .call { callee := .builtin .append, args := #[.tmp 75, .tmp 77], argTypes := #[46, 46] }, 46, "ref.go:50", #[⟨6, .data⟩, ⟨8, .data⟩, ⟨6, .chain⟩], none⟩) rfl (fun K hK => ?_) AllReadyH.nil
        obtain ⟨ti0, hi, hz0, hz1, hz2⟩ := info_parts info_clStr
        refine step_app _ rfl (.tmp 75) (.tmp 77) _ rfl We.heap.size 9 ti0 _ 1 16 Tryd.underlying46 hi hz0 hz1 hz2 rfl (by decide) (v5) 0 ((n.tg.map strV).take p) rfl (by first | exact ho5 | exact ho5.alloc _) _ 1 _ ([.string x]) rfl (by first | exact rd_newV w5 _ _ rfl | exact RxB) hqs (by unfold maxLen; omega) (by omega) (by first | exact b5.size | (have := b5.size; simp; omega)) ?_
        intro v7 w7 ho7 hg7 hv7
        clear hi hz0 hz1 hz2
        have b7 : Below We.heap.size We w7 := (by first | exact b5.trans (below_app (Nat.le_refl _) b5.size ho5 hg7) | exact (b5.alloc b5.size _).trans (below_app (Nat.le_refl _) (by have := b5.size; simp; omega) (ho5.alloc _) hg7))
        have k7 := keep_c k4 b7 lBox
        refine hK.out _ _ ?_ (fun hNew => ?_)
        · (first | with_reducible exact kd | with_reducible exact kA | with_reducible exact k5 | with_reducible exact k5a | with_reducible exact k7 | with_reducible exact k8 | with_reducible exact kst)
        clear hK K hHeld
        have hHeld := hNew
        clear hNew
        try simp only [Act.put, pz1, pz2, pz3]
        refine wpAnyH_ready (rs := [13]) (by kernel_rfl) (by simp) ?_
        refine AllReadyH.cons (o := ⟨some 82, .call { callee := .builtin .append, args := #[.tmp 78, .tmp 81], argTypes := #[46, 46] }, 46, "ref.go:50", #[⟨9, .data⟩, ⟨12, .data⟩, ⟨9, .chain⟩], none⟩) rfl (fun K hK => ?_) AllReadyH.nil
        obtain ⟨ti0, hi, hz0, hz1, hz2⟩ := info_parts info_clStr
        refine step_app _ rfl (.tmp 78) (.tmp 81) _ rfl We.heap.size 9 ti0 _ 1 16 Tryd.underlying46 hi hz0 hz1 hz2 rfl (by decide) (v7) (0 + 1) ((n.tg.map strV).take p ++ [.string x]) rfl ho7 _ 0 _ ((n.tg.map strV).drop p) rfl (rdN2 w7) honeD (by unfold maxLen; omega) (by omega) b7.size ?_
        intro v8 w8 ho8 hg8 hv8
        clear hi hz0 hz1 hz2
        obtain ⟨A8, c8, rfl, -, -⟩ := own_shape ho8
        have b8 := b7.trans (below_app (Nat.le_refl _) b7.size ho7 hg8)
        have k8 := keep_c k4 b8 lBox
        have hon8 := own_belowW hon b8
        have x8 := own_cellE hon8 h5 he (j := 3) rfl
        have f8 := World.ownsRow.frozenAt hon8 (k * 5 + 3)
        have kst : (w8.setCell ⟨gn, k * 5 + 3, none⟩ (.slice A8 (0 + 1 + 0) c8)).cell? ⟨w.heap.size, 4, none⟩ = some (.slice (some ⟨gn, 0, none⟩) T cn6) := by
          have := ((B1u.below b8 B1u.lt).grown (set1_grown w8 gn (k * 5 + 3) (.slice A8 (0 + 1 + 0) c8)) (by have := HW5.out; omega)).cell_ 4
          simp at this
          rw [HTT.out] at this
          exact this
        refine hK.out _ _ ?_ (fun hNew => ?_)
        · (first | with_reducible exact kd | with_reducible exact kA | with_reducible exact k5 | with_reducible exact k5a | with_reducible exact k7 | with_reducible exact k8 | with_reducible exact kst)
        clear hK K hHeld
        have hHeld := hNew
        clear hNew
        try simp only [Act.put, pz1, pz2, pz3]
        refine tk 14 ?_; try simp only [Act.put, pz1, pz2, pz3]
        refine tk 15 ?_; try simp only [Act.put, pz1, pz2, pz3]
        refine wpAnyH_ready (rs := [16]) (by kernel_rfl) (by simp) ?_
        refine AllReadyH.cons (o := ⟨none, .store 46 (.tmp 84) (.tmp 82), 0, "ref.go:50", #[⟨15, .data⟩, ⟨13, .data⟩, ⟨13, .chain⟩, ⟨0, .phase⟩, ⟨1, .phase⟩, ⟨2, .phase⟩, ⟨3, .phase⟩, ⟨4, .phase⟩, ⟨5, .phase⟩, ⟨6, .phase⟩, ⟨7, .phase⟩, ⟨8, .phase⟩, ⟨9, .phase⟩, ⟨10, .phase⟩, ⟨11, .phase⟩, ⟨12, .phase⟩, ⟨13, .phase⟩], none⟩) rfl (fun K hK => ?_) AllReadyH.nil
        go_simp
        refine hK.out _ _ ?_ (fun hNew => ?_)
        · (first | with_reducible exact kd | with_reducible exact kA | with_reducible exact k5 | with_reducible exact k5a | with_reducible exact k7 | with_reducible exact k8 | with_reducible exact kst)
        clear hK K hHeld
        have hHeld := hNew
        clear hNew
        try simp only [Act.put, pz1, pz2, pz3]
        refine wpAnyH_done (by kernel_rfl) ?_ _
        refine NoPanic.normal ?_
        have hl9 : (tgIns n.tg x).length = 0 + 1 + 0 := by have := tgIns_len n.tg x; rw [HLL.out] at this; omega
        replace ho8 : w8.ownsRow We.heap.size 9 1 (.slice A8 (0 + 1 + 0) c8) (0 + 1 + 0) ((tgIns n.tg x).map strV) := by
          have h := ho8
          rw [← List.map_take, ← List.map_drop] at h
          unfold tgIns
          rw [HP.out, List.map_append, List.map_append]
          exact h
        obtain ⟨hNw, hgw⟩ := nt_tags (w := w8) (w7 := w8) (xs := tgIns n.tg x) HEL.out (own_belowW HON.out b8) (fun k n e a b => (hnt k n e a b).below b8) hap HNN.out HE.out (grown_refl _ _) (by rw [hl9]; exact own_base ho8 HSZ.out)
        have B1w := (B1u.below b8 B1u.lt).grown hgw (by have := HW5.out; omega)
        have B2w := (B2u.below b8 B2u.lt).grown hgw (by have := HW5.out; omega)
        have hB8 : BksW w8 w3.heap.size (.slice Ab6 s.bs.length cb6) s.bs := own_belowW hBk2 b8
        have hBw := BksW.apartN hB8 hon8 hgw
        have hbw := below_grown (btr hb2 hb2.size b8) hgw (by have := HW5.out; omega) (btr hb2 hb2.size b8).size
        obtain ⟨Wx, hWx⟩ : ∃ V : World, V = w8.setCell ⟨gn, k * 5 + 3, none⟩ (.slice A8 (0 + 1 + 0) c8) := ⟨_, rfl⟩
        rw [← hWx] at hNw B1w B2w hBw hbw ⊢
        clear hWx hgw hB8 hl9 hon8 x8 f8 kst k5 k5a k7 k8 kd kA k4
        have k0 := B1w.cell_ 0
        have r0 := B2w.cell_ 0
        have t0 := B2w.free 0
        have k1 := B1w.cell_ 1
        have r1 := B2w.cell_ 1
        have t1 := B2w.free 1
        have k2 := B1w.cell_ 2
        have r2 := B2w.cell_ 2
        have t2 := B2w.free 2
        have k3 := B1w.cell_ 3
        have r3 := B2w.cell_ 3
        have t3 := B2w.free 3
        have k4 := B1w.cell_ 4
        have r4 := B2w.cell_ 4
        have t4 := B2w.free 4
        simp at k0 k1 k2 k3 k4 r0 r1 r2 r3 r4
        go_wp2_with fail
        have B2e := B2w.st5_ (.int .i64 s.nb) (.int .i64 s.nn) (.int .i64 s.ns) (.slice Ab6 s.bs.length cb6) (.slice (some ⟨gn, 0, none⟩) s.ts.length cn6)
        have hgE := st5_grown Wx (w.heap.size + 1) 0 (.int .i64 s.nb) (.int .i64 s.nn) (.int .i64 s.ns) (.slice Ab6 s.bs.length cb6) (.slice (some ⟨gn, 0, none⟩) s.ts.length cn6)
        have hBe := hBw.far hgE (by have := HW5.out; omega)
        have hNe := hNw.far hgE (by have := HW5.out; omega)
        have hbe := below_grown hbw hgE (by omega) hbw.size
        change bodyPost _ _ _ _ _ (st5 Wx (w.heap.size + 1) 0 (.int .i64 s.nb) (.int .i64 s.nn) (.int .i64 s.ns) (.slice Ab6 s.bs.length cb6) (.slice (some ⟨gn, 0, none⟩) s.ts.length cn6))
        clear hgE
        generalize st5 Wx (w.heap.size + 1) 0 (.int .i64 s.nb) (.int .i64 s.nn) (.int .i64 s.ns) (.slice Ab6 s.bs.length cb6) (.slice (some ⟨gn, 0, none⟩) s.ts.length cn6) = WF at B2e hBe hNe hbe ⊢
        apply bodyPost_ret (v := .tuple #[.agg #[.int .i64 s.nb, .int .i64 s.nn, .int .i64 s.ns, .slice Ab6 s.bs.length cb6, .slice (some ⟨gn, 0, none⟩) s.ts.length cn6], .int .i64 0])
        · exact results_cell1 Tryd.results28 _ WF (w.heap.size + 1) 25 _ (0, 0) _ rfl B2e Tryd.underlying25 rfl (by kernel_rfl)
        · rfl
        · refine ⟨_, rfl, ?_, hbe⟩
          rw [HRS.out]
          exact ShW.base_ (ShW.make (s := { s with ts := s.ts.set k { n with tg := tgIns n.tg x } }) (w := WF) (base := w3.heap.size) (vb := .slice Ab6 s.bs.length cb6) (vn := .slice (some ⟨gn, 0, none⟩) s.ts.length cn6) hBe hNe) (by have := HW5.out; omega)
  · injection hgs with hgs1 hgs2 hgs3
    subst hgs1
    have hcL : L ≤ ct9 := by
      obtain ⟨A, c', he9, h1, h2⟩ := own_shape q1
      cases he9
      exact h1
    clear hgs2 hgs3
    go_wp2_with fail
    go_loop [11] (fun i => ∃ p : Nat, p ≤ L ∧ i = .int .i64 (p : Int) ∧ Hid (tgPos n.tg x = p + tgPos (n.tg.drop p) x)) (fun i => L - (intOf i).toNat)
    case atStart => exact ⟨0, by omega, rfl, Lib.hid (by simp)⟩
    case round =>
      obtain ⟨p, hpL, rfl, HK⟩ := hrel
      by_cases hlt : p < L
      · obtain ⟨z, hz⟩ : ∃ z, n.tg[p]? = some z := ⟨_, List.getElem?_eq_getElem (by rw [HLL.out]; exact hlt)⟩
        have z5 : We.cell? ⟨gs, p, none⟩ = some (.string z) := by
          rw [World.ownsRow.cellAt q1 p (by omega), List.getElem?_map, hz]
          rfl
        have HX := Lib.hid hz
        have m0 : (0 : Int) ≤ (p : Int) := by omega
        have m1 : (p : Int) < (L : Int) := by omega
        clear hz
        rcases (by cases hq : (Op.bytesLess z.toList x.toList) <;> simp : (Op.bytesLess z.toList x.toList) = true ∨ (Op.bytesLess z.toList x.toList) = false) with hp | hp
        · have HQ : Hid (lessS z x = true) := Lib.hid hp
          go_wp2_with fail
          go_round
          case rel => exact ⟨p + 1, by omega, by go_num, Lib.hid (tgPos_le_drop HK.out HX.out HQ.out)⟩
          case measure => simp [intOf]; omega
        · have HP : Hid (tgPos n.tg x = p) := Lib.hid (tgPos_no_drop HK.out HX.out hp)
          have m2 : (p : Int) ≤ (ct9 : Int) := by omega
          have m3 : (p : Int) ≤ (L : Int) := by omega
          clear HK
          go_upto_region 14 with fail
          have kd : We.drew.cell? ⟨w.heap.size, 4, none⟩ = some (.slice (some ⟨gn, 0, none⟩) T cn6) := drew_cell k4
          have bAL : Below We.heap.size We (We.alloc (.cells #[.string x] 9)).drew := drew_below ((Below.refl _ _).alloc (Nat.le_refl _) _)
          have kA : (We.alloc (.cells #[.string x] 9)).drew.cell? ⟨w.heap.size, 4, none⟩ = some (.slice (some ⟨gn, 0, none⟩) T cn6) := keep_c k4 bAL lBox
          have cxB : (We.alloc (.cells #[.string x] 9)).drew.cell? ⟨We.heap.size, 0, none⟩ = some (.string x) := by
            show (We.alloc (.cells #[.string x] 9)).cell? ⟨We.heap.size, 0, none⟩ = some (.string x)
            rw [Joins.cell_of_block (heap_alloc_new We _)]
            rfl
          have hqs : ∀ u ∈ [Value.string x], u.oneCell' = true := fun u hu => by
            simp at hu
            subst hu
            rfl
          have honeT : ∀ u ∈ (n.tg.map strV).take p, u.oneCell' = true := fun u hu => by
            obtain ⟨x, _, rfl⟩ := List.mem_map.1 (List.mem_of_mem_take hu)
            rfl
          have honeD : ∀ u ∈ (n.tg.map strV).drop p, u.oneCell' = true := fun u hu => by
            obtain ⟨x, _, rfl⟩ := List.mem_map.1 (List.mem_of_mem_drop hu)
            rfl
          refine wp_region_noPanic ?_
          refine wp_region_held_drew (S := (fun w_ => w_.cell? ⟨w.heap.size, 4, none⟩ = some (.slice (some ⟨gn, 0, none⟩) T cn6))) (by kernel_rfl) ?_ (fun hHeld => ?_)
          · (first | with_reducible exact kd | with_reducible exact kA | with_reducible exact k5 | with_reducible exact k5a | with_reducible exact k7 | with_reducible exact k8 | with_reducible exact kst)
          refine tk 0 ?_; try simp only [Act.put, pz1, pz2, pz3]
          refine tk 1 ?_; try simp only [Act.put, pz1, pz2, pz3]
          refine tk 2 ?_; try simp only [Act.put, pz1, pz2, pz3]
          refine tk 3 ?_; try simp only [Act.put, pz1, pz2, pz3]
          refine tk 4 ?_; try simp only [Act.put, pz1, pz2, pz3]
          refine tk 5 ?_; try simp only [Act.put, pz1, pz2, pz3]
          refine tk 7 ?_; try simp only [Act.put, pz1, pz2, pz3]
          refine tk 10 ?_; try simp only [Act.put, pz1, pz2, pz3]
          refine tk 11 ?_; try simp only [Act.put, pz1, pz2, pz3]
          refine tk 12 ?_; try simp only [Act.put, pz1, pz2, pz3]
          refine wpAnyH_ready (rs := [6, 8]) (by kernel_rfl) (by simp) ?_
          refine (AllReadyH.cons (o := ⟨some 75, .call { callee := .builtin .append, args := #[.const (.slice none 0 0), .tmp 74], argTypes := #[46, 46] }, 46, "ref.go:50", #[⟨5, .data⟩], none⟩) rfl (fun K hK => ?_) (AllReadyH.cons (o := ⟨some 77, .buildSlice 46 1 #[(0, .tmp 76)], 46, "ref.go:50", #[⟨7, .data⟩], none⟩) rfl (fun K hK => ?_) AllReadyH.nil))
          · obtain ⟨ti0, hi, hz0, hz1, hz2⟩ := info_parts info_clStr
            refine step_app _ rfl (.const (.slice none 0 0)) (.tmp 74) _ rfl We.heap.size 9 ti0 _ 1 16 Tryd.underlying46 hi hz0 hz1 hz2 rfl (by decide) (.slice none 0 0) 0 ([]) rfl (World.ownsRow_nil _ _ _ _) _ p _ ((n.tg.map strV).take p) rfl (by first | exact rd_take (drew_own q1) hpL | exact rd_take (own_belowW q1 bAL) hpL) honeT (by unfold maxLen; omega) (by omega) (by first | exact Nat.le_refl _ | (simp; done) | (simp; omega)) ?_
            intro v5 w5 ho5 hg5 hv5
            clear hi hz0 hz1 hz2
            rw [Nat.zero_add, List.nil_append] at ho5
            have b5 : Below We.heap.size We w5 := (by first | exact ch_nil (below_dr We) hg5 | exact ch_nil bAL hg5)
            have k5 := keep_c k4 b5 lBox
            have k5a : (w5.alloc (.cells #[.string x] 9)).cell? ⟨w.heap.size, 4, none⟩ = some (.slice (some ⟨gn, 0, none⟩) T cn6) := keep_c k4 (b5.alloc b5.size _) lBox
            (try have RxB := rd_keep cxB (by simp) hg5)
            refine hK.out _ _ ?_ (fun hNew => ?_)
            · (first | with_reducible exact kd | with_reducible exact kA | with_reducible exact k5 | with_reducible exact k5a | with_reducible exact k7 | with_reducible exact k8 | with_reducible exact kst)
            clear hK K hHeld
            have hHeld := hNew
            clear hNew
            try simp only [Act.put, pz1, pz2, pz3]
            refine wpAnyH_ready (rs := [8]) (by kernel_rfl) (by simp) ?_
            refine AllReadyH.cons (o := ⟨some 77, .buildSlice 46 1 #[(0, .tmp 76)], 46, "ref.go:50", #[⟨7, .data⟩], none⟩) rfl (fun K hK => ?_) AllReadyH.nil
            go_simp
            refine hK.out _ _ ?_ (fun hNew => ?_)
            · (first | with_reducible exact kd | with_reducible exact kA | with_reducible exact k5 | with_reducible exact k5a | with_reducible exact k7 | with_reducible exact k8 | with_reducible exact kst)
            clear hK K hHeld
            have hHeld := hNew
            clear hNew
            try simp only [Act.put, pz1, pz2, pz3]
            refine wpAnyH_ready (rs := [9]) (by kernel_rfl) (by simp) ?_
            refine AllReadyH.cons (o := ⟨some 78, .call { callee := .builtin .append, args := #[.tmp 75, .tmp 77], argTypes := #[46, 46] }, 46, "ref.go:50", #[⟨6, .data⟩, ⟨8, .data⟩, ⟨6, .chain⟩], none⟩) rfl (fun K hK => ?_) AllReadyH.nil
            obtain ⟨ti0, hi, hz0, hz1, hz2⟩ := info_parts info_clStr
            refine step_app _ rfl (.tmp 75) (.tmp 77) _ rfl We.heap.size 9 ti0 _ 1 16 Tryd.underlying46 hi hz0 hz1 hz2 rfl (by decide) (v5) p ((n.tg.map strV).take p) rfl (by first | exact ho5 | exact ho5.alloc _) _ 1 _ ([.string x]) rfl (by first | exact rd_newV w5 _ _ rfl | exact RxB) hqs (by unfold maxLen; omega) (by omega) (by first | exact b5.size | (have := b5.size; simp; omega)) ?_
            intro v7 w7 ho7 hg7 hv7
            clear hi hz0 hz1 hz2
            have b7 : Below We.heap.size We w7 := (by first | exact b5.trans (below_app (Nat.le_refl _) b5.size ho5 hg7) | exact (b5.alloc b5.size _).trans (below_app (Nat.le_refl _) (by have := b5.size; simp; omega) (ho5.alloc _) hg7))
            have k7 := keep_c k4 b7 lBox
            refine hK.out _ _ ?_ (fun hNew => ?_)
            · (first | with_reducible exact kd | with_reducible exact kA | with_reducible exact k5 | with_reducible exact k5a | with_reducible exact k7 | with_reducible exact k8 | with_reducible exact kst)
            clear hK K hHeld
            have hHeld := hNew
            clear hNew
            try simp only [Act.put, pz1, pz2, pz3]
            refine wpAnyH_ready (rs := [13]) (by kernel_rfl) (by simp) ?_
            refine AllReadyH.cons (o := ⟨some 82, .call { callee := .builtin .append, args := #[.tmp 78, .tmp 81], argTypes := #[46, 46] }, 46, "ref.go:50", #[⟨9, .data⟩, ⟨12, .data⟩, ⟨9, .chain⟩], none⟩) rfl (fun K hK => ?_) AllReadyH.nil
            obtain ⟨ti0, hi, hz0, hz1, hz2⟩ := info_parts info_clStr
            refine step_app _ rfl (.tmp 78) (.tmp 81) _ rfl We.heap.size 9 ti0 _ 1 16 Tryd.underlying46 hi hz0 hz1 hz2 rfl (by decide) (v7) (p + 1) ((n.tg.map strV).take p ++ [.string x]) rfl ho7 _ (L - p) _ ((n.tg.map strV).drop p) rfl (rd_drop (own_belowW q1 b7) hpL) honeD (by unfold maxLen; omega) (by omega) b7.size ?_
            intro v8 w8 ho8 hg8 hv8
            clear hi hz0 hz1 hz2
            (try generalize (if ct9 = p then (some ⟨gs, 0, none⟩ : Option Addr) else some ⟨gs, p, none⟩) = A22)
            obtain ⟨A8, c8, rfl, -, -⟩ := own_shape ho8
            have b8 := b7.trans (below_app (Nat.le_refl _) b7.size ho7 hg8)
            have k8 := keep_c k4 b8 lBox
            have hon8 := own_belowW hon b8
            have x8 := own_cellE hon8 h5 he (j := 3) rfl
            have f8 := World.ownsRow.frozenAt hon8 (k * 5 + 3)
            have kst : (w8.setCell ⟨gn, k * 5 + 3, none⟩ (.slice A8 (p + 1 + (L - p)) c8)).cell? ⟨w.heap.size, 4, none⟩ = some (.slice (some ⟨gn, 0, none⟩) T cn6) := by
              have := ((B1u.below b8 B1u.lt).grown (set1_grown w8 gn (k * 5 + 3) (.slice A8 (p + 1 + (L - p)) c8)) (by have := HW5.out; omega)).cell_ 4
              simp at this
              rw [HTT.out] at this
              exact this
            refine hK.out _ _ ?_ (fun hNew => ?_)
            · (first | with_reducible exact kd | with_reducible exact kA | with_reducible exact k5 | with_reducible exact k5a | with_reducible exact k7 | with_reducible exact k8 | with_reducible exact kst)
            clear hK K hHeld
            have hHeld := hNew
            clear hNew
            try simp only [Act.put, pz1, pz2, pz3]
            refine tk 14 ?_; try simp only [Act.put, pz1, pz2, pz3]
            refine tk 15 ?_; try simp only [Act.put, pz1, pz2, pz3]
            refine wpAnyH_ready (rs := [16]) (by kernel_rfl) (by simp) ?_
            refine AllReadyH.cons (o := ⟨none, .store 46 (.tmp 84) (.tmp 82), 0, "ref.go:50", #[⟨15, .data⟩, ⟨13, .data⟩, ⟨13, .chain⟩, ⟨0, .phase⟩, ⟨1, .phase⟩, ⟨2, .phase⟩, ⟨3, .phase⟩, ⟨4, .phase⟩, ⟨5, .phase⟩, ⟨6, .phase⟩, ⟨7, .phase⟩, ⟨8, .phase⟩, ⟨9, .phase⟩, ⟨10, .phase⟩, ⟨11, .phase⟩, ⟨12, .phase⟩, ⟨13, .phase⟩], none⟩) rfl (fun K hK => ?_) AllReadyH.nil
            go_simp
            refine hK.out _ _ ?_ (fun hNew => ?_)
            · (first | with_reducible exact kd | with_reducible exact kA | with_reducible exact k5 | with_reducible exact k5a | with_reducible exact k7 | with_reducible exact k8 | with_reducible exact kst)
            clear hK K hHeld
            have hHeld := hNew
            clear hNew
            try simp only [Act.put, pz1, pz2, pz3]
            refine wpAnyH_done (by kernel_rfl) ?_ _
            refine NoPanic.normal ?_
            have hl9 : (tgIns n.tg x).length = p + 1 + (L - p) := by have := tgIns_len n.tg x; rw [HLL.out] at this; omega
            replace ho8 : w8.ownsRow We.heap.size 9 1 (.slice A8 (p + 1 + (L - p)) c8) (p + 1 + (L - p)) ((tgIns n.tg x).map strV) := by
              have h := ho8
              rw [← List.map_take, ← List.map_drop] at h
              unfold tgIns
              rw [HP.out, List.map_append, List.map_append]
              exact h
            obtain ⟨hNw, hgw⟩ := nt_tags (w := w8) (w7 := w8) (xs := tgIns n.tg x) HEL.out (own_belowW HON.out b8) (fun k n e a b => (hnt k n e a b).below b8) hap HNN.out HE.out (grown_refl _ _) (by rw [hl9]; exact own_base ho8 HSZ.out)
            have B1w := (B1u.below b8 B1u.lt).grown hgw (by have := HW5.out; omega)
            have B2w := (B2u.below b8 B2u.lt).grown hgw (by have := HW5.out; omega)
            have hB8 : BksW w8 w3.heap.size (.slice Ab6 s.bs.length cb6) s.bs := own_belowW hBk2 b8
            have hBw := BksW.apartN hB8 hon8 hgw
            have hbw := below_grown (btr hb2 hb2.size b8) hgw (by have := HW5.out; omega) (btr hb2 hb2.size b8).size
            obtain ⟨Wx, hWx⟩ : ∃ V : World, V = w8.setCell ⟨gn, k * 5 + 3, none⟩ (.slice A8 (p + 1 + (L - p)) c8) := ⟨_, rfl⟩
            rw [← hWx] at hNw B1w B2w hBw hbw ⊢
            clear hWx hgw hB8 hl9 hon8 x8 f8 kst k5 k5a k7 k8 kd kA k4
            have k0 := B1w.cell_ 0
            have r0 := B2w.cell_ 0
            have t0 := B2w.free 0
            have k1 := B1w.cell_ 1
            have r1 := B2w.cell_ 1
            have t1 := B2w.free 1
            have k2 := B1w.cell_ 2
            have r2 := B2w.cell_ 2
            have t2 := B2w.free 2
            have k3 := B1w.cell_ 3
            have r3 := B2w.cell_ 3
            have t3 := B2w.free 3
            have k4 := B1w.cell_ 4
            have r4 := B2w.cell_ 4
            have t4 := B2w.free 4
            simp at k0 k1 k2 k3 k4 r0 r1 r2 r3 r4
            go_wp2_with fail
            have B2e := B2w.st5_ (.int .i64 s.nb) (.int .i64 s.nn) (.int .i64 s.ns) (.slice Ab6 s.bs.length cb6) (.slice (some ⟨gn, 0, none⟩) s.ts.length cn6)
            have hgE := st5_grown Wx (w.heap.size + 1) 0 (.int .i64 s.nb) (.int .i64 s.nn) (.int .i64 s.ns) (.slice Ab6 s.bs.length cb6) (.slice (some ⟨gn, 0, none⟩) s.ts.length cn6)
            have hBe := hBw.far hgE (by have := HW5.out; omega)
            have hNe := hNw.far hgE (by have := HW5.out; omega)
            have hbe := below_grown hbw hgE (by omega) hbw.size
            change bodyPost _ _ _ _ _ (st5 Wx (w.heap.size + 1) 0 (.int .i64 s.nb) (.int .i64 s.nn) (.int .i64 s.ns) (.slice Ab6 s.bs.length cb6) (.slice (some ⟨gn, 0, none⟩) s.ts.length cn6))
            clear hgE
            generalize st5 Wx (w.heap.size + 1) 0 (.int .i64 s.nb) (.int .i64 s.nn) (.int .i64 s.ns) (.slice Ab6 s.bs.length cb6) (.slice (some ⟨gn, 0, none⟩) s.ts.length cn6) = WF at B2e hBe hNe hbe ⊢
            apply bodyPost_ret (v := .tuple #[.agg #[.int .i64 s.nb, .int .i64 s.nn, .int .i64 s.ns, .slice Ab6 s.bs.length cb6, .slice (some ⟨gn, 0, none⟩) s.ts.length cn6], .int .i64 0])
            · exact results_cell1 Tryd.results28 _ WF (w.heap.size + 1) 25 _ (0, 0) _ rfl B2e Tryd.underlying25 rfl (by kernel_rfl)
            · rfl
            · refine ⟨_, rfl, ?_, hbe⟩
              rw [HRS.out]
              exact ShW.base_ (ShW.make (s := { s with ts := s.ts.set k { n with tg := tgIns n.tg x } }) (w := WF) (base := w3.heap.size) (vb := .slice Ab6 s.bs.length cb6) (vn := .slice (some ⟨gn, 0, none⟩) s.ts.length cn6) hBe hNe) (by have := HW5.out; omega)
          · go_simp
            refine hK.out _ _ ?_ (fun hNew => ?_)
            · (first | with_reducible exact kd | with_reducible exact kA | with_reducible exact k5 | with_reducible exact k5a | with_reducible exact k7 | with_reducible exact k8 | with_reducible exact kst)
            clear hK K hHeld
            have hHeld := hNew
            clear hNew
            try simp only [Act.put, pz1, pz2, pz3]
            refine wpAnyH_ready (rs := [6]) (by kernel_rfl) (by simp) ?_
            refine AllReadyH.cons (o := ⟨some 75, .call { callee := .builtin .append, args := #[.const (.slice none 0 0), .tmp 74], argTypes := #[46, 46] }, 46, "ref.go:50", #[⟨5, .data⟩], none⟩) rfl (fun K hK => ?_) AllReadyH.nil
            obtain ⟨ti0, hi, hz0, hz1, hz2⟩ := info_parts info_clStr
            refine step_app _ rfl (.const (.slice none 0 0)) (.tmp 74) _ rfl We.heap.size 9 ti0 _ 1 16 Tryd.underlying46 hi hz0 hz1 hz2 rfl (by decide) (.slice none 0 0) 0 ([]) rfl (World.ownsRow_nil _ _ _ _) _ p _ ((n.tg.map strV).take p) rfl (by first | exact rd_take (drew_own q1) hpL | exact rd_take (own_belowW q1 bAL) hpL) honeT (by unfold maxLen; omega) (by omega) (by first | exact Nat.le_refl _ | (simp; done) | (simp; omega)) ?_
            intro v5 w5 ho5 hg5 hv5
            clear hi hz0 hz1 hz2
            rw [Nat.zero_add, List.nil_append] at ho5
            have b5 : Below We.heap.size We w5 := (by first | exact ch_nil (below_dr We) hg5 | exact ch_nil bAL hg5)
            have k5 := keep_c k4 b5 lBox
            have k5a : (w5.alloc (.cells #[.string x] 9)).cell? ⟨w.heap.size, 4, none⟩ = some (.slice (some ⟨gn, 0, none⟩) T cn6) := keep_c k4 (b5.alloc b5.size _) lBox
            (try have RxB := rd_keep cxB (by simp) hg5)
            refine hK.out _ _ ?_ (fun hNew => ?_)
            · (first | with_reducible exact kd | with_reducible exact kA | with_reducible exact k5 | with_reducible exact k5a | with_reducible exact k7 | with_reducible exact k8 | with_reducible exact kst)
            clear hK K hHeld
            have hHeld := hNew
            clear hNew
            try simp only [Act.put, pz1, pz2, pz3]
            refine wpAnyH_ready (rs := [9]) (by kernel_rfl) (by simp) ?_
            refine AllReadyH.cons (o := ⟨some 78, .call { callee := .builtin .append, args := #[.tmp 75, .tmp 77], argTypes := #[46, 46] }, 46, "ref.go:50", #[⟨6, .data⟩, ⟨8, .data⟩, ⟨6, .chain⟩], none⟩) rfl (fun K hK => ?_) AllReadyH.nil
            obtain ⟨ti0, hi, hz0, hz1, hz2⟩ := info_parts info_clStr
            refine step_app _ rfl (.tmp 75) (.tmp 77) _ rfl We.heap.size 9 ti0 _ 1 16 Tryd.underlying46 hi hz0 hz1 hz2 rfl (by decide) (v5) p ((n.tg.map strV).take p) rfl (by first | exact ho5 | exact ho5.alloc _) _ 1 _ ([.string x]) rfl (by first | exact rd_newV w5 _ _ rfl | exact RxB) hqs (by unfold maxLen; omega) (by omega) (by first | exact b5.size | (have := b5.size; simp; omega)) ?_
            intro v7 w7 ho7 hg7 hv7
            clear hi hz0 hz1 hz2
            have b7 : Below We.heap.size We w7 := (by first | exact b5.trans (below_app (Nat.le_refl _) b5.size ho5 hg7) | exact (b5.alloc b5.size _).trans (below_app (Nat.le_refl _) (by have := b5.size; simp; omega) (ho5.alloc _) hg7))
            have k7 := keep_c k4 b7 lBox
            refine hK.out _ _ ?_ (fun hNew => ?_)
            · (first | with_reducible exact kd | with_reducible exact kA | with_reducible exact k5 | with_reducible exact k5a | with_reducible exact k7 | with_reducible exact k8 | with_reducible exact kst)
            clear hK K hHeld
            have hHeld := hNew
            clear hNew
            try simp only [Act.put, pz1, pz2, pz3]
            refine wpAnyH_ready (rs := [13]) (by kernel_rfl) (by simp) ?_
            refine AllReadyH.cons (o := ⟨some 82, .call { callee := .builtin .append, args := #[.tmp 78, .tmp 81], argTypes := #[46, 46] }, 46, "ref.go:50", #[⟨9, .data⟩, ⟨12, .data⟩, ⟨9, .chain⟩], none⟩) rfl (fun K hK => ?_) AllReadyH.nil
            obtain ⟨ti0, hi, hz0, hz1, hz2⟩ := info_parts info_clStr
            refine step_app _ rfl (.tmp 78) (.tmp 81) _ rfl We.heap.size 9 ti0 _ 1 16 Tryd.underlying46 hi hz0 hz1 hz2 rfl (by decide) (v7) (p + 1) ((n.tg.map strV).take p ++ [.string x]) rfl ho7 _ (L - p) _ ((n.tg.map strV).drop p) rfl (rd_drop (own_belowW q1 b7) hpL) honeD (by unfold maxLen; omega) (by omega) b7.size ?_
            intro v8 w8 ho8 hg8 hv8
            clear hi hz0 hz1 hz2
            (try generalize (if ct9 = p then (some ⟨gs, 0, none⟩ : Option Addr) else some ⟨gs, p, none⟩) = A22)
            obtain ⟨A8, c8, rfl, -, -⟩ := own_shape ho8
            have b8 := b7.trans (below_app (Nat.le_refl _) b7.size ho7 hg8)
            have k8 := keep_c k4 b8 lBox
            have hon8 := own_belowW hon b8
            have x8 := own_cellE hon8 h5 he (j := 3) rfl
            have f8 := World.ownsRow.frozenAt hon8 (k * 5 + 3)
            have kst : (w8.setCell ⟨gn, k * 5 + 3, none⟩ (.slice A8 (p + 1 + (L - p)) c8)).cell? ⟨w.heap.size, 4, none⟩ = some (.slice (some ⟨gn, 0, none⟩) T cn6) := by
              have := ((B1u.below b8 B1u.lt).grown (set1_grown w8 gn (k * 5 + 3) (.slice A8 (p + 1 + (L - p)) c8)) (by have := HW5.out; omega)).cell_ 4
              simp at this
              rw [HTT.out] at this
              exact this
            refine hK.out _ _ ?_ (fun hNew => ?_)
            · (first | with_reducible exact kd | with_reducible exact kA | with_reducible exact k5 | with_reducible exact k5a | with_reducible exact k7 | with_reducible exact k8 | with_reducible exact kst)
            clear hK K hHeld
            have hHeld := hNew
            clear hNew
            try simp only [Act.put, pz1, pz2, pz3]
            refine tk 14 ?_; try simp only [Act.put, pz1, pz2, pz3]
            refine tk 15 ?_; try simp only [Act.put, pz1, pz2, pz3]
            refine wpAnyH_ready (rs := [16]) (by kernel_rfl) (by simp) ?_
            refine AllReadyH.cons (o := ⟨none, .store 46 (.tmp 84) (.tmp 82), 0, "ref.go:50", #[⟨15, .data⟩, ⟨13, .data⟩, ⟨13, .chain⟩, ⟨0, .phase⟩, ⟨1, .phase⟩, ⟨2, .phase⟩, ⟨3, .phase⟩, ⟨4, .phase⟩, ⟨5, .phase⟩, ⟨6, .phase⟩, ⟨7, .phase⟩, ⟨8, .phase⟩, ⟨9, .phase⟩, ⟨10, .phase⟩, ⟨11, .phase⟩, ⟨12, .phase⟩, ⟨13, .phase⟩], none⟩) rfl (fun K hK => ?_) AllReadyH.nil
            go_simp
            refine hK.out _ _ ?_ (fun hNew => ?_)
            · (first | with_reducible exact kd | with_reducible exact kA | with_reducible exact k5 | with_reducible exact k5a | with_reducible exact k7 | with_reducible exact k8 | with_reducible exact kst)
            clear hK K hHeld
            have hHeld := hNew
            clear hNew
            try simp only [Act.put, pz1, pz2, pz3]
            refine wpAnyH_done (by kernel_rfl) ?_ _
            refine NoPanic.normal ?_
            have hl9 : (tgIns n.tg x).length = p + 1 + (L - p) := by have := tgIns_len n.tg x; rw [HLL.out] at this; omega
            replace ho8 : w8.ownsRow We.heap.size 9 1 (.slice A8 (p + 1 + (L - p)) c8) (p + 1 + (L - p)) ((tgIns n.tg x).map strV) := by
              have h := ho8
              rw [← List.map_take, ← List.map_drop] at h
              unfold tgIns
              rw [HP.out, List.map_append, List.map_append]
              exact h
            obtain ⟨hNw, hgw⟩ := nt_tags (w := w8) (w7 := w8) (xs := tgIns n.tg x) HEL.out (own_belowW HON.out b8) (fun k n e a b => (hnt k n e a b).below b8) hap HNN.out HE.out (grown_refl _ _) (by rw [hl9]; exact own_base ho8 HSZ.out)
            have B1w := (B1u.below b8 B1u.lt).grown hgw (by have := HW5.out; omega)
            have B2w := (B2u.below b8 B2u.lt).grown hgw (by have := HW5.out; omega)
            have hB8 : BksW w8 w3.heap.size (.slice Ab6 s.bs.length cb6) s.bs := own_belowW hBk2 b8
            have hBw := BksW.apartN hB8 hon8 hgw
            have hbw := below_grown (btr hb2 hb2.size b8) hgw (by have := HW5.out; omega) (btr hb2 hb2.size b8).size
            obtain ⟨Wx, hWx⟩ : ∃ V : World, V = w8.setCell ⟨gn, k * 5 + 3, none⟩ (.slice A8 (p + 1 + (L - p)) c8) := ⟨_, rfl⟩
            rw [← hWx] at hNw B1w B2w hBw hbw ⊢
            clear hWx hgw hB8 hl9 hon8 x8 f8 kst k5 k5a k7 k8 kd kA k4
            have k0 := B1w.cell_ 0
            have r0 := B2w.cell_ 0
            have t0 := B2w.free 0
            have k1 := B1w.cell_ 1
            have r1 := B2w.cell_ 1
            have t1 := B2w.free 1
            have k2 := B1w.cell_ 2
            have r2 := B2w.cell_ 2
            have t2 := B2w.free 2
            have k3 := B1w.cell_ 3
            have r3 := B2w.cell_ 3
            have t3 := B2w.free 3
            have k4 := B1w.cell_ 4
            have r4 := B2w.cell_ 4
            have t4 := B2w.free 4
            simp at k0 k1 k2 k3 k4 r0 r1 r2 r3 r4
            go_wp2_with fail
            have B2e := B2w.st5_ (.int .i64 s.nb) (.int .i64 s.nn) (.int .i64 s.ns) (.slice Ab6 s.bs.length cb6) (.slice (some ⟨gn, 0, none⟩) s.ts.length cn6)
            have hgE := st5_grown Wx (w.heap.size + 1) 0 (.int .i64 s.nb) (.int .i64 s.nn) (.int .i64 s.ns) (.slice Ab6 s.bs.length cb6) (.slice (some ⟨gn, 0, none⟩) s.ts.length cn6)
            have hBe := hBw.far hgE (by have := HW5.out; omega)
            have hNe := hNw.far hgE (by have := HW5.out; omega)
            have hbe := below_grown hbw hgE (by omega) hbw.size
            change bodyPost _ _ _ _ _ (st5 Wx (w.heap.size + 1) 0 (.int .i64 s.nb) (.int .i64 s.nn) (.int .i64 s.ns) (.slice Ab6 s.bs.length cb6) (.slice (some ⟨gn, 0, none⟩) s.ts.length cn6))
            clear hgE
            generalize st5 Wx (w.heap.size + 1) 0 (.int .i64 s.nb) (.int .i64 s.nn) (.int .i64 s.ns) (.slice Ab6 s.bs.length cb6) (.slice (some ⟨gn, 0, none⟩) s.ts.length cn6) = WF at B2e hBe hNe hbe ⊢
            apply bodyPost_ret (v := .tuple #[.agg #[.int .i64 s.nb, .int .i64 s.nn, .int .i64 s.ns, .slice Ab6 s.bs.length cb6, .slice (some ⟨gn, 0, none⟩) s.ts.length cn6], .int .i64 0])
            · exact results_cell1 Tryd.results28 _ WF (w.heap.size + 1) 25 _ (0, 0) _ rfl B2e Tryd.underlying25 rfl (by kernel_rfl)
            · rfl
            · refine ⟨_, rfl, ?_, hbe⟩
              rw [HRS.out]
              exact ShW.base_ (ShW.make (s := { s with ts := s.ts.set k { n with tg := tgIns n.tg x } }) (w := WF) (base := w3.heap.size) (vb := .slice Ab6 s.bs.length cb6) (vn := .slice (some ⟨gn, 0, none⟩) s.ts.length cn6) hBe hNe) (by have := HW5.out; omega)
      · have HP : Hid (tgPos n.tg x = p) := Lib.hid (tgPos_end HK.out (by rw [HLL.out]; omega))
        have m0 : (0 : Int) ≤ (p : Int) := by omega
        have m1 : ¬ (p : Int) < (L : Int) := by omega
        have m2 : (p : Int) ≤ (ct9 : Int) := by omega
        have m3 : (p : Int) ≤ (L : Int) := by omega
        clear HK
        go_upto_region 14 with fail
        have kd : We.drew.cell? ⟨w.heap.size, 4, none⟩ = some (.slice (some ⟨gn, 0, none⟩) T cn6) := drew_cell k4
        have bAL : Below We.heap.size We (We.alloc (.cells #[.string x] 9)).drew := drew_below ((Below.refl _ _).alloc (Nat.le_refl _) _)
        have kA : (We.alloc (.cells #[.string x] 9)).drew.cell? ⟨w.heap.size, 4, none⟩ = some (.slice (some ⟨gn, 0, none⟩) T cn6) := keep_c k4 bAL lBox
        have cxB : (We.alloc (.cells #[.string x] 9)).drew.cell? ⟨We.heap.size, 0, none⟩ = some (.string x) := by
          show (We.alloc (.cells #[.string x] 9)).cell? ⟨We.heap.size, 0, none⟩ = some (.string x)
          rw [Joins.cell_of_block (heap_alloc_new We _)]
          rfl
        have hqs : ∀ u ∈ [Value.string x], u.oneCell' = true := fun u hu => by
          simp at hu
          subst hu
          rfl
        have honeT : ∀ u ∈ (n.tg.map strV).take p, u.oneCell' = true := fun u hu => by
          obtain ⟨x, _, rfl⟩ := List.mem_map.1 (List.mem_of_mem_take hu)
          rfl
        have honeD : ∀ u ∈ (n.tg.map strV).drop p, u.oneCell' = true := fun u hu => by
          obtain ⟨x, _, rfl⟩ := List.mem_map.1 (List.mem_of_mem_drop hu)
          rfl
        refine wp_region_noPanic ?_
        refine wp_region_held_drew (S := (fun w_ => w_.cell? ⟨w.heap.size, 4, none⟩ = some (.slice (some ⟨gn, 0, none⟩) T cn6))) (by kernel_rfl) ?_ (fun hHeld => ?_)
        · (first | with_reducible exact kd | with_reducible exact kA | with_reducible exact k5 | with_reducible exact k5a | with_reducible exact k7 | with_reducible exact k8 | with_reducible exact kst)
        refine tk 0 ?_; try simp only [Act.put, pz1, pz2, pz3]
        refine tk 1 ?_; try simp only [Act.put, pz1, pz2, pz3]
        refine tk 2 ?_; try simp only [Act.put, pz1, pz2, pz3]
        refine tk 3 ?_; try simp only [Act.put, pz1, pz2, pz3]
        refine tk 4 ?_; try simp only [Act.put, pz1, pz2, pz3]
        refine tk 5 ?_; try simp only [Act.put, pz1, pz2, pz3]
        refine tk 7 ?_; try simp only [Act.put, pz1, pz2, pz3]
        refine tk 10 ?_; try simp only [Act.put, pz1, pz2, pz3]
        refine tk 11 ?_; try simp only [Act.put, pz1, pz2, pz3]
        refine tk 12 ?_; try simp only [Act.put, pz1, pz2, pz3]
        refine wpAnyH_ready (rs := [6, 8]) (by kernel_rfl) (by simp) ?_
        refine (AllReadyH.cons (o := ⟨some 75, .call { callee := .builtin .append, args := #[.const (.slice none 0 0), .tmp 74], argTypes := #[46, 46] }, 46, "ref.go:50", #[⟨5, .data⟩], none⟩) rfl (fun K hK => ?_) (AllReadyH.cons (o := ⟨some 77, .buildSlice 46 1 #[(0, .tmp 76)], 46, "ref.go:50", #[⟨7, .data⟩], none⟩) rfl (fun K hK => ?_) AllReadyH.nil))
        · obtain ⟨ti0, hi, hz0, hz1, hz2⟩ := info_parts info_clStr
          refine step_app _ rfl (.const (.slice none 0 0)) (.tmp 74) _ rfl We.heap.size 9 ti0 _ 1 16 Tryd.underlying46 hi hz0 hz1 hz2 rfl (by decide) (.slice none 0 0) 0 ([]) rfl (World.ownsRow_nil _ _ _ _) _ p _ ((n.tg.map strV).take p) rfl (by first | exact rd_take (drew_own q1) hpL | exact rd_take (own_belowW q1 bAL) hpL) honeT (by unfold maxLen; omega) (by omega) (by first | exact Nat.le_refl _ | (simp; done) | (simp; omega)) ?_
          intro v5 w5 ho5 hg5 hv5
          clear hi hz0 hz1 hz2
          rw [Nat.zero_add, List.nil_append] at ho5
          have b5 : Below We.heap.size We w5 := (by first | exact ch_nil (below_dr We) hg5 | exact ch_nil bAL hg5)
          have k5 := keep_c k4 b5 lBox
          have k5a : (w5.alloc (.cells #[.string x] 9)).cell? ⟨w.heap.size, 4, none⟩ = some (.slice (some ⟨gn, 0, none⟩) T cn6) := keep_c k4 (b5.alloc b5.size _) lBox
          (try have RxB := rd_keep cxB (by simp) hg5)
          refine hK.out _ _ ?_ (fun hNew => ?_)
          · (first | with_reducible exact kd | with_reducible exact kA | with_reducible exact k5 | with_reducible exact k5a | with_reducible exact k7 | with_reducible exact k8 | with_reducible exact kst)
          clear hK K hHeld
          have hHeld := hNew
          clear hNew
          try simp only [Act.put, pz1, pz2, pz3]
          refine wpAnyH_ready (rs := [8]) (by kernel_rfl) (by simp) ?_
          refine AllReadyH.cons (o := ⟨some 77, .buildSlice 46 1 #[(0, .tmp 76)], 46, "ref.go:50", #[⟨7, .data⟩], none⟩) rfl (fun K hK => ?_) AllReadyH.nil
          go_simp
          refine hK.out _ _ ?_ (fun hNew => ?_)
          · (first | with_reducible exact kd | with_reducible exact kA | with_reducible exact k5 | with_reducible exact k5a | with_reducible exact k7 | with_reducible exact k8 | with_reducible exact kst)
          clear hK K hHeld
          have hHeld := hNew
          clear hNew
          try simp only [Act.put, pz1, pz2, pz3]
          refine wpAnyH_ready (rs := [9]) (by kernel_rfl) (by simp) ?_
          refine AllReadyH.cons (o := ⟨some 78, .call { callee := .builtin .append, args := #[.tmp 75, .tmp 77], argTypes := #[46, 46] }, 46, "ref.go:50", #[⟨6, .data⟩, ⟨8, .data⟩, ⟨6, .chain⟩], none⟩) rfl (fun K hK => ?_) AllReadyH.nil
          obtain ⟨ti0, hi, hz0, hz1, hz2⟩ := info_parts info_clStr
          refine step_app _ rfl (.tmp 75) (.tmp 77) _ rfl We.heap.size 9 ti0 _ 1 16 Tryd.underlying46 hi hz0 hz1 hz2 rfl (by decide) (v5) p ((n.tg.map strV).take p) rfl (by first | exact ho5 | exact ho5.alloc _) _ 1 _ ([.string x]) rfl (by first | exact rd_newV w5 _ _ rfl | exact RxB) hqs (by unfold maxLen; omega) (by omega) (by first | exact b5.size | (have := b5.size; simp; omega)) ?_
          intro v7 w7 ho7 hg7 hv7
          clear hi hz0 hz1 hz2
          have b7 : Below We.heap.size We w7 := (by first | exact b5.trans (below_app (Nat.le_refl _) b5.size ho5 hg7) | exact (b5.alloc b5.size _).trans (below_app (Nat.le_refl _) (by have := b5.size; simp; omega) (ho5.alloc _) hg7))
          have k7 := keep_c k4 b7 lBox
          refine hK.out _ _ ?_ (fun hNew => ?_)
          · (first | with_reducible exact kd | with_reducible exact kA | with_reducible exact k5 | with_reducible exact k5a | with_reducible exact k7 | with_reducible exact k8 | with_reducible exact kst)
          clear hK K hHeld
          have hHeld := hNew
          clear hNew
          try simp only [Act.put, pz1, pz2, pz3]
          refine wpAnyH_ready (rs := [13]) (by kernel_rfl) (by simp) ?_
          refine AllReadyH.cons (o := ⟨some 82, .call { callee := .builtin .append, args := #[.tmp 78, .tmp 81], argTypes := #[46, 46] }, 46, "ref.go:50", #[⟨9, .data⟩, ⟨12, .data⟩, ⟨9, .chain⟩], none⟩) rfl (fun K hK => ?_) AllReadyH.nil
          obtain ⟨ti0, hi, hz0, hz1, hz2⟩ := info_parts info_clStr
          refine step_app _ rfl (.tmp 78) (.tmp 81) _ rfl We.heap.size 9 ti0 _ 1 16 Tryd.underlying46 hi hz0 hz1 hz2 rfl (by decide) (v7) (p + 1) ((n.tg.map strV).take p ++ [.string x]) rfl ho7 _ (L - p) _ ((n.tg.map strV).drop p) rfl (rd_drop (own_belowW q1 b7) hpL) honeD (by unfold maxLen; omega) (by omega) b7.size ?_
          intro v8 w8 ho8 hg8 hv8
          clear hi hz0 hz1 hz2
          (try generalize (if ct9 = p then (some ⟨gs, 0, none⟩ : Option Addr) else some ⟨gs, p, none⟩) = A22)
          obtain ⟨A8, c8, rfl, -, -⟩ := own_shape ho8
          have b8 := b7.trans (below_app (Nat.le_refl _) b7.size ho7 hg8)
          have k8 := keep_c k4 b8 lBox
          have hon8 := own_belowW hon b8
          have x8 := own_cellE hon8 h5 he (j := 3) rfl
          have f8 := World.ownsRow.frozenAt hon8 (k * 5 + 3)
          have kst : (w8.setCell ⟨gn, k * 5 + 3, none⟩ (.slice A8 (p + 1 + (L - p)) c8)).cell? ⟨w.heap.size, 4, none⟩ = some (.slice (some ⟨gn, 0, none⟩) T cn6) := by
            have := ((B1u.below b8 B1u.lt).grown (set1_grown w8 gn (k * 5 + 3) (.slice A8 (p + 1 + (L - p)) c8)) (by have := HW5.out; omega)).cell_ 4
            simp at this
            rw [HTT.out] at this
            exact this
          refine hK.out _ _ ?_ (fun hNew => ?_)
          · (first | with_reducible exact kd | with_reducible exact kA | with_reducible exact k5 | with_reducible exact k5a | with_reducible exact k7 | with_reducible exact k8 | with_reducible exact kst)
          clear hK K hHeld
          have hHeld := hNew
          clear hNew
          try simp only [Act.put, pz1, pz2, pz3]
          refine tk 14 ?_; try simp only [Act.put, pz1, pz2, pz3]
          refine tk 15 ?_; try simp only [Act.put, pz1, pz2, pz3]
          refine wpAnyH_ready (rs := [16]) (by kernel_rfl) (by simp) ?_
          refine AllReadyH.cons (o := ⟨none, .store 46 (.tmp 84) (.tmp 82), 0, "ref.go:50", #[⟨15, .data⟩, ⟨13, .data⟩, ⟨13, .chain⟩, ⟨0, .phase⟩, ⟨1, .phase⟩, ⟨2, .phase⟩, ⟨3, .phase⟩, ⟨4, .phase⟩, ⟨5, .phase⟩, ⟨6, .phase⟩, ⟨7, .phase⟩, ⟨8, .phase⟩, ⟨9, .phase⟩, ⟨10, .phase⟩, ⟨11, .phase⟩, ⟨12, .phase⟩, ⟨13, .phase⟩], none⟩) rfl (fun K hK => ?_) AllReadyH.nil
          go_simp
          refine hK.out _ _ ?_ (fun hNew => ?_)
          · (first | with_reducible exact kd | with_reducible exact kA | with_reducible exact k5 | with_reducible exact k5a | with_reducible exact k7 | with_reducible exact k8 | with_reducible exact kst)
          clear hK K hHeld
          have hHeld := hNew
          clear hNew
          try simp only [Act.put, pz1, pz2, pz3]
          refine wpAnyH_done (by kernel_rfl) ?_ _
          refine NoPanic.normal ?_
          have hl9 : (tgIns n.tg x).length = p + 1 + (L - p) := by have := tgIns_len n.tg x; rw [HLL.out] at this; omega
          replace ho8 : w8.ownsRow We.heap.size 9 1 (.slice A8 (p + 1 + (L - p)) c8) (p + 1 + (L - p)) ((tgIns n.tg x).map strV) := by
            have h := ho8
            rw [← List.map_take, ← List.map_drop] at h
            unfold tgIns
            rw [HP.out, List.map_append, List.map_append]
            exact h
          obtain ⟨hNw, hgw⟩ := nt_tags (w := w8) (w7 := w8) (xs := tgIns n.tg x) HEL.out (own_belowW HON.out b8) (fun k n e a b => (hnt k n e a b).below b8) hap HNN.out HE.out (grown_refl _ _) (by rw [hl9]; exact own_base ho8 HSZ.out)
          have B1w := (B1u.below b8 B1u.lt).grown hgw (by have := HW5.out; omega)
          have B2w := (B2u.below b8 B2u.lt).grown hgw (by have := HW5.out; omega)
          have hB8 : BksW w8 w3.heap.size (.slice Ab6 s.bs.length cb6) s.bs := own_belowW hBk2 b8
          have hBw := BksW.apartN hB8 hon8 hgw
          have hbw := below_grown (btr hb2 hb2.size b8) hgw (by have := HW5.out; omega) (btr hb2 hb2.size b8).size
          obtain ⟨Wx, hWx⟩ : ∃ V : World, V = w8.setCell ⟨gn, k * 5 + 3, none⟩ (.slice A8 (p + 1 + (L - p)) c8) := ⟨_, rfl⟩
          rw [← hWx] at hNw B1w B2w hBw hbw ⊢
          clear hWx hgw hB8 hl9 hon8 x8 f8 kst k5 k5a k7 k8 kd kA k4
          have k0 := B1w.cell_ 0
          have r0 := B2w.cell_ 0
          have t0 := B2w.free 0
          have k1 := B1w.cell_ 1
          have r1 := B2w.cell_ 1
          have t1 := B2w.free 1
          have k2 := B1w.cell_ 2
          have r2 := B2w.cell_ 2
          have t2 := B2w.free 2
          have k3 := B1w.cell_ 3
          have r3 := B2w.cell_ 3
          have t3 := B2w.free 3
          have k4 := B1w.cell_ 4
          have r4 := B2w.cell_ 4
          have t4 := B2w.free 4
          simp at k0 k1 k2 k3 k4 r0 r1 r2 r3 r4
          go_wp2_with fail
          have B2e := B2w.st5_ (.int .i64 s.nb) (.int .i64 s.nn) (.int .i64 s.ns) (.slice Ab6 s.bs.length cb6) (.slice (some ⟨gn, 0, none⟩) s.ts.length cn6)
          have hgE := st5_grown Wx (w.heap.size + 1) 0 (.int .i64 s.nb) (.int .i64 s.nn) (.int .i64 s.ns) (.slice Ab6 s.bs.length cb6) (.slice (some ⟨gn, 0, none⟩) s.ts.length cn6)
          have hBe := hBw.far hgE (by have := HW5.out; omega)
          have hNe := hNw.far hgE (by have := HW5.out; omega)
          have hbe := below_grown hbw hgE (by omega) hbw.size
          change bodyPost _ _ _ _ _ (st5 Wx (w.heap.size + 1) 0 (.int .i64 s.nb) (.int .i64 s.nn) (.int .i64 s.ns) (.slice Ab6 s.bs.length cb6) (.slice (some ⟨gn, 0, none⟩) s.ts.length cn6))
          clear hgE
          generalize st5 Wx (w.heap.size + 1) 0 (.int .i64 s.nb) (.int .i64 s.nn) (.int .i64 s.ns) (.slice Ab6 s.bs.length cb6) (.slice (some ⟨gn, 0, none⟩) s.ts.length cn6) = WF at B2e hBe hNe hbe ⊢
          apply bodyPost_ret (v := .tuple #[.agg #[.int .i64 s.nb, .int .i64 s.nn, .int .i64 s.ns, .slice Ab6 s.bs.length cb6, .slice (some ⟨gn, 0, none⟩) s.ts.length cn6], .int .i64 0])
          · exact results_cell1 Tryd.results28 _ WF (w.heap.size + 1) 25 _ (0, 0) _ rfl B2e Tryd.underlying25 rfl (by kernel_rfl)
          · rfl
          · refine ⟨_, rfl, ?_, hbe⟩
            rw [HRS.out]
            exact ShW.base_ (ShW.make (s := { s with ts := s.ts.set k { n with tg := tgIns n.tg x } }) (w := WF) (base := w3.heap.size) (vb := .slice Ab6 s.bs.length cb6) (vn := .slice (some ⟨gn, 0, none⟩) s.ts.length cn6) hBe hNe) (by have := HW5.out; omega)
        · go_simp
          refine hK.out _ _ ?_ (fun hNew => ?_)
          · (first | with_reducible exact kd | with_reducible exact kA | with_reducible exact k5 | with_reducible exact k5a | with_reducible exact k7 | with_reducible exact k8 | with_reducible exact kst)
          clear hK K hHeld
          have hHeld := hNew
          clear hNew
          try simp only [Act.put, pz1, pz2, pz3]
          refine wpAnyH_ready (rs := [6]) (by kernel_rfl) (by simp) ?_
          refine AllReadyH.cons (o := ⟨some 75, .call { callee := .builtin .append, args := #[.const (.slice none 0 0), .tmp 74], argTypes := #[46, 46] }, 46, "ref.go:50", #[⟨5, .data⟩], none⟩) rfl (fun K hK => ?_) AllReadyH.nil
          obtain ⟨ti0, hi, hz0, hz1, hz2⟩ := info_parts info_clStr
          refine step_app _ rfl (.const (.slice none 0 0)) (.tmp 74) _ rfl We.heap.size 9 ti0 _ 1 16 Tryd.underlying46 hi hz0 hz1 hz2 rfl (by decide) (.slice none 0 0) 0 ([]) rfl (World.ownsRow_nil _ _ _ _) _ p _ ((n.tg.map strV).take p) rfl (by first | exact rd_take (drew_own q1) hpL | exact rd_take (own_belowW q1 bAL) hpL) honeT (by unfold maxLen; omega) (by omega) (by first | exact Nat.le_refl _ | (simp; done) | (simp; omega)) ?_
          intro v5 w5 ho5 hg5 hv5
          clear hi hz0 hz1 hz2
          rw [Nat.zero_add, List.nil_append] at ho5
          have b5 : Below We.heap.size We w5 := (by first | exact ch_nil (below_dr We) hg5 | exact ch_nil bAL hg5)
          have k5 := keep_c k4 b5 lBox
          have k5a : (w5.alloc (.cells #[.string x] 9)).cell? ⟨w.heap.size, 4, none⟩ = some (.slice (some ⟨gn, 0, none⟩) T cn6) := keep_c k4 (b5.alloc b5.size _) lBox
          (try have RxB := rd_keep cxB (by simp) hg5)
          refine hK.out _ _ ?_ (fun hNew => ?_)
          · (first | with_reducible exact kd | with_reducible exact kA | with_reducible exact k5 | with_reducible exact k5a | with_reducible exact k7 | with_reducible exact k8 | with_reducible exact kst)
          clear hK K hHeld
          have hHeld := hNew
          clear hNew
          try simp only [Act.put, pz1, pz2, pz3]
          refine wpAnyH_ready (rs := [9]) (by kernel_rfl) (by simp) ?_
          refine AllReadyH.cons (o := ⟨some 78, .call { callee := .builtin .append, args := #[.tmp 75, .tmp 77], argTypes := #[46, 46] }, 46, "ref.go:50", #[⟨6, .data⟩, ⟨8, .data⟩, ⟨6, .chain⟩], none⟩) rfl (fun K hK => ?_) AllReadyH.nil
          obtain ⟨ti0, hi, hz0, hz1, hz2⟩ := info_parts info_clStr
          refine step_app _ rfl (.tmp 75) (.tmp 77) _ rfl We.heap.size 9 ti0 _ 1 16 Tryd.underlying46 hi hz0 hz1 hz2 rfl (by decide) (v5) p ((n.tg.map strV).take p) rfl (by first | exact ho5 | exact ho5.alloc _) _ 1 _ ([.string x]) rfl (by first | exact rd_newV w5 _ _ rfl | exact RxB) hqs (by unfold maxLen; omega) (by omega) (by first | exact b5.size | (have := b5.size; simp; omega)) ?_
          intro v7 w7 ho7 hg7 hv7
          clear hi hz0 hz1 hz2
          have b7 : Below We.heap.size We w7 := (by first | exact b5.trans (below_app (Nat.le_refl _) b5.size ho5 hg7) | exact (b5.alloc b5.size _).trans (below_app (Nat.le_refl _) (by have := b5.size; simp; omega) (ho5.alloc _) hg7))
          have k7 := keep_c k4 b7 lBox
          refine hK.out _ _ ?_ (fun hNew => ?_)
          · (first | with_reducible exact kd | with_reducible exact kA | with_reducible exact k5 | with_reducible exact k5a | with_reducible exact k7 | with_reducible exact k8 | with_reducible exact kst)
          clear hK K hHeld
          have hHeld := hNew
          clear hNew
          try simp only [Act.put, pz1, pz2, pz3]
          refine wpAnyH_ready (rs := [13]) (by kernel_rfl) (by simp) ?_
          refine AllReadyH.cons (o := ⟨some 82, .call { callee := .builtin .append, args := #[.tmp 78, .tmp 81], argTypes := #[46, 46] }, 46, "ref.go:50", #[⟨9, .data⟩, ⟨12, .data⟩, ⟨9, .chain⟩], none⟩) rfl (fun K hK => ?_) AllReadyH.nil
          obtain ⟨ti0, hi, hz0, hz1, hz2⟩ := info_parts info_clStr
          refine step_app _ rfl (.tmp 78) (.tmp 81) _ rfl We.heap.size 9 ti0 _ 1 16 Tryd.underlying46 hi hz0 hz1 hz2 rfl (by decide) (v7) (p + 1) ((n.tg.map strV).take p ++ [.string x]) rfl ho7 _ (L - p) _ ((n.tg.map strV).drop p) rfl (rd_drop (own_belowW q1 b7) hpL) honeD (by unfold maxLen; omega) (by omega) b7.size ?_
          intro v8 w8 ho8 hg8 hv8
          clear hi hz0 hz1 hz2
          (try generalize (if ct9 = p then (some ⟨gs, 0, none⟩ : Option Addr) else some ⟨gs, p, none⟩) = A22)
          obtain ⟨A8, c8, rfl, -, -⟩ := own_shape ho8
          have b8 := b7.trans (below_app (Nat.le_refl _) b7.size ho7 hg8)
          have k8 := keep_c k4 b8 lBox
          have hon8 := own_belowW hon b8
          have x8 := own_cellE hon8 h5 he (j := 3) rfl
          have f8 := World.ownsRow.frozenAt hon8 (k * 5 + 3)
          have kst : (w8.setCell ⟨gn, k * 5 + 3, none⟩ (.slice A8 (p + 1 + (L - p)) c8)).cell? ⟨w.heap.size, 4, none⟩ = some (.slice (some ⟨gn, 0, none⟩) T cn6) := by
            have := ((B1u.below b8 B1u.lt).grown (set1_grown w8 gn (k * 5 + 3) (.slice A8 (p + 1 + (L - p)) c8)) (by have := HW5.out; omega)).cell_ 4
            simp at this
            rw [HTT.out] at this
            exact this
          refine hK.out _ _ ?_ (fun hNew => ?_)
          · (first | with_reducible exact kd | with_reducible exact kA | with_reducible exact k5 | with_reducible exact k5a | with_reducible exact k7 | with_reducible exact k8 | with_reducible exact kst)
          clear hK K hHeld
          have hHeld := hNew
          clear hNew
          try simp only [Act.put, pz1, pz2, pz3]
          refine tk 14 ?_; try simp only [Act.put, pz1, pz2, pz3]
          refine tk 15 ?_; try simp only [Act.put, pz1, pz2, pz3]
          refine wpAnyH_ready (rs := [16]) (by kernel_rfl) (by simp) ?_
          refine AllReadyH.cons (o := ⟨none, .store 46 (.tmp 84) (.tmp 82), 0, "ref.go:50", #[⟨15, .data⟩, ⟨13, .data⟩, ⟨13, .chain⟩, ⟨0, .phase⟩, ⟨1, .phase⟩, ⟨2, .phase⟩, ⟨3, .phase⟩, ⟨4, .phase⟩, ⟨5, .phase⟩, ⟨6, .phase⟩, ⟨7, .phase⟩, ⟨8, .phase⟩, ⟨9, .phase⟩, ⟨10, .phase⟩, ⟨11, .phase⟩, ⟨12, .phase⟩, ⟨13, .phase⟩], none⟩) rfl (fun K hK => ?_) AllReadyH.nil
          go_simp
          refine hK.out _ _ ?_ (fun hNew => ?_)
          · (first | with_reducible exact kd | with_reducible exact kA | with_reducible exact k5 | with_reducible exact k5a | with_reducible exact k7 | with_reducible exact k8 | with_reducible exact kst)
          clear hK K hHeld
          have hHeld := hNew
          clear hNew
          try simp only [Act.put, pz1, pz2, pz3]
          refine wpAnyH_done (by kernel_rfl) ?_ _
          refine NoPanic.normal ?_
          have hl9 : (tgIns n.tg x).length = p + 1 + (L - p) := by have := tgIns_len n.tg x; rw [HLL.out] at this; omega
          replace ho8 : w8.ownsRow We.heap.size 9 1 (.slice A8 (p + 1 + (L - p)) c8) (p + 1 + (L - p)) ((tgIns n.tg x).map strV) := by
            have h := ho8
            rw [← List.map_take, ← List.map_drop] at h
            unfold tgIns
            rw [HP.out, List.map_append, List.map_append]
            exact h
          obtain ⟨hNw, hgw⟩ := nt_tags (w := w8) (w7 := w8) (xs := tgIns n.tg x) HEL.out (own_belowW HON.out b8) (fun k n e a b => (hnt k n e a b).below b8) hap HNN.out HE.out (grown_refl _ _) (by rw [hl9]; exact own_base ho8 HSZ.out)
          have B1w := (B1u.below b8 B1u.lt).grown hgw (by have := HW5.out; omega)
          have B2w := (B2u.below b8 B2u.lt).grown hgw (by have := HW5.out; omega)
          have hB8 : BksW w8 w3.heap.size (.slice Ab6 s.bs.length cb6) s.bs := own_belowW hBk2 b8
          have hBw := BksW.apartN hB8 hon8 hgw
          have hbw := below_grown (btr hb2 hb2.size b8) hgw (by have := HW5.out; omega) (btr hb2 hb2.size b8).size
          obtain ⟨Wx, hWx⟩ : ∃ V : World, V = w8.setCell ⟨gn, k * 5 + 3, none⟩ (.slice A8 (p + 1 + (L - p)) c8) := ⟨_, rfl⟩
          rw [← hWx] at hNw B1w B2w hBw hbw ⊢
          clear hWx hgw hB8 hl9 hon8 x8 f8 kst k5 k5a k7 k8 kd kA k4
          have k0 := B1w.cell_ 0
          have r0 := B2w.cell_ 0
          have t0 := B2w.free 0
          have k1 := B1w.cell_ 1
          have r1 := B2w.cell_ 1
          have t1 := B2w.free 1
          have k2 := B1w.cell_ 2
          have r2 := B2w.cell_ 2
          have t2 := B2w.free 2
          have k3 := B1w.cell_ 3
          have r3 := B2w.cell_ 3
          have t3 := B2w.free 3
          have k4 := B1w.cell_ 4
          have r4 := B2w.cell_ 4
          have t4 := B2w.free 4
          simp at k0 k1 k2 k3 k4 r0 r1 r2 r3 r4
          go_wp2_with fail
          have B2e := B2w.st5_ (.int .i64 s.nb) (.int .i64 s.nn) (.int .i64 s.ns) (.slice Ab6 s.bs.length cb6) (.slice (some ⟨gn, 0, none⟩) s.ts.length cn6)
          have hgE := st5_grown Wx (w.heap.size + 1) 0 (.int .i64 s.nb) (.int .i64 s.nn) (.int .i64 s.ns) (.slice Ab6 s.bs.length cb6) (.slice (some ⟨gn, 0, none⟩) s.ts.length cn6)
          have hBe := hBw.far hgE (by have := HW5.out; omega)
          have hNe := hNw.far hgE (by have := HW5.out; omega)
          have hbe := below_grown hbw hgE (by omega) hbw.size
          change bodyPost _ _ _ _ _ (st5 Wx (w.heap.size + 1) 0 (.int .i64 s.nb) (.int .i64 s.nn) (.int .i64 s.ns) (.slice Ab6 s.bs.length cb6) (.slice (some ⟨gn, 0, none⟩) s.ts.length cn6))
          clear hgE
          generalize st5 Wx (w.heap.size + 1) 0 (.int .i64 s.nb) (.int .i64 s.nn) (.int .i64 s.ns) (.slice Ab6 s.bs.length cb6) (.slice (some ⟨gn, 0, none⟩) s.ts.length cn6) = WF at B2e hBe hNe hbe ⊢
          apply bodyPost_ret (v := .tuple #[.agg #[.int .i64 s.nb, .int .i64 s.nn, .int .i64 s.ns, .slice Ab6 s.bs.length cb6, .slice (some ⟨gn, 0, none⟩) s.ts.length cn6], .int .i64 0])
          · exact results_cell1 Tryd.results28 _ WF (w.heap.size + 1) 25 _ (0, 0) _ rfl B2e Tryd.underlying25 rfl (by kernel_rfl)
          · rfl
          · refine ⟨_, rfl, ?_, hbe⟩
            rw [HRS.out]
            exact ShW.base_ (ShW.make (s := { s with ts := s.ts.set k { n with tg := tgIns n.tg x } }) (w := WF) (base := w3.heap.size) (vb := .slice Ab6 s.bs.length cb6) (vn := .slice (some ⟨gn, 0, none⟩) s.ts.length cn6) hBe hNe) (by have := HW5.out; omega)
end Go.Proofs.YtkaoechjekffmaaDoor
namespace Go.Proofs.YtkaoechjekffmaaDoor
open Go.ChangeShapes Go.WideShapes Go.ChangeAt Go.RowKit
attribute [local go_sem ↓] Go.wp_at_zero Go.wp_at_succ
theorem tix_eq (l : List ByteArray) (x : ByteArray) : Lib.idxBy (fun a b : ByteArray => a.toList == b.toList) (l.take l.length) x = tgAt l x := by
  have hs : ∀ t : ByteArray, sameS t x = (x.toList == t.toList) := fun t => by
    unfold sameS
    exact Bool.eq_iff_iff.2 ⟨fun h => by rw [beq_iff_eq] at h ⊢; exact h.symm, fun h => by rw [beq_iff_eq] at h ⊢; exact h.symm⟩
  have hb : ∀ (m : Nat), m ≤ l.length → (l.take m).any (fun t => sameS t x) = false → ∀ j, j < m → (x.toList == (l[j]!).toList) = false := fun m hm h j hj => by
    have hjl : j < l.length := by omega
    have h1 : l[j] ∈ l.take m := List.mem_take_iff_getElem.2 ⟨j, by omega, rfl⟩
    have h2 := (List.any_eq_false.1 h) _ h1
    rw [getElem!_pos l j hjl, ← hs]
    simpa using h2
  unfold tgAt
  rcases idxP_cases (fun t => sameS t x) l with ⟨h1, h2⟩ | ⟨k, b, h1, h2, h3, h4⟩
  · rw [h1]
    exact Lib.idxBy_miss _ l l.length x (fun j hj => hb l.length (Nat.le_refl _) (by rw [List.take_length]; exact h2) j hj)
  · rw [h1]
    have hkl := (List.getElem?_eq_some_iff.1 h2).1
    refine Lib.idxBy_hit _ l l.length k x hkl (Nat.le_refl _) ?_ (fun j hj => hb k (by omega) h4 j hj)
    rw [getElem!_pos l k hkl, (List.getElem?_eq_some_iff.1 h2).2]
    have : sameS b x = true := h3
    rw [hs] at this
    exact this
theorem tixStr (l : List ByteArray) (L : Nat) (A : Option Addr) (c : Nat) (x : ByteArray) (w : World) (hL : l.length = L) (hS : Sl w w.heap.size A (l.map strV)) (h4 : L ≤ 100000) :
    Calls Tryd.prog 51 #[.slice A L c, .string x] w fun e' w' => e' = .returned (.int .i64 (tgAt l x)) ∧ w' = w := by
  by_cases h0 : L = 0
  · subst h0
    have : l = [] := List.length_eq_zero_iff.1 hL
    subst this
    exact AnyE.slices_Index_empty Tryd.laysIndex A c (.string x) w
  · obtain ⟨b, o, rfl, _, hq⟩ := hS.at_ (by rw [List.length_map]; omega)
    have h := AnyE.slices_Index Tryd.laysIndex Value.string (fun a b : ByteArray => a.toList == b.toList) (EqlAt.string _ _) b o L c l x w (by omega) (by omega) (fun j hj => by
      rw [getElem!_pos l j hj]
      exact hq j _ (by rw [List.getElem?_map, List.getElem?_eq_getElem hj]; rfl))
    rw [← hL, tix_eq] at h
    rw [← hL]
    exact h
theorem nunt_no (s : Sf) (v : Value) (y : Int) (x : ByteArray) (w : World) (hS : ShR w w.heap.size v s) (hT : Tabs w) (c : Int) (hc : untC s y x = c) (hne : c ≠ 0) :
    Calls Tryd.prog 20 #[v, .int .i64 y, .string x] w fun e' w' => e' = .returned (.tuple #[.agg #[.int .i64 0, .int .i64 0, .int .i64 0, .slice none 0 0, .slice none 0 0], .int .i64 c]) ∧ Below w.heap.size w w' := by
  have hS0 := hS
  obtain ⟨Ab, cb, An, cn, rfl, hB, hN, hcb, hmb, hcn, hmn⟩ := hS.ex
  clear hS
  obtain ⟨HB, B1, B2, S1⟩ := pre2 hS0
  have T1 := hT.next HB
  by_cases hf : findC s y = 0
  · obtain ⟨k, n, h⟩ := fdF_of hf
    obtain ⟨es, hel, hse, hnt⟩ := hN.ex
    have hkl : k < s.ts.length := (List.getElem?_eq_some_iff.1 h.nt).1
    obtain ⟨e0, he⟩ : ∃ e, es[k]? = some e := ⟨_, List.getElem?_eq_getElem (by omega)⟩
    obtain ⟨At, ct, As, cs, rfl, hAt, -⟩ := (hnt k n e0 h.nt he).ex
    obtain ⟨b1, o1, rfl, l1, q1⟩ := hse.at_ (by omega)
    have y3 := q1 k _ he 3 _ rfl
    have i0 : (0 : Int) ≤ (k : Int) := by omega
    have i1 : (k : Int) < (s.ts.length : Int) := by omega
    have i2 : ¬ (k : Int) < 0 := by omega
    have HL4 : Hid (n.tg.length ≤ 100000) := Lib.hid (h.may.small n (List.mem_of_getElem? h.nt)).1
    have HF := Lib.hid h
    obtain ⟨L, hL⟩ : ∃ L, n.tg.length = L := ⟨_, rfl⟩
    obtain ⟨T, hTe⟩ : ∃ T, s.ts.length = T := ⟨_, rfl⟩
    have HLL := Lib.hid hL
    have HTT := Lib.hid hTe
    rw [hL] at y3
    rw [hTe] at i1 HB B1 B2 S1 T1 ⊢
    rw [hL] at HL4
    unfold untC at hc
    rw [hf, h.of_] at hc
    have hh : hasT n.tg x = false := by
      cases h1 : hasT n.tg x
      · rfl
      · rw [h1] at hc
        exact absurd hc.symm hne
    obtain rfl : c = 4 := by rw [hh] at hc; exact hc.symm
    have HI : Hid (tgAt n.tg x = -1) := Lib.hid (by
      rcases idxP_cases (fun t => sameS t x) n.tg with ⟨h1, _⟩ | ⟨_, b, _, h2, h3, _⟩
      · exact h1
      · have : hasT n.tg x = true := List.any_eq_true.2 ⟨b, List.mem_of_getElem? h2, h3⟩
        rw [hh] at this
        cases this)
    clear hc hne hh h hL hTe hkl he q1 hse hel hnt hN hB hS0 hT hcb hmb hcn hmn hf
    go_enter Tryd.func20, Tryd.ntmps20
    go_wp2_with (first | (go_at_call 44; ((with_reducible refine (nfind_yes s _ y _ S1 T1 k n HF.out).mono ?_); rintro e' w3 ⟨rfl, bx⟩; (try clear k0 k1 k2 k3 k4 r0 r1 r2 r3 r4 t0 t1 t2 t3 t4); obtain ⟨S1, T1, B1, B2, HB, k0, k1, k2, k3, k4, r0, r1, r2, r3, r4, t0, t1, t2, t3, t4⟩ := keepT S1 T1 B1 B2 HB bx; clear bx; have z3 := (HB.cell (p := ⟨b1, o1 + k * 5 + 3, none⟩) l1).trans y3; have SA := (hAt.below HB).mono_ HB.size)) | (go_at_call 51; ((with_reducible refine (tixStr n.tg L At ct x _ HLL.out SA HL4.out).mono ?_); rintro e' w5 ⟨rfl, hw5⟩; rw [hw5, HI.out]; clear hw5 w5)))
    have B2u := z5_blk B2
    have hb2 := z5_below HB (g := w.heap.size + 1) (by omega)
    change bodyPost _ _ _ _ _ (z5 w3 (w.heap.size + 1))
    generalize z5 w3 (w.heap.size + 1) = Wd at B2u hb2 ⊢
    apply bodyPost_ret (v := .tuple #[.agg #[.int .i64 0, .int .i64 0, .int .i64 0, .slice none 0 0, .slice none 0 0], .int .i64 4])
    · exact results_cell1 Tryd.results20 _ Wd _ 25 #[.int .i64 0, .int .i64 0, .int .i64 0, .slice none 0 0, .slice none 0 0] (0, 0) _ rfl B2u Tryd.underlying25 rfl (by kernel_rfl)
    · rfl
    · exact ⟨rfl, hb2⟩
  · have hcf : findC s y = c := by
      unfold untC at hc
      have : (findC s y == 0) = false := by simpa using hf
      rw [this] at hc
      exact hc
    have HC := Lib.hid hcf
    have HE := Lib.hid hne
    have he0 : ¬ c = 0 := hne
    clear hf hcf hc hne
    clear hS0 hT hB hN hcb hmb hcn hmn
    go_enter Tryd.func20, Tryd.ntmps20
    go_wp2_with (first | (go_at_call 44; ((with_reducible refine (nfind_no s _ y _ S1 T1 c HC.out HE.out).mono ?_); rintro e' w3 ⟨rfl, bx⟩; (try clear k0 k1 k2 k3 k4 r0 r1 r2 r3 r4 t0 t1 t2 t3 t4); obtain ⟨S1, T1, B1, B2, HB, k0, k1, k2, k3, k4, r0, r1, r2, r3, r4, t0, t1, t2, t3, t4⟩ := keepT S1 T1 B1 B2 HB bx; clear bx)))
    have B2u := z5_blk B2
    have hb2 := z5_below HB (g := w.heap.size + 1) (by omega)
    change bodyPost _ _ _ _ _ (z5 w3 (w.heap.size + 1))
    generalize z5 w3 (w.heap.size + 1) = Wd at B2u hb2 ⊢
    apply bodyPost_ret (v := .tuple #[.agg #[.int .i64 0, .int .i64 0, .int .i64 0, .slice none 0 0, .slice none 0 0], .int .i64 c])
    · exact results_cell1 Tryd.results20 _ Wd _ 25 #[.int .i64 0, .int .i64 0, .int .i64 0, .slice none 0 0, .slice none 0 0] (0, 0) _ rfl B2u Tryd.underlying25 rfl (by kernel_rfl)
    · rfl
    · exact ⟨rfl, hb2⟩
theorem nunt_yes (s : Sf) (v : Value) (y : Int) (x : ByteArray) (w : World) (hS : ShR w w.heap.size v s) (hT : Tabs w) (hc : untC s y x = 0) :
    Calls Tryd.prog 20 #[v, .int .i64 y, .string x] w fun e' w' => ∃ v', e' = .returned (.tuple #[v', .int .i64 0]) ∧ ShW w' w.heap.size v' (untS s y x) ∧ Below w.heap.size w w' := by
  have hS0 := hS
  obtain ⟨Ab, cb, An, cn, rfl, hB, hN, hcb, hmb, hcn, hmn⟩ := hS.ex
  clear hS
  obtain ⟨HB, B1, B2, S1⟩ := pre2 hS0
  have T1 := hT.next HB
  have hf : findC s y = 0 := by
    unfold untC at hc
    by_cases h : findC s y = 0
    · exact h
    · have h2 : (findC s y == 0) = false := by simpa using h
      rw [h2] at hc
      exact absurd hc h
  obtain ⟨k, n, h⟩ := fdF_of hf
  have hh : hasT n.tg x = true := by
    unfold untC at hc
    rw [hf, h.of_] at hc
    cases h1 : hasT n.tg x
    · rw [h1] at hc
      cases hc
    · rfl
  obtain ⟨p, hp, hpl⟩ : ∃ p : Nat, tgAt n.tg x = (p : Int) ∧ p < n.tg.length := by
    rcases idxP_cases (fun t => sameS t x) n.tg with ⟨_, h2⟩ | ⟨p, b, h1, h2, _, _⟩
    · have h3 : n.tg.any (fun t => sameS t x) = true := hh
      rw [h2] at h3
      cases h3
    · exact ⟨p, h1, (List.getElem?_eq_some_iff.1 h2).1⟩
  have HNN := Lib.hid h.nt
  have hMF := h.may
  have HLB : Hid (s.bs.length ≤ 100000) := Lib.hid (by have := hMF.bl; omega)
  have HLN : Hid (s.ts.length ≤ 100000) := Lib.hid (by have := hMF.tl; omega)
  have HLR := Lib.hid hMF.small
  have HKL : Hid (k < s.ts.length) := Lib.hid (List.getElem?_eq_some_iff.1 h.nt).1
  have HF := Lib.hid h
  obtain ⟨es, hel, hse, hnt⟩ := hN.ex
  have hkl : k < s.ts.length := (List.getElem?_eq_some_iff.1 h.nt).1
  obtain ⟨e0, he⟩ : ∃ e, es[k]? = some e := ⟨_, List.getElem?_eq_getElem (by omega)⟩
  obtain ⟨At, ct, As, cs, rfl, hAt, -⟩ := (hnt k n e0 h.nt he).ex
  obtain ⟨b1, o1, rfl, l1, q1⟩ := hse.at_ (by omega)
  have y3 := q1 k _ he 3 _ rfl
  have i0 : (0 : Int) ≤ (k : Int) := by omega
  have i1 : (k : Int) < (s.ts.length : Int) := by omega
  have i2 : ¬ (k : Int) < 0 := by omega
  have HRS : Hid (untS s y x = { s with ts := s.ts.set k { n with tg := n.tg.eraseIdx p } }) := Lib.hid (by unfold untS; rw [h.of_, h.put, hp]; rfl)
  have HL4 : Hid (n.tg.length ≤ 100000) := Lib.hid (h.may.small n (List.mem_of_getElem? h.nt)).1
  have HI := Lib.hid hp
  obtain ⟨L, hL⟩ : ∃ L, n.tg.length = L := ⟨_, rfl⟩
  obtain ⟨T, hTe⟩ : ∃ T, s.ts.length = T := ⟨_, rfl⟩
  have HLL := Lib.hid hL
  have HTT := Lib.hid hTe
  rw [hL] at y3
  rw [hTe] at i1 HB B1 B2 S1 T1 ⊢
  rw [hL] at HL4 hpl
  have hL8 := HL4.out
  have j0 : ¬ (p : Int) < 0 := by omega
  have j3 : IntKind.i64.wrap ((p : Int) + 1) = (p : Int) + 1 := wrapS _ (by omega) (by omega)
  clear hc hh hp h hL hTe hkl he q1 hse hel hnt hN hB hS0 hT hcb hmb hcn hmn hf hMF
  go_enter Tryd.func20, Tryd.ntmps20
  go_upto_region 7 with (first | (go_at_call 44; ((with_reducible refine (nfind_yes s _ y _ S1 T1 k n HF.out).mono ?_); rintro e' w3 ⟨rfl, bx⟩; (try clear k0 k1 k2 k3 k4 r0 r1 r2 r3 r4 t0 t1 t2 t3 t4); obtain ⟨S1, T1, B1, B2, HB, k0, k1, k2, k3, k4, r0, r1, r2, r3, r4, t0, t1, t2, t3, t4⟩ := keepT S1 T1 B1 B2 HB bx; clear bx; have z3 := (HB.cell (p := ⟨b1, o1 + k * 5 + 3, none⟩) l1).trans y3; have SA := (hAt.below HB).mono_ HB.size)) | (go_at_call 51; ((with_reducible refine (tixStr n.tg L At ct x _ HLL.out SA HL4.out).mono ?_); rintro e' w5 ⟨rfl, hw5⟩; rw [hw5, HI.out]; clear hw5 w5)))
  have hW5 : w.heap.size + 2 ≤ w3.heap.size := by have := B2.lt; omega
  go_upto_region 8 with (go_at_call 47; ((with_reducible refine (clone_ap s _ _ S1 HLB.out HLN.out HLR.out).mono ?_); rintro e' w9 ⟨v6, rfl, hQ, b6⟩; obtain ⟨Ab6, cb6, An6, cn6, rfl, hBk, hNt, q1, q2, q3, q4⟩ := ShA.parts hQ; have B1 := B1.below b6 B1.lt; have B2 := B2.below b6 B2.lt; have HB := btr HB HB.size b6; have hz6 := b6.size; (try clear k0 k1 k2 k3 k4 r0 r1 r2 r3 r4 t0 t1 t2 t3 t4); have k0 := B1.cell_ 0; have t0 := B1.free 0; have k1 := B1.cell_ 1; have t1 := B1.free 1; have k2 := B1.cell_ 2; have t2 := B1.free 2; have k3 := B1.cell_ 3; have t3 := B1.free 3; have k4 := B1.cell_ 4; have t4 := B1.free 4; simp at k0 k1 k2 k3 k4; clear b6 hQ S1 T1))
  have B1u := B1.st5_ (.int .i64 s.nb) (.int .i64 s.nn) (.int .i64 s.ns) (.slice Ab6 s.bs.length cb6) (.slice An6 s.ts.length cn6)
  have hg6 := st5_grown w9 w.heap.size 0 (.int .i64 s.nb) (.int .i64 s.nn) (.int .i64 s.ns) (.slice Ab6 s.bs.length cb6) (.slice An6 s.ts.length cn6)
  have B2u := B2.grown hg6 (by omega)
  have hBk2 := hBk.far hg6 (by omega)
  have hNt2 := hNt.far hg6 (by omega)
  have hb2 := below_grown HB hg6 (Nat.le_refl _) HB.size
  have HSZ : Hid (w3.heap.size ≤ (st5 w9 w.heap.size 0 (.int .i64 s.nb) (.int .i64 s.nn) (.int .i64 s.ns) (.slice Ab6 s.bs.length cb6) (.slice An6 s.ts.length cn6)).heap.size) := Lib.hid (by have := hz6; have := hg6.size; omega)
  clear hg6
  obtain ⟨Wd, hWd⟩ : ∃ V : World, V = (st5 w9 w.heap.size 0 (.int .i64 s.nb) (.int .i64 s.nn) (.int .i64 s.ns) (.slice Ab6 s.bs.length cb6) (.slice An6 s.ts.length cn6)) := ⟨_, rfl⟩
  change Code.wp _ _ _ _ (st5 w9 w.heap.size 0 (.int .i64 s.nb) (.int .i64 s.nn) (.int .i64 s.ns) (.slice Ab6 s.bs.length cb6) (.slice An6 s.ts.length cn6))
  rw [← hWd] at B1u B2u hBk2 hNt2 hb2 HSZ ⊢
  clear hWd y3 z3 SA hAt B1 B2 HB hBk hNt k0 k1 k2 k3 k4 t0 t1 t2 t3 t4 hz6
  have HW5 := Lib.hid hW5
  obtain ⟨es, hel, hon, hnt, hap⟩ := hNt2
  have hkT := (List.getElem?_eq_some_iff.1 HNN.out).1
  obtain ⟨e0, he⟩ : ∃ e, es[k]? = some e := ⟨_, List.getElem?_eq_getElem (by omega)⟩
  obtain ⟨vt, vs, rfl, q1, q2⟩ := hnt k n e0 HNN.out he
  obtain ⟨At9, ct9, rfl, ht1, ht2⟩ := own_shape q1
  obtain ⟨As9, cs9, rfl, hs1, hs2⟩ := own_shape q2
  obtain ⟨gn, hgn, hgn2⟩ : ∃ gn, An6 = some ⟨gn, 0, none⟩ ∧ w3.heap.size ≤ gn := by
    rcases hon.2 with ⟨h, h0⟩ | ⟨g, c, cu, h, hb, _⟩
    · omega
    · injection h with h1 h2 h3
      exact ⟨g, h1, hb⟩
  subst hgn
  have h5 := es_five hel hnt
  have hga : gn ≠ Wd.heap.size := by
    have := (hon.lt gn rfl).2
    omega
  have HE := Lib.hid he
  have HEL := Lib.hid hel
  have HON := Lib.hid hon
  rw [HLL.out] at he q1
  rw [HTT.out] at hon hel
  obtain ⟨gs, hgs, hgs2⟩ : ∃ gs, At9 = some ⟨gs, 0, none⟩ ∧ w3.heap.size ≤ gs := by
    rcases q1.2 with ⟨h, h0⟩ | ⟨g, c, cu, h, hb, _⟩
    · omega
    · injection h with h1 h2 h3
      exact ⟨g, h1, hb⟩
  subst hgs
  have k0 := B1u.cell_ 0
  have k1 := B1u.cell_ 1
  have k2 := B1u.cell_ 2
  have k3 := B1u.cell_ 3
  have k4 := B1u.cell_ 4
  simp at k0 k1 k2 k3 k4
  rw [HTT.out] at k4
  have x4 := own_cellE hon h5 he (j := 3) rfl
  have kd : Wd.drew.cell? ⟨w.heap.size, 4, none⟩ = some (.slice (some ⟨gn, 0, none⟩) T cn6) := drew_cell k4
  have xd : Wd.drew.cell? ⟨gn, k * 5 + 3, none⟩ = some (.slice (some ⟨gs, 0, none⟩) L ct9) := drew_cell x4
  have hqb : ∀ g, (Value.slice (some ⟨gs, 0, none⟩) L ct9).ownBlock = some g → w3.heap.size ≤ g := fun g hg => (q1.lt g hg).1
  clear k0 k1 k2 k3 k4 x4
  refine wp_region_noPanic ?_
  refine wp_region_held_drew (S := (fun w_ => w_.cell? ⟨w.heap.size, 4, none⟩ = some (.slice (some ⟨gn, 0, none⟩) T cn6))) (by kernel_rfl) ?_ (fun hHeld => ?_)
  · (first | with_reducible exact kd | with_reducible exact k4' | with_reducible exact kb)
  refine tk 0 ?_; try simp only [Act.put, pz1, pz2, pz3]
  refine tk 1 ?_; try simp only [Act.put, pz1, pz2, pz3]
  refine tk 2 ?_; try simp only [Act.put, pz1, pz2, pz3]
  refine tk 3 ?_; try simp only [Act.put, pz1, pz2, pz3]
  refine tk 4 ?_; try simp only [Act.put, pz1, pz2, pz3]
  refine tk 5 ?_; try simp only [Act.put, pz1, pz2, pz3]
  refine tk 6 ?_; try simp only [Act.put, pz1, pz2, pz3]
  refine tk 7 ?_; try simp only [Act.put, pz1, pz2, pz3]
  refine tk 9 ?_; try simp only [Act.put, pz1, pz2, pz3]
  refine tk 10 ?_; try simp only [Act.put, pz1, pz2, pz3]
  refine tk 11 ?_; try simp only [Act.put, pz1, pz2, pz3]
  refine wpAnyH_ready (rs := [8]) (by kernel_rfl) (by simp) ?_
  refine AllReadyH.cons (o := ⟨some 42, .load 46 (.tmp 41), 46, "note.go:69", #[⟨7, .data⟩], none⟩) rfl (fun K hK => ?_) AllReadyH.nil
  go_simp
  refine hK.out _ _ ?_ (fun hNew => ?_)
  · (first | with_reducible exact kd | with_reducible exact k4' | with_reducible exact kb)
  clear hK K hHeld
  have hHeld := hNew
  clear hNew
  try simp only [Act.put, pz1, pz2, pz3]
  refine wpAnyH_ready (rs := [12]) (by kernel_rfl) (by simp) ?_
  refine AllReadyH.cons (o := ⟨some 46, .call { callee := .value (.func 52), args := #[.tmp 42, .tmp 43, .tmp 45], argTypes := #[46, 3, 3] }, 46, "note.go:69", #[⟨8, .data⟩, ⟨9, .data⟩, ⟨11, .data⟩], none⟩) rfl (fun K hK => ?_) AllReadyH.nil
  go_simp
  (go_at_call 52; ((with_reducible refine (delStr _ _ _ _ _ _ _ (drew_own q1) hpl).mono ?_); rintro e' w7 ⟨rfl, ho', hg'⟩; have hof : ∀ j, j < w3.heap.size → (Value.slice (some ⟨gs, 0, none⟩) L ct9).ownBlock ≠ some j := fun j hj h => (by have := hqb j h; omega); have B1a := (drew_blk B1u).grownR hg' (hof _ (by have := HW5.out; omega)); have B2a := (drew_blk B2u).grownR hg' (hof _ (by have := HW5.out; omega)); have HBa := (drew_below hb2).trans (below_app (B := w.heap.size) (by have := HW5.out; omega) HSZ.out (drew_own q1) hg'); have hon7 := (drew_own hon).kept hg' (own_apart (drew_own hon) (drew_own q1) (by decide)); have k4' := B1a.cell_ 4; simp at k4'; rw [HTT.out] at k4'; have x7 := own_cellE hon7 h5 he (j := 3) rfl; have f7 := World.ownsRow.frozenAt hon7 (k * 5 + 3); have kb : (w7.setCell ⟨gn, k * 5 + 3, none⟩ (.slice (some ⟨gs, 0, none⟩) (L - 1) ct9)).cell? ⟨w.heap.size, 4, none⟩ = some (.slice (some ⟨gn, 0, none⟩) T cn6) := (by have := (B1a.grown (set1_grown w7 gn (k * 5 + 3) (.slice (some ⟨gs, 0, none⟩) (L - 1) ct9)) (by have := HW5.out; omega)).cell_ 4; simp at this; rw [HTT.out] at this; exact this)))
  go_wp2_with fail
  refine hK.out _ _ ?_ (fun hNew => ?_)
  · (first | with_reducible exact kd | with_reducible exact k4' | with_reducible exact kb)
  clear hK K hHeld
  have hHeld := hNew
  clear hNew
  try simp only [Act.put, pz1, pz2, pz3]
  refine tk 13 ?_; try simp only [Act.put, pz1, pz2, pz3]
  refine tk 14 ?_; try simp only [Act.put, pz1, pz2, pz3]
  refine wpAnyH_ready (rs := [15]) (by kernel_rfl) (by simp) ?_
  refine AllReadyH.cons (o := ⟨none, .store 46 (.tmp 48) (.tmp 46), 0, "note.go:69", #[⟨14, .data⟩, ⟨12, .data⟩, ⟨12, .chain⟩, ⟨0, .phase⟩, ⟨1, .phase⟩, ⟨2, .phase⟩, ⟨3, .phase⟩, ⟨4, .phase⟩, ⟨5, .phase⟩, ⟨6, .phase⟩, ⟨7, .phase⟩, ⟨8, .phase⟩, ⟨9, .phase⟩, ⟨10, .phase⟩, ⟨11, .phase⟩, ⟨12, .phase⟩], none⟩) rfl (fun K hK => ?_) AllReadyH.nil
  go_simp
  refine hK.out _ _ ?_ (fun hNew => ?_)
  · (first | with_reducible exact kd | with_reducible exact k4' | with_reducible exact kb)
  clear hK K hHeld
  have hHeld := hNew
  clear hNew
  try simp only [Act.put, pz1, pz2, pz3]
  refine wpAnyH_done (by kernel_rfl) ?_ _
  refine NoPanic.normal ?_
  have hb0 : Below Wd.heap.size Wd Wd.drew := below_dr Wd
  have hl9 : (n.tg.eraseIdx p).length = L - 1 := by have := HLL.out; rw [List.length_eraseIdx, if_pos (by omega), this]
  obtain ⟨hNw, hgw⟩ := nt_tags (xs := n.tg.eraseIdx p) HEL.out (drew_own HON.out) (fun k n e a b => (hnt k n e a b).below hb0) hap HNN.out HE.out (by rw [HLL.out]; exact hg') (by rw [hl9]; exact ho')
  have B1w := B1a.grown hgw (by have := HW5.out; omega)
  have B2w := B2a.grown hgw (by have := HW5.out; omega)
  have hB7 : BksW w7 w3.heap.size (.slice Ab6 s.bs.length cb6) s.bs := World.ownsRow.kept (own_belowW hBk2 hb0) hg' (own_apart (own_belowW hBk2 hb0) (drew_own q1) (by decide))
  have hBw := BksW.apartN hB7 hon7 hgw
  have hbw := below_grown HBa hgw (by have := HW5.out; omega) HBa.size
  obtain ⟨Wx, hWx⟩ : ∃ V : World, V = w7.setCell ⟨gn, k * 5 + 3, none⟩ (.slice (some ⟨gs, 0, none⟩) (L - 1) ct9) := ⟨_, rfl⟩
  rw [← hWx] at hNw B1w B2w hBw hbw ⊢
  clear hWx hgw hB7 hb0 hl9 B1a B2a HBa ho' hg' hon7 k4' x7 f7 kb hof
  have k0 := B1w.cell_ 0
  have r0 := B2w.cell_ 0
  have t0 := B2w.free 0
  have k1 := B1w.cell_ 1
  have r1 := B2w.cell_ 1
  have t1 := B2w.free 1
  have k2 := B1w.cell_ 2
  have r2 := B2w.cell_ 2
  have t2 := B2w.free 2
  have k3 := B1w.cell_ 3
  have r3 := B2w.cell_ 3
  have t3 := B2w.free 3
  have k4 := B1w.cell_ 4
  have r4 := B2w.cell_ 4
  have t4 := B2w.free 4
  simp at k0 k1 k2 k3 k4 r0 r1 r2 r3 r4
  go_wp2_with fail
  have B2e := B2w.st5_ (.int .i64 s.nb) (.int .i64 s.nn) (.int .i64 s.ns) (.slice Ab6 s.bs.length cb6) (.slice (some ⟨gn, 0, none⟩) s.ts.length cn6)
  have hgE := st5_grown Wx (w.heap.size + 1) 0 (.int .i64 s.nb) (.int .i64 s.nn) (.int .i64 s.ns) (.slice Ab6 s.bs.length cb6) (.slice (some ⟨gn, 0, none⟩) s.ts.length cn6)
  have hBe := hBw.far hgE (by have := HW5.out; omega)
  have hNe := hNw.far hgE (by have := HW5.out; omega)
  have hbe := below_grown hbw hgE (by omega) hbw.size
  change bodyPost _ _ _ _ _ (st5 Wx (w.heap.size + 1) 0 (.int .i64 s.nb) (.int .i64 s.nn) (.int .i64 s.ns) (.slice Ab6 s.bs.length cb6) (.slice (some ⟨gn, 0, none⟩) s.ts.length cn6))
  clear hgE
  generalize st5 Wx (w.heap.size + 1) 0 (.int .i64 s.nb) (.int .i64 s.nn) (.int .i64 s.ns) (.slice Ab6 s.bs.length cb6) (.slice (some ⟨gn, 0, none⟩) s.ts.length cn6) = WF at B2e hBe hNe hbe ⊢
  apply bodyPost_ret (v := .tuple #[.agg #[.int .i64 s.nb, .int .i64 s.nn, .int .i64 s.ns, .slice Ab6 s.bs.length cb6, .slice (some ⟨gn, 0, none⟩) s.ts.length cn6], .int .i64 0])
  · exact results_cell1 Tryd.results20 _ WF (w.heap.size + 1) 25 _ (0, 0) _ rfl B2e Tryd.underlying25 rfl (by kernel_rfl)
  · rfl
  · refine ⟨_, rfl, ?_, hbe⟩
    rw [HRS.out]
    exact ShW.base_ (ShW.make (s := { s with ts := s.ts.set k { n with tg := n.tg.eraseIdx p } }) (w := WF) (base := w3.heap.size) (vb := .slice Ab6 s.bs.length cb6) (vn := .slice (some ⟨gn, 0, none⟩) s.ts.length cn6) hBe hNe) (by have := HW5.out; omega)
end Go.Proofs.YtkaoechjekffmaaDoor
