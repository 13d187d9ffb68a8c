/- Another name, another book: chapter 17's own Rename, Retitle, Move; the project's Retitle. -/
import Derived.Test.YtokhapafpjejaaaGreatDoorSt7
set_option linter.unusedSimpArgs false
set_option linter.unusedVariables false
set_option maxRecDepth 100000
set_option maxHeartbeats 16000000
namespace Go.Proofs.YtokhapafpjejaaaGreatDoor
open Go.ChangeShapes Go.WideShapes Go.ChangeAt Go.RowKit
attribute [local go_sem ↓] Go.wp_at_zero Go.wp_at_succ
theorem set_f2 (es : List (List Value)) (k : Nat) (p0 p1 p2 p3 p4 u : Value) (h : es[k]? = some [p0, p1, p2, p3, p4]) (hC : ∀ x ∈ es, x.length = 5) : es.flatten.set (k * 5 + 2) u = (es.set k [p0, p1, u, p3, p4]).flatten := by
  have hs : ∀ (l : List Value) (i : Nat) (u : Value), l[i]? = some u → l.set i u = l := by
    intro l i u hu
    obtain ⟨hlt, he⟩ := List.getElem?_eq_some_iff.1 hu
    rw [← he]
    exact List.set_getElem_self hlt
  have g : ∀ j, j < 5 → es.flatten[k * 5 + j]? = ([p0, p1, p2, p3, p4] : List Value)[j]? := fun j hj => flat_at es hC k _ h j hj
  have h1 := set_five es k p0 p1 p2 p3 p4 p0 p1 u p3 p4 h hC
  have n0 := hs es.flatten (k * 5 + 0) p0 (g 0 (by decide))
  rw [n0] at h1
  have n1 := hs es.flatten (k * 5 + 1) p1 (g 1 (by decide))
  rw [n1] at h1
  have n3 : (es.flatten.set (k * 5 + 2) u).set (k * 5 + 3) p3 = es.flatten.set (k * 5 + 2) u := hs _ _ _ (by rw [List.getElem?_set_ne (by omega)]; exact g 3 (by decide))
  rw [n3] at h1
  have n4 : (es.flatten.set (k * 5 + 2) u).set (k * 5 + 4) p4 = es.flatten.set (k * 5 + 2) u := hs _ _ _ (by rw [List.getElem?_set_ne (by omega)]; exact g 4 (by decide))
  rw [n4] at h1
  exact h1
theorem NtsW.title_ {w : World} {base c k : Nat} {g : Nat} {ts : List Nt} {n : Nt} (h : NtsW w base (.slice (some ⟨g, 0, none⟩) ts.length c) ts) (hk : ts[k]? = some n) (x : ByteArray) : NtsW (w.setCell ⟨g, k * 5 + 2, none⟩ (.string x)) base (.slice (some ⟨g, 0, none⟩) ts.length c) (ts.set k { n with nm := x }) ∧ w.grownBy (w.setCell ⟨g, k * 5 + 2, none⟩ (.string x)) (some g) := by
  obtain ⟨es, hel, hon, hnt⟩ := h
  have hkl := (List.getElem?_eq_some_iff.1 hk).1
  have he := List.getElem?_eq_getElem (l := es) (i := k) (by omega)
  obtain ⟨vt, vs, hev, q1, q2⟩ := hnt k n _ hk he
  rw [hev] at he
  have h1 := (World.ownsRow.stored hon (k * 5 + 2) (.string x)).1
  rw [set_f2 es k _ _ _ _ _ _ he (es_five hel hnt)] at h1
  have hg := set1_grown w g (k * 5 + 2) (.string x)
  refine ⟨⟨es.set k (ntC { n with nm := x } vt vs), by rw [List.length_set, List.length_set]; exact hel, by rw [List.length_set]; exact h1, fun j m e a b => ?_⟩, hg⟩
  rw [List.getElem?_set] at a b
  split at a
  · rename_i hj
    subst hj
    rw [if_pos rfl] at b
    first | rw [if_pos (by omega)] at b | skip
    first | rw [if_pos hkl] at a | skip
    cases a
    cases b
    exact NtW.kept (w := w) ⟨vt, vs, rfl, q1, q2⟩ hon hg (by decide) (by decide)
  · rename_i hj
    rw [if_neg hj] at b
    exact (hnt j m e a b).kept hon hg (by decide) (by decide)
theorem rren_yes (s : Sf) (v : Value) (y : Int) (x : ByteArray) (w : World) (hS : ShR w w.heap.size v s) (hz : SzF s) (hx : x.size ≤ 100000) (hc : renC s y x = 0) :
    Calls Tryz.prog 32 #[v, .int .i64 y, .string x] w fun e' w' => ∃ v', e' = .returned (.tuple #[v', .int .i64 0]) ∧ ShW w' w.heap.size v' (renS s y x) ∧ Below w.heap.size w w' := by
  have hS0 := hS
  obtain ⟨Ab, cb, An, cn, rfl, hB, hN, hcb, hmb, hcn, hmn⟩ := hS.ex
  clear hS
  obtain ⟨HB, B1, B2, S1⟩ := pre2 hS0
  have HZ := Lib.hid hz
  have HX := Lib.hid hx
  clear hS0 hB hN hcb hmb hcn hmn hz hx
  obtain ⟨hM, hI, hN, hK0⟩ : mayS s = true ∧ ¬ bookAt s y < 0 ∧ mayN x = true ∧ bookTk s x y = false := by
    unfold renC at hc
    cases h1 : mayS s <;> by_cases h2 : bookAt s y < 0 <;> cases h3 : mayN x <;> cases h4 : bookTk s x y <;> rw [h1] at hc <;> simp [h2, h3, h4] at hc ⊢
    all_goals exact Int.not_lt.1 h2
  obtain ⟨k, b, hk, hb, hid⟩ := bookAt_get (Int.not_lt.1 hI)
  have HRS : Hid (renS s y x = { s with bs := s.bs.set k ⟨b.id, x⟩ }) := Lib.hid (by unfold renS; rw [hk, hid]; rfl)
  have HB1 := Lib.hid hk
  have HK : Hid ((cond (mayN x) (cond (bookTk s x y) 7 0) 6 : Int) = 0) := Lib.hid (by rw [hN, hK0]; rfl)
  have HBB := Lib.hid hb
  have hkl : k < s.bs.length := (List.getElem?_eq_some_iff.1 hb).1
  have i0 : (0 : Int) ≤ (k : Int) := by omega
  have i1 : (k : Int) < (s.bs.length : Int) := by omega
  have i2 : ¬ (k : Int) < 0 := by omega
  have HKL := Lib.hid hkl
  clear hI hN hK0 hk hb hid hkl
  have hMF := mayF_of hM
  have hlb : s.bs.length ≤ 100000 := by have := hMF.bl; omega
  have hln : s.ts.length ≤ 100000 := by have := hMF.tl; omega
  have HM : Hid (rMayB s = true) := Lib.hid ((rMay_eq s).trans hM)
  have HLB := Lib.hid hlb
  have HLN := Lib.hid hln
  have HLR := Lib.hid hMF.small
  clear hM hMF hc hlb hln
  go_enter Tryz.func32, Tryz.ntmps32
  go_upto_region 9 with (first | (go_at_call 11; ((with_reducible refine (rMay_any s _ _ S1 HZ.out _ HM.out).mono ?_); rintro e' w3 ⟨rfl, bx⟩; (try clear k0 k1 k2 k3 k4 r0 r1 r2 r3 r4 t0 t1 t2 t3 t4); obtain ⟨S1, B1, B2, HB, k0, k1, k2, k3, k4, r0, r1, r2, r3, r4, t0, t1, t2, t3, t4⟩ := keepR S1 B1 B2 HB bx; clear bx)) | (go_at_call 53; ((with_reducible refine (rBook_any s _ y _ S1 ⟨HZ.out.bl, HZ.out.tl⟩).mono ?_); rintro e' w4 ⟨rfl, bx⟩; (try rw [HB1.out]); (try clear k0 k1 k2 k3 k4 r0 r1 r2 r3 r4 t0 t1 t2 t3 t4); obtain ⟨S1, B1, B2, HB, k0, k1, k2, k3, k4, r0, r1, r2, r3, r4, t0, t1, t2, t3, t4⟩ := keepR S1 B1 B2 HB bx; clear bx)) | (go_at_call 64; ((with_reducible refine (rBookName_any s _ y x _ S1 ⟨HZ.out.bl, HZ.out.tl⟩ HX.out _ HK.out).mono ?_); rintro e' w5 ⟨rfl, bx⟩; (try clear k0 k1 k2 k3 k4 r0 r1 r2 r3 r4 t0 t1 t2 t3 t4); obtain ⟨S1, B1, B2, HB, k0, k1, k2, k3, k4, r0, r1, r2, r3, r4, t0, t1, t2, t3, t4⟩ := keepR S1 B1 B2 HB bx; clear bx)))
  have hW5 : w.heap.size + 2 ≤ w5.heap.size := by have := B2.lt; omega
  go_upto_region 10 with (go_at_call 8; ((with_reducible refine (rcopy_any s _ _ S1 HLB.out HLN.out HLR.out).mono ?_); rintro e' w9 ⟨v6, rfl, hQ, b6⟩; obtain ⟨Ab6, cb6, An6, cn6, rfl, hBk, hNt, q1, q2, q3, q4⟩ := hQ.parts; have B1 := B1.below b6 B1.lt; have B2 := B2.below b6 B2.lt; have HB := btr HB HB.size b6; have hz6 := b6.size; (try clear k0 k1 k2 k3 k4 r0 r1 r2 r3 r4 t0 t1 t2 t3 t4); have k0 := B1.cell_ 0; have t0 := B1.free 0; have k1 := B1.cell_ 1; have t1 := B1.free 1; have k2 := B1.cell_ 2; have t2 := B1.free 2; have k3 := B1.cell_ 3; have t3 := B1.free 3; have k4 := B1.cell_ 4; have t4 := B1.free 4; simp at k0 k1 k2 k3 k4; clear b6 hQ S1))
  have B1u := B1.st5_ (.int .i64 s.nb) (.int .i64 s.nn) (.int .i64 s.ns) (.slice Ab6 s.bs.length cb6) (.slice An6 s.ts.length cn6)
  have hg6 := st5_grown w9 w.heap.size 0 (.int .i64 s.nb) (.int .i64 s.nn) (.int .i64 s.ns) (.slice Ab6 s.bs.length cb6) (.slice An6 s.ts.length cn6)
  have B2u := B2.grown hg6 (by omega)
  have hBk2 := hBk.far hg6 (by omega)
  have hNt2 := hNt.far hg6 (by omega)
  have hb2 := below_grown HB hg6 (Nat.le_refl _) HB.size
  clear hg6
  obtain ⟨Wd, hWd⟩ : ∃ V : World, V = (st5 w9 w.heap.size 0 (.int .i64 s.nb) (.int .i64 s.nn) (.int .i64 s.ns) (.slice Ab6 s.bs.length cb6) (.slice An6 s.ts.length cn6)) := ⟨_, rfl⟩
  change Code.wp _ _ _ _ (st5 w9 w.heap.size 0 (.int .i64 s.nb) (.int .i64 s.nn) (.int .i64 s.ns) (.slice Ab6 s.bs.length cb6) (.slice An6 s.ts.length cn6))
  rw [← hWd] at B1u B2u hBk2 hNt2 hb2 ⊢
  clear hWd B1 B2 HB hBk hNt k0 k1 k2 k3 k4 t0 t1 t2 t3 t4 hz6
  have k0 := B1u.cell_ 0
  have k1 := B1u.cell_ 1
  have k2 := B1u.cell_ 2
  have k3 := B1u.cell_ 3
  have k4 := B1u.cell_ 4
  simp at k0 k1 k2 k3 k4
  obtain ⟨gb, hgb, hgb2⟩ : ∃ gb, Ab6 = some ⟨gb, 0, none⟩ ∧ w5.heap.size ≤ gb := by
    rcases hBk2.2 with ⟨h, h0⟩ | ⟨g, c, cu, h, hb, _⟩
    · have := HKL.out; omega
    · injection h with h1 h2 h3
      exact ⟨g, h1, hb⟩
  subst hgb
  have HW5 := Lib.hid hW5
  obtain ⟨u0, u1, x0, x1⟩ := two_cells hBk2 (bkC_two _) (k := k) (by rw [List.length_map]; exact HKL.out)
  have f1 := World.ownsRow.frozenAt hBk2 (k * 2 + 1)
  go_upto_region 11 with fail
  obtain ⟨hBw, hgw⟩ := hBk2.name_ HBB.out x
  have B1w := B1u.grown hgw (by have := HW5.out; omega)
  have B2w := B2u.grown hgw (by have := HW5.out; omega)
  have hNw := hNt2.apart hBk2 hgw
  have hbw := below_grown hb2 hgw (by have := HW5.out; omega) hb2.size
  obtain ⟨Wx, hWx⟩ : ∃ V : World, V = Wd.setCell ⟨gb, k * 2 + 1, none⟩ (.string x) := ⟨_, rfl⟩
  rw [← hWx] at hBw B1w B2w hNw hbw ⊢
  clear hWx hgw B1u B2u hNt2 hBk2 hb2 x0 x1 f1
  clear k0 k1 k2 k3 k4
  have k0 := B1w.cell_ 0
  have r0 := B2w.cell_ 0
  have t0 := B2w.free 0
  have k1 := B1w.cell_ 1
  have r1 := B2w.cell_ 1
  have t1 := B2w.free 1
  have k2 := B1w.cell_ 2
  have r2 := B2w.cell_ 2
  have t2 := B2w.free 2
  have k3 := B1w.cell_ 3
  have r3 := B2w.cell_ 3
  have t3 := B2w.free 3
  have k4 := B1w.cell_ 4
  have r4 := B2w.cell_ 4
  have t4 := B2w.free 4
  simp at k0 k1 k2 k3 k4 r0 r1 r2 r3 r4
  go_wp2_with fail
  have B2e := B2w.st5_ (.int .i64 s.nb) (.int .i64 s.nn) (.int .i64 s.ns) (.slice (some ⟨gb, 0, none⟩) s.bs.length cb6) (.slice An6 s.ts.length cn6)
  have hgE := st5_grown Wx (w.heap.size + 1) 0 (.int .i64 s.nb) (.int .i64 s.nn) (.int .i64 s.ns) (.slice (some ⟨gb, 0, none⟩) s.bs.length cb6) (.slice An6 s.ts.length cn6)
  have hBe := hBw.far hgE (by have := HW5.out; omega)
  have hNe := hNw.far hgE (by have := HW5.out; omega)
  have hbe := below_grown hbw hgE (by omega) hbw.size
  change bodyPost _ _ _ _ _ (st5 Wx (w.heap.size + 1) 0 (.int .i64 s.nb) (.int .i64 s.nn) (.int .i64 s.ns) (.slice (some ⟨gb, 0, none⟩) s.bs.length cb6) (.slice An6 s.ts.length cn6))
  clear hgE
  generalize st5 Wx (w.heap.size + 1) 0 (.int .i64 s.nb) (.int .i64 s.nn) (.int .i64 s.ns) (.slice (some ⟨gb, 0, none⟩) s.bs.length cb6) (.slice An6 s.ts.length cn6) = WF at B2e hBe hNe hbe ⊢
  apply bodyPost_ret (v := .tuple #[.agg #[.int .i64 s.nb, .int .i64 s.nn, .int .i64 s.ns, .slice (some ⟨gb, 0, none⟩) s.bs.length cb6, .slice An6 s.ts.length cn6], .int .i64 0])
  · exact results_cell1 Tryz.results32 _ WF (w.heap.size + 1) 25 _ (0, 0) _ rfl B2e Tryz.underlying25 rfl (by kernel_rfl)
  · rfl
  · exact ⟨_, rfl, ShW.base_ (by rw [HRS.out]; exact ShW.make (s := { s with bs := s.bs.set k ⟨b.id, x⟩ }) (w := WF) (base := w5.heap.size) (vb := .slice (some ⟨gb, 0, none⟩) s.bs.length cb6) (vn := .slice An6 s.ts.length cn6) hBe hNe) (by have := HW5.out; omega), hbe⟩
theorem rmov_yes (s : Sf) (v : Value) (y z : Int) (w : World) (hS : ShR w w.heap.size v s) (hz : SzF s) (hc : movC s y z = 0) :
    Calls Tryz.prog 40 #[v, .int .i64 y, .int .i64 z] w fun e' w' => ∃ v', e' = .returned (.tuple #[v', .int .i64 0]) ∧ ShW w' w.heap.size v' (movS s y z) ∧ Below w.heap.size w w' := by
  have hS0 := hS
  obtain ⟨Ab, cb, An, cn, rfl, hB, hN, hcb, hmb, hcn, hmn⟩ := hS.ex
  clear hS
  obtain ⟨HB, B1, B2, S1⟩ := pre2 hS0
  have HZ := Lib.hid hz
  obtain ⟨hM, hJ, hI, hK0⟩ : mayS s = true ∧ ¬ noteAt s y < 0 ∧ ¬ bookAt s z < 0 ∧ noteTk s z (nameAt s y) y = false := by
    unfold movC at hc
    cases h1 : mayS s <;> by_cases h2 : noteAt s y < 0 <;> by_cases h3 : bookAt s z < 0 <;> cases h4 : noteTk s z (nameAt s y) y <;> rw [h1] at hc <;> simp [h2, h3, h4] at hc ⊢
    all_goals exact ⟨Int.not_lt.1 h2, Int.not_lt.1 h3⟩
  obtain ⟨k, n, hk, hn, hid⟩ := noteAt_get (Int.not_lt.1 hJ)
  have hnm : nameAt s y = n.nm := by unfold nameAt; rw [hk]; simp [hn]
  have hmy : mayN n.nm = true := by
    have h1 := ((mayF_of hM).ts n (List.mem_of_getElem? hn)).2.2
    unfold mayNt at h1
    simp only [Bool.and_eq_true] at h1
    exact h1.1
  have hK : (cond (mayN n.nm) (cond (noteTk s z n.nm y) 7 0) 6 : Int) = 0 := by rw [hmy, ← hnm, hK0]; rfl
  have HRS : Hid (movS s y z = { s with ts := s.ts.set k { n with bk := z } }) := Lib.hid (by unfold movS; rw [hk]; simp [hn])
  obtain ⟨q, hq⟩ : ∃ q : Nat, bookAt s z = (q : Int) := ⟨(bookAt s z).toNat, by omega⟩
  have HI := Lib.hid hq
  have p0 : (0 : Int) ≤ (q : Int) := by omega
  have p2 : ¬ (q : Int) < 0 := by omega
  have HJ := Lib.hid hk
  have HNN := Lib.hid hn
  have HX := Lib.hid (hz.hn n (List.mem_of_getElem? hn)).1
  obtain ⟨es, hel, hse, hnt⟩ := hN.ex
  have hkl : k < s.ts.length := (List.getElem?_eq_some_iff.1 hn).1
  obtain ⟨e0, he⟩ : ∃ e, es[k]? = some e := ⟨_, List.getElem?_eq_getElem (by omega)⟩
  obtain ⟨At, ct, As, cs, rfl, -⟩ := (hnt k n e0 hn he).ex
  obtain ⟨b1, o1, rfl, l1, q1⟩ := hse.at_ (by omega)
  have y2 := q1 k _ he 2 _ rfl
  have HK := Lib.hid hK
  have i0 : (0 : Int) ≤ (k : Int) := by omega
  have i1 : (k : Int) < (s.ts.length : Int) := by omega
  have i2 : ¬ (k : Int) < 0 := by omega
  have HKL := Lib.hid hkl
  have hMF := mayF_of hM
  have hlb : s.bs.length ≤ 100000 := by have := hMF.bl; omega
  have hln : s.ts.length ≤ 100000 := by have := hMF.tl; omega
  have HM : Hid (rMayB s = true) := Lib.hid ((rMay_eq s).trans hM)
  have HLB := Lib.hid hlb
  have HLN := Lib.hid hln
  have HLR := Lib.hid hMF.small
  clear hM hMF hc hlb hln
  clear hS0 hB hcb hmb hcn hmn hid hN hel hse hnt hn he q1 hkl hk hJ hq hI hK0 hK hnm hmy hz
  go_enter Tryz.func40, Tryz.ntmps40
  go_upto_region 6 with (first | (go_at_call 11; ((with_reducible refine (rMay_any s _ _ S1 HZ.out _ HM.out).mono ?_); rintro e' w3 ⟨rfl, bx⟩; (try clear k0 k1 k2 k3 k4 r0 r1 r2 r3 r4 t0 t1 t2 t3 t4); obtain ⟨S1, B1, B2, HB, k0, k1, k2, k3, k4, r0, r1, r2, r3, r4, t0, t1, t2, t3, t4⟩ := keepR S1 B1 B2 HB bx; clear bx)) | (go_at_call 57; ((with_reducible refine (rNote_any s _ y _ S1 ⟨HZ.out.bl, HZ.out.tl⟩).mono ?_); rintro e' w4 ⟨rfl, bx⟩; rw [HJ.out]; (try clear k0 k1 k2 k3 k4 r0 r1 r2 r3 r4 t0 t1 t2 t3 t4); obtain ⟨S1, B1, B2, HB, k0, k1, k2, k3, k4, r0, r1, r2, r3, r4, t0, t1, t2, t3, t4⟩ := keepR S1 B1 B2 HB bx; clear bx)) | (go_at_call 53; ((with_reducible refine (rBook_any s _ z _ S1 ⟨HZ.out.bl, HZ.out.tl⟩).mono ?_); rintro e' w5 ⟨rfl, bx⟩; rw [HI.out]; (try clear k0 k1 k2 k3 k4 r0 r1 r2 r3 r4 t0 t1 t2 t3 t4); obtain ⟨S1, B1, B2, HB, k0, k1, k2, k3, k4, r0, r1, r2, r3, r4, t0, t1, t2, t3, t4⟩ := keepR S1 B1 B2 HB bx; clear bx)))
  have z2 := (HB.cell (p := ⟨b1, o1 + k * 5 + 2, none⟩) l1).trans y2
  have SD := S1.next (below_dr w5)
  have B1d := B1.below (below_dr w5) B1.lt
  have B2d := B2.below (below_dr w5) B2.lt
  have HBd := btr HB HB.size (below_dr w5)
  go_still_tail 9, (by kernel_rfl)
  change wpList _ _ _ _ _ w5.drew
  obtain ⟨wd, hwd⟩ : ∃ V : World, V = w5.drew := ⟨_, rfl⟩
  rw [← hwd] at SD B1d B2d HBd ⊢
  clear hwd S1 B1 B2 HB z2 y2 k0 k1 k2 k3 k4 r0 r1 r2 r3 r4 t0 t1 t2 t3 t4
  have S1 := SD
  have B1 := B1d
  have B2 := B2d
  have HB := HBd
  clear B1d B2d HBd
  go_upto_region 9 with (go_at_call 70; ((with_reducible refine (rNoteName_any s _ z y n.nm _ S1 ⟨HZ.out.bl, HZ.out.tl⟩ HX.out _ HK.out).mono ?_); rintro e' w6 ⟨rfl, bx⟩; (try clear k0 k1 k2 k3 k4 r0 r1 r2 r3 r4 t0 t1 t2 t3 t4); obtain ⟨S1, B1, B2, HB, k0, k1, k2, k3, k4, r0, r1, r2, r3, r4, t0, t1, t2, t3, t4⟩ := keepR S1 B1 B2 HB bx; clear bx))
  have hW5 : w.heap.size + 2 ≤ w6.heap.size := by have := B2.lt; omega
  go_upto_region 10 with (go_at_call 8; ((with_reducible refine (rcopy_any s _ _ S1 HLB.out HLN.out HLR.out).mono ?_); rintro e' w9 ⟨v6, rfl, hQ, b6⟩; obtain ⟨Ab6, cb6, An6, cn6, rfl, hBk, hNt, q1, q2, q3, q4⟩ := hQ.parts; have B1 := B1.below b6 B1.lt; have B2 := B2.below b6 B2.lt; have HB := btr HB HB.size b6; have hz6 := b6.size; (try clear k0 k1 k2 k3 k4 r0 r1 r2 r3 r4 t0 t1 t2 t3 t4); have k0 := B1.cell_ 0; have t0 := B1.free 0; have k1 := B1.cell_ 1; have t1 := B1.free 1; have k2 := B1.cell_ 2; have t2 := B1.free 2; have k3 := B1.cell_ 3; have t3 := B1.free 3; have k4 := B1.cell_ 4; have t4 := B1.free 4; simp at k0 k1 k2 k3 k4; clear b6 hQ S1))
  have B1u := B1.st5_ (.int .i64 s.nb) (.int .i64 s.nn) (.int .i64 s.ns) (.slice Ab6 s.bs.length cb6) (.slice An6 s.ts.length cn6)
  have hg6 := st5_grown w9 w.heap.size 0 (.int .i64 s.nb) (.int .i64 s.nn) (.int .i64 s.ns) (.slice Ab6 s.bs.length cb6) (.slice An6 s.ts.length cn6)
  have B2u := B2.grown hg6 (by omega)
  have hBk2 := hBk.far hg6 (by omega)
  have hNt2 := hNt.far hg6 (by omega)
  have hb2 := below_grown HB hg6 (Nat.le_refl _) HB.size
  clear hg6
  obtain ⟨Wd, hWd⟩ : ∃ V : World, V = (st5 w9 w.heap.size 0 (.int .i64 s.nb) (.int .i64 s.nn) (.int .i64 s.ns) (.slice Ab6 s.bs.length cb6) (.slice An6 s.ts.length cn6)) := ⟨_, rfl⟩
  change Code.wp _ _ _ _ (st5 w9 w.heap.size 0 (.int .i64 s.nb) (.int .i64 s.nn) (.int .i64 s.ns) (.slice Ab6 s.bs.length cb6) (.slice An6 s.ts.length cn6))
  rw [← hWd] at B1u B2u hBk2 hNt2 hb2 ⊢
  clear hWd B1 B2 HB hBk hNt k0 k1 k2 k3 k4 t0 t1 t2 t3 t4 hz6
  have k0 := B1u.cell_ 0
  have k1 := B1u.cell_ 1
  have k2 := B1u.cell_ 2
  have k3 := B1u.cell_ 3
  have k4 := B1u.cell_ 4
  simp at k0 k1 k2 k3 k4
  obtain ⟨gb, hgb, hgb2⟩ : ∃ gb, An6 = some ⟨gb, 0, none⟩ ∧ w6.heap.size ≤ gb := by
    obtain ⟨es9, h8, h9, _⟩ := hNt2
    rcases h9.2 with ⟨h, h0⟩ | ⟨g, c, cu, h, hb, _⟩
    · have := HKL.out; omega
    · injection h with h1 h2 h3
      exact ⟨g, h1, hb⟩
  subst hgb
  have HW5 := Lib.hid hW5
  have hNt3 := hNt2
  obtain ⟨es9, h8, h9, h10⟩ := hNt3
  obtain ⟨u0, u1, u2, u3, u4, x0, x1, x2, x3, x4⟩ := five_cells h9 (es_five h8 h10) (k := k) (by have := HKL.out; omega)
  have f1 := World.ownsRow.frozenAt h9 (k * 5 + 1)
  go_upto_region 11 with fail
  obtain ⟨hNw, hgw⟩ := hNt2.book_ HNN.out z
  have B1w := B1u.grown hgw (by have := HW5.out; omega)
  have B2w := B2u.grown hgw (by have := HW5.out; omega)
  have hBw := hBk2.apartN h9 hgw
  have hbw := below_grown hb2 hgw (by have := HW5.out; omega) hb2.size
  obtain ⟨Wx, hWx⟩ : ∃ V : World, V = Wd.setCell ⟨gb, k * 5 + 1, none⟩ (.int .i64 z) := ⟨_, rfl⟩
  rw [← hWx] at hBw B1w B2w hNw hbw ⊢
  clear hWx hgw B1u B2u hNt2 hBk2 hb2 x0 x1 x2 x3 x4 f1 h8 h9 h10
  clear k0 k1 k2 k3 k4
  have k0 := B1w.cell_ 0
  have r0 := B2w.cell_ 0
  have t0 := B2w.free 0
  have k1 := B1w.cell_ 1
  have r1 := B2w.cell_ 1
  have t1 := B2w.free 1
  have k2 := B1w.cell_ 2
  have r2 := B2w.cell_ 2
  have t2 := B2w.free 2
  have k3 := B1w.cell_ 3
  have r3 := B2w.cell_ 3
  have t3 := B2w.free 3
  have k4 := B1w.cell_ 4
  have r4 := B2w.cell_ 4
  have t4 := B2w.free 4
  simp at k0 k1 k2 k3 k4 r0 r1 r2 r3 r4
  go_wp2_with fail
  have B2e := B2w.st5_ (.int .i64 s.nb) (.int .i64 s.nn) (.int .i64 s.ns) (.slice Ab6 s.bs.length cb6) (.slice (some ⟨gb, 0, none⟩) s.ts.length cn6)
  have hgE := st5_grown Wx (w.heap.size + 1) 0 (.int .i64 s.nb) (.int .i64 s.nn) (.int .i64 s.ns) (.slice Ab6 s.bs.length cb6) (.slice (some ⟨gb, 0, none⟩) s.ts.length cn6)
  have hBe := hBw.far hgE (by have := HW5.out; omega)
  have hNe := hNw.far hgE (by have := HW5.out; omega)
  have hbe := below_grown hbw hgE (by omega) hbw.size
  change bodyPost _ _ _ _ _ (st5 Wx (w.heap.size + 1) 0 (.int .i64 s.nb) (.int .i64 s.nn) (.int .i64 s.ns) (.slice Ab6 s.bs.length cb6) (.slice (some ⟨gb, 0, none⟩) s.ts.length cn6))
  clear hgE
  generalize st5 Wx (w.heap.size + 1) 0 (.int .i64 s.nb) (.int .i64 s.nn) (.int .i64 s.ns) (.slice Ab6 s.bs.length cb6) (.slice (some ⟨gb, 0, none⟩) s.ts.length cn6) = WF at B2e hBe hNe hbe ⊢
  apply bodyPost_ret (v := .tuple #[.agg #[.int .i64 s.nb, .int .i64 s.nn, .int .i64 s.ns, .slice Ab6 s.bs.length cb6, .slice (some ⟨gb, 0, none⟩) s.ts.length cn6], .int .i64 0])
  · exact results_cell1 Tryz.results40 _ WF (w.heap.size + 1) 25 _ (0, 0) _ rfl B2e Tryz.underlying25 rfl (by kernel_rfl)
  · rfl
  · exact ⟨_, rfl, ShW.base_ (by rw [HRS.out]; exact ShW.make (s := { s with ts := s.ts.set k { n with bk := z } }) (w := WF) (base := w6.heap.size) (vb := .slice Ab6 s.bs.length cb6) (vn := .slice (some ⟨gb, 0, none⟩) s.ts.length cn6) hBe hNe) (by have := HW5.out; omega), hbe⟩
theorem rret_yes (s : Sf) (v : Value) (y : Int) (x : ByteArray) (w : World) (hS : ShR w w.heap.size v s) (hz : SzF s) (hx : x.size ≤ 100000) (hc : retC s y x = 0) :
    Calls Tryz.prog 38 #[v, .int .i64 y, .string x] w fun e' w' => ∃ v', e' = .returned (.tuple #[v', .int .i64 0]) ∧ ShW w' w.heap.size v' (retS s y x) ∧ Below w.heap.size w w' := by
  have hS0 := hS
  obtain ⟨Ab, cb, An, cn, rfl, hB, hN, hcb, hmb, hcn, hmn⟩ := hS.ex
  clear hS
  obtain ⟨HB, B1, B2, S1⟩ := pre2 hS0
  have HZ := Lib.hid hz
  have HX := Lib.hid hx
  obtain ⟨hM, hJ, hNx, hK0⟩ : mayS s = true ∧ ¬ noteAt s y < 0 ∧ mayN x = true ∧ noteTk s (bkOf s y) x y = false := by
    unfold retC at hc
    cases h1 : mayS s <;> by_cases h2 : noteAt s y < 0 <;> cases h3 : mayN x <;> cases h4 : noteTk s (bkOf s y) x y <;> rw [h1] at hc <;> simp [h2, h3, h4] at hc ⊢
    all_goals exact Int.not_lt.1 h2
  obtain ⟨k, n, hk, hn, hid⟩ := noteAt_get (Int.not_lt.1 hJ)
  have hnm : bkOf s y = n.bk := by unfold bkOf; rw [hk]; simp [hn]
  rw [hnm] at hK0
  have HRS : Hid (retS s y x = { s with ts := s.ts.set k { n with nm := x } }) := Lib.hid (by unfold retS; rw [hk]; simp [hn])
  have HJ := Lib.hid hk
  have HNN := Lib.hid hn
  have hK : (cond (mayN x) (cond (noteTk s n.bk x y) 7 0) 6 : Int) = 0 := by rw [hNx, hK0]; rfl
  obtain ⟨es, hel, hse, hnt⟩ := hN.ex
  have hkl : k < s.ts.length := (List.getElem?_eq_some_iff.1 hn).1
  obtain ⟨e0, he⟩ : ∃ e, es[k]? = some e := ⟨_, List.getElem?_eq_getElem (by omega)⟩
  obtain ⟨At, ct, As, cs, rfl, -⟩ := (hnt k n e0 hn he).ex
  obtain ⟨b1, o1, rfl, l1, q1⟩ := hse.at_ (by omega)
  have y2 := q1 k _ he 1 _ rfl
  have HK := Lib.hid hK
  have i0 : (0 : Int) ≤ (k : Int) := by omega
  have i1 : (k : Int) < (s.ts.length : Int) := by omega
  have i2 : ¬ (k : Int) < 0 := by omega
  have HKL := Lib.hid hkl
  have hMF := mayF_of hM
  have hlb : s.bs.length ≤ 100000 := by have := hMF.bl; omega
  have hln : s.ts.length ≤ 100000 := by have := hMF.tl; omega
  have HM : Hid (rMayB s = true) := Lib.hid ((rMay_eq s).trans hM)
  have HLB := Lib.hid hlb
  have HLN := Lib.hid hln
  have HLR := Lib.hid hMF.small
  clear hM hMF hc hlb hln
  clear hS0 hB hcb hmb hcn hmn hid hN hel hse hnt hn he q1 hkl hk hJ hNx hK0 hK hnm hz hx
  go_enter Tryz.func38, Tryz.ntmps38
  go_upto_region 6 with (first | (go_at_call 11; ((with_reducible refine (rMay_any s _ _ S1 HZ.out _ HM.out).mono ?_); rintro e' w3 ⟨rfl, bx⟩; (try clear k0 k1 k2 k3 k4 r0 r1 r2 r3 r4 t0 t1 t2 t3 t4); obtain ⟨S1, B1, B2, HB, k0, k1, k2, k3, k4, r0, r1, r2, r3, r4, t0, t1, t2, t3, t4⟩ := keepR S1 B1 B2 HB bx; clear bx)) | (go_at_call 57; ((with_reducible refine (rNote_any s _ y _ S1 ⟨HZ.out.bl, HZ.out.tl⟩).mono ?_); rintro e' w4 ⟨rfl, bx⟩; rw [HJ.out]; (try clear k0 k1 k2 k3 k4 r0 r1 r2 r3 r4 t0 t1 t2 t3 t4); obtain ⟨S1, B1, B2, HB, k0, k1, k2, k3, k4, r0, r1, r2, r3, r4, t0, t1, t2, t3, t4⟩ := keepR S1 B1 B2 HB bx; clear bx)))
  have z2 := (HB.cell (p := ⟨b1, o1 + k * 5 + 1, none⟩) l1).trans y2
  have SD := S1.next (below_dr w4)
  have B1d := B1.below (below_dr w4) B1.lt
  have B2d := B2.below (below_dr w4) B2.lt
  have HBd := btr HB HB.size (below_dr w4)
  go_still_tail 9, (by kernel_rfl)
  change wpList _ _ _ _ _ w4.drew
  obtain ⟨wd, hwd⟩ : ∃ V : World, V = w4.drew := ⟨_, rfl⟩
  rw [← hwd] at SD B1d B2d HBd ⊢
  clear hwd S1 B1 B2 HB z2 y2 k0 k1 k2 k3 k4 r0 r1 r2 r3 r4 t0 t1 t2 t3 t4
  have S1 := SD
  have B1 := B1d
  have B2 := B2d
  have HB := HBd
  clear B1d B2d HBd
  go_upto_region 9 with (go_at_call 70; ((with_reducible refine (rNoteName_any s _ n.bk y x _ S1 ⟨HZ.out.bl, HZ.out.tl⟩ HX.out _ HK.out).mono ?_); rintro e' w6 ⟨rfl, bx⟩; (try clear k0 k1 k2 k3 k4 r0 r1 r2 r3 r4 t0 t1 t2 t3 t4); obtain ⟨S1, B1, B2, HB, k0, k1, k2, k3, k4, r0, r1, r2, r3, r4, t0, t1, t2, t3, t4⟩ := keepR S1 B1 B2 HB bx; clear bx))
  have hW5 : w.heap.size + 2 ≤ w6.heap.size := by have := B2.lt; omega
  go_upto_region 10 with (go_at_call 8; ((with_reducible refine (rcopy_any s _ _ S1 HLB.out HLN.out HLR.out).mono ?_); rintro e' w9 ⟨v6, rfl, hQ, b6⟩; obtain ⟨Ab6, cb6, An6, cn6, rfl, hBk, hNt, q1, q2, q3, q4⟩ := hQ.parts; have B1 := B1.below b6 B1.lt; have B2 := B2.below b6 B2.lt; have HB := btr HB HB.size b6; have hz6 := b6.size; (try clear k0 k1 k2 k3 k4 r0 r1 r2 r3 r4 t0 t1 t2 t3 t4); have k0 := B1.cell_ 0; have t0 := B1.free 0; have k1 := B1.cell_ 1; have t1 := B1.free 1; have k2 := B1.cell_ 2; have t2 := B1.free 2; have k3 := B1.cell_ 3; have t3 := B1.free 3; have k4 := B1.cell_ 4; have t4 := B1.free 4; simp at k0 k1 k2 k3 k4; clear b6 hQ S1))
  have B1u := B1.st5_ (.int .i64 s.nb) (.int .i64 s.nn) (.int .i64 s.ns) (.slice Ab6 s.bs.length cb6) (.slice An6 s.ts.length cn6)
  have hg6 := st5_grown w9 w.heap.size 0 (.int .i64 s.nb) (.int .i64 s.nn) (.int .i64 s.ns) (.slice Ab6 s.bs.length cb6) (.slice An6 s.ts.length cn6)
  have B2u := B2.grown hg6 (by omega)
  have hBk2 := hBk.far hg6 (by omega)
  have hNt2 := hNt.far hg6 (by omega)
  have hb2 := below_grown HB hg6 (Nat.le_refl _) HB.size
  clear hg6
  obtain ⟨Wd, hWd⟩ : ∃ V : World, V = (st5 w9 w.heap.size 0 (.int .i64 s.nb) (.int .i64 s.nn) (.int .i64 s.ns) (.slice Ab6 s.bs.length cb6) (.slice An6 s.ts.length cn6)) := ⟨_, rfl⟩
  change Code.wp _ _ _ _ (st5 w9 w.heap.size 0 (.int .i64 s.nb) (.int .i64 s.nn) (.int .i64 s.ns) (.slice Ab6 s.bs.length cb6) (.slice An6 s.ts.length cn6))
  rw [← hWd] at B1u B2u hBk2 hNt2 hb2 ⊢
  clear hWd B1 B2 HB hBk hNt k0 k1 k2 k3 k4 t0 t1 t2 t3 t4 hz6
  have k0 := B1u.cell_ 0
  have k1 := B1u.cell_ 1
  have k2 := B1u.cell_ 2
  have k3 := B1u.cell_ 3
  have k4 := B1u.cell_ 4
  simp at k0 k1 k2 k3 k4
  obtain ⟨gb, hgb, hgb2⟩ : ∃ gb, An6 = some ⟨gb, 0, none⟩ ∧ w6.heap.size ≤ gb := by
    obtain ⟨es9, h8, h9, _⟩ := hNt2
    rcases h9.2 with ⟨h, h0⟩ | ⟨g, c, cu, h, hb, _⟩
    · have := HKL.out; omega
    · injection h with h1 h2 h3
      exact ⟨g, h1, hb⟩
  subst hgb
  have HW5 := Lib.hid hW5
  have hNt3 := hNt2
  obtain ⟨es9, h8, h9, h10⟩ := hNt3
  obtain ⟨u0, u1, u2, u3, u4, x0, x1, x2, x3, x4⟩ := five_cells h9 (es_five h8 h10) (k := k) (by have := HKL.out; omega)
  have f1 := World.ownsRow.frozenAt h9 (k * 5 + 2)
  go_upto_region 11 with fail
  obtain ⟨hNw, hgw⟩ := hNt2.title_ HNN.out x
  have B1w := B1u.grown hgw (by have := HW5.out; omega)
  have B2w := B2u.grown hgw (by have := HW5.out; omega)
  have hBw := hBk2.apartN h9 hgw
  have hbw := below_grown hb2 hgw (by have := HW5.out; omega) hb2.size
  obtain ⟨Wx, hWx⟩ : ∃ V : World, V = Wd.setCell ⟨gb, k * 5 + 2, none⟩ (.string x) := ⟨_, rfl⟩
  rw [← hWx] at hBw B1w B2w hNw hbw ⊢
  clear hWx hgw B1u B2u hNt2 hBk2 hb2 x0 x1 x2 x3 x4 f1 h8 h9 h10
  clear k0 k1 k2 k3 k4
  have k0 := B1w.cell_ 0
  have r0 := B2w.cell_ 0
  have t0 := B2w.free 0
  have k1 := B1w.cell_ 1
  have r1 := B2w.cell_ 1
  have t1 := B2w.free 1
  have k2 := B1w.cell_ 2
  have r2 := B2w.cell_ 2
  have t2 := B2w.free 2
  have k3 := B1w.cell_ 3
  have r3 := B2w.cell_ 3
  have t3 := B2w.free 3
  have k4 := B1w.cell_ 4
  have r4 := B2w.cell_ 4
  have t4 := B2w.free 4
  simp at k0 k1 k2 k3 k4 r0 r1 r2 r3 r4
  go_wp2_with fail
  have B2e := B2w.st5_ (.int .i64 s.nb) (.int .i64 s.nn) (.int .i64 s.ns) (.slice Ab6 s.bs.length cb6) (.slice (some ⟨gb, 0, none⟩) s.ts.length cn6)
  have hgE := st5_grown Wx (w.heap.size + 1) 0 (.int .i64 s.nb) (.int .i64 s.nn) (.int .i64 s.ns) (.slice Ab6 s.bs.length cb6) (.slice (some ⟨gb, 0, none⟩) s.ts.length cn6)
  have hBe := hBw.far hgE (by have := HW5.out; omega)
  have hNe := hNw.far hgE (by have := HW5.out; omega)
  have hbe := below_grown hbw hgE (by omega) hbw.size
  change bodyPost _ _ _ _ _ (st5 Wx (w.heap.size + 1) 0 (.int .i64 s.nb) (.int .i64 s.nn) (.int .i64 s.ns) (.slice Ab6 s.bs.length cb6) (.slice (some ⟨gb, 0, none⟩) s.ts.length cn6))
  clear hgE
  generalize st5 Wx (w.heap.size + 1) 0 (.int .i64 s.nb) (.int .i64 s.nn) (.int .i64 s.ns) (.slice Ab6 s.bs.length cb6) (.slice (some ⟨gb, 0, none⟩) s.ts.length cn6) = WF at B2e hBe hNe hbe ⊢
  apply bodyPost_ret (v := .tuple #[.agg #[.int .i64 s.nb, .int .i64 s.nn, .int .i64 s.ns, .slice Ab6 s.bs.length cb6, .slice (some ⟨gb, 0, none⟩) s.ts.length cn6], .int .i64 0])
  · exact results_cell1 Tryz.results38 _ WF (w.heap.size + 1) 25 _ (0, 0) _ rfl B2e Tryz.underlying25 rfl (by kernel_rfl)
  · rfl
  · exact ⟨_, rfl, ShW.base_ (by rw [HRS.out]; exact ShW.make (s := { s with ts := s.ts.set k { n with nm := x } }) (w := WF) (base := w6.heap.size) (vb := .slice Ab6 s.bs.length cb6) (vn := .slice (some ⟨gb, 0, none⟩) s.ts.length cn6) hBe hNe) (by have := HW5.out; omega), hbe⟩
theorem ret_yes (s : Sf) (v : Value) (y : Int) (x : ByteArray) (w : World) (hS : ShR w w.heap.size v s) (hT : Tabs w) (hc : retC s y x = 0) :
    Calls Tryz.prog 37 #[v, .int .i64 y, .string x] w fun e' w' => ∃ v', e' = .returned (.tuple #[v', .int .i64 0]) ∧ ShW w' w.heap.size v' (retS s y x) ∧ Below w.heap.size w w' := by
  have hS0 := hS
  obtain ⟨Ab, cb, An, cn, rfl, hB, hN, hcb, hmb, hcn, hmn⟩ := hS.ex
  clear hS
  obtain ⟨HB, B1, B2, S1⟩ := pre2 hS0
  have T1 := hT.next HB
  obtain ⟨hM, hJ, hNx, hK0⟩ : mayS s = true ∧ ¬ noteAt s y < 0 ∧ mayN x = true ∧ noteTk s (bkOf s y) x y = false := by
    unfold retC at hc
    cases h1 : mayS s <;> by_cases h2 : noteAt s y < 0 <;> cases h3 : mayN x <;> cases h4 : noteTk s (bkOf s y) x y <;> rw [h1] at hc <;> simp [h2, h3, h4] at hc ⊢
    all_goals exact Int.not_lt.1 h2
  obtain ⟨k, n, hk, hn, hid⟩ := noteAt_get (Int.not_lt.1 hJ)
  have hnm : bkOf s y = n.bk := by unfold bkOf; rw [hk]; simp [hn]
  rw [hnm] at hK0
  have HRS : Hid (retS s y x = { s with ts := s.ts.set k { n with nm := x } }) := Lib.hid (by unfold retS; rw [hk]; simp [hn])
  have HJ := Lib.hid hk
  have HNN := Lib.hid hn
  have hK := hK0
  have HN : Hid (nameB x.data.toList = true) := Lib.hid hNx
  obtain ⟨es, hel, hse, hnt⟩ := hN.ex
  have hkl : k < s.ts.length := (List.getElem?_eq_some_iff.1 hn).1
  obtain ⟨e0, he⟩ : ∃ e, es[k]? = some e := ⟨_, List.getElem?_eq_getElem (by omega)⟩
  obtain ⟨At, ct, As, cs, rfl, -⟩ := (hnt k n e0 hn he).ex
  obtain ⟨b1, o1, rfl, l1, q1⟩ := hse.at_ (by omega)
  have y2 := q1 k _ he 1 _ rfl
  have HK := Lib.hid hK
  have i0 : (0 : Int) ≤ (k : Int) := by omega
  have i1 : (k : Int) < (s.ts.length : Int) := by omega
  have i2 : ¬ (k : Int) < 0 := by omega
  have HKL := Lib.hid hkl
  have hMF := mayF_of hM
  have hlb : s.bs.length ≤ 100000 := by have := hMF.bl; omega
  have hln : s.ts.length ≤ 100000 := by have := hMF.tl; omega
  have HM : Hid (mayS s = true) := Lib.hid hM
  have HLB := Lib.hid hlb
  have HLN := Lib.hid hln
  have HLR := Lib.hid hMF.small
  clear hM hMF hc hlb hln
  clear hS0 hB hcb hmb hcn hmn hid hN hel hse hnt hn he q1 hkl hk hJ hNx hK0 hK hnm hT
  go_enter Tryz.func37, Tryz.ntmps37
  go_upto_region 8 with (first | (go_at_call 55; ((with_reducible refine (pNote_any s _ y _ S1).mono ?_); rintro e' w3 ⟨rfl, bx⟩; rw [HJ.out]; (try clear k0 k1 k2 k3 k4 r0 r1 r2 r3 r4 t0 t1 t2 t3 t4); obtain ⟨S1, T1, B1, B2, HB, k0, k1, k2, k3, k4, r0, r1, r2, r3, r4, t0, t1, t2, t3, t4⟩ := keepT S1 T1 B1 B2 HB bx; clear bx)) | (go_at_call 10; ((with_reducible refine (smay_any s _ _ S1 T1 _ HM.out).mono ?_); rintro e' w4 ⟨rfl, bx⟩; (try clear k0 k1 k2 k3 k4 r0 r1 r2 r3 r4 t0 t1 t2 t3 t4); obtain ⟨S1, T1, B1, B2, HB, k0, k1, k2, k3, k4, r0, r1, r2, r3, r4, t0, t1, t2, t3, t4⟩ := keepT S1 T1 B1 B2 HB bx; clear bx)) | (go_at_call 61; ((with_reducible refine (nmay_any x _ _ T1 HN.out).mono ?_); rintro e' w5 ⟨rfl, bx⟩; (try clear k0 k1 k2 k3 k4 r0 r1 r2 r3 r4 t0 t1 t2 t3 t4); obtain ⟨S1, T1, B1, B2, HB, k0, k1, k2, k3, k4, r0, r1, r2, r3, r4, t0, t1, t2, t3, t4⟩ := keepT S1 T1 B1 B2 HB bx; clear bx)))
  have z2 := (HB.cell (p := ⟨b1, o1 + k * 5 + 1, none⟩) l1).trans y2
  have SD := S1.next (below_dr w5)
  have TD := T1.next (below_dr w5)
  have B1d := B1.below (below_dr w5) B1.lt
  have B2d := B2.below (below_dr w5) B2.lt
  have HBd := btr HB HB.size (below_dr w5)
  go_still_tail 9, (by kernel_rfl)
  change wpList _ _ _ _ _ w5.drew
  obtain ⟨wd, hwd⟩ : ∃ V : World, V = w5.drew := ⟨_, rfl⟩
  rw [← hwd] at SD TD B1d B2d HBd ⊢
  clear hwd S1 T1 B1 B2 HB z2 y2 k0 k1 k2 k3 k4 r0 r1 r2 r3 r4 t0 t1 t2 t3 t4
  have S1 := SD
  have T1 := TD
  have B1 := B1d
  have B2 := B2d
  have HB := HBd
  clear TD B1d B2d HBd
  go_upto_region 10 with (go_at_call 69; ((with_reducible refine (nTaken_any s _ n.bk x y _ S1 _ HK.out).mono ?_); rintro e' w6 ⟨rfl, bx⟩; (try clear k0 k1 k2 k3 k4 r0 r1 r2 r3 r4 t0 t1 t2 t3 t4); obtain ⟨S1, T1, B1, B2, HB, k0, k1, k2, k3, k4, r0, r1, r2, r3, r4, t0, t1, t2, t3, t4⟩ := keepT S1 T1 B1 B2 HB bx; clear bx))
  have hW5 : w.heap.size + 2 ≤ w6.heap.size := by have := B2.lt; omega
  go_upto_region 11 with (go_at_call 63; ((with_reducible refine (clone_any s _ _ S1 HLB.out HLN.out HLR.out).mono ?_); rintro e' w9 ⟨v6, rfl, hQ, b6⟩; obtain ⟨Ab6, cb6, An6, cn6, rfl, hBk, hNt, q1, q2, q3, q4⟩ := hQ.parts; have B1 := B1.below b6 B1.lt; have B2 := B2.below b6 B2.lt; have HB := btr HB HB.size b6; have hz6 := b6.size; (try clear k0 k1 k2 k3 k4 r0 r1 r2 r3 r4 t0 t1 t2 t3 t4); have k0 := B1.cell_ 0; have t0 := B1.free 0; have k1 := B1.cell_ 1; have t1 := B1.free 1; have k2 := B1.cell_ 2; have t2 := B1.free 2; have k3 := B1.cell_ 3; have t3 := B1.free 3; have k4 := B1.cell_ 4; have t4 := B1.free 4; simp at k0 k1 k2 k3 k4; clear b6 hQ S1 T1))
  have B1u := B1.st5_ (.int .i64 s.nb) (.int .i64 s.nn) (.int .i64 s.ns) (.slice Ab6 s.bs.length cb6) (.slice An6 s.ts.length cn6)
  have hg6 := st5_grown w9 w.heap.size 0 (.int .i64 s.nb) (.int .i64 s.nn) (.int .i64 s.ns) (.slice Ab6 s.bs.length cb6) (.slice An6 s.ts.length cn6)
  have B2u := B2.grown hg6 (by omega)
  have hBk2 := hBk.far hg6 (by omega)
  have hNt2 := hNt.far hg6 (by omega)
  have hb2 := below_grown HB hg6 (Nat.le_refl _) HB.size
  clear hg6
  obtain ⟨Wd, hWd⟩ : ∃ V : World, V = (st5 w9 w.heap.size 0 (.int .i64 s.nb) (.int .i64 s.nn) (.int .i64 s.ns) (.slice Ab6 s.bs.length cb6) (.slice An6 s.ts.length cn6)) := ⟨_, rfl⟩
  change Code.wp _ _ _ _ (st5 w9 w.heap.size 0 (.int .i64 s.nb) (.int .i64 s.nn) (.int .i64 s.ns) (.slice Ab6 s.bs.length cb6) (.slice An6 s.ts.length cn6))
  rw [← hWd] at B1u B2u hBk2 hNt2 hb2 ⊢
  clear hWd B1 B2 HB hBk hNt k0 k1 k2 k3 k4 t0 t1 t2 t3 t4 hz6
  have k0 := B1u.cell_ 0
  have k1 := B1u.cell_ 1
  have k2 := B1u.cell_ 2
  have k3 := B1u.cell_ 3
  have k4 := B1u.cell_ 4
  simp at k0 k1 k2 k3 k4
  obtain ⟨gb, hgb, hgb2⟩ : ∃ gb, An6 = some ⟨gb, 0, none⟩ ∧ w6.heap.size ≤ gb := by
    obtain ⟨es9, h8, h9, _⟩ := hNt2
    rcases h9.2 with ⟨h, h0⟩ | ⟨g, c, cu, h, hb, _⟩
    · have := HKL.out; omega
    · injection h with h1 h2 h3
      exact ⟨g, h1, hb⟩
  subst hgb
  have HW5 := Lib.hid hW5
  have hNt3 := hNt2
  obtain ⟨es9, h8, h9, h10⟩ := hNt3
  obtain ⟨u0, u1, u2, u3, u4, x0, x1, x2, x3, x4⟩ := five_cells h9 (es_five h8 h10) (k := k) (by have := HKL.out; omega)
  have f1 := World.ownsRow.frozenAt h9 (k * 5 + 2)
  go_upto_region 12 with fail
  obtain ⟨hNw, hgw⟩ := hNt2.title_ HNN.out x
  have B1w := B1u.grown hgw (by have := HW5.out; omega)
  have B2w := B2u.grown hgw (by have := HW5.out; omega)
  have hBw := hBk2.apartN h9 hgw
  have hbw := below_grown hb2 hgw (by have := HW5.out; omega) hb2.size
  obtain ⟨Wx, hWx⟩ : ∃ V : World, V = Wd.setCell ⟨gb, k * 5 + 2, none⟩ (.string x) := ⟨_, rfl⟩
  rw [← hWx] at hBw B1w B2w hNw hbw ⊢
  clear hWx hgw B1u B2u hNt2 hBk2 hb2 x0 x1 x2 x3 x4 f1 h8 h9 h10
  clear k0 k1 k2 k3 k4
  have k0 := B1w.cell_ 0
  have r0 := B2w.cell_ 0
  have t0 := B2w.free 0
  have k1 := B1w.cell_ 1
  have r1 := B2w.cell_ 1
  have t1 := B2w.free 1
  have k2 := B1w.cell_ 2
  have r2 := B2w.cell_ 2
  have t2 := B2w.free 2
  have k3 := B1w.cell_ 3
  have r3 := B2w.cell_ 3
  have t3 := B2w.free 3
  have k4 := B1w.cell_ 4
  have r4 := B2w.cell_ 4
  have t4 := B2w.free 4
  simp at k0 k1 k2 k3 k4 r0 r1 r2 r3 r4
  go_wp2_with fail
  have B2e := B2w.st5_ (.int .i64 s.nb) (.int .i64 s.nn) (.int .i64 s.ns) (.slice Ab6 s.bs.length cb6) (.slice (some ⟨gb, 0, none⟩) s.ts.length cn6)
  have hgE := st5_grown Wx (w.heap.size + 1) 0 (.int .i64 s.nb) (.int .i64 s.nn) (.int .i64 s.ns) (.slice Ab6 s.bs.length cb6) (.slice (some ⟨gb, 0, none⟩) s.ts.length cn6)
  have hBe := hBw.far hgE (by have := HW5.out; omega)
  have hNe := hNw.far hgE (by have := HW5.out; omega)
  have hbe := below_grown hbw hgE (by omega) hbw.size
  change bodyPost _ _ _ _ _ (st5 Wx (w.heap.size + 1) 0 (.int .i64 s.nb) (.int .i64 s.nn) (.int .i64 s.ns) (.slice Ab6 s.bs.length cb6) (.slice (some ⟨gb, 0, none⟩) s.ts.length cn6))
  clear hgE
  generalize st5 Wx (w.heap.size + 1) 0 (.int .i64 s.nb) (.int .i64 s.nn) (.int .i64 s.ns) (.slice Ab6 s.bs.length cb6) (.slice (some ⟨gb, 0, none⟩) s.ts.length cn6) = WF at B2e hBe hNe hbe ⊢
  apply bodyPost_ret (v := .tuple #[.agg #[.int .i64 s.nb, .int .i64 s.nn, .int .i64 s.ns, .slice Ab6 s.bs.length cb6, .slice (some ⟨gb, 0, none⟩) s.ts.length cn6], .int .i64 0])
  · exact results_cell1 Tryz.results37 _ WF (w.heap.size + 1) 25 _ (0, 0) _ rfl B2e Tryz.underlying25 rfl (by kernel_rfl)
  · rfl
  · exact ⟨_, rfl, ShW.base_ (by rw [HRS.out]; exact ShW.make (s := { s with ts := s.ts.set k { n with nm := x } }) (w := WF) (base := w6.heap.size) (vb := .slice Ab6 s.bs.length cb6) (vn := .slice (some ⟨gb, 0, none⟩) s.ts.length cn6) hBe hNe) (by have := HW5.out; omega), hbe⟩
theorem ret_no (s : Sf) (v : Value) (y : Int) (x : ByteArray) (w : World) (hS : ShR w w.heap.size v s) (hT : Tabs w) (c : Int) (hc : retC s y x = c) (hne : c ≠ 0) :
    Calls Tryz.prog 37 #[v, .int .i64 y, .string x] w fun e' w' => e' = .returned (.tuple #[.agg #[.int .i64 0, .int .i64 0, .int .i64 0, .slice none 0 0, .slice none 0 0], .int .i64 c]) ∧ Below w.heap.size w w' := by
  have hS0 := hS
  obtain ⟨Ab, cb, An, cn, rfl, hB, hN, hcb, hmb, hcn, hmn⟩ := hS.ex
  clear hS
  obtain ⟨HB, B1, B2, S1⟩ := pre2 hS0
  have T1 := hT.next HB
  obtain ⟨M, hM⟩ : ∃ M, mayS s = M := ⟨_, rfl⟩
  obtain ⟨J, hJ⟩ : ∃ J, noteAt s y = J := ⟨_, rfl⟩
  obtain ⟨N, hNx⟩ : ∃ N, mayN x = N := ⟨_, rfl⟩
  unfold retC at hc
  rw [hM, hJ, hNx] at hc
  have HM := Lib.hid hM
  have HJ := Lib.hid hJ
  have HN : Hid (nameB x.data.toList = N) := Lib.hid hNx
  clear hM hNx
  cases M
  · obtain rfl : c = 2 := hc.symm
    clear hS0 hT hB hN hcb hmb hcn hmn hJ
    clear hc hne
    go_enter Tryz.func37, Tryz.ntmps37
    go_wp2_with (first | (go_at_call 55; ((with_reducible refine (pNote_any s _ y _ S1).mono ?_); rintro e' w3 ⟨rfl, bx⟩; rw [HJ.out]; (try clear k0 k1 k2 k3 k4 r0 r1 r2 r3 r4 t0 t1 t2 t3 t4); obtain ⟨S1, T1, B1, B2, HB, k0, k1, k2, k3, k4, r0, r1, r2, r3, r4, t0, t1, t2, t3, t4⟩ := keepT S1 T1 B1 B2 HB bx; clear bx)) | (go_at_call 10; ((with_reducible refine (smay_any s _ _ S1 T1 _ HM.out).mono ?_); rintro e' w4 ⟨rfl, bx⟩; (try clear k0 k1 k2 k3 k4 r0 r1 r2 r3 r4 t0 t1 t2 t3 t4); obtain ⟨S1, T1, B1, B2, HB, k0, k1, k2, k3, k4, r0, r1, r2, r3, r4, t0, t1, t2, t3, t4⟩ := keepT S1 T1 B1 B2 HB bx; clear bx)))
    have B2u := z5_blk B2
    have hb2 := z5_below HB (g := w.heap.size + 1) (by omega)
    change bodyPost _ _ _ _ _ (z5 w4 (w.heap.size + 1))
    generalize z5 w4 (w.heap.size + 1) = Wd at B2u hb2 ⊢
    apply bodyPost_ret (v := .tuple #[.agg #[.int .i64 0, .int .i64 0, .int .i64 0, .slice none 0 0, .slice none 0 0], .int .i64 2])
    · exact results_cell1 Tryz.results37 _ Wd _ 25 #[.int .i64 0, .int .i64 0, .int .i64 0, .slice none 0 0, .slice none 0 0] (0, 0) _ rfl B2u Tryz.underlying25 rfl (by kernel_rfl)
    · rfl
    · exact ⟨rfl, hb2⟩
  · by_cases hj : J < 0
    · obtain rfl : c = 4 := by simpa [hj] using hc.symm
      clear hS0 hT hB hN hcb hmb hcn hmn hJ
      clear hc hne
      go_enter Tryz.func37, Tryz.ntmps37
      go_wp2_with (first | (go_at_call 55; ((with_reducible refine (pNote_any s _ y _ S1).mono ?_); rintro e' w3 ⟨rfl, bx⟩; rw [HJ.out]; (try clear k0 k1 k2 k3 k4 r0 r1 r2 r3 r4 t0 t1 t2 t3 t4); obtain ⟨S1, T1, B1, B2, HB, k0, k1, k2, k3, k4, r0, r1, r2, r3, r4, t0, t1, t2, t3, t4⟩ := keepT S1 T1 B1 B2 HB bx; clear bx)) | (go_at_call 10; ((with_reducible refine (smay_any s _ _ S1 T1 _ HM.out).mono ?_); rintro e' w4 ⟨rfl, bx⟩; (try clear k0 k1 k2 k3 k4 r0 r1 r2 r3 r4 t0 t1 t2 t3 t4); obtain ⟨S1, T1, B1, B2, HB, k0, k1, k2, k3, k4, r0, r1, r2, r3, r4, t0, t1, t2, t3, t4⟩ := keepT S1 T1 B1 B2 HB bx; clear bx)))
      have B2u := z5_blk B2
      have hb2 := z5_below HB (g := w.heap.size + 1) (by omega)
      change bodyPost _ _ _ _ _ (z5 w4 (w.heap.size + 1))
      generalize z5 w4 (w.heap.size + 1) = Wd at B2u hb2 ⊢
      apply bodyPost_ret (v := .tuple #[.agg #[.int .i64 0, .int .i64 0, .int .i64 0, .slice none 0 0, .slice none 0 0], .int .i64 4])
      · exact results_cell1 Tryz.results37 _ Wd _ 25 #[.int .i64 0, .int .i64 0, .int .i64 0, .slice none 0 0, .slice none 0 0] (0, 0) _ rfl B2u Tryz.underlying25 rfl (by kernel_rfl)
      · rfl
      · exact ⟨rfl, hb2⟩
    · cases N
      · obtain rfl : c = 6 := by simpa [hj] using hc.symm
        clear hS0 hT hB hN hcb hmb hcn hmn hJ
        clear hc hne
        go_enter Tryz.func37, Tryz.ntmps37
        go_wp2_with (first | (go_at_call 55; ((with_reducible refine (pNote_any s _ y _ S1).mono ?_); rintro e' w3 ⟨rfl, bx⟩; rw [HJ.out]; (try clear k0 k1 k2 k3 k4 r0 r1 r2 r3 r4 t0 t1 t2 t3 t4); obtain ⟨S1, T1, B1, B2, HB, k0, k1, k2, k3, k4, r0, r1, r2, r3, r4, t0, t1, t2, t3, t4⟩ := keepT S1 T1 B1 B2 HB bx; clear bx)) | (go_at_call 10; ((with_reducible refine (smay_any s _ _ S1 T1 _ HM.out).mono ?_); rintro e' w4 ⟨rfl, bx⟩; (try clear k0 k1 k2 k3 k4 r0 r1 r2 r3 r4 t0 t1 t2 t3 t4); obtain ⟨S1, T1, B1, B2, HB, k0, k1, k2, k3, k4, r0, r1, r2, r3, r4, t0, t1, t2, t3, t4⟩ := keepT S1 T1 B1 B2 HB bx; clear bx)) | (go_at_call 61; ((with_reducible refine (nmay_any x _ _ T1 HN.out).mono ?_); rintro e' w5 ⟨rfl, bx⟩; (try clear k0 k1 k2 k3 k4 r0 r1 r2 r3 r4 t0 t1 t2 t3 t4); obtain ⟨S1, T1, B1, B2, HB, k0, k1, k2, k3, k4, r0, r1, r2, r3, r4, t0, t1, t2, t3, t4⟩ := keepT S1 T1 B1 B2 HB bx; clear bx)))
        have B2u := z5_blk B2
        have hb2 := z5_below HB (g := w.heap.size + 1) (by omega)
        change bodyPost _ _ _ _ _ (z5 w5 (w.heap.size + 1))
        generalize z5 w5 (w.heap.size + 1) = Wd at B2u hb2 ⊢
        apply bodyPost_ret (v := .tuple #[.agg #[.int .i64 0, .int .i64 0, .int .i64 0, .slice none 0 0, .slice none 0 0], .int .i64 6])
        · exact results_cell1 Tryz.results37 _ Wd _ 25 #[.int .i64 0, .int .i64 0, .int .i64 0, .slice none 0 0, .slice none 0 0] (0, 0) _ rfl B2u Tryz.underlying25 rfl (by kernel_rfl)
        · rfl
        · exact ⟨rfl, hb2⟩
      · obtain ⟨k, n, hk, hn, hid⟩ := noteAt_get (s := s) (x := y) (by omega)
        have hnm : bkOf s y = n.bk := by unfold bkOf; rw [hk]; simp [hn]
        rw [hnm] at hc
        have hK : noteTk s n.bk x y = true := by
          cases h : noteTk s n.bk x y
          · rw [h] at hc
            exact absurd (by simpa [hj] using hc.symm) hne
          · rfl
        rw [hK] at hc
        obtain rfl : c = 7 := by simpa [hj] using hc.symm
        have hJk : J = (k : Int) := hJ.symm.trans hk
        subst hJk
        obtain ⟨es, hel, hse, hnt⟩ := hN.ex
        have hkl : k < s.ts.length := (List.getElem?_eq_some_iff.1 hn).1
        obtain ⟨e0, he⟩ : ∃ e, es[k]? = some e := ⟨_, List.getElem?_eq_getElem (by omega)⟩
        obtain ⟨At, ct, As, cs, rfl, -⟩ := (hnt k n e0 hn he).ex
        obtain ⟨b1, o1, rfl, l1, q1⟩ := hse.at_ (by omega)
        have y2 := q1 k _ he 1 _ rfl
        have HK := Lib.hid hK
        have i0 : (0 : Int) ≤ (k : Int) := by omega
        have i1 : (k : Int) < (s.ts.length : Int) := by omega
        have i2 : ¬ (k : Int) < 0 := by omega
        clear hS0 hT hB hcb hmb hcn hmn hJ hnm hid hN hel hse hnt hn he q1 hkl hk hK
        clear hc hne
        go_enter Tryz.func37, Tryz.ntmps37
        go_upto_region 8 with (first | (go_at_call 55; ((with_reducible refine (pNote_any s _ y _ S1).mono ?_); rintro e' w3 ⟨rfl, bx⟩; rw [HJ.out]; (try clear k0 k1 k2 k3 k4 r0 r1 r2 r3 r4 t0 t1 t2 t3 t4); obtain ⟨S1, T1, B1, B2, HB, k0, k1, k2, k3, k4, r0, r1, r2, r3, r4, t0, t1, t2, t3, t4⟩ := keepT S1 T1 B1 B2 HB bx; clear bx)) | (go_at_call 10; ((with_reducible refine (smay_any s _ _ S1 T1 _ HM.out).mono ?_); rintro e' w4 ⟨rfl, bx⟩; (try clear k0 k1 k2 k3 k4 r0 r1 r2 r3 r4 t0 t1 t2 t3 t4); obtain ⟨S1, T1, B1, B2, HB, k0, k1, k2, k3, k4, r0, r1, r2, r3, r4, t0, t1, t2, t3, t4⟩ := keepT S1 T1 B1 B2 HB bx; clear bx)) | (go_at_call 61; ((with_reducible refine (nmay_any x _ _ T1 HN.out).mono ?_); rintro e' w5 ⟨rfl, bx⟩; (try clear k0 k1 k2 k3 k4 r0 r1 r2 r3 r4 t0 t1 t2 t3 t4); obtain ⟨S1, T1, B1, B2, HB, k0, k1, k2, k3, k4, r0, r1, r2, r3, r4, t0, t1, t2, t3, t4⟩ := keepT S1 T1 B1 B2 HB bx; clear bx)))
        have z2 := (HB.cell (p := ⟨b1, o1 + k * 5 + 1, none⟩) l1).trans y2
        have SD := S1.next (below_dr w5)
        have TD := T1.next (below_dr w5)
        have B1d := B1.below (below_dr w5) B1.lt
        have B2d := B2.below (below_dr w5) B2.lt
        have HBd := btr HB HB.size (below_dr w5)
        go_still_tail 9, (by kernel_rfl)
        change wpList _ _ _ _ _ w5.drew
        obtain ⟨wd, hwd⟩ : ∃ V : World, V = w5.drew := ⟨_, rfl⟩
        rw [← hwd] at SD TD B1d B2d HBd ⊢
        clear hwd S1 T1 B1 B2 HB z2 y2 k0 k1 k2 k3 k4 r0 r1 r2 r3 r4 t0 t1 t2 t3 t4
        have S1 := SD
        have T1 := TD
        have B1 := B1d
        have B2 := B2d
        have HB := HBd
        clear TD B1d B2d HBd
        go_wp2_with (go_at_call 69; ((with_reducible refine (nTaken_any s _ n.bk x y _ S1 _ HK.out).mono ?_); rintro e' w6 ⟨rfl, bx⟩; (try clear k0 k1 k2 k3 k4 r0 r1 r2 r3 r4 t0 t1 t2 t3 t4); obtain ⟨S1, T1, B1, B2, HB, k0, k1, k2, k3, k4, r0, r1, r2, r3, r4, t0, t1, t2, t3, t4⟩ := keepT S1 T1 B1 B2 HB bx; clear bx))
        have B2u := z5_blk B2
        have hb2 := z5_below HB (g := w.heap.size + 1) (by omega)
        change bodyPost _ _ _ _ _ (z5 w6 (w.heap.size + 1))
        generalize z5 w6 (w.heap.size + 1) = Wd at B2u hb2 ⊢
        apply bodyPost_ret (v := .tuple #[.agg #[.int .i64 0, .int .i64 0, .int .i64 0, .slice none 0 0, .slice none 0 0], .int .i64 7])
        · exact results_cell1 Tryz.results37 _ Wd _ 25 #[.int .i64 0, .int .i64 0, .int .i64 0, .slice none 0 0, .slice none 0 0] (0, 0) _ rfl B2u Tryz.underlying25 rfl (by kernel_rfl)
        · rfl
        · exact ⟨rfl, hb2⟩
end Go.Proofs.YtokhapafpjejaaaGreatDoor
namespace Go.Proofs.YtokhapafpjejaaaGreatDoor
open Go.ChangeShapes Go.WideShapes Go.ChangeAt Go.RowKit
attribute [local go_sem ↓] Go.wp_at_zero Go.wp_at_succ
theorem filter_id {α : Type} (f : α → Int) : ∀ (l : List α) (k : Nat) (b : α), l.Pairwise (fun a b => f a < f b) → l[k]? = some b → l.filter (fun a => !(f a == f b)) = l.take k ++ l.drop (k + 1)
  | [], _, _, _, h => by simp at h
  | a :: l, 0, b, hp, h => by
    rw [List.pairwise_cons] at hp
    have hab : a = b := by simpa using h
    subst hab
    rw [List.filter_cons]
    simp only [beq_self_eq_true, Bool.not_true, Bool.false_eq_true, if_false, List.take_zero, List.nil_append, Nat.zero_add, List.drop_succ_cons, List.drop_zero]
    refine List.filter_eq_self.2 fun x hx => ?_
    have h1 := hp.1 x hx
    have : ¬ f x = f a := by omega
    simp [this]
  | a :: l, k + 1, b, hp, h => by
    rw [List.pairwise_cons] at hp
    have hb : l[k]? = some b := by simpa using h
    have h1 := hp.1 b (List.mem_of_getElem? hb)
    have h2 : ¬ f a = f b := by omega
    rw [List.filter_cons]
    simp only [beq_eq_false_iff_ne.2 h2, Bool.not_false, if_true, List.take_succ_cons, List.drop_succ_cons, List.cons_append]
    rw [filter_id f l k b hp.2 hb]
theorem flat_drop {C : Nat} : ∀ (es : List (List Value)) (i : Nat), (∀ x ∈ es, x.length = C) → es.flatten.drop (i * C) = (es.drop i).flatten
  | es, 0, _ => by simp
  | [], i + 1, _ => by simp
  | e :: es, i + 1, h => by
    have he := h e (by simp)
    rw [List.flatten_cons, List.drop_succ_cons, ← flat_drop es i (fun x hx => h x (by simp [hx])), List.drop_append, he]
    have h1 : (i + 1) * C - C = i * C := by rw [Nat.add_mul, Nat.one_mul, Nat.add_sub_cancel]
    rw [List.drop_eq_nil_of_le (by rw [he, Nat.add_mul, Nat.one_mul]; omega), List.nil_append, h1]
theorem BksW.out_ {w : World} {base k n : Nat} {v : Value} {bs : List Bk} (hn : bs.length = n) (hk : k < n) (h : w.ownsRow base 59 2 v (k + (n - (k + 1))) ((bs.map bkC).flatten.take (k * 2) ++ (bs.map bkC).flatten.drop ((k + 1) * 2))) : BksW w base v (bs.take k ++ bs.drop (k + 1)) := by
  rw [flat_take _ _ (bkC_two bs), flat_drop _ _ (bkC_two bs), ← List.map_take, ← List.map_drop, ← List.flatten_append, ← List.map_append] at h
  show w.ownsRow _ _ _ _ (bs.take k ++ bs.drop (k + 1)).length _
  have hl : (bs.take k ++ bs.drop (k + 1)).length = k + (n - (k + 1)) := by rw [List.length_append, List.length_take, List.length_drop, hn]; omega
  rw [hl]
  exact h
theorem NtsW.out_ {w w' : World} {base k n : Nat} {v v' : Value} {ts : List Nt} {es : List (List Value)} (hn : ts.length = n) (hel : es.length = n) (hk : k < n) (hon : w.ownsRow base 46 5 v n es.flatten) (hnt : ∀ (k : Nat) (m : Nt) (e : List Value), ts[k]? = some m → es[k]? = some e → NtW w base m e) (hg : w.grownBy w' v.ownBlock) (h : w'.ownsRow base 46 5 v' (k + (n - (k + 1))) (es.flatten.take (k * 5) ++ es.flatten.drop ((k + 1) * 5))) : NtsW w' base v' (ts.take k ++ ts.drop (k + 1)) := by
  have h5 : ∀ x ∈ es, x.length = 5 := es_five (hel.trans hn.symm) hnt
  rw [flat_take _ _ h5, flat_drop _ _ h5, ← List.flatten_append] at h
  have hl : (ts.take k ++ ts.drop (k + 1)).length = k + (n - (k + 1)) := by rw [List.length_append, List.length_take, List.length_drop, hn]; omega
  have hl2 : (es.take k ++ es.drop (k + 1)).length = k + (n - (k + 1)) := by rw [List.length_append, List.length_take, List.length_drop, hel]; omega
  refine ⟨es.take k ++ es.drop (k + 1), by rw [hl, hl2], by rw [hl]; exact h, fun j m e a c => ?_⟩
  rw [List.getElem?_append, List.length_take, Nat.min_eq_left (by omega)] at a c
  split at a
  · rename_i hj
    rw [if_pos hj] at c
    rw [List.getElem?_take_of_lt hj] at a c
    exact (hnt j m e a c).kept hon hg (by decide) (by decide)
  · rename_i hj
    rw [if_neg hj] at c
    rw [List.getElem?_drop] at a c
    exact (hnt _ m e a c).kept hon hg (by decide) (by decide)
theorem rd_tail {w : World} {base C n c g k : Nat} {e : TypeId} {xs : List Value} (h : w.ownsRow base e C (.slice (some ⟨g, 0, none⟩) n c) n xs) (hk : k + 1 ≤ n) : Rd w (if c = k + 1 then some ⟨g, 0, none⟩ else some ⟨g, (k + 1) * C, none⟩) (n - (k + 1)) C (xs.drop ((k + 1) * C)) := by
  have hl := h.1
  have hc : n ≤ c := by
    obtain ⟨A, c', he, h1, h2⟩ := own_shape h
    cases he
    exact h1
  refine ⟨by rw [List.length_drop, hl, Nat.sub_mul], ?_⟩
  by_cases hcc : c = k + 1
  · left
    omega
  · right
    rw [if_neg hcc]
    refine ⟨g, (k + 1) * C, rfl, fun j u hj => ?_⟩
    rw [List.getElem?_drop] at hj
    have hlt := (List.getElem?_eq_some_iff.1 hj).1
    rw [h.cellAt _ (by omega)]
    exact hj
def NtsB (w : World) (b1 b2 : Nat) (vn : Value) (ts : List Nt) : Prop := ∃ es : List (List Value), es.length = ts.length ∧ w.ownsRow b2 46 5 vn ts.length es.flatten ∧ ∀ (k : Nat) (n : Nt) (e : List Value), ts[k]? = some n → es[k]? = some e → NtW w b1 n e
theorem NtsB.nil (w : World) (b1 b2 : Nat) : NtsB w b1 b2 (.slice none 0 0) [] := ⟨[], rfl, World.ownsRow_nil _ _ _ _, fun k n e a _ => by simp at a⟩
theorem NtsB.toW {w : World} {b1 b2 : Nat} {vn : Value} {ts : List Nt} (h : NtsB w b1 b2 vn ts) (hb : b1 ≤ b2) : NtsW w b1 vn ts := by
  obtain ⟨es, h1, h2, h3⟩ := h
  exact ⟨es, h1, own_base h2 hb, h3⟩
theorem NtsB.snoc {w w' : World} {b1 b2 : Nat} {v v' : Value} {ts : List Nt} {b : Nt} {es : List (List Value)} {e : List Value} (hel : es.length = ts.length) (hon : w.ownsRow b2 46 5 v ts.length es.flatten) (hnt : ∀ (k : Nat) (m : Nt) (e : List Value), ts[k]? = some m → es[k]? = some e → NtW w b1 m e) (hb : NtW w b1 b e) (hg : w.grownBy w' v.ownBlock) (h : w'.ownsRow b2 46 5 v' (ts.length + 1) (es.flatten ++ e)) : NtsB w' b1 b2 v' (ts ++ [b]) := by
  refine ⟨es ++ [e], by simp [hel], ?_, fun k m e2 a c => ?_⟩
  · rw [List.flatten_append, List.length_append]
    simpa using h
  · rw [List.getElem?_append] at a c
    rw [hel] at c
    split at a
    · rename_i hk
      rw [if_pos hk] at c
      exact (hnt k m e2 a c).kept hon hg (by decide) (by decide)
    · rename_i hk
      rw [if_neg hk] at c
      cases hj : k - ts.length with
      | zero =>
        rw [hj] at a c
        cases a
        cases c
        exact hb.kept hon hg (by decide) (by decide)
      | succ j =>
        rw [hj] at a
        simp at a
theorem rd_newE (w : World) (a b c d e : Value) {g : Nat} (hg : g = w.heap.size) : Rd (w.alloc (.cells #[a, b, c, d, e] 46)) (some ⟨g, 0, none⟩) 1 5 [a, b, c, d, e] := by
  subst hg
  refine ⟨rfl, Or.inr ⟨_, 0, rfl, fun j u hj => ?_⟩⟩
  rw [Joins.cell_of_block (heap_alloc_new w _), Nat.zero_add]
  simpa using hj
theorem rdisc_yes (s : Sf) (v : Value) (y : Int) (w : World) (hS : ShR w w.heap.size v s) (hz : SzF s) (hc : discC s y = 0) :
    Calls Tryz.prog 42 #[v, .int .i64 y] w fun e' w' => ∃ v', e' = .returned (.tuple #[v', .int .i64 0]) ∧ ShW w' w.heap.size v' (discS s y) ∧ Below w.heap.size w w' := by
  have hS0 := hS
  obtain ⟨Ab, cb, An, cn, rfl, hB, hN, hcb, hmb, hcn, hmn⟩ := hS.ex
  clear hS
  obtain ⟨HB, B1, B2, S1⟩ := pre2 hS0
  have HZ := Lib.hid hz
  clear hS0 hB hN hcb hmb hcn hmn hz
  obtain ⟨hM, hI⟩ : mayS s = true ∧ ¬ noteAt s y < 0 := by
    unfold discC at hc
    cases h1 : mayS s <;> by_cases h2 : noteAt s y < 0 <;> rw [h1] at hc <;> simp [h2] at hc ⊢
    all_goals exact Int.not_lt.1 h2
  obtain ⟨k, b, hk, hb, hid⟩ := noteAt_get (Int.not_lt.1 hI)
  have HRS : Hid (discS s y = { s with ts := s.ts.take k ++ s.ts.drop (k + 1) }) := Lib.hid (by
    unfold discS
    rw [← hid, filter_id Nt.id s.ts k b (mayF_of hM).tord hb])
  have HB1 := Lib.hid hk
  obtain ⟨n, hn⟩ : ∃ n, s.ts.length = n := ⟨_, rfl⟩
  have hkl : k < n := by rw [← hn]; exact (List.getElem?_eq_some_iff.1 hb).1
  have hnl : n ≤ 100000 := by have := (mayF_of hM).tl; omega
  have i0 : (0 : Int) ≤ (k : Int) := by omega
  have i1 : (k : Int) ≤ (n : Int) := by omega
  have i2 : ¬ (k : Int) < 0 := by omega
  have HKL := Lib.hid hkl
  have HLL := Lib.hid hn
  clear hI hk hb hid hkl
  have hMF := mayF_of hM
  have hlb : s.bs.length ≤ 100000 := by have := hMF.bl; omega
  have hln : s.ts.length ≤ 100000 := by have := hMF.tl; omega
  have HM : Hid (rMayB s = true) := Lib.hid ((rMay_eq s).trans hM)
  have HLB := Lib.hid hlb
  have HLN := Lib.hid hln
  have HLR := Lib.hid hMF.small
  clear hM hMF hc hlb hln
  rw [hn] at HB B1 S1 B2 ⊢
  clear hn
  go_enter Tryz.func42, Tryz.ntmps42
  go_upto_region 6 with (first | (go_at_call 11; ((with_reducible refine (rMay_any s _ _ S1 HZ.out _ HM.out).mono ?_); rintro e' w3 ⟨rfl, bx⟩; (try clear k0 k1 k2 k3 k4 r0 r1 r2 r3 r4 t0 t1 t2 t3 t4); obtain ⟨S1, B1, B2, HB, k0, k1, k2, k3, k4, r0, r1, r2, r3, r4, t0, t1, t2, t3, t4⟩ := keepR S1 B1 B2 HB bx; clear bx)) | (go_at_call 57; ((with_reducible refine (rNote_any s _ y _ S1 ⟨HZ.out.bl, HZ.out.tl⟩).mono ?_); rintro e' w4 ⟨rfl, bx⟩; (try rw [HB1.out]); (try clear k0 k1 k2 k3 k4 r0 r1 r2 r3 r4 t0 t1 t2 t3 t4); obtain ⟨S1, B1, B2, HB, k0, k1, k2, k3, k4, r0, r1, r2, r3, r4, t0, t1, t2, t3, t4⟩ := keepR S1 B1 B2 HB bx; clear bx)))
  have hW5 : w.heap.size + 2 ≤ w4.heap.size := by have := B2.lt; omega
  go_upto_region 7 with (go_at_call 8; ((with_reducible refine (rcopy_any s _ _ S1 HLB.out HLN.out HLR.out).mono ?_); rintro e' w9 ⟨v6, rfl, hQ, b6⟩; obtain ⟨Ab6, cb6, An6, cn6, rfl, hBk, hNt, q1, q2, q3, q4⟩ := hQ.parts; rw [HLL.out] at q3 hNt ⊢; have B1 := B1.below b6 B1.lt; have B2 := B2.below b6 B2.lt; have HB := btr HB HB.size b6; have hz6 := b6.size; (try clear k0 k1 k2 k3 k4 r0 r1 r2 r3 r4 t0 t1 t2 t3 t4); have k0 := B1.cell_ 0; have t0 := B1.free 0; have k1 := B1.cell_ 1; have t1 := B1.free 1; have k2 := B1.cell_ 2; have t2 := B1.free 2; have k3 := B1.cell_ 3; have t3 := B1.free 3; have k4 := B1.cell_ 4; have t4 := B1.free 4; simp at k0 k1 k2 k3 k4; clear b6 hQ S1))
  have B1u := B1.st5_ (.int .i64 s.nb) (.int .i64 s.nn) (.int .i64 s.ns) (.slice Ab6 s.bs.length cb6) (.slice An6 n cn6)
  have hg6 := st5_grown w9 w.heap.size 0 (.int .i64 s.nb) (.int .i64 s.nn) (.int .i64 s.ns) (.slice Ab6 s.bs.length cb6) (.slice An6 n cn6)
  have B2u := B2.grown hg6 (by omega)
  have hBk2 := hBk.far hg6 (by omega)
  have hNt2 := hNt.far hg6 (by omega)
  have hb2 := below_grown HB hg6 (Nat.le_refl _) HB.size
  have HSZ : Hid (w4.heap.size ≤ (st5 w9 w.heap.size 0 (.int .i64 s.nb) (.int .i64 s.nn) (.int .i64 s.ns) (.slice Ab6 s.bs.length cb6) (.slice An6 n cn6)).heap.size) := Lib.hid (by have := hz6; have := hg6.size; omega)
  clear hg6
  obtain ⟨Wd, hWd⟩ : ∃ V : World, V = (st5 w9 w.heap.size 0 (.int .i64 s.nb) (.int .i64 s.nn) (.int .i64 s.ns) (.slice Ab6 s.bs.length cb6) (.slice An6 n cn6)) := ⟨_, rfl⟩
  change Code.wp _ _ _ _ (st5 w9 w.heap.size 0 (.int .i64 s.nb) (.int .i64 s.nn) (.int .i64 s.ns) (.slice Ab6 s.bs.length cb6) (.slice An6 n cn6))
  rw [← hWd] at B1u B2u hBk2 hNt2 hb2 HSZ ⊢
  clear hWd B1 B2 HB hBk hNt k0 k1 k2 k3 k4 t0 t1 t2 t3 t4 hz6
  have HW5 := Lib.hid hW5
  obtain ⟨es, hel, hon, hnt⟩ := hNt2
  rw [HLL.out] at hel hon
  have hkl := HKL.out
  obtain ⟨gb, hgb, hgb2⟩ : ∃ gb, An6 = some ⟨gb, 0, none⟩ ∧ w4.heap.size ≤ gb := by
    rcases hon.2 with ⟨h, h0⟩ | ⟨g, c, cu, h, hb, _⟩
    · omega
    · injection h with h1 h2 h3
      exact ⟨g, h1, hb⟩
  subst hgb
  have hk1 : k + 1 ≤ n := hkl
  have j0 : (0 : Int) ≤ (k : Int) + 1 := by omega
  have j1 : (k : Int) + 1 ≤ (n : Int) := by omega
  have j2 : ((k : Int) + 1).toNat = k + 1 := by omega
  have j3 : IntKind.i64.wrap ((k : Int) + 1) = (k : Int) + 1 := wrapS _ (by omega) (by omega)
  have j4 : (k : Int) ≤ (cn6 : Int) := by omega
  have j5 : ¬ cn6 = 0 := by omega
  have honc := drew_own (own_cut (i := k) hon (by simp) (by omega))
  have honr := rd_tail (drew_own hon) hk1
  have hone : ∀ u ∈ es.flatten.drop ((k + 1) * 5), u.oneCell' = true := fun u hu => by
    obtain ⟨e, he, hu2⟩ := List.mem_flatten.1 (List.mem_of_mem_drop hu)
    obtain ⟨j, hj, rfl⟩ := List.mem_iff_getElem.1 he
    obtain ⟨vt, vs, h1, h2, h3⟩ := hnt j _ _ (List.getElem?_eq_getElem (by rw [HLL.out]; omega)) (List.getElem?_eq_getElem hj)
    obtain ⟨A1, c1, r1, _⟩ := own_shape h2
    obtain ⟨A2, c2, r2, _⟩ := own_shape h3
    rw [h1, r1, r2] at hu2
    simp [ntC] at hu2
    rcases hu2 with rfl | rfl | rfl | rfl | rfl <;> rfl
  have k4 := drew_cell (B1u.cell_ 4)
  have t4 := (drew_blk B1u).free 4
  simp at k4
  refine wp_region_noPanic ?_
  refine wp_region_held_drew (S := (fun _ => True)) (by kernel_rfl) ?_ (fun hHeld => ?_)
  · exact trivial
  refine tk 0 ?_; try simp only [Act.put, pz1, pz2, pz3]
  refine tk 2 ?_; try simp only [Act.put, pz1, pz2, pz3]
  refine tk 4 ?_; try simp only [Act.put, pz1, pz2, pz3]
  refine tk 6 ?_; try simp only [Act.put, pz1, pz2, pz3]
  refine tk 7 ?_; try simp only [Act.put, pz1, pz2, pz3]
  refine wpAnyH_ready (rs := [1, 5]) (by kernel_rfl) (by simp) ?_
  refine (AllReadyH.cons (o := ⟨some 20, .load 23 (.tmp 19), 23, "ref.go:274", #[⟨0, .data⟩], none⟩) rfl (fun K hK => ?_) (AllReadyH.cons (o := ⟨some 24, .load 23 (.tmp 23), 23, "ref.go:274", #[⟨4, .data⟩], none⟩) rfl (fun K hK => ?_) AllReadyH.nil))
  · go_simp
    refine hK.out _ _ ?_ (fun hNew => ?_)
    · exact trivial
    clear hK K hHeld
    have hHeld := hNew
    clear hNew
    try simp only [Act.put, pz1, pz2, pz3]
    refine tk 3 ?_; try simp only [Act.put, pz1, pz2, pz3]
    refine wpAnyH_ready (rs := [5]) (by kernel_rfl) (by simp) ?_
    refine AllReadyH.cons (o := ⟨some 24, .load 23 (.tmp 23), 23, "ref.go:274", #[⟨4, .data⟩], none⟩) rfl (fun K hK => ?_) AllReadyH.nil
    go_simp
    refine hK.out _ _ ?_ (fun hNew => ?_)
    · exact trivial
    clear hK K hHeld
    have hHeld := hNew
    clear hNew
    try simp only [Act.put, pz1, pz2, pz3]
    refine tk 8 ?_; try simp only [Act.put, pz1, pz2, pz3]
    refine wpAnyH_ready (rs := [9]) (by kernel_rfl) (by simp) ?_
    refine AllReadyH.cons (o := ⟨some 28, .call { callee := .builtin .append, args := #[.tmp 22, .tmp 27], argTypes := #[23, 23] }, 23, "ref.go:274", #[⟨3, .data⟩, ⟨8, .data⟩], none⟩) rfl (fun K hK => ?_) AllReadyH.nil
    obtain ⟨ti0, hi, hz0, hz1, hz2⟩ := info_parts info_clNt
    refine step_app _ rfl (.tmp 22) (.tmp 27) _ rfl w4.heap.size 46 ti0 _ 5 80 Tryz.underlying23 hi hz0 hz1 hz2 rfl (by decide) _ k (es.flatten.take (k * 5)) rfl honc _ (n - (k + 1)) _ (es.flatten.drop ((k + 1) * 5)) rfl honr hone (by unfold maxLen; omega) (by omega) HSZ.out ?_
    intro v7 w7 ho' hg' hv'
    clear hi hz0 hz1 hz2 hv'
    generalize (if cn6 = k + 1 then some (⟨gb, 0, none⟩ : Addr) else some ⟨gb, (k + 1) * 5, none⟩) = A22
    obtain ⟨A7, c7, rfl, q21, q22⟩ := own_shape ho'
    have hof : (Value.slice (some ⟨gb, 0, none⟩) k cn6).ownBlock ≠ some w.heap.size := fun h => by have h2 : gb = w.heap.size := (by simpa [Value.ownBlock] using h); have := HW5.out; omega
    have B1a := (drew_blk B1u).grownR hg' hof
    have k4' := B1a.cell_ 4
    have t4' := B1a.free 4
    simp at k4'
    refine hK.out _ _ ?_ (fun hNew => ?_)
    · exact trivial
    clear hK K hHeld
    have hHeld := hNew
    clear hNew
    try simp only [Act.put, pz1, pz2, pz3]
    refine tk 10 ?_; try simp only [Act.put, pz1, pz2, pz3]
    refine wpAnyH_ready (rs := [11]) (by kernel_rfl) (by simp) ?_
    refine AllReadyH.cons (o := ⟨none, .store 23 (.tmp 29) (.tmp 28), 0, "ref.go:274", #[⟨10, .data⟩, ⟨9, .data⟩, ⟨9, .chain⟩, ⟨0, .phase⟩, ⟨1, .phase⟩, ⟨2, .phase⟩, ⟨3, .phase⟩, ⟨4, .phase⟩, ⟨5, .phase⟩, ⟨6, .phase⟩, ⟨7, .phase⟩, ⟨8, .phase⟩, ⟨9, .phase⟩], none⟩) rfl (fun K hK => ?_) AllReadyH.nil
    go_simp
    refine hK.out _ _ ?_ (fun hNew => ?_)
    · exact trivial
    clear hK K hHeld
    have hHeld := hNew
    clear hNew
    try simp only [Act.put, pz1, pz2, pz3]
    refine wpAnyH_done (by kernel_rfl) ?_ _
    refine NoPanic.normal ?_
    have hof2 : (Value.slice (some ⟨gb, 0, none⟩) k cn6).ownBlock ≠ some (w.heap.size + 1) := fun h => by have h2 : gb = w.heap.size + 1 := (by simpa [Value.ownBlock] using h); have := HW5.out; omega
    have B2a := (drew_blk B2u).grownR hg' hof2
    have hg1 := set1_grown w7 w.heap.size 4 (.slice A7 (k + (n - (k + 1))) c7)
    have B1w := B1a.set_ 4 (.slice A7 (k + (n - (k + 1))) c7)
    simp at B1w
    have B2w := B2a.grown hg1 (by omega)
    have hNw := (NtsW.out_ (v' := .slice A7 (k + (n - (k + 1))) c7) HLL.out hel hkl (drew_own hon) (fun k m e a c => (hnt k m e a c).below (below_dr _)) hg' ho').far hg1 (by have := HW5.out; omega)
    have hBw := (BksW.apartN (w := Wd.drew) (drew_own hBk2) honc hg').far hg1 (by have := HW5.out; omega)
    have hbw := below_grown ((drew_below hb2).trans (below_app (B := w.heap.size) (by have := HW5.out; omega) HSZ.out honc hg')) hg1 (Nat.le_refl _) (by have h1 := hb2.size; have h2 := hg'.size; simp only [World.drew] at h2; omega)
    obtain ⟨Wx, hWx⟩ : ∃ V : World, V = w7.setCell ⟨w.heap.size, 4, none⟩ (.slice A7 (k + (n - (k + 1))) c7) := ⟨_, rfl⟩
    rw [← hWx] at B1w B2w hBw hNw hbw ⊢
    clear hWx B1u B2u B1a B2a hb2 ho' hg' hg1 hof hof2 honc honr hone HSZ k4' t4' hBk2 hel hon hnt
    clear k4
    have k0 := B1w.cell_ 0
    have r0 := B2w.cell_ 0
    have t0 := B2w.free 0
    have k1 := B1w.cell_ 1
    have r1 := B2w.cell_ 1
    have t1 := B2w.free 1
    have k2 := B1w.cell_ 2
    have r2 := B2w.cell_ 2
    have t2 := B2w.free 2
    have k3 := B1w.cell_ 3
    have r3 := B2w.cell_ 3
    have t3 := B2w.free 3
    have k4 := B1w.cell_ 4
    have r4 := B2w.cell_ 4
    have t4 := B2w.free 4
    simp at k0 k1 k2 k3 k4 r0 r1 r2 r3 r4
    go_wp2_with fail
    have B2e := B2w.st5_ (.int .i64 s.nb) (.int .i64 s.nn) (.int .i64 s.ns) (.slice Ab6 s.bs.length cb6) (.slice A7 (k + (n - (k + 1))) c7)
    have hgE := st5_grown Wx (w.heap.size + 1) 0 (.int .i64 s.nb) (.int .i64 s.nn) (.int .i64 s.ns) (.slice Ab6 s.bs.length cb6) (.slice A7 (k + (n - (k + 1))) c7)
    have hBe := hBw.far hgE (by have := HW5.out; omega)
    have hNe := hNw.far hgE (by have := HW5.out; omega)
    have hbe := below_grown hbw hgE (by omega) hbw.size
    change bodyPost _ _ _ _ _ (st5 Wx (w.heap.size + 1) 0 (.int .i64 s.nb) (.int .i64 s.nn) (.int .i64 s.ns) (.slice Ab6 s.bs.length cb6) (.slice A7 (k + (n - (k + 1))) c7))
    clear hgE
    generalize st5 Wx (w.heap.size + 1) 0 (.int .i64 s.nb) (.int .i64 s.nn) (.int .i64 s.ns) (.slice Ab6 s.bs.length cb6) (.slice A7 (k + (n - (k + 1))) c7) = WF at B2e hBe hNe hbe ⊢
    apply bodyPost_ret (v := .tuple #[.agg #[.int .i64 s.nb, .int .i64 s.nn, .int .i64 s.ns, .slice Ab6 s.bs.length cb6, .slice A7 (k + (n - (k + 1))) c7], .int .i64 0])
    · exact results_cell1 Tryz.results42 _ WF (w.heap.size + 1) 25 _ (0, 0) _ rfl B2e Tryz.underlying25 rfl (by kernel_rfl)
    · rfl
    · refine ⟨_, rfl, ?_, hbe⟩
      rw [HRS.out]
      exact ShW.base_ (ShW.make (s := { s with ts := s.ts.take k ++ s.ts.drop (k + 1) }) (w := WF) (base := w4.heap.size) (vb := .slice Ab6 s.bs.length cb6) (vn := .slice A7 (k + (n - (k + 1))) c7) hBe hNe) (by have := HW5.out; omega)
  · go_simp
    refine hK.out _ _ ?_ (fun hNew => ?_)
    · exact trivial
    clear hK K hHeld
    have hHeld := hNew
    clear hNew
    try simp only [Act.put, pz1, pz2, pz3]
    refine tk 8 ?_; try simp only [Act.put, pz1, pz2, pz3]
    refine wpAnyH_ready (rs := [1]) (by kernel_rfl) (by simp) ?_
    refine AllReadyH.cons (o := ⟨some 20, .load 23 (.tmp 19), 23, "ref.go:274", #[⟨0, .data⟩], none⟩) rfl (fun K hK => ?_) AllReadyH.nil
    go_simp
    refine hK.out _ _ ?_ (fun hNew => ?_)
    · exact trivial
    clear hK K hHeld
    have hHeld := hNew
    clear hNew
    try simp only [Act.put, pz1, pz2, pz3]
    refine tk 3 ?_; try simp only [Act.put, pz1, pz2, pz3]
    refine wpAnyH_ready (rs := [9]) (by kernel_rfl) (by simp) ?_
    refine AllReadyH.cons (o := ⟨some 28, .call { callee := .builtin .append, args := #[.tmp 22, .tmp 27], argTypes := #[23, 23] }, 23, "ref.go:274", #[⟨3, .data⟩, ⟨8, .data⟩], none⟩) rfl (fun K hK => ?_) AllReadyH.nil
    obtain ⟨ti0, hi, hz0, hz1, hz2⟩ := info_parts info_clNt
    refine step_app _ rfl (.tmp 22) (.tmp 27) _ rfl w4.heap.size 46 ti0 _ 5 80 Tryz.underlying23 hi hz0 hz1 hz2 rfl (by decide) _ k (es.flatten.take (k * 5)) rfl honc _ (n - (k + 1)) _ (es.flatten.drop ((k + 1) * 5)) rfl honr hone (by unfold maxLen; omega) (by omega) HSZ.out ?_
    intro v7 w7 ho' hg' hv'
    clear hi hz0 hz1 hz2 hv'
    generalize (if cn6 = k + 1 then some (⟨gb, 0, none⟩ : Addr) else some ⟨gb, (k + 1) * 5, none⟩) = A22
    obtain ⟨A7, c7, rfl, q21, q22⟩ := own_shape ho'
    have hof : (Value.slice (some ⟨gb, 0, none⟩) k cn6).ownBlock ≠ some w.heap.size := fun h => by have h2 : gb = w.heap.size := (by simpa [Value.ownBlock] using h); have := HW5.out; omega
    have B1a := (drew_blk B1u).grownR hg' hof
    have k4' := B1a.cell_ 4
    have t4' := B1a.free 4
    simp at k4'
    refine hK.out _ _ ?_ (fun hNew => ?_)
    · exact trivial
    clear hK K hHeld
    have hHeld := hNew
    clear hNew
    try simp only [Act.put, pz1, pz2, pz3]
    refine tk 10 ?_; try simp only [Act.put, pz1, pz2, pz3]
    refine wpAnyH_ready (rs := [11]) (by kernel_rfl) (by simp) ?_
    refine AllReadyH.cons (o := ⟨none, .store 23 (.tmp 29) (.tmp 28), 0, "ref.go:274", #[⟨10, .data⟩, ⟨9, .data⟩, ⟨9, .chain⟩, ⟨0, .phase⟩, ⟨1, .phase⟩, ⟨2, .phase⟩, ⟨3, .phase⟩, ⟨4, .phase⟩, ⟨5, .phase⟩, ⟨6, .phase⟩, ⟨7, .phase⟩, ⟨8, .phase⟩, ⟨9, .phase⟩], none⟩) rfl (fun K hK => ?_) AllReadyH.nil
    go_simp
    refine hK.out _ _ ?_ (fun hNew => ?_)
    · exact trivial
    clear hK K hHeld
    have hHeld := hNew
    clear hNew
    try simp only [Act.put, pz1, pz2, pz3]
    refine wpAnyH_done (by kernel_rfl) ?_ _
    refine NoPanic.normal ?_
    have hof2 : (Value.slice (some ⟨gb, 0, none⟩) k cn6).ownBlock ≠ some (w.heap.size + 1) := fun h => by have h2 : gb = w.heap.size + 1 := (by simpa [Value.ownBlock] using h); have := HW5.out; omega
    have B2a := (drew_blk B2u).grownR hg' hof2
    have hg1 := set1_grown w7 w.heap.size 4 (.slice A7 (k + (n - (k + 1))) c7)
    have B1w := B1a.set_ 4 (.slice A7 (k + (n - (k + 1))) c7)
    simp at B1w
    have B2w := B2a.grown hg1 (by omega)
    have hNw := (NtsW.out_ (v' := .slice A7 (k + (n - (k + 1))) c7) HLL.out hel hkl (drew_own hon) (fun k m e a c => (hnt k m e a c).below (below_dr _)) hg' ho').far hg1 (by have := HW5.out; omega)
    have hBw := (BksW.apartN (w := Wd.drew) (drew_own hBk2) honc hg').far hg1 (by have := HW5.out; omega)
    have hbw := below_grown ((drew_below hb2).trans (below_app (B := w.heap.size) (by have := HW5.out; omega) HSZ.out honc hg')) hg1 (Nat.le_refl _) (by have h1 := hb2.size; have h2 := hg'.size; simp only [World.drew] at h2; omega)
    obtain ⟨Wx, hWx⟩ : ∃ V : World, V = w7.setCell ⟨w.heap.size, 4, none⟩ (.slice A7 (k + (n - (k + 1))) c7) := ⟨_, rfl⟩
    rw [← hWx] at B1w B2w hBw hNw hbw ⊢
    clear hWx B1u B2u B1a B2a hb2 ho' hg' hg1 hof hof2 honc honr hone HSZ k4' t4' hBk2 hel hon hnt
    clear k4
    have k0 := B1w.cell_ 0
    have r0 := B2w.cell_ 0
    have t0 := B2w.free 0
    have k1 := B1w.cell_ 1
    have r1 := B2w.cell_ 1
    have t1 := B2w.free 1
    have k2 := B1w.cell_ 2
    have r2 := B2w.cell_ 2
    have t2 := B2w.free 2
    have k3 := B1w.cell_ 3
    have r3 := B2w.cell_ 3
    have t3 := B2w.free 3
    have k4 := B1w.cell_ 4
    have r4 := B2w.cell_ 4
    have t4 := B2w.free 4
    simp at k0 k1 k2 k3 k4 r0 r1 r2 r3 r4
    go_wp2_with fail
    have B2e := B2w.st5_ (.int .i64 s.nb) (.int .i64 s.nn) (.int .i64 s.ns) (.slice Ab6 s.bs.length cb6) (.slice A7 (k + (n - (k + 1))) c7)
    have hgE := st5_grown Wx (w.heap.size + 1) 0 (.int .i64 s.nb) (.int .i64 s.nn) (.int .i64 s.ns) (.slice Ab6 s.bs.length cb6) (.slice A7 (k + (n - (k + 1))) c7)
    have hBe := hBw.far hgE (by have := HW5.out; omega)
    have hNe := hNw.far hgE (by have := HW5.out; omega)
    have hbe := below_grown hbw hgE (by omega) hbw.size
    change bodyPost _ _ _ _ _ (st5 Wx (w.heap.size + 1) 0 (.int .i64 s.nb) (.int .i64 s.nn) (.int .i64 s.ns) (.slice Ab6 s.bs.length cb6) (.slice A7 (k + (n - (k + 1))) c7))
    clear hgE
    generalize st5 Wx (w.heap.size + 1) 0 (.int .i64 s.nb) (.int .i64 s.nn) (.int .i64 s.ns) (.slice Ab6 s.bs.length cb6) (.slice A7 (k + (n - (k + 1))) c7) = WF at B2e hBe hNe hbe ⊢
    apply bodyPost_ret (v := .tuple #[.agg #[.int .i64 s.nb, .int .i64 s.nn, .int .i64 s.ns, .slice Ab6 s.bs.length cb6, .slice A7 (k + (n - (k + 1))) c7], .int .i64 0])
    · exact results_cell1 Tryz.results42 _ WF (w.heap.size + 1) 25 _ (0, 0) _ rfl B2e Tryz.underlying25 rfl (by kernel_rfl)
    · rfl
    · refine ⟨_, rfl, ?_, hbe⟩
      rw [HRS.out]
      exact ShW.base_ (ShW.make (s := { s with ts := s.ts.take k ++ s.ts.drop (k + 1) }) (w := WF) (base := w4.heap.size) (vb := .slice Ab6 s.bs.length cb6) (vn := .slice A7 (k + (n - (k + 1))) c7) hBe hNe) (by have := HW5.out; omega)
theorem rdrop_yes (s : Sf) (v : Value) (y : Int) (w : World) (hS : ShR w w.heap.size v s) (hz : SzF s) (hc : dropC s y = 0) :
    Calls Tryz.prog 34 #[v, .int .i64 y] w fun e' w' => ∃ v', e' = .returned (.tuple #[v', .int .i64 0]) ∧ ShW w' w.heap.size v' (dropS s y) ∧ Below w.heap.size w w' := by
  have hS0 := hS
  obtain ⟨Ab, cb, An, cn, rfl, hB, hN, hcb, hmb, hcn, hmn⟩ := hS.ex
  clear hS
  obtain ⟨HB, B1, B2, S1⟩ := pre2 hS0
  have HZ := Lib.hid hz
  clear hS0 hB hN hcb hmb hcn hmn hz
  obtain ⟨hM, hI⟩ : mayS s = true ∧ ¬ bookAt s y < 0 := by
    unfold dropC at hc
    cases h1 : mayS s <;> by_cases h2 : bookAt s y < 0 <;> rw [h1] at hc <;> simp [h2] at hc ⊢
    all_goals exact Int.not_lt.1 h2
  obtain ⟨k, b, hk, hb, hid⟩ := bookAt_get (Int.not_lt.1 hI)
  have HRS : Hid (dropS s y = { s with bs := s.bs.take k ++ s.bs.drop (k + 1), ts := s.ts.filter (fun a : Nt => !(a.bk == y)) }) := Lib.hid (by
    unfold dropS
    rw [← hid, filter_id Bk.id s.bs k b (mayF_of hM).bo hb])
  have HB1 := Lib.hid hk
  obtain ⟨n, hn⟩ : ∃ n, s.bs.length = n := ⟨_, rfl⟩
  obtain ⟨m, hm⟩ : ∃ m, s.ts.length = m := ⟨_, rfl⟩
  have hkl : k < n := by rw [← hn]; exact (List.getElem?_eq_some_iff.1 hb).1
  have hnl : n ≤ 100000 := by have := (mayF_of hM).bl; omega
  have hml : m ≤ 100000 := by have := (mayF_of hM).tl; omega
  have i0 : (0 : Int) ≤ (k : Int) := by omega
  have i1 : (k : Int) ≤ (n : Int) := by omega
  have i2 : ¬ (k : Int) < 0 := by omega
  have HKL := Lib.hid hkl
  have HLL := Lib.hid hn
  have HMM := Lib.hid hm
  clear hI hk hb hid hkl
  have hMF := mayF_of hM
  have hlb : s.bs.length ≤ 100000 := by have := hMF.bl; omega
  have hln : s.ts.length ≤ 100000 := by have := hMF.tl; omega
  have HM : Hid (rMayB s = true) := Lib.hid ((rMay_eq s).trans hM)
  have HLB := Lib.hid hlb
  have HLN := Lib.hid hln
  have HLR := Lib.hid hMF.small
  clear hM hMF hc hlb hln
  rw [hn, hm] at HB B1 S1 B2 ⊢
  clear hn hm
  go_enter Tryz.func34, Tryz.ntmps34
  go_upto_region 6 with (first | (go_at_call 11; ((with_reducible refine (rMay_any s _ _ S1 HZ.out _ HM.out).mono ?_); rintro e' w3 ⟨rfl, bx⟩; (try clear k0 k1 k2 k3 k4 r0 r1 r2 r3 r4 t0 t1 t2 t3 t4); obtain ⟨S1, B1, B2, HB, k0, k1, k2, k3, k4, r0, r1, r2, r3, r4, t0, t1, t2, t3, t4⟩ := keepR S1 B1 B2 HB bx; clear bx)) | (go_at_call 53; ((with_reducible refine (rBook_any s _ y _ S1 ⟨HZ.out.bl, HZ.out.tl⟩).mono ?_); rintro e' w4 ⟨rfl, bx⟩; (try rw [HB1.out]); (try clear k0 k1 k2 k3 k4 r0 r1 r2 r3 r4 t0 t1 t2 t3 t4); obtain ⟨S1, B1, B2, HB, k0, k1, k2, k3, k4, r0, r1, r2, r3, r4, t0, t1, t2, t3, t4⟩ := keepR S1 B1 B2 HB bx; clear bx)))
  have hW5 : w.heap.size + 2 ≤ w4.heap.size := by have := B2.lt; omega
  go_upto_region 7 with (go_at_call 8; ((with_reducible refine (rcopy_any s _ _ S1 HLB.out HLN.out HLR.out).mono ?_); rintro e' w9 ⟨v6, rfl, hQ, b6⟩; obtain ⟨Ab6, cb6, An6, cn6, rfl, hBk, hNt, q1, q2, q3, q4⟩ := hQ.parts; rw [HLL.out] at q1 hBk ⊢; rw [HMM.out] at q3 hNt ⊢; have B1 := B1.below b6 B1.lt; have B2 := B2.below b6 B2.lt; have HB := btr HB HB.size b6; have hz6 := b6.size; (try clear k0 k1 k2 k3 k4 r0 r1 r2 r3 r4 t0 t1 t2 t3 t4); have k0 := B1.cell_ 0; have t0 := B1.free 0; have k1 := B1.cell_ 1; have t1 := B1.free 1; have k2 := B1.cell_ 2; have t2 := B1.free 2; have k3 := B1.cell_ 3; have t3 := B1.free 3; have k4 := B1.cell_ 4; have t4 := B1.free 4; simp at k0 k1 k2 k3 k4; clear b6 hQ S1))
  have B1u := B1.st5_ (.int .i64 s.nb) (.int .i64 s.nn) (.int .i64 s.ns) (.slice Ab6 n cb6) (.slice An6 m cn6)
  have hg6 := st5_grown w9 w.heap.size 0 (.int .i64 s.nb) (.int .i64 s.nn) (.int .i64 s.ns) (.slice Ab6 n cb6) (.slice An6 m cn6)
  have B2u := B2.grown hg6 (by omega)
  have hBk2 := hBk.far hg6 (by omega)
  have hNt2 := hNt.far hg6 (by omega)
  have hb2 := below_grown HB hg6 (Nat.le_refl _) HB.size
  have HSZ : Hid (w4.heap.size ≤ (st5 w9 w.heap.size 0 (.int .i64 s.nb) (.int .i64 s.nn) (.int .i64 s.ns) (.slice Ab6 n cb6) (.slice An6 m cn6)).heap.size) := Lib.hid (by have := hz6; have := hg6.size; omega)
  clear hg6
  obtain ⟨Wd, hWd⟩ : ∃ V : World, V = (st5 w9 w.heap.size 0 (.int .i64 s.nb) (.int .i64 s.nn) (.int .i64 s.ns) (.slice Ab6 n cb6) (.slice An6 m cn6)) := ⟨_, rfl⟩
  change Code.wp _ _ _ _ (st5 w9 w.heap.size 0 (.int .i64 s.nb) (.int .i64 s.nn) (.int .i64 s.ns) (.slice Ab6 n cb6) (.slice An6 m cn6))
  rw [← hWd] at B1u B2u hBk2 hNt2 hb2 HSZ ⊢
  clear hWd B1 B2 HB hBk hNt k0 k1 k2 k3 k4 t0 t1 t2 t3 t4 hz6
  have HW5 := Lib.hid hW5
  have hon : Wd.ownsRow w4.heap.size 59 2 (.slice Ab6 n cb6) n (s.bs.map bkC).flatten := by
    have h := hBk2
    unfold BksW at h
    rw [HLL.out] at h
    exact h
  have hkl := HKL.out
  obtain ⟨gb, hgb, hgb2⟩ : ∃ gb, Ab6 = some ⟨gb, 0, none⟩ ∧ w4.heap.size ≤ gb := by
    rcases hon.2 with ⟨h, h0⟩ | ⟨g, c, cu, h, hb, _⟩
    · omega
    · injection h with h1 h2 h3
      exact ⟨g, h1, hb⟩
  subst hgb
  have hk1 : k + 1 ≤ n := hkl
  have j0 : (0 : Int) ≤ (k : Int) + 1 := by omega
  have j1 : (k : Int) + 1 ≤ (n : Int) := by omega
  have j2 : ((k : Int) + 1).toNat = k + 1 := by omega
  have j3 : IntKind.i64.wrap ((k : Int) + 1) = (k : Int) + 1 := wrapS _ (by omega) (by omega)
  have j4 : (k : Int) ≤ (cb6 : Int) := by omega
  have j5 : ¬ cb6 = 0 := by omega
  have honc := drew_own (own_cut (i := k) hon (by simp) (by omega))
  have honr := rd_tail (drew_own hon) hk1
  have hone : ∀ u ∈ (s.bs.map bkC).flatten.drop ((k + 1) * 2), u.oneCell' = true := fun u hu => by
    obtain ⟨e, he, hu2⟩ := List.mem_flatten.1 (List.mem_of_mem_drop hu)
    obtain ⟨x, _, rfl⟩ := List.mem_map.1 he
    exact bkC_one x u hu2
  have k3 := drew_cell (B1u.cell_ 3)
  have t3 := (drew_blk B1u).free 3
  simp at k3
  refine wp_region_noPanic ?_
  refine wp_region_held_drew (S := (fun _ => True)) (by kernel_rfl) ?_ (fun hHeld => ?_)
  · exact trivial
  refine tk 0 ?_; try simp only [Act.put, pz1, pz2, pz3]
  refine tk 2 ?_; try simp only [Act.put, pz1, pz2, pz3]
  refine tk 4 ?_; try simp only [Act.put, pz1, pz2, pz3]
  refine tk 6 ?_; try simp only [Act.put, pz1, pz2, pz3]
  refine tk 7 ?_; try simp only [Act.put, pz1, pz2, pz3]
  refine wpAnyH_ready (rs := [1, 5]) (by kernel_rfl) (by simp) ?_
  refine (AllReadyH.cons (o := ⟨some 22, .load 22 (.tmp 21), 22, "ref.go:195", #[⟨0, .data⟩], none⟩) rfl (fun K hK => ?_) (AllReadyH.cons (o := ⟨some 26, .load 22 (.tmp 25), 22, "ref.go:195", #[⟨4, .data⟩], none⟩) rfl (fun K hK => ?_) AllReadyH.nil))
  · go_simp
    refine hK.out _ _ ?_ (fun hNew => ?_)
    · exact trivial
    clear hK K hHeld
    have hHeld := hNew
    clear hNew
    try simp only [Act.put, pz1, pz2, pz3]
    refine tk 3 ?_; try simp only [Act.put, pz1, pz2, pz3]
    refine wpAnyH_ready (rs := [5]) (by kernel_rfl) (by simp) ?_
    refine AllReadyH.cons (o := ⟨some 26, .load 22 (.tmp 25), 22, "ref.go:195", #[⟨4, .data⟩], none⟩) rfl (fun K hK => ?_) AllReadyH.nil
    go_simp
    refine hK.out _ _ ?_ (fun hNew => ?_)
    · exact trivial
    clear hK K hHeld
    have hHeld := hNew
    clear hNew
    try simp only [Act.put, pz1, pz2, pz3]
    refine tk 8 ?_; try simp only [Act.put, pz1, pz2, pz3]
    refine wpAnyH_ready (rs := [9]) (by kernel_rfl) (by simp) ?_
    refine AllReadyH.cons (o := ⟨some 30, .call { callee := .builtin .append, args := #[.tmp 24, .tmp 29], argTypes := #[22, 22] }, 22, "ref.go:195", #[⟨3, .data⟩, ⟨8, .data⟩], none⟩) rfl (fun K hK => ?_) AllReadyH.nil
    obtain ⟨ti0, hi, hz0, hz1, hz2⟩ := info_parts info_clBk
    refine step_app _ rfl (.tmp 24) (.tmp 29) _ rfl w4.heap.size 59 ti0 _ 2 24 Tryz.underlying22 hi hz0 hz1 hz2 rfl (by decide) _ k ((s.bs.map bkC).flatten.take (k * 2)) rfl honc _ (n - (k + 1)) _ ((s.bs.map bkC).flatten.drop ((k + 1) * 2)) rfl honr hone (by unfold maxLen; omega) (by omega) HSZ.out ?_
    intro v7 w7 ho' hg' hv'
    clear hi hz0 hz1 hz2 hv'
    generalize (if cb6 = k + 1 then some (⟨gb, 0, none⟩ : Addr) else some ⟨gb, (k + 1) * 2, none⟩) = A22
    obtain ⟨A7, c7, rfl, q21, q22⟩ := own_shape ho'
    have hof : (Value.slice (some ⟨gb, 0, none⟩) k cb6).ownBlock ≠ some w.heap.size := fun h => by have h2 : gb = w.heap.size := (by simpa [Value.ownBlock] using h); have := HW5.out; omega
    have B1a := (drew_blk B1u).grownR hg' hof
    have k3' := B1a.cell_ 3
    have t3' := B1a.free 3
    simp at k3'
    refine hK.out _ _ ?_ (fun hNew => ?_)
    · exact trivial
    clear hK K hHeld
    have hHeld := hNew
    clear hNew
    try simp only [Act.put, pz1, pz2, pz3]
    refine tk 10 ?_; try simp only [Act.put, pz1, pz2, pz3]
    refine wpAnyH_ready (rs := [11]) (by kernel_rfl) (by simp) ?_
    refine AllReadyH.cons (o := ⟨none, .store 22 (.tmp 31) (.tmp 30), 0, "ref.go:195", #[⟨10, .data⟩, ⟨9, .data⟩, ⟨9, .chain⟩, ⟨0, .phase⟩, ⟨1, .phase⟩, ⟨2, .phase⟩, ⟨3, .phase⟩, ⟨4, .phase⟩, ⟨5, .phase⟩, ⟨6, .phase⟩, ⟨7, .phase⟩, ⟨8, .phase⟩, ⟨9, .phase⟩], none⟩) rfl (fun K hK => ?_) AllReadyH.nil
    go_simp
    refine hK.out _ _ ?_ (fun hNew => ?_)
    · exact trivial
    clear hK K hHeld
    have hHeld := hNew
    clear hNew
    try simp only [Act.put, pz1, pz2, pz3]
    refine wpAnyH_done (by kernel_rfl) ?_ _
    refine NoPanic.normal ?_
    have hof2 : (Value.slice (some ⟨gb, 0, none⟩) k cb6).ownBlock ≠ some (w.heap.size + 1) := fun h => by have h2 : gb = w.heap.size + 1 := (by simpa [Value.ownBlock] using h); have := HW5.out; omega
    have B2a := (drew_blk B2u).grownR hg' hof2
    have hg1 := set1_grown w7 w.heap.size 3 (.slice A7 (k + (n - (k + 1))) c7)
    have B1w := B1a.set_ 3 (.slice A7 (k + (n - (k + 1))) c7)
    simp at B1w
    have B2w := B2a.grown hg1 (by omega)
    have hBw := (BksW.out_ (v := .slice A7 (k + (n - (k + 1))) c7) HLL.out hkl ho').far hg1 (by have := HW5.out; omega)
    have hNw := (hNt2.drew_.apart honc hg').far hg1 (by have := HW5.out; omega)
    have hbw := below_grown ((drew_below hb2).trans (below_app (B := w.heap.size) (by have := HW5.out; omega) HSZ.out honc hg')) hg1 (Nat.le_refl _) (by have h1 := hb2.size; have h2 := hg'.size; simp only [World.drew] at h2; omega)
    obtain ⟨Wx, hWx⟩ : ∃ V : World, V = w7.setCell ⟨w.heap.size, 3, none⟩ (.slice A7 (k + (n - (k + 1))) c7) := ⟨_, rfl⟩
    have HSL : Hid (w4.heap.size ≤ (w7.setCell ⟨w.heap.size, 3, none⟩ (.slice A7 (k + (n - (k + 1))) c7)).heap.size) := Lib.hid (by have h1 := HSZ.out; have h2 := hg'.size; have h3 := hg1.size; simp only [World.drew] at h2; omega)
    rw [← hWx] at B1w B2w hBw hNw hbw HSL ⊢
    clear hWx B1u B2u B1a B2a hb2 ho' hg' hg1 hof hof2 honc honr hone HSZ k3' t3' hNt2 hon
    obtain ⟨es, hel, hon2, hnt⟩ := hNw
    rw [HMM.out] at hel hon2
    have h5 : ∀ x ∈ es, x.length = 5 := es_five (hel.trans HMM.out.symm) hnt
    have kb := B1w.cell_ 4
    simp at kb
    clear k3
    go_wp2_with fail
    go_loopw [7, 8] (fun sv iv wr => ∃ k2 : Nat, k2 ≤ m ∧ iv = .int .i64 k2 ∧ Hid (NtsB wr w4.heap.size Wx.heap.size sv ((s.ts.take k2).filter (fun a : Nt => !(a.bk == y)))) ∧ Below Wx.heap.size Wx wr) (fun _ iv _ => m - (intOf iv).toNat)
    case atStart => exact ⟨0, by omega, rfl, Lib.hid (NtsB.nil _ _ _), Below.refl _ _⟩
    case round =>
      clear kb
      obtain ⟨k2, hk2, rfl, HR, HBr⟩ := hrel
      have B1r := B1w.below HBr B1w.lt
      have kb := B1r.cell_ 4
      simp at kb
      have i3 : (0 : Int) ≤ (k2 : Int) := by omega
      by_cases hlt : k2 < m
      · have i4 : (k2 : Int) < (m : Int) := by omega
        obtain ⟨a, ha⟩ : ∃ a, s.ts[k2]? = some a := ⟨_, List.getElem?_eq_getElem (by rw [HMM.out]; exact hlt)⟩
        obtain ⟨e0, he⟩ : ∃ e, es[k2]? = some e := ⟨_, List.getElem?_eq_getElem (by omega)⟩
        obtain ⟨vt, vs, rfl, o1, o2⟩ := hnt k2 a e0 ha he
        obtain ⟨At, ct, rfl, q31, q32⟩ := own_shape o1
        obtain ⟨As, cs, rfl, q33, q34⟩ := own_shape o2
        obtain ⟨gn, hgn⟩ : ∃ gn, An6 = some ⟨gn, 0, none⟩ := by
          rcases hon2.2 with ⟨h, h0⟩ | ⟨g, c, cu, h, hb, _⟩
          · omega
          · injection h with h1 h2 h3
            exact ⟨g, h1⟩
        subst hgn
        have l1 := (World.ownsRow.lt hon2 gn rfl).2
        have y0 : wr.cell? ⟨gn, k2 * 5, none⟩ = some (.int .i64 a.id) := (HBr.cell (p := ⟨gn, _, none⟩) l1).trans (own_cellE hon2 h5 he (j := 0) rfl)
        have y1 : wr.cell? ⟨gn, k2 * 5 + 1, none⟩ = some (.int .i64 a.bk) := (HBr.cell (p := ⟨gn, _, none⟩) l1).trans (own_cellE hon2 h5 he (j := 1) rfl)
        have y2 : wr.cell? ⟨gn, k2 * 5 + 2, none⟩ = some (.string a.nm) := (HBr.cell (p := ⟨gn, _, none⟩) l1).trans (own_cellE hon2 h5 he (j := 2) rfl)
        have y3 : wr.cell? ⟨gn, k2 * 5 + 3, none⟩ = some (.slice At a.tg.length ct) := (HBr.cell (p := ⟨gn, _, none⟩) l1).trans (own_cellE hon2 h5 he (j := 3) rfl)
        have y4 : wr.cell? ⟨gn, k2 * 5 + 4, none⟩ = some (.slice As a.sh.length cs) := (HBr.cell (p := ⟨gn, _, none⟩) l1).trans (own_cellE hon2 h5 he (j := 4) rfl)
        have HA := Lib.hid ha
        have hW : Hid (NtW wr w4.heap.size a (ntC a (.slice At a.tg.length ct) (.slice As a.sh.length cs))) := Lib.hid (NtW.below (w := Wx) ⟨_, _, rfl, o1, o2⟩ HBr)
        clear ha he o1 o2
        rcases (by cases hq : (a.bk == y) <;> simp : (a.bk == y) = true ∨ (a.bk == y) = false) with hp | hp
        · have HP := Lib.hid hp
          go_wp2_with fail
          go_roundw
          case rel => exact ⟨k2 + 1, by omega, by go_num, Lib.hid (by rw [filter_no HA.out (show (fun a : Nt => !(a.bk == y)) a = false by simp [HP.out])]; exact HR.out), HBr⟩
          case measure => simp [intOf]; omega
        · have HP := Lib.hid hp
          obtain ⟨L, hL⟩ : ∃ L, (s.ts.take k2).filter (fun a : Nt => !(a.bk == y)) = L := ⟨_, rfl⟩
          rw [hL] at HR
          have HLN : Hid ((s.ts.take (k2 + 1)).filter (fun a : Nt => !(a.bk == y)) = L ++ [a]) := Lib.hid (by rw [filter_yes HA.out (show (fun a : Nt => !(a.bk == y)) a = true by simp [HP.out]), hL])
          have hLl : L.length ≤ k2 := by rw [← hL]; exact Nat.le_trans (List.length_filter_le _ _) (by rw [List.length_take]; omega)
          obtain ⟨es3, hel3, hon3, hnt3⟩ := HR.out
          have hbs := HBr.size
          clear hL HR
          go_wp2_with (at_builtin; obtain ⟨ti0, hi, hz0, hz1, hz2⟩ := info_parts info_clNt; refine wpList_app _ rfl (.tmp 47) (.tmp 53) _ rfl Wx.heap.size 46 ti0 _ 5 80 Tryz.underlying23 hi hz0 hz1 hz2 rfl (by decide) _ L.length es3.flatten rfl (hon3.alloc _) _ 1 _ (ntC a (.slice At a.tg.length ct) (.slice As a.sh.length cs)) rfl (rd_newE _ _ _ _ _ _ (by simp)) (by simp [ntC, Value.oneCell']) (by unfold maxLen; omega) (by omega) (by simp; omega) ?_; intro v' w5 ho' hg' hv'; clear hi hz0 hz1 hz2 hv')
          have HR2 := NtsB.snoc (w := wr.alloc (.cells (ntC a (.slice At a.tg.length ct) (.slice As a.sh.length cs)).toArray 46)) hel3 (hon3.alloc _) (fun j b e c d => (hnt3 j b e c d).below ((Below.refl _ wr).alloc (Nat.le_refl _) _)) (hW.out.below ((Below.refl _ wr).alloc (Nat.le_refl _) _)) hg' ho'
          have HF : Below Wx.heap.size Wx w5 := (HBr.alloc hbs _).trans (below_app (Nat.le_refl _) (by simp; omega) (hon3.alloc _) hg')
          clear ho' hg' hon3 hnt3
          go_roundw
          case rel => exact ⟨k2 + 1, by omega, by go_num, Lib.hid (by rw [HLN.out]; exact HR2), HF⟩
          case measure => simp [intOf]; omega
      · have hjn : k2 = m := by omega
        subst hjn
        have hall := HR.out
        rw [List.take_of_length_le (by rw [HMM.out]; exact Nat.le_refl _)] at hall
        obtain ⟨T, hT2⟩ : ∃ T, s.ts.filter (fun a : Nt => !(a.bk == y)) = T := ⟨_, rfl⟩
        rw [hT2] at hall
        have HTT := Lib.hid hT2
        obtain ⟨es9, h8, h9, h10⟩ := hall
        obtain ⟨A9, c9, rfl, -, -⟩ := own_shape h9
        have hall : NtsB wr w4.heap.size Wx.heap.size (.slice A9 T.length c9) T := ⟨es9, h8, h9, h10⟩
        have B2r := B2w.below HBr B2w.lt
        have hBr2 := hBw.below HBr
        have hbr := btr hbw hbw.size HBr
        have t4 := B1r.free 4
        have hsz := HBr.size
        have hlb := B2w.lt
        clear hT2 HR hon2 hnt
        go_upto_region 15 with fail
        have hg3 := set1_grown wr w.heap.size 4 (.slice A9 T.length c9)
        have B1z := B1r.set_ 4 (.slice A9 T.length c9)
        simp at B1z
        have B2z := B2r.grown hg3 (by omega)
        have hBz := hBr2.far hg3 (by have := HW5.out; omega)
        have hNz := (hall.toW (by have := HSL.out; omega)).far hg3 (by have := HW5.out; omega)
        have hbz := below_grown hbr hg3 (Nat.le_refl _) hbr.size
        obtain ⟨Wz, hWz⟩ : ∃ V : World, V = wr.setCell ⟨w.heap.size, 4, none⟩ (.slice A9 T.length c9) := ⟨_, rfl⟩
        rw [← hWz] at B1z B2z hBz hNz hbz ⊢
        clear hWz B1r B2r hBr2 hbr hall hg3 kb t4 B1w B2w hBw hbw HBr
        have k0 := B1z.cell_ 0
        have r0 := B2z.cell_ 0
        have t0 := B2z.free 0
        have k1 := B1z.cell_ 1
        have r1 := B2z.cell_ 1
        have t1 := B2z.free 1
        have k2 := B1z.cell_ 2
        have r2 := B2z.cell_ 2
        have t2 := B2z.free 2
        have k3 := B1z.cell_ 3
        have r3 := B2z.cell_ 3
        have t3 := B2z.free 3
        have k4 := B1z.cell_ 4
        have r4 := B2z.cell_ 4
        have t4 := B2z.free 4
        simp at k0 k1 k2 k3 k4 r0 r1 r2 r3 r4
        go_wp2_with fail
        have B2e := B2z.st5_ (.int .i64 s.nb) (.int .i64 s.nn) (.int .i64 s.ns) (.slice A7 (k + (n - (k + 1))) c7) (.slice A9 T.length c9)
        have hgE := st5_grown Wz (w.heap.size + 1) 0 (.int .i64 s.nb) (.int .i64 s.nn) (.int .i64 s.ns) (.slice A7 (k + (n - (k + 1))) c7) (.slice A9 T.length c9)
        have hBe := hBz.far hgE (by have := HW5.out; omega)
        have hNe := hNz.far hgE (by have := HW5.out; omega)
        have hbe := below_grown hbz hgE (by omega) hbz.size
        change bodyPost _ _ _ _ _ (st5 Wz (w.heap.size + 1) 0 (.int .i64 s.nb) (.int .i64 s.nn) (.int .i64 s.ns) (.slice A7 (k + (n - (k + 1))) c7) (.slice A9 T.length c9))
        clear hgE
        generalize st5 Wz (w.heap.size + 1) 0 (.int .i64 s.nb) (.int .i64 s.nn) (.int .i64 s.ns) (.slice A7 (k + (n - (k + 1))) c7) (.slice A9 T.length c9) = WF at B2e hBe hNe hbe ⊢
        apply bodyPost_ret (v := .tuple #[.agg #[.int .i64 s.nb, .int .i64 s.nn, .int .i64 s.ns, .slice A7 (k + (n - (k + 1))) c7, .slice A9 T.length c9], .int .i64 0])
        · exact results_cell1 Tryz.results34 _ WF (w.heap.size + 1) 25 _ (0, 0) _ rfl B2e Tryz.underlying25 rfl (by kernel_rfl)
        · rfl
        · refine ⟨_, rfl, ?_, hbe⟩
          rw [HRS.out]
          exact ShW.base_ (ShW.make (s := { s with bs := s.bs.take k ++ s.bs.drop (k + 1), ts := s.ts.filter (fun a : Nt => !(a.bk == y)) }) (w := WF) (base := w4.heap.size) (vb := .slice A7 (k + (n - (k + 1))) c7) (vn := .slice A9 T.length c9) hBe (by show NtsW _ _ _ (s.ts.filter (fun a : Nt => !(a.bk == y))); rw [HTT.out]; exact hNe)) (by have := HW5.out; omega)
  · go_simp
    refine hK.out _ _ ?_ (fun hNew => ?_)
    · exact trivial
    clear hK K hHeld
    have hHeld := hNew
    clear hNew
    try simp only [Act.put, pz1, pz2, pz3]
    refine tk 8 ?_; try simp only [Act.put, pz1, pz2, pz3]
    refine wpAnyH_ready (rs := [1]) (by kernel_rfl) (by simp) ?_
    refine AllReadyH.cons (o := ⟨some 22, .load 22 (.tmp 21), 22, "ref.go:195", #[⟨0, .data⟩], none⟩) rfl (fun K hK => ?_) AllReadyH.nil
    go_simp
    refine hK.out _ _ ?_ (fun hNew => ?_)
    · exact trivial
    clear hK K hHeld
    have hHeld := hNew
    clear hNew
    try simp only [Act.put, pz1, pz2, pz3]
    refine tk 3 ?_; try simp only [Act.put, pz1, pz2, pz3]
    refine wpAnyH_ready (rs := [9]) (by kernel_rfl) (by simp) ?_
    refine AllReadyH.cons (o := ⟨some 30, .call { callee := .builtin .append, args := #[.tmp 24, .tmp 29], argTypes := #[22, 22] }, 22, "ref.go:195", #[⟨3, .data⟩, ⟨8, .data⟩], none⟩) rfl (fun K hK => ?_) AllReadyH.nil
    obtain ⟨ti0, hi, hz0, hz1, hz2⟩ := info_parts info_clBk
    refine step_app _ rfl (.tmp 24) (.tmp 29) _ rfl w4.heap.size 59 ti0 _ 2 24 Tryz.underlying22 hi hz0 hz1 hz2 rfl (by decide) _ k ((s.bs.map bkC).flatten.take (k * 2)) rfl honc _ (n - (k + 1)) _ ((s.bs.map bkC).flatten.drop ((k + 1) * 2)) rfl honr hone (by unfold maxLen; omega) (by omega) HSZ.out ?_
    intro v7 w7 ho' hg' hv'
    clear hi hz0 hz1 hz2 hv'
    generalize (if cb6 = k + 1 then some (⟨gb, 0, none⟩ : Addr) else some ⟨gb, (k + 1) * 2, none⟩) = A22
    obtain ⟨A7, c7, rfl, q21, q22⟩ := own_shape ho'
    have hof : (Value.slice (some ⟨gb, 0, none⟩) k cb6).ownBlock ≠ some w.heap.size := fun h => by have h2 : gb = w.heap.size := (by simpa [Value.ownBlock] using h); have := HW5.out; omega
    have B1a := (drew_blk B1u).grownR hg' hof
    have k3' := B1a.cell_ 3
    have t3' := B1a.free 3
    simp at k3'
    refine hK.out _ _ ?_ (fun hNew => ?_)
    · exact trivial
    clear hK K hHeld
    have hHeld := hNew
    clear hNew
    try simp only [Act.put, pz1, pz2, pz3]
    refine tk 10 ?_; try simp only [Act.put, pz1, pz2, pz3]
    refine wpAnyH_ready (rs := [11]) (by kernel_rfl) (by simp) ?_
    refine AllReadyH.cons (o := ⟨none, .store 22 (.tmp 31) (.tmp 30), 0, "ref.go:195", #[⟨10, .data⟩, ⟨9, .data⟩, ⟨9, .chain⟩, ⟨0, .phase⟩, ⟨1, .phase⟩, ⟨2, .phase⟩, ⟨3, .phase⟩, ⟨4, .phase⟩, ⟨5, .phase⟩, ⟨6, .phase⟩, ⟨7, .phase⟩, ⟨8, .phase⟩, ⟨9, .phase⟩], none⟩) rfl (fun K hK => ?_) AllReadyH.nil
    go_simp
    refine hK.out _ _ ?_ (fun hNew => ?_)
    · exact trivial
    clear hK K hHeld
    have hHeld := hNew
    clear hNew
    try simp only [Act.put, pz1, pz2, pz3]
    refine wpAnyH_done (by kernel_rfl) ?_ _
    refine NoPanic.normal ?_
    have hof2 : (Value.slice (some ⟨gb, 0, none⟩) k cb6).ownBlock ≠ some (w.heap.size + 1) := fun h => by have h2 : gb = w.heap.size + 1 := (by simpa [Value.ownBlock] using h); have := HW5.out; omega
    have B2a := (drew_blk B2u).grownR hg' hof2
    have hg1 := set1_grown w7 w.heap.size 3 (.slice A7 (k + (n - (k + 1))) c7)
    have B1w := B1a.set_ 3 (.slice A7 (k + (n - (k + 1))) c7)
    simp at B1w
    have B2w := B2a.grown hg1 (by omega)
    have hBw := (BksW.out_ (v := .slice A7 (k + (n - (k + 1))) c7) HLL.out hkl ho').far hg1 (by have := HW5.out; omega)
    have hNw := (hNt2.drew_.apart honc hg').far hg1 (by have := HW5.out; omega)
    have hbw := below_grown ((drew_below hb2).trans (below_app (B := w.heap.size) (by have := HW5.out; omega) HSZ.out honc hg')) hg1 (Nat.le_refl _) (by have h1 := hb2.size; have h2 := hg'.size; simp only [World.drew] at h2; omega)
    obtain ⟨Wx, hWx⟩ : ∃ V : World, V = w7.setCell ⟨w.heap.size, 3, none⟩ (.slice A7 (k + (n - (k + 1))) c7) := ⟨_, rfl⟩
    have HSL : Hid (w4.heap.size ≤ (w7.setCell ⟨w.heap.size, 3, none⟩ (.slice A7 (k + (n - (k + 1))) c7)).heap.size) := Lib.hid (by have h1 := HSZ.out; have h2 := hg'.size; have h3 := hg1.size; simp only [World.drew] at h2; omega)
    rw [← hWx] at B1w B2w hBw hNw hbw HSL ⊢
    clear hWx B1u B2u B1a B2a hb2 ho' hg' hg1 hof hof2 honc honr hone HSZ k3' t3' hNt2 hon
    obtain ⟨es, hel, hon2, hnt⟩ := hNw
    rw [HMM.out] at hel hon2
    have h5 : ∀ x ∈ es, x.length = 5 := es_five (hel.trans HMM.out.symm) hnt
    have kb := B1w.cell_ 4
    simp at kb
    clear k3
    go_wp2_with fail
    go_loopw [7, 8] (fun sv iv wr => ∃ k2 : Nat, k2 ≤ m ∧ iv = .int .i64 k2 ∧ Hid (NtsB wr w4.heap.size Wx.heap.size sv ((s.ts.take k2).filter (fun a : Nt => !(a.bk == y)))) ∧ Below Wx.heap.size Wx wr) (fun _ iv _ => m - (intOf iv).toNat)
    case atStart => exact ⟨0, by omega, rfl, Lib.hid (NtsB.nil _ _ _), Below.refl _ _⟩
    case round =>
      clear kb
      obtain ⟨k2, hk2, rfl, HR, HBr⟩ := hrel
      have B1r := B1w.below HBr B1w.lt
      have kb := B1r.cell_ 4
      simp at kb
      have i3 : (0 : Int) ≤ (k2 : Int) := by omega
      by_cases hlt : k2 < m
      · have i4 : (k2 : Int) < (m : Int) := by omega
        obtain ⟨a, ha⟩ : ∃ a, s.ts[k2]? = some a := ⟨_, List.getElem?_eq_getElem (by rw [HMM.out]; exact hlt)⟩
        obtain ⟨e0, he⟩ : ∃ e, es[k2]? = some e := ⟨_, List.getElem?_eq_getElem (by omega)⟩
        obtain ⟨vt, vs, rfl, o1, o2⟩ := hnt k2 a e0 ha he
        obtain ⟨At, ct, rfl, q31, q32⟩ := own_shape o1
        obtain ⟨As, cs, rfl, q33, q34⟩ := own_shape o2
        obtain ⟨gn, hgn⟩ : ∃ gn, An6 = some ⟨gn, 0, none⟩ := by
          rcases hon2.2 with ⟨h, h0⟩ | ⟨g, c, cu, h, hb, _⟩
          · omega
          · injection h with h1 h2 h3
            exact ⟨g, h1⟩
        subst hgn
        have l1 := (World.ownsRow.lt hon2 gn rfl).2
        have y0 : wr.cell? ⟨gn, k2 * 5, none⟩ = some (.int .i64 a.id) := (HBr.cell (p := ⟨gn, _, none⟩) l1).trans (own_cellE hon2 h5 he (j := 0) rfl)
        have y1 : wr.cell? ⟨gn, k2 * 5 + 1, none⟩ = some (.int .i64 a.bk) := (HBr.cell (p := ⟨gn, _, none⟩) l1).trans (own_cellE hon2 h5 he (j := 1) rfl)
        have y2 : wr.cell? ⟨gn, k2 * 5 + 2, none⟩ = some (.string a.nm) := (HBr.cell (p := ⟨gn, _, none⟩) l1).trans (own_cellE hon2 h5 he (j := 2) rfl)
        have y3 : wr.cell? ⟨gn, k2 * 5 + 3, none⟩ = some (.slice At a.tg.length ct) := (HBr.cell (p := ⟨gn, _, none⟩) l1).trans (own_cellE hon2 h5 he (j := 3) rfl)
        have y4 : wr.cell? ⟨gn, k2 * 5 + 4, none⟩ = some (.slice As a.sh.length cs) := (HBr.cell (p := ⟨gn, _, none⟩) l1).trans (own_cellE hon2 h5 he (j := 4) rfl)
        have HA := Lib.hid ha
        have hW : Hid (NtW wr w4.heap.size a (ntC a (.slice At a.tg.length ct) (.slice As a.sh.length cs))) := Lib.hid (NtW.below (w := Wx) ⟨_, _, rfl, o1, o2⟩ HBr)
        clear ha he o1 o2
        rcases (by cases hq : (a.bk == y) <;> simp : (a.bk == y) = true ∨ (a.bk == y) = false) with hp | hp
        · have HP := Lib.hid hp
          go_wp2_with fail
          go_roundw
          case rel => exact ⟨k2 + 1, by omega, by go_num, Lib.hid (by rw [filter_no HA.out (show (fun a : Nt => !(a.bk == y)) a = false by simp [HP.out])]; exact HR.out), HBr⟩
          case measure => simp [intOf]; omega
        · have HP := Lib.hid hp
          obtain ⟨L, hL⟩ : ∃ L, (s.ts.take k2).filter (fun a : Nt => !(a.bk == y)) = L := ⟨_, rfl⟩
          rw [hL] at HR
          have HLN : Hid ((s.ts.take (k2 + 1)).filter (fun a : Nt => !(a.bk == y)) = L ++ [a]) := Lib.hid (by rw [filter_yes HA.out (show (fun a : Nt => !(a.bk == y)) a = true by simp [HP.out]), hL])
          have hLl : L.length ≤ k2 := by rw [← hL]; exact Nat.le_trans (List.length_filter_le _ _) (by rw [List.length_take]; omega)
          obtain ⟨es3, hel3, hon3, hnt3⟩ := HR.out
          have hbs := HBr.size
          clear hL HR
          go_wp2_with (at_builtin; obtain ⟨ti0, hi, hz0, hz1, hz2⟩ := info_parts info_clNt; refine wpList_app _ rfl (.tmp 47) (.tmp 53) _ rfl Wx.heap.size 46 ti0 _ 5 80 Tryz.underlying23 hi hz0 hz1 hz2 rfl (by decide) _ L.length es3.flatten rfl (hon3.alloc _) _ 1 _ (ntC a (.slice At a.tg.length ct) (.slice As a.sh.length cs)) rfl (rd_newE _ _ _ _ _ _ (by simp)) (by simp [ntC, Value.oneCell']) (by unfold maxLen; omega) (by omega) (by simp; omega) ?_; intro v' w5 ho' hg' hv'; clear hi hz0 hz1 hz2 hv')
          have HR2 := NtsB.snoc (w := wr.alloc (.cells (ntC a (.slice At a.tg.length ct) (.slice As a.sh.length cs)).toArray 46)) hel3 (hon3.alloc _) (fun j b e c d => (hnt3 j b e c d).below ((Below.refl _ wr).alloc (Nat.le_refl _) _)) (hW.out.below ((Below.refl _ wr).alloc (Nat.le_refl _) _)) hg' ho'
          have HF : Below Wx.heap.size Wx w5 := (HBr.alloc hbs _).trans (below_app (Nat.le_refl _) (by simp; omega) (hon3.alloc _) hg')
          clear ho' hg' hon3 hnt3
          go_roundw
          case rel => exact ⟨k2 + 1, by omega, by go_num, Lib.hid (by rw [HLN.out]; exact HR2), HF⟩
          case measure => simp [intOf]; omega
      · have hjn : k2 = m := by omega
        subst hjn
        have hall := HR.out
        rw [List.take_of_length_le (by rw [HMM.out]; exact Nat.le_refl _)] at hall
        obtain ⟨T, hT2⟩ : ∃ T, s.ts.filter (fun a : Nt => !(a.bk == y)) = T := ⟨_, rfl⟩
        rw [hT2] at hall
        have HTT := Lib.hid hT2
        obtain ⟨es9, h8, h9, h10⟩ := hall
        obtain ⟨A9, c9, rfl, -, -⟩ := own_shape h9
        have hall : NtsB wr w4.heap.size Wx.heap.size (.slice A9 T.length c9) T := ⟨es9, h8, h9, h10⟩
        have B2r := B2w.below HBr B2w.lt
        have hBr2 := hBw.below HBr
        have hbr := btr hbw hbw.size HBr
        have t4 := B1r.free 4
        have hsz := HBr.size
        have hlb := B2w.lt
        clear hT2 HR hon2 hnt
        go_upto_region 15 with fail
        have hg3 := set1_grown wr w.heap.size 4 (.slice A9 T.length c9)
        have B1z := B1r.set_ 4 (.slice A9 T.length c9)
        simp at B1z
        have B2z := B2r.grown hg3 (by omega)
        have hBz := hBr2.far hg3 (by have := HW5.out; omega)
        have hNz := (hall.toW (by have := HSL.out; omega)).far hg3 (by have := HW5.out; omega)
        have hbz := below_grown hbr hg3 (Nat.le_refl _) hbr.size
        obtain ⟨Wz, hWz⟩ : ∃ V : World, V = wr.setCell ⟨w.heap.size, 4, none⟩ (.slice A9 T.length c9) := ⟨_, rfl⟩
        rw [← hWz] at B1z B2z hBz hNz hbz ⊢
        clear hWz B1r B2r hBr2 hbr hall hg3 kb t4 B1w B2w hBw hbw HBr
        have k0 := B1z.cell_ 0
        have r0 := B2z.cell_ 0
        have t0 := B2z.free 0
        have k1 := B1z.cell_ 1
        have r1 := B2z.cell_ 1
        have t1 := B2z.free 1
        have k2 := B1z.cell_ 2
        have r2 := B2z.cell_ 2
        have t2 := B2z.free 2
        have k3 := B1z.cell_ 3
        have r3 := B2z.cell_ 3
        have t3 := B2z.free 3
        have k4 := B1z.cell_ 4
        have r4 := B2z.cell_ 4
        have t4 := B2z.free 4
        simp at k0 k1 k2 k3 k4 r0 r1 r2 r3 r4
        go_wp2_with fail
        have B2e := B2z.st5_ (.int .i64 s.nb) (.int .i64 s.nn) (.int .i64 s.ns) (.slice A7 (k + (n - (k + 1))) c7) (.slice A9 T.length c9)
        have hgE := st5_grown Wz (w.heap.size + 1) 0 (.int .i64 s.nb) (.int .i64 s.nn) (.int .i64 s.ns) (.slice A7 (k + (n - (k + 1))) c7) (.slice A9 T.length c9)
        have hBe := hBz.far hgE (by have := HW5.out; omega)
        have hNe := hNz.far hgE (by have := HW5.out; omega)
        have hbe := below_grown hbz hgE (by omega) hbz.size
        change bodyPost _ _ _ _ _ (st5 Wz (w.heap.size + 1) 0 (.int .i64 s.nb) (.int .i64 s.nn) (.int .i64 s.ns) (.slice A7 (k + (n - (k + 1))) c7) (.slice A9 T.length c9))
        clear hgE
        generalize st5 Wz (w.heap.size + 1) 0 (.int .i64 s.nb) (.int .i64 s.nn) (.int .i64 s.ns) (.slice A7 (k + (n - (k + 1))) c7) (.slice A9 T.length c9) = WF at B2e hBe hNe hbe ⊢
        apply bodyPost_ret (v := .tuple #[.agg #[.int .i64 s.nb, .int .i64 s.nn, .int .i64 s.ns, .slice A7 (k + (n - (k + 1))) c7, .slice A9 T.length c9], .int .i64 0])
        · exact results_cell1 Tryz.results34 _ WF (w.heap.size + 1) 25 _ (0, 0) _ rfl B2e Tryz.underlying25 rfl (by kernel_rfl)
        · rfl
        · refine ⟨_, rfl, ?_, hbe⟩
          rw [HRS.out]
          exact ShW.base_ (ShW.make (s := { s with bs := s.bs.take k ++ s.bs.drop (k + 1), ts := s.ts.filter (fun a : Nt => !(a.bk == y)) }) (w := WF) (base := w4.heap.size) (vb := .slice A7 (k + (n - (k + 1))) c7) (vn := .slice A9 T.length c9) hBe (by show NtsW _ _ _ (s.ts.filter (fun a : Nt => !(a.bk == y))); rw [HTT.out]; exact hNe)) (by have := HW5.out; omega)
end Go.Proofs.YtokhapafpjejaaaGreatDoor
namespace Go.Proofs.YtokhapafpjejaaaGreatDoor
open Go.ChangeShapes Go.WideShapes Go.ChangeAt Go.RowKit
attribute [local go_sem ↓] Go.wp_at_zero Go.wp_at_succ
structure Ac where
  d : Int
  a : Int
  b : Int
  nm : ByteArray
def zeroSf : Sf := ⟨0, 0, 0, [], []⟩
def actC (s : Sf) (x : Ac) : Int := if x.d = 0 then makeC s x.nm else if x.d = 1 then renC s x.a x.nm else if x.d = 2 then dropC s x.a else if x.d = 3 then noteC s x.a x.nm else if x.d = 4 then retC s x.a x.nm else if x.d = 5 then movC s x.a x.b else if x.d = 6 then discC s x.a else 8
def actS (s : Sf) (x : Ac) : Sf := if x.d = 0 then makeS s x.nm else if x.d = 1 then renS s x.a x.nm else if x.d = 2 then dropS s x.a else if x.d = 3 then noteS s x.a x.nm else if x.d = 4 then retS s x.a x.nm else if x.d = 5 then movS s x.a x.b else discS s x.a
def resS (s : Sf) (x : Ac) : Sf := cond (actC s x == 0) (actS s x) zeroSf
structure NxF (s t : Sf) : Prop where
  may : MayF t
  nb : s.nb ≤ t.nb
  nn : s.nn ≤ t.nn
  ns : t.ns = s.ns
  bs : t.bs.length > s.bs.length → ∃ b, t.bs = s.bs ++ [b] ∧ b.id = s.nb ∧ t.nb = s.nb + 1
  ts : t.ts.length > s.ts.length → ∃ b, t.ts = s.ts ++ [b] ∧ b.id = s.nn ∧ t.nn = s.nn + 1
structure NtF (s : Sf) (z : Int) (x : ByteArray) : Prop where
  may : MayF s
  bk : ∃ b ∈ s.bs, b.id = z
  nm : mayN x = true
  tk : noteTk s z x 0 = false
  tl : s.ts.length < 12
  nn : s.nn < 65536
theorem ntF_of {s : Sf} {z : Int} {x : ByteArray} (hc : noteC s z x = 0) : NtF s z x := by
  have : mayS s = true ∧ ¬ bookAt s z < 0 ∧ mayN x = true ∧ noteTk s z x 0 = false ∧ fullN s = false := by
    unfold noteC at hc
    cases h1 : mayS s <;> by_cases h2 : bookAt s z < 0 <;> cases h3 : mayN x <;> cases h4 : noteTk s z x 0 <;> cases h5 : fullN s <;> rw [h1] at hc <;> simp [h2, h3, h4, h5] at hc ⊢
    all_goals exact Int.not_lt.1 h2
  obtain ⟨h1, h2, h3, h4, h5⟩ := this
  unfold fullN at h5
  rw [Bool.or_eq_false_iff, decide_eq_false_iff_not, decide_eq_false_iff_not] at h5
  exact ⟨mayF_of h1, (book_is _).1 (Int.not_lt.1 h2), h3, h4, by omega, by omega⟩
theorem mayTg_nil : mayTg [] = true := rfl
theorem NtF.may2 {s : Sf} {z : Int} {x : ByteArray} (h : NtF s z x) : MayF (noteS s z x) := by
  have hF := h.may
  have hnn := hF.nn
  have hone : ∀ b ∈ s.ts, 0 < b.id ∧ b.id ≤ s.nn - 1 := fun b hb => ⟨(hF.ts b hb).1, (hF.ts b hb).2.1⟩
  have hno : ∀ b ∈ s.ts, b.bk = z → b.nm.toList ≠ x.toList := fun b hb hz he => by
    have h1 := tkN_iff.1 h.tk b hb hz he
    have h2 := hone b hb
    omega
  have hlt := h.nn
  obtain ⟨q1, q2, q3⟩ := (sh_iff _ _ _).1 hF.sh
  have hfm : (s.ts ++ [(⟨s.nn, z, x, [], []⟩ : Nt)]).flatMap Nt.sh = s.ts.flatMap Nt.sh := by
    rw [List.flatMap_append]
    simp
  refine ⟨hF.nb, ⟨by show 1 ≤ s.nn + 1; omega, by show s.nn + 1 ≤ 65536; omega⟩, hF.ns, hF.bl, by show (s.ts ++ [_]).length ≤ 12; rw [List.length_append]; have := h.tl; simp; omega, hF.bs, hF.bo, fun b hb => ?_, ?_, ?_⟩
  · have hb' : b ∈ s.ts ++ [⟨s.nn, z, x, [], []⟩] := hb
    have htk : noteTk (noteS s z x) b.bk b.nm b.id = false := by
      rw [tkN_iff]
      intro c hc hcb he
      have hc' : c ∈ s.ts ++ [⟨s.nn, z, x, [], []⟩] := hc
      rcases List.mem_append.1 hb' with hb1 | hb1 <;> rcases List.mem_append.1 hc' with hc1 | hc1
      · exact hF.nnames hc1 hb1 hcb he
      · rw [List.mem_singleton] at hc1
        subst hc1
        exact absurd he.symm (hno b hb1 hcb.symm)
      · rw [List.mem_singleton] at hb1
        subst hb1
        exact absurd he (hno c hc1 hcb)
      · rw [List.mem_singleton] at hb1 hc1
        rw [hb1, hc1]
    rcases List.mem_append.1 hb' with hb1 | hb1
    · have h2 := hF.ts b hb1
      obtain ⟨m1, m2, m3, m4⟩ := mayNt_iff.1 h2.2.2
      exact ⟨h2.1, by show b.id ≤ s.nn + 1 - 1; omega, mayNt_iff.2 ⟨m1, m2, htk, m4⟩⟩
    · rw [List.mem_singleton] at hb1
      subst hb1
      exact ⟨by show 0 < s.nn; omega, by show s.nn ≤ s.nn + 1 - 1; omega, mayNt_iff.2 ⟨h.nm, h.bk, htk, mayTg_nil⟩⟩
  · show (s.ts ++ [(⟨s.nn, z, x, [], []⟩ : Nt)]).Pairwise _
    rw [List.pairwise_append]
    refine ⟨hF.tord, List.pairwise_singleton _ _, fun a ha b hb => ?_⟩
    rw [List.mem_singleton] at hb
    subst hb
    have := hone a ha
    show a.id < s.nn
    omega
  · refine (sh_iff _ _ _).2 ⟨fun c hc => ?_, ?_, ?_⟩
    · have hc' : c ∈ s.ts ++ [⟨s.nn, z, x, [], []⟩] := hc
      rcases List.mem_append.1 hc' with hc1 | hc1
      · exact q1 c hc1
      · rw [List.mem_singleton] at hc1
        subst hc1
        simp
    · show ∀ x_ ∈ (s.ts ++ [(⟨s.nn, z, x, [], []⟩ : Nt)]).flatMap Nt.sh, _
      rw [hfm]
      exact q2
    · show ((s.ts ++ [(⟨s.nn, z, x, [], []⟩ : Nt)]).flatMap Nt.sh).Nodup
      rw [hfm]
      exact q3
structure RtF (s : Sf) (y : Int) (x : ByteArray) (k : Nat) (n : Nt) : Prop where
  may : MayF s
  at_ : noteAt s y = (k : Int)
  nt : s.ts[k]? = some n
  id : n.id = y
  nm : mayN x = true
  tk : noteTk s n.bk x y = false
theorem rtF_of {s : Sf} {y : Int} {x : ByteArray} (hc : retC s y x = 0) : ∃ k n, RtF s y x k n := by
  have : mayS s = true ∧ ¬ noteAt s y < 0 ∧ mayN x = true ∧ noteTk s (bkOf s y) x y = false := by
    unfold retC at hc
    cases h1 : mayS s <;> by_cases h2 : noteAt s y < 0 <;> cases h3 : mayN x <;> cases h4 : noteTk s (bkOf s y) x y <;> rw [h1] at hc <;> simp [h2, h3, h4] at hc ⊢
    all_goals exact Int.not_lt.1 h2
  obtain ⟨h1, h2, h3, h4⟩ := this
  obtain ⟨k, n, hk, hn, hid⟩ := noteAt_get (Int.not_lt.1 h2)
  have hnm : bkOf s y = n.bk := by unfold bkOf; rw [hk]; simp [hn]
  rw [hnm] at h4
  exact ⟨k, n, mayF_of h1, hk, hn, hid, h3, h4⟩
theorem RtF.eq {s : Sf} {y : Int} {x : ByteArray} {k : Nat} {n : Nt} (h : RtF s y x k n) : retS s y x = { s with ts := s.ts.set k { n with nm := x } } := by
  unfold retS
  rw [h.at_]
  simp [h.nt]
theorem setT_map {β : Type} {l : List Nt} {k : Nat} {n : Nt} {x : ByteArray} (f : Nt → β) (hf : f { n with nm := x } = f n) (hn : l[k]? = some n) : (l.set k { n with nm := x }).map f = l.map f := by
  rw [List.map_set, hf]
  apply List.ext_getElem?
  intro j
  rw [List.getElem?_set, List.getElem?_map]
  split
  · rename_i h
    subst h
    rw [hn]
    have := (List.getElem?_eq_some_iff.1 hn).1
    simp [this]
  · rfl
theorem RtF.may2 {s : Sf} {y : Int} {x : ByteArray} {k : Nat} {n : Nt} (h : RtF s y x k n) : MayF (retS s y x) := by
  have hF := h.may
  rw [h.eq]
  have hnm := List.mem_of_getElem? h.nt
  have hmem : ∀ c ∈ s.ts.set k { n with nm := x }, (c = { n with nm := x }) ∨ (c ∈ s.ts ∧ c.id ≠ y) := by
    intro c hc
    rcases set_mem hc with h1 | ⟨j, hj, he⟩
    · exact Or.inl h1
    · refine Or.inr ⟨List.mem_of_getElem? he, fun e => hj ?_⟩
      have hcb := hF.idinj (List.mem_of_getElem? he) hnm (e.trans h.id.symm)
      obtain ⟨h1, e1⟩ := List.getElem?_eq_some_iff.1 he
      obtain ⟨h2, e2⟩ := List.getElem?_eq_some_iff.1 h.nt
      rcases Nat.lt_trichotomy j k with hlt | rfl | hlt
      · have := List.pairwise_iff_getElem.1 hF.tord j k h1 h2 hlt
        rw [e1, e2, hcb] at this
        omega
      · rfl
      · have := List.pairwise_iff_getElem.1 hF.tord k j h2 h1 hlt
        rw [e1, e2, hcb] at this
        omega
  obtain ⟨q1, q2, q3⟩ := (sh_iff _ _ _).1 hF.sh
  have hfm : (s.ts.set k { n with nm := x }).flatMap Nt.sh = s.ts.flatMap Nt.sh := by
    rw [List.flatMap_def, List.flatMap_def, setT_map Nt.sh rfl h.nt]
  refine ⟨hF.nb, hF.nn, hF.ns, hF.bl, by show (s.ts.set k _).length ≤ 12; rw [List.length_set]; exact hF.tl, hF.bs, hF.bo, fun c hc => ?_, ?_, ?_⟩
  · have hc0 : c ∈ s.ts.set k { n with nm := x } := hc
    have htk : ∀ c ∈ s.ts.set k { n with nm := x }, noteTk { s with ts := s.ts.set k { n with nm := x } } c.bk c.nm c.id = false := by
      intro c hc
      rw [tkN_iff]
      intro d hd hdb he
      rcases hmem d hd with rfl | ⟨hd1, hd2⟩ <;> rcases hmem c hc with rfl | ⟨hc1, hc2⟩
      · rfl
      · exact absurd (tkN_iff.1 h.tk c hc1 hdb.symm he.symm) hc2
      · exact absurd (tkN_iff.1 h.tk d hd1 hdb he) hd2
      · exact hF.nnames hd1 hc1 hdb he
    rcases hmem c hc0 with rfl | ⟨hc1, hc2⟩
    · have h2 := hF.ts n hnm
      obtain ⟨m1, m2, m3, m4⟩ := mayNt_iff.1 h2.2.2
      exact ⟨h2.1, h2.2.1, mayNt_iff.2 ⟨h.nm, m2, htk _ hc0, m4⟩⟩
    · have h2 := hF.ts c hc1
      obtain ⟨m1, m2, m3, m4⟩ := mayNt_iff.1 h2.2.2
      exact ⟨h2.1, h2.2.1, mayNt_iff.2 ⟨m1, m2, htk _ hc0, m4⟩⟩
  · have h1 : (s.ts.map Nt.id).Pairwise (· < ·) := List.pairwise_map.2 hF.tord
    rw [← setT_map Nt.id rfl h.nt (x := x)] at h1
    exact List.pairwise_map.1 h1
  · refine (sh_iff _ _ _).2 ⟨fun c hc => ?_, ?_, ?_⟩
    · rcases hmem c hc with rfl | ⟨hc1, _⟩
      · exact q1 n hnm
      · exact q1 c hc1
    · show ∀ x_ ∈ (s.ts.set k { n with nm := x }).flatMap Nt.sh, _
      rw [hfm]
      exact q2
    · show ((s.ts.set k { n with nm := x }).flatMap Nt.sh).Nodup
      rw [hfm]
      exact q3
theorem drop_may {s : Sf} {y : Int} (hF : MayF s) : MayF (dropS s y) := by
  have h2 := hF.sub (ts' := s.ts.filter fun n => !(n.bk == y)) (List.filter_sublist)
  have hsub : (s.bs.filter fun b => !(b.id == y)).Sublist s.bs := List.filter_sublist
  refine ⟨hF.nb, hF.nn, hF.ns, Nat.le_trans hsub.length_le hF.bl, h2.tl, fun b hb => ?_, hF.bo.sublist hsub, fun n hn => ?_, h2.tord, h2.sh⟩
  · have h1 := hF.bs b (hsub.subset hb)
    refine ⟨h1.1, h1.2.1, h1.2.2.1, ?_⟩
    have h3 := tkB_iff.1 h1.2.2.2
    exact tkB_iff.2 fun c hc he => h3 c (hsub.subset hc) he
  · have h1 := h2.ts n hn
    obtain ⟨m1, ⟨b, hb, hbe⟩, m3, m4⟩ := mayNt_iff.1 h1.2.2
    have hn2 : n ∈ s.ts.filter fun n => !(n.bk == y) := hn
    have h4 : (n.bk == y) = false := by simpa using (List.mem_filter.1 hn2).2
    refine ⟨h1.1, h1.2.1, mayNt_iff.2 ⟨m1, ⟨b, ?_, hbe⟩, m3, m4⟩⟩
    show b ∈ s.bs.filter fun b => !(b.id == y)
    rw [List.mem_filter]
    exact ⟨hb, by rw [hbe, h4]; rfl⟩
theorem may_of_drop {s : Sf} {y : Int} (h : dropC s y = 0) : MayF s := by
  unfold dropC at h
  cases h1 : mayS s
  · rw [h1] at h
    simp at h
  · exact mayF_of h1
theorem may_of_disc {s : Sf} {y : Int} (h : discC s y = 0) : MayF s := by
  unfold discC at h
  cases h1 : mayS s
  · rw [h1] at h
    simp at h
  · exact mayF_of h1
theorem act_next {s : Sf} {x : Ac} (h : actC s x = 0) : NxF s (actS s x) := by
  unfold actC at h
  unfold actS
  split at h
  · rename_i h0
    rw [if_pos h0]
    exact ⟨(mkF_of h).may2, by show s.nb ≤ s.nb + 1; omega, Int.le_refl _, rfl, fun _ => ⟨_, rfl, rfl, rfl⟩, fun hl => absurd hl (Nat.lt_irrefl _)⟩
  · rename_i h0
    rw [if_neg h0]
    split at h
    · rename_i h1
      rw [if_pos h1]
      obtain ⟨k, b, hr⟩ := rnF_of h
      have e := hr.eq
      exact ⟨hr.may2, by rw [e]; exact Int.le_refl _, by rw [e]; exact Int.le_refl _, by rw [e], fun hl => by rw [e] at hl; simp at hl, fun hl => by rw [e] at hl; simp at hl⟩
    · rename_i h1
      rw [if_neg h1]
      split at h
      · rename_i h2
        rw [if_pos h2]
        exact ⟨drop_may (may_of_drop h), Int.le_refl _, Int.le_refl _, rfl, fun hl => absurd (show (s.bs.filter fun b => !(b.id == x.a)).length > s.bs.length from hl) (Nat.not_lt.2 (List.length_filter_le _ _)), fun hl => absurd (show (s.ts.filter fun n => !(n.bk == x.a)).length > s.ts.length from hl) (Nat.not_lt.2 (List.length_filter_le _ _))⟩
      · rename_i h2
        rw [if_neg h2]
        split at h
        · rename_i h3
          rw [if_pos h3]
          exact ⟨(ntF_of h).may2, Int.le_refl _, by show s.nn ≤ s.nn + 1; omega, rfl, fun hl => absurd hl (Nat.lt_irrefl _), fun _ => ⟨_, rfl, rfl, rfl⟩⟩
        · rename_i h3
          rw [if_neg h3]
          split at h
          · rename_i h4
            rw [if_pos h4]
            obtain ⟨k, b, hr⟩ := rtF_of h
            have e := hr.eq
            exact ⟨hr.may2, by rw [e]; exact Int.le_refl _, by rw [e]; exact Int.le_refl _, by rw [e], fun hl => by rw [e] at hl; simp at hl, fun hl => by rw [e] at hl; simp at hl⟩
          · rename_i h4
            rw [if_neg h4]
            split at h
            · rename_i h5
              rw [if_pos h5]
              obtain ⟨k, b, hr⟩ := mvF_of h
              have e := hr.eq
              exact ⟨hr.may2, by rw [e]; exact Int.le_refl _, by rw [e]; exact Int.le_refl _, by rw [e], fun hl => by rw [e] at hl; simp at hl, fun hl => by rw [e] at hl; simp at hl⟩
            · rename_i h5
              rw [if_neg h5]
              split at h
              · exact ⟨(may_of_disc h).sub (List.filter_sublist), Int.le_refl _, Int.le_refl _, rfl, fun hl => absurd hl (Nat.lt_irrefl _), fun hl => absurd (show (s.ts.filter fun n => !(n.id == x.a)).length > s.ts.length from hl) (Nat.not_lt.2 (List.length_filter_le _ _))⟩
              · cases h
theorem res_small (s : Sf) (x : Ac) : (resS s x).bs.length ≤ 100000 ∧ (resS s x).ts.length ≤ 100000 ∧ ∀ n ∈ (resS s x).ts, n.tg.length ≤ 100000 ∧ n.sh.length ≤ 100000 := by
  unfold resS
  cases hc : actC s x == 0
  · exact ⟨by simp [zeroSf], by simp [zeroSf], fun n hn => by simp [zeroSf] at hn⟩
  · have hF := (act_next (by simpa using hc)).may
    show (actS s x).bs.length ≤ 100000 ∧ (actS s x).ts.length ≤ 100000 ∧ ∀ n ∈ (actS s x).ts, _
    exact ⟨by have := hF.bl; omega, by have := hF.tl; omega, hF.small⟩
theorem zeroW (w : World) (base : Nat) : ShW w base (.agg #[.int .i64 0, .int .i64 0, .int .i64 0, .slice none 0 0, .slice none 0 0]) zeroSf := ShW.make (s := zeroSf) (w := w) (base := base) (vb := .slice none 0 0) (vn := .slice none 0 0) (World.ownsRow_nil _ _ _ _) ⟨[], rfl, World.ownsRow_nil _ _ _ _, fun k n e a _ => by simp [zeroSf] at a⟩
end Go.Proofs.YtokhapafpjejaaaGreatDoor
namespace Go.Proofs.YtokhapafpjejaaaGreatDoor
open Go.ChangeShapes Go.WideShapes Go.ChangeAt Go.RowKit
attribute [local go_sem ↓] Go.wp_at_zero Go.wp_at_succ
theorem rmake_no (s : Sf) (v : Value) (x : ByteArray) (w : World) (hS : ShR w w.heap.size v s) (hz : SzF s) (hx : x.size ≤ 100000) (c : Int) (hc : makeC s x = c) (hne : c ≠ 0) :
    Calls Tryz.prog 30 #[v, .string x] w fun e' w' => e' = .returned (.tuple #[.agg #[.int .i64 0, .int .i64 0, .int .i64 0, .slice none 0 0, .slice none 0 0], .int .i64 0, .int .i64 c]) ∧ Below w.heap.size w w' := by
  have hS0 := hS
  obtain ⟨Ab, cb, An, cn, rfl, hB, hN, hcb, hmb, hcn, hmn⟩ := hS.ex
  clear hS
  obtain ⟨HB, B1, B2, S1⟩ := pre2 hS0
  have HZ := Lib.hid hz
  have HX := Lib.hid hx
  clear hS0 hB hN hcb hmb hcn hmn hz
  obtain ⟨M, hM⟩ : ∃ M, mayS s = M := ⟨_, rfl⟩
  obtain ⟨N, hN⟩ : ∃ N, mayN x = N := ⟨_, rfl⟩
  obtain ⟨K_, hK⟩ : ∃ K, bookTk s x 0 = K := ⟨_, rfl⟩
  unfold makeC at hc
  rw [hM, hN, hK] at hc
  have HK : Hid ((cond (mayN x) (cond (bookTk s x 0) 7 0) 6 : Int) = cond N (cond K_ 7 0) 6) := Lib.hid (by rw [hN, hK])
  have HM : Hid (rMayB s = M) := Lib.hid ((rMay_eq s).trans hM)
  have HF : Hid (M = true → s.nb ≤ 65536) := Lib.hid fun h => by rw [h] at hM; exact (mayF_of hM).nb.2
  clear hM hN hK hx
  obtain ⟨n, hn⟩ : ∃ n, s.bs.length = n := ⟨_, rfl⟩
  have hf : fullB s = (decide (6 ≤ n) || decide (65536 ≤ s.nb)) := by unfold fullB; rw [hn]
  rw [hf] at hc
  rw [hn] at HB B1 S1 B2 ⊢
  clear hf hn
  cases M
  · obtain rfl : c = 2 := hc.symm
    clear hc hne
    go_enter Tryz.func30, Tryz.ntmps30
    go_wp2_with (first | (go_at_call 11; ((with_reducible refine (rMay_any s _ _ S1 HZ.out _ HM.out).mono ?_); rintro e' w3 ⟨rfl, bx⟩; (try clear k0 k1 k2 k3 k4 r0 r1 r2 r3 r4 t0 t1 t2 t3 t4); obtain ⟨S1, B1, B2, HB, k0, k1, k2, k3, k4, r0, r1, r2, r3, r4, t0, t1, t2, t3, t4⟩ := keepR S1 B1 B2 HB bx; clear bx)))
    have B2u := z5_blk B2
    have hb2 := z5_below HB (g := w.heap.size + 1) (by omega)
    change bodyPost _ _ _ _ _ (z5 w3 (w.heap.size + 1))
    generalize z5 w3 (w.heap.size + 1) = Wd at B2u hb2 ⊢
    apply bodyPost_ret (v := .tuple #[.agg #[.int .i64 0, .int .i64 0, .int .i64 0, .slice none 0 0, .slice none 0 0], .int .i64 0, .int .i64 2])
    · exact results_cell2 Tryz.results30 _ Wd _ 25 #[.int .i64 0, .int .i64 0, .int .i64 0, .slice none 0 0, .slice none 0 0] (0, 0) _ rfl B2u Tryz.underlying25 rfl (by kernel_rfl)
    · rfl
    · exact ⟨rfl, hb2⟩
  · cases N
    · obtain rfl : c = 6 := hc.symm
      clear hc hne
      go_enter Tryz.func30, Tryz.ntmps30
      go_wp2_with (first | (go_at_call 11; ((with_reducible refine (rMay_any s _ _ S1 HZ.out _ HM.out).mono ?_); rintro e' w3 ⟨rfl, bx⟩; (try clear k0 k1 k2 k3 k4 r0 r1 r2 r3 r4 t0 t1 t2 t3 t4); obtain ⟨S1, B1, B2, HB, k0, k1, k2, k3, k4, r0, r1, r2, r3, r4, t0, t1, t2, t3, t4⟩ := keepR S1 B1 B2 HB bx; clear bx)) | (go_at_call 64; ((with_reducible refine (rBookName_any s _ 0 x _ S1 ⟨HZ.out.bl, HZ.out.tl⟩ HX.out _ HK.out).mono ?_); rintro e' w4 ⟨rfl, bx⟩; (try clear k0 k1 k2 k3 k4 r0 r1 r2 r3 r4 t0 t1 t2 t3 t4); obtain ⟨S1, B1, B2, HB, k0, k1, k2, k3, k4, r0, r1, r2, r3, r4, t0, t1, t2, t3, t4⟩ := keepR S1 B1 B2 HB bx; clear bx)))
      have B2u := z5_blk B2
      have hb2 := z5_below HB (g := w.heap.size + 1) (by omega)
      change bodyPost _ _ _ _ _ (z5 w4 (w.heap.size + 1))
      generalize z5 w4 (w.heap.size + 1) = Wd at B2u hb2 ⊢
      apply bodyPost_ret (v := .tuple #[.agg #[.int .i64 0, .int .i64 0, .int .i64 0, .slice none 0 0, .slice none 0 0], .int .i64 0, .int .i64 6])
      · exact results_cell2 Tryz.results30 _ Wd _ 25 #[.int .i64 0, .int .i64 0, .int .i64 0, .slice none 0 0, .slice none 0 0] (0, 0) _ rfl B2u Tryz.underlying25 rfl (by kernel_rfl)
      · rfl
      · exact ⟨rfl, hb2⟩
    · cases K_
      · by_cases h6 : 6 ≤ n
        · obtain rfl : c = 3 := by simpa [h6] using hc.symm
          have g6 : (6 : Int) ≤ (n : Int) := by omega
          clear hc hne h6
          go_enter Tryz.func30, Tryz.ntmps30
          go_wp2_with (first | (go_at_call 11; ((with_reducible refine (rMay_any s _ _ S1 HZ.out _ HM.out).mono ?_); rintro e' w3 ⟨rfl, bx⟩; (try clear k0 k1 k2 k3 k4 r0 r1 r2 r3 r4 t0 t1 t2 t3 t4); obtain ⟨S1, B1, B2, HB, k0, k1, k2, k3, k4, r0, r1, r2, r3, r4, t0, t1, t2, t3, t4⟩ := keepR S1 B1 B2 HB bx; clear bx)) | (go_at_call 64; ((with_reducible refine (rBookName_any s _ 0 x _ S1 ⟨HZ.out.bl, HZ.out.tl⟩ HX.out _ HK.out).mono ?_); rintro e' w4 ⟨rfl, bx⟩; (try clear k0 k1 k2 k3 k4 r0 r1 r2 r3 r4 t0 t1 t2 t3 t4); obtain ⟨S1, B1, B2, HB, k0, k1, k2, k3, k4, r0, r1, r2, r3, r4, t0, t1, t2, t3, t4⟩ := keepR S1 B1 B2 HB bx; clear bx)))
          have B2u := z5_blk B2
          have hb2 := z5_below HB (g := w.heap.size + 1) (by omega)
          change bodyPost _ _ _ _ _ (z5 w4 (w.heap.size + 1))
          generalize z5 w4 (w.heap.size + 1) = Wd at B2u hb2 ⊢
          apply bodyPost_ret (v := .tuple #[.agg #[.int .i64 0, .int .i64 0, .int .i64 0, .slice none 0 0, .slice none 0 0], .int .i64 0, .int .i64 3])
          · exact results_cell2 Tryz.results30 _ Wd _ 25 #[.int .i64 0, .int .i64 0, .int .i64 0, .slice none 0 0, .slice none 0 0] (0, 0) _ rfl B2u Tryz.underlying25 rfl (by kernel_rfl)
          · rfl
          · exact ⟨rfl, hb2⟩
        · by_cases h7 : 65536 ≤ s.nb
          · obtain rfl : c = 3 := by simpa [h6, h7] using hc.symm
            have g6 : ¬ (6 : Int) ≤ (n : Int) := by omega
            have g7 : (s.nb == 65536) = true := by have := HF.out rfl; simp; omega
            clear hc hne h6 h7
            go_enter Tryz.func30, Tryz.ntmps30
            go_wp2_with (first | (go_at_call 11; ((with_reducible refine (rMay_any s _ _ S1 HZ.out _ HM.out).mono ?_); rintro e' w3 ⟨rfl, bx⟩; (try clear k0 k1 k2 k3 k4 r0 r1 r2 r3 r4 t0 t1 t2 t3 t4); obtain ⟨S1, B1, B2, HB, k0, k1, k2, k3, k4, r0, r1, r2, r3, r4, t0, t1, t2, t3, t4⟩ := keepR S1 B1 B2 HB bx; clear bx)) | (go_at_call 64; ((with_reducible refine (rBookName_any s _ 0 x _ S1 ⟨HZ.out.bl, HZ.out.tl⟩ HX.out _ HK.out).mono ?_); rintro e' w4 ⟨rfl, bx⟩; (try clear k0 k1 k2 k3 k4 r0 r1 r2 r3 r4 t0 t1 t2 t3 t4); obtain ⟨S1, B1, B2, HB, k0, k1, k2, k3, k4, r0, r1, r2, r3, r4, t0, t1, t2, t3, t4⟩ := keepR S1 B1 B2 HB bx; clear bx)))
            have B2u := z5_blk B2
            have hb2 := z5_below HB (g := w.heap.size + 1) (by omega)
            change bodyPost _ _ _ _ _ (z5 w4 (w.heap.size + 1))
            generalize z5 w4 (w.heap.size + 1) = Wd at B2u hb2 ⊢
            apply bodyPost_ret (v := .tuple #[.agg #[.int .i64 0, .int .i64 0, .int .i64 0, .slice none 0 0, .slice none 0 0], .int .i64 0, .int .i64 3])
            · exact results_cell2 Tryz.results30 _ Wd _ 25 #[.int .i64 0, .int .i64 0, .int .i64 0, .slice none 0 0, .slice none 0 0] (0, 0) _ rfl B2u Tryz.underlying25 rfl (by kernel_rfl)
            · rfl
            · exact ⟨rfl, hb2⟩
          · exact absurd (by simpa [h6, h7] using hc.symm) hne
      · obtain rfl : c = 7 := hc.symm
        clear hc hne
        go_enter Tryz.func30, Tryz.ntmps30
        go_wp2_with (first | (go_at_call 11; ((with_reducible refine (rMay_any s _ _ S1 HZ.out _ HM.out).mono ?_); rintro e' w3 ⟨rfl, bx⟩; (try clear k0 k1 k2 k3 k4 r0 r1 r2 r3 r4 t0 t1 t2 t3 t4); obtain ⟨S1, B1, B2, HB, k0, k1, k2, k3, k4, r0, r1, r2, r3, r4, t0, t1, t2, t3, t4⟩ := keepR S1 B1 B2 HB bx; clear bx)) | (go_at_call 64; ((with_reducible refine (rBookName_any s _ 0 x _ S1 ⟨HZ.out.bl, HZ.out.tl⟩ HX.out _ HK.out).mono ?_); rintro e' w4 ⟨rfl, bx⟩; (try clear k0 k1 k2 k3 k4 r0 r1 r2 r3 r4 t0 t1 t2 t3 t4); obtain ⟨S1, B1, B2, HB, k0, k1, k2, k3, k4, r0, r1, r2, r3, r4, t0, t1, t2, t3, t4⟩ := keepR S1 B1 B2 HB bx; clear bx)))
        have B2u := z5_blk B2
        have hb2 := z5_below HB (g := w.heap.size + 1) (by omega)
        change bodyPost _ _ _ _ _ (z5 w4 (w.heap.size + 1))
        generalize z5 w4 (w.heap.size + 1) = Wd at B2u hb2 ⊢
        apply bodyPost_ret (v := .tuple #[.agg #[.int .i64 0, .int .i64 0, .int .i64 0, .slice none 0 0, .slice none 0 0], .int .i64 0, .int .i64 7])
        · exact results_cell2 Tryz.results30 _ Wd _ 25 #[.int .i64 0, .int .i64 0, .int .i64 0, .slice none 0 0, .slice none 0 0] (0, 0) _ rfl B2u Tryz.underlying25 rfl (by kernel_rfl)
        · rfl
        · exact ⟨rfl, hb2⟩
theorem rren_no (s : Sf) (v : Value) (y : Int) (x : ByteArray) (w : World) (hS : ShR w w.heap.size v s) (hz : SzF s) (hx : x.size ≤ 100000) (c : Int) (hc : renC s y x = c) (hne : c ≠ 0) :
    Calls Tryz.prog 32 #[v, .int .i64 y, .string x] w fun e' w' => e' = .returned (.tuple #[.agg #[.int .i64 0, .int .i64 0, .int .i64 0, .slice none 0 0, .slice none 0 0], .int .i64 c]) ∧ Below w.heap.size w w' := by
  have hS0 := hS
  obtain ⟨Ab, cb, An, cn, rfl, hB, hN, hcb, hmb, hcn, hmn⟩ := hS.ex
  clear hS
  obtain ⟨HB, B1, B2, S1⟩ := pre2 hS0
  have HZ := Lib.hid hz
  have HX := Lib.hid hx
  clear hS0 hB hN hcb hmb hcn hmn hz
  obtain ⟨M, hM⟩ : ∃ M, mayS s = M := ⟨_, rfl⟩
  obtain ⟨N, hN⟩ : ∃ N, mayN x = N := ⟨_, rfl⟩
  obtain ⟨K_, hK⟩ : ∃ K, bookTk s x y = K := ⟨_, rfl⟩
  unfold renC at hc
  rw [hM, hN, hK] at hc
  have HK : Hid ((cond (mayN x) (cond (bookTk s x y) 7 0) 6 : Int) = cond N (cond K_ 7 0) 6) := Lib.hid (by rw [hN, hK])
  have HM : Hid (rMayB s = M) := Lib.hid ((rMay_eq s).trans hM)
  clear hM hN hK hx
  cases M
  · obtain rfl : c = 2 := hc.symm
    clear hc hne
    go_enter Tryz.func32, Tryz.ntmps32
    go_wp2_with (first | (go_at_call 11; ((with_reducible refine (rMay_any s _ _ S1 HZ.out _ HM.out).mono ?_); rintro e' w3 ⟨rfl, bx⟩; (try clear k0 k1 k2 k3 k4 r0 r1 r2 r3 r4 t0 t1 t2 t3 t4); obtain ⟨S1, B1, B2, HB, k0, k1, k2, k3, k4, r0, r1, r2, r3, r4, t0, t1, t2, t3, t4⟩ := keepR S1 B1 B2 HB bx; clear bx)))
    have B2u := z5_blk B2
    have hb2 := z5_below HB (g := w.heap.size + 1) (by omega)
    change bodyPost _ _ _ _ _ (z5 w3 (w.heap.size + 1))
    generalize z5 w3 (w.heap.size + 1) = Wd at B2u hb2 ⊢
    apply bodyPost_ret (v := .tuple #[.agg #[.int .i64 0, .int .i64 0, .int .i64 0, .slice none 0 0, .slice none 0 0], .int .i64 2])
    · exact results_cell1 Tryz.results32 _ Wd _ 25 #[.int .i64 0, .int .i64 0, .int .i64 0, .slice none 0 0, .slice none 0 0] (0, 0) _ rfl B2u Tryz.underlying25 rfl (by kernel_rfl)
    · rfl
    · exact ⟨rfl, hb2⟩
  · by_cases h4 : bookAt s y < 0
    · obtain rfl : c = 4 := by simpa [h4] using hc.symm
      clear hc hne
      go_enter Tryz.func32, Tryz.ntmps32
      go_wp2_with (first | (go_at_call 11; ((with_reducible refine (rMay_any s _ _ S1 HZ.out _ HM.out).mono ?_); rintro e' w3 ⟨rfl, bx⟩; (try clear k0 k1 k2 k3 k4 r0 r1 r2 r3 r4 t0 t1 t2 t3 t4); obtain ⟨S1, B1, B2, HB, k0, k1, k2, k3, k4, r0, r1, r2, r3, r4, t0, t1, t2, t3, t4⟩ := keepR S1 B1 B2 HB bx; clear bx)) | (go_at_call 53; ((with_reducible refine (rBook_any s _ y _ S1 ⟨HZ.out.bl, HZ.out.tl⟩).mono ?_); rintro e' w4 ⟨rfl, bx⟩; (try rw [HB1.out]); (try clear k0 k1 k2 k3 k4 r0 r1 r2 r3 r4 t0 t1 t2 t3 t4); obtain ⟨S1, B1, B2, HB, k0, k1, k2, k3, k4, r0, r1, r2, r3, r4, t0, t1, t2, t3, t4⟩ := keepR S1 B1 B2 HB bx; clear bx)))
      have B2u := z5_blk B2
      have hb2 := z5_below HB (g := w.heap.size + 1) (by omega)
      change bodyPost _ _ _ _ _ (z5 w4 (w.heap.size + 1))
      generalize z5 w4 (w.heap.size + 1) = Wd at B2u hb2 ⊢
      apply bodyPost_ret (v := .tuple #[.agg #[.int .i64 0, .int .i64 0, .int .i64 0, .slice none 0 0, .slice none 0 0], .int .i64 4])
      · exact results_cell1 Tryz.results32 _ Wd _ 25 #[.int .i64 0, .int .i64 0, .int .i64 0, .slice none 0 0, .slice none 0 0] (0, 0) _ rfl B2u Tryz.underlying25 rfl (by kernel_rfl)
      · rfl
      · exact ⟨rfl, hb2⟩
    · cases N
      · obtain rfl : c = 6 := by simpa [h4] using hc.symm
        obtain ⟨q, hq⟩ : ∃ q : Nat, bookAt s y = (q : Int) := ⟨(bookAt s y).toNat, by omega⟩
        have HB1 := Lib.hid hq
        have q0 : (0 : Int) ≤ (q : Int) := by omega
        have q2 : ¬ (q : Int) < 0 := by omega
        clear hq h4 hc hne
        go_enter Tryz.func32, Tryz.ntmps32
        go_wp2_with (first | (go_at_call 11; ((with_reducible refine (rMay_any s _ _ S1 HZ.out _ HM.out).mono ?_); rintro e' w3 ⟨rfl, bx⟩; (try clear k0 k1 k2 k3 k4 r0 r1 r2 r3 r4 t0 t1 t2 t3 t4); obtain ⟨S1, B1, B2, HB, k0, k1, k2, k3, k4, r0, r1, r2, r3, r4, t0, t1, t2, t3, t4⟩ := keepR S1 B1 B2 HB bx; clear bx)) | (go_at_call 53; ((with_reducible refine (rBook_any s _ y _ S1 ⟨HZ.out.bl, HZ.out.tl⟩).mono ?_); rintro e' w4 ⟨rfl, bx⟩; (try rw [HB1.out]); (try clear k0 k1 k2 k3 k4 r0 r1 r2 r3 r4 t0 t1 t2 t3 t4); obtain ⟨S1, B1, B2, HB, k0, k1, k2, k3, k4, r0, r1, r2, r3, r4, t0, t1, t2, t3, t4⟩ := keepR S1 B1 B2 HB bx; clear bx)) | (go_at_call 64; ((with_reducible refine (rBookName_any s _ y x _ S1 ⟨HZ.out.bl, HZ.out.tl⟩ HX.out _ HK.out).mono ?_); rintro e' w5 ⟨rfl, bx⟩; (try clear k0 k1 k2 k3 k4 r0 r1 r2 r3 r4 t0 t1 t2 t3 t4); obtain ⟨S1, B1, B2, HB, k0, k1, k2, k3, k4, r0, r1, r2, r3, r4, t0, t1, t2, t3, t4⟩ := keepR S1 B1 B2 HB bx; clear bx)))
        have B2u := z5_blk B2
        have hb2 := z5_below HB (g := w.heap.size + 1) (by omega)
        change bodyPost _ _ _ _ _ (z5 w5 (w.heap.size + 1))
        generalize z5 w5 (w.heap.size + 1) = Wd at B2u hb2 ⊢
        apply bodyPost_ret (v := .tuple #[.agg #[.int .i64 0, .int .i64 0, .int .i64 0, .slice none 0 0, .slice none 0 0], .int .i64 6])
        · exact results_cell1 Tryz.results32 _ Wd _ 25 #[.int .i64 0, .int .i64 0, .int .i64 0, .slice none 0 0, .slice none 0 0] (0, 0) _ rfl B2u Tryz.underlying25 rfl (by kernel_rfl)
        · rfl
        · exact ⟨rfl, hb2⟩
      · cases K_
        · exact absurd (by simpa [h4] using hc.symm) hne
        · obtain rfl : c = 7 := by simpa [h4] using hc.symm
          obtain ⟨q, hq⟩ : ∃ q : Nat, bookAt s y = (q : Int) := ⟨(bookAt s y).toNat, by omega⟩
          have HB1 := Lib.hid hq
          have q0 : (0 : Int) ≤ (q : Int) := by omega
          have q2 : ¬ (q : Int) < 0 := by omega
          clear hq h4 hc hne
          go_enter Tryz.func32, Tryz.ntmps32
          go_wp2_with (first | (go_at_call 11; ((with_reducible refine (rMay_any s _ _ S1 HZ.out _ HM.out).mono ?_); rintro e' w3 ⟨rfl, bx⟩; (try clear k0 k1 k2 k3 k4 r0 r1 r2 r3 r4 t0 t1 t2 t3 t4); obtain ⟨S1, B1, B2, HB, k0, k1, k2, k3, k4, r0, r1, r2, r3, r4, t0, t1, t2, t3, t4⟩ := keepR S1 B1 B2 HB bx; clear bx)) | (go_at_call 53; ((with_reducible refine (rBook_any s _ y _ S1 ⟨HZ.out.bl, HZ.out.tl⟩).mono ?_); rintro e' w4 ⟨rfl, bx⟩; (try rw [HB1.out]); (try clear k0 k1 k2 k3 k4 r0 r1 r2 r3 r4 t0 t1 t2 t3 t4); obtain ⟨S1, B1, B2, HB, k0, k1, k2, k3, k4, r0, r1, r2, r3, r4, t0, t1, t2, t3, t4⟩ := keepR S1 B1 B2 HB bx; clear bx)) | (go_at_call 64; ((with_reducible refine (rBookName_any s _ y x _ S1 ⟨HZ.out.bl, HZ.out.tl⟩ HX.out _ HK.out).mono ?_); rintro e' w5 ⟨rfl, bx⟩; (try clear k0 k1 k2 k3 k4 r0 r1 r2 r3 r4 t0 t1 t2 t3 t4); obtain ⟨S1, B1, B2, HB, k0, k1, k2, k3, k4, r0, r1, r2, r3, r4, t0, t1, t2, t3, t4⟩ := keepR S1 B1 B2 HB bx; clear bx)))
          have B2u := z5_blk B2
          have hb2 := z5_below HB (g := w.heap.size + 1) (by omega)
          change bodyPost _ _ _ _ _ (z5 w5 (w.heap.size + 1))
          generalize z5 w5 (w.heap.size + 1) = Wd at B2u hb2 ⊢
          apply bodyPost_ret (v := .tuple #[.agg #[.int .i64 0, .int .i64 0, .int .i64 0, .slice none 0 0, .slice none 0 0], .int .i64 7])
          · exact results_cell1 Tryz.results32 _ Wd _ 25 #[.int .i64 0, .int .i64 0, .int .i64 0, .slice none 0 0, .slice none 0 0] (0, 0) _ rfl B2u Tryz.underlying25 rfl (by kernel_rfl)
          · rfl
          · exact ⟨rfl, hb2⟩
theorem rdrop_no (s : Sf) (v : Value) (y : Int) (w : World) (hS : ShR w w.heap.size v s) (hz : SzF s) (c : Int) (hc : dropC s y = c) (hne : c ≠ 0) :
    Calls Tryz.prog 34 #[v, .int .i64 y] w fun e' w' => e' = .returned (.tuple #[.agg #[.int .i64 0, .int .i64 0, .int .i64 0, .slice none 0 0, .slice none 0 0], .int .i64 c]) ∧ Below w.heap.size w w' := by
  have hS0 := hS
  obtain ⟨Ab, cb, An, cn, rfl, hB, hN, hcb, hmb, hcn, hmn⟩ := hS.ex
  clear hS
  obtain ⟨HB, B1, B2, S1⟩ := pre2 hS0
  have HZ := Lib.hid hz
  clear hS0 hB hN hcb hmb hcn hmn hz
  obtain ⟨M, hM⟩ : ∃ M, mayS s = M := ⟨_, rfl⟩
  unfold dropC at hc
  rw [hM] at hc
  have HM : Hid (rMayB s = M) := Lib.hid ((rMay_eq s).trans hM)
  clear hM
  cases M
  · obtain rfl : c = 2 := hc.symm
    clear hc hne
    go_enter Tryz.func34, Tryz.ntmps34
    go_wp2_with (first | (go_at_call 11; ((with_reducible refine (rMay_any s _ _ S1 HZ.out _ HM.out).mono ?_); rintro e' w3 ⟨rfl, bx⟩; (try clear k0 k1 k2 k3 k4 r0 r1 r2 r3 r4 t0 t1 t2 t3 t4); obtain ⟨S1, B1, B2, HB, k0, k1, k2, k3, k4, r0, r1, r2, r3, r4, t0, t1, t2, t3, t4⟩ := keepR S1 B1 B2 HB bx; clear bx)))
    have B2u := z5_blk B2
    have hb2 := z5_below HB (g := w.heap.size + 1) (by omega)
    change bodyPost _ _ _ _ _ (z5 w3 (w.heap.size + 1))
    generalize z5 w3 (w.heap.size + 1) = Wd at B2u hb2 ⊢
    apply bodyPost_ret (v := .tuple #[.agg #[.int .i64 0, .int .i64 0, .int .i64 0, .slice none 0 0, .slice none 0 0], .int .i64 2])
    · exact results_cell1 Tryz.results34 _ Wd _ 25 #[.int .i64 0, .int .i64 0, .int .i64 0, .slice none 0 0, .slice none 0 0] (0, 0) _ rfl B2u Tryz.underlying25 rfl (by kernel_rfl)
    · rfl
    · exact ⟨rfl, hb2⟩
  · by_cases h4 : bookAt s y < 0
    · obtain rfl : c = 4 := by simpa [h4] using hc.symm
      clear hc hne
      go_enter Tryz.func34, Tryz.ntmps34
      go_wp2_with (first | (go_at_call 11; ((with_reducible refine (rMay_any s _ _ S1 HZ.out _ HM.out).mono ?_); rintro e' w3 ⟨rfl, bx⟩; (try clear k0 k1 k2 k3 k4 r0 r1 r2 r3 r4 t0 t1 t2 t3 t4); obtain ⟨S1, B1, B2, HB, k0, k1, k2, k3, k4, r0, r1, r2, r3, r4, t0, t1, t2, t3, t4⟩ := keepR S1 B1 B2 HB bx; clear bx)) | (go_at_call 53; ((with_reducible refine (rBook_any s _ y _ S1 ⟨HZ.out.bl, HZ.out.tl⟩).mono ?_); rintro e' w4 ⟨rfl, bx⟩; (try rw [HB1.out]); (try clear k0 k1 k2 k3 k4 r0 r1 r2 r3 r4 t0 t1 t2 t3 t4); obtain ⟨S1, B1, B2, HB, k0, k1, k2, k3, k4, r0, r1, r2, r3, r4, t0, t1, t2, t3, t4⟩ := keepR S1 B1 B2 HB bx; clear bx)))
      have B2u := z5_blk B2
      have hb2 := z5_below HB (g := w.heap.size + 1) (by omega)
      change bodyPost _ _ _ _ _ (z5 w4 (w.heap.size + 1))
      generalize z5 w4 (w.heap.size + 1) = Wd at B2u hb2 ⊢
      apply bodyPost_ret (v := .tuple #[.agg #[.int .i64 0, .int .i64 0, .int .i64 0, .slice none 0 0, .slice none 0 0], .int .i64 4])
      · exact results_cell1 Tryz.results34 _ Wd _ 25 #[.int .i64 0, .int .i64 0, .int .i64 0, .slice none 0 0, .slice none 0 0] (0, 0) _ rfl B2u Tryz.underlying25 rfl (by kernel_rfl)
      · rfl
      · exact ⟨rfl, hb2⟩
    · exact absurd (by simpa [h4] using hc.symm) hne
theorem rdisc_no (s : Sf) (v : Value) (y : Int) (w : World) (hS : ShR w w.heap.size v s) (hz : SzF s) (c : Int) (hc : discC s y = c) (hne : c ≠ 0) :
    Calls Tryz.prog 42 #[v, .int .i64 y] w fun e' w' => e' = .returned (.tuple #[.agg #[.int .i64 0, .int .i64 0, .int .i64 0, .slice none 0 0, .slice none 0 0], .int .i64 c]) ∧ Below w.heap.size w w' := by
  have hS0 := hS
  obtain ⟨Ab, cb, An, cn, rfl, hB, hN, hcb, hmb, hcn, hmn⟩ := hS.ex
  clear hS
  obtain ⟨HB, B1, B2, S1⟩ := pre2 hS0
  have HZ := Lib.hid hz
  clear hS0 hB hN hcb hmb hcn hmn hz
  obtain ⟨M, hM⟩ : ∃ M, mayS s = M := ⟨_, rfl⟩
  unfold discC at hc
  rw [hM] at hc
  have HM : Hid (rMayB s = M) := Lib.hid ((rMay_eq s).trans hM)
  clear hM
  cases M
  · obtain rfl : c = 2 := hc.symm
    clear hc hne
    go_enter Tryz.func42, Tryz.ntmps42
    go_wp2_with (first | (go_at_call 11; ((with_reducible refine (rMay_any s _ _ S1 HZ.out _ HM.out).mono ?_); rintro e' w3 ⟨rfl, bx⟩; (try clear k0 k1 k2 k3 k4 r0 r1 r2 r3 r4 t0 t1 t2 t3 t4); obtain ⟨S1, B1, B2, HB, k0, k1, k2, k3, k4, r0, r1, r2, r3, r4, t0, t1, t2, t3, t4⟩ := keepR S1 B1 B2 HB bx; clear bx)))
    have B2u := z5_blk B2
    have hb2 := z5_below HB (g := w.heap.size + 1) (by omega)
    change bodyPost _ _ _ _ _ (z5 w3 (w.heap.size + 1))
    generalize z5 w3 (w.heap.size + 1) = Wd at B2u hb2 ⊢
    apply bodyPost_ret (v := .tuple #[.agg #[.int .i64 0, .int .i64 0, .int .i64 0, .slice none 0 0, .slice none 0 0], .int .i64 2])
    · exact results_cell1 Tryz.results42 _ Wd _ 25 #[.int .i64 0, .int .i64 0, .int .i64 0, .slice none 0 0, .slice none 0 0] (0, 0) _ rfl B2u Tryz.underlying25 rfl (by kernel_rfl)
    · rfl
    · exact ⟨rfl, hb2⟩
  · by_cases h4 : noteAt s y < 0
    · obtain rfl : c = 4 := by simpa [h4] using hc.symm
      clear hc hne
      go_enter Tryz.func42, Tryz.ntmps42
      go_wp2_with (first | (go_at_call 11; ((with_reducible refine (rMay_any s _ _ S1 HZ.out _ HM.out).mono ?_); rintro e' w3 ⟨rfl, bx⟩; (try clear k0 k1 k2 k3 k4 r0 r1 r2 r3 r4 t0 t1 t2 t3 t4); obtain ⟨S1, B1, B2, HB, k0, k1, k2, k3, k4, r0, r1, r2, r3, r4, t0, t1, t2, t3, t4⟩ := keepR S1 B1 B2 HB bx; clear bx)) | (go_at_call 57; ((with_reducible refine (rNote_any s _ y _ S1 ⟨HZ.out.bl, HZ.out.tl⟩).mono ?_); rintro e' w4 ⟨rfl, bx⟩; (try rw [HB1.out]); (try clear k0 k1 k2 k3 k4 r0 r1 r2 r3 r4 t0 t1 t2 t3 t4); obtain ⟨S1, B1, B2, HB, k0, k1, k2, k3, k4, r0, r1, r2, r3, r4, t0, t1, t2, t3, t4⟩ := keepR S1 B1 B2 HB bx; clear bx)))
      have B2u := z5_blk B2
      have hb2 := z5_below HB (g := w.heap.size + 1) (by omega)
      change bodyPost _ _ _ _ _ (z5 w4 (w.heap.size + 1))
      generalize z5 w4 (w.heap.size + 1) = Wd at B2u hb2 ⊢
      apply bodyPost_ret (v := .tuple #[.agg #[.int .i64 0, .int .i64 0, .int .i64 0, .slice none 0 0, .slice none 0 0], .int .i64 4])
      · exact results_cell1 Tryz.results42 _ Wd _ 25 #[.int .i64 0, .int .i64 0, .int .i64 0, .slice none 0 0, .slice none 0 0] (0, 0) _ rfl B2u Tryz.underlying25 rfl (by kernel_rfl)
      · rfl
      · exact ⟨rfl, hb2⟩
    · exact absurd (by simpa [h4] using hc.symm) hne
end Go.Proofs.YtokhapafpjejaaaGreatDoor
namespace Go.Proofs.YtokhapafpjejaaaGreatDoor
open Go.ChangeShapes Go.WideShapes Go.ChangeAt Go.RowKit
attribute [local go_sem ↓] Go.wp_at_zero Go.wp_at_succ
theorem note_no (s : Sf) (v : Value) (z : Int) (x : ByteArray) (w : World) (hS : ShR w w.heap.size v s) (hT : Tabs w) (c : Int) (hc : noteC s z x = c) (hne : c ≠ 0) :
    Calls Tryz.prog 35 #[v, .int .i64 z, .string x] w fun e' w' => e' = .returned (.tuple #[.agg #[.int .i64 0, .int .i64 0, .int .i64 0, .slice none 0 0, .slice none 0 0], .int .i64 0, .int .i64 c]) ∧ Below w.heap.size w w' := by
  have hS0 := hS
  obtain ⟨Ab, cb, An, cn, rfl, hB, hN, hcb, hmb, hcn, hmn⟩ := hS.ex
  clear hS
  obtain ⟨HB, B1, B2, S1⟩ := pre2 hS0
  have T1 := hT.next HB
  clear hS0 hT hB hN hcb hmb hcn hmn
  obtain ⟨M, hM⟩ : ∃ M, mayS s = M := ⟨_, rfl⟩
  obtain ⟨I, hI⟩ : ∃ I, bookAt s z = I := ⟨_, rfl⟩
  obtain ⟨N, hN⟩ : ∃ N, mayN x = N := ⟨_, rfl⟩
  obtain ⟨K_, hK⟩ : ∃ K, noteTk s z x 0 = K := ⟨_, rfl⟩
  unfold noteC at hc
  rw [hM, hI, hN, hK] at hc
  have HM := Lib.hid hM
  have HI := Lib.hid hI
  have HN : Hid (nameB x.data.toList = N) := Lib.hid hN
  have HK := Lib.hid hK
  clear hM hN hK hI
  obtain ⟨n, hn⟩ : ∃ n, s.ts.length = n := ⟨_, rfl⟩
  have hf : fullN s = (decide (12 ≤ n) || decide (65536 ≤ s.nn)) := by unfold fullN; rw [hn]
  rw [hf] at hc
  rw [hn] at HB B1 S1 T1 B2 ⊢
  clear hf hn
  cases M
  · obtain rfl : c = 2 := hc.symm
    clear hc hne
    go_enter Tryz.func35, Tryz.ntmps35
    go_wp2_with (first | (go_at_call 10; ((with_reducible refine (smay_any s _ _ S1 T1 _ HM.out).mono ?_); rintro e' w3 ⟨rfl, bx⟩; (try clear k0 k1 k2 k3 k4 r0 r1 r2 r3 r4 t0 t1 t2 t3 t4); obtain ⟨S1, T1, B1, B2, HB, k0, k1, k2, k3, k4, r0, r1, r2, r3, r4, t0, t1, t2, t3, t4⟩ := keepT S1 T1 B1 B2 HB bx; clear bx)))
    have B2u := z5_blk B2
    have hb2 := z5_below HB (g := w.heap.size + 1) (by omega)
    change bodyPost _ _ _ _ _ (z5 w3 (w.heap.size + 1))
    generalize z5 w3 (w.heap.size + 1) = Wd at B2u hb2 ⊢
    apply bodyPost_ret (v := .tuple #[.agg #[.int .i64 0, .int .i64 0, .int .i64 0, .slice none 0 0, .slice none 0 0], .int .i64 0, .int .i64 2])
    · exact results_cell2 Tryz.results35 _ Wd _ 25 #[.int .i64 0, .int .i64 0, .int .i64 0, .slice none 0 0, .slice none 0 0] (0, 0) _ rfl B2u Tryz.underlying25 rfl (by kernel_rfl)
    · rfl
    · exact ⟨rfl, hb2⟩
  · by_cases hi : I < 0
    · obtain rfl : c = 4 := by simpa [hi] using hc.symm
      clear hc hne
      go_enter Tryz.func35, Tryz.ntmps35
      go_wp2_with (first | (go_at_call 10; ((with_reducible refine (smay_any s _ _ S1 T1 _ HM.out).mono ?_); rintro e' w3 ⟨rfl, bx⟩; (try clear k0 k1 k2 k3 k4 r0 r1 r2 r3 r4 t0 t1 t2 t3 t4); obtain ⟨S1, T1, B1, B2, HB, k0, k1, k2, k3, k4, r0, r1, r2, r3, r4, t0, t1, t2, t3, t4⟩ := keepT S1 T1 B1 B2 HB bx; clear bx)) | (go_at_call 52; ((with_reducible refine (pBook_any s _ z _ S1).mono ?_); rintro e' w4 ⟨rfl, bx⟩; rw [HI.out]; (try clear k0 k1 k2 k3 k4 r0 r1 r2 r3 r4 t0 t1 t2 t3 t4); obtain ⟨S1, T1, B1, B2, HB, k0, k1, k2, k3, k4, r0, r1, r2, r3, r4, t0, t1, t2, t3, t4⟩ := keepT S1 T1 B1 B2 HB bx; clear bx)))
      have B2u := z5_blk B2
      have hb2 := z5_below HB (g := w.heap.size + 1) (by omega)
      change bodyPost _ _ _ _ _ (z5 w4 (w.heap.size + 1))
      generalize z5 w4 (w.heap.size + 1) = Wd at B2u hb2 ⊢
      apply bodyPost_ret (v := .tuple #[.agg #[.int .i64 0, .int .i64 0, .int .i64 0, .slice none 0 0, .slice none 0 0], .int .i64 0, .int .i64 4])
      · exact results_cell2 Tryz.results35 _ Wd _ 25 #[.int .i64 0, .int .i64 0, .int .i64 0, .slice none 0 0, .slice none 0 0] (0, 0) _ rfl B2u Tryz.underlying25 rfl (by kernel_rfl)
      · rfl
      · exact ⟨rfl, hb2⟩
    · cases N
      · obtain rfl : c = 6 := by simpa [hi] using hc.symm
        clear hc hne
        go_enter Tryz.func35, Tryz.ntmps35
        go_wp2_with (first | (go_at_call 10; ((with_reducible refine (smay_any s _ _ S1 T1 _ HM.out).mono ?_); rintro e' w3 ⟨rfl, bx⟩; (try clear k0 k1 k2 k3 k4 r0 r1 r2 r3 r4 t0 t1 t2 t3 t4); obtain ⟨S1, T1, B1, B2, HB, k0, k1, k2, k3, k4, r0, r1, r2, r3, r4, t0, t1, t2, t3, t4⟩ := keepT S1 T1 B1 B2 HB bx; clear bx)) | (go_at_call 52; ((with_reducible refine (pBook_any s _ z _ S1).mono ?_); rintro e' w4 ⟨rfl, bx⟩; rw [HI.out]; (try clear k0 k1 k2 k3 k4 r0 r1 r2 r3 r4 t0 t1 t2 t3 t4); obtain ⟨S1, T1, B1, B2, HB, k0, k1, k2, k3, k4, r0, r1, r2, r3, r4, t0, t1, t2, t3, t4⟩ := keepT S1 T1 B1 B2 HB bx; clear bx)) | (go_at_call 61; ((with_reducible refine (nmay_any x _ _ T1 HN.out).mono ?_); rintro e' w5 ⟨rfl, bx⟩; (try clear k0 k1 k2 k3 k4 r0 r1 r2 r3 r4 t0 t1 t2 t3 t4); obtain ⟨S1, T1, B1, B2, HB, k0, k1, k2, k3, k4, r0, r1, r2, r3, r4, t0, t1, t2, t3, t4⟩ := keepT S1 T1 B1 B2 HB bx; clear bx)))
        have B2u := z5_blk B2
        have hb2 := z5_below HB (g := w.heap.size + 1) (by omega)
        change bodyPost _ _ _ _ _ (z5 w5 (w.heap.size + 1))
        generalize z5 w5 (w.heap.size + 1) = Wd at B2u hb2 ⊢
        apply bodyPost_ret (v := .tuple #[.agg #[.int .i64 0, .int .i64 0, .int .i64 0, .slice none 0 0, .slice none 0 0], .int .i64 0, .int .i64 6])
        · exact results_cell2 Tryz.results35 _ Wd _ 25 #[.int .i64 0, .int .i64 0, .int .i64 0, .slice none 0 0, .slice none 0 0] (0, 0) _ rfl B2u Tryz.underlying25 rfl (by kernel_rfl)
        · rfl
        · exact ⟨rfl, hb2⟩
      · cases K_
        · by_cases h6 : 12 ≤ n
          · obtain rfl : c = 3 := by simpa [hi, h6] using hc.symm
            have g6 : (12 : Int) ≤ (n : Int) := by omega
            clear hc hne h6
            go_enter Tryz.func35, Tryz.ntmps35
            go_wp2_with (first | (go_at_call 10; ((with_reducible refine (smay_any s _ _ S1 T1 _ HM.out).mono ?_); rintro e' w3 ⟨rfl, bx⟩; (try clear k0 k1 k2 k3 k4 r0 r1 r2 r3 r4 t0 t1 t2 t3 t4); obtain ⟨S1, T1, B1, B2, HB, k0, k1, k2, k3, k4, r0, r1, r2, r3, r4, t0, t1, t2, t3, t4⟩ := keepT S1 T1 B1 B2 HB bx; clear bx)) | (go_at_call 52; ((with_reducible refine (pBook_any s _ z _ S1).mono ?_); rintro e' w4 ⟨rfl, bx⟩; rw [HI.out]; (try clear k0 k1 k2 k3 k4 r0 r1 r2 r3 r4 t0 t1 t2 t3 t4); obtain ⟨S1, T1, B1, B2, HB, k0, k1, k2, k3, k4, r0, r1, r2, r3, r4, t0, t1, t2, t3, t4⟩ := keepT S1 T1 B1 B2 HB bx; clear bx)) | (go_at_call 61; ((with_reducible refine (nmay_any x _ _ T1 HN.out).mono ?_); rintro e' w5 ⟨rfl, bx⟩; (try clear k0 k1 k2 k3 k4 r0 r1 r2 r3 r4 t0 t1 t2 t3 t4); obtain ⟨S1, T1, B1, B2, HB, k0, k1, k2, k3, k4, r0, r1, r2, r3, r4, t0, t1, t2, t3, t4⟩ := keepT S1 T1 B1 B2 HB bx; clear bx)) | (go_at_call 69; ((with_reducible refine (nTaken_any s _ z x _ _ S1 _ HK.out).mono ?_); rintro e' w6 ⟨rfl, bx⟩; (try clear k0 k1 k2 k3 k4 r0 r1 r2 r3 r4 t0 t1 t2 t3 t4); obtain ⟨S1, T1, B1, B2, HB, k0, k1, k2, k3, k4, r0, r1, r2, r3, r4, t0, t1, t2, t3, t4⟩ := keepT S1 T1 B1 B2 HB bx; clear bx)))
            have B2u := z5_blk B2
            have hb2 := z5_below HB (g := w.heap.size + 1) (by omega)
            change bodyPost _ _ _ _ _ (z5 w6 (w.heap.size + 1))
            generalize z5 w6 (w.heap.size + 1) = Wd at B2u hb2 ⊢
            apply bodyPost_ret (v := .tuple #[.agg #[.int .i64 0, .int .i64 0, .int .i64 0, .slice none 0 0, .slice none 0 0], .int .i64 0, .int .i64 3])
            · exact results_cell2 Tryz.results35 _ Wd _ 25 #[.int .i64 0, .int .i64 0, .int .i64 0, .slice none 0 0, .slice none 0 0] (0, 0) _ rfl B2u Tryz.underlying25 rfl (by kernel_rfl)
            · rfl
            · exact ⟨rfl, hb2⟩
          · by_cases h7 : 65536 ≤ s.nn
            · obtain rfl : c = 3 := by simpa [hi, h6, h7] using hc.symm
              have g6 : ¬ (12 : Int) ≤ (n : Int) := by omega
              clear hc hne h6
              go_enter Tryz.func35, Tryz.ntmps35
              go_wp2_with (first | (go_at_call 10; ((with_reducible refine (smay_any s _ _ S1 T1 _ HM.out).mono ?_); rintro e' w3 ⟨rfl, bx⟩; (try clear k0 k1 k2 k3 k4 r0 r1 r2 r3 r4 t0 t1 t2 t3 t4); obtain ⟨S1, T1, B1, B2, HB, k0, k1, k2, k3, k4, r0, r1, r2, r3, r4, t0, t1, t2, t3, t4⟩ := keepT S1 T1 B1 B2 HB bx; clear bx)) | (go_at_call 52; ((with_reducible refine (pBook_any s _ z _ S1).mono ?_); rintro e' w4 ⟨rfl, bx⟩; rw [HI.out]; (try clear k0 k1 k2 k3 k4 r0 r1 r2 r3 r4 t0 t1 t2 t3 t4); obtain ⟨S1, T1, B1, B2, HB, k0, k1, k2, k3, k4, r0, r1, r2, r3, r4, t0, t1, t2, t3, t4⟩ := keepT S1 T1 B1 B2 HB bx; clear bx)) | (go_at_call 61; ((with_reducible refine (nmay_any x _ _ T1 HN.out).mono ?_); rintro e' w5 ⟨rfl, bx⟩; (try clear k0 k1 k2 k3 k4 r0 r1 r2 r3 r4 t0 t1 t2 t3 t4); obtain ⟨S1, T1, B1, B2, HB, k0, k1, k2, k3, k4, r0, r1, r2, r3, r4, t0, t1, t2, t3, t4⟩ := keepT S1 T1 B1 B2 HB bx; clear bx)) | (go_at_call 69; ((with_reducible refine (nTaken_any s _ z x _ _ S1 _ HK.out).mono ?_); rintro e' w6 ⟨rfl, bx⟩; (try clear k0 k1 k2 k3 k4 r0 r1 r2 r3 r4 t0 t1 t2 t3 t4); obtain ⟨S1, T1, B1, B2, HB, k0, k1, k2, k3, k4, r0, r1, r2, r3, r4, t0, t1, t2, t3, t4⟩ := keepT S1 T1 B1 B2 HB bx; clear bx)))
              have B2u := z5_blk B2
              have hb2 := z5_below HB (g := w.heap.size + 1) (by omega)
              change bodyPost _ _ _ _ _ (z5 w6 (w.heap.size + 1))
              generalize z5 w6 (w.heap.size + 1) = Wd at B2u hb2 ⊢
              apply bodyPost_ret (v := .tuple #[.agg #[.int .i64 0, .int .i64 0, .int .i64 0, .slice none 0 0, .slice none 0 0], .int .i64 0, .int .i64 3])
              · exact results_cell2 Tryz.results35 _ Wd _ 25 #[.int .i64 0, .int .i64 0, .int .i64 0, .slice none 0 0, .slice none 0 0] (0, 0) _ rfl B2u Tryz.underlying25 rfl (by kernel_rfl)
              · rfl
              · exact ⟨rfl, hb2⟩
            · exact absurd (by simpa [hi, h6, h7] using hc.symm) hne
        · obtain rfl : c = 7 := by simpa [hi] using hc.symm
          clear hc hne
          go_enter Tryz.func35, Tryz.ntmps35
          go_wp2_with (first | (go_at_call 10; ((with_reducible refine (smay_any s _ _ S1 T1 _ HM.out).mono ?_); rintro e' w3 ⟨rfl, bx⟩; (try clear k0 k1 k2 k3 k4 r0 r1 r2 r3 r4 t0 t1 t2 t3 t4); obtain ⟨S1, T1, B1, B2, HB, k0, k1, k2, k3, k4, r0, r1, r2, r3, r4, t0, t1, t2, t3, t4⟩ := keepT S1 T1 B1 B2 HB bx; clear bx)) | (go_at_call 52; ((with_reducible refine (pBook_any s _ z _ S1).mono ?_); rintro e' w4 ⟨rfl, bx⟩; rw [HI.out]; (try clear k0 k1 k2 k3 k4 r0 r1 r2 r3 r4 t0 t1 t2 t3 t4); obtain ⟨S1, T1, B1, B2, HB, k0, k1, k2, k3, k4, r0, r1, r2, r3, r4, t0, t1, t2, t3, t4⟩ := keepT S1 T1 B1 B2 HB bx; clear bx)) | (go_at_call 61; ((with_reducible refine (nmay_any x _ _ T1 HN.out).mono ?_); rintro e' w5 ⟨rfl, bx⟩; (try clear k0 k1 k2 k3 k4 r0 r1 r2 r3 r4 t0 t1 t2 t3 t4); obtain ⟨S1, T1, B1, B2, HB, k0, k1, k2, k3, k4, r0, r1, r2, r3, r4, t0, t1, t2, t3, t4⟩ := keepT S1 T1 B1 B2 HB bx; clear bx)) | (go_at_call 69; ((with_reducible refine (nTaken_any s _ z x _ _ S1 _ HK.out).mono ?_); rintro e' w6 ⟨rfl, bx⟩; (try clear k0 k1 k2 k3 k4 r0 r1 r2 r3 r4 t0 t1 t2 t3 t4); obtain ⟨S1, T1, B1, B2, HB, k0, k1, k2, k3, k4, r0, r1, r2, r3, r4, t0, t1, t2, t3, t4⟩ := keepT S1 T1 B1 B2 HB bx; clear bx)))
          have B2u := z5_blk B2
          have hb2 := z5_below HB (g := w.heap.size + 1) (by omega)
          change bodyPost _ _ _ _ _ (z5 w6 (w.heap.size + 1))
          generalize z5 w6 (w.heap.size + 1) = Wd at B2u hb2 ⊢
          apply bodyPost_ret (v := .tuple #[.agg #[.int .i64 0, .int .i64 0, .int .i64 0, .slice none 0 0, .slice none 0 0], .int .i64 0, .int .i64 7])
          · exact results_cell2 Tryz.results35 _ Wd _ 25 #[.int .i64 0, .int .i64 0, .int .i64 0, .slice none 0 0, .slice none 0 0] (0, 0) _ rfl B2u Tryz.underlying25 rfl (by kernel_rfl)
          · rfl
          · exact ⟨rfl, hb2⟩
theorem make_all (s : Sf) (v : Value) (x : ByteArray) (w : World) (hS : ShR w w.heap.size v s) (hT : Tabs w) (c : Int) (hc : makeC s x = c) (N : Int) (hN : cond (c == 0) s.nb 0 = N) (T : Sf) (hR : cond (c == 0) (makeS s x) zeroSf = T) :
    Calls Tryz.prog 29 #[v, .string x] w fun e' w' => ∃ va, e' = .returned (.tuple #[va, .int .i64 N, .int .i64 c]) ∧ ShW w' w.heap.size va T ∧ Below w.heap.size w w' := by
  by_cases h0 : c = 0
  · subst h0
    have hR' : makeS s x = T := hR
    subst hR'
    have hN' : s.nb = N := hN
    subst hN'
    exact (make_yes s v x w hS hT hc).mono fun e' w' ⟨v', h1, h2, h3⟩ => ⟨v', h1, h2, h3⟩
  · have hb : (c == 0) = false := by simpa using h0
    rw [hb] at hR
    have hR' : zeroSf = T := hR
    subst hR'
    rw [hb] at hN
    have hN' : (0 : Int) = N := hN
    subst hN'
    exact (make_no s v x w hS hT c hc h0).mono fun e' w' ⟨h1, h2⟩ => ⟨_, h1, zeroW _ _, h2⟩
theorem rmake_all (s : Sf) (v : Value) (x : ByteArray) (w : World) (hS : ShR w w.heap.size v s) (hz : SzF s) (hx : x.size ≤ 100000) (c : Int) (hc : makeC s x = c) (N : Int) (hN : cond (c == 0) s.nb 0 = N) (T : Sf) (hR : cond (c == 0) (makeS s x) zeroSf = T) :
    Calls Tryz.prog 30 #[v, .string x] w fun e' w' => ∃ va, e' = .returned (.tuple #[va, .int .i64 N, .int .i64 c]) ∧ ShW w' w.heap.size va T ∧ Below w.heap.size w w' := by
  by_cases h0 : c = 0
  · subst h0
    have hR' : makeS s x = T := hR
    subst hR'
    have hN' : s.nb = N := hN
    subst hN'
    exact (rmake_yes s v x w hS hz hx hc).mono fun e' w' ⟨v', h1, h2, h3⟩ => ⟨v', h1, h2, h3⟩
  · have hb : (c == 0) = false := by simpa using h0
    rw [hb] at hR
    have hR' : zeroSf = T := hR
    subst hR'
    rw [hb] at hN
    have hN' : (0 : Int) = N := hN
    subst hN'
    exact (rmake_no s v x w hS hz hx c hc h0).mono fun e' w' ⟨h1, h2⟩ => ⟨_, h1, zeroW _ _, h2⟩
theorem ren_all (s : Sf) (v : Value) (y : Int) (x : ByteArray) (w : World) (hS : ShR w w.heap.size v s) (hT : Tabs w) (c : Int) (hc : renC s y x = c) (T : Sf) (hR : cond (c == 0) (renS s y x) zeroSf = T) :
    Calls Tryz.prog 31 #[v, .int .i64 y, .string x] w fun e' w' => ∃ va, e' = .returned (.tuple #[va, .int .i64 c]) ∧ ShW w' w.heap.size va T ∧ Below w.heap.size w w' := by
  by_cases h0 : c = 0
  · subst h0
    have hR' : renS s y x = T := hR
    subst hR'
    exact (ren_yes s v y x w hS hT hc).mono fun e' w' ⟨v', h1, h2, h3⟩ => ⟨v', h1, h2, h3⟩
  · have hb : (c == 0) = false := by simpa using h0
    rw [hb] at hR
    have hR' : zeroSf = T := hR
    subst hR'
    exact (ren_no s v y x w hS hT c hc h0).mono fun e' w' ⟨h1, h2⟩ => ⟨_, h1, zeroW _ _, h2⟩
theorem rren_all (s : Sf) (v : Value) (y : Int) (x : ByteArray) (w : World) (hS : ShR w w.heap.size v s) (hz : SzF s) (hx : x.size ≤ 100000) (c : Int) (hc : renC s y x = c) (T : Sf) (hR : cond (c == 0) (renS s y x) zeroSf = T) :
    Calls Tryz.prog 32 #[v, .int .i64 y, .string x] w fun e' w' => ∃ va, e' = .returned (.tuple #[va, .int .i64 c]) ∧ ShW w' w.heap.size va T ∧ Below w.heap.size w w' := by
  by_cases h0 : c = 0
  · subst h0
    have hR' : renS s y x = T := hR
    subst hR'
    exact (rren_yes s v y x w hS hz hx hc).mono fun e' w' ⟨v', h1, h2, h3⟩ => ⟨v', h1, h2, h3⟩
  · have hb : (c == 0) = false := by simpa using h0
    rw [hb] at hR
    have hR' : zeroSf = T := hR
    subst hR'
    exact (rren_no s v y x w hS hz hx c hc h0).mono fun e' w' ⟨h1, h2⟩ => ⟨_, h1, zeroW _ _, h2⟩
theorem drop_all (s : Sf) (v : Value) (y : Int) (w : World) (hS : ShR w w.heap.size v s) (hT : Tabs w) (c : Int) (hc : dropC s y = c) (T : Sf) (hR : cond (c == 0) (dropS s y) zeroSf = T) :
    Calls Tryz.prog 33 #[v, .int .i64 y] w fun e' w' => ∃ va, e' = .returned (.tuple #[va, .int .i64 c]) ∧ ShW w' w.heap.size va T ∧ Below w.heap.size w w' := by
  by_cases h0 : c = 0
  · subst h0
    have hR' : dropS s y = T := hR
    subst hR'
    exact (drop_yes s v y w hS hT hc).mono fun e' w' ⟨v', h1, h2, h3⟩ => ⟨v', h1, h2, h3⟩
  · have hb : (c == 0) = false := by simpa using h0
    rw [hb] at hR
    have hR' : zeroSf = T := hR
    subst hR'
    exact (drop_no s v y w hS hT c hc h0).mono fun e' w' ⟨h1, h2⟩ => ⟨_, h1, zeroW _ _, h2⟩
theorem rdrop_all (s : Sf) (v : Value) (y : Int) (w : World) (hS : ShR w w.heap.size v s) (hz : SzF s) (c : Int) (hc : dropC s y = c) (T : Sf) (hR : cond (c == 0) (dropS s y) zeroSf = T) :
    Calls Tryz.prog 34 #[v, .int .i64 y] w fun e' w' => ∃ va, e' = .returned (.tuple #[va, .int .i64 c]) ∧ ShW w' w.heap.size va T ∧ Below w.heap.size w w' := by
  by_cases h0 : c = 0
  · subst h0
    have hR' : dropS s y = T := hR
    subst hR'
    exact (rdrop_yes s v y w hS hz hc).mono fun e' w' ⟨v', h1, h2, h3⟩ => ⟨v', h1, h2, h3⟩
  · have hb : (c == 0) = false := by simpa using h0
    rw [hb] at hR
    have hR' : zeroSf = T := hR
    subst hR'
    exact (rdrop_no s v y w hS hz c hc h0).mono fun e' w' ⟨h1, h2⟩ => ⟨_, h1, zeroW _ _, h2⟩
theorem note_all (s : Sf) (v : Value) (z : Int) (x : ByteArray) (w : World) (hS : ShR w w.heap.size v s) (hT : Tabs w) (c : Int) (hc : noteC s z x = c) (N : Int) (hN : cond (c == 0) s.nn 0 = N) (T : Sf) (hR : cond (c == 0) (noteS s z x) zeroSf = T) :
    Calls Tryz.prog 35 #[v, .int .i64 z, .string x] w fun e' w' => ∃ va, e' = .returned (.tuple #[va, .int .i64 N, .int .i64 c]) ∧ ShW w' w.heap.size va T ∧ Below w.heap.size w w' := by
  by_cases h0 : c = 0
  · subst h0
    have hR' : noteS s z x = T := hR
    subst hR'
    have hN' : s.nn = N := hN
    subst hN'
    exact (note_yes s v z x w hS hT hc).mono fun e' w' ⟨v', h1, h2, h3⟩ => ⟨v', h1, h2, h3⟩
  · have hb : (c == 0) = false := by simpa using h0
    rw [hb] at hR
    have hR' : zeroSf = T := hR
    subst hR'
    rw [hb] at hN
    have hN' : (0 : Int) = N := hN
    subst hN'
    exact (note_no s v z x w hS hT c hc h0).mono fun e' w' ⟨h1, h2⟩ => ⟨_, h1, zeroW _ _, h2⟩
theorem radd_all (s : Sf) (v : Value) (z : Int) (x : ByteArray) (w : World) (hS : ShR w w.heap.size v s) (hz : SzF s) (hx : x.size ≤ 100000) (c : Int) (hc : noteC s z x = c) (N : Int) (hN : cond (c == 0) s.nn 0 = N) (T : Sf) (hR : cond (c == 0) (noteS s z x) zeroSf = T) :
    Calls Tryz.prog 36 #[v, .int .i64 z, .string x] w fun e' w' => ∃ va, e' = .returned (.tuple #[va, .int .i64 N, .int .i64 c]) ∧ ShW w' w.heap.size va T ∧ Below w.heap.size w w' := by
  by_cases h0 : c = 0
  · subst h0
    have hR' : noteS s z x = T := hR
    subst hR'
    have hN' : s.nn = N := hN
    subst hN'
    exact (radd_yes s v z x w hS hz hx hc).mono fun e' w' ⟨v', h1, h2, h3⟩ => ⟨v', h1, h2, h3⟩
  · have hb : (c == 0) = false := by simpa using h0
    rw [hb] at hR
    have hR' : zeroSf = T := hR
    subst hR'
    rw [hb] at hN
    have hN' : (0 : Int) = N := hN
    subst hN'
    exact (radd_no s v z x w hS hz hx c hc h0).mono fun e' w' ⟨h1, h2⟩ => ⟨_, h1, zeroW _ _, h2⟩
theorem ret_all (s : Sf) (v : Value) (y : Int) (x : ByteArray) (w : World) (hS : ShR w w.heap.size v s) (hT : Tabs w) (c : Int) (hc : retC s y x = c) (T : Sf) (hR : cond (c == 0) (retS s y x) zeroSf = T) :
    Calls Tryz.prog 37 #[v, .int .i64 y, .string x] w fun e' w' => ∃ va, e' = .returned (.tuple #[va, .int .i64 c]) ∧ ShW w' w.heap.size va T ∧ Below w.heap.size w w' := by
  by_cases h0 : c = 0
  · subst h0
    have hR' : retS s y x = T := hR
    subst hR'
    exact (ret_yes s v y x w hS hT hc).mono fun e' w' ⟨v', h1, h2, h3⟩ => ⟨v', h1, h2, h3⟩
  · have hb : (c == 0) = false := by simpa using h0
    rw [hb] at hR
    have hR' : zeroSf = T := hR
    subst hR'
    exact (ret_no s v y x w hS hT c hc h0).mono fun e' w' ⟨h1, h2⟩ => ⟨_, h1, zeroW _ _, h2⟩
theorem rret_all (s : Sf) (v : Value) (y : Int) (x : ByteArray) (w : World) (hS : ShR w w.heap.size v s) (hz : SzF s) (hx : x.size ≤ 100000) (c : Int) (hc : retC s y x = c) (T : Sf) (hR : cond (c == 0) (retS s y x) zeroSf = T) :
    Calls Tryz.prog 38 #[v, .int .i64 y, .string x] w fun e' w' => ∃ va, e' = .returned (.tuple #[va, .int .i64 c]) ∧ ShW w' w.heap.size va T ∧ Below w.heap.size w w' := by
  by_cases h0 : c = 0
  · subst h0
    have hR' : retS s y x = T := hR
    subst hR'
    exact (rret_yes s v y x w hS hz hx hc).mono fun e' w' ⟨v', h1, h2, h3⟩ => ⟨v', h1, h2, h3⟩
  · have hb : (c == 0) = false := by simpa using h0
    rw [hb] at hR
    have hR' : zeroSf = T := hR
    subst hR'
    exact (rret_no s v y x w hS hz hx c hc h0).mono fun e' w' ⟨h1, h2⟩ => ⟨_, h1, zeroW _ _, h2⟩
theorem mov_all (s : Sf) (v : Value) (y : Int) (z : Int) (w : World) (hS : ShR w w.heap.size v s) (hT : Tabs w) (c : Int) (hc : movC s y z = c) (T : Sf) (hR : cond (c == 0) (movS s y z) zeroSf = T) :
    Calls Tryz.prog 39 #[v, .int .i64 y, .int .i64 z] w fun e' w' => ∃ va, e' = .returned (.tuple #[va, .int .i64 c]) ∧ ShW w' w.heap.size va T ∧ Below w.heap.size w w' := by
  by_cases h0 : c = 0
  · subst h0
    have hR' : movS s y z = T := hR
    subst hR'
    exact (mov_yes s v y z w hS hT hc).mono fun e' w' ⟨v', h1, h2, h3⟩ => ⟨v', h1, h2, h3⟩
  · have hb : (c == 0) = false := by simpa using h0
    rw [hb] at hR
    have hR' : zeroSf = T := hR
    subst hR'
    exact (mov_no s v y z w hS hT c hc h0).mono fun e' w' ⟨h1, h2⟩ => ⟨_, h1, zeroW _ _, h2⟩
theorem rmov_all (s : Sf) (v : Value) (y : Int) (z : Int) (w : World) (hS : ShR w w.heap.size v s) (hz : SzF s) (c : Int) (hc : movC s y z = c) (T : Sf) (hR : cond (c == 0) (movS s y z) zeroSf = T) :
    Calls Tryz.prog 40 #[v, .int .i64 y, .int .i64 z] w fun e' w' => ∃ va, e' = .returned (.tuple #[va, .int .i64 c]) ∧ ShW w' w.heap.size va T ∧ Below w.heap.size w w' := by
  by_cases h0 : c = 0
  · subst h0
    have hR' : movS s y z = T := hR
    subst hR'
    exact (rmov_yes s v y z w hS hz hc).mono fun e' w' ⟨v', h1, h2, h3⟩ => ⟨v', h1, h2, h3⟩
  · have hb : (c == 0) = false := by simpa using h0
    rw [hb] at hR
    have hR' : zeroSf = T := hR
    subst hR'
    exact (rmov_no s v y z w hS hz c hc h0).mono fun e' w' ⟨h1, h2⟩ => ⟨_, h1, zeroW _ _, h2⟩
theorem disc_all (s : Sf) (v : Value) (y : Int) (w : World) (hS : ShR w w.heap.size v s) (hT : Tabs w) (c : Int) (hc : discC s y = c) (T : Sf) (hR : cond (c == 0) (discS s y) zeroSf = T) :
    Calls Tryz.prog 41 #[v, .int .i64 y] w fun e' w' => ∃ va, e' = .returned (.tuple #[va, .int .i64 c]) ∧ ShW w' w.heap.size va T ∧ Below w.heap.size w w' := by
  by_cases h0 : c = 0
  · subst h0
    have hR' : discS s y = T := hR
    subst hR'
    exact (disc_yes s v y w hS hT hc).mono fun e' w' ⟨v', h1, h2, h3⟩ => ⟨v', h1, h2, h3⟩
  · have hb : (c == 0) = false := by simpa using h0
    rw [hb] at hR
    have hR' : zeroSf = T := hR
    subst hR'
    exact (disc_no s v y w hS hT c hc h0).mono fun e' w' ⟨h1, h2⟩ => ⟨_, h1, zeroW _ _, h2⟩
theorem rdisc_all (s : Sf) (v : Value) (y : Int) (w : World) (hS : ShR w w.heap.size v s) (hz : SzF s) (c : Int) (hc : discC s y = c) (T : Sf) (hR : cond (c == 0) (discS s y) zeroSf = T) :
    Calls Tryz.prog 42 #[v, .int .i64 y] w fun e' w' => ∃ va, e' = .returned (.tuple #[va, .int .i64 c]) ∧ ShW w' w.heap.size va T ∧ Below w.heap.size w w' := by
  by_cases h0 : c = 0
  · subst h0
    have hR' : discS s y = T := hR
    subst hR'
    exact (rdisc_yes s v y w hS hz hc).mono fun e' w' ⟨v', h1, h2, h3⟩ => ⟨v', h1, h2, h3⟩
  · have hb : (c == 0) = false := by simpa using h0
    rw [hb] at hR
    have hR' : zeroSf = T := hR
    subst hR'
    exact (rdisc_no s v y w hS hz c hc h0).mono fun e' w' ⟨h1, h2⟩ => ⟨_, h1, zeroW _ _, h2⟩
end Go.Proofs.YtokhapafpjejaaaGreatDoor
