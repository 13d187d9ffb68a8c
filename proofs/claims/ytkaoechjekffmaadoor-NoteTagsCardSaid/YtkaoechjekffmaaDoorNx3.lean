/- slices.Index on tags; Untag. -/
import Derived.Test.YtkaoechjekffmaaDoorNx2
import Derived.Shelf.SlicesE.Index
import Derived.Shelf.Spec.SearchS
import Derived.Shelf.Spec.SlicesInsert
import Derived.Shelf.Spec.SlicesInsertGrow
import Derived.Test.YtkaoechjekffmaaDoorNx1
import Derived.Test.YtkaoechjekffmaaDoorRows
import Derived.SevenTiedAt
import Derived.LaidHandle
import Derived.Lib.LaidIn
import Derived.Lib.LaidU8T
import Derived.PinnedBridge
import Derived.ChangeMaps5
set_option linter.unusedSimpArgs false
set_option linter.unusedVariables false
set_option maxRecDepth 100000
set_option maxHeartbeats 16000000
namespace Go.Proofs.YtkaoechjekffmaaDoor
open Go.ChangeShapes Go.WideShapes Go.ChangeAt Go.RowKit
attribute [local go_sem ↓] Go.wp_at_zero Go.wp_at_succ
theorem tix_eq (l : List ByteArray) (x : ByteArray) : Lib.idxBy (fun a b : ByteArray => a.toList == b.toList) (l.take l.length) x = tgAt l x := by
  have hs : ∀ t : ByteArray, sameS t x = (x.toList == t.toList) := fun t => by
    unfold sameS
    exact Bool.eq_iff_iff.2 ⟨fun h => by rw [beq_iff_eq] at h ⊢; exact h.symm, fun h => by rw [beq_iff_eq] at h ⊢; exact h.symm⟩
  have hb : ∀ (m : Nat), m ≤ l.length → (l.take m).any (fun t => sameS t x) = false → ∀ j, j < m → (x.toList == (l[j]!).toList) = false := fun m hm h j hj => by
    have hjl : j < l.length := by omega
    have h1 : l[j] ∈ l.take m := List.mem_take_iff_getElem.2 ⟨j, by omega, rfl⟩
    have h2 := (List.any_eq_false.1 h) _ h1
    rw [getElem!_pos l j hjl, ← hs]
    simpa using h2
  unfold tgAt
  rcases idxP_cases (fun t => sameS t x) l with ⟨h1, h2⟩ | ⟨k, b, h1, h2, h3, h4⟩
  · rw [h1]
    exact Lib.idxBy_miss _ l l.length x (fun j hj => hb l.length (Nat.le_refl _) (by rw [List.take_length]; exact h2) j hj)
  · rw [h1]
    have hkl := (List.getElem?_eq_some_iff.1 h2).1
    refine Lib.idxBy_hit _ l l.length k x hkl (Nat.le_refl _) ?_ (fun j hj => hb k (by omega) h4 j hj)
    rw [getElem!_pos l k hkl, (List.getElem?_eq_some_iff.1 h2).2]
    have : sameS b x = true := h3
    rw [hs] at this
    exact this
theorem tixStr (l : List ByteArray) (L : Nat) (A : Option Addr) (c : Nat) (x : ByteArray) (w : World) (hL : l.length = L) (hS : Sl w w.heap.size A (l.map strV)) (h4 : L ≤ 100000) :
    Calls Tryd.prog 51 #[.slice A L c, .string x] w fun e' w' => e' = .returned (.int .i64 (tgAt l x)) ∧ w' = w := by
  by_cases h0 : L = 0
  · subst h0
    have : l = [] := List.length_eq_zero_iff.1 hL
    subst this
    exact AnyE.slices_Index_empty Tryd.laysIndex A c (.string x) w
  · obtain ⟨b, o, rfl, _, hq⟩ := hS.at_ (by rw [List.length_map]; omega)
    have h := AnyE.slices_Index Tryd.laysIndex Value.string (fun a b : ByteArray => a.toList == b.toList) (EqlAt.string _ _) b o L c l x w (by omega) (by omega) (fun j hj => by
      rw [getElem!_pos l j hj]
      exact hq j _ (by rw [List.getElem?_map, List.getElem?_eq_getElem hj]; rfl))
    rw [← hL, tix_eq] at h
    rw [← hL]
    exact h
theorem nunt_no (s : Sf) (v : Value) (y : Int) (x : ByteArray) (w : World) (hS : ShR w w.heap.size v s) (hT : Tabs w) (c : Int) (hc : untC s y x = c) (hne : c ≠ 0) :
    Calls Tryd.prog 20 #[v, .int .i64 y, .string x] w fun e' w' => e' = .returned (.tuple #[.agg #[.int .i64 0, .int .i64 0, .int .i64 0, .slice none 0 0, .slice none 0 0], .int .i64 c]) ∧ Below w.heap.size w w' := by
  have hS0 := hS
  obtain ⟨Ab, cb, An, cn, rfl, hB, hN, hcb, hmb, hcn, hmn⟩ := hS.ex
  clear hS
  obtain ⟨HB, B1, B2, S1⟩ := pre2 hS0
  have T1 := hT.next HB
  by_cases hf : findC s y = 0
  · obtain ⟨k, n, h⟩ := fdF_of hf
    obtain ⟨es, hel, hse, hnt⟩ := hN.ex
    have hkl : k < s.ts.length := (List.getElem?_eq_some_iff.1 h.nt).1
    obtain ⟨e0, he⟩ : ∃ e, es[k]? = some e := ⟨_, List.getElem?_eq_getElem (by omega)⟩
    obtain ⟨At, ct, As, cs, rfl, hAt, -⟩ := (hnt k n e0 h.nt he).ex
    obtain ⟨b1, o1, rfl, l1, q1⟩ := hse.at_ (by omega)
    have y3 := q1 k _ he 3 _ rfl
    have i0 : (0 : Int) ≤ (k : Int) := by omega
    have i1 : (k : Int) < (s.ts.length : Int) := by omega
    have i2 : ¬ (k : Int) < 0 := by omega
    have HL4 : Hid (n.tg.length ≤ 100000) := Lib.hid (h.may.small n (List.mem_of_getElem? h.nt)).1
    have HF := Lib.hid h
    obtain ⟨L, hL⟩ : ∃ L, n.tg.length = L := ⟨_, rfl⟩
    obtain ⟨T, hTe⟩ : ∃ T, s.ts.length = T := ⟨_, rfl⟩
    have HLL := Lib.hid hL
    have HTT := Lib.hid hTe
    rw [hL] at y3
    rw [hTe] at i1 HB B1 B2 S1 T1 ⊢
    rw [hL] at HL4
    unfold untC at hc
    rw [hf, h.of_] at hc
    have hh : hasT n.tg x = false := by
      cases h1 : hasT n.tg x
      · rfl
      · rw [h1] at hc
        exact absurd hc.symm hne
    obtain rfl : c = 4 := by rw [hh] at hc; exact hc.symm
    have HI : Hid (tgAt n.tg x = -1) := Lib.hid (by
      rcases idxP_cases (fun t => sameS t x) n.tg with ⟨h1, _⟩ | ⟨_, b, _, h2, h3, _⟩
      · exact h1
      · have : hasT n.tg x = true := List.any_eq_true.2 ⟨b, List.mem_of_getElem? h2, h3⟩
        rw [hh] at this
        cases this)
    clear hc hne hh h hL hTe hkl he q1 hse hel hnt hN hB hS0 hT hcb hmb hcn hmn hf
    go_enter Tryd.func20, Tryd.ntmps20
    go_wp2_with (first | (go_at_call 44; go_loud (((with_reducible refine (nfind_yes s _ y _ S1 T1 k n HF.out).mono ?_); rintro e' w3 ⟨rfl, bx⟩; (try clear k0 k1 k2 k3 k4 r0 r1 r2 r3 r4 t0 t1 t2 t3 t4); obtain ⟨S1, T1, B1, B2, HB, k0, k1, k2, k3, k4, r0, r1, r2, r3, r4, t0, t1, t2, t3, t4⟩ := keepT S1 T1 B1 B2 HB bx; clear bx; have z3 := (HB.cell (p := ⟨b1, o1 + k * 5 + 3, none⟩) l1).trans y3; have SA := (hAt.below HB).mono_ HB.size))) | (go_at_call 51; go_loud (((with_reducible refine (tixStr n.tg L At ct x _ HLL.out SA HL4.out).mono ?_); rintro e' w5 ⟨rfl, hw5⟩; rw [hw5, HI.out]; clear hw5 w5))))
    have B2u := z5_blk B2
    have hb2 := z5_below HB (g := w.heap.size + 1) (by omega)
    change bodyPost _ _ _ _ _ (z5 w3 (w.heap.size + 1))
    generalize z5 w3 (w.heap.size + 1) = Wd at B2u hb2 ⊢
    apply bodyPost_ret (v := .tuple #[.agg #[.int .i64 0, .int .i64 0, .int .i64 0, .slice none 0 0, .slice none 0 0], .int .i64 4])
    · exact results_cell1 Tryd.results20 _ Wd _ 25 #[.int .i64 0, .int .i64 0, .int .i64 0, .slice none 0 0, .slice none 0 0] (0, 0) _ rfl B2u Tryd.underlying25 rfl (by kernel_rfl)
    · rfl
    · exact ⟨rfl, hb2⟩
  · have hcf : findC s y = c := by
      unfold untC at hc
      have : (findC s y == 0) = false := by simpa using hf
      rw [this] at hc
      exact hc
    have HC := Lib.hid hcf
    have HE := Lib.hid hne
    have he0 : ¬ c = 0 := hne
    clear hf hcf hc hne
    clear hS0 hT hB hN hcb hmb hcn hmn
    go_enter Tryd.func20, Tryd.ntmps20
    go_wp2_with (first | (go_at_call 44; go_loud (((with_reducible refine (nfind_no s _ y _ S1 T1 c HC.out HE.out).mono ?_); rintro e' w3 ⟨rfl, bx⟩; (try clear k0 k1 k2 k3 k4 r0 r1 r2 r3 r4 t0 t1 t2 t3 t4); obtain ⟨S1, T1, B1, B2, HB, k0, k1, k2, k3, k4, r0, r1, r2, r3, r4, t0, t1, t2, t3, t4⟩ := keepT S1 T1 B1 B2 HB bx; clear bx))))
    have B2u := z5_blk B2
    have hb2 := z5_below HB (g := w.heap.size + 1) (by omega)
    change bodyPost _ _ _ _ _ (z5 w3 (w.heap.size + 1))
    generalize z5 w3 (w.heap.size + 1) = Wd at B2u hb2 ⊢
    apply bodyPost_ret (v := .tuple #[.agg #[.int .i64 0, .int .i64 0, .int .i64 0, .slice none 0 0, .slice none 0 0], .int .i64 c])
    · exact results_cell1 Tryd.results20 _ Wd _ 25 #[.int .i64 0, .int .i64 0, .int .i64 0, .slice none 0 0, .slice none 0 0] (0, 0) _ rfl B2u Tryd.underlying25 rfl (by kernel_rfl)
    · rfl
    · exact ⟨rfl, hb2⟩
theorem nunt_yes (s : Sf) (v : Value) (y : Int) (x : ByteArray) (w : World) (hS : ShR w w.heap.size v s) (hT : Tabs w) (hc : untC s y x = 0) :
    Calls Tryd.prog 20 #[v, .int .i64 y, .string x] w fun e' w' => ∃ v', e' = .returned (.tuple #[v', .int .i64 0]) ∧ ShW w' w.heap.size v' (untS s y x) ∧ Below w.heap.size w w' := by
  have hS0 := hS
  obtain ⟨Ab, cb, An, cn, rfl, hB, hN, hcb, hmb, hcn, hmn⟩ := hS.ex
  clear hS
  obtain ⟨HB, B1, B2, S1⟩ := pre2 hS0
  have T1 := hT.next HB
  have hf : findC s y = 0 := by
    unfold untC at hc
    by_cases h : findC s y = 0
    · exact h
    · have h2 : (findC s y == 0) = false := by simpa using h
      rw [h2] at hc
      exact absurd hc h
  obtain ⟨k, n, h⟩ := fdF_of hf
  have hh : hasT n.tg x = true := by
    unfold untC at hc
    rw [hf, h.of_] at hc
    cases h1 : hasT n.tg x
    · rw [h1] at hc
      cases hc
    · rfl
  obtain ⟨p, hp, hpl⟩ : ∃ p : Nat, tgAt n.tg x = (p : Int) ∧ p < n.tg.length := by
    rcases idxP_cases (fun t => sameS t x) n.tg with ⟨_, h2⟩ | ⟨p, b, h1, h2, _, _⟩
    · have h3 : n.tg.any (fun t => sameS t x) = true := hh
      rw [h2] at h3
      cases h3
    · exact ⟨p, h1, (List.getElem?_eq_some_iff.1 h2).1⟩
  have HNN := Lib.hid h.nt
  have hMF := h.may
  have HLB : Hid (s.bs.length ≤ 100000) := Lib.hid (by have := hMF.bl; omega)
  have HLN : Hid (s.ts.length ≤ 100000) := Lib.hid (by have := hMF.tl; omega)
  have HLR := Lib.hid hMF.small
  have HKL : Hid (k < s.ts.length) := Lib.hid (List.getElem?_eq_some_iff.1 h.nt).1
  have HF := Lib.hid h
  obtain ⟨es, hel, hse, hnt⟩ := hN.ex
  have hkl : k < s.ts.length := (List.getElem?_eq_some_iff.1 h.nt).1
  obtain ⟨e0, he⟩ : ∃ e, es[k]? = some e := ⟨_, List.getElem?_eq_getElem (by omega)⟩
  obtain ⟨At, ct, As, cs, rfl, hAt, -⟩ := (hnt k n e0 h.nt he).ex
  obtain ⟨b1, o1, rfl, l1, q1⟩ := hse.at_ (by omega)
  have y3 := q1 k _ he 3 _ rfl
  have i0 : (0 : Int) ≤ (k : Int) := by omega
  have i1 : (k : Int) < (s.ts.length : Int) := by omega
  have i2 : ¬ (k : Int) < 0 := by omega
  have HRS : Hid (untS s y x = { s with ts := s.ts.set k { n with tg := n.tg.eraseIdx p } }) := Lib.hid (by unfold untS; rw [h.of_, h.put, hp]; rfl)
  have HL4 : Hid (n.tg.length ≤ 100000) := Lib.hid (h.may.small n (List.mem_of_getElem? h.nt)).1
  have HI := Lib.hid hp
  obtain ⟨L, hL⟩ : ∃ L, n.tg.length = L := ⟨_, rfl⟩
  obtain ⟨T, hTe⟩ : ∃ T, s.ts.length = T := ⟨_, rfl⟩
  have HLL := Lib.hid hL
  have HTT := Lib.hid hTe
  rw [hL] at y3
  rw [hTe] at i1 HB B1 B2 S1 T1 ⊢
  rw [hL] at HL4 hpl
  have hL8 := HL4.out
  have j0 : ¬ (p : Int) < 0 := by omega
  have j3 : IntKind.i64.wrap ((p : Int) + 1) = (p : Int) + 1 := wrapS _ (by omega) (by omega)
  clear hc hh hp h hL hTe hkl he q1 hse hel hnt hN hB hS0 hT hcb hmb hcn hmn hf hMF
  go_enter Tryd.func20, Tryd.ntmps20
  go_upto_region 7 with (first | (go_at_call 44; go_loud (((with_reducible refine (nfind_yes s _ y _ S1 T1 k n HF.out).mono ?_); rintro e' w3 ⟨rfl, bx⟩; (try clear k0 k1 k2 k3 k4 r0 r1 r2 r3 r4 t0 t1 t2 t3 t4); obtain ⟨S1, T1, B1, B2, HB, k0, k1, k2, k3, k4, r0, r1, r2, r3, r4, t0, t1, t2, t3, t4⟩ := keepT S1 T1 B1 B2 HB bx; clear bx; have z3 := (HB.cell (p := ⟨b1, o1 + k * 5 + 3, none⟩) l1).trans y3; have SA := (hAt.below HB).mono_ HB.size))) | (go_at_call 51; go_loud (((with_reducible refine (tixStr n.tg L At ct x _ HLL.out SA HL4.out).mono ?_); rintro e' w5 ⟨rfl, hw5⟩; rw [hw5, HI.out]; clear hw5 w5))))
  have hW5 : w.heap.size + 2 ≤ w3.heap.size := by have := B2.lt; omega
  go_upto_region 8 with (go_at_call 47; go_loud (((with_reducible refine (clone_ap s _ _ S1 HLB.out HLN.out HLR.out).mono ?_); rintro e' w9 ⟨v6, rfl, hQ, b6⟩; obtain ⟨Ab6, cb6, An6, cn6, rfl, hBk, hNt, q1, q2, q3, q4⟩ := ShA.parts hQ; have B1 := B1.below b6 B1.lt; have B2 := B2.below b6 B2.lt; have HB := btr HB HB.size b6; have hz6 := b6.size; (try clear k0 k1 k2 k3 k4 r0 r1 r2 r3 r4 t0 t1 t2 t3 t4); have k0 := B1.cell_ 0; have t0 := B1.free 0; have k1 := B1.cell_ 1; have t1 := B1.free 1; have k2 := B1.cell_ 2; have t2 := B1.free 2; have k3 := B1.cell_ 3; have t3 := B1.free 3; have k4 := B1.cell_ 4; have t4 := B1.free 4; simp at k0 k1 k2 k3 k4; clear b6 hQ S1 T1)))
  have B1u := B1.st5_ (.int .i64 s.nb) (.int .i64 s.nn) (.int .i64 s.ns) (.slice Ab6 s.bs.length cb6) (.slice An6 s.ts.length cn6)
  have hg6 := st5_grown w9 w.heap.size 0 (.int .i64 s.nb) (.int .i64 s.nn) (.int .i64 s.ns) (.slice Ab6 s.bs.length cb6) (.slice An6 s.ts.length cn6)
  have B2u := B2.grown hg6 (by omega)
  have hBk2 := hBk.far hg6 (by omega)
  have hNt2 := hNt.far hg6 (by omega)
  have hb2 := below_grown HB hg6 (Nat.le_refl _) HB.size
  have HSZ : Hid (w3.heap.size ≤ (st5 w9 w.heap.size 0 (.int .i64 s.nb) (.int .i64 s.nn) (.int .i64 s.ns) (.slice Ab6 s.bs.length cb6) (.slice An6 s.ts.length cn6)).heap.size) := Lib.hid (by have := hz6; have := hg6.size; omega)
  clear hg6
  obtain ⟨Wd, hWd⟩ : ∃ V : World, V = (st5 w9 w.heap.size 0 (.int .i64 s.nb) (.int .i64 s.nn) (.int .i64 s.ns) (.slice Ab6 s.bs.length cb6) (.slice An6 s.ts.length cn6)) := ⟨_, rfl⟩
  change Code.wp _ _ _ _ (st5 w9 w.heap.size 0 (.int .i64 s.nb) (.int .i64 s.nn) (.int .i64 s.ns) (.slice Ab6 s.bs.length cb6) (.slice An6 s.ts.length cn6))
  rw [← hWd] at B1u B2u hBk2 hNt2 hb2 HSZ ⊢
  clear hWd y3 z3 SA hAt B1 B2 HB hBk hNt k0 k1 k2 k3 k4 t0 t1 t2 t3 t4 hz6
  have HW5 := Lib.hid hW5
  obtain ⟨es, hel, hon, hnt, hap⟩ := hNt2
  have hkT := (List.getElem?_eq_some_iff.1 HNN.out).1
  obtain ⟨e0, he⟩ : ∃ e, es[k]? = some e := ⟨_, List.getElem?_eq_getElem (by omega)⟩
  obtain ⟨vt, vs, rfl, q1, q2⟩ := hnt k n e0 HNN.out he
  obtain ⟨At9, ct9, rfl, ht1, ht2⟩ := own_shape q1
  obtain ⟨As9, cs9, rfl, hs1, hs2⟩ := own_shape q2
  obtain ⟨gn, hgn, hgn2⟩ : ∃ gn, An6 = some ⟨gn, 0, none⟩ ∧ w3.heap.size ≤ gn := by
    rcases hon.2 with ⟨h, h0⟩ | ⟨g, c, cu, h, hb, _⟩
    · omega
    · injection h with h1 h2 h3
      exact ⟨g, h1, hb⟩
  subst hgn
  have h5 := es_five hel hnt
  have hga : gn ≠ Wd.heap.size := by
    have := (hon.lt gn rfl).2
    omega
  have HE := Lib.hid he
  have HEL := Lib.hid hel
  have HON := Lib.hid hon
  rw [HLL.out] at he q1
  rw [HTT.out] at hon hel
  obtain ⟨gs, hgs, hgs2⟩ : ∃ gs, At9 = some ⟨gs, 0, none⟩ ∧ w3.heap.size ≤ gs := by
    rcases q1.2 with ⟨h, h0⟩ | ⟨g, c, cu, h, hb, _⟩
    · omega
    · injection h with h1 h2 h3
      exact ⟨g, h1, hb⟩
  subst hgs
  have k0 := B1u.cell_ 0
  have k1 := B1u.cell_ 1
  have k2 := B1u.cell_ 2
  have k3 := B1u.cell_ 3
  have k4 := B1u.cell_ 4
  simp at k0 k1 k2 k3 k4
  rw [HTT.out] at k4
  have x4 := own_cellE hon h5 he (j := 3) rfl
  have kd : Wd.drew.cell? ⟨w.heap.size, 4, none⟩ = some (.slice (some ⟨gn, 0, none⟩) T cn6) := drew_cell k4
  have xd : Wd.drew.cell? ⟨gn, k * 5 + 3, none⟩ = some (.slice (some ⟨gs, 0, none⟩) L ct9) := drew_cell x4
  have hqb : ∀ g, (Value.slice (some ⟨gs, 0, none⟩) L ct9).ownBlock = some g → w3.heap.size ≤ g := fun g hg => (q1.lt g hg).1
  clear k0 k1 k2 k3 k4 x4
  refine wp_region_noPanic ?_
  refine wp_region_held_drew (S := (fun w_ => w_.cell? ⟨w.heap.size, 4, none⟩ = some (.slice (some ⟨gn, 0, none⟩) T cn6))) (by kernel_rfl) ?_ (fun hHeld => ?_)
  · (first | with_reducible exact kd | with_reducible exact k4' | with_reducible exact kb)
  refine tk 0 ⟨some 34, .fieldAddr 25 (.tmp 3) 4, 0, "note.go:69", #[], none⟩ ?_; try simp only [Act.put, pz1, pz2, pz3]
  refine tk 1 ⟨some 35, .load 23 (.tmp 34), 23, "note.go:69", #[⟨0, .data⟩], none⟩ ?_; try simp only [Act.put, pz1, pz2, pz3]
  refine tk 2 ⟨some 36, .move (.tmp 8), 3, "note.go:69", #[], none⟩ ?_; try simp only [Act.put, pz1, pz2, pz3]
  refine tk 3 ⟨some 37, .fieldAddr 25 (.tmp 3) 4, 0, "note.go:69", #[], none⟩ ?_; try simp only [Act.put, pz1, pz2, pz3]
  refine tk 4 ⟨some 38, .load 23 (.tmp 37), 23, "note.go:69", #[⟨3, .data⟩], none⟩ ?_; try simp only [Act.put, pz1, pz2, pz3]
  refine tk 5 ⟨some 39, .move (.tmp 8), 3, "note.go:69", #[], none⟩ ?_; try simp only [Act.put, pz1, pz2, pz3]
  refine tk 6 ⟨some 40, .indexAddr 23 (.tmp 38) (.tmp 39), 0, "note.go:69", #[⟨4, .data⟩, ⟨5, .data⟩], none⟩ ?_; try simp only [Act.put, pz1, pz2, pz3]
  refine tk 7 ⟨some 41, .fieldAddr 49 (.tmp 40) 3, 0, "note.go:69", #[⟨6, .data⟩], none⟩ ?_; try simp only [Act.put, pz1, pz2, pz3]
  refine tk 9 ⟨some 43, .move (.tmp 10), 3, "note.go:69", #[], none⟩ ?_; try simp only [Act.put, pz1, pz2, pz3]
  refine tk 10 ⟨some 44, .move (.tmp 10), 3, "note.go:69", #[], none⟩ ?_; try simp only [Act.put, pz1, pz2, pz3]
  refine tk 11 ⟨some 45, .binOp .add 3 (.tmp 44) (.const (.int .i64 1)) 3, 3, "note.go:69", #[⟨10, .data⟩], none⟩ ?_; try simp only [Act.put, pz1, pz2, pz3]
  refine wpAnyH_ready (rs := [8]) (by kernel_rfl) (by simp) ?_
  refine AllReadyH.cons (o := ⟨some 42, .load 46 (.tmp 41), 46, "note.go:69", #[⟨7, .data⟩], none⟩) rfl (fun K hK => ?_) AllReadyH.nil
  go_simp
  refine hK.out _ _ ?_ (fun hNew => ?_)
  · (first | with_reducible exact kd | with_reducible exact k4' | with_reducible exact kb)
  clear hK K hHeld
  have hHeld := hNew
  clear hNew
  try simp only [Act.put, pz1, pz2, pz3]
  refine wpAnyH_ready (rs := [12]) (by kernel_rfl) (by simp) ?_
  refine AllReadyH.cons (o := ⟨some 46, .call { callee := .value (.func 52), args := #[.tmp 42, .tmp 43, .tmp 45], argTypes := #[46, 3, 3] }, 46, "note.go:69", #[⟨8, .data⟩, ⟨9, .data⟩, ⟨11, .data⟩], none⟩) rfl (fun K hK => ?_) AllReadyH.nil
  go_simp
  (go_at_call 52; go_loud (((with_reducible refine (delStr _ _ _ _ _ _ _ (drew_own q1) hpl).mono ?_); rintro e' w7 ⟨rfl, ho', hg'⟩; have hof : ∀ j, j < w3.heap.size → (Value.slice (some ⟨gs, 0, none⟩) L ct9).ownBlock ≠ some j := fun j hj h => (by have := hqb j h; omega); have B1a := (drew_blk B1u).grownR hg' (hof _ (by have := HW5.out; omega)); have B2a := (drew_blk B2u).grownR hg' (hof _ (by have := HW5.out; omega)); have HBa := (drew_below hb2).trans (below_app (B := w.heap.size) (by have := HW5.out; omega) HSZ.out (drew_own q1) hg'); have hon7 := (drew_own hon).kept hg' (own_apart (drew_own hon) (drew_own q1) (by decide)); have k4' := B1a.cell_ 4; simp at k4'; rw [HTT.out] at k4'; have x7 := own_cellE hon7 h5 he (j := 3) rfl; have f7 := World.ownsRow.frozenAt hon7 (k * 5 + 3); have kb : (w7.setCell ⟨gn, k * 5 + 3, none⟩ (.slice (some ⟨gs, 0, none⟩) (L - 1) ct9)).cell? ⟨w.heap.size, 4, none⟩ = some (.slice (some ⟨gn, 0, none⟩) T cn6) := (by have := (B1a.grown (set1_grown w7 gn (k * 5 + 3) (.slice (some ⟨gs, 0, none⟩) (L - 1) ct9)) (by have := HW5.out; omega)).cell_ 4; simp at this; rw [HTT.out] at this; exact this))))
  go_wp2_with fail
  refine hK.out _ _ ?_ (fun hNew => ?_)
  · (first | with_reducible exact kd | with_reducible exact k4' | with_reducible exact kb)
  clear hK K hHeld
  have hHeld := hNew
  clear hNew
  try simp only [Act.put, pz1, pz2, pz3]
  refine tk 13 ⟨some 47, .indexAddr 23 (.tmp 35) (.tmp 36), 0, "note.go:69", #[⟨1, .data⟩, ⟨2, .data⟩, ⟨0, .phase⟩, ⟨1, .phase⟩, ⟨2, .phase⟩, ⟨3, .phase⟩, ⟨4, .phase⟩, ⟨5, .phase⟩, ⟨6, .phase⟩, ⟨7, .phase⟩, ⟨8, .phase⟩, ⟨9, .phase⟩, ⟨10, .phase⟩, ⟨11, .phase⟩, ⟨12, .phase⟩], none⟩ ?_; try simp only [Act.put, pz1, pz2, pz3]
  refine tk 14 ⟨some 48, .fieldAddr 49 (.tmp 47) 3, 0, "note.go:69", #[⟨13, .data⟩, ⟨0, .phase⟩, ⟨1, .phase⟩, ⟨2, .phase⟩, ⟨3, .phase⟩, ⟨4, .phase⟩, ⟨5, .phase⟩, ⟨6, .phase⟩, ⟨7, .phase⟩, ⟨8, .phase⟩, ⟨9, .phase⟩, ⟨10, .phase⟩, ⟨11, .phase⟩, ⟨12, .phase⟩], none⟩ ?_; try simp only [Act.put, pz1, pz2, pz3]
  refine wpAnyH_ready (rs := [15]) (by kernel_rfl) (by simp) ?_
  refine AllReadyH.cons (o := ⟨none, .store 46 (.tmp 48) (.tmp 46), 0, "note.go:69", #[⟨14, .data⟩, ⟨12, .data⟩, ⟨12, .chain⟩, ⟨0, .phase⟩, ⟨1, .phase⟩, ⟨2, .phase⟩, ⟨3, .phase⟩, ⟨4, .phase⟩, ⟨5, .phase⟩, ⟨6, .phase⟩, ⟨7, .phase⟩, ⟨8, .phase⟩, ⟨9, .phase⟩, ⟨10, .phase⟩, ⟨11, .phase⟩, ⟨12, .phase⟩], none⟩) rfl (fun K hK => ?_) AllReadyH.nil
  go_simp
  refine hK.out _ _ ?_ (fun hNew => ?_)
  · (first | with_reducible exact kd | with_reducible exact k4' | with_reducible exact kb)
  clear hK K hHeld
  have hHeld := hNew
  clear hNew
  try simp only [Act.put, pz1, pz2, pz3]
  refine wpAnyH_done (by kernel_rfl) ?_ _
  refine NoPanic.normal ?_
  have hb0 : Below Wd.heap.size Wd Wd.drew := below_dr Wd
  have hl9 : (n.tg.eraseIdx p).length = L - 1 := by have := HLL.out; rw [List.length_eraseIdx, if_pos (by omega), this]
  obtain ⟨hNw, hgw⟩ := nt_tags (xs := n.tg.eraseIdx p) HEL.out (drew_own HON.out) (fun k n e a b => (hnt k n e a b).below hb0) hap HNN.out HE.out (by rw [HLL.out]; exact hg') (by rw [hl9]; exact ho')
  have B1w := B1a.grown hgw (by have := HW5.out; omega)
  have B2w := B2a.grown hgw (by have := HW5.out; omega)
  have hB7 : BksW w7 w3.heap.size (.slice Ab6 s.bs.length cb6) s.bs := World.ownsRow.kept (own_belowW hBk2 hb0) hg' (own_apart (own_belowW hBk2 hb0) (drew_own q1) (by decide))
  have hBw := BksW.apartN hB7 hon7 hgw
  have hbw := below_grown HBa hgw (by have := HW5.out; omega) HBa.size
  obtain ⟨Wx, hWx⟩ : ∃ V : World, V = w7.setCell ⟨gn, k * 5 + 3, none⟩ (.slice (some ⟨gs, 0, none⟩) (L - 1) ct9) := ⟨_, rfl⟩
  rw [← hWx] at hNw B1w B2w hBw hbw ⊢
  clear hWx hgw hB7 hb0 hl9 B1a B2a HBa ho' hg' hon7 k4' x7 f7 kb hof
  have k0 := B1w.cell_ 0
  have r0 := B2w.cell_ 0
  have t0 := B2w.free 0
  have k1 := B1w.cell_ 1
  have r1 := B2w.cell_ 1
  have t1 := B2w.free 1
  have k2 := B1w.cell_ 2
  have r2 := B2w.cell_ 2
  have t2 := B2w.free 2
  have k3 := B1w.cell_ 3
  have r3 := B2w.cell_ 3
  have t3 := B2w.free 3
  have k4 := B1w.cell_ 4
  have r4 := B2w.cell_ 4
  have t4 := B2w.free 4
  simp at k0 k1 k2 k3 k4 r0 r1 r2 r3 r4
  go_wp2_with fail
  have B2e := B2w.st5_ (.int .i64 s.nb) (.int .i64 s.nn) (.int .i64 s.ns) (.slice Ab6 s.bs.length cb6) (.slice (some ⟨gn, 0, none⟩) s.ts.length cn6)
  have hgE := st5_grown Wx (w.heap.size + 1) 0 (.int .i64 s.nb) (.int .i64 s.nn) (.int .i64 s.ns) (.slice Ab6 s.bs.length cb6) (.slice (some ⟨gn, 0, none⟩) s.ts.length cn6)
  have hBe := hBw.far hgE (by have := HW5.out; omega)
  have hNe := hNw.far hgE (by have := HW5.out; omega)
  have hbe := below_grown hbw hgE (by omega) hbw.size
  change bodyPost _ _ _ _ _ (st5 Wx (w.heap.size + 1) 0 (.int .i64 s.nb) (.int .i64 s.nn) (.int .i64 s.ns) (.slice Ab6 s.bs.length cb6) (.slice (some ⟨gn, 0, none⟩) s.ts.length cn6))
  clear hgE
  generalize st5 Wx (w.heap.size + 1) 0 (.int .i64 s.nb) (.int .i64 s.nn) (.int .i64 s.ns) (.slice Ab6 s.bs.length cb6) (.slice (some ⟨gn, 0, none⟩) s.ts.length cn6) = WF at B2e hBe hNe hbe ⊢
  apply bodyPost_ret (v := .tuple #[.agg #[.int .i64 s.nb, .int .i64 s.nn, .int .i64 s.ns, .slice Ab6 s.bs.length cb6, .slice (some ⟨gn, 0, none⟩) s.ts.length cn6], .int .i64 0])
  · exact results_cell1 Tryd.results20 _ WF (w.heap.size + 1) 25 _ (0, 0) _ rfl B2e Tryd.underlying25 rfl (by kernel_rfl)
  · rfl
  · refine ⟨_, rfl, ?_, hbe⟩
    rw [HRS.out]
    exact ShW.base_ (ShW.make (s := { s with ts := s.ts.set k { n with tg := n.tg.eraseIdx p } }) (w := WF) (base := w3.heap.size) (vb := .slice Ab6 s.bs.length cb6) (vn := .slice (some ⟨gn, 0, none⟩) s.ts.length cn6) hBe hNe) (by have := HW5.out; omega)
end Go.Proofs.YtkaoechjekffmaaDoor
namespace Go.Proofs.YtkaoechjekffmaaDoor
open Go.ChangeShapes Go.WideShapes Go.ChangeAt Go.RowKit
attribute [local go_sem ↓] Go.wp_at_zero Go.wp_at_succ
theorem tgPos_spec : ∀ (l : List ByteArray) (x : ByteArray), (∀ (j : Nat) (y : ByteArray), j < tgPos l x → l[j]? = some y → lessS y x = true) ∧ (∀ y, l[tgPos l x]? = some y → lessS y x = false)
  | [], _ => ⟨fun j y _ h => by simp at h, fun y h => by simp at h⟩
  | z :: l, x => by
    have ih := tgPos_spec l x
    unfold tgPos
    by_cases hz : lessS z x = true
    · rw [if_pos hz]
      refine ⟨fun j y hj h => ?_, fun y h => ih.2 y (by simpa using h)⟩
      cases j with
      | zero => simp at h; rw [← h]; exact hz
      | succ j => exact ih.1 j y (by omega) (by simpa using h)
    · rw [if_neg hz]
      refine ⟨fun j y hj h => absurd hj (Nat.not_lt_zero _), fun y h => ?_⟩
      simp at h
      rw [← h]
      simpa using hz
theorem tgPos_hi {l : List ByteArray} (hp : l.Pairwise fun a b => lessS a b = true) (x : ByteArray) (j : Nat) (y : ByteArray) (hj : tgPos l x ≤ j) (h : l[j]? = some y) : lessS y x = false := by
  rcases Nat.eq_or_lt_of_le hj with e | hlt
  · exact (tgPos_spec l x).2 y (by rw [e]; exact h)
  · have hjl := (List.getElem?_eq_some_iff.1 h).1
    have hkl : tgPos l x < l.length := by omega
    have h1 := (tgPos_spec l x).2 _ (List.getElem?_eq_getElem hkl)
    cases h2 : lessS y x
    · rfl
    · have h3 := List.pairwise_iff_getElem.1 hp (tgPos l x) j hkl hjl hlt
      rw [(List.getElem?_eq_some_iff.1 h).2] at h3
      rw [lessS_trans h3 h2] at h1
      cases h1
theorem tg_there {l : List ByteArray} (hp : l.Pairwise fun a b => lessS a b = true) (x : ByteArray) : hasT l x = true ↔ l[tgPos l x]? = some x := by
  rw [hasT_iff]
  constructor
  · intro hx
    obtain ⟨j, hj, he⟩ := List.mem_iff_getElem.1 hx
    have hjx : l[j]? = some x := by rw [List.getElem?_eq_getElem hj, he]
    have h1 : tgPos l x ≤ j := by
      rcases Nat.lt_or_ge j (tgPos l x) with h | h
      · have := (tgPos_spec l x).1 j x h hjx
        rw [lessS_irr] at this
        cases this
      · exact h
    rcases Nat.eq_or_lt_of_le h1 with e | hlt
    · rw [e]
      exact hjx
    · have hkl : tgPos l x < l.length := by omega
      have h2 := (tgPos_spec l x).2 _ (List.getElem?_eq_getElem hkl)
      have h3 := List.pairwise_iff_getElem.1 hp (tgPos l x) j hkl hj hlt
      rw [he] at h3
      rw [h3] at h2
      cases h2
  · intro h
    exact List.mem_of_getElem? h
theorem bsStr (l : List ByteArray) (L : Nat) (A : Option Addr) (c : Nat) (x : ByteArray) (w : World) (hL : l.length = L) (hS : Sl w w.heap.size A (l.map strV)) (h4 : L ≤ 100000) (hp : l.Pairwise fun a b => lessS a b = true) :
    Calls Tryd.prog 45 #[.slice A L c, .string x] w fun e' w' => e' = .returned (.tuple #[.int .i64 (tgPos l x : Int), .bool (hasT l x)]) ∧ Below w.heap.size w w' := by
  by_cases h0 : L = 0
  · subst h0
    have : l = [] := List.length_eq_zero_iff.1 hL
    subst this
    refine (show Calls Tryd.prog 45 _ w _ from Any2.slices_BinarySearch_string_empty Tryd.laysSearch A c x w).mono ?_
    rintro e' w' ⟨rfl, rfl⟩
    exact ⟨rfl, Below.refl _ _⟩
  · obtain ⟨b, o, rfl, _, hq⟩ := hS.at_ (by rw [List.length_map]; omega)
    have hx : ∀ j (hj : j < l.length), (l[j]?).getD x = l[j] := fun j hj => by rw [List.getElem?_eq_getElem hj]; rfl
    have h := Any2.slices_BinarySearch_string Tryd.laysSearch b o L c (fun j => (l[j]?).getD x) x w (by omega) (fun j hj => by
      have hjl : j < l.length := by omega
      show w.cell? _ = some (.string ((l[j]?).getD x))
      rw [hx j hjl]
      exact hq j _ (by rw [List.getElem?_map, List.getElem?_eq_getElem hjl]; rfl))
    have hle := tgPos_le l x
    have hbs : Lib.bsGo (fun t => Op.bytesLess ((l[t]?).getD x).toList x.toList) L 0 L = tgPos l x := by
      refine Lib.bsGo_spec _ (tgPos l x) (fun t ht => ?_) (fun t ht => ?_) L 0 L (by omega) (Nat.zero_le _) (by omega)
      · have htl : t < l.length := by omega
        rw [hx t htl]
        exact (tgPos_spec l x).1 t _ ht (List.getElem?_eq_getElem htl)
      · rcases Nat.lt_or_ge t l.length with htl | htl
        · rw [hx t htl]
          exact tgPos_hi hp x t _ ht (List.getElem?_eq_getElem htl)
        · rw [List.getElem?_eq_none htl]
          exact lessS_irr x
    rw [hbs] at h
    have hb : decide (tgPos l x < L ∧ (l[tgPos l x]?).getD x = x) = hasT l x := by
      cases ht : hasT l x
      · rw [decide_eq_false_iff_not]
        rintro ⟨h1, h2⟩
        rw [hx _ (by omega)] at h2
        have : hasT l x = true := (tg_there hp x).2 (by rw [List.getElem?_eq_getElem (by omega), h2])
        rw [ht] at this
        cases this
      · rw [decide_eq_true_eq]
        have h1 := (tg_there hp x).1 ht
        exact ⟨by rw [← hL]; exact (List.getElem?_eq_some_iff.1 h1).1, by rw [h1]; rfl⟩
    rw [hb] at h
    refine (show Calls Tryd.prog 45 _ w _ from h).mono ?_
    rintro e' w' ⟨rfl, q, rfl⟩
    exact ⟨rfl, below_dn (Below.refl _ _) q⟩
theorem cells_set (g : Nat) (e : TypeId) (fr : Nat × Nat) : ∀ (vs : List Value) (o : Nat) (w : World) (cur : Array Value), w.heap[g]? = some (.cells cur e fr) → ∃ cur', (w.setCells g o vs).heap[g]? = some (.cells cur' e fr) ∧ cur'.size = cur.size ∧ (∀ j, j < o ∨ o + vs.length ≤ j → cur'[j]? = cur[j]?) ∧ (∀ j, j < vs.length → o + j < cur.size → cur'[o + j]? = vs[j]?) ∧ w.grownBy (w.setCells g o vs) (some g)
  | [], o, w, cur, h => ⟨cur, h, rfl, fun _ _ => rfl, fun j hj => absurd hj (Nat.not_lt_zero _), World.grownBy.refl w _⟩
  | u :: vs, o, w, cur, h => by
    have h1 : (w.setCell ⟨g, o, none⟩ u).heap[g]? = some (.cells (cur.setIfInBounds o u) e fr) := by
      simp only [World.setCell, Array.getElem?_modify, if_pos, h, Option.map_some]
      rfl
    obtain ⟨cur', q1, q2, q3, q4, q5⟩ := cells_set g e fr vs (o + 1) (w.setCell ⟨g, o, none⟩ u) _ h1
    refine ⟨cur', q1, by rw [q2, Array.size_setIfInBounds], fun j hj => ?_, fun j hj hjs => ?_, ?_⟩
    · rw [List.length_cons] at hj
      rw [q3 j (by omega), Array.getElem?_setIfInBounds, if_neg (by omega)]
    · rw [List.length_cons] at hj
      cases j with
      | zero =>
        rw [Nat.add_zero] at hjs ⊢
        rw [q3 o (by omega), Array.getElem?_setIfInBounds, if_pos rfl, if_pos hjs]
        rfl
      | succ j =>
        have := q4 j (by omega) (by rw [Array.size_setIfInBounds]; omega)
        rw [show o + (j + 1) = o + 1 + j by omega, this]
        rfl
    · exact ⟨q5.os.trans (set1_grown w g o u).os, q5.tape.trans (set1_grown w g o u).tape, q5.output.trans (set1_grown w g o u).output, Nat.le_trans (set1_grown w g o u).size q5.size, fun k hk hne => (q5.block k (Nat.lt_of_lt_of_le hk (set1_grown w g o u).size) hne).trans ((set1_grown w g o u).block k hk hne)⟩
theorem own_of_cur {w : World} {base g n cap : Nat} {e : TypeId} {cur : Array Value} {ys : List Value} (h : w.heap[g]? = some (.cells cur e (0, 0))) (hb : base ≤ g) (hn : n ≤ cap) (hm : cap ≤ maxLen) (hs : cur.size = cap) (hy : ys.length = n) (hc : ∀ j, j < n → cur[j]? = ys[j]?) : w.ownsRow base e 1 (.slice (some ⟨g, 0, none⟩) n cap) n ys := by
  refine ⟨by omega, Or.inr ⟨g, cap, cur, rfl, hb, h, hn, hm, by omega, ?_⟩⟩
  apply List.ext_getElem?
  intro j
  rw [List.getElem?_take, Nat.mul_one, Array.getElem?_toList]
  split
  · exact hc j (by assumption)
  · rw [List.getElem?_eq_none (by omega)]
theorem insAt {α : Type} (l : List α) (i : Nat) (x : α) (hi : i ≤ l.length) (j : Nat) : (l.take i ++ [x] ++ l.drop i)[j]? = if j < i then l[j]? else if j = i then some x else l[j - 1]? := by
  have h1 : (l.take i).length = i := by rw [List.length_take]; omega
  rw [List.append_assoc, List.getElem?_append, h1]
  split
  · rename_i h
    rw [List.getElem?_take_of_lt h]
  · rename_i h
    split
    · rename_i h2
      subst h2
      simp
    · rename_i h2
      obtain ⟨r, hr⟩ : ∃ r, j - i = r + 1 := ⟨j - i - 1, by omega⟩
      rw [hr]
      simp only [List.cons_append, List.nil_append, List.getElem?_cons_succ, List.getElem?_drop]
      congr 1
      omega
theorem insStr (w : World) (base : Nat) (A : Option Addr) (L c i vb : Nat) (l : List ByteArray) (x : ByteArray) (h : w.ownsRow base 9 1 (.slice A L c) L (l.map strV)) (hi : i ≤ L) (h4 : L ≤ 100000) (hv : Blk w vb 9 #[.string x]) (hne : (Value.slice A L c).ownBlock ≠ some vb) (hbs : base ≤ w.heap.size) :
    Calls Tryd.prog 48 #[.slice A L c, .int .i64 (i : Int), .slice (some ⟨vb, 0, none⟩) 1 1] w fun e' w' => ∃ v', e' = .returned v' ∧ w'.ownsRow base 9 1 v' (L + 1) ((l.take i ++ [x] ++ l.drop i).map strV) ∧ w.grownBy w' (Value.slice A L c).ownBlock := by
  have hl : l.length = L := by have := h.1; simpa using this
  have hcl : (l.map strV).length = L := by rw [List.length_map]; exact hl
  have hyl : ((l.take i ++ [x] ++ l.drop i).map strV).length = L + 1 := by
    simp
    omega
  have hys : ∀ j, ((l.take i ++ [x] ++ l.drop i).map strV)[j]? = if j < i then (l.map strV)[j]? else if j = i then some (.string x) else (l.map strV)[j - 1]? := fun j => by
    rw [List.getElem?_map, insAt l i x (by omega) j]
    split
    · rw [List.getElem?_map]
    · split
      · rfl
      · rw [List.getElem?_map]
  have hvs : ∀ (j : Nat) (v : Value), [Value.string x][j]? = some v → w.cell? ⟨vb, 0 + j, none⟩ = some v := fun j v hj => by
    cases j with
    | zero =>
      have := hv.cell_ 0
      simp at this hj
      rw [Nat.add_zero, ← hj]
      exact this
    | succ j => simp at hj
  have h1v : ∀ v ∈ [Value.string x], v.oneCell' = true := fun v hm => by
    simp at hm
    subst hm
    rfl
  have h1c : ∀ v ∈ l.map strV, v.oneCell' = true := fun v hm => by
    obtain ⟨t, _, rfl⟩ := List.mem_map.1 hm
    rfl
  have hnew : ∀ (cur : Array Value) (fr : Nat × Nat), w.grownBy (w.alloc (.cells cur 9 fr)) (Value.slice A L c).ownBlock := fun cur fr =>
    ⟨rfl, rfl, rfl, by simp, fun k hk _ => (by first | exact heap_alloc_old w _ hk | exact heap_alloc_old w _ k hk)⟩
  have hend : L < c + 1 → L ≤ c → c < L + 1 → i = L → (A = none → L = 0) → (∀ a, A = some a → ∀ (j : Nat) (v : Value), (l.map strV)[j]? = some v → w.cell? (a.add j) = some v) → Calls Tryd.prog 48 #[.slice A L c, .int .i64 (i : Int), .slice (some ⟨vb, 0, none⟩) 1 1] w fun e' w' => ∃ v', e' = .returned v' ∧ w'.ownsRow base 9 1 v' (L + 1) ((l.take i ++ [x] ++ l.drop i).map strV) ∧ w.grownBy w' (Value.slice A L c).ownBlock := by
    intro _ hLc hcr hiL hnil hca
    subst hiL
    have hC := Any2.slices_Insert_string_end_grow Tryd.laysInsert A i c vb 0 1 1 (l.map strV) [.string x] w (by decide) hLc hcr (by omega) hcl rfl hnil hca hvs h1v
    refine (show Calls Tryd.prog 48 _ w _ from hC).mono ?_
    rintro e' w' ⟨rfl, rfl⟩
    have hge := grownCap_ge w (i + 1) c 9
    have hle := grownCap_le_maxLen w (i + 1) c 9 (by unfold maxLen; omega)
    refine ⟨_, rfl, own_of_cur (heap_alloc_new w.drew _) hbs hge hle ?_ hyl (fun j hj => ?_), ?_⟩
    · have hz := size_zeroCells (Value.string ⟨#[]⟩).cells (grownCap w (i + 1) c 9 - (i + 1))
      have hz1 : (Value.string ⟨#[]⟩).cells.size = 1 := rfl
      rw [hz1] at hz
      rw [Array.size_append]
      show ((l.map strV) ++ [Value.string x]).toArray.size + (Builtin.zeroCells (Value.string ⟨#[]⟩).cells (grownCap w (i + 1) c 9 - (i + 1))).size = grownCap w (i + 1) c 9
      rw [hz]
      simp
      omega
    · rw [hys j, Array.getElem?_append_left (by simp; omega)]
      simp only [List.getElem?_toArray]
      by_cases hj1 : j < i
      · rw [if_pos hj1, List.getElem?_append_left (by omega)]
      · obtain rfl : j = i := by omega
        rw [if_neg hj1, if_pos rfl, List.getElem?_append_right (by omega), hcl]
        simp
    · refine ⟨rfl, rfl, rfl, Nat.le_of_lt (by show w.drew.heap.size < (w.drew.alloc _).heap.size; simp), fun k hk _ => ?_⟩
      first | exact heap_alloc_old w.drew _ hk | exact heap_alloc_old w.drew _ k hk
  rcases h.2 with ⟨hA, hL0⟩ | ⟨g, cap, cur, hA, hb, hg, hnc, hm, hs, ht⟩
  · cases hA
    exact hend (by omega) (by omega) (by omega) (by omega) (fun _ => rfl) (fun a ha => by cases ha)
  · cases hA
    have hs1 : cur.size = c := by omega
    have hcur : ∀ j, j < L → cur[j]? = (l.map strV)[j]? := fun j hj => by
      rw [← ht, List.getElem?_take, if_pos (by omega), Array.getElem?_toList]
    have hgl : g < w.heap.size := by
      rcases Nat.lt_or_ge g w.heap.size with hx | hx
      · exact hx
      · rw [Array.getElem?_eq_none hx] at hg
        cases hg
    have hgv : vb ≠ g := fun e => hne (by rw [e]; rfl)
    have hcs : ∀ (j : Nat) (v : Value), (l.map strV)[j]? = some v → w.cell? ⟨g, 0 + j, none⟩ = some v := fun j v hj => by
      have hjl : j < L := by have := (List.getElem?_eq_some_iff.1 hj).1; omega
      rw [Nat.zero_add, h.cellAt j (by omega)]
      exact hj
    have hcell : ∀ j, w.cell? ⟨g, j, none⟩ = cur[j]? := fun j => by
      simp [World.cell?, hg]
    by_cases hroom : L + 1 ≤ c
    · have hsp : ∀ j, j < L + 1 → (w.cell? ⟨g, 0 + j, none⟩).isSome = true := fun j hj => by
        rw [Nat.zero_add, hcell, Array.getElem?_eq_getElem (by omega)]
        rfl
      by_cases hil : i < L
      · have hC := Any2.slices_Insert_string_shift Tryd.laysInsert g 0 L c i vb 0 1 1 (l.map strV) [.string x] w hil (by decide) hroom (by unfold maxLen at hm; omega) hgv hcl rfl hcs hsp (fun j _ => by rw [Nat.zero_add]; exact h.frozenAt j) hvs h1c h1v 9 9 1 c (by simp only [World.shape?]; rw [show w.heap[vb]? = _ from hv]; rfl) (by simp only [World.shape?]; rw [hg, ← hs1]) (by omega) (hv.free 0) (hv.free 1)
        refine (show Calls Tryd.prog 48 _ w _ from hC).mono ?_
        rintro e' w' ⟨rfl, rfl⟩
        obtain ⟨cur1, p1, p2, p3, p4, p5⟩ := cells_set g 9 (0, 0) ((l.map strV).drop i) (0 + (i + 1)) w.drew cur hg
        obtain ⟨cur2, r1, r2, r3, r4, r5⟩ := cells_set g 9 (0, 0) [.string x] (0 + i) _ cur1 p1
        have hdl : ((l.map strV).drop i).length = L - i := by rw [List.length_drop, hcl]
        refine ⟨_, rfl, own_of_cur r1 hb hroom hm (by omega) hyl (fun j hj => ?_), ⟨r5.os.trans p5.os, r5.tape.trans p5.tape, r5.output.trans p5.output, Nat.le_trans p5.size r5.size, fun k hk hne2 => (r5.block k (Nat.lt_of_lt_of_le hk p5.size) hne2).trans (p5.block k hk hne2)⟩⟩
        rw [hys j]
        by_cases hj1 : j < i
        · rw [if_pos hj1, r3 j (by left; omega), p3 j (by left; omega), hcur j (by omega)]
        · rw [if_neg hj1]
          by_cases hj2 : j = i
          · subst hj2
            rw [if_pos rfl]
            have := r4 0 (by simp) (by omega)
            rw [Nat.add_zero, Nat.zero_add] at this
            rw [this]
            rfl
          · rw [if_neg hj2, r3 j (by right; simp; omega)]
            have := p4 (j - (i + 1)) (by omega) (by omega)
            rw [show 0 + (i + 1) + (j - (i + 1)) = j by omega, List.getElem?_drop, show i + (j - (i + 1)) = j - 1 by omega] at this
            exact this
      · obtain rfl : i = L := by omega
        have hC := Any2.slices_Insert_string_end_room Tryd.laysInsert g 0 i c vb 0 1 1 [.string x] w (by decide) hroom (by unfold maxLen at hm; omega) rfl (fun j hj => hsp (i + j) (by omega) |> fun q => by rw [show 0 + i + j = 0 + (i + j) by omega]; exact q) (fun j _ => h.frozenAt _) hvs h1v
        refine (show Calls Tryd.prog 48 _ w _ from hC).mono ?_
        rintro e' w' ⟨rfl, rfl⟩
        obtain ⟨cur2, r1, r2, r3, r4, r5⟩ := cells_set g 9 (0, 0) [.string x] (0 + i) w cur hg
        refine ⟨_, rfl, own_of_cur r1 hb hroom hm (by omega) hyl (fun j hj => ?_), r5⟩
        rw [hys j]
        by_cases hj1 : j < i
        · rw [if_pos hj1, r3 j (by left; omega), hcur j (by omega)]
        · obtain rfl : j = i := by omega
          rw [if_neg hj1, if_pos rfl]
          have := r4 0 (by simp) (by omega)
          rw [Nat.add_zero, Nat.zero_add] at this
          rw [this]
          rfl
    · by_cases hil : i < L
      · have hC := Any2.slices_Insert_string_grow Tryd.laysInsert g 0 L c i vb 0 1 1 (l.map strV) [.string x] w hil (by decide) hnc (by omega) (by omega) hcl rfl hcs hvs h1c h1v
        refine (show Calls Tryd.prog 48 _ w _ from hC).mono ?_
        rintro e' w' ⟨rfl, rfl⟩
        have hge := grownCap_ge w (L + 1) c 9
        have hle := grownCap_le_maxLen w (L + 1) c 9 (by unfold maxLen; omega)
        change ∃ v', _ = Ending.returned v' ∧ World.ownsRow (((w.alloc (.cells (((l.map strV).take i).toArray ++ Builtin.zeroCells (Value.string ⟨#[]⟩).cells (L + 1 - i) ++ Builtin.zeroCells (Value.string ⟨#[]⟩).cells (grownCap w (L + 1) c 9 - (L + 1))) 9)).drew.setCells w.heap.size i [.string x]).drew.setCells w.heap.size (i + 1) ((l.map strV).drop i)) _ _ _ _ _ _ ∧ w.grownBy (((w.alloc (.cells (((l.map strV).take i).toArray ++ Builtin.zeroCells (Value.string ⟨#[]⟩).cells (L + 1 - i) ++ Builtin.zeroCells (Value.string ⟨#[]⟩).cells (grownCap w (L + 1) c 9 - (L + 1))) 9)).drew.setCells w.heap.size i [.string x]).drew.setCells w.heap.size (i + 1) ((l.map strV).drop i)) _
        have hz1 : (Value.string ⟨#[]⟩).cells.size = 1 := rfl
        obtain ⟨cur0, hc0⟩ : ∃ a, a = ((l.map strV).take i).toArray ++ Builtin.zeroCells (Value.string ⟨#[]⟩).cells (L + 1 - i) ++ Builtin.zeroCells (Value.string ⟨#[]⟩).cells (grownCap w (L + 1) c 9 - (L + 1)) := ⟨_, rfl⟩
        have hs0 : cur0.size = grownCap w (L + 1) c 9 := by
          rw [hc0, Array.size_append, Array.size_append, size_zeroCells, size_zeroCells, hz1]
          simp
          omega
        have hg0 : ∀ j, j < i → cur0[j]? = (l.map strV)[j]? := fun j hj => by
          rw [hc0, Array.getElem?_append_left (by rw [Array.size_append]; simp; omega), Array.getElem?_append_left (by simp; omega)]
          rw [List.getElem?_toArray, List.getElem?_take_of_lt hj]
        rw [← hc0]
        have p0 : (w.alloc (.cells cur0 9)).heap[w.heap.size]? = some (.cells cur0 9 (0, 0)) := heap_alloc_new w _
        obtain ⟨cur1, p1, p2, p3, p4, p5⟩ := cells_set w.heap.size 9 (0, 0) [.string x] i (w.alloc (.cells cur0 9)).drew cur0 p0
        obtain ⟨cur2, r1, r2, r3, r4, r5⟩ := cells_set w.heap.size 9 (0, 0) ((l.map strV).drop i) (i + 1) ((w.alloc (.cells cur0 9)).drew.setCells w.heap.size i [.string x]).drew cur1 p1
        have hdl : ((l.map strV).drop i).length = L - i := by rw [List.length_drop, hcl]
        have hn1 := hnew cur0 (0, 0)
        refine ⟨_, rfl, own_of_cur r1 hbs hge hle (show cur2.size = grownCap w (L + 1) c 9 by omega) hyl (fun j hj => ?_), ⟨r5.os.trans (p5.os.trans hn1.os), r5.tape.trans (p5.tape.trans hn1.tape), r5.output.trans (p5.output.trans hn1.output), Nat.le_trans hn1.size (Nat.le_trans p5.size r5.size), fun k hk hne2 => (r5.block k (Nat.lt_of_lt_of_le hk (Nat.le_trans hn1.size p5.size)) (fun e => by cases e; omega)).trans ((p5.block k (Nat.lt_of_lt_of_le hk hn1.size) (fun e => by cases e; omega)).trans (hn1.block k hk hne2))⟩⟩
        rw [hys j]
        by_cases hj1 : j < i
        · rw [if_pos hj1, r3 j (by left; omega), p3 j (by left; omega), hg0 j hj1]
        · rw [if_neg hj1]
          by_cases hj2 : j = i
          · subst hj2
            rw [if_pos rfl, r3 j (by left; omega)]
            have := p4 0 (by simp) (by omega)
            rw [Nat.add_zero] at this
            rw [this]
            rfl
          · rw [if_neg hj2]
            have := r4 (j - (i + 1)) (by omega) (by omega)
            rw [show i + 1 + (j - (i + 1)) = j by omega, List.getElem?_drop, show i + (j - (i + 1)) = j - 1 by omega] at this
            exact this
      · exact hend (by omega) (by omega) (by omega) (by omega) (fun e => by cases e) (fun a ha j v hj => by
          cases ha
          have := hcs j v hj
          rw [Nat.zero_add] at this
          rw [Addr.add_lit, Nat.zero_add]
          exact this)
theorem ntag_no (s : Sf) (v : Value) (y : Int) (x : ByteArray) (w : World) (hS : ShR w w.heap.size v s) (hT : Tabs w) (c : Int) (hc : tagC s y x = c) (hne : c ≠ 0) :
    Calls Tryd.prog 18 #[v, .int .i64 y, .string x] w fun e' w' => e' = .returned (.tuple #[.agg #[.int .i64 0, .int .i64 0, .int .i64 0, .slice none 0 0, .slice none 0 0], .int .i64 c]) ∧ Below w.heap.size w w' := by
  have hS0 := hS
  obtain ⟨Ab, cb, An, cn, rfl, hB, hN, hcb, hmb, hcn, hmn⟩ := hS.ex
  clear hS
  obtain ⟨HB, B1, B2, S1⟩ := pre2 hS0
  have T1 := hT.next HB
  by_cases hf : findC s y = 0
  · obtain ⟨k, n, h⟩ := fdF_of hf
    obtain ⟨es, hel, hse, hnt⟩ := hN.ex
    have hkl : k < s.ts.length := (List.getElem?_eq_some_iff.1 h.nt).1
    obtain ⟨e0, he⟩ : ∃ e, es[k]? = some e := ⟨_, List.getElem?_eq_getElem (by omega)⟩
    obtain ⟨At, ct, As, cs, rfl, hAt, -⟩ := (hnt k n e0 h.nt he).ex
    obtain ⟨b1, o1, rfl, l1, q1⟩ := hse.at_ (by omega)
    have y3 := q1 k _ he 3 _ rfl
    have i0 : (0 : Int) ≤ (k : Int) := by omega
    have i1 : (k : Int) < (s.ts.length : Int) := by omega
    have i2 : ¬ (k : Int) < 0 := by omega
    have HL4 : Hid (n.tg.length ≤ 100000) := Lib.hid (h.may.small n (List.mem_of_getElem? h.nt)).1
    have hmt := tg_iff.1 (mayNt_iff.1 (h.may.ts n (List.mem_of_getElem? h.nt)).2.2).2.2.2
    have HSRT := Lib.hid hmt.2.2
    have HF := Lib.hid h
    obtain ⟨L, hL⟩ : ∃ L, n.tg.length = L := ⟨_, rfl⟩
    obtain ⟨T, hTe⟩ : ∃ T, s.ts.length = T := ⟨_, rfl⟩
    have HLL := Lib.hid hL
    have HTT := Lib.hid hTe
    rw [hL] at y3
    rw [hTe] at i1 HB B1 B2 S1 T1 ⊢
    rw [hL] at HL4
    obtain ⟨P, hP⟩ : ∃ P, tgPos n.tg x = P := ⟨_, rfl⟩
    have HP := Lib.hid hP
    obtain ⟨H, hH⟩ : ∃ H, hasT n.tg x = H := ⟨_, rfl⟩
    obtain ⟨N, hN9⟩ : ∃ N, mayN x = N := ⟨_, rfl⟩
    unfold tagC at hc
    rw [hf, h.of_, hH, hN9, hL] at hc
    have HH := Lib.hid hH
    have HN : Hid (nameB x.data.toList = N) := Lib.hid hN9
    clear hP hH hN9 hmt h hL hTe hkl he q1 hse hel hnt hN hB hS0 hT hcb hmb hcn hmn hf
    cases N
    · obtain rfl : c = 6 := hc.symm
      clear hc hne
      go_enter Tryd.func18, Tryd.ntmps18
      go_wp2_with (first | (go_at_call 44; go_loud (((with_reducible refine (nfind_yes s _ y _ S1 T1 k n HF.out).mono ?_); rintro e' w3 ⟨rfl, bx⟩; (try clear k0 k1 k2 k3 k4 r0 r1 r2 r3 r4 t0 t1 t2 t3 t4); obtain ⟨S1, T1, B1, B2, HB, k0, k1, k2, k3, k4, r0, r1, r2, r3, r4, t0, t1, t2, t3, t4⟩ := keepT S1 T1 B1 B2 HB bx; clear bx; have z3 := (HB.cell (p := ⟨b1, o1 + k * 5 + 3, none⟩) l1).trans y3; have SA := (hAt.below HB).mono_ HB.size))) | (go_at_call 45; go_loud (((with_reducible refine (bsStr n.tg L At ct x _ HLL.out SA HL4.out HSRT.out).mono ?_); rintro e' w4 ⟨rfl, bx⟩; rw [HP.out, HH.out]; clear SA; (try clear k0 k1 k2 k3 k4 r0 r1 r2 r3 r4 t0 t1 t2 t3 t4); obtain ⟨S1, T1, B1, B2, HB, k0, k1, k2, k3, k4, r0, r1, r2, r3, r4, t0, t1, t2, t3, t4⟩ := keepT S1 T1 B1 B2 HB bx; clear bx))) | (go_at_call 46; go_loud (((with_reducible refine (nmay_any x _ _ T1 HN.out).mono ?_); rintro e' w5 ⟨rfl, bx⟩; (try clear k0 k1 k2 k3 k4 r0 r1 r2 r3 r4 t0 t1 t2 t3 t4); obtain ⟨S1, T1, B1, B2, HB, k0, k1, k2, k3, k4, r0, r1, r2, r3, r4, t0, t1, t2, t3, t4⟩ := keepT S1 T1 B1 B2 HB bx; clear bx))))
      have B2u := z5_blk B2
      have hb2 := z5_below HB (g := w.heap.size + 1) (by omega)
      change bodyPost _ _ _ _ _ (z5 w5 (w.heap.size + 1))
      generalize z5 w5 (w.heap.size + 1) = Wd at B2u hb2 ⊢
      apply bodyPost_ret (v := .tuple #[.agg #[.int .i64 0, .int .i64 0, .int .i64 0, .slice none 0 0, .slice none 0 0], .int .i64 6])
      · exact results_cell1 Tryd.results18 _ Wd _ 25 #[.int .i64 0, .int .i64 0, .int .i64 0, .slice none 0 0, .slice none 0 0] (0, 0) _ rfl B2u Tryd.underlying25 rfl (by kernel_rfl)
      · rfl
      · exact ⟨rfl, hb2⟩
    · cases H
      · by_cases g4 : 4 ≤ L
        · obtain rfl : c = 3 := by simpa [g4] using hc.symm
          have g5 : (4 : Int) ≤ (L : Int) := by omega
          clear hc hne
          go_enter Tryd.func18, Tryd.ntmps18
          go_wp2_with (first | (go_at_call 44; go_loud (((with_reducible refine (nfind_yes s _ y _ S1 T1 k n HF.out).mono ?_); rintro e' w3 ⟨rfl, bx⟩; (try clear k0 k1 k2 k3 k4 r0 r1 r2 r3 r4 t0 t1 t2 t3 t4); obtain ⟨S1, T1, B1, B2, HB, k0, k1, k2, k3, k4, r0, r1, r2, r3, r4, t0, t1, t2, t3, t4⟩ := keepT S1 T1 B1 B2 HB bx; clear bx; have z3 := (HB.cell (p := ⟨b1, o1 + k * 5 + 3, none⟩) l1).trans y3; have SA := (hAt.below HB).mono_ HB.size))) | (go_at_call 45; go_loud (((with_reducible refine (bsStr n.tg L At ct x _ HLL.out SA HL4.out HSRT.out).mono ?_); rintro e' w4 ⟨rfl, bx⟩; rw [HP.out, HH.out]; clear SA; (try clear k0 k1 k2 k3 k4 r0 r1 r2 r3 r4 t0 t1 t2 t3 t4); obtain ⟨S1, T1, B1, B2, HB, k0, k1, k2, k3, k4, r0, r1, r2, r3, r4, t0, t1, t2, t3, t4⟩ := keepT S1 T1 B1 B2 HB bx; clear bx))) | (go_at_call 46; go_loud (((with_reducible refine (nmay_any x _ _ T1 HN.out).mono ?_); rintro e' w5 ⟨rfl, bx⟩; (try clear k0 k1 k2 k3 k4 r0 r1 r2 r3 r4 t0 t1 t2 t3 t4); obtain ⟨S1, T1, B1, B2, HB, k0, k1, k2, k3, k4, r0, r1, r2, r3, r4, t0, t1, t2, t3, t4⟩ := keepT S1 T1 B1 B2 HB bx; clear bx))))
          have B2u := z5_blk B2
          have hb2 := z5_below HB (g := w.heap.size + 1) (by omega)
          change bodyPost _ _ _ _ _ (z5 w5 (w.heap.size + 1))
          generalize z5 w5 (w.heap.size + 1) = Wd at B2u hb2 ⊢
          apply bodyPost_ret (v := .tuple #[.agg #[.int .i64 0, .int .i64 0, .int .i64 0, .slice none 0 0, .slice none 0 0], .int .i64 3])
          · exact results_cell1 Tryd.results18 _ Wd _ 25 #[.int .i64 0, .int .i64 0, .int .i64 0, .slice none 0 0, .slice none 0 0] (0, 0) _ rfl B2u Tryd.underlying25 rfl (by kernel_rfl)
          · rfl
          · exact ⟨rfl, hb2⟩
        · exact absurd (by simpa [g4] using hc.symm) hne
      · obtain rfl : c = 7 := hc.symm
        clear hc hne
        go_enter Tryd.func18, Tryd.ntmps18
        go_wp2_with (first | (go_at_call 44; go_loud (((with_reducible refine (nfind_yes s _ y _ S1 T1 k n HF.out).mono ?_); rintro e' w3 ⟨rfl, bx⟩; (try clear k0 k1 k2 k3 k4 r0 r1 r2 r3 r4 t0 t1 t2 t3 t4); obtain ⟨S1, T1, B1, B2, HB, k0, k1, k2, k3, k4, r0, r1, r2, r3, r4, t0, t1, t2, t3, t4⟩ := keepT S1 T1 B1 B2 HB bx; clear bx; have z3 := (HB.cell (p := ⟨b1, o1 + k * 5 + 3, none⟩) l1).trans y3; have SA := (hAt.below HB).mono_ HB.size))) | (go_at_call 45; go_loud (((with_reducible refine (bsStr n.tg L At ct x _ HLL.out SA HL4.out HSRT.out).mono ?_); rintro e' w4 ⟨rfl, bx⟩; rw [HP.out, HH.out]; clear SA; (try clear k0 k1 k2 k3 k4 r0 r1 r2 r3 r4 t0 t1 t2 t3 t4); obtain ⟨S1, T1, B1, B2, HB, k0, k1, k2, k3, k4, r0, r1, r2, r3, r4, t0, t1, t2, t3, t4⟩ := keepT S1 T1 B1 B2 HB bx; clear bx))) | (go_at_call 46; go_loud (((with_reducible refine (nmay_any x _ _ T1 HN.out).mono ?_); rintro e' w5 ⟨rfl, bx⟩; (try clear k0 k1 k2 k3 k4 r0 r1 r2 r3 r4 t0 t1 t2 t3 t4); obtain ⟨S1, T1, B1, B2, HB, k0, k1, k2, k3, k4, r0, r1, r2, r3, r4, t0, t1, t2, t3, t4⟩ := keepT S1 T1 B1 B2 HB bx; clear bx))))
        have B2u := z5_blk B2
        have hb2 := z5_below HB (g := w.heap.size + 1) (by omega)
        change bodyPost _ _ _ _ _ (z5 w5 (w.heap.size + 1))
        generalize z5 w5 (w.heap.size + 1) = Wd at B2u hb2 ⊢
        apply bodyPost_ret (v := .tuple #[.agg #[.int .i64 0, .int .i64 0, .int .i64 0, .slice none 0 0, .slice none 0 0], .int .i64 7])
        · exact results_cell1 Tryd.results18 _ Wd _ 25 #[.int .i64 0, .int .i64 0, .int .i64 0, .slice none 0 0, .slice none 0 0] (0, 0) _ rfl B2u Tryd.underlying25 rfl (by kernel_rfl)
        · rfl
        · exact ⟨rfl, hb2⟩
  · have hcf : findC s y = c := by
      unfold tagC at hc
      have : (findC s y == 0) = false := by simpa using hf
      rw [this] at hc
      exact hc
    have HC := Lib.hid hcf
    have HE := Lib.hid hne
    have he0 : ¬ c = 0 := hne
    clear hf hcf hc hne
    clear hS0 hT hB hN hcb hmb hcn hmn
    go_enter Tryd.func18, Tryd.ntmps18
    go_wp2_with (first | (go_at_call 44; go_loud (((with_reducible refine (nfind_no s _ y _ S1 T1 c HC.out HE.out).mono ?_); rintro e' w3 ⟨rfl, bx⟩; (try clear k0 k1 k2 k3 k4 r0 r1 r2 r3 r4 t0 t1 t2 t3 t4); obtain ⟨S1, T1, B1, B2, HB, k0, k1, k2, k3, k4, r0, r1, r2, r3, r4, t0, t1, t2, t3, t4⟩ := keepT S1 T1 B1 B2 HB bx; clear bx))))
    have B2u := z5_blk B2
    have hb2 := z5_below HB (g := w.heap.size + 1) (by omega)
    change bodyPost _ _ _ _ _ (z5 w3 (w.heap.size + 1))
    generalize z5 w3 (w.heap.size + 1) = Wd at B2u hb2 ⊢
    apply bodyPost_ret (v := .tuple #[.agg #[.int .i64 0, .int .i64 0, .int .i64 0, .slice none 0 0, .slice none 0 0], .int .i64 c])
    · exact results_cell1 Tryd.results18 _ Wd _ 25 #[.int .i64 0, .int .i64 0, .int .i64 0, .slice none 0 0, .slice none 0 0] (0, 0) _ rfl B2u Tryd.underlying25 rfl (by kernel_rfl)
    · rfl
    · exact ⟨rfl, hb2⟩
theorem ntag_yes (s : Sf) (v : Value) (y : Int) (x : ByteArray) (w : World) (hS : ShR w w.heap.size v s) (hT : Tabs w) (hc : tagC s y x = 0) :
    Calls Tryd.prog 18 #[v, .int .i64 y, .string x] w fun e' w' => ∃ v', e' = .returned (.tuple #[v', .int .i64 0]) ∧ ShW w' w.heap.size v' (tagS s y x) ∧ Below w.heap.size w w' := by
  have hS0 := hS
  obtain ⟨Ab, cb, An, cn, rfl, hB, hN, hcb, hmb, hcn, hmn⟩ := hS.ex
  clear hS
  obtain ⟨HB, B1, B2, S1⟩ := pre2 hS0
  have T1 := hT.next HB
  have hf : findC s y = 0 := by
    unfold tagC at hc
    by_cases h : findC s y = 0
    · exact h
    · have h2 : (findC s y == 0) = false := by simpa using h
      rw [h2] at hc
      exact absurd hc h
  obtain ⟨k, n, h⟩ := fdF_of hf
  obtain ⟨hN9, hH9, hL9⟩ : mayN x = true ∧ hasT n.tg x = false ∧ n.tg.length < 4 := by
    unfold tagC at hc
    rw [hf, h.of_] at hc
    cases h1 : mayN x
    · rw [h1] at hc
      cases hc
    · cases h2 : hasT n.tg x
      · rw [h1, h2] at hc
        refine ⟨rfl, rfl, ?_⟩
        rcases Nat.lt_or_ge n.tg.length 4 with h3 | h3
        · exact h3
        · rw [decide_eq_true h3] at hc
          cases hc
      · rw [h1, h2] at hc
        cases hc
  have HNN := Lib.hid h.nt
  have hMF := h.may
  have HLB : Hid (s.bs.length ≤ 100000) := Lib.hid (by have := hMF.bl; omega)
  have HLN : Hid (s.ts.length ≤ 100000) := Lib.hid (by have := hMF.tl; omega)
  have HLR := Lib.hid hMF.small
  have HKL : Hid (k < s.ts.length) := Lib.hid (List.getElem?_eq_some_iff.1 h.nt).1
  have HF := Lib.hid h
  obtain ⟨es, hel, hse, hnt⟩ := hN.ex
  have hkl : k < s.ts.length := (List.getElem?_eq_some_iff.1 h.nt).1
  obtain ⟨e0, he⟩ : ∃ e, es[k]? = some e := ⟨_, List.getElem?_eq_getElem (by omega)⟩
  obtain ⟨At, ct, As, cs, rfl, hAt, -⟩ := (hnt k n e0 h.nt he).ex
  obtain ⟨b1, o1, rfl, l1, q1⟩ := hse.at_ (by omega)
  have y3 := q1 k _ he 3 _ rfl
  have i0 : (0 : Int) ≤ (k : Int) := by omega
  have i1 : (k : Int) < (s.ts.length : Int) := by omega
  have i2 : ¬ (k : Int) < 0 := by omega
  have HL4 : Hid (n.tg.length ≤ 100000) := Lib.hid (h.may.small n (List.mem_of_getElem? h.nt)).1
  have hmt := tg_iff.1 (mayNt_iff.1 (h.may.ts n (List.mem_of_getElem? h.nt)).2.2).2.2.2
  have HSRT := Lib.hid hmt.2.2
  have HRS : Hid (tagS s y x = { s with ts := s.ts.set k { n with tg := tgIns n.tg x } }) := Lib.hid (by unfold tagS; rw [h.of_, h.put])
  obtain ⟨L, hL⟩ : ∃ L, n.tg.length = L := ⟨_, rfl⟩
  obtain ⟨T, hTe⟩ : ∃ T, s.ts.length = T := ⟨_, rfl⟩
  have HLL := Lib.hid hL
  have HTT := Lib.hid hTe
  rw [hL] at y3
  rw [hTe] at i1 HB B1 B2 S1 T1 ⊢
  rw [hL] at HL4
  obtain ⟨P, hP⟩ : ∃ P, tgPos n.tg x = P := ⟨_, rfl⟩
  have HP := Lib.hid hP
  rw [hL] at hL9
  have HI9 : Hid (n.tg.take P ++ [x] ++ n.tg.drop P = tgIns n.tg x) := Lib.hid (by unfold tgIns; rw [hP])
  have hPL : P ≤ L := by rw [← hP, ← hL]; exact tgPos_le _ _
  have HH := Lib.hid hH9
  have HN : Hid (nameB x.data.toList = true) := Lib.hid hN9
  have hL8 := HL4.out
  have g5 : ¬ (4 : Int) ≤ (L : Int) := by omega
  clear hP hH9 hN9 hmt hc h hL hTe hkl he q1 hse hel hnt hN hB hS0 hT hcb hmb hcn hmn hf hMF
  go_enter Tryd.func18, Tryd.ntmps18
  go_upto_region 12 with (first | (go_at_call 44; go_loud (((with_reducible refine (nfind_yes s _ y _ S1 T1 k n HF.out).mono ?_); rintro e' w3 ⟨rfl, bx⟩; (try clear k0 k1 k2 k3 k4 r0 r1 r2 r3 r4 t0 t1 t2 t3 t4); obtain ⟨S1, T1, B1, B2, HB, k0, k1, k2, k3, k4, r0, r1, r2, r3, r4, t0, t1, t2, t3, t4⟩ := keepT S1 T1 B1 B2 HB bx; clear bx; have z3 := (HB.cell (p := ⟨b1, o1 + k * 5 + 3, none⟩) l1).trans y3; have SA := (hAt.below HB).mono_ HB.size))) | (go_at_call 45; go_loud (((with_reducible refine (bsStr n.tg L At ct x _ HLL.out SA HL4.out HSRT.out).mono ?_); rintro e' w4 ⟨rfl, bx⟩; rw [HP.out, HH.out]; clear SA; (try clear k0 k1 k2 k3 k4 r0 r1 r2 r3 r4 t0 t1 t2 t3 t4); obtain ⟨S1, T1, B1, B2, HB, k0, k1, k2, k3, k4, r0, r1, r2, r3, r4, t0, t1, t2, t3, t4⟩ := keepT S1 T1 B1 B2 HB bx; clear bx))) | (go_at_call 46; go_loud (((with_reducible refine (nmay_any x _ _ T1 HN.out).mono ?_); rintro e' w5 ⟨rfl, bx⟩; (try clear k0 k1 k2 k3 k4 r0 r1 r2 r3 r4 t0 t1 t2 t3 t4); obtain ⟨S1, T1, B1, B2, HB, k0, k1, k2, k3, k4, r0, r1, r2, r3, r4, t0, t1, t2, t3, t4⟩ := keepT S1 T1 B1 B2 HB bx; clear bx))))
  have hW5 : w.heap.size + 2 ≤ w5.heap.size := by have := B2.lt; omega
  go_upto_region 13 with (go_at_call 47; go_loud (((with_reducible refine (clone_ap s _ _ S1 HLB.out HLN.out HLR.out).mono ?_); rintro e' w9 ⟨v6, rfl, hQ, b6⟩; obtain ⟨Ab6, cb6, An6, cn6, rfl, hBk, hNt, q1, q2, q3, q4⟩ := ShA.parts hQ; have B1 := B1.below b6 B1.lt; have B2 := B2.below b6 B2.lt; have HB := btr HB HB.size b6; have hz6 := b6.size; (try clear k0 k1 k2 k3 k4 r0 r1 r2 r3 r4 t0 t1 t2 t3 t4); have k0 := B1.cell_ 0; have t0 := B1.free 0; have k1 := B1.cell_ 1; have t1 := B1.free 1; have k2 := B1.cell_ 2; have t2 := B1.free 2; have k3 := B1.cell_ 3; have t3 := B1.free 3; have k4 := B1.cell_ 4; have t4 := B1.free 4; simp at k0 k1 k2 k3 k4; clear b6 hQ S1 T1)))
  have B1u := B1.st5_ (.int .i64 s.nb) (.int .i64 s.nn) (.int .i64 s.ns) (.slice Ab6 s.bs.length cb6) (.slice An6 s.ts.length cn6)
  have hg6 := st5_grown w9 w.heap.size 0 (.int .i64 s.nb) (.int .i64 s.nn) (.int .i64 s.ns) (.slice Ab6 s.bs.length cb6) (.slice An6 s.ts.length cn6)
  have B2u := B2.grown hg6 (by omega)
  have hBk2 := hBk.far hg6 (by omega)
  have hNt2 := hNt.far hg6 (by omega)
  have hb2 := below_grown HB hg6 (Nat.le_refl _) HB.size
  have HSZ : Hid (w5.heap.size ≤ (st5 w9 w.heap.size 0 (.int .i64 s.nb) (.int .i64 s.nn) (.int .i64 s.ns) (.slice Ab6 s.bs.length cb6) (.slice An6 s.ts.length cn6)).heap.size) := Lib.hid (by have := hz6; have := hg6.size; omega)
  clear hg6
  obtain ⟨Wd, hWd⟩ : ∃ V : World, V = (st5 w9 w.heap.size 0 (.int .i64 s.nb) (.int .i64 s.nn) (.int .i64 s.ns) (.slice Ab6 s.bs.length cb6) (.slice An6 s.ts.length cn6)) := ⟨_, rfl⟩
  change Code.wp _ _ _ _ (st5 w9 w.heap.size 0 (.int .i64 s.nb) (.int .i64 s.nn) (.int .i64 s.ns) (.slice Ab6 s.bs.length cb6) (.slice An6 s.ts.length cn6))
  rw [← hWd] at B1u B2u hBk2 hNt2 hb2 HSZ ⊢
  clear hWd y3 z3 hAt B1 B2 HB hBk hNt k0 k1 k2 k3 k4 t0 t1 t2 t3 t4 hz6
  have HW5 := Lib.hid hW5
  obtain ⟨es, hel, hon, hnt, hap⟩ := hNt2
  have hkT := (List.getElem?_eq_some_iff.1 HNN.out).1
  obtain ⟨e0, he⟩ : ∃ e, es[k]? = some e := ⟨_, List.getElem?_eq_getElem (by omega)⟩
  obtain ⟨vt, vs, rfl, q1, q2⟩ := hnt k n e0 HNN.out he
  obtain ⟨At9, ct9, rfl, ht1, ht2⟩ := own_shape q1
  obtain ⟨As9, cs9, rfl, hs1, hs2⟩ := own_shape q2
  obtain ⟨gn, hgn, hgn2⟩ : ∃ gn, An6 = some ⟨gn, 0, none⟩ ∧ w5.heap.size ≤ gn := by
    rcases hon.2 with ⟨h, h0⟩ | ⟨g, c, cu, h, hb, _⟩
    · omega
    · injection h with h1 h2 h3
      exact ⟨g, h1, hb⟩
  subst hgn
  have h5 := es_five hel hnt
  have hga : gn ≠ Wd.heap.size := by
    have := (hon.lt gn rfl).2
    omega
  have HE := Lib.hid he
  have HEL := Lib.hid hel
  have HON := Lib.hid hon
  rw [HLL.out] at he q1
  rw [HTT.out] at hon hel
  have k0 := B1u.cell_ 0
  have k1 := B1u.cell_ 1
  have k2 := B1u.cell_ 2
  have k3 := B1u.cell_ 3
  have k4 := B1u.cell_ 4
  simp at k0 k1 k2 k3 k4
  rw [HTT.out] at k4
  have x4 := own_cellE hon h5 he (j := 3) rfl
  have kd : Wd.drew.cell? ⟨w.heap.size, 4, none⟩ = some (.slice (some ⟨gn, 0, none⟩) T cn6) := drew_cell k4
  have ka : (Wd.alloc (.cells #[.string x] 9)).drew.cell? ⟨w.heap.size, 4, none⟩ = some (.slice (some ⟨gn, 0, none⟩) T cn6) := by
    rw [← HTT.out]
    exact drew_cell ((B1u.alloc_ _).cell_ 4)
  have xd : Wd.drew.cell? ⟨gn, k * 5 + 3, none⟩ = some (.slice At9 L ct9) := drew_cell x4
  have xa : (Wd.alloc (.cells #[.string x] 9)).drew.cell? ⟨gn, k * 5 + 3, none⟩ = some (.slice At9 L ct9) := own_cellE (drew_own (hon.alloc _)) h5 he (j := 3) rfl
  have hqb : ∀ g, (Value.slice At9 L ct9).ownBlock = some g → w5.heap.size ≤ g := fun g hg => (q1.lt g hg).1
  have hqn : (Value.slice At9 L ct9).ownBlock ≠ some Wd.heap.size := fun e => by
    have := (q1.lt _ e).2
    omega
  have hzA : w5.heap.size ≤ (Wd.alloc (.cells #[.string x] 9)).drew.heap.size := by
    have := HSZ.out
    show w5.heap.size ≤ (Wd.alloc (.cells #[.string x] 9)).heap.size
    simp
    omega
  clear k0 k1 k2 k3 k4 x4
  refine wp_region_noPanic ?_
  refine wp_region_held_drew (S := (fun w_ => w_.cell? ⟨w.heap.size, 4, none⟩ = some (.slice (some ⟨gn, 0, none⟩) T cn6))) (by kernel_rfl) ?_ (fun hHeld => ?_)
  · (first | with_reducible exact kd | with_reducible exact ka | with_reducible exact k4' | with_reducible exact kb)
  refine tk 0 ⟨some 50, .fieldAddr 25 (.tmp 3) 4, 0, "note.go:54", #[], none⟩ ?_; try simp only [Act.put, pz1, pz2, pz3]
  refine tk 1 ⟨some 51, .load 23 (.tmp 50), 23, "note.go:54", #[⟨0, .data⟩], none⟩ ?_; try simp only [Act.put, pz1, pz2, pz3]
  refine tk 2 ⟨some 52, .move (.tmp 8), 3, "note.go:54", #[], none⟩ ?_; try simp only [Act.put, pz1, pz2, pz3]
  refine tk 3 ⟨some 53, .fieldAddr 25 (.tmp 3) 4, 0, "note.go:54", #[], none⟩ ?_; try simp only [Act.put, pz1, pz2, pz3]
  refine tk 4 ⟨some 54, .load 23 (.tmp 53), 23, "note.go:54", #[⟨3, .data⟩], none⟩ ?_; try simp only [Act.put, pz1, pz2, pz3]
  refine tk 5 ⟨some 55, .move (.tmp 8), 3, "note.go:54", #[], none⟩ ?_; try simp only [Act.put, pz1, pz2, pz3]
  refine tk 6 ⟨some 56, .indexAddr 23 (.tmp 54) (.tmp 55), 0, "note.go:54", #[⟨4, .data⟩, ⟨5, .data⟩], none⟩ ?_; try simp only [Act.put, pz1, pz2, pz3]
  refine tk 7 ⟨some 57, .fieldAddr 49 (.tmp 56) 3, 0, "note.go:54", #[⟨6, .data⟩], none⟩ ?_; try simp only [Act.put, pz1, pz2, pz3]
  refine tk 9 ⟨some 59, .move (.tmp 11), 3, "note.go:54", #[], none⟩ ?_; try simp only [Act.put, pz1, pz2, pz3]
  refine tk 10 ⟨some 60, .move (.tmp 2), 9, "note.go:54", #[], none⟩ ?_; try simp only [Act.put, pz1, pz2, pz3]
  refine wpAnyH_ready (rs := [8, 11]) (by kernel_rfl) (by simp) ?_
  refine (AllReadyH.cons (o := ⟨some 58, .load 46 (.tmp 57), 46, "note.go:54", #[⟨7, .data⟩], none⟩) rfl (fun K hK => ?_) (AllReadyH.cons (o := ⟨some 61, .buildSlice 46 1 #[(0, .tmp 60)], 46, "note.go:54", #[⟨10, .data⟩], none⟩) rfl (fun K hK => ?_) AllReadyH.nil))
  · go_simp
    refine hK.out _ _ ?_ (fun hNew => ?_)
    · (first | with_reducible exact kd | with_reducible exact ka | with_reducible exact k4' | with_reducible exact kb)
    clear hK K hHeld
    have hHeld := hNew
    clear hNew
    try simp only [Act.put, pz1, pz2, pz3]
    refine wpAnyH_ready (rs := [11]) (by kernel_rfl) (by simp) ?_
    refine AllReadyH.cons (o := ⟨some 61, .buildSlice 46 1 #[(0, .tmp 60)], 46, "note.go:54", #[⟨10, .data⟩], none⟩) rfl (fun K hK => ?_) AllReadyH.nil
    go_simp
    refine hK.out _ _ ?_ (fun hNew => ?_)
    · (first | with_reducible exact kd | with_reducible exact ka | with_reducible exact k4' | with_reducible exact kb)
    clear hK K hHeld
    have hHeld := hNew
    clear hNew
    try simp only [Act.put, pz1, pz2, pz3]
    refine wpAnyH_ready (rs := [12]) (by kernel_rfl) (by simp) ?_
    refine AllReadyH.cons (o := ⟨some 62, .call { callee := .value (.func 48), args := #[.tmp 58, .tmp 59, .tmp 61], argTypes := #[46, 3, 46] }, 46, "note.go:54", #[⟨8, .data⟩, ⟨9, .data⟩, ⟨11, .data⟩], none⟩) rfl (fun K hK => ?_) AllReadyH.nil
    go_simp
    (go_at_call 48; go_loud (((with_reducible refine (insStr _ w5.heap.size At9 L ct9 P Wd.heap.size n.tg x (drew_own (q1.alloc (.cells #[.string x] 9))) hPL hL8 (drew_blk (Blk.new_ Wd 9 #[.string x])) hqn hzA).mono ?_); rintro e' w7 ⟨v9, rfl, ho', hg'⟩; have hof : ∀ j, j < w5.heap.size → (Value.slice At9 L ct9).ownBlock ≠ some j := fun j hj h => (by have := hqb j h; omega); rw [HI9.out] at ho'; have B1a := (drew_blk (B1u.alloc_ (.cells #[.string x] 9))).grownR hg' (hof _ (by have := HW5.out; omega)); have B2a := (drew_blk (B2u.alloc_ (.cells #[.string x] 9))).grownR hg' (hof _ (by have := HW5.out; omega)); have HBa := (drew_below (hb2.alloc hb2.size _)).trans (below_app (B := w.heap.size) (by have := HW5.out; omega) hzA (drew_own (q1.alloc (.cells #[.string x] 9))) hg'); have hon7 := (drew_own (hon.alloc (.cells #[.string x] 9))).kept hg' (own_apart (drew_own (hon.alloc (.cells #[.string x] 9))) (drew_own (q1.alloc (.cells #[.string x] 9))) (by decide)); have k4' := B1a.cell_ 4; simp at k4'; rw [HTT.out] at k4'; obtain ⟨A7, c7, rfl, q21, q22⟩ := own_shape ho'; have x7 := own_cellE hon7 h5 he (j := 3) rfl; have f7 := World.ownsRow.frozenAt hon7 (k * 5 + 3); have kb : (w7.setCell ⟨gn, k * 5 + 3, none⟩ (.slice A7 (L + 1) c7)).cell? ⟨w.heap.size, 4, none⟩ = some (.slice (some ⟨gn, 0, none⟩) T cn6) := (by have := (B1a.grown (set1_grown w7 gn (k * 5 + 3) (.slice A7 (L + 1) c7)) (by have := HW5.out; omega)).cell_ 4; simp at this; rw [HTT.out] at this; exact this))))
    go_wp2_with fail
    refine hK.out _ _ ?_ (fun hNew => ?_)
    · (first | with_reducible exact kd | with_reducible exact ka | with_reducible exact k4' | with_reducible exact kb)
    clear hK K hHeld
    have hHeld := hNew
    clear hNew
    try simp only [Act.put, pz1, pz2, pz3]
    refine tk 13 ⟨some 63, .indexAddr 23 (.tmp 51) (.tmp 52), 0, "note.go:54", #[⟨1, .data⟩, ⟨2, .data⟩, ⟨0, .phase⟩, ⟨1, .phase⟩, ⟨2, .phase⟩, ⟨3, .phase⟩, ⟨4, .phase⟩, ⟨5, .phase⟩, ⟨6, .phase⟩, ⟨7, .phase⟩, ⟨8, .phase⟩, ⟨9, .phase⟩, ⟨10, .phase⟩, ⟨11, .phase⟩, ⟨12, .phase⟩], none⟩ ?_; try simp only [Act.put, pz1, pz2, pz3]
    refine tk 14 ⟨some 64, .fieldAddr 49 (.tmp 63) 3, 0, "note.go:54", #[⟨13, .data⟩, ⟨0, .phase⟩, ⟨1, .phase⟩, ⟨2, .phase⟩, ⟨3, .phase⟩, ⟨4, .phase⟩, ⟨5, .phase⟩, ⟨6, .phase⟩, ⟨7, .phase⟩, ⟨8, .phase⟩, ⟨9, .phase⟩, ⟨10, .phase⟩, ⟨11, .phase⟩, ⟨12, .phase⟩], none⟩ ?_; try simp only [Act.put, pz1, pz2, pz3]
    refine wpAnyH_ready (rs := [15]) (by kernel_rfl) (by simp) ?_
    refine AllReadyH.cons (o := ⟨none, .store 46 (.tmp 64) (.tmp 62), 0, "note.go:54", #[⟨14, .data⟩, ⟨12, .data⟩, ⟨12, .chain⟩, ⟨0, .phase⟩, ⟨1, .phase⟩, ⟨2, .phase⟩, ⟨3, .phase⟩, ⟨4, .phase⟩, ⟨5, .phase⟩, ⟨6, .phase⟩, ⟨7, .phase⟩, ⟨8, .phase⟩, ⟨9, .phase⟩, ⟨10, .phase⟩, ⟨11, .phase⟩, ⟨12, .phase⟩], none⟩) rfl (fun K hK => ?_) AllReadyH.nil
    go_simp
    refine hK.out _ _ ?_ (fun hNew => ?_)
    · (first | with_reducible exact kd | with_reducible exact ka | with_reducible exact k4' | with_reducible exact kb)
    clear hK K hHeld
    have hHeld := hNew
    clear hNew
    try simp only [Act.put, pz1, pz2, pz3]
    refine wpAnyH_done (by kernel_rfl) ?_ _
    refine NoPanic.normal ?_
    have hb0 : Below Wd.heap.size Wd (Wd.alloc (.cells #[.string x] 9)).drew := drew_below ((Below.refl _ Wd).alloc (Nat.le_refl _) _)
    have hl9 : (tgIns n.tg x).length = L + 1 := by rw [tgIns_len, HLL.out]
    obtain ⟨hNw, hgw⟩ := nt_tags (xs := tgIns n.tg x) HEL.out (drew_own (HON.out.alloc (.cells #[.string x] 9))) (fun k n e a b => (hnt k n e a b).below hb0) hap HNN.out HE.out (by rw [HLL.out]; exact hg') (by rw [hl9]; exact ho')
    have B1w := B1a.grown hgw (by have := HW5.out; omega)
    have B2w := B2a.grown hgw (by have := HW5.out; omega)
    have hB7 : BksW w7 w5.heap.size (.slice Ab6 s.bs.length cb6) s.bs := World.ownsRow.kept (own_belowW hBk2 hb0) hg' (own_apart (own_belowW hBk2 hb0) (drew_own (q1.alloc (.cells #[.string x] 9))) (by decide))
    have hBw := BksW.apartN hB7 hon7 hgw
    have hbw := below_grown HBa hgw (by have := HW5.out; omega) HBa.size
    obtain ⟨Wx, hWx⟩ : ∃ V : World, V = w7.setCell ⟨gn, k * 5 + 3, none⟩ (.slice A7 (L + 1) c7) := ⟨_, rfl⟩
    rw [← hWx] at hNw B1w B2w hBw hbw ⊢
    clear hWx hgw hB7 hb0 hl9 B1a B2a HBa ho' hg' hon7 k4' x7 f7 kb hof
    have k0 := B1w.cell_ 0
    have r0 := B2w.cell_ 0
    have t0 := B2w.free 0
    have k1 := B1w.cell_ 1
    have r1 := B2w.cell_ 1
    have t1 := B2w.free 1
    have k2 := B1w.cell_ 2
    have r2 := B2w.cell_ 2
    have t2 := B2w.free 2
    have k3 := B1w.cell_ 3
    have r3 := B2w.cell_ 3
    have t3 := B2w.free 3
    have k4 := B1w.cell_ 4
    have r4 := B2w.cell_ 4
    have t4 := B2w.free 4
    simp at k0 k1 k2 k3 k4 r0 r1 r2 r3 r4
    go_wp2_with fail
    have B2e := B2w.st5_ (.int .i64 s.nb) (.int .i64 s.nn) (.int .i64 s.ns) (.slice Ab6 s.bs.length cb6) (.slice (some ⟨gn, 0, none⟩) s.ts.length cn6)
    have hgE := st5_grown Wx (w.heap.size + 1) 0 (.int .i64 s.nb) (.int .i64 s.nn) (.int .i64 s.ns) (.slice Ab6 s.bs.length cb6) (.slice (some ⟨gn, 0, none⟩) s.ts.length cn6)
    have hBe := hBw.far hgE (by have := HW5.out; omega)
    have hNe := hNw.far hgE (by have := HW5.out; omega)
    have hbe := below_grown hbw hgE (by omega) hbw.size
    change bodyPost _ _ _ _ _ (st5 Wx (w.heap.size + 1) 0 (.int .i64 s.nb) (.int .i64 s.nn) (.int .i64 s.ns) (.slice Ab6 s.bs.length cb6) (.slice (some ⟨gn, 0, none⟩) s.ts.length cn6))
    clear hgE
    generalize st5 Wx (w.heap.size + 1) 0 (.int .i64 s.nb) (.int .i64 s.nn) (.int .i64 s.ns) (.slice Ab6 s.bs.length cb6) (.slice (some ⟨gn, 0, none⟩) s.ts.length cn6) = WF at B2e hBe hNe hbe ⊢
    apply bodyPost_ret (v := .tuple #[.agg #[.int .i64 s.nb, .int .i64 s.nn, .int .i64 s.ns, .slice Ab6 s.bs.length cb6, .slice (some ⟨gn, 0, none⟩) s.ts.length cn6], .int .i64 0])
    · exact results_cell1 Tryd.results18 _ WF (w.heap.size + 1) 25 _ (0, 0) _ rfl B2e Tryd.underlying25 rfl (by kernel_rfl)
    · rfl
    · refine ⟨_, rfl, ?_, hbe⟩
      rw [HRS.out]
      exact ShW.base_ (ShW.make (s := { s with ts := s.ts.set k { n with tg := tgIns n.tg x } }) (w := WF) (base := w5.heap.size) (vb := .slice Ab6 s.bs.length cb6) (vn := .slice (some ⟨gn, 0, none⟩) s.ts.length cn6) hBe hNe) (by have := HW5.out; omega)
  · go_simp
    refine hK.out _ _ ?_ (fun hNew => ?_)
    · (first | with_reducible exact kd | with_reducible exact ka | with_reducible exact k4' | with_reducible exact kb)
    clear hK K hHeld
    have hHeld := hNew
    clear hNew
    try simp only [Act.put, pz1, pz2, pz3]
    refine wpAnyH_ready (rs := [8]) (by kernel_rfl) (by simp) ?_
    refine AllReadyH.cons (o := ⟨some 58, .load 46 (.tmp 57), 46, "note.go:54", #[⟨7, .data⟩], none⟩) rfl (fun K hK => ?_) AllReadyH.nil
    go_simp
    refine hK.out _ _ ?_ (fun hNew => ?_)
    · (first | with_reducible exact kd | with_reducible exact ka | with_reducible exact k4' | with_reducible exact kb)
    clear hK K hHeld
    have hHeld := hNew
    clear hNew
    try simp only [Act.put, pz1, pz2, pz3]
    refine wpAnyH_ready (rs := [12]) (by kernel_rfl) (by simp) ?_
    refine AllReadyH.cons (o := ⟨some 62, .call { callee := .value (.func 48), args := #[.tmp 58, .tmp 59, .tmp 61], argTypes := #[46, 3, 46] }, 46, "note.go:54", #[⟨8, .data⟩, ⟨9, .data⟩, ⟨11, .data⟩], none⟩) rfl (fun K hK => ?_) AllReadyH.nil
    go_simp
    (go_at_call 48; go_loud (((with_reducible refine (insStr _ w5.heap.size At9 L ct9 P Wd.heap.size n.tg x (drew_own (q1.alloc (.cells #[.string x] 9))) hPL hL8 (drew_blk (Blk.new_ Wd 9 #[.string x])) hqn hzA).mono ?_); rintro e' w7 ⟨v9, rfl, ho', hg'⟩; have hof : ∀ j, j < w5.heap.size → (Value.slice At9 L ct9).ownBlock ≠ some j := fun j hj h => (by have := hqb j h; omega); rw [HI9.out] at ho'; have B1a := (drew_blk (B1u.alloc_ (.cells #[.string x] 9))).grownR hg' (hof _ (by have := HW5.out; omega)); have B2a := (drew_blk (B2u.alloc_ (.cells #[.string x] 9))).grownR hg' (hof _ (by have := HW5.out; omega)); have HBa := (drew_below (hb2.alloc hb2.size _)).trans (below_app (B := w.heap.size) (by have := HW5.out; omega) hzA (drew_own (q1.alloc (.cells #[.string x] 9))) hg'); have hon7 := (drew_own (hon.alloc (.cells #[.string x] 9))).kept hg' (own_apart (drew_own (hon.alloc (.cells #[.string x] 9))) (drew_own (q1.alloc (.cells #[.string x] 9))) (by decide)); have k4' := B1a.cell_ 4; simp at k4'; rw [HTT.out] at k4'; obtain ⟨A7, c7, rfl, q21, q22⟩ := own_shape ho'; have x7 := own_cellE hon7 h5 he (j := 3) rfl; have f7 := World.ownsRow.frozenAt hon7 (k * 5 + 3); have kb : (w7.setCell ⟨gn, k * 5 + 3, none⟩ (.slice A7 (L + 1) c7)).cell? ⟨w.heap.size, 4, none⟩ = some (.slice (some ⟨gn, 0, none⟩) T cn6) := (by have := (B1a.grown (set1_grown w7 gn (k * 5 + 3) (.slice A7 (L + 1) c7)) (by have := HW5.out; omega)).cell_ 4; simp at this; rw [HTT.out] at this; exact this))))
    go_wp2_with fail
    refine hK.out _ _ ?_ (fun hNew => ?_)
    · (first | with_reducible exact kd | with_reducible exact ka | with_reducible exact k4' | with_reducible exact kb)
    clear hK K hHeld
    have hHeld := hNew
    clear hNew
    try simp only [Act.put, pz1, pz2, pz3]
    refine tk 13 ⟨some 63, .indexAddr 23 (.tmp 51) (.tmp 52), 0, "note.go:54", #[⟨1, .data⟩, ⟨2, .data⟩, ⟨0, .phase⟩, ⟨1, .phase⟩, ⟨2, .phase⟩, ⟨3, .phase⟩, ⟨4, .phase⟩, ⟨5, .phase⟩, ⟨6, .phase⟩, ⟨7, .phase⟩, ⟨8, .phase⟩, ⟨9, .phase⟩, ⟨10, .phase⟩, ⟨11, .phase⟩, ⟨12, .phase⟩], none⟩ ?_; try simp only [Act.put, pz1, pz2, pz3]
    refine tk 14 ⟨some 64, .fieldAddr 49 (.tmp 63) 3, 0, "note.go:54", #[⟨13, .data⟩, ⟨0, .phase⟩, ⟨1, .phase⟩, ⟨2, .phase⟩, ⟨3, .phase⟩, ⟨4, .phase⟩, ⟨5, .phase⟩, ⟨6, .phase⟩, ⟨7, .phase⟩, ⟨8, .phase⟩, ⟨9, .phase⟩, ⟨10, .phase⟩, ⟨11, .phase⟩, ⟨12, .phase⟩], none⟩ ?_; try simp only [Act.put, pz1, pz2, pz3]
    refine wpAnyH_ready (rs := [15]) (by kernel_rfl) (by simp) ?_
    refine AllReadyH.cons (o := ⟨none, .store 46 (.tmp 64) (.tmp 62), 0, "note.go:54", #[⟨14, .data⟩, ⟨12, .data⟩, ⟨12, .chain⟩, ⟨0, .phase⟩, ⟨1, .phase⟩, ⟨2, .phase⟩, ⟨3, .phase⟩, ⟨4, .phase⟩, ⟨5, .phase⟩, ⟨6, .phase⟩, ⟨7, .phase⟩, ⟨8, .phase⟩, ⟨9, .phase⟩, ⟨10, .phase⟩, ⟨11, .phase⟩, ⟨12, .phase⟩], none⟩) rfl (fun K hK => ?_) AllReadyH.nil
    go_simp
    refine hK.out _ _ ?_ (fun hNew => ?_)
    · (first | with_reducible exact kd | with_reducible exact ka | with_reducible exact k4' | with_reducible exact kb)
    clear hK K hHeld
    have hHeld := hNew
    clear hNew
    try simp only [Act.put, pz1, pz2, pz3]
    refine wpAnyH_done (by kernel_rfl) ?_ _
    refine NoPanic.normal ?_
    have hb0 : Below Wd.heap.size Wd (Wd.alloc (.cells #[.string x] 9)).drew := drew_below ((Below.refl _ Wd).alloc (Nat.le_refl _) _)
    have hl9 : (tgIns n.tg x).length = L + 1 := by rw [tgIns_len, HLL.out]
    obtain ⟨hNw, hgw⟩ := nt_tags (xs := tgIns n.tg x) HEL.out (drew_own (HON.out.alloc (.cells #[.string x] 9))) (fun k n e a b => (hnt k n e a b).below hb0) hap HNN.out HE.out (by rw [HLL.out]; exact hg') (by rw [hl9]; exact ho')
    have B1w := B1a.grown hgw (by have := HW5.out; omega)
    have B2w := B2a.grown hgw (by have := HW5.out; omega)
    have hB7 : BksW w7 w5.heap.size (.slice Ab6 s.bs.length cb6) s.bs := World.ownsRow.kept (own_belowW hBk2 hb0) hg' (own_apart (own_belowW hBk2 hb0) (drew_own (q1.alloc (.cells #[.string x] 9))) (by decide))
    have hBw := BksW.apartN hB7 hon7 hgw
    have hbw := below_grown HBa hgw (by have := HW5.out; omega) HBa.size
    obtain ⟨Wx, hWx⟩ : ∃ V : World, V = w7.setCell ⟨gn, k * 5 + 3, none⟩ (.slice A7 (L + 1) c7) := ⟨_, rfl⟩
    rw [← hWx] at hNw B1w B2w hBw hbw ⊢
    clear hWx hgw hB7 hb0 hl9 B1a B2a HBa ho' hg' hon7 k4' x7 f7 kb hof
    have k0 := B1w.cell_ 0
    have r0 := B2w.cell_ 0
    have t0 := B2w.free 0
    have k1 := B1w.cell_ 1
    have r1 := B2w.cell_ 1
    have t1 := B2w.free 1
    have k2 := B1w.cell_ 2
    have r2 := B2w.cell_ 2
    have t2 := B2w.free 2
    have k3 := B1w.cell_ 3
    have r3 := B2w.cell_ 3
    have t3 := B2w.free 3
    have k4 := B1w.cell_ 4
    have r4 := B2w.cell_ 4
    have t4 := B2w.free 4
    simp at k0 k1 k2 k3 k4 r0 r1 r2 r3 r4
    go_wp2_with fail
    have B2e := B2w.st5_ (.int .i64 s.nb) (.int .i64 s.nn) (.int .i64 s.ns) (.slice Ab6 s.bs.length cb6) (.slice (some ⟨gn, 0, none⟩) s.ts.length cn6)
    have hgE := st5_grown Wx (w.heap.size + 1) 0 (.int .i64 s.nb) (.int .i64 s.nn) (.int .i64 s.ns) (.slice Ab6 s.bs.length cb6) (.slice (some ⟨gn, 0, none⟩) s.ts.length cn6)
    have hBe := hBw.far hgE (by have := HW5.out; omega)
    have hNe := hNw.far hgE (by have := HW5.out; omega)
    have hbe := below_grown hbw hgE (by omega) hbw.size
    change bodyPost _ _ _ _ _ (st5 Wx (w.heap.size + 1) 0 (.int .i64 s.nb) (.int .i64 s.nn) (.int .i64 s.ns) (.slice Ab6 s.bs.length cb6) (.slice (some ⟨gn, 0, none⟩) s.ts.length cn6))
    clear hgE
    generalize st5 Wx (w.heap.size + 1) 0 (.int .i64 s.nb) (.int .i64 s.nn) (.int .i64 s.ns) (.slice Ab6 s.bs.length cb6) (.slice (some ⟨gn, 0, none⟩) s.ts.length cn6) = WF at B2e hBe hNe hbe ⊢
    apply bodyPost_ret (v := .tuple #[.agg #[.int .i64 s.nb, .int .i64 s.nn, .int .i64 s.ns, .slice Ab6 s.bs.length cb6, .slice (some ⟨gn, 0, none⟩) s.ts.length cn6], .int .i64 0])
    · exact results_cell1 Tryd.results18 _ WF (w.heap.size + 1) 25 _ (0, 0) _ rfl B2e Tryd.underlying25 rfl (by kernel_rfl)
    · rfl
    · refine ⟨_, rfl, ?_, hbe⟩
      rw [HRS.out]
      exact ShW.base_ (ShW.make (s := { s with ts := s.ts.set k { n with tg := tgIns n.tg x } }) (w := WF) (base := w5.heap.size) (vb := .slice Ab6 s.bs.length cb6) (vn := .slice (some ⟨gn, 0, none⟩) s.ts.length cn6) hBe hNe) (by have := HW5.out; omega)
end Go.Proofs.YtkaoechjekffmaaDoor
namespace Go.Proofs.YtkaoechjekffmaaDoor
open Go.ChangeShapes Go.WideShapes Go.ChangeAt Go.RowKit
attribute [local go_sem ↓] Go.wp_at_zero Go.wp_at_succ
theorem ShW.out {w : World} {base : Nat} {v : Value} {s : Sf} (h : ShW w base v s) : ∃ (A1 : Option Addr) (c1 : Nat) (A2 : Option Addr) (c2 : Nat), v = .agg #[.int .i64 s.nb, .int .i64 s.nn, .int .i64 s.ns, .slice A1 s.bs.length c1, .slice A2 s.ts.length c2] ∧ ShR w w.heap.size (.agg #[.int .i64 s.nb, .int .i64 s.nn, .int .i64 s.ns, .slice A1 s.bs.length c1, .slice A2 s.ts.length c2]) s := by
  have h2 := h.toR
  obtain ⟨A1, c1, A2, c2, rfl, -⟩ := h.parts
  exact ⟨A1, c1, A2, c2, rfl, h2⟩
theorem shtC_cases {s : Sf} {y : Int} {i : Nat} (h : shtC s y (i : Int) = 0) : ∃ k n, FdF s y k n ∧ ntOf s y = n ∧ i < n.sh.length := by
  have hf : findC s y = 0 := by
    unfold shtC at h
    by_cases h1 : findC s y = 0
    · exact h1
    · have h2 : (findC s y == 0) = false := by simpa using h1
      rw [h2] at h
      exact absurd h h1
  obtain ⟨k, n, hF⟩ := fdF_of hf
  refine ⟨k, n, hF, hF.of_, ?_⟩
  unfold shtC at h
  rw [hf, hF.of_] at h
  rcases Nat.lt_or_ge i n.sh.length with h1 | h1
  · exact h1
  · have h2 : decide ((n.sh.length : Int) ≤ (i : Int)) = true := decide_eq_true (by omega)
    rw [h2, Bool.or_true] at h
    cases h
theorem nrem_of (s : Sf) (v : Value) (y : Int) (i : Nat) (x : Int) (w : World) (hS : ShR w w.heap.size v s) (hT : Tabs w) (hc : shtC s y (i : Int) = 0) (hx : (ntOf s y).sh[i]? = some x) : Calls Tryd.prog 22 #[v, .int .i64 y, .int .i64 (i : Int)] w fun e' w' => ∃ v', e' = .returned (.tuple #[v', .int .i64 x, .int .i64 0]) ∧ ShW w' w.heap.size v' (remS s y (i : Int)) ∧ Below w.heap.size w w' := by
  obtain ⟨k, n, hF, hn, hi⟩ := shtC_cases hc
  rw [hn] at hx
  exact nrem_yes s v y w hS hT k n hF i x hx
theorem nsheet_go (s : Sf) (v : Value) (y : Int) (i : Nat) (x : Int) (w : World) (hS : ShR w w.heap.size v s) (hT : Tabs w) (hc : shtC s y (i : Int) = 0) (hx : (ntOf s y).sh[i]? = some x) : Calls Tryd.prog 12 #[v, .int .i64 y, .int .i64 (i : Int)] w fun e' w' => e' = .returned (.tuple #[.int .i64 x, .int .i64 0]) ∧ Below w.heap.size w w' := by
  obtain ⟨k, n, hF, hn, hi⟩ := shtC_cases hc
  rw [hn] at hx
  exact nsheet_yes s v y w hS hT k n hF i x hx
theorem napp_go (s : Sf) (v : Value) (y : Int) (w : World) (hS : ShR w w.heap.size v s) (hT : Tabs w) (hc : appC s y = 0) (q : Sf) (hq : appS s y = q) :
    Calls Tryd.prog 21 #[v, .int .i64 y] w fun e' w' => ∃ A1 c1 A2 c2, e' = .returned (.tuple #[.agg #[.int .i64 q.nb, .int .i64 q.nn, .int .i64 q.ns, .slice A1 q.bs.length c1, .slice A2 q.ts.length c2], .int .i64 s.ns, .int .i64 0]) ∧ ShR w' w'.heap.size (.agg #[.int .i64 q.nb, .int .i64 q.nn, .int .i64 q.ns, .slice A1 q.bs.length c1, .slice A2 q.ts.length c2]) q ∧ Below w.heap.size w w' := by
  subst hq
  refine (napp_yes s v y w hS hT hc).mono ?_
  rintro e' w' ⟨v', rfl, h1, h2⟩
  obtain ⟨A1, c1, A2, c2, rfl, h3⟩ := h1.out
  exact ⟨A1, c1, A2, c2, rfl, h3, h2⟩
theorem nrem_go (s : Sf) (v : Value) (y : Int) (i : Nat) (x : Int) (w : World) (hS : ShR w w.heap.size v s) (hT : Tabs w) (hc : shtC s y (i : Int) = 0) (hx : (ntOf s y).sh[i]? = some x) (q : Sf) (hq : remS s y (i : Int) = q) :
    Calls Tryd.prog 22 #[v, .int .i64 y, .int .i64 (i : Int)] w fun e' w' => ∃ A1 c1 A2 c2, e' = .returned (.tuple #[.agg #[.int .i64 q.nb, .int .i64 q.nn, .int .i64 q.ns, .slice A1 q.bs.length c1, .slice A2 q.ts.length c2], .int .i64 x, .int .i64 0]) ∧ ShR w' w'.heap.size (.agg #[.int .i64 q.nb, .int .i64 q.nn, .int .i64 q.ns, .slice A1 q.bs.length c1, .slice A2 q.ts.length c2]) q ∧ Below w.heap.size w w' := by
  subst hq
  refine (nrem_of s v y i x w hS hT hc hx).mono ?_
  rintro e' w' ⟨v', rfl, h1, h2⟩
  obtain ⟨A1, c1, A2, c2, rfl, h3⟩ := h1.out
  exact ⟨A1, c1, A2, c2, rfl, h3, h2⟩
theorem ntag_go (s : Sf) (v : Value) (y : Int) (x : ByteArray) (w : World) (hS : ShR w w.heap.size v s) (hT : Tabs w) (hc : tagC s y x = 0) (q : Sf) (hq : tagS s y x = q) :
    Calls Tryd.prog 18 #[v, .int .i64 y, .string x] w fun e' w' => ∃ A1 c1 A2 c2, e' = .returned (.tuple #[.agg #[.int .i64 q.nb, .int .i64 q.nn, .int .i64 q.ns, .slice A1 q.bs.length c1, .slice A2 q.ts.length c2], .int .i64 0]) ∧ ShR w' w'.heap.size (.agg #[.int .i64 q.nb, .int .i64 q.nn, .int .i64 q.ns, .slice A1 q.bs.length c1, .slice A2 q.ts.length c2]) q ∧ Below w.heap.size w w' := by
  subst hq
  refine (ntag_yes s v y x w hS hT hc).mono ?_
  rintro e' w' ⟨v', rfl, h1, h2⟩
  obtain ⟨A1, c1, A2, c2, rfl, h3⟩ := h1.out
  exact ⟨A1, c1, A2, c2, rfl, h3, h2⟩
theorem nunt_go (s : Sf) (v : Value) (y : Int) (x : ByteArray) (w : World) (hS : ShR w w.heap.size v s) (hT : Tabs w) (hc : untC s y x = 0) (q : Sf) (hq : untS s y x = q) :
    Calls Tryd.prog 20 #[v, .int .i64 y, .string x] w fun e' w' => ∃ A1 c1 A2 c2, e' = .returned (.tuple #[.agg #[.int .i64 q.nb, .int .i64 q.nn, .int .i64 q.ns, .slice A1 q.bs.length c1, .slice A2 q.ts.length c2], .int .i64 0]) ∧ ShR w' w'.heap.size (.agg #[.int .i64 q.nb, .int .i64 q.nn, .int .i64 q.ns, .slice A1 q.bs.length c1, .slice A2 q.ts.length c2]) q ∧ Below w.heap.size w w' := by
  subst hq
  refine (nunt_yes s v y x w hS hT hc).mono ?_
  rintro e' w' ⟨v', rfl, h1, h2⟩
  obtain ⟨A1, c1, A2, c2, rfl, h3⟩ := h1.out
  exact ⟨A1, c1, A2, c2, rfl, h3, h2⟩
def sN : ByteArray := ⟨#[110]⟩
def sBb : ByteArray := ⟨#[98]⟩
def sX : ByteArray := ⟨#[120]⟩
def sfO : Sf := ⟨2, 2, 1, [⟨1, sBb⟩], [⟨1, 1, sN, [], []⟩]⟩
def ntO : Nt := ⟨1, 1, sN, [], []⟩
theorem one_any (w : World) :
    Calls Tryd.prog 26 #[] w fun e' w' => ∃ A1 c1 A2 c2, e' = .returned (.agg #[.int .i64 sfO.nb, .int .i64 sfO.nn, .int .i64 sfO.ns, .slice A1 sfO.bs.length c1, .slice A2 sfO.ts.length c2]) ∧ ShR w' w'.heap.size (.agg #[.int .i64 sfO.nb, .int .i64 sfO.nn, .int .i64 sfO.ns, .slice A1 sfO.bs.length c1, .slice A2 sfO.ts.length c2]) sfO ∧ Below w.heap.size w w' := by
  have B0 : Blk (((w.alloc (.cells #[.int .i64 2, .int .i64 2, .int .i64 1, .slice (some ⟨w.heap.size + 1, 0, none⟩) 1 1, .slice (some ⟨w.heap.size + 2, 0, none⟩) 1 1] 25)).alloc (.cells #[.int .i64 1, .string ⟨#[98]⟩] 61)).alloc (.cells #[.int .i64 1, .int .i64 1, .string ⟨#[110]⟩, .slice none 0 0, .slice none 0 0] 49)) w.heap.size 25 #[.int .i64 2, .int .i64 2, .int .i64 1, .slice (some ⟨w.heap.size + 1, 0, none⟩) 1 1, .slice (some ⟨w.heap.size + 2, 0, none⟩) 1 1] := ((Blk.new_ w 25 #[.int .i64 2, .int .i64 2, .int .i64 1, .slice (some ⟨w.heap.size + 1, 0, none⟩) 1 1, .slice (some ⟨w.heap.size + 2, 0, none⟩) 1 1]).alloc_ _).alloc_ _
  have hb0 : Below w.heap.size w (((w.alloc (.cells #[.int .i64 2, .int .i64 2, .int .i64 1, .slice (some ⟨w.heap.size + 1, 0, none⟩) 1 1, .slice (some ⟨w.heap.size + 2, 0, none⟩) 1 1] 25)).alloc (.cells #[.int .i64 1, .string ⟨#[98]⟩] 61)).alloc (.cells #[.int .i64 1, .int .i64 1, .string ⟨#[110]⟩, .slice none 0 0, .slice none 0 0] 49)) := (((Below.refl w.heap.size w).alloc (Nat.le_refl _) _).alloc (by first | (simp; done) | (simp; omega)) _).alloc (by first | (simp; done) | (simp; omega)) _
  have hs1 : (w.alloc (.cells #[.int .i64 2, .int .i64 2, .int .i64 1, .slice (some ⟨w.heap.size + 1, 0, none⟩) 1 1, .slice (some ⟨w.heap.size + 2, 0, none⟩) 1 1] 25)).heap.size = w.heap.size + 1 := by simp
  have hs2 : ((w.alloc (.cells #[.int .i64 2, .int .i64 2, .int .i64 1, .slice (some ⟨w.heap.size + 1, 0, none⟩) 1 1, .slice (some ⟨w.heap.size + 2, 0, none⟩) 1 1] 25)).alloc (.cells #[.int .i64 1, .string ⟨#[98]⟩] 61)).heap.size = w.heap.size + 2 := by simp
  have hBk : BksW (((w.alloc (.cells #[.int .i64 2, .int .i64 2, .int .i64 1, .slice (some ⟨w.heap.size + 1, 0, none⟩) 1 1, .slice (some ⟨w.heap.size + 2, 0, none⟩) 1 1] 25)).alloc (.cells #[.int .i64 1, .string ⟨#[98]⟩] 61)).alloc (.cells #[.int .i64 1, .int .i64 1, .string ⟨#[110]⟩, .slice none 0 0, .slice none 0 0] 49)) (w.heap.size + 1) (.slice (some ⟨w.heap.size + 1, 0, none⟩) 1 1) sfO.bs := by
    have h := (World.ownsRow_lit (base := w.heap.size + 1) (e := 61) (size := 2) (w.alloc (.cells #[.int .i64 2, .int .i64 2, .int .i64 1, .slice (some ⟨w.heap.size + 1, 0, none⟩) 1 1, .slice (some ⟨w.heap.size + 2, 0, none⟩) 1 1] 25)) #[.int .i64 1, .string ⟨#[98]⟩] 1 (by rw [hs1]; omega) (by unfold maxLen; omega) rfl).alloc (.cells #[.int .i64 1, .int .i64 1, .string ⟨#[110]⟩, .slice none 0 0, .slice none 0 0] 49)
    rw [hs1] at h
    exact h
  have hNt : NtsW (((w.alloc (.cells #[.int .i64 2, .int .i64 2, .int .i64 1, .slice (some ⟨w.heap.size + 1, 0, none⟩) 1 1, .slice (some ⟨w.heap.size + 2, 0, none⟩) 1 1] 25)).alloc (.cells #[.int .i64 1, .string ⟨#[98]⟩] 61)).alloc (.cells #[.int .i64 1, .int .i64 1, .string ⟨#[110]⟩, .slice none 0 0, .slice none 0 0] 49)) (w.heap.size + 1) (.slice (some ⟨w.heap.size + 2, 0, none⟩) 1 1) sfO.ts := by
    have h := World.ownsRow_lit (base := w.heap.size + 1) (e := 49) (size := 5) ((w.alloc (.cells #[.int .i64 2, .int .i64 2, .int .i64 1, .slice (some ⟨w.heap.size + 1, 0, none⟩) 1 1, .slice (some ⟨w.heap.size + 2, 0, none⟩) 1 1] 25)).alloc (.cells #[.int .i64 1, .string ⟨#[98]⟩] 61)) #[.int .i64 1, .int .i64 1, .string ⟨#[110]⟩, .slice none 0 0, .slice none 0 0] 1 (by rw [hs2]; omega) (by unfold maxLen; omega) rfl
    rw [hs2] at h
    refine ⟨[ntC ntO (.slice none 0 0) (.slice none 0 0)], rfl, h, fun k n e a b => ?_⟩
    cases k with
    | zero =>
      cases a
      cases b
      exact ⟨_, _, rfl, World.ownsRow_nil _ _ _ _, World.ownsRow_nil _ _ _ _⟩
    | succ k => simp [sfO] at a
  go_enter Tryd.func26, Tryd.ntmps26
  go_wp2_with fail
  have hW := ShW.make (s := sfO) hBk hNt
  change bodyPost _ _ _ _ _ (((w.alloc (.cells #[.int .i64 2, .int .i64 2, .int .i64 1, .slice (some ⟨w.heap.size + 1, 0, none⟩) 1 1, .slice (some ⟨w.heap.size + 2, 0, none⟩) 1 1] 25)).alloc (.cells #[.int .i64 1, .string ⟨#[98]⟩] 61)).alloc (.cells #[.int .i64 1, .int .i64 1, .string ⟨#[110]⟩, .slice none 0 0, .slice none 0 0] 49))
  generalize (((w.alloc (.cells #[.int .i64 2, .int .i64 2, .int .i64 1, .slice (some ⟨w.heap.size + 1, 0, none⟩) 1 1, .slice (some ⟨w.heap.size + 2, 0, none⟩) 1 1] 25)).alloc (.cells #[.int .i64 1, .string ⟨#[98]⟩] 61)).alloc (.cells #[.int .i64 1, .int .i64 1, .string ⟨#[110]⟩, .slice none 0 0, .slice none 0 0] 49)) = WF at B0 hW hb0 ⊢
  apply bodyPost_ret (v := .agg #[.int .i64 2, .int .i64 2, .int .i64 1, .slice (some ⟨w.heap.size + 1, 0, none⟩) 1 1, .slice (some ⟨w.heap.size + 2, 0, none⟩) 1 1])
  · exact results_cell_row Tryd.results26 _ WF w.heap.size 25 _ (0, 0) _ rfl B0 Tryd.underlying25 rfl (by kernel_rfl)
  · rfl
  · exact ⟨_, _, _, _, rfl, hW.toR, hb0⟩
def sq1 : Sf := ⟨2, 2, 2, [⟨1, sBb⟩], [⟨1, 1, sN, [], [1]⟩]⟩
def sq2 : Sf := ⟨2, 2, 3, [⟨1, sBb⟩], [⟨1, 1, sN, [], [1, 2]⟩]⟩
def sq3 : Sf := ⟨2, 2, 3, [⟨1, sBb⟩], [⟨1, 1, sN, [], [2]⟩]⟩
def sqT : Sf := ⟨2, 2, 1, [⟨1, sBb⟩], [⟨1, 1, sN, [sX], []⟩]⟩
theorem aw1 (v : Value) (w : World) (hS : ShR w w.heap.size v sfO) (hT : Tabs w) :
    Calls Tryd.prog 21 #[v, .int .i64 1] w fun e' w' => ∃ A1 c1 A2 c2, e' = .returned (.tuple #[.agg #[.int .i64 2, .int .i64 2, .int .i64 2, .slice A1 1 c1, .slice A2 1 c2], .int .i64 1, .int .i64 0]) ∧ ShR w' w'.heap.size (.agg #[.int .i64 2, .int .i64 2, .int .i64 2, .slice A1 1 c1, .slice A2 1 c2]) sq1 ∧ Below w.heap.size w w' := napp_go sfO v 1 w hS hT (by decide +kernel) sq1 (by kernel_rfl)
theorem aw2 (v : Value) (w : World) (hS : ShR w w.heap.size v sq1) (hT : Tabs w) :
    Calls Tryd.prog 21 #[v, .int .i64 1] w fun e' w' => ∃ A1 c1 A2 c2, e' = .returned (.tuple #[.agg #[.int .i64 2, .int .i64 2, .int .i64 3, .slice A1 1 c1, .slice A2 1 c2], .int .i64 2, .int .i64 0]) ∧ ShR w' w'.heap.size (.agg #[.int .i64 2, .int .i64 2, .int .i64 3, .slice A1 1 c1, .slice A2 1 c2]) sq2 ∧ Below w.heap.size w w' := napp_go sq1 v 1 w hS hT (by decide +kernel) sq2 (by kernel_rfl)
theorem aw3 (v : Value) (w : World) (hS : ShR w w.heap.size v sq2) (hT : Tabs w) :
    Calls Tryd.prog 22 #[v, .int .i64 1, .int .i64 0] w fun e' w' => ∃ A1 c1 A2 c2, e' = .returned (.tuple #[.agg #[.int .i64 2, .int .i64 2, .int .i64 3, .slice A1 1 c1, .slice A2 1 c2], .int .i64 1, .int .i64 0]) ∧ ShR w' w'.heap.size (.agg #[.int .i64 2, .int .i64 2, .int .i64 3, .slice A1 1 c1, .slice A2 1 c2]) sq3 ∧ Below w.heap.size w w' := nrem_go sq2 v 1 0 1 w hS hT (by decide +kernel) (by decide +kernel) sq3 (by kernel_rfl)
theorem aw4 (v : Value) (w : World) (hS : ShR w w.heap.size v sq3) (hT : Tabs w) :
    Calls Tryd.prog 12 #[v, .int .i64 1, .int .i64 0] w fun e' w' => e' = .returned (.tuple #[.int .i64 2, .int .i64 0]) ∧ Below w.heap.size w w' := nsheet_go sq3 v 1 0 2 w hS hT (by decide +kernel) (by decide +kernel)
theorem aw5 (v : Value) (w : World) (hS : ShR w w.heap.size v sfO) (hT : Tabs w) :
    Calls Tryd.prog 18 #[v, .int .i64 1, .string ⟨#[120]⟩] w fun e' w' => ∃ A1 c1 A2 c2, e' = .returned (.tuple #[.agg #[.int .i64 2, .int .i64 2, .int .i64 1, .slice A1 1 c1, .slice A2 1 c2], .int .i64 0]) ∧ ShR w' w'.heap.size (.agg #[.int .i64 2, .int .i64 2, .int .i64 1, .slice A1 1 c1, .slice A2 1 c2]) sqT ∧ Below w.heap.size w w' := ntag_go sfO v 1 sX w hS hT (by decide +kernel) sqT (by kernel_rfl)
theorem one_lit (w : World) :
    Calls Tryd.prog 26 #[] w fun e' w' => ∃ A1 c1 A2 c2, e' = .returned (.agg #[.int .i64 2, .int .i64 2, .int .i64 1, .slice A1 1 c1, .slice A2 1 c2]) ∧ ShR w' w'.heap.size (.agg #[.int .i64 2, .int .i64 2, .int .i64 1, .slice A1 1 c1, .slice A2 1 c2]) sfO ∧ Below w.heap.size w w' := one_any w
theorem tag_row {w : World} {a b c : Int} {A B : Option Addr} {ca cb : Nat} (h : ShR w w.heap.size (.agg #[.int .i64 a, .int .i64 b, .int .i64 c, .slice A 1 ca, .slice B 1 cb]) sqT) : ∃ b1 o1 At ct, B = some ⟨b1, o1, none⟩ ∧ b1 < w.heap.size ∧ w.cell? ⟨b1, o1 + 3, none⟩ = some (.slice At 1 ct) ∧ Sl w w.heap.size At ([sX].map strV) := by
  obtain ⟨Ab, cb', An, cn, he, hB, hN, _⟩ := h.ex
  obtain ⟨es, hel, hse, hnt⟩ := hN.ex
  have hel1 : es.length = 1 := hel
  obtain ⟨e0, he0⟩ : ∃ e, es[0]? = some e := ⟨_, List.getElem?_eq_getElem (by omega)⟩
  obtain ⟨At, ct, As, cs, rfl, hAt, -⟩ := (hnt 0 ⟨1, 1, sN, [sX], []⟩ e0 rfl he0).ex
  obtain ⟨b1, o1, rfl, l1, q1⟩ := hse.at_ (by omega)
  have hAn : B = some ⟨b1, o1, none⟩ := by
    injection he with he
    have h4 := congrArg (fun x : Array Value => x[4]?) he
    simp at h4
    exact h4.1
  have y3 := q1 0 _ he0 3 _ rfl
  rw [Nat.zero_mul, Nat.add_zero] at y3
  exact ⟨b1, o1, At, ct, hAn, l1, y3, hAt⟩
theorem aw6 (A B : Option Addr) (c d : Nat) (w : World) (h1 : Sl w w.heap.size A ([sX].map strV)) (h2 : Sl w w.heap.size B ([sX].map strV)) : Calls Tryd.prog 27 #[.slice A 1 c, .slice B 1 d] w fun e' w' => e' = .returned (.bool true) ∧ Below w.heap.size w w' := sameTexts_yes [sX] A B c d w (by decide) h1 h2
theorem sl_one (w : World) (x : ByteArray) : Sl (w.alloc (.cells #[.string x] 9)) (w.alloc (.cells #[.string x] 9)).heap.size (some ⟨w.heap.size, 0, none⟩) ([x].map strV) := by
  refine Or.inr ⟨w.heap.size, 0, rfl, by simp, fun j u hj => ?_⟩
  cases j with
  | zero =>
    rw [Joins.cell_of_block (heap_alloc_new w _)]
    simp at hj
    rw [← hj]
    rfl
  | succ j => simp at hj
theorem aw7 (A : Option Addr) (c b : Nat) (w : World) (hb : b = w.heap.size) (h1 : Sl w w.heap.size A ([sX].map strV)) : Calls Tryd.prog 27 #[.slice A 1 c, .slice (some ⟨b, 0, none⟩) 1 1] (w.alloc (.cells #[.string ⟨#[120]⟩] 9)) fun e' w' => e' = .returned (.bool true) ∧ Below (w.alloc (.cells #[.string ⟨#[120]⟩] 9)).heap.size (w.alloc (.cells #[.string ⟨#[120]⟩] 9)) w' := by
  subst hb
  exact aw6 _ _ _ _ _ (h1.next ((Below.refl _ _).alloc (Nat.le_refl _) _)) (sl_one w sX)
theorem awake_any (w : World) (hT : Tabs w) :
    Calls Tryd.prog 9 #[] w fun e' w' => e' = .returned (.bool true) ∧ Below w.heap.size w w' := by
  have HB : Below w.heap.size w w := Below.refl _ _
  have T1 := hT
  clear hT
  go_enter Tryd.func9, Tryd.ntmps9
  go_wp2_with (first | (go_at_call 26; go_loud (((with_reducible refine (one_lit _).mono ?_); rintro e' w1 ⟨A1, c1, A2, c2, rfl, S0, bx⟩; have T1 := T1.next bx; have HB := btr HB HB.size bx; clear bx))) | (go_at_call 21; go_loud (((with_reducible refine (aw1 _ _ S0 T1).mono ?_); rintro e' w2 ⟨A3, c3, A4, c4, rfl, hN, bx⟩; have AL : Below w2.heap.size w2 (w2.alloc (.cells #[.int .i64 2, .int .i64 2, .int .i64 2, .slice A3 1 c3, .slice A4 1 c4] 25)) := (Below.refl _ _).alloc (Nat.le_refl _) _; have BX : Blk (w2.alloc (.cells #[.int .i64 2, .int .i64 2, .int .i64 2, .slice A3 1 c3, .slice A4 1 c4] 25)) w2.heap.size 25 #[.int .i64 2, .int .i64 2, .int .i64 2, .slice A3 1 c3, .slice A4 1 c4] := Blk.new_ w2 25 #[.int .i64 2, .int .i64 2, .int .i64 2, .slice A3 1 c3, .slice A4 1 c4]; have T1 := (T1.next bx).next AL; have HB := btr (btr HB HB.size bx) (btr HB HB.size bx).size AL; have S1 := hN.next AL; (try clear k0 k1 k2 k3 k4); have k0 := BX.cell_ 0; have k1 := BX.cell_ 1; have k2 := BX.cell_ 2; have k3 := BX.cell_ 3; have k4 := BX.cell_ 4; simp at k0 k1 k2 k3 k4; clear bx AL hN))) | (go_at_call 21; go_loud (((with_reducible refine (aw2 _ _ S1 T1).mono ?_); rintro e' w3 ⟨A5, c5, A6, c6, rfl, hN, bx⟩; have AL : Below w3.heap.size w3 (w3.alloc (.cells #[.int .i64 2, .int .i64 2, .int .i64 3, .slice A5 1 c5, .slice A6 1 c6] 25)) := (Below.refl _ _).alloc (Nat.le_refl _) _; have BX : Blk (w3.alloc (.cells #[.int .i64 2, .int .i64 2, .int .i64 3, .slice A5 1 c5, .slice A6 1 c6] 25)) w3.heap.size 25 #[.int .i64 2, .int .i64 2, .int .i64 3, .slice A5 1 c5, .slice A6 1 c6] := Blk.new_ w3 25 #[.int .i64 2, .int .i64 2, .int .i64 3, .slice A5 1 c5, .slice A6 1 c6]; have T1 := (T1.next bx).next AL; have HB := btr (btr HB HB.size bx) (btr HB HB.size bx).size AL; have S1 := hN.next AL; (try clear k0 k1 k2 k3 k4); have k0 := BX.cell_ 0; have k1 := BX.cell_ 1; have k2 := BX.cell_ 2; have k3 := BX.cell_ 3; have k4 := BX.cell_ 4; simp at k0 k1 k2 k3 k4; clear bx AL hN))) | (go_at_call 22; go_loud (((with_reducible refine (aw3 _ _ S1 T1).mono ?_); rintro e' w4 ⟨A7, c7, A8, c8, rfl, hN, bx⟩; have AL : Below w4.heap.size w4 (w4.alloc (.cells #[.int .i64 2, .int .i64 2, .int .i64 3, .slice A7 1 c7, .slice A8 1 c8] 25)) := (Below.refl _ _).alloc (Nat.le_refl _) _; have BX : Blk (w4.alloc (.cells #[.int .i64 2, .int .i64 2, .int .i64 3, .slice A7 1 c7, .slice A8 1 c8] 25)) w4.heap.size 25 #[.int .i64 2, .int .i64 2, .int .i64 3, .slice A7 1 c7, .slice A8 1 c8] := Blk.new_ w4 25 #[.int .i64 2, .int .i64 2, .int .i64 3, .slice A7 1 c7, .slice A8 1 c8]; have T1 := (T1.next bx).next AL; have HB := btr (btr HB HB.size bx) (btr HB HB.size bx).size AL; have S1 := hN.next AL; (try clear k0 k1 k2 k3 k4); have k0 := BX.cell_ 0; have k1 := BX.cell_ 1; have k2 := BX.cell_ 2; have k3 := BX.cell_ 3; have k4 := BX.cell_ 4; simp at k0 k1 k2 k3 k4; clear bx AL hN))) | (go_at_call 12; go_loud (((with_reducible refine (aw4 _ _ S1 T1).mono ?_); rintro e' w5 ⟨rfl, bx⟩; have T1 := T1.next bx; have HB := btr HB HB.size bx; clear bx S1; clear k0 k1 k2 k3 k4))) | (go_at_call 18; go_loud (((with_reducible refine (aw5 _ _ S0 T1).mono ?_); rintro e' w6 ⟨A9, c9, A10, c10, rfl, hN, bx⟩; have AL : Below w6.heap.size w6 (w6.alloc (.cells #[.int .i64 2, .int .i64 2, .int .i64 1, .slice A9 1 c9, .slice A10 1 c10] 25)) := (Below.refl _ _).alloc (Nat.le_refl _) _; have BX : Blk (w6.alloc (.cells #[.int .i64 2, .int .i64 2, .int .i64 1, .slice A9 1 c9, .slice A10 1 c10] 25)) w6.heap.size 25 #[.int .i64 2, .int .i64 2, .int .i64 1, .slice A9 1 c9, .slice A10 1 c10] := Blk.new_ w6 25 #[.int .i64 2, .int .i64 2, .int .i64 1, .slice A9 1 c9, .slice A10 1 c10]; have T1 := (T1.next bx).next AL; have HB := btr (btr HB HB.size bx) (btr HB HB.size bx).size AL; have S1 := hN.next AL; (try clear k0 k1 k2 k3 k4); have k0 := BX.cell_ 0; have k1 := BX.cell_ 1; have k2 := BX.cell_ 2; have k3 := BX.cell_ 3; have k4 := BX.cell_ 4; simp at k0 k1 k2 k3 k4; clear bx AL hN; obtain ⟨b1, o1, At, ct, rfl, SB, y3, TG⟩ := tag_row S1))) | (go_at_call 27; go_loud (((with_reducible refine (aw7 _ ct _ _ (by simp) TG).mono ?_); rintro e' w7 ⟨rfl, bx⟩; have HB := btr (HB.alloc HB.size _) (HB.alloc HB.size _).size bx))))
  go_ret
  exact ⟨rfl, HB⟩
end Go.Proofs.YtkaoechjekffmaaDoor
namespace Go.Proofs.YtkaoechjekffmaaDoor
open Go.ChangeShapes Go.WideShapes Go.ChangeAt Go.RowKit
attribute [local go_sem ↓] Go.wp_at_zero Go.wp_at_succ
theorem lt_not {p c : ByteArray} (h : lessS p c = true) : Op.bytesLess c.toList p.toList = false ∧ (c.toList == p.toList) = false := by
  constructor
  · cases h1 : lessS c p
    · exact h1
    · have := lessS_trans h h1
      rw [lessS_irr] at this
      cases this
  · cases h1 : (c.toList == p.toList)
    · rfl
    · have h2 : sameS c p = true := h1
      have h3 : p ∈ [c] := hasT_iff.1 (by simpa [hasT] using h2)
      have h4 : p = c := by simpa using h3
      rw [h4, lessS_irr] at h
      cases h
def sfZ : Sf := ⟨0, 0, 0, [], []⟩
theorem ShR.zeroZ (w : World) : ShR w w.heap.size (.agg #[.int .i64 0, .int .i64 0, .int .i64 0, .slice none 0 0, .slice none 0 0]) sfZ := ⟨none, 0, none, 0, rfl, Or.inl rfl, ⟨[], rfl, Or.inl rfl, fun k n e h => by simp [sfZ] at h⟩, by decide, by decide, by decide, by decide⟩
theorem same_zero (w : World) : Calls Tryd.prog 16 #[.agg #[.int .i64 0, .int .i64 0, .int .i64 0, .slice none 0 0, .slice none 0 0], .agg #[.int .i64 0, .int .i64 0, .int .i64 0, .slice none 0 0, .slice none 0 0]] w fun e' w' => e' = .returned (.bool true) ∧ Below w.heap.size w w' := sameShelf_yes sfZ _ _ w (ShR.zeroZ w) (ShR.zeroZ w) (by decide) (by decide) (fun n hn => by simp [sfZ] at hn)
theorem tags_walk (s : Sf) (v : Value) (y : Int) (x : ByteArray) (w : World) (hS : ShR w w.heap.size v s) (hy : i64in y) (hT : Tabs w) :
    Calls Tryd.prog 5 #[v, .int .i64 y, .string x] w fun e' w' => e' = .returned (.bool true) ∧ Below w.heap.size w w' := by
  have hS0 := hS
  obtain ⟨Ab, cb, An, cn, rfl, hB, hN, hcb, hmb, hcn, hmn⟩ := hS.ex
  clear hS
  have HB : Below w.heap.size w (w.alloc (.cells #[.int .i64 s.nb, .int .i64 s.nn, .int .i64 s.ns, .slice Ab s.bs.length cb, .slice An s.ts.length cn] 25)) := ((Below.refl w.heap.size w).alloc (by first | (simp; done) | (simp; omega)) _)
  have B1 : Blk (w.alloc (.cells #[.int .i64 s.nb, .int .i64 s.nn, .int .i64 s.ns, .slice Ab s.bs.length cb, .slice An s.ts.length cn] 25)) w.heap.size 25 #[.int .i64 s.nb, .int .i64 s.nn, .int .i64 s.ns, .slice Ab s.bs.length cb, .slice An s.ts.length cn] := Blk.new_ w 25 #[.int .i64 s.nb, .int .i64 s.nn, .int .i64 s.ns, .slice Ab s.bs.length cb, .slice An s.ts.length cn]
  have S1 : ShR (w.alloc (.cells #[.int .i64 s.nb, .int .i64 s.nn, .int .i64 s.ns, .slice Ab s.bs.length cb, .slice An s.ts.length cn] 25)) ((w.alloc (.cells #[.int .i64 s.nb, .int .i64 s.nn, .int .i64 s.ns, .slice Ab s.bs.length cb, .slice An s.ts.length cn] 25))).heap.size (.agg #[.int .i64 s.nb, .int .i64 s.nn, .int .i64 s.ns, .slice Ab s.bs.length cb, .slice An s.ts.length cn]) s := hS0.next HB
  have T1 := hT.next HB
  obtain ⟨G, hG⟩ : ∃ G, greatS s = G := ⟨_, rfl⟩
  obtain ⟨M, hM⟩ : ∃ M, mayS s = M := ⟨_, rfl⟩
  have HG := Lib.hid hG
  have HM := Lib.hid hM
  clear hG hM hS0 hT hB hN hcb hmb hcn hmn
  by_cases hl1 : 60 < x.size
  · have g1 : (60 : Int) < (x.size : Int) := by omega
    clear hl1
    cases G
    · skip
      go_enter Tryd.func5, Tryd.ntmps5
      go_wp2_with (first | (go_at_call 8; ((with_reducible refine (greatShelf_any s _ _ S1 _ HG.out).mono ?_); rintro e' w2 ⟨rfl, bx⟩; have T1 := T1.next bx; have HB := btr HB HB.size bx; have B1 := B1.below bx B1.lt; have S1 := S1.next bx; (try clear ks0 ks1 ks2 ks3 ks4); have ks0 := B1.cell_ 0; have ks1 := B1.cell_ 1; have ks2 := B1.cell_ 2; have ks3 := B1.cell_ 3; have ks4 := B1.cell_ 4; simp at ks0 ks1 ks2 ks3 ks4; clear bx)) | (go_at_call 17; ((with_reducible refine (smay_any s _ _ S1 T1 _ HM.out).mono ?_); rintro e' w3 ⟨rfl, bx⟩; have T1 := T1.next bx; have HB := btr HB HB.size bx; have B1 := B1.below bx B1.lt; have S1 := S1.next bx; (try clear ks0 ks1 ks2 ks3 ks4); have ks0 := B1.cell_ 0; have ks1 := B1.cell_ 1; have ks2 := B1.cell_ 2; have ks3 := B1.cell_ 3; have ks4 := B1.cell_ 4; simp at ks0 ks1 ks2 ks3 ks4; clear bx)) | (go_at_call 9; ((with_reducible refine (awake_any _ T1).mono ?_); rintro e' wA ⟨rfl, bx⟩; have HB := btr HB HB.size bx)))
      go_ret
      exact ⟨rfl, HB⟩
    · skip
      go_enter Tryd.func5, Tryd.ntmps5
      go_wp2_with (first | (go_at_call 8; ((with_reducible refine (greatShelf_any s _ _ S1 _ HG.out).mono ?_); rintro e' w2 ⟨rfl, bx⟩; have T1 := T1.next bx; have HB := btr HB HB.size bx; have B1 := B1.below bx B1.lt; have S1 := S1.next bx; (try clear ks0 ks1 ks2 ks3 ks4); have ks0 := B1.cell_ 0; have ks1 := B1.cell_ 1; have ks2 := B1.cell_ 2; have ks3 := B1.cell_ 3; have ks4 := B1.cell_ 4; simp at ks0 ks1 ks2 ks3 ks4; clear bx)) | (go_at_call 17; ((with_reducible refine (smay_any s _ _ S1 T1 _ HM.out).mono ?_); rintro e' w3 ⟨rfl, bx⟩; have T1 := T1.next bx; have HB := btr HB HB.size bx; have B1 := B1.below bx B1.lt; have S1 := S1.next bx; (try clear ks0 ks1 ks2 ks3 ks4); have ks0 := B1.cell_ 0; have ks1 := B1.cell_ 1; have ks2 := B1.cell_ 2; have ks3 := B1.cell_ 3; have ks4 := B1.cell_ 4; simp at ks0 ks1 ks2 ks3 ks4; clear bx)) | (go_at_call 9; ((with_reducible refine (awake_any _ T1).mono ?_); rintro e' wA ⟨rfl, bx⟩; have HB := btr HB HB.size bx)))
      go_ret
      exact ⟨rfl, HB⟩
  · have g1 : ¬ (60 : Int) < (x.size : Int) := by omega
    clear hl1
    cases G
    · cases M
      · skip
        go_enter Tryd.func5, Tryd.ntmps5
        go_wp2_with (first | (go_at_call 8; ((with_reducible refine (greatShelf_any s _ _ S1 _ HG.out).mono ?_); rintro e' w2 ⟨rfl, bx⟩; have T1 := T1.next bx; have HB := btr HB HB.size bx; have B1 := B1.below bx B1.lt; have S1 := S1.next bx; (try clear ks0 ks1 ks2 ks3 ks4); have ks0 := B1.cell_ 0; have ks1 := B1.cell_ 1; have ks2 := B1.cell_ 2; have ks3 := B1.cell_ 3; have ks4 := B1.cell_ 4; simp at ks0 ks1 ks2 ks3 ks4; clear bx)) | (go_at_call 17; ((with_reducible refine (smay_any s _ _ S1 T1 _ HM.out).mono ?_); rintro e' w3 ⟨rfl, bx⟩; have T1 := T1.next bx; have HB := btr HB HB.size bx; have B1 := B1.below bx B1.lt; have S1 := S1.next bx; (try clear ks0 ks1 ks2 ks3 ks4); have ks0 := B1.cell_ 0; have ks1 := B1.cell_ 1; have ks2 := B1.cell_ 2; have ks3 := B1.cell_ 3; have ks4 := B1.cell_ 4; simp at ks0 ks1 ks2 ks3 ks4; clear bx)) | (go_at_call 9; ((with_reducible refine (awake_any _ T1).mono ?_); rintro e' wA ⟨rfl, bx⟩; have HB := btr HB HB.size bx)))
        go_ret
        exact ⟨rfl, HB⟩
      · by_cases hap : tagC s y x = 0
        · obtain ⟨kn, n, hF⟩ := tgF_of hap
          obtain ⟨qa, hqa⟩ : ∃ q, tagS s y x = q := ⟨_, rfl⟩
          obtain ⟨m, hm⟩ : ∃ m : Nt, ({ n with tg := tgIns n.tg x } : Nt) = m := ⟨_, rfl⟩
          have hmt : m.tg = tgIns n.tg x := by rw [← hm]
          obtain ⟨L, hL⟩ : ∃ L, m.tg.length = L := ⟨_, rfl⟩
          have HC := Lib.hid hap
          have HQA := Lib.hid hqa
          have HMF := Lib.hid hF.fd.may
          have HLL := Lib.hid hL
          have hF2 : FdF qa y kn m := by rw [← hqa, ← hm]; exact hF.fd2
          have HMA : Hid (mayS qa = true) := Lib.hid (mayS_conv hF2.may)
          have HNA := Lib.hid hF2.at_
          have HNN := Lib.hid hF2.nt
          have HUC : Hid (untC qa y x = 0) := Lib.hid (by rw [← hqa]; exact hF.unt)
          have HUB : Hid (untS qa y x = s) := Lib.hid (by rw [← hqa]; exact hF.back)
          have HTW : Hid (tagC qa y x = 7) := Lib.hid (by rw [← hqa]; exact hF.twice)
          have HUN := Lib.hid hF.none
          have HPR : Hid (m.tg.Pairwise fun a b => lessS a b = true) := Lib.hid (by rw [hmt]; exact hF.pair)
          have HIN : Hid (x ∈ m.tg) := Lib.hid (by rw [hmt]; unfold tgIns; simp)
          have hL8 : L ≤ 4 := by
            have := hF.len
            rw [← hL, hmt, tgIns_len]
            omega
          clear hap hF hF2 hqa hm hmt hL
          go_enter Tryd.func5, Tryd.ntmps5
          go_wp2_with (first | (go_at_call 8; ((with_reducible refine (greatShelf_any s _ _ S1 _ HG.out).mono ?_); rintro e' w2 ⟨rfl, bx⟩; have T1 := T1.next bx; have HB := btr HB HB.size bx; have B1 := B1.below bx B1.lt; have S1 := S1.next bx; (try clear ks0 ks1 ks2 ks3 ks4); have ks0 := B1.cell_ 0; have ks1 := B1.cell_ 1; have ks2 := B1.cell_ 2; have ks3 := B1.cell_ 3; have ks4 := B1.cell_ 4; simp at ks0 ks1 ks2 ks3 ks4; clear bx)) | (go_at_call 17; ((with_reducible refine (smay_any s _ _ S1 T1 _ HM.out).mono ?_); rintro e' w3 ⟨rfl, bx⟩; have T1 := T1.next bx; have HB := btr HB HB.size bx; have B1 := B1.below bx B1.lt; have S1 := S1.next bx; (try clear ks0 ks1 ks2 ks3 ks4); have ks0 := B1.cell_ 0; have ks1 := B1.cell_ 1; have ks2 := B1.cell_ 2; have ks3 := B1.cell_ 3; have ks4 := B1.cell_ 4; simp at ks0 ks1 ks2 ks3 ks4; clear bx)) | (go_at_call 18; ((with_reducible refine (ntag_go s _ y x _ S1 T1 HC.out qa HQA.out).mono ?_); rintro e' w10 ⟨A3, c3, A4, c4, rfl, hN, bq⟩; have AL : Below w10.heap.size w10 (w10.alloc (.cells #[.int .i64 qa.nb, .int .i64 qa.nn, .int .i64 qa.ns, .slice A3 qa.bs.length c3, .slice A4 qa.ts.length c4] 25)) := (Below.refl _ _).alloc (Nat.le_refl _) _; have Ba : Blk (w10.alloc (.cells #[.int .i64 qa.nb, .int .i64 qa.nn, .int .i64 qa.ns, .slice A3 qa.bs.length c3, .slice A4 qa.ts.length c4] 25)) w10.heap.size 25 #[.int .i64 qa.nb, .int .i64 qa.nn, .int .i64 qa.ns, .slice A3 qa.bs.length c3, .slice A4 qa.ts.length c4] := Blk.new_ w10 25 #[.int .i64 qa.nb, .int .i64 qa.nn, .int .i64 qa.ns, .slice A3 qa.bs.length c3, .slice A4 qa.ts.length c4]; have Sa := hN.next AL; have bx := btr bq bq.size AL; have T1 := T1.next bx; have HB := btr HB HB.size bx; have B1 := B1.below bx B1.lt; have S1 := S1.next bx; (try clear ks0 ks1 ks2 ks3 ks4); have ks0 := B1.cell_ 0; have ks1 := B1.cell_ 1; have ks2 := B1.cell_ 2; have ks3 := B1.cell_ 3; have ks4 := B1.cell_ 4; have ka0 := Ba.cell_ 0; have ka1 := Ba.cell_ 1; have ka2 := Ba.cell_ 2; have ka3 := Ba.cell_ 3; have ka4 := Ba.cell_ 4; simp at ks0 ks1 ks2 ks3 ks4 ka0 ka1 ka2 ka3 ka4; clear bx bq AL hN)) | (go_at_call 19; ((with_reducible refine (find_yes qa _ y _ Sa T1 HMA.out kn m HNA.out HNN.out).mono ?_); rintro e' w11 ⟨v1, v2, rfl, p1, p2, bq⟩; obtain ⟨A11, c11, rfl, -, -⟩ := own_shape p1; obtain ⟨A12, c12, rfl, -, -⟩ := own_shape p2; rw [HLL.out] at p1 ⊢; clear p2; have AL : Below w11.heap.size w11 (w11.alloc (.cells #[.int .i64 m.id, .int .i64 m.bk, .string m.nm, .slice A11 L c11, .slice A12 m.sh.length c12] 49)) := (Below.refl _ _).alloc (Nat.le_refl _) _; have Bx : Blk (w11.alloc (.cells #[.int .i64 m.id, .int .i64 m.bk, .string m.nm, .slice A11 L c11, .slice A12 m.sh.length c12] 49)) w11.heap.size 49 #[.int .i64 m.id, .int .i64 m.bk, .string m.nm, .slice A11 L c11, .slice A12 m.sh.length c12] := Blk.new_ w11 49 #[.int .i64 m.id, .int .i64 m.bk, .string m.nm, .slice A11 L c11, .slice A12 m.sh.length c12]; have bx := btr bq bq.size AL; have P1 := (Sl.of_own p1).next AL; clear p1; have T1 := T1.next bx; have HB := btr HB HB.size bx; have B1 := B1.below bx B1.lt; have S1 := S1.next bx; have Ba := Ba.below bx Ba.lt; have Sa := Sa.next bx; (try clear ks0 ks1 ks2 ks3 ks4 ka0 ka1 ka2 ka3 ka4); have ks0 := B1.cell_ 0; have ks1 := B1.cell_ 1; have ks2 := B1.cell_ 2; have ks3 := B1.cell_ 3; have ks4 := B1.cell_ 4; have ka0 := Ba.cell_ 0; have ka1 := Ba.cell_ 1; have ka2 := Ba.cell_ 2; have ka3 := Ba.cell_ 3; have ka4 := Ba.cell_ 4; have kx0 := Bx.cell_ 0; have kx1 := Bx.cell_ 1; have kx2 := Bx.cell_ 2; have kx3 := Bx.cell_ 3; have kx4 := Bx.cell_ 4; simp at ks0 ks1 ks2 ks3 ks4 ka0 ka1 ka2 ka3 ka4 kx0 kx1 kx2 kx3 kx4; clear bx bq AL)))
          clear ks0 ks1 ks2 ks3 ks4 kx0 kx1 kx2 kx3 kx4 ka0 ka1 ka2 ka3 ka4
          obtain ⟨W, hW⟩ : ∃ V : World, V = w11.alloc (.cells #[.int .i64 m.id, .int .i64 m.bk, .string m.nm, .slice A11 L c11, .slice A12 m.sh.length c12] 49) := ⟨_, rfl⟩
          rw [← hW] at B1 Bx Ba S1 Sa T1 HB P1 ⊢
          clear hW
          go_loopw [11, 12] (fun cn ci wr => ∃ j : Nat, j ≤ L ∧ ci = .int .i64 (j : Int) ∧ cn = .int .i64 ((((m.tg.take j).filter (fun t => sameS t x)).length : Nat) : Int) ∧ Below W.heap.size W wr) (fun _ ci _ => L - (intOf ci).toNat)
          case atStart => exact ⟨0, Nat.zero_le _, rfl, rfl, Below.refl _ _⟩
          case round =>
            obtain ⟨j, hj, rfl, hcn, HBr⟩ := hrel
            obtain ⟨C, hC⟩ : ∃ C, ((m.tg.take j).filter (fun t => sameS t x)).length = C := ⟨_, rfl⟩
            have HCC := Lib.hid hC
            have hCj : C ≤ j := by
              rw [← hC]
              exact Nat.le_trans (List.length_filter_le _ _) (by rw [List.length_take]; omega)
            rw [hC] at hcn
            subst hcn
            clear hC
            have bz := HBr
            have T1 := T1.next bz; have HB := btr HB HB.size bz; have B1 := B1.below bz B1.lt; have S1 := S1.next bz; have Bx := Bx.below bz Bx.lt; have Ba := Ba.below bz Ba.lt; have Sa := Sa.next bz; (try clear ks0 ks1 ks2 ks3 ks4 kx0 kx1 kx2 kx3 kx4 ka0 ka1 ka2 ka3 ka4); have ks0 := B1.cell_ 0; have ks1 := B1.cell_ 1; have ks2 := B1.cell_ 2; have ks3 := B1.cell_ 3; have ks4 := B1.cell_ 4; have kx0 := Bx.cell_ 0; have kx1 := Bx.cell_ 1; have kx2 := Bx.cell_ 2; have kx3 := Bx.cell_ 3; have kx4 := Bx.cell_ 4; have ka0 := Ba.cell_ 0; have ka1 := Ba.cell_ 1; have ka2 := Ba.cell_ 2; have ka3 := Ba.cell_ 3; have ka4 := Ba.cell_ 4; simp at ks0 ks1 ks2 ks3 ks4 kx0 kx1 kx2 kx3 kx4 ka0 ka1 ka2 ka3 ka4
            clear bz
            by_cases hlt : j < L
            · obtain ⟨p, hp⟩ : ∃ p, m.tg[j]? = some p := ⟨_, List.getElem?_eq_getElem (by rw [HLL.out]; exact hlt)⟩
              have Z1 := T1
              have Z2 := HB
              have Z3 := B1
              have Z4 := S1
              have Z5_ := Ba
              have Z6 := Sa
              obtain ⟨b2, o2, rfl, l2, q2⟩ := P1.at_ (by rw [List.length_map, HLL.out]; omega)
              have T1 := Z1
              have HB := Z2
              have B1 := Z3
              have S1 := Z4
              have Ba := Z5_
              have Sa := Z6
              clear Z1 Z2 Z3 Z4 Z5_ Z6
              have x5 : wr.cell? ⟨b2, o2 + j, none⟩ = some (.string p) := (HBr.cell (p := ⟨b2, o2 + j, none⟩) l2).trans (q2 j _ (by rw [List.getElem?_map, hp]; rfl))
              have i0 : (0 : Int) ≤ (j : Int) := by omega
              have i1 : (j : Int) < (L : Int) := by omega
              have hwc : IntKind.i64.wrap ((C : Int) + 1) = (C : Int) + 1 := wrapS _ (by omega) (by omega)
              have hjl : j < m.tg.length := by rw [HLL.out]; exact hlt
              have htk : m.tg.take (j + 1) = m.tg.take j ++ [p] := by
                rw [List.take_add_one, hp]
                rfl
              rcases (by omega : j = 0 ∨ 0 < j) with hj0 | hj0
              · have g0 : decide (0 < j) = false := decide_eq_false (by omega)
                clear q2 hj0
                rcases (by cases hq : (p.toList == x.toList) <;> simp : (p.toList == x.toList) = true ∨ (p.toList == x.toList) = false) with he | he
                · go_upto_region 13 with fail
                  refine wp_region_noPanic ?_
                  refine wp_region_held_drew (S := (fun _ => True)) (by kernel_rfl) ?_ (fun hHeld => ?_)
                  · exact trivial
                  refine tk 0 ⟨some 69, .move (.tmp 12), 3, "law.go:124", #[], none⟩ ?_; try simp only [Act.put, pz1, pz2, pz3]
                  refine tk 1 ⟨some 70, .binOp .gtr 3 (.tmp 69) (.const (.int .i64 0)) 3, 4, "law.go:124", #[⟨0, .data⟩], none⟩ ?_; try simp only [Act.put, pz1, pz2, pz3]
                  refine tk 2 ⟨some 71, .move (.tmp 70), 4, "law.go:124", #[⟨1, .data⟩], none⟩ ?_; try simp only [Act.put, pz1, pz2, pz3]
                  refine tu 3 ⟨some 72, .fieldAddr 49 (.tmp 9) 3, 0, "law.go:124", #[⟨2, .guard⟩], some (2, true)⟩ ?_
                  try simp only [Act.put, pz1, pz2, pz3]
                  refine tu 4 ⟨some 73, .load 46 (.tmp 72), 46, "law.go:124", #[⟨3, .data⟩, ⟨2, .guard⟩], some (2, true)⟩ ?_
                  try simp only [Act.put, pz1, pz2, pz3]
                  refine tu 5 ⟨some 74, .move (.tmp 12), 3, "law.go:124", #[⟨2, .guard⟩], some (2, true)⟩ ?_
                  try simp only [Act.put, pz1, pz2, pz3]
                  refine tu 6 ⟨some 75, .indexAddr 46 (.tmp 73) (.tmp 74), 0, "law.go:124", #[⟨4, .data⟩, ⟨5, .data⟩, ⟨2, .guard⟩], some (2, true)⟩ ?_
                  try simp only [Act.put, pz1, pz2, pz3]
                  refine tu 7 ⟨some 76, .load 9 (.tmp 75), 9, "law.go:124", #[⟨6, .data⟩, ⟨2, .guard⟩], some (2, true)⟩ ?_
                  try simp only [Act.put, pz1, pz2, pz3]
                  refine tu 8 ⟨some 77, .fieldAddr 49 (.tmp 9) 3, 0, "law.go:124", #[⟨2, .guard⟩], some (2, true)⟩ ?_
                  try simp only [Act.put, pz1, pz2, pz3]
                  refine tu 9 ⟨some 78, .load 46 (.tmp 77), 46, "law.go:124", #[⟨8, .data⟩, ⟨2, .guard⟩], some (2, true)⟩ ?_
                  try simp only [Act.put, pz1, pz2, pz3]
                  refine tu 10 ⟨some 79, .move (.tmp 12), 3, "law.go:124", #[⟨2, .guard⟩], some (2, true)⟩ ?_
                  try simp only [Act.put, pz1, pz2, pz3]
                  refine tu 11 ⟨some 80, .binOp .sub 3 (.tmp 79) (.const (.int .i64 1)) 3, 3, "law.go:124", #[⟨10, .data⟩, ⟨2, .guard⟩], some (2, true)⟩ ?_
                  try simp only [Act.put, pz1, pz2, pz3]
                  refine tu 12 ⟨some 81, .indexAddr 46 (.tmp 78) (.tmp 80), 0, "law.go:124", #[⟨9, .data⟩, ⟨11, .data⟩, ⟨2, .guard⟩], some (2, true)⟩ ?_
                  try simp only [Act.put, pz1, pz2, pz3]
                  refine tu 13 ⟨some 82, .load 9 (.tmp 81), 9, "law.go:124", #[⟨12, .data⟩, ⟨2, .guard⟩], some (2, true)⟩ ?_
                  try simp only [Act.put, pz1, pz2, pz3]
                  refine tu 14 ⟨some 83, .binOp .leq 9 (.tmp 76) (.tmp 82) 9, 4, "law.go:124", #[⟨7, .data⟩, ⟨13, .data⟩, ⟨2, .guard⟩], some (2, true)⟩ ?_
                  try simp only [Act.put, pz1, pz2, pz3]
                  refine tk 15 ⟨some 84, .pick (.tmp 71) (.tmp 83) (.const (.bool false)), 4, "law.go:124", #[⟨2, .data⟩, ⟨14, .data⟩], none⟩ ?_; try simp only [Act.put, pz1, pz2, pz3]
                  refine wpAnyH_done (by kernel_rfl) ?_ _
                  refine NoPanic.normal ?_
                  go_wp2_with fail
                  go_roundw
                  case rel => exact ⟨j + 1, by omega, by go_num, by rw [htk, List.filter_append, List.length_append, HCC.out]; simp [sameS, he], (by first | exact HBr | exact drew_below HBr)⟩
                  case measure => simp [intOf]; omega
                · go_upto_region 13 with fail
                  refine wp_region_noPanic ?_
                  refine wp_region_held_drew (S := (fun _ => True)) (by kernel_rfl) ?_ (fun hHeld => ?_)
                  · exact trivial
                  refine tk 0 ⟨some 69, .move (.tmp 12), 3, "law.go:124", #[], none⟩ ?_; try simp only [Act.put, pz1, pz2, pz3]
                  refine tk 1 ⟨some 70, .binOp .gtr 3 (.tmp 69) (.const (.int .i64 0)) 3, 4, "law.go:124", #[⟨0, .data⟩], none⟩ ?_; try simp only [Act.put, pz1, pz2, pz3]
                  refine tk 2 ⟨some 71, .move (.tmp 70), 4, "law.go:124", #[⟨1, .data⟩], none⟩ ?_; try simp only [Act.put, pz1, pz2, pz3]
                  refine tu 3 ⟨some 72, .fieldAddr 49 (.tmp 9) 3, 0, "law.go:124", #[⟨2, .guard⟩], some (2, true)⟩ ?_
                  try simp only [Act.put, pz1, pz2, pz3]
                  refine tu 4 ⟨some 73, .load 46 (.tmp 72), 46, "law.go:124", #[⟨3, .data⟩, ⟨2, .guard⟩], some (2, true)⟩ ?_
                  try simp only [Act.put, pz1, pz2, pz3]
                  refine tu 5 ⟨some 74, .move (.tmp 12), 3, "law.go:124", #[⟨2, .guard⟩], some (2, true)⟩ ?_
                  try simp only [Act.put, pz1, pz2, pz3]
                  refine tu 6 ⟨some 75, .indexAddr 46 (.tmp 73) (.tmp 74), 0, "law.go:124", #[⟨4, .data⟩, ⟨5, .data⟩, ⟨2, .guard⟩], some (2, true)⟩ ?_
                  try simp only [Act.put, pz1, pz2, pz3]
                  refine tu 7 ⟨some 76, .load 9 (.tmp 75), 9, "law.go:124", #[⟨6, .data⟩, ⟨2, .guard⟩], some (2, true)⟩ ?_
                  try simp only [Act.put, pz1, pz2, pz3]
                  refine tu 8 ⟨some 77, .fieldAddr 49 (.tmp 9) 3, 0, "law.go:124", #[⟨2, .guard⟩], some (2, true)⟩ ?_
                  try simp only [Act.put, pz1, pz2, pz3]
                  refine tu 9 ⟨some 78, .load 46 (.tmp 77), 46, "law.go:124", #[⟨8, .data⟩, ⟨2, .guard⟩], some (2, true)⟩ ?_
                  try simp only [Act.put, pz1, pz2, pz3]
                  refine tu 10 ⟨some 79, .move (.tmp 12), 3, "law.go:124", #[⟨2, .guard⟩], some (2, true)⟩ ?_
                  try simp only [Act.put, pz1, pz2, pz3]
                  refine tu 11 ⟨some 80, .binOp .sub 3 (.tmp 79) (.const (.int .i64 1)) 3, 3, "law.go:124", #[⟨10, .data⟩, ⟨2, .guard⟩], some (2, true)⟩ ?_
                  try simp only [Act.put, pz1, pz2, pz3]
                  refine tu 12 ⟨some 81, .indexAddr 46 (.tmp 78) (.tmp 80), 0, "law.go:124", #[⟨9, .data⟩, ⟨11, .data⟩, ⟨2, .guard⟩], some (2, true)⟩ ?_
                  try simp only [Act.put, pz1, pz2, pz3]
                  refine tu 13 ⟨some 82, .load 9 (.tmp 81), 9, "law.go:124", #[⟨12, .data⟩, ⟨2, .guard⟩], some (2, true)⟩ ?_
                  try simp only [Act.put, pz1, pz2, pz3]
                  refine tu 14 ⟨some 83, .binOp .leq 9 (.tmp 76) (.tmp 82) 9, 4, "law.go:124", #[⟨7, .data⟩, ⟨13, .data⟩, ⟨2, .guard⟩], some (2, true)⟩ ?_
                  try simp only [Act.put, pz1, pz2, pz3]
                  refine tk 15 ⟨some 84, .pick (.tmp 71) (.tmp 83) (.const (.bool false)), 4, "law.go:124", #[⟨2, .data⟩, ⟨14, .data⟩], none⟩ ?_; try simp only [Act.put, pz1, pz2, pz3]
                  refine wpAnyH_done (by kernel_rfl) ?_ _
                  refine NoPanic.normal ?_
                  go_wp2_with fail
                  go_roundw
                  case rel => exact ⟨j + 1, by omega, by go_num, by rw [htk, List.filter_append, List.length_append, HCC.out]; simp [sameS, he], (by first | exact HBr | exact drew_below HBr)⟩
                  case measure => simp [intOf]; omega
              · have g0 : decide (0 < j) = true := decide_eq_true hj0
                obtain ⟨i, hij⟩ : ∃ i, i + 1 = j := ⟨j - 1, by omega⟩
                have hti : IntKind.i64.wrap ((j : Int) - 1) = (i : Int) := by rw [wrapS _ (by omega) (by omega)]; omega
                have k0 : (0 : Int) ≤ (i : Int) := by omega
                have k1 : (i : Int) < (L : Int) := by omega
                have hil : i < m.tg.length := by omega
                obtain ⟨r, hr⟩ : ∃ r, m.tg[i]? = some r := ⟨_, List.getElem?_eq_getElem hil⟩
                have x6 : wr.cell? ⟨b2, o2 + i, none⟩ = some (.string r) := (HBr.cell (p := ⟨b2, o2 + i, none⟩) l2).trans (q2 i _ (by rw [List.getElem?_map, hr]; rfl))
                have hle := lt_not (p := r) (c := p) (by
                  have h1 := List.pairwise_iff_getElem.1 HPR.out i j hil hjl (by omega)
                  rw [(List.getElem?_eq_some_iff.1 hr).2, (List.getElem?_eq_some_iff.1 hp).2] at h1
                  exact h1)
                have hle1 := hle.1
                have hle2 := hle.2
                clear q2 hle hij hil hj0
                rcases (by cases hq : (p.toList == x.toList) <;> simp : (p.toList == x.toList) = true ∨ (p.toList == x.toList) = false) with he | he
                · have QD : wr.drew.cell? ⟨w11.heap.size, 3, none⟩ = some (.slice (some ⟨b2, o2, none⟩) L c11) ∧ wr.drew.cell? ⟨b2, o2 + j, none⟩ = some (.string p) ∧ wr.drew.cell? ⟨b2, o2 + i, none⟩ = some (.string r) := ⟨drew_cell kx3, drew_cell x5, drew_cell x6⟩
                  go_upto_region 13 with fail
                  refine wp_region_noPanic ?_
                  refine wp_region_held_drew (S := (fun w_ => w_.cell? ⟨w11.heap.size, 3, none⟩ = some (.slice (some ⟨b2, o2, none⟩) L c11) ∧ w_.cell? ⟨b2, o2 + j, none⟩ = some (.string p) ∧ w_.cell? ⟨b2, o2 + i, none⟩ = some (.string r))) (by kernel_rfl) ?_ (fun hHeld => ?_)
                  · (first | with_reducible exact QD | exact QD)
                  refine tk 0 ⟨some 69, .move (.tmp 12), 3, "law.go:124", #[], none⟩ ?_; try simp only [Act.put, pz1, pz2, pz3]
                  refine tk 1 ⟨some 70, .binOp .gtr 3 (.tmp 69) (.const (.int .i64 0)) 3, 4, "law.go:124", #[⟨0, .data⟩], none⟩ ?_; try simp only [Act.put, pz1, pz2, pz3]
                  refine tk 2 ⟨some 71, .move (.tmp 70), 4, "law.go:124", #[⟨1, .data⟩], none⟩ ?_; try simp only [Act.put, pz1, pz2, pz3]
                  refine tk 3 ⟨some 72, .fieldAddr 49 (.tmp 9) 3, 0, "law.go:124", #[⟨2, .guard⟩], some (2, true)⟩ ?_; try simp only [Act.put, pz1, pz2, pz3]
                  refine tk 4 ⟨some 73, .load 46 (.tmp 72), 46, "law.go:124", #[⟨3, .data⟩, ⟨2, .guard⟩], some (2, true)⟩ ?_; try simp only [Act.put, pz1, pz2, pz3]
                  refine tk 5 ⟨some 74, .move (.tmp 12), 3, "law.go:124", #[⟨2, .guard⟩], some (2, true)⟩ ?_; try simp only [Act.put, pz1, pz2, pz3]
                  refine tk 6 ⟨some 75, .indexAddr 46 (.tmp 73) (.tmp 74), 0, "law.go:124", #[⟨4, .data⟩, ⟨5, .data⟩, ⟨2, .guard⟩], some (2, true)⟩ ?_; try simp only [Act.put, pz1, pz2, pz3]
                  refine tk 7 ⟨some 76, .load 9 (.tmp 75), 9, "law.go:124", #[⟨6, .data⟩, ⟨2, .guard⟩], some (2, true)⟩ ?_; try simp only [Act.put, pz1, pz2, pz3]
                  refine tk 8 ⟨some 77, .fieldAddr 49 (.tmp 9) 3, 0, "law.go:124", #[⟨2, .guard⟩], some (2, true)⟩ ?_; try simp only [Act.put, pz1, pz2, pz3]
                  refine tk 9 ⟨some 78, .load 46 (.tmp 77), 46, "law.go:124", #[⟨8, .data⟩, ⟨2, .guard⟩], some (2, true)⟩ ?_; try simp only [Act.put, pz1, pz2, pz3]
                  refine tk 10 ⟨some 79, .move (.tmp 12), 3, "law.go:124", #[⟨2, .guard⟩], some (2, true)⟩ ?_; try simp only [Act.put, pz1, pz2, pz3]
                  refine tk 11 ⟨some 80, .binOp .sub 3 (.tmp 79) (.const (.int .i64 1)) 3, 3, "law.go:124", #[⟨10, .data⟩, ⟨2, .guard⟩], some (2, true)⟩ ?_; try simp only [Act.put, pz1, pz2, pz3]
                  refine tk 12 ⟨some 81, .indexAddr 46 (.tmp 78) (.tmp 80), 0, "law.go:124", #[⟨9, .data⟩, ⟨11, .data⟩, ⟨2, .guard⟩], some (2, true)⟩ ?_; try simp only [Act.put, pz1, pz2, pz3]
                  refine tk 13 ⟨some 82, .load 9 (.tmp 81), 9, "law.go:124", #[⟨12, .data⟩, ⟨2, .guard⟩], some (2, true)⟩ ?_; try simp only [Act.put, pz1, pz2, pz3]
                  refine tk 14 ⟨some 83, .binOp .leq 9 (.tmp 76) (.tmp 82) 9, 4, "law.go:124", #[⟨7, .data⟩, ⟨13, .data⟩, ⟨2, .guard⟩], some (2, true)⟩ ?_; try simp only [Act.put, pz1, pz2, pz3]
                  refine tk 15 ⟨some 84, .pick (.tmp 71) (.tmp 83) (.const (.bool false)), 4, "law.go:124", #[⟨2, .data⟩, ⟨14, .data⟩], none⟩ ?_; try simp only [Act.put, pz1, pz2, pz3]
                  refine wpAnyH_done (by kernel_rfl) ?_ _
                  refine NoPanic.normal ?_
                  go_wp2_with fail
                  go_roundw
                  case rel => exact ⟨j + 1, by omega, by go_num, by rw [htk, List.filter_append, List.length_append, HCC.out]; simp [sameS, he], (by first | exact HBr | exact drew_below HBr)⟩
                  case measure => simp [intOf]; omega
                · have QD : wr.drew.cell? ⟨w11.heap.size, 3, none⟩ = some (.slice (some ⟨b2, o2, none⟩) L c11) ∧ wr.drew.cell? ⟨b2, o2 + j, none⟩ = some (.string p) ∧ wr.drew.cell? ⟨b2, o2 + i, none⟩ = some (.string r) := ⟨drew_cell kx3, drew_cell x5, drew_cell x6⟩
                  go_upto_region 13 with fail
                  refine wp_region_noPanic ?_
                  refine wp_region_held_drew (S := (fun w_ => w_.cell? ⟨w11.heap.size, 3, none⟩ = some (.slice (some ⟨b2, o2, none⟩) L c11) ∧ w_.cell? ⟨b2, o2 + j, none⟩ = some (.string p) ∧ w_.cell? ⟨b2, o2 + i, none⟩ = some (.string r))) (by kernel_rfl) ?_ (fun hHeld => ?_)
                  · (first | with_reducible exact QD | exact QD)
                  refine tk 0 ⟨some 69, .move (.tmp 12), 3, "law.go:124", #[], none⟩ ?_; try simp only [Act.put, pz1, pz2, pz3]
                  refine tk 1 ⟨some 70, .binOp .gtr 3 (.tmp 69) (.const (.int .i64 0)) 3, 4, "law.go:124", #[⟨0, .data⟩], none⟩ ?_; try simp only [Act.put, pz1, pz2, pz3]
                  refine tk 2 ⟨some 71, .move (.tmp 70), 4, "law.go:124", #[⟨1, .data⟩], none⟩ ?_; try simp only [Act.put, pz1, pz2, pz3]
                  refine tk 3 ⟨some 72, .fieldAddr 49 (.tmp 9) 3, 0, "law.go:124", #[⟨2, .guard⟩], some (2, true)⟩ ?_; try simp only [Act.put, pz1, pz2, pz3]
                  refine tk 4 ⟨some 73, .load 46 (.tmp 72), 46, "law.go:124", #[⟨3, .data⟩, ⟨2, .guard⟩], some (2, true)⟩ ?_; try simp only [Act.put, pz1, pz2, pz3]
                  refine tk 5 ⟨some 74, .move (.tmp 12), 3, "law.go:124", #[⟨2, .guard⟩], some (2, true)⟩ ?_; try simp only [Act.put, pz1, pz2, pz3]
                  refine tk 6 ⟨some 75, .indexAddr 46 (.tmp 73) (.tmp 74), 0, "law.go:124", #[⟨4, .data⟩, ⟨5, .data⟩, ⟨2, .guard⟩], some (2, true)⟩ ?_; try simp only [Act.put, pz1, pz2, pz3]
                  refine tk 7 ⟨some 76, .load 9 (.tmp 75), 9, "law.go:124", #[⟨6, .data⟩, ⟨2, .guard⟩], some (2, true)⟩ ?_; try simp only [Act.put, pz1, pz2, pz3]
                  refine tk 8 ⟨some 77, .fieldAddr 49 (.tmp 9) 3, 0, "law.go:124", #[⟨2, .guard⟩], some (2, true)⟩ ?_; try simp only [Act.put, pz1, pz2, pz3]
                  refine tk 9 ⟨some 78, .load 46 (.tmp 77), 46, "law.go:124", #[⟨8, .data⟩, ⟨2, .guard⟩], some (2, true)⟩ ?_; try simp only [Act.put, pz1, pz2, pz3]
                  refine tk 10 ⟨some 79, .move (.tmp 12), 3, "law.go:124", #[⟨2, .guard⟩], some (2, true)⟩ ?_; try simp only [Act.put, pz1, pz2, pz3]
                  refine tk 11 ⟨some 80, .binOp .sub 3 (.tmp 79) (.const (.int .i64 1)) 3, 3, "law.go:124", #[⟨10, .data⟩, ⟨2, .guard⟩], some (2, true)⟩ ?_; try simp only [Act.put, pz1, pz2, pz3]
                  refine tk 12 ⟨some 81, .indexAddr 46 (.tmp 78) (.tmp 80), 0, "law.go:124", #[⟨9, .data⟩, ⟨11, .data⟩, ⟨2, .guard⟩], some (2, true)⟩ ?_; try simp only [Act.put, pz1, pz2, pz3]
                  refine tk 13 ⟨some 82, .load 9 (.tmp 81), 9, "law.go:124", #[⟨12, .data⟩, ⟨2, .guard⟩], some (2, true)⟩ ?_; try simp only [Act.put, pz1, pz2, pz3]
                  refine tk 14 ⟨some 83, .binOp .leq 9 (.tmp 76) (.tmp 82) 9, 4, "law.go:124", #[⟨7, .data⟩, ⟨13, .data⟩, ⟨2, .guard⟩], some (2, true)⟩ ?_; try simp only [Act.put, pz1, pz2, pz3]
                  refine tk 15 ⟨some 84, .pick (.tmp 71) (.tmp 83) (.const (.bool false)), 4, "law.go:124", #[⟨2, .data⟩, ⟨14, .data⟩], none⟩ ?_; try simp only [Act.put, pz1, pz2, pz3]
                  refine wpAnyH_done (by kernel_rfl) ?_ _
                  refine NoPanic.normal ?_
                  go_wp2_with fail
                  go_roundw
                  case rel => exact ⟨j + 1, by omega, by go_num, by rw [htk, List.filter_append, List.length_append, HCC.out]; simp [sameS, he], (by first | exact HBr | exact drew_below HBr)⟩
                  case measure => simp [intOf]; omega
            · have hjL : L = j := by omega
              subst hjL
              clear hlt
              have hone : C = 1 := by
                rw [← HCC.out, ← HLL.out, List.take_length]
                exact tg_once HPR.out HIN.out
              subst hone
              have HLB : Hid (s.bs.length ≤ 100000) := Lib.hid (by have := HMF.out.bl; omega)
              have HLN : Hid (s.ts.length ≤ 100000) := Lib.hid (by have := HMF.out.tl; omega)
              go_wp2_with (first | (go_at_call 20; ((with_reducible refine (nunt_go qa _ y x _ Sa T1 HUC.out s HUB.out).mono ?_); rintro e' w13 ⟨A5, c5, A6, c6, rfl, hN, bq⟩; have AL : Below w13.heap.size w13 (w13.alloc (.cells #[.int .i64 s.nb, .int .i64 s.nn, .int .i64 s.ns, .slice A5 s.bs.length c5, .slice A6 s.ts.length c6] 25)) := (Below.refl _ _).alloc (Nat.le_refl _) _; have Bb : Blk (w13.alloc (.cells #[.int .i64 s.nb, .int .i64 s.nn, .int .i64 s.ns, .slice A5 s.bs.length c5, .slice A6 s.ts.length c6] 25)) w13.heap.size 25 #[.int .i64 s.nb, .int .i64 s.nn, .int .i64 s.ns, .slice A5 s.bs.length c5, .slice A6 s.ts.length c6] := Blk.new_ w13 25 #[.int .i64 s.nb, .int .i64 s.nn, .int .i64 s.ns, .slice A5 s.bs.length c5, .slice A6 s.ts.length c6]; have Sb := hN.next AL; have bx := btr bq bq.size AL; have T1 := T1.next bx; have HB := btr HB HB.size bx; have B1 := B1.below bx B1.lt; have S1 := S1.next bx; have Ba := Ba.below bx Ba.lt; have Sa := Sa.next bx; (try clear ks0 ks1 ks2 ks3 ks4 ka0 ka1 ka2 ka3 ka4); have ks0 := B1.cell_ 0; have ks1 := B1.cell_ 1; have ks2 := B1.cell_ 2; have ks3 := B1.cell_ 3; have ks4 := B1.cell_ 4; have ka0 := Ba.cell_ 0; have ka1 := Ba.cell_ 1; have ka2 := Ba.cell_ 2; have ka3 := Ba.cell_ 3; have ka4 := Ba.cell_ 4; have kb0 := Bb.cell_ 0; have kb1 := Bb.cell_ 1; have kb2 := Bb.cell_ 2; have kb3 := Bb.cell_ 3; have kb4 := Bb.cell_ 4; simp at ks0 ks1 ks2 ks3 ks4 ka0 ka1 ka2 ka3 ka4 kb0 kb1 kb2 kb3 kb4; clear bx bq AL hN)) | (go_at_call 18; ((with_reducible refine (ntag_no qa _ y x _ Sa T1 7 HTW.out (by decide)).mono ?_); rintro e' w14 ⟨rfl, bq⟩; have AL : Below w14.heap.size w14 (w14.alloc (.cells #[.int .i64 0, .int .i64 0, .int .i64 0, .slice none 0 0, .slice none 0 0] 25)) := (Below.refl _ _).alloc (Nat.le_refl _) _; have Bc : Blk (w14.alloc (.cells #[.int .i64 0, .int .i64 0, .int .i64 0, .slice none 0 0, .slice none 0 0] 25)) w14.heap.size 25 #[.int .i64 0, .int .i64 0, .int .i64 0, .slice none 0 0, .slice none 0 0] := Blk.new_ w14 25 #[.int .i64 0, .int .i64 0, .int .i64 0, .slice none 0 0, .slice none 0 0]; have bx := btr bq bq.size AL; have T1 := T1.next bx; have HB := btr HB HB.size bx; have B1 := B1.below bx B1.lt; have S1 := S1.next bx; have Bb := Bb.below bx Bb.lt; have Sb := Sb.next bx; (try clear ks0 ks1 ks2 ks3 ks4 kb0 kb1 kb2 kb3 kb4); have ks0 := B1.cell_ 0; have ks1 := B1.cell_ 1; have ks2 := B1.cell_ 2; have ks3 := B1.cell_ 3; have ks4 := B1.cell_ 4; have kb0 := Bb.cell_ 0; have kb1 := Bb.cell_ 1; have kb2 := Bb.cell_ 2; have kb3 := Bb.cell_ 3; have kb4 := Bb.cell_ 4; have kc0 := Bc.cell_ 0; have kc1 := Bc.cell_ 1; have kc2 := Bc.cell_ 2; have kc3 := Bc.cell_ 3; have kc4 := Bc.cell_ 4; simp at ks0 ks1 ks2 ks3 ks4 kb0 kb1 kb2 kb3 kb4 kc0 kc1 kc2 kc3 kc4; clear bx bq AL)) | (go_at_call 20; ((with_reducible refine (nunt_no s _ y x _ Sb T1 4 HUN.out (by decide)).mono ?_); rintro e' w15 ⟨rfl, bq⟩; have AL : Below w15.heap.size w15 (w15.alloc (.cells #[.int .i64 0, .int .i64 0, .int .i64 0, .slice none 0 0, .slice none 0 0] 25)) := (Below.refl _ _).alloc (Nat.le_refl _) _; have Bd : Blk (w15.alloc (.cells #[.int .i64 0, .int .i64 0, .int .i64 0, .slice none 0 0, .slice none 0 0] 25)) w15.heap.size 25 #[.int .i64 0, .int .i64 0, .int .i64 0, .slice none 0 0, .slice none 0 0] := Blk.new_ w15 25 #[.int .i64 0, .int .i64 0, .int .i64 0, .slice none 0 0, .slice none 0 0]; have bx := btr bq bq.size AL; have T1 := T1.next bx; have HB := btr HB HB.size bx; have B1 := B1.below bx B1.lt; have S1 := S1.next bx; have Bb := Bb.below bx Bb.lt; have Sb := Sb.next bx; (try clear ks0 ks1 ks2 ks3 ks4 kb0 kb1 kb2 kb3 kb4); have ks0 := B1.cell_ 0; have ks1 := B1.cell_ 1; have ks2 := B1.cell_ 2; have ks3 := B1.cell_ 3; have ks4 := B1.cell_ 4; have kb0 := Bb.cell_ 0; have kb1 := Bb.cell_ 1; have kb2 := Bb.cell_ 2; have kb3 := Bb.cell_ 3; have kb4 := Bb.cell_ 4; have kd0 := Bd.cell_ 0; have kd1 := Bd.cell_ 1; have kd2 := Bd.cell_ 2; have kd3 := Bd.cell_ 3; have kd4 := Bd.cell_ 4; simp at ks0 ks1 ks2 ks3 ks4 kb0 kb1 kb2 kb3 kb4 kd0 kd1 kd2 kd3 kd4; clear bx bq AL)) | (go_at_call 16; ((with_reducible refine (sameShelf_yes s _ _ _ Sb S1 HLB.out HLN.out HMF.out.small).mono ?_); rintro e' w16 ⟨rfl, bx⟩; have T1 := T1.next bx; have HB := btr HB HB.size bx; have B1 := B1.below bx B1.lt; have S1 := S1.next bx; (try clear ks0 ks1 ks2 ks3 ks4); have ks0 := B1.cell_ 0; have ks1 := B1.cell_ 1; have ks2 := B1.cell_ 2; have ks3 := B1.cell_ 3; have ks4 := B1.cell_ 4; simp at ks0 ks1 ks2 ks3 ks4; clear bx)) | (go_at_call 9; ((with_reducible refine (awake_any _ T1).mono ?_); rintro e' wA ⟨rfl, bx⟩; have HB := btr HB HB.size bx)))
              go_ret
              exact ⟨rfl, HB⟩
        · obtain ⟨er, her⟩ : ∃ c, tagC s y x = c := ⟨_, rfl⟩
          have hce : er ≠ 0 := by rw [← her]; exact hap
          have hb0 : (er == (0 : Int)) = false := beq_eq_false_iff_ne.2 hce
          have HC := Lib.hid her
          clear hap her
          go_enter Tryd.func5, Tryd.ntmps5
          go_wp2_with (first | (go_at_call 8; ((with_reducible refine (greatShelf_any s _ _ S1 _ HG.out).mono ?_); rintro e' w2 ⟨rfl, bx⟩; have T1 := T1.next bx; have HB := btr HB HB.size bx; have B1 := B1.below bx B1.lt; have S1 := S1.next bx; (try clear ks0 ks1 ks2 ks3 ks4); have ks0 := B1.cell_ 0; have ks1 := B1.cell_ 1; have ks2 := B1.cell_ 2; have ks3 := B1.cell_ 3; have ks4 := B1.cell_ 4; simp at ks0 ks1 ks2 ks3 ks4; clear bx)) | (go_at_call 17; ((with_reducible refine (smay_any s _ _ S1 T1 _ HM.out).mono ?_); rintro e' w3 ⟨rfl, bx⟩; have T1 := T1.next bx; have HB := btr HB HB.size bx; have B1 := B1.below bx B1.lt; have S1 := S1.next bx; (try clear ks0 ks1 ks2 ks3 ks4); have ks0 := B1.cell_ 0; have ks1 := B1.cell_ 1; have ks2 := B1.cell_ 2; have ks3 := B1.cell_ 3; have ks4 := B1.cell_ 4; simp at ks0 ks1 ks2 ks3 ks4; clear bx)) | (go_at_call 18; ((with_reducible refine (ntag_no s _ y x _ S1 T1 er HC.out hce).mono ?_); rintro e' w11 ⟨rfl, bq⟩; have AL : Below w11.heap.size w11 (w11.alloc (.cells #[.int .i64 0, .int .i64 0, .int .i64 0, .slice none 0 0, .slice none 0 0] 25)) := (Below.refl _ _).alloc (Nat.le_refl _) _; have Ba : Blk (w11.alloc (.cells #[.int .i64 0, .int .i64 0, .int .i64 0, .slice none 0 0, .slice none 0 0] 25)) w11.heap.size 25 #[.int .i64 0, .int .i64 0, .int .i64 0, .slice none 0 0, .slice none 0 0] := Blk.new_ w11 25 #[.int .i64 0, .int .i64 0, .int .i64 0, .slice none 0 0, .slice none 0 0]; have bx := btr bq bq.size AL; have T1 := T1.next bx; have HB := btr HB HB.size bx; have B1 := B1.below bx B1.lt; have S1 := S1.next bx; (try clear ks0 ks1 ks2 ks3 ks4); have ks0 := B1.cell_ 0; have ks1 := B1.cell_ 1; have ks2 := B1.cell_ 2; have ks3 := B1.cell_ 3; have ks4 := B1.cell_ 4; have ka0 := Ba.cell_ 0; have ka1 := Ba.cell_ 1; have ka2 := Ba.cell_ 2; have ka3 := Ba.cell_ 3; have ka4 := Ba.cell_ 4; simp at ks0 ks1 ks2 ks3 ks4 ka0 ka1 ka2 ka3 ka4; clear bx bq AL)) | (go_at_call 16; ((with_reducible refine (same_zero _).mono ?_); rintro e' w12 ⟨rfl, bx⟩; have T1 := T1.next bx; have HB := btr HB HB.size bx; have B1 := B1.below bx B1.lt; have S1 := S1.next bx; (try clear ks0 ks1 ks2 ks3 ks4); have ks0 := B1.cell_ 0; have ks1 := B1.cell_ 1; have ks2 := B1.cell_ 2; have ks3 := B1.cell_ 3; have ks4 := B1.cell_ 4; simp at ks0 ks1 ks2 ks3 ks4; clear bx)) | (go_at_call 9; ((with_reducible refine (awake_any _ T1).mono ?_); rintro e' wA ⟨rfl, bx⟩; have HB := btr HB HB.size bx)))
          go_ret
          exact ⟨rfl, HB⟩
    · skip
      go_enter Tryd.func5, Tryd.ntmps5
      go_wp2_with (first | (go_at_call 8; ((with_reducible refine (greatShelf_any s _ _ S1 _ HG.out).mono ?_); rintro e' w2 ⟨rfl, bx⟩; have T1 := T1.next bx; have HB := btr HB HB.size bx; have B1 := B1.below bx B1.lt; have S1 := S1.next bx; (try clear ks0 ks1 ks2 ks3 ks4); have ks0 := B1.cell_ 0; have ks1 := B1.cell_ 1; have ks2 := B1.cell_ 2; have ks3 := B1.cell_ 3; have ks4 := B1.cell_ 4; simp at ks0 ks1 ks2 ks3 ks4; clear bx)) | (go_at_call 17; ((with_reducible refine (smay_any s _ _ S1 T1 _ HM.out).mono ?_); rintro e' w3 ⟨rfl, bx⟩; have T1 := T1.next bx; have HB := btr HB HB.size bx; have B1 := B1.below bx B1.lt; have S1 := S1.next bx; (try clear ks0 ks1 ks2 ks3 ks4); have ks0 := B1.cell_ 0; have ks1 := B1.cell_ 1; have ks2 := B1.cell_ 2; have ks3 := B1.cell_ 3; have ks4 := B1.cell_ 4; simp at ks0 ks1 ks2 ks3 ks4; clear bx)) | (go_at_call 9; ((with_reducible refine (awake_any _ T1).mono ?_); rintro e' wA ⟨rfl, bx⟩; have HB := btr HB HB.size bx)))
      go_ret
      exact ⟨rfl, HB⟩
end Go.Proofs.YtkaoechjekffmaaDoor
namespace Go.Proofs.YtkaoechjekffmaaDoor
open Go.ChangeShapes Go.WideShapes Go.ChangeAt Go.RowKit
theorem acc_eq : Rows.laid_unicode_utf8_acceptRanges = Lib.acceptData := by kernel_rfl
theorem first_eq : Rows.laid_unicode_utf8_first = Lib.firstData := Pinned.utf8First_eq
def laidTabs : List (String × DataW Unit) := [("unicode/utf8.acceptRanges", Lib.acceptData), ("unicode/utf8.first", Lib.firstData)]
theorem laid_eq : [("unicode/utf8.acceptRanges", Rows.laid_unicode_utf8_acceptRanges), ("unicode/utf8.first", Rows.laid_unicode_utf8_first)] = laidTabs := by rw [acc_eq, first_eq]; rfl
noncomputable def laidWorld (os : Os) : World :=
  let w0 := World.holding Tryd.prog os ⟨#[], #[], []⟩
  let put (h : Array Obj) (g : Nat) (cs : Array Value) : Array Obj := h.modify g fun
    | .cells _ t frozen => .cells cs t frozen
    | o => o
  let h1 := put w0.heap 0 (Lib.firstTab.map fun z => Value.int .u8 z).toArray
  let h2 := put h1 1 ((List.range 16).flatMap fun i => [Value.int .u8 (Lib.accLo i), Value.int .u8 (Lib.accHi i)]).toArray
  { w0 with heap := h2 }
theorem noHandle (w : World) : laidMetH Tryd.prog laidTabs w ↔ laidMet Tryd.prog laidTabs w := by
  have e : (laidTabs.filter fun x => x.2.handleName?.isSome) = [] := by kernel_rfl
  unfold laidMetH
  rw [e]
theorem laid_met (os : Os) (args : Array Value) : laidMetH Tryd.prog [("unicode/utf8.acceptRanges", Rows.laid_unicode_utf8_acceptRanges), ("unicode/utf8.first", Rows.laid_unicode_utf8_first)] ((laidWorld os).forCall (fun _ _ => 0) ⟨#[], args, []⟩).memory := by
  rw [laid_eq, noHandle]
  exact (LaidIn.of_run (l := laidTabs) [0, 1] 8 (by kernel_rfl) (by kernel_rfl) (by kernel_rfl) (by kernel_rfl)).met
theorem tabs_of {W : World} (h : laidMetH Tryd.prog [("unicode/utf8.acceptRanges", Rows.laid_unicode_utf8_acceptRanges), ("unicode/utf8.first", Rows.laid_unicode_utf8_first)] W) : Tabs W := by
  rw [laid_eq, noHandle] at h
  exact utf8Tabs_of_readsT (U8Types.of196 Tryd.laysValid) ⟨by kernel_rfl, by kernel_rfl, by kernel_rfl, by kernel_rfl, by kernel_rfl, by kernel_rfl, by kernel_rfl⟩ (Lib.laidMet.reads h (.tail _ (.head _))) (Lib.laidMet.reads h (.head _))
theorem string_value {H : Type} {enc : TypeId × Value → H} {P : Program} {w : World} {base : Nat} {spare : Nat → Bool} {held : Bool} {r : Reach} {b0 : Nat} {t : TypeId} {v : Value} {d : DataW H} {p : List MemPlace} (ht : P.underlying t = some .string) (hv : Value.okWide P w r b0 t v) (h : DataW.Trod enc P w base spare held t v d p) :
    ∃ s : ByteArray, v = .string s ∧ s.size ≤ maxLen := by
  obtain ⟨s, rfl, _, _, hs⟩ := Go.ChangeMaps.open_string ht hv h
  exact ⟨s, rfl, hs⟩
end Go.Proofs.YtkaoechjekffmaaDoor
