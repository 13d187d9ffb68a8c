/- Rename and Move. -/
import Derived.Test.YtokhapafpjejaaaDoorLb2
import Derived.Test.YtokhapafpjejaaaDoorLb1
import Derived.Test.YtokhapafpjejaaaDoorRows
import Derived.SevenTiedAt
import Derived.LaidHandle
import Derived.Lib.LaidIn
import Derived.Lib.LaidU8T
import Derived.PinnedBridge
import Derived.ChangeMaps5
set_option linter.unusedSimpArgs false
set_option linter.unusedVariables false
set_option maxRecDepth 100000
set_option maxHeartbeats 16000000
namespace Go.Proofs.YtokhapafpjejaaaDoor
open Go.ChangeShapes Go.WideShapes Go.ChangeAt Go.RowKit
attribute [local go_sem ↓] Go.wp_at_zero Go.wp_at_succ
theorem set_snd (es : List (List Value)) (k : Nat) (p0 p1 a1 : Value) (h : es[k]? = some [p0, p1]) (hC : ∀ x ∈ es, x.length = 2) : es.flatten.set (k * 2 + 1) a1 = (es.set k [p0, a1]).flatten := by
  have h1 := set_two es k p0 p1 p0 a1 h hC
  have h2 : es.flatten.set (k * 2 + 0) p0 = es.flatten := by
    have h3 := flat_at es hC k _ h 0 (by decide)
    obtain ⟨hlt, he⟩ := List.getElem?_eq_some_iff.1 (h3.trans (show ([p0, p1] : List Value)[0]? = some p0 from rfl))
    conv => lhs; rw [← he]
    exact List.set_getElem_self hlt
  rw [h2] at h1
  exact h1
theorem set_bk (es : List (List Value)) (k : Nat) (p0 p1 p2 p3 p4 a1 : Value) (h : es[k]? = some [p0, p1, p2, p3, p4]) (hC : ∀ x ∈ es, x.length = 5) : es.flatten.set (k * 5 + 1) a1 = (es.set k [p0, a1, p2, p3, p4]).flatten := by
  have h1 := set_five es k p0 p1 p2 p3 p4 p0 a1 p2 p3 p4 h hC
  have hs : ∀ (l : List Value) (i : Nat) (u : Value), l[i]? = some u → l.set i u = l := by
    intro l i u hu
    obtain ⟨hlt, he⟩ := List.getElem?_eq_some_iff.1 hu
    rw [← he]
    exact List.set_getElem_self hlt
  have g : ∀ j, j < 5 → es.flatten[k * 5 + j]? = ([p0, p1, p2, p3, p4] : List Value)[j]? := fun j hj => flat_at es hC k _ h j hj
  have h0 := hs es.flatten (k * 5 + 0) p0 (g 0 (by decide))
  rw [h0] at h1
  rw [← h1]
  have n2 : (es.flatten.set (k * 5 + 1) a1).set (k * 5 + 2) p2 = es.flatten.set (k * 5 + 1) a1 := hs _ _ _ (by rw [List.getElem?_set_ne (by omega)]; exact g 2 (by decide))
  have n3 : (es.flatten.set (k * 5 + 1) a1).set (k * 5 + 3) p3 = es.flatten.set (k * 5 + 1) a1 := hs _ _ _ (by rw [List.getElem?_set_ne (by omega)]; exact g 3 (by decide))
  have n4 : (es.flatten.set (k * 5 + 1) a1).set (k * 5 + 4) p4 = es.flatten.set (k * 5 + 1) a1 := hs _ _ _ (by rw [List.getElem?_set_ne (by omega)]; exact g 4 (by decide))
  rw [n2, n3, n4]
def renC (s : Sf) (y : Int) (x : ByteArray) : Int := cond (mayS s) (cond (decide (bookAt s y < 0)) 4 (cond (mayN x) (cond (bookTk s x y) 7 0) 6)) 2
def renS (s : Sf) (y : Int) (x : ByteArray) : Sf := { s with bs := s.bs.set (bookAt s y).toNat ⟨y, x⟩ }
def nameAt (s : Sf) (y : Int) : ByteArray := match s.ts[(noteAt s y).toNat]? with
  | some n => n.nm
  | none => ByteArray.empty
def movC (s : Sf) (y z : Int) : Int := cond (mayS s) (cond (decide (noteAt s y < 0) || decide (bookAt s z < 0)) 4 (cond (noteTk s z (nameAt s y) y) 7 0)) 2
def movS (s : Sf) (y z : Int) : Sf := match s.ts[(noteAt s y).toNat]? with
  | some n => { s with ts := s.ts.set (noteAt s y).toNat { n with bk := z } }
  | none => s
theorem bookAt_get {s : Sf} {x : Int} (h : 0 ≤ bookAt s x) : ∃ (k : Nat) (b : Bk), bookAt s x = (k : Int) ∧ s.bs[k]? = some b ∧ b.id = x := by
  rcases idxP_cases (fun b : Bk => b.id == x) s.bs with ⟨h1, _⟩ | ⟨k, b, h1, h2, h3, _⟩
  · have : bookAt s x = -1 := h1
    omega
  · exact ⟨k, b, h1, h2, by simpa using h3⟩
theorem noteAt_get {s : Sf} {x : Int} (h : 0 ≤ noteAt s x) : ∃ (k : Nat) (b : Nt), noteAt s x = (k : Int) ∧ s.ts[k]? = some b ∧ b.id = x := by
  rcases idxP_cases (fun b : Nt => b.id == x) s.ts with ⟨h1, _⟩ | ⟨k, b, h1, h2, h3, _⟩
  · have : noteAt s x = -1 := h1
    omega
  · exact ⟨k, b, h1, h2, by simpa using h3⟩
theorem BksW.name_ {w : World} {base c k : Nat} {g : Nat} {bs : List Bk} {b : Bk} (h : BksW w base (.slice (some ⟨g, 0, none⟩) bs.length c) bs) (hk : bs[k]? = some b) (x : ByteArray) : BksW (w.setCell ⟨g, k * 2 + 1, none⟩ (.string x)) base (.slice (some ⟨g, 0, none⟩) bs.length c) (bs.set k ⟨b.id, x⟩) ∧ w.grownBy (w.setCell ⟨g, k * 2 + 1, none⟩ (.string x)) (some g) := by
  refine ⟨?_, set1_grown w g _ _⟩
  have h1 := (World.ownsRow.stored h (k * 2 + 1) (.string x)).1
  have he : (bs.map bkC)[k]? = some [.int .i64 b.id, .string b.nm] := by rw [List.getElem?_map, hk]; rfl
  rw [set_snd _ k _ _ _ he (bkC_two _)] at h1
  show World.ownsRow _ _ _ _ _ (bs.set k ⟨b.id, x⟩).length ((bs.set k ⟨b.id, x⟩).map bkC).flatten
  rw [List.length_set, List.map_set]
  exact h1
theorem NtsW.book_ {w : World} {base c k : Nat} {g : Nat} {ts : List Nt} {n : Nt} (h : NtsW w base (.slice (some ⟨g, 0, none⟩) ts.length c) ts) (hk : ts[k]? = some n) (z : Int) : NtsW (w.setCell ⟨g, k * 5 + 1, none⟩ (.int .i64 z)) base (.slice (some ⟨g, 0, none⟩) ts.length c) (ts.set k { n with bk := z }) ∧ w.grownBy (w.setCell ⟨g, k * 5 + 1, none⟩ (.int .i64 z)) (some g) := by
  obtain ⟨es, hel, hon, hnt⟩ := h
  have hkl := (List.getElem?_eq_some_iff.1 hk).1
  have he := List.getElem?_eq_getElem (l := es) (i := k) (by omega)
  obtain ⟨vt, vs, hev, q1, q2⟩ := hnt k n _ hk he
  rw [hev] at he
  have h1 := (World.ownsRow.stored hon (k * 5 + 1) (.int .i64 z)).1
  rw [set_bk es k _ _ _ _ _ _ he (es_five hel hnt)] at h1
  have hg := set1_grown w g (k * 5 + 1) (.int .i64 z)
  refine ⟨⟨es.set k (ntC { n with bk := z } vt vs), by rw [List.length_set, List.length_set]; exact hel, by rw [List.length_set]; exact h1, fun j m e a b => ?_⟩, hg⟩
  rw [List.getElem?_set] at a b
  split at a
  · rename_i hj
    subst hj
    rw [if_pos rfl] at b
    first | rw [if_pos (by omega)] at b | skip
    first | rw [if_pos hkl] at a | skip
    cases a
    cases b
    exact NtW.kept (w := w) ⟨vt, vs, rfl, q1, q2⟩ hon hg (by decide) (by decide)
  · rename_i hj
    rw [if_neg hj] at b
    exact (hnt j m e a b).kept hon hg (by decide) (by decide)
theorem ren_no (s : Sf) (v : Value) (y : Int) (x : ByteArray) (w : World) (hS : ShR w w.heap.size v s) (hT : Tabs w) (c : Int) (hc : renC s y x = c) (hne : c ≠ 0) :
    Calls Tryd.prog 11 #[v, .int .i64 y, .string x] w fun e' w' => e' = .returned (.tuple #[.agg #[.int .i64 0, .int .i64 0, .int .i64 0, .slice none 0 0, .slice none 0 0], .int .i64 c]) ∧ Below w.heap.size w w' := by
  have hS0 := hS
  obtain ⟨Ab, cb, An, cn, rfl, hB, hN, hcb, hmb, hcn, hmn⟩ := hS.ex
  clear hS
  have HB : Below w.heap.size w ((w.alloc (.cells #[.int .i64 s.nb, .int .i64 s.nn, .int .i64 s.ns, .slice Ab s.bs.length cb, .slice An s.ts.length cn] 25)).alloc (.cells #[.int .i64 0, .int .i64 0, .int .i64 0, .slice none 0 0, .slice none 0 0] 25)) := (((Below.refl w.heap.size w).alloc (by first | (simp; done) | (simp; omega)) _).alloc (by first | (simp; done) | (simp; omega)) _)
  have B1 : Blk ((w.alloc (.cells #[.int .i64 s.nb, .int .i64 s.nn, .int .i64 s.ns, .slice Ab s.bs.length cb, .slice An s.ts.length cn] 25)).alloc (.cells #[.int .i64 0, .int .i64 0, .int .i64 0, .slice none 0 0, .slice none 0 0] 25)) w.heap.size 25 #[.int .i64 s.nb, .int .i64 s.nn, .int .i64 s.ns, .slice Ab s.bs.length cb, .slice An s.ts.length cn] := (Blk.new_ w 25 #[.int .i64 s.nb, .int .i64 s.nn, .int .i64 s.ns, .slice Ab s.bs.length cb, .slice An s.ts.length cn]).alloc_ (.cells #[.int .i64 0, .int .i64 0, .int .i64 0, .slice none 0 0, .slice none 0 0] 25)
  have B2 : Blk ((w.alloc (.cells #[.int .i64 s.nb, .int .i64 s.nn, .int .i64 s.ns, .slice Ab s.bs.length cb, .slice An s.ts.length cn] 25)).alloc (.cells #[.int .i64 0, .int .i64 0, .int .i64 0, .slice none 0 0, .slice none 0 0] 25)) (w.heap.size + 1) 25 #[.int .i64 0, .int .i64 0, .int .i64 0, .slice none 0 0, .slice none 0 0] := by
    have := Blk.new_ (w.alloc (.cells #[.int .i64 s.nb, .int .i64 s.nn, .int .i64 s.ns, .slice Ab s.bs.length cb, .slice An s.ts.length cn] 25)) 25 #[.int .i64 0, .int .i64 0, .int .i64 0, .slice none 0 0, .slice none 0 0]
    simpa using this
  have S1 : ShR ((w.alloc (.cells #[.int .i64 s.nb, .int .i64 s.nn, .int .i64 s.ns, .slice Ab s.bs.length cb, .slice An s.ts.length cn] 25)).alloc (.cells #[.int .i64 0, .int .i64 0, .int .i64 0, .slice none 0 0, .slice none 0 0] 25)) (((w.alloc (.cells #[.int .i64 s.nb, .int .i64 s.nn, .int .i64 s.ns, .slice Ab s.bs.length cb, .slice An s.ts.length cn] 25)).alloc (.cells #[.int .i64 0, .int .i64 0, .int .i64 0, .slice none 0 0, .slice none 0 0] 25))).heap.size (.agg #[.int .i64 s.nb, .int .i64 s.nn, .int .i64 s.ns, .slice Ab s.bs.length cb, .slice An s.ts.length cn]) s := hS0.next HB
  have T1 := hT.next HB
  clear hS0 hT hB hN hcb hmb hcn hmn
  obtain ⟨M, hM⟩ : ∃ M, mayS s = M := ⟨_, rfl⟩
  obtain ⟨I, hI⟩ : ∃ I, bookAt s y = I := ⟨_, rfl⟩
  obtain ⟨N, hN⟩ : ∃ N, mayN x = N := ⟨_, rfl⟩
  obtain ⟨K_, hK⟩ : ∃ K, bookTk s x y = K := ⟨_, rfl⟩
  unfold renC at hc
  rw [hM, hI, hN, hK] at hc
  have HM := Lib.hid hM
  have HI := Lib.hid hI
  have HN : Hid (nameB x.data.toList = N) := Lib.hid hN
  have HK := Lib.hid hK
  clear hM hN hK hI
  cases M
  · obtain rfl : c = 2 := hc.symm
    clear hc hne
    go_enter Tryd.func11, Tryd.ntmps11
    go_wp2_with (first | (go_at_call 28; ((with_reducible refine (pBook_any s _ y _ S1).mono ?_); rintro e' w3 ⟨rfl, bx⟩; rw [HI.out]; have S1 := S1.next bx; have T1 := T1.next bx; have B1 := B1.below bx B1.lt; have B2 := B2.below bx B2.lt; have HB := btr HB HB.size bx; (try clear k0 k1 k2 k3 k4 r0 r1 r2 r3 r4 t0 t1 t2 t3 t4); have k0 := B1.cell_ 0; have r0 := B2.cell_ 0; have t0 := B2.free 0; have k1 := B1.cell_ 1; have r1 := B2.cell_ 1; have t1 := B2.free 1; have k2 := B1.cell_ 2; have r2 := B2.cell_ 2; have t2 := B2.free 2; have k3 := B1.cell_ 3; have r3 := B2.cell_ 3; have t3 := B2.free 3; have k4 := B1.cell_ 4; have r4 := B2.cell_ 4; have t4 := B2.free 4; simp at k0 k1 k2 k3 k4 r0 r1 r2 r3 r4; clear bx)) | (go_at_call 7; ((with_reducible refine (smay_any s _ _ S1 T1 _ HM.out).mono ?_); rintro e' w4 ⟨rfl, bx⟩; have S1 := S1.next bx; have T1 := T1.next bx; have B1 := B1.below bx B1.lt; have B2 := B2.below bx B2.lt; have HB := btr HB HB.size bx; (try clear k0 k1 k2 k3 k4 r0 r1 r2 r3 r4 t0 t1 t2 t3 t4); have k0 := B1.cell_ 0; have r0 := B2.cell_ 0; have t0 := B2.free 0; have k1 := B1.cell_ 1; have r1 := B2.cell_ 1; have t1 := B2.free 1; have k2 := B1.cell_ 2; have r2 := B2.cell_ 2; have t2 := B2.free 2; have k3 := B1.cell_ 3; have r3 := B2.cell_ 3; have t3 := B2.free 3; have k4 := B1.cell_ 4; have r4 := B2.cell_ 4; have t4 := B2.free 4; simp at k0 k1 k2 k3 k4 r0 r1 r2 r3 r4; clear bx)))
    have B2u := B2.st5_ (.int .i64 0) (.int .i64 0) (.int .i64 0) (.slice none 0 0) (.slice none 0 0)
    have hb2 := st5_below HB (g := w.heap.size + 1) (by omega) 0 (.int .i64 0) (.int .i64 0) (.int .i64 0) (.slice none 0 0) (.slice none 0 0)
    change bodyPost _ _ _ _ _ (st5 w4 (w.heap.size + 1) 0 (.int .i64 0) (.int .i64 0) (.int .i64 0) (.slice none 0 0) (.slice none 0 0))
    generalize st5 w4 (w.heap.size + 1) 0 (.int .i64 0) (.int .i64 0) (.int .i64 0) (.slice none 0 0) (.slice none 0 0) = Wd at B2u hb2 ⊢
    apply bodyPost_ret (v := .tuple #[.agg #[.int .i64 0, .int .i64 0, .int .i64 0, .slice none 0 0, .slice none 0 0], .int .i64 2])
    · exact results_cell1 Tryd.results11 _ Wd (w.heap.size + 1) 25 #[.int .i64 0, .int .i64 0, .int .i64 0, .slice none 0 0, .slice none 0 0] (0, 0) _ rfl B2u Tryd.underlying25 rfl (by kernel_rfl)
    · rfl
    · exact ⟨rfl, hb2⟩
  · by_cases hi : I < 0
    · obtain rfl : c = 4 := by simpa [hi] using hc.symm
      clear hc hne
      go_enter Tryd.func11, Tryd.ntmps11
      go_wp2_with (first | (go_at_call 28; ((with_reducible refine (pBook_any s _ y _ S1).mono ?_); rintro e' w3 ⟨rfl, bx⟩; rw [HI.out]; have S1 := S1.next bx; have T1 := T1.next bx; have B1 := B1.below bx B1.lt; have B2 := B2.below bx B2.lt; have HB := btr HB HB.size bx; (try clear k0 k1 k2 k3 k4 r0 r1 r2 r3 r4 t0 t1 t2 t3 t4); have k0 := B1.cell_ 0; have r0 := B2.cell_ 0; have t0 := B2.free 0; have k1 := B1.cell_ 1; have r1 := B2.cell_ 1; have t1 := B2.free 1; have k2 := B1.cell_ 2; have r2 := B2.cell_ 2; have t2 := B2.free 2; have k3 := B1.cell_ 3; have r3 := B2.cell_ 3; have t3 := B2.free 3; have k4 := B1.cell_ 4; have r4 := B2.cell_ 4; have t4 := B2.free 4; simp at k0 k1 k2 k3 k4 r0 r1 r2 r3 r4; clear bx)) | (go_at_call 7; ((with_reducible refine (smay_any s _ _ S1 T1 _ HM.out).mono ?_); rintro e' w4 ⟨rfl, bx⟩; have S1 := S1.next bx; have T1 := T1.next bx; have B1 := B1.below bx B1.lt; have B2 := B2.below bx B2.lt; have HB := btr HB HB.size bx; (try clear k0 k1 k2 k3 k4 r0 r1 r2 r3 r4 t0 t1 t2 t3 t4); have k0 := B1.cell_ 0; have r0 := B2.cell_ 0; have t0 := B2.free 0; have k1 := B1.cell_ 1; have r1 := B2.cell_ 1; have t1 := B2.free 1; have k2 := B1.cell_ 2; have r2 := B2.cell_ 2; have t2 := B2.free 2; have k3 := B1.cell_ 3; have r3 := B2.cell_ 3; have t3 := B2.free 3; have k4 := B1.cell_ 4; have r4 := B2.cell_ 4; have t4 := B2.free 4; simp at k0 k1 k2 k3 k4 r0 r1 r2 r3 r4; clear bx)))
      have B2u := B2.st5_ (.int .i64 0) (.int .i64 0) (.int .i64 0) (.slice none 0 0) (.slice none 0 0)
      have hb2 := st5_below HB (g := w.heap.size + 1) (by omega) 0 (.int .i64 0) (.int .i64 0) (.int .i64 0) (.slice none 0 0) (.slice none 0 0)
      change bodyPost _ _ _ _ _ (st5 w4 (w.heap.size + 1) 0 (.int .i64 0) (.int .i64 0) (.int .i64 0) (.slice none 0 0) (.slice none 0 0))
      generalize st5 w4 (w.heap.size + 1) 0 (.int .i64 0) (.int .i64 0) (.int .i64 0) (.slice none 0 0) (.slice none 0 0) = Wd at B2u hb2 ⊢
      apply bodyPost_ret (v := .tuple #[.agg #[.int .i64 0, .int .i64 0, .int .i64 0, .slice none 0 0, .slice none 0 0], .int .i64 4])
      · exact results_cell1 Tryd.results11 _ Wd (w.heap.size + 1) 25 #[.int .i64 0, .int .i64 0, .int .i64 0, .slice none 0 0, .slice none 0 0] (0, 0) _ rfl B2u Tryd.underlying25 rfl (by kernel_rfl)
      · rfl
      · exact ⟨rfl, hb2⟩
    · cases N
      · obtain rfl : c = 6 := by simpa [hi] using hc.symm
        clear hc hne
        go_enter Tryd.func11, Tryd.ntmps11
        go_wp2_with (first | (go_at_call 28; ((with_reducible refine (pBook_any s _ y _ S1).mono ?_); rintro e' w3 ⟨rfl, bx⟩; rw [HI.out]; have S1 := S1.next bx; have T1 := T1.next bx; have B1 := B1.below bx B1.lt; have B2 := B2.below bx B2.lt; have HB := btr HB HB.size bx; (try clear k0 k1 k2 k3 k4 r0 r1 r2 r3 r4 t0 t1 t2 t3 t4); have k0 := B1.cell_ 0; have r0 := B2.cell_ 0; have t0 := B2.free 0; have k1 := B1.cell_ 1; have r1 := B2.cell_ 1; have t1 := B2.free 1; have k2 := B1.cell_ 2; have r2 := B2.cell_ 2; have t2 := B2.free 2; have k3 := B1.cell_ 3; have r3 := B2.cell_ 3; have t3 := B2.free 3; have k4 := B1.cell_ 4; have r4 := B2.cell_ 4; have t4 := B2.free 4; simp at k0 k1 k2 k3 k4 r0 r1 r2 r3 r4; clear bx)) | (go_at_call 7; ((with_reducible refine (smay_any s _ _ S1 T1 _ HM.out).mono ?_); rintro e' w4 ⟨rfl, bx⟩; have S1 := S1.next bx; have T1 := T1.next bx; have B1 := B1.below bx B1.lt; have B2 := B2.below bx B2.lt; have HB := btr HB HB.size bx; (try clear k0 k1 k2 k3 k4 r0 r1 r2 r3 r4 t0 t1 t2 t3 t4); have k0 := B1.cell_ 0; have r0 := B2.cell_ 0; have t0 := B2.free 0; have k1 := B1.cell_ 1; have r1 := B2.cell_ 1; have t1 := B2.free 1; have k2 := B1.cell_ 2; have r2 := B2.cell_ 2; have t2 := B2.free 2; have k3 := B1.cell_ 3; have r3 := B2.cell_ 3; have t3 := B2.free 3; have k4 := B1.cell_ 4; have r4 := B2.cell_ 4; have t4 := B2.free 4; simp at k0 k1 k2 k3 k4 r0 r1 r2 r3 r4; clear bx)) | (go_at_call 25; ((with_reducible refine (nmay_any x _ _ T1 HN.out).mono ?_); rintro e' w5 ⟨rfl, bx⟩; have S1 := S1.next bx; have T1 := T1.next bx; have B1 := B1.below bx B1.lt; have B2 := B2.below bx B2.lt; have HB := btr HB HB.size bx; (try clear k0 k1 k2 k3 k4 r0 r1 r2 r3 r4 t0 t1 t2 t3 t4); have k0 := B1.cell_ 0; have r0 := B2.cell_ 0; have t0 := B2.free 0; have k1 := B1.cell_ 1; have r1 := B2.cell_ 1; have t1 := B2.free 1; have k2 := B1.cell_ 2; have r2 := B2.cell_ 2; have t2 := B2.free 2; have k3 := B1.cell_ 3; have r3 := B2.cell_ 3; have t3 := B2.free 3; have k4 := B1.cell_ 4; have r4 := B2.cell_ 4; have t4 := B2.free 4; simp at k0 k1 k2 k3 k4 r0 r1 r2 r3 r4; clear bx)))
        have B2u := B2.st5_ (.int .i64 0) (.int .i64 0) (.int .i64 0) (.slice none 0 0) (.slice none 0 0)
        have hb2 := st5_below HB (g := w.heap.size + 1) (by omega) 0 (.int .i64 0) (.int .i64 0) (.int .i64 0) (.slice none 0 0) (.slice none 0 0)
        change bodyPost _ _ _ _ _ (st5 w5 (w.heap.size + 1) 0 (.int .i64 0) (.int .i64 0) (.int .i64 0) (.slice none 0 0) (.slice none 0 0))
        generalize st5 w5 (w.heap.size + 1) 0 (.int .i64 0) (.int .i64 0) (.int .i64 0) (.slice none 0 0) (.slice none 0 0) = Wd at B2u hb2 ⊢
        apply bodyPost_ret (v := .tuple #[.agg #[.int .i64 0, .int .i64 0, .int .i64 0, .slice none 0 0, .slice none 0 0], .int .i64 6])
        · exact results_cell1 Tryd.results11 _ Wd (w.heap.size + 1) 25 #[.int .i64 0, .int .i64 0, .int .i64 0, .slice none 0 0, .slice none 0 0] (0, 0) _ rfl B2u Tryd.underlying25 rfl (by kernel_rfl)
        · rfl
        · exact ⟨rfl, hb2⟩
      · cases K_
        · exact absurd (by simpa [hi] using hc.symm) hne
        · obtain rfl : c = 7 := by simpa [hi] using hc.symm
          clear hc hne
          go_enter Tryd.func11, Tryd.ntmps11
          go_wp2_with (first | (go_at_call 28; ((with_reducible refine (pBook_any s _ y _ S1).mono ?_); rintro e' w3 ⟨rfl, bx⟩; rw [HI.out]; have S1 := S1.next bx; have T1 := T1.next bx; have B1 := B1.below bx B1.lt; have B2 := B2.below bx B2.lt; have HB := btr HB HB.size bx; (try clear k0 k1 k2 k3 k4 r0 r1 r2 r3 r4 t0 t1 t2 t3 t4); have k0 := B1.cell_ 0; have r0 := B2.cell_ 0; have t0 := B2.free 0; have k1 := B1.cell_ 1; have r1 := B2.cell_ 1; have t1 := B2.free 1; have k2 := B1.cell_ 2; have r2 := B2.cell_ 2; have t2 := B2.free 2; have k3 := B1.cell_ 3; have r3 := B2.cell_ 3; have t3 := B2.free 3; have k4 := B1.cell_ 4; have r4 := B2.cell_ 4; have t4 := B2.free 4; simp at k0 k1 k2 k3 k4 r0 r1 r2 r3 r4; clear bx)) | (go_at_call 7; ((with_reducible refine (smay_any s _ _ S1 T1 _ HM.out).mono ?_); rintro e' w4 ⟨rfl, bx⟩; have S1 := S1.next bx; have T1 := T1.next bx; have B1 := B1.below bx B1.lt; have B2 := B2.below bx B2.lt; have HB := btr HB HB.size bx; (try clear k0 k1 k2 k3 k4 r0 r1 r2 r3 r4 t0 t1 t2 t3 t4); have k0 := B1.cell_ 0; have r0 := B2.cell_ 0; have t0 := B2.free 0; have k1 := B1.cell_ 1; have r1 := B2.cell_ 1; have t1 := B2.free 1; have k2 := B1.cell_ 2; have r2 := B2.cell_ 2; have t2 := B2.free 2; have k3 := B1.cell_ 3; have r3 := B2.cell_ 3; have t3 := B2.free 3; have k4 := B1.cell_ 4; have r4 := B2.cell_ 4; have t4 := B2.free 4; simp at k0 k1 k2 k3 k4 r0 r1 r2 r3 r4; clear bx)) | (go_at_call 25; ((with_reducible refine (nmay_any x _ _ T1 HN.out).mono ?_); rintro e' w5 ⟨rfl, bx⟩; have S1 := S1.next bx; have T1 := T1.next bx; have B1 := B1.below bx B1.lt; have B2 := B2.below bx B2.lt; have HB := btr HB HB.size bx; (try clear k0 k1 k2 k3 k4 r0 r1 r2 r3 r4 t0 t1 t2 t3 t4); have k0 := B1.cell_ 0; have r0 := B2.cell_ 0; have t0 := B2.free 0; have k1 := B1.cell_ 1; have r1 := B2.cell_ 1; have t1 := B2.free 1; have k2 := B1.cell_ 2; have r2 := B2.cell_ 2; have t2 := B2.free 2; have k3 := B1.cell_ 3; have r3 := B2.cell_ 3; have t3 := B2.free 3; have k4 := B1.cell_ 4; have r4 := B2.cell_ 4; have t4 := B2.free 4; simp at k0 k1 k2 k3 k4 r0 r1 r2 r3 r4; clear bx)) | (go_at_call 26; ((with_reducible refine (bTaken_any s _ x y _ S1 _ HK.out).mono ?_); rintro e' w6 ⟨rfl, bx⟩; have S1 := S1.next bx; have T1 := T1.next bx; have B1 := B1.below bx B1.lt; have B2 := B2.below bx B2.lt; have HB := btr HB HB.size bx; (try clear k0 k1 k2 k3 k4 r0 r1 r2 r3 r4 t0 t1 t2 t3 t4); have k0 := B1.cell_ 0; have r0 := B2.cell_ 0; have t0 := B2.free 0; have k1 := B1.cell_ 1; have r1 := B2.cell_ 1; have t1 := B2.free 1; have k2 := B1.cell_ 2; have r2 := B2.cell_ 2; have t2 := B2.free 2; have k3 := B1.cell_ 3; have r3 := B2.cell_ 3; have t3 := B2.free 3; have k4 := B1.cell_ 4; have r4 := B2.cell_ 4; have t4 := B2.free 4; simp at k0 k1 k2 k3 k4 r0 r1 r2 r3 r4; clear bx)))
          have B2u := B2.st5_ (.int .i64 0) (.int .i64 0) (.int .i64 0) (.slice none 0 0) (.slice none 0 0)
          have hb2 := st5_below HB (g := w.heap.size + 1) (by omega) 0 (.int .i64 0) (.int .i64 0) (.int .i64 0) (.slice none 0 0) (.slice none 0 0)
          change bodyPost _ _ _ _ _ (st5 w6 (w.heap.size + 1) 0 (.int .i64 0) (.int .i64 0) (.int .i64 0) (.slice none 0 0) (.slice none 0 0))
          generalize st5 w6 (w.heap.size + 1) 0 (.int .i64 0) (.int .i64 0) (.int .i64 0) (.slice none 0 0) (.slice none 0 0) = Wd at B2u hb2 ⊢
          apply bodyPost_ret (v := .tuple #[.agg #[.int .i64 0, .int .i64 0, .int .i64 0, .slice none 0 0, .slice none 0 0], .int .i64 7])
          · exact results_cell1 Tryd.results11 _ Wd (w.heap.size + 1) 25 #[.int .i64 0, .int .i64 0, .int .i64 0, .slice none 0 0, .slice none 0 0] (0, 0) _ rfl B2u Tryd.underlying25 rfl (by kernel_rfl)
          · rfl
          · exact ⟨rfl, hb2⟩
theorem ren_yes (s : Sf) (v : Value) (y : Int) (x : ByteArray) (w : World) (hS : ShR w w.heap.size v s) (hT : Tabs w) (hc : renC s y x = 0) :
    Calls Tryd.prog 11 #[v, .int .i64 y, .string x] w fun e' w' => ∃ v', e' = .returned (.tuple #[v', .int .i64 0]) ∧ ShW w' w.heap.size v' (renS s y x) ∧ Below w.heap.size w w' := by
  have hS0 := hS
  obtain ⟨Ab, cb, An, cn, rfl, hB, hN, hcb, hmb, hcn, hmn⟩ := hS.ex
  clear hS
  have HB : Below w.heap.size w ((w.alloc (.cells #[.int .i64 s.nb, .int .i64 s.nn, .int .i64 s.ns, .slice Ab s.bs.length cb, .slice An s.ts.length cn] 25)).alloc (.cells #[.int .i64 0, .int .i64 0, .int .i64 0, .slice none 0 0, .slice none 0 0] 25)) := (((Below.refl w.heap.size w).alloc (by first | (simp; done) | (simp; omega)) _).alloc (by first | (simp; done) | (simp; omega)) _)
  have B1 : Blk ((w.alloc (.cells #[.int .i64 s.nb, .int .i64 s.nn, .int .i64 s.ns, .slice Ab s.bs.length cb, .slice An s.ts.length cn] 25)).alloc (.cells #[.int .i64 0, .int .i64 0, .int .i64 0, .slice none 0 0, .slice none 0 0] 25)) w.heap.size 25 #[.int .i64 s.nb, .int .i64 s.nn, .int .i64 s.ns, .slice Ab s.bs.length cb, .slice An s.ts.length cn] := (Blk.new_ w 25 #[.int .i64 s.nb, .int .i64 s.nn, .int .i64 s.ns, .slice Ab s.bs.length cb, .slice An s.ts.length cn]).alloc_ (.cells #[.int .i64 0, .int .i64 0, .int .i64 0, .slice none 0 0, .slice none 0 0] 25)
  have B2 : Blk ((w.alloc (.cells #[.int .i64 s.nb, .int .i64 s.nn, .int .i64 s.ns, .slice Ab s.bs.length cb, .slice An s.ts.length cn] 25)).alloc (.cells #[.int .i64 0, .int .i64 0, .int .i64 0, .slice none 0 0, .slice none 0 0] 25)) (w.heap.size + 1) 25 #[.int .i64 0, .int .i64 0, .int .i64 0, .slice none 0 0, .slice none 0 0] := by
    have := Blk.new_ (w.alloc (.cells #[.int .i64 s.nb, .int .i64 s.nn, .int .i64 s.ns, .slice Ab s.bs.length cb, .slice An s.ts.length cn] 25)) 25 #[.int .i64 0, .int .i64 0, .int .i64 0, .slice none 0 0, .slice none 0 0]
    simpa using this
  have S1 : ShR ((w.alloc (.cells #[.int .i64 s.nb, .int .i64 s.nn, .int .i64 s.ns, .slice Ab s.bs.length cb, .slice An s.ts.length cn] 25)).alloc (.cells #[.int .i64 0, .int .i64 0, .int .i64 0, .slice none 0 0, .slice none 0 0] 25)) (((w.alloc (.cells #[.int .i64 s.nb, .int .i64 s.nn, .int .i64 s.ns, .slice Ab s.bs.length cb, .slice An s.ts.length cn] 25)).alloc (.cells #[.int .i64 0, .int .i64 0, .int .i64 0, .slice none 0 0, .slice none 0 0] 25))).heap.size (.agg #[.int .i64 s.nb, .int .i64 s.nn, .int .i64 s.ns, .slice Ab s.bs.length cb, .slice An s.ts.length cn]) s := hS0.next HB
  have T1 := hT.next HB
  clear hS0 hT hB hN hcb hmb hcn hmn
  obtain ⟨hM, hI, hN, hK⟩ : mayS s = true ∧ ¬ bookAt s y < 0 ∧ mayN x = true ∧ bookTk s x y = false := by
    unfold renC at hc
    cases h1 : mayS s <;> by_cases h2 : bookAt s y < 0 <;> cases h3 : mayN x <;> cases h4 : bookTk s x y <;> rw [h1] at hc <;> simp [h2, h3, h4] at hc ⊢
    all_goals exact Int.not_lt.1 h2
  obtain ⟨k, b, hk, hb, hid⟩ := bookAt_get (Int.not_lt.1 hI)
  have HRS : Hid (renS s y x = { s with bs := s.bs.set k ⟨b.id, x⟩ }) := Lib.hid (by unfold renS; rw [hk, hid]; rfl)
  have HI := Lib.hid hk
  have HN : Hid (nameB x.data.toList = true) := Lib.hid hN
  have HK := Lib.hid hK
  have HBB := Lib.hid hb
  have hkl : k < s.bs.length := (List.getElem?_eq_some_iff.1 hb).1
  have i0 : (0 : Int) ≤ (k : Int) := by omega
  have i1 : (k : Int) < (s.bs.length : Int) := by omega
  have i2 : ¬ (k : Int) < 0 := by omega
  have HKL := Lib.hid hkl
  clear hI hN hK hk hb hid hkl
  have hMF := mayF_of hM
  have hlb : s.bs.length ≤ 100000 := by have := hMF.bl; omega
  have hln : s.ts.length ≤ 100000 := by have := hMF.tl; omega
  have HM := Lib.hid hM
  have HLB := Lib.hid hlb
  have HLN := Lib.hid hln
  have HLR := Lib.hid hMF.small
  clear hM hMF hc hlb hln
  go_enter Tryd.func11, Tryd.ntmps11
  go_upto_region 10 with (first | (go_at_call 28; ((with_reducible refine (pBook_any s _ y _ S1).mono ?_); rintro e' w3 ⟨rfl, bx⟩; rw [HI.out]; have S1 := S1.next bx; have T1 := T1.next bx; have B1 := B1.below bx B1.lt; have B2 := B2.below bx B2.lt; have HB := btr HB HB.size bx; (try clear k0 k1 k2 k3 k4 r0 r1 r2 r3 r4 t0 t1 t2 t3 t4); have k0 := B1.cell_ 0; have r0 := B2.cell_ 0; have t0 := B2.free 0; have k1 := B1.cell_ 1; have r1 := B2.cell_ 1; have t1 := B2.free 1; have k2 := B1.cell_ 2; have r2 := B2.cell_ 2; have t2 := B2.free 2; have k3 := B1.cell_ 3; have r3 := B2.cell_ 3; have t3 := B2.free 3; have k4 := B1.cell_ 4; have r4 := B2.cell_ 4; have t4 := B2.free 4; simp at k0 k1 k2 k3 k4 r0 r1 r2 r3 r4; clear bx)) | (go_at_call 7; ((with_reducible refine (smay_any s _ _ S1 T1 _ HM.out).mono ?_); rintro e' w4 ⟨rfl, bx⟩; have S1 := S1.next bx; have T1 := T1.next bx; have B1 := B1.below bx B1.lt; have B2 := B2.below bx B2.lt; have HB := btr HB HB.size bx; (try clear k0 k1 k2 k3 k4 r0 r1 r2 r3 r4 t0 t1 t2 t3 t4); have k0 := B1.cell_ 0; have r0 := B2.cell_ 0; have t0 := B2.free 0; have k1 := B1.cell_ 1; have r1 := B2.cell_ 1; have t1 := B2.free 1; have k2 := B1.cell_ 2; have r2 := B2.cell_ 2; have t2 := B2.free 2; have k3 := B1.cell_ 3; have r3 := B2.cell_ 3; have t3 := B2.free 3; have k4 := B1.cell_ 4; have r4 := B2.cell_ 4; have t4 := B2.free 4; simp at k0 k1 k2 k3 k4 r0 r1 r2 r3 r4; clear bx)) | (go_at_call 25; ((with_reducible refine (nmay_any x _ _ T1 HN.out).mono ?_); rintro e' w5 ⟨rfl, bx⟩; have S1 := S1.next bx; have T1 := T1.next bx; have B1 := B1.below bx B1.lt; have B2 := B2.below bx B2.lt; have HB := btr HB HB.size bx; (try clear k0 k1 k2 k3 k4 r0 r1 r2 r3 r4 t0 t1 t2 t3 t4); have k0 := B1.cell_ 0; have r0 := B2.cell_ 0; have t0 := B2.free 0; have k1 := B1.cell_ 1; have r1 := B2.cell_ 1; have t1 := B2.free 1; have k2 := B1.cell_ 2; have r2 := B2.cell_ 2; have t2 := B2.free 2; have k3 := B1.cell_ 3; have r3 := B2.cell_ 3; have t3 := B2.free 3; have k4 := B1.cell_ 4; have r4 := B2.cell_ 4; have t4 := B2.free 4; simp at k0 k1 k2 k3 k4 r0 r1 r2 r3 r4; clear bx)) | (go_at_call 26; ((with_reducible refine (bTaken_any s _ x y _ S1 _ HK.out).mono ?_); rintro e' w6 ⟨rfl, bx⟩; have S1 := S1.next bx; have T1 := T1.next bx; have B1 := B1.below bx B1.lt; have B2 := B2.below bx B2.lt; have HB := btr HB HB.size bx; (try clear k0 k1 k2 k3 k4 r0 r1 r2 r3 r4 t0 t1 t2 t3 t4); have k0 := B1.cell_ 0; have r0 := B2.cell_ 0; have t0 := B2.free 0; have k1 := B1.cell_ 1; have r1 := B2.cell_ 1; have t1 := B2.free 1; have k2 := B1.cell_ 2; have r2 := B2.cell_ 2; have t2 := B2.free 2; have k3 := B1.cell_ 3; have r3 := B2.cell_ 3; have t3 := B2.free 3; have k4 := B1.cell_ 4; have r4 := B2.cell_ 4; have t4 := B2.free 4; simp at k0 k1 k2 k3 k4 r0 r1 r2 r3 r4; clear bx)))
  have hW5 : w.heap.size + 2 ≤ w6.heap.size := by have := B2.lt; omega
  go_upto_region 11 with (go_at_call 27; ((with_reducible refine (clone_any s _ _ S1 HLB.out HLN.out HLR.out).mono ?_); rintro e' w9 ⟨v6, rfl, hQ, b6⟩; obtain ⟨Ab6, cb6, An6, cn6, rfl, hBk, hNt, q1, q2, q3, q4⟩ := hQ.parts; have B1 := B1.below b6 B1.lt; have B2 := B2.below b6 B2.lt; have HB := btr HB HB.size b6; have hz6 := b6.size; (try clear k0 k1 k2 k3 k4 r0 r1 r2 r3 r4 t0 t1 t2 t3 t4); have k0 := B1.cell_ 0; have t0 := B1.free 0; have k1 := B1.cell_ 1; have t1 := B1.free 1; have k2 := B1.cell_ 2; have t2 := B1.free 2; have k3 := B1.cell_ 3; have t3 := B1.free 3; have k4 := B1.cell_ 4; have t4 := B1.free 4; simp at k0 k1 k2 k3 k4; clear b6 hQ S1 T1))
  have B1u := B1.st5_ (.int .i64 s.nb) (.int .i64 s.nn) (.int .i64 s.ns) (.slice Ab6 s.bs.length cb6) (.slice An6 s.ts.length cn6)
  have hg6 := st5_grown w9 w.heap.size 0 (.int .i64 s.nb) (.int .i64 s.nn) (.int .i64 s.ns) (.slice Ab6 s.bs.length cb6) (.slice An6 s.ts.length cn6)
  have B2u := B2.grown hg6 (by omega)
  have hBk2 := hBk.far hg6 (by omega)
  have hNt2 := hNt.far hg6 (by omega)
  have hb2 := below_grown HB hg6 (Nat.le_refl _) HB.size
  clear hg6
  obtain ⟨Wd, hWd⟩ : ∃ V : World, V = (st5 w9 w.heap.size 0 (.int .i64 s.nb) (.int .i64 s.nn) (.int .i64 s.ns) (.slice Ab6 s.bs.length cb6) (.slice An6 s.ts.length cn6)) := ⟨_, rfl⟩
  change Code.wp _ _ _ _ (st5 w9 w.heap.size 0 (.int .i64 s.nb) (.int .i64 s.nn) (.int .i64 s.ns) (.slice Ab6 s.bs.length cb6) (.slice An6 s.ts.length cn6))
  rw [← hWd] at B1u B2u hBk2 hNt2 hb2 ⊢
  clear hWd B1 B2 HB hBk hNt k0 k1 k2 k3 k4 t0 t1 t2 t3 t4 hz6
  have k0 := B1u.cell_ 0
  have k1 := B1u.cell_ 1
  have k2 := B1u.cell_ 2
  have k3 := B1u.cell_ 3
  have k4 := B1u.cell_ 4
  simp at k0 k1 k2 k3 k4
  obtain ⟨gb, hgb, hgb2⟩ : ∃ gb, Ab6 = some ⟨gb, 0, none⟩ ∧ w6.heap.size ≤ gb := by
    rcases hBk2.2 with ⟨h, h0⟩ | ⟨g, c, cu, h, hb, _⟩
    · have := HKL.out; omega
    · injection h with h1 h2 h3
      exact ⟨g, h1, hb⟩
  subst hgb
  have HW5 := Lib.hid hW5
  obtain ⟨u0, u1, x0, x1⟩ := two_cells hBk2 (bkC_two _) (k := k) (by rw [List.length_map]; exact HKL.out)
  have f1 := World.ownsRow.frozenAt hBk2 (k * 2 + 1)
  go_upto_region 12 with fail
  obtain ⟨hBw, hgw⟩ := hBk2.name_ HBB.out x
  have B1w := B1u.grown hgw (by have := HW5.out; omega)
  have B2w := B2u.grown hgw (by have := HW5.out; omega)
  have hNw := hNt2.apart hBk2 hgw
  have hbw := below_grown hb2 hgw (by have := HW5.out; omega) hb2.size
  obtain ⟨Wx, hWx⟩ : ∃ V : World, V = Wd.setCell ⟨gb, k * 2 + 1, none⟩ (.string x) := ⟨_, rfl⟩
  rw [← hWx] at hBw B1w B2w hNw hbw ⊢
  clear hWx hgw B1u B2u hNt2 hBk2 hb2 x0 x1 f1
  clear k0 k1 k2 k3 k4
  have k0 := B1w.cell_ 0
  have r0 := B2w.cell_ 0
  have t0 := B2w.free 0
  have k1 := B1w.cell_ 1
  have r1 := B2w.cell_ 1
  have t1 := B2w.free 1
  have k2 := B1w.cell_ 2
  have r2 := B2w.cell_ 2
  have t2 := B2w.free 2
  have k3 := B1w.cell_ 3
  have r3 := B2w.cell_ 3
  have t3 := B2w.free 3
  have k4 := B1w.cell_ 4
  have r4 := B2w.cell_ 4
  have t4 := B2w.free 4
  simp at k0 k1 k2 k3 k4 r0 r1 r2 r3 r4
  go_wp2_with fail
  have B2e := B2w.st5_ (.int .i64 s.nb) (.int .i64 s.nn) (.int .i64 s.ns) (.slice (some ⟨gb, 0, none⟩) s.bs.length cb6) (.slice An6 s.ts.length cn6)
  have hgE := st5_grown Wx (w.heap.size + 1) 0 (.int .i64 s.nb) (.int .i64 s.nn) (.int .i64 s.ns) (.slice (some ⟨gb, 0, none⟩) s.bs.length cb6) (.slice An6 s.ts.length cn6)
  have hBe := hBw.far hgE (by have := HW5.out; omega)
  have hNe := hNw.far hgE (by have := HW5.out; omega)
  have hbe := below_grown hbw hgE (by omega) hbw.size
  change bodyPost _ _ _ _ _ (st5 Wx (w.heap.size + 1) 0 (.int .i64 s.nb) (.int .i64 s.nn) (.int .i64 s.ns) (.slice (some ⟨gb, 0, none⟩) s.bs.length cb6) (.slice An6 s.ts.length cn6))
  clear hgE
  generalize st5 Wx (w.heap.size + 1) 0 (.int .i64 s.nb) (.int .i64 s.nn) (.int .i64 s.ns) (.slice (some ⟨gb, 0, none⟩) s.bs.length cb6) (.slice An6 s.ts.length cn6) = WF at B2e hBe hNe hbe ⊢
  apply bodyPost_ret (v := .tuple #[.agg #[.int .i64 s.nb, .int .i64 s.nn, .int .i64 s.ns, .slice (some ⟨gb, 0, none⟩) s.bs.length cb6, .slice An6 s.ts.length cn6], .int .i64 0])
  · exact results_cell1 Tryd.results11 _ WF (w.heap.size + 1) 25 _ (0, 0) _ rfl B2e Tryd.underlying25 rfl (by kernel_rfl)
  · rfl
  · exact ⟨_, rfl, ShW.base_ (by rw [HRS.out]; exact ShW.make (s := { s with bs := s.bs.set k ⟨b.id, x⟩ }) (w := WF) (base := w6.heap.size) (vb := .slice (some ⟨gb, 0, none⟩) s.bs.length cb6) (vn := .slice An6 s.ts.length cn6) hBe hNe) (by have := HW5.out; omega), hbe⟩
theorem mov_no (s : Sf) (v : Value) (y z : Int) (w : World) (hS : ShR w w.heap.size v s) (hT : Tabs w) (c : Int) (hc : movC s y z = c) (hne : c ≠ 0) :
    Calls Tryd.prog 14 #[v, .int .i64 y, .int .i64 z] w fun e' w' => e' = .returned (.tuple #[.agg #[.int .i64 0, .int .i64 0, .int .i64 0, .slice none 0 0, .slice none 0 0], .int .i64 c]) ∧ Below w.heap.size w w' := by
  have hS0 := hS
  obtain ⟨Ab, cb, An, cn, rfl, hB, hN, hcb, hmb, hcn, hmn⟩ := hS.ex
  clear hS
  have HB : Below w.heap.size w ((w.alloc (.cells #[.int .i64 s.nb, .int .i64 s.nn, .int .i64 s.ns, .slice Ab s.bs.length cb, .slice An s.ts.length cn] 25)).alloc (.cells #[.int .i64 0, .int .i64 0, .int .i64 0, .slice none 0 0, .slice none 0 0] 25)) := (((Below.refl w.heap.size w).alloc (by first | (simp; done) | (simp; omega)) _).alloc (by first | (simp; done) | (simp; omega)) _)
  have B1 : Blk ((w.alloc (.cells #[.int .i64 s.nb, .int .i64 s.nn, .int .i64 s.ns, .slice Ab s.bs.length cb, .slice An s.ts.length cn] 25)).alloc (.cells #[.int .i64 0, .int .i64 0, .int .i64 0, .slice none 0 0, .slice none 0 0] 25)) w.heap.size 25 #[.int .i64 s.nb, .int .i64 s.nn, .int .i64 s.ns, .slice Ab s.bs.length cb, .slice An s.ts.length cn] := (Blk.new_ w 25 #[.int .i64 s.nb, .int .i64 s.nn, .int .i64 s.ns, .slice Ab s.bs.length cb, .slice An s.ts.length cn]).alloc_ (.cells #[.int .i64 0, .int .i64 0, .int .i64 0, .slice none 0 0, .slice none 0 0] 25)
  have B2 : Blk ((w.alloc (.cells #[.int .i64 s.nb, .int .i64 s.nn, .int .i64 s.ns, .slice Ab s.bs.length cb, .slice An s.ts.length cn] 25)).alloc (.cells #[.int .i64 0, .int .i64 0, .int .i64 0, .slice none 0 0, .slice none 0 0] 25)) (w.heap.size + 1) 25 #[.int .i64 0, .int .i64 0, .int .i64 0, .slice none 0 0, .slice none 0 0] := by
    have := Blk.new_ (w.alloc (.cells #[.int .i64 s.nb, .int .i64 s.nn, .int .i64 s.ns, .slice Ab s.bs.length cb, .slice An s.ts.length cn] 25)) 25 #[.int .i64 0, .int .i64 0, .int .i64 0, .slice none 0 0, .slice none 0 0]
    simpa using this
  have S1 : ShR ((w.alloc (.cells #[.int .i64 s.nb, .int .i64 s.nn, .int .i64 s.ns, .slice Ab s.bs.length cb, .slice An s.ts.length cn] 25)).alloc (.cells #[.int .i64 0, .int .i64 0, .int .i64 0, .slice none 0 0, .slice none 0 0] 25)) (((w.alloc (.cells #[.int .i64 s.nb, .int .i64 s.nn, .int .i64 s.ns, .slice Ab s.bs.length cb, .slice An s.ts.length cn] 25)).alloc (.cells #[.int .i64 0, .int .i64 0, .int .i64 0, .slice none 0 0, .slice none 0 0] 25))).heap.size (.agg #[.int .i64 s.nb, .int .i64 s.nn, .int .i64 s.ns, .slice Ab s.bs.length cb, .slice An s.ts.length cn]) s := hS0.next HB
  have T1 := hT.next HB
  obtain ⟨M, hM⟩ : ∃ M, mayS s = M := ⟨_, rfl⟩
  obtain ⟨J, hJ⟩ : ∃ J, noteAt s y = J := ⟨_, rfl⟩
  obtain ⟨I, hI⟩ : ∃ I, bookAt s z = I := ⟨_, rfl⟩
  unfold movC at hc
  rw [hM, hI, hJ] at hc
  have HM := Lib.hid hM
  have HI := Lib.hid hI
  have HJ := Lib.hid hJ
  cases M
  · obtain rfl : c = 2 := hc.symm
    clear hS0 hT hB hN hcb hmb hcn hmn hM hI hJ
    clear hc hne
    go_enter Tryd.func14, Tryd.ntmps14
    go_wp2_with (first | (go_at_call 35; ((with_reducible refine (pNote_any s _ y _ S1).mono ?_); rintro e' w3 ⟨rfl, bx⟩; rw [HJ.out]; have S1 := S1.next bx; have T1 := T1.next bx; have B1 := B1.below bx B1.lt; have B2 := B2.below bx B2.lt; have HB := btr HB HB.size bx; (try clear k0 k1 k2 k3 k4 r0 r1 r2 r3 r4 t0 t1 t2 t3 t4); have k0 := B1.cell_ 0; have r0 := B2.cell_ 0; have t0 := B2.free 0; have k1 := B1.cell_ 1; have r1 := B2.cell_ 1; have t1 := B2.free 1; have k2 := B1.cell_ 2; have r2 := B2.cell_ 2; have t2 := B2.free 2; have k3 := B1.cell_ 3; have r3 := B2.cell_ 3; have t3 := B2.free 3; have k4 := B1.cell_ 4; have r4 := B2.cell_ 4; have t4 := B2.free 4; simp at k0 k1 k2 k3 k4 r0 r1 r2 r3 r4; clear bx)) | (go_at_call 7; ((with_reducible refine (smay_any s _ _ S1 T1 _ HM.out).mono ?_); rintro e' w4 ⟨rfl, bx⟩; have S1 := S1.next bx; have T1 := T1.next bx; have B1 := B1.below bx B1.lt; have B2 := B2.below bx B2.lt; have HB := btr HB HB.size bx; (try clear k0 k1 k2 k3 k4 r0 r1 r2 r3 r4 t0 t1 t2 t3 t4); have k0 := B1.cell_ 0; have r0 := B2.cell_ 0; have t0 := B2.free 0; have k1 := B1.cell_ 1; have r1 := B2.cell_ 1; have t1 := B2.free 1; have k2 := B1.cell_ 2; have r2 := B2.cell_ 2; have t2 := B2.free 2; have k3 := B1.cell_ 3; have r3 := B2.cell_ 3; have t3 := B2.free 3; have k4 := B1.cell_ 4; have r4 := B2.cell_ 4; have t4 := B2.free 4; simp at k0 k1 k2 k3 k4 r0 r1 r2 r3 r4; clear bx)))
    have B2u := B2.st5_ (.int .i64 0) (.int .i64 0) (.int .i64 0) (.slice none 0 0) (.slice none 0 0)
    have hb2 := st5_below HB (g := w.heap.size + 1) (by omega) 0 (.int .i64 0) (.int .i64 0) (.int .i64 0) (.slice none 0 0) (.slice none 0 0)
    change bodyPost _ _ _ _ _ (st5 w4 (w.heap.size + 1) 0 (.int .i64 0) (.int .i64 0) (.int .i64 0) (.slice none 0 0) (.slice none 0 0))
    generalize st5 w4 (w.heap.size + 1) 0 (.int .i64 0) (.int .i64 0) (.int .i64 0) (.slice none 0 0) (.slice none 0 0) = Wd at B2u hb2 ⊢
    apply bodyPost_ret (v := .tuple #[.agg #[.int .i64 0, .int .i64 0, .int .i64 0, .slice none 0 0, .slice none 0 0], .int .i64 2])
    · exact results_cell1 Tryd.results14 _ Wd (w.heap.size + 1) 25 #[.int .i64 0, .int .i64 0, .int .i64 0, .slice none 0 0, .slice none 0 0] (0, 0) _ rfl B2u Tryd.underlying25 rfl (by kernel_rfl)
    · rfl
    · exact ⟨rfl, hb2⟩
  · by_cases hj : J < 0
    · obtain rfl : c = 4 := by simpa [hj] using hc.symm
      clear hS0 hT hB hN hcb hmb hcn hmn hM hI hJ
      clear hc hne
      go_enter Tryd.func14, Tryd.ntmps14
      go_wp2_with (first | (go_at_call 35; ((with_reducible refine (pNote_any s _ y _ S1).mono ?_); rintro e' w3 ⟨rfl, bx⟩; rw [HJ.out]; have S1 := S1.next bx; have T1 := T1.next bx; have B1 := B1.below bx B1.lt; have B2 := B2.below bx B2.lt; have HB := btr HB HB.size bx; (try clear k0 k1 k2 k3 k4 r0 r1 r2 r3 r4 t0 t1 t2 t3 t4); have k0 := B1.cell_ 0; have r0 := B2.cell_ 0; have t0 := B2.free 0; have k1 := B1.cell_ 1; have r1 := B2.cell_ 1; have t1 := B2.free 1; have k2 := B1.cell_ 2; have r2 := B2.cell_ 2; have t2 := B2.free 2; have k3 := B1.cell_ 3; have r3 := B2.cell_ 3; have t3 := B2.free 3; have k4 := B1.cell_ 4; have r4 := B2.cell_ 4; have t4 := B2.free 4; simp at k0 k1 k2 k3 k4 r0 r1 r2 r3 r4; clear bx)) | (go_at_call 7; ((with_reducible refine (smay_any s _ _ S1 T1 _ HM.out).mono ?_); rintro e' w4 ⟨rfl, bx⟩; have S1 := S1.next bx; have T1 := T1.next bx; have B1 := B1.below bx B1.lt; have B2 := B2.below bx B2.lt; have HB := btr HB HB.size bx; (try clear k0 k1 k2 k3 k4 r0 r1 r2 r3 r4 t0 t1 t2 t3 t4); have k0 := B1.cell_ 0; have r0 := B2.cell_ 0; have t0 := B2.free 0; have k1 := B1.cell_ 1; have r1 := B2.cell_ 1; have t1 := B2.free 1; have k2 := B1.cell_ 2; have r2 := B2.cell_ 2; have t2 := B2.free 2; have k3 := B1.cell_ 3; have r3 := B2.cell_ 3; have t3 := B2.free 3; have k4 := B1.cell_ 4; have r4 := B2.cell_ 4; have t4 := B2.free 4; simp at k0 k1 k2 k3 k4 r0 r1 r2 r3 r4; clear bx)))
      have B2u := B2.st5_ (.int .i64 0) (.int .i64 0) (.int .i64 0) (.slice none 0 0) (.slice none 0 0)
      have hb2 := st5_below HB (g := w.heap.size + 1) (by omega) 0 (.int .i64 0) (.int .i64 0) (.int .i64 0) (.slice none 0 0) (.slice none 0 0)
      change bodyPost _ _ _ _ _ (st5 w4 (w.heap.size + 1) 0 (.int .i64 0) (.int .i64 0) (.int .i64 0) (.slice none 0 0) (.slice none 0 0))
      generalize st5 w4 (w.heap.size + 1) 0 (.int .i64 0) (.int .i64 0) (.int .i64 0) (.slice none 0 0) (.slice none 0 0) = Wd at B2u hb2 ⊢
      apply bodyPost_ret (v := .tuple #[.agg #[.int .i64 0, .int .i64 0, .int .i64 0, .slice none 0 0, .slice none 0 0], .int .i64 4])
      · exact results_cell1 Tryd.results14 _ Wd (w.heap.size + 1) 25 #[.int .i64 0, .int .i64 0, .int .i64 0, .slice none 0 0, .slice none 0 0] (0, 0) _ rfl B2u Tryd.underlying25 rfl (by kernel_rfl)
      · rfl
      · exact ⟨rfl, hb2⟩
    · by_cases hi : I < 0
      · obtain rfl : c = 4 := by simpa [hi, hj] using hc.symm
        clear hS0 hT hB hN hcb hmb hcn hmn hM hI hJ
        clear hc hne
        go_enter Tryd.func14, Tryd.ntmps14
        go_wp2_with (first | (go_at_call 35; ((with_reducible refine (pNote_any s _ y _ S1).mono ?_); rintro e' w3 ⟨rfl, bx⟩; rw [HJ.out]; have S1 := S1.next bx; have T1 := T1.next bx; have B1 := B1.below bx B1.lt; have B2 := B2.below bx B2.lt; have HB := btr HB HB.size bx; (try clear k0 k1 k2 k3 k4 r0 r1 r2 r3 r4 t0 t1 t2 t3 t4); have k0 := B1.cell_ 0; have r0 := B2.cell_ 0; have t0 := B2.free 0; have k1 := B1.cell_ 1; have r1 := B2.cell_ 1; have t1 := B2.free 1; have k2 := B1.cell_ 2; have r2 := B2.cell_ 2; have t2 := B2.free 2; have k3 := B1.cell_ 3; have r3 := B2.cell_ 3; have t3 := B2.free 3; have k4 := B1.cell_ 4; have r4 := B2.cell_ 4; have t4 := B2.free 4; simp at k0 k1 k2 k3 k4 r0 r1 r2 r3 r4; clear bx)) | (go_at_call 7; ((with_reducible refine (smay_any s _ _ S1 T1 _ HM.out).mono ?_); rintro e' w4 ⟨rfl, bx⟩; have S1 := S1.next bx; have T1 := T1.next bx; have B1 := B1.below bx B1.lt; have B2 := B2.below bx B2.lt; have HB := btr HB HB.size bx; (try clear k0 k1 k2 k3 k4 r0 r1 r2 r3 r4 t0 t1 t2 t3 t4); have k0 := B1.cell_ 0; have r0 := B2.cell_ 0; have t0 := B2.free 0; have k1 := B1.cell_ 1; have r1 := B2.cell_ 1; have t1 := B2.free 1; have k2 := B1.cell_ 2; have r2 := B2.cell_ 2; have t2 := B2.free 2; have k3 := B1.cell_ 3; have r3 := B2.cell_ 3; have t3 := B2.free 3; have k4 := B1.cell_ 4; have r4 := B2.cell_ 4; have t4 := B2.free 4; simp at k0 k1 k2 k3 k4 r0 r1 r2 r3 r4; clear bx)) | (go_at_call 28; ((with_reducible refine (pBook_any s _ z _ S1).mono ?_); rintro e' w5 ⟨rfl, bx⟩; rw [HI.out]; have S1 := S1.next bx; have T1 := T1.next bx; have B1 := B1.below bx B1.lt; have B2 := B2.below bx B2.lt; have HB := btr HB HB.size bx; (try clear k0 k1 k2 k3 k4 r0 r1 r2 r3 r4 t0 t1 t2 t3 t4); have k0 := B1.cell_ 0; have r0 := B2.cell_ 0; have t0 := B2.free 0; have k1 := B1.cell_ 1; have r1 := B2.cell_ 1; have t1 := B2.free 1; have k2 := B1.cell_ 2; have r2 := B2.cell_ 2; have t2 := B2.free 2; have k3 := B1.cell_ 3; have r3 := B2.cell_ 3; have t3 := B2.free 3; have k4 := B1.cell_ 4; have r4 := B2.cell_ 4; have t4 := B2.free 4; simp at k0 k1 k2 k3 k4 r0 r1 r2 r3 r4; clear bx)))
        have B2u := B2.st5_ (.int .i64 0) (.int .i64 0) (.int .i64 0) (.slice none 0 0) (.slice none 0 0)
        have hb2 := st5_below HB (g := w.heap.size + 1) (by omega) 0 (.int .i64 0) (.int .i64 0) (.int .i64 0) (.slice none 0 0) (.slice none 0 0)
        change bodyPost _ _ _ _ _ (st5 w5 (w.heap.size + 1) 0 (.int .i64 0) (.int .i64 0) (.int .i64 0) (.slice none 0 0) (.slice none 0 0))
        generalize st5 w5 (w.heap.size + 1) 0 (.int .i64 0) (.int .i64 0) (.int .i64 0) (.slice none 0 0) (.slice none 0 0) = Wd at B2u hb2 ⊢
        apply bodyPost_ret (v := .tuple #[.agg #[.int .i64 0, .int .i64 0, .int .i64 0, .slice none 0 0, .slice none 0 0], .int .i64 4])
        · exact results_cell1 Tryd.results14 _ Wd (w.heap.size + 1) 25 #[.int .i64 0, .int .i64 0, .int .i64 0, .slice none 0 0, .slice none 0 0] (0, 0) _ rfl B2u Tryd.underlying25 rfl (by kernel_rfl)
        · rfl
        · exact ⟨rfl, hb2⟩
      · obtain ⟨k, n, hk, hn, hid⟩ := noteAt_get (s := s) (x := y) (by omega)
        have hnm : nameAt s y = n.nm := by unfold nameAt; rw [hk]; simp [hn]
        rw [hnm] at hc
        have hK : noteTk s z n.nm y = true := by
          cases h : noteTk s z n.nm y
          · rw [h] at hc
            exact absurd (by simpa [hi, hj] using hc.symm) hne
          · rfl
        rw [hK] at hc
        obtain rfl : c = 7 := by simpa [hi, hj] using hc.symm
        have hJk : J = (k : Int) := hJ.symm.trans hk
        subst hJk
        obtain ⟨es, hel, hse, hnt⟩ := hN.ex
        have hkl : k < s.ts.length := (List.getElem?_eq_some_iff.1 hn).1
        obtain ⟨e0, he⟩ : ∃ e, es[k]? = some e := ⟨_, List.getElem?_eq_getElem (by omega)⟩
        obtain ⟨At, ct, As, cs, rfl, -⟩ := (hnt k n e0 hn he).ex
        obtain ⟨b1, o1, rfl, l1, q1⟩ := hse.at_ (by omega)
        have y2 := q1 k _ he 2 _ rfl
        have HK := Lib.hid hK
        have i0 : (0 : Int) ≤ (k : Int) := by omega
        have i1 : (k : Int) < (s.ts.length : Int) := by omega
        have i2 : ¬ (k : Int) < 0 := by omega
        clear hS0 hT hB hcb hmb hcn hmn hM hI hJ hnm hid hN hel hse hnt hn he q1 hkl hk
        clear hc hne
        go_enter Tryd.func14, Tryd.ntmps14
        go_upto_region 6 with (first | (go_at_call 35; ((with_reducible refine (pNote_any s _ y _ S1).mono ?_); rintro e' w3 ⟨rfl, bx⟩; rw [HJ.out]; have S1 := S1.next bx; have T1 := T1.next bx; have B1 := B1.below bx B1.lt; have B2 := B2.below bx B2.lt; have HB := btr HB HB.size bx; (try clear k0 k1 k2 k3 k4 r0 r1 r2 r3 r4 t0 t1 t2 t3 t4); have k0 := B1.cell_ 0; have r0 := B2.cell_ 0; have t0 := B2.free 0; have k1 := B1.cell_ 1; have r1 := B2.cell_ 1; have t1 := B2.free 1; have k2 := B1.cell_ 2; have r2 := B2.cell_ 2; have t2 := B2.free 2; have k3 := B1.cell_ 3; have r3 := B2.cell_ 3; have t3 := B2.free 3; have k4 := B1.cell_ 4; have r4 := B2.cell_ 4; have t4 := B2.free 4; simp at k0 k1 k2 k3 k4 r0 r1 r2 r3 r4; clear bx)) | (go_at_call 7; ((with_reducible refine (smay_any s _ _ S1 T1 _ HM.out).mono ?_); rintro e' w4 ⟨rfl, bx⟩; have S1 := S1.next bx; have T1 := T1.next bx; have B1 := B1.below bx B1.lt; have B2 := B2.below bx B2.lt; have HB := btr HB HB.size bx; (try clear k0 k1 k2 k3 k4 r0 r1 r2 r3 r4 t0 t1 t2 t3 t4); have k0 := B1.cell_ 0; have r0 := B2.cell_ 0; have t0 := B2.free 0; have k1 := B1.cell_ 1; have r1 := B2.cell_ 1; have t1 := B2.free 1; have k2 := B1.cell_ 2; have r2 := B2.cell_ 2; have t2 := B2.free 2; have k3 := B1.cell_ 3; have r3 := B2.cell_ 3; have t3 := B2.free 3; have k4 := B1.cell_ 4; have r4 := B2.cell_ 4; have t4 := B2.free 4; simp at k0 k1 k2 k3 k4 r0 r1 r2 r3 r4; clear bx)) | (go_at_call 28; ((with_reducible refine (pBook_any s _ z _ S1).mono ?_); rintro e' w5 ⟨rfl, bx⟩; rw [HI.out]; have S1 := S1.next bx; have T1 := T1.next bx; have B1 := B1.below bx B1.lt; have B2 := B2.below bx B2.lt; have HB := btr HB HB.size bx; (try clear k0 k1 k2 k3 k4 r0 r1 r2 r3 r4 t0 t1 t2 t3 t4); have k0 := B1.cell_ 0; have r0 := B2.cell_ 0; have t0 := B2.free 0; have k1 := B1.cell_ 1; have r1 := B2.cell_ 1; have t1 := B2.free 1; have k2 := B1.cell_ 2; have r2 := B2.cell_ 2; have t2 := B2.free 2; have k3 := B1.cell_ 3; have r3 := B2.cell_ 3; have t3 := B2.free 3; have k4 := B1.cell_ 4; have r4 := B2.cell_ 4; have t4 := B2.free 4; simp at k0 k1 k2 k3 k4 r0 r1 r2 r3 r4; clear bx)))
        have z2 := (HB.cell (p := ⟨b1, o1 + k * 5 + 2, none⟩) l1).trans y2
        have SD := S1.next (below_dr w5)
        have TD := T1.next (below_dr w5)
        have B1d := B1.below (below_dr w5) B1.lt
        have B2d := B2.below (below_dr w5) B2.lt
        have HBd := btr HB HB.size (below_dr w5)
        go_still_tail 9, (by kernel_rfl)
        change wpList _ _ _ _ _ w5.drew
        obtain ⟨wd, hwd⟩ : ∃ V : World, V = w5.drew := ⟨_, rfl⟩
        rw [← hwd] at SD TD B1d B2d HBd ⊢
        clear hwd S1 T1 B1 B2 HB z2 y2 k0 k1 k2 k3 k4 r0 r1 r2 r3 r4 t0 t1 t2 t3 t4
        have S1 := SD
        have T1 := TD
        have B1 := B1d
        have B2 := B2d
        have HB := HBd
        clear TD B1d B2d HBd
        go_wp2_with (go_at_call 37; ((with_reducible refine (nTaken_any s _ z n.nm y _ S1 _ HK.out).mono ?_); rintro e' w6 ⟨rfl, bx⟩; have S1 := S1.next bx; have T1 := T1.next bx; have B1 := B1.below bx B1.lt; have B2 := B2.below bx B2.lt; have HB := btr HB HB.size bx; (try clear k0 k1 k2 k3 k4 r0 r1 r2 r3 r4 t0 t1 t2 t3 t4); have k0 := B1.cell_ 0; have r0 := B2.cell_ 0; have t0 := B2.free 0; have k1 := B1.cell_ 1; have r1 := B2.cell_ 1; have t1 := B2.free 1; have k2 := B1.cell_ 2; have r2 := B2.cell_ 2; have t2 := B2.free 2; have k3 := B1.cell_ 3; have r3 := B2.cell_ 3; have t3 := B2.free 3; have k4 := B1.cell_ 4; have r4 := B2.cell_ 4; have t4 := B2.free 4; simp at k0 k1 k2 k3 k4 r0 r1 r2 r3 r4; clear bx))
        have B2u := B2.st5_ (.int .i64 0) (.int .i64 0) (.int .i64 0) (.slice none 0 0) (.slice none 0 0)
        have hb2 := st5_below HB (g := w.heap.size + 1) (by omega) 0 (.int .i64 0) (.int .i64 0) (.int .i64 0) (.slice none 0 0) (.slice none 0 0)
        change bodyPost _ _ _ _ _ (st5 w6 (w.heap.size + 1) 0 (.int .i64 0) (.int .i64 0) (.int .i64 0) (.slice none 0 0) (.slice none 0 0))
        generalize st5 w6 (w.heap.size + 1) 0 (.int .i64 0) (.int .i64 0) (.int .i64 0) (.slice none 0 0) (.slice none 0 0) = Wd at B2u hb2 ⊢
        apply bodyPost_ret (v := .tuple #[.agg #[.int .i64 0, .int .i64 0, .int .i64 0, .slice none 0 0, .slice none 0 0], .int .i64 7])
        · exact results_cell1 Tryd.results14 _ Wd (w.heap.size + 1) 25 #[.int .i64 0, .int .i64 0, .int .i64 0, .slice none 0 0, .slice none 0 0] (0, 0) _ rfl B2u Tryd.underlying25 rfl (by kernel_rfl)
        · rfl
        · exact ⟨rfl, hb2⟩
theorem mov_yes (s : Sf) (v : Value) (y z : Int) (w : World) (hS : ShR w w.heap.size v s) (hT : Tabs w) (hc : movC s y z = 0) :
    Calls Tryd.prog 14 #[v, .int .i64 y, .int .i64 z] w fun e' w' => ∃ v', e' = .returned (.tuple #[v', .int .i64 0]) ∧ ShW w' w.heap.size v' (movS s y z) ∧ Below w.heap.size w w' := by
  have hS0 := hS
  obtain ⟨Ab, cb, An, cn, rfl, hB, hN, hcb, hmb, hcn, hmn⟩ := hS.ex
  clear hS
  have HB : Below w.heap.size w ((w.alloc (.cells #[.int .i64 s.nb, .int .i64 s.nn, .int .i64 s.ns, .slice Ab s.bs.length cb, .slice An s.ts.length cn] 25)).alloc (.cells #[.int .i64 0, .int .i64 0, .int .i64 0, .slice none 0 0, .slice none 0 0] 25)) := (((Below.refl w.heap.size w).alloc (by first | (simp; done) | (simp; omega)) _).alloc (by first | (simp; done) | (simp; omega)) _)
  have B1 : Blk ((w.alloc (.cells #[.int .i64 s.nb, .int .i64 s.nn, .int .i64 s.ns, .slice Ab s.bs.length cb, .slice An s.ts.length cn] 25)).alloc (.cells #[.int .i64 0, .int .i64 0, .int .i64 0, .slice none 0 0, .slice none 0 0] 25)) w.heap.size 25 #[.int .i64 s.nb, .int .i64 s.nn, .int .i64 s.ns, .slice Ab s.bs.length cb, .slice An s.ts.length cn] := (Blk.new_ w 25 #[.int .i64 s.nb, .int .i64 s.nn, .int .i64 s.ns, .slice Ab s.bs.length cb, .slice An s.ts.length cn]).alloc_ (.cells #[.int .i64 0, .int .i64 0, .int .i64 0, .slice none 0 0, .slice none 0 0] 25)
  have B2 : Blk ((w.alloc (.cells #[.int .i64 s.nb, .int .i64 s.nn, .int .i64 s.ns, .slice Ab s.bs.length cb, .slice An s.ts.length cn] 25)).alloc (.cells #[.int .i64 0, .int .i64 0, .int .i64 0, .slice none 0 0, .slice none 0 0] 25)) (w.heap.size + 1) 25 #[.int .i64 0, .int .i64 0, .int .i64 0, .slice none 0 0, .slice none 0 0] := by
    have := Blk.new_ (w.alloc (.cells #[.int .i64 s.nb, .int .i64 s.nn, .int .i64 s.ns, .slice Ab s.bs.length cb, .slice An s.ts.length cn] 25)) 25 #[.int .i64 0, .int .i64 0, .int .i64 0, .slice none 0 0, .slice none 0 0]
    simpa using this
  have S1 : ShR ((w.alloc (.cells #[.int .i64 s.nb, .int .i64 s.nn, .int .i64 s.ns, .slice Ab s.bs.length cb, .slice An s.ts.length cn] 25)).alloc (.cells #[.int .i64 0, .int .i64 0, .int .i64 0, .slice none 0 0, .slice none 0 0] 25)) (((w.alloc (.cells #[.int .i64 s.nb, .int .i64 s.nn, .int .i64 s.ns, .slice Ab s.bs.length cb, .slice An s.ts.length cn] 25)).alloc (.cells #[.int .i64 0, .int .i64 0, .int .i64 0, .slice none 0 0, .slice none 0 0] 25))).heap.size (.agg #[.int .i64 s.nb, .int .i64 s.nn, .int .i64 s.ns, .slice Ab s.bs.length cb, .slice An s.ts.length cn]) s := hS0.next HB
  have T1 := hT.next HB
  obtain ⟨hM, hJ, hI, hK0⟩ : mayS s = true ∧ ¬ noteAt s y < 0 ∧ ¬ bookAt s z < 0 ∧ noteTk s z (nameAt s y) y = false := by
    unfold movC at hc
    cases h1 : mayS s <;> by_cases h2 : noteAt s y < 0 <;> by_cases h3 : bookAt s z < 0 <;> cases h4 : noteTk s z (nameAt s y) y <;> rw [h1] at hc <;> simp [h2, h3, h4] at hc ⊢
    all_goals exact ⟨Int.not_lt.1 h2, Int.not_lt.1 h3⟩
  obtain ⟨k, n, hk, hn, hid⟩ := noteAt_get (Int.not_lt.1 hJ)
  have hnm : nameAt s y = n.nm := by unfold nameAt; rw [hk]; simp [hn]
  have hK : noteTk s z n.nm y = false := by rw [← hnm]; exact hK0
  have HRS : Hid (movS s y z = { s with ts := s.ts.set k { n with bk := z } }) := Lib.hid (by unfold movS; rw [hk]; simp [hn])
  obtain ⟨I, hIe⟩ : ∃ I, bookAt s z = I := ⟨_, rfl⟩
  rw [hIe] at hI
  have HI := Lib.hid hIe
  have HJ := Lib.hid hk
  have HNN := Lib.hid hn
  obtain ⟨es, hel, hse, hnt⟩ := hN.ex
  have hkl : k < s.ts.length := (List.getElem?_eq_some_iff.1 hn).1
  obtain ⟨e0, he⟩ : ∃ e, es[k]? = some e := ⟨_, List.getElem?_eq_getElem (by omega)⟩
  obtain ⟨At, ct, As, cs, rfl, -⟩ := (hnt k n e0 hn he).ex
  obtain ⟨b1, o1, rfl, l1, q1⟩ := hse.at_ (by omega)
  have y2 := q1 k _ he 2 _ rfl
  have HK := Lib.hid hK
  have i0 : (0 : Int) ≤ (k : Int) := by omega
  have i1 : (k : Int) < (s.ts.length : Int) := by omega
  have i2 : ¬ (k : Int) < 0 := by omega
  have HKL := Lib.hid hkl
  have hMF := mayF_of hM
  have hlb : s.bs.length ≤ 100000 := by have := hMF.bl; omega
  have hln : s.ts.length ≤ 100000 := by have := hMF.tl; omega
  have HM := Lib.hid hM
  have HLB := Lib.hid hlb
  have HLN := Lib.hid hln
  have HLR := Lib.hid hMF.small
  clear hM hMF hc hlb hln
  clear hS0 hT hB hcb hmb hcn hmn hJ hIe hK0 hnm hid hN hel hse hnt hn he q1 hkl hk
  go_enter Tryd.func14, Tryd.ntmps14
  go_upto_region 6 with (first | (go_at_call 35; ((with_reducible refine (pNote_any s _ y _ S1).mono ?_); rintro e' w3 ⟨rfl, bx⟩; rw [HJ.out]; have S1 := S1.next bx; have T1 := T1.next bx; have B1 := B1.below bx B1.lt; have B2 := B2.below bx B2.lt; have HB := btr HB HB.size bx; (try clear k0 k1 k2 k3 k4 r0 r1 r2 r3 r4 t0 t1 t2 t3 t4); have k0 := B1.cell_ 0; have r0 := B2.cell_ 0; have t0 := B2.free 0; have k1 := B1.cell_ 1; have r1 := B2.cell_ 1; have t1 := B2.free 1; have k2 := B1.cell_ 2; have r2 := B2.cell_ 2; have t2 := B2.free 2; have k3 := B1.cell_ 3; have r3 := B2.cell_ 3; have t3 := B2.free 3; have k4 := B1.cell_ 4; have r4 := B2.cell_ 4; have t4 := B2.free 4; simp at k0 k1 k2 k3 k4 r0 r1 r2 r3 r4; clear bx)) | (go_at_call 7; ((with_reducible refine (smay_any s _ _ S1 T1 _ HM.out).mono ?_); rintro e' w4 ⟨rfl, bx⟩; have S1 := S1.next bx; have T1 := T1.next bx; have B1 := B1.below bx B1.lt; have B2 := B2.below bx B2.lt; have HB := btr HB HB.size bx; (try clear k0 k1 k2 k3 k4 r0 r1 r2 r3 r4 t0 t1 t2 t3 t4); have k0 := B1.cell_ 0; have r0 := B2.cell_ 0; have t0 := B2.free 0; have k1 := B1.cell_ 1; have r1 := B2.cell_ 1; have t1 := B2.free 1; have k2 := B1.cell_ 2; have r2 := B2.cell_ 2; have t2 := B2.free 2; have k3 := B1.cell_ 3; have r3 := B2.cell_ 3; have t3 := B2.free 3; have k4 := B1.cell_ 4; have r4 := B2.cell_ 4; have t4 := B2.free 4; simp at k0 k1 k2 k3 k4 r0 r1 r2 r3 r4; clear bx)) | (go_at_call 28; ((with_reducible refine (pBook_any s _ z _ S1).mono ?_); rintro e' w5 ⟨rfl, bx⟩; rw [HI.out]; have S1 := S1.next bx; have T1 := T1.next bx; have B1 := B1.below bx B1.lt; have B2 := B2.below bx B2.lt; have HB := btr HB HB.size bx; (try clear k0 k1 k2 k3 k4 r0 r1 r2 r3 r4 t0 t1 t2 t3 t4); have k0 := B1.cell_ 0; have r0 := B2.cell_ 0; have t0 := B2.free 0; have k1 := B1.cell_ 1; have r1 := B2.cell_ 1; have t1 := B2.free 1; have k2 := B1.cell_ 2; have r2 := B2.cell_ 2; have t2 := B2.free 2; have k3 := B1.cell_ 3; have r3 := B2.cell_ 3; have t3 := B2.free 3; have k4 := B1.cell_ 4; have r4 := B2.cell_ 4; have t4 := B2.free 4; simp at k0 k1 k2 k3 k4 r0 r1 r2 r3 r4; clear bx)))
  have z2 := (HB.cell (p := ⟨b1, o1 + k * 5 + 2, none⟩) l1).trans y2
  have SD := S1.next (below_dr w5)
  have TD := T1.next (below_dr w5)
  have B1d := B1.below (below_dr w5) B1.lt
  have B2d := B2.below (below_dr w5) B2.lt
  have HBd := btr HB HB.size (below_dr w5)
  go_still_tail 9, (by kernel_rfl)
  change wpList _ _ _ _ _ w5.drew
  obtain ⟨wd, hwd⟩ : ∃ V : World, V = w5.drew := ⟨_, rfl⟩
  rw [← hwd] at SD TD B1d B2d HBd ⊢
  clear hwd S1 T1 B1 B2 HB z2 y2 k0 k1 k2 k3 k4 r0 r1 r2 r3 r4 t0 t1 t2 t3 t4
  have S1 := SD
  have T1 := TD
  have B1 := B1d
  have B2 := B2d
  have HB := HBd
  clear TD B1d B2d HBd
  go_upto_region 8 with (go_at_call 37; ((with_reducible refine (nTaken_any s _ z n.nm y _ S1 _ HK.out).mono ?_); rintro e' w6 ⟨rfl, bx⟩; have S1 := S1.next bx; have T1 := T1.next bx; have B1 := B1.below bx B1.lt; have B2 := B2.below bx B2.lt; have HB := btr HB HB.size bx; (try clear k0 k1 k2 k3 k4 r0 r1 r2 r3 r4 t0 t1 t2 t3 t4); have k0 := B1.cell_ 0; have r0 := B2.cell_ 0; have t0 := B2.free 0; have k1 := B1.cell_ 1; have r1 := B2.cell_ 1; have t1 := B2.free 1; have k2 := B1.cell_ 2; have r2 := B2.cell_ 2; have t2 := B2.free 2; have k3 := B1.cell_ 3; have r3 := B2.cell_ 3; have t3 := B2.free 3; have k4 := B1.cell_ 4; have r4 := B2.cell_ 4; have t4 := B2.free 4; simp at k0 k1 k2 k3 k4 r0 r1 r2 r3 r4; clear bx))
  have hW5 : w.heap.size + 2 ≤ w6.heap.size := by have := B2.lt; omega
  go_upto_region 9 with (go_at_call 27; ((with_reducible refine (clone_any s _ _ S1 HLB.out HLN.out HLR.out).mono ?_); rintro e' w9 ⟨v6, rfl, hQ, b6⟩; obtain ⟨Ab6, cb6, An6, cn6, rfl, hBk, hNt, q1, q2, q3, q4⟩ := hQ.parts; have B1 := B1.below b6 B1.lt; have B2 := B2.below b6 B2.lt; have HB := btr HB HB.size b6; have hz6 := b6.size; (try clear k0 k1 k2 k3 k4 r0 r1 r2 r3 r4 t0 t1 t2 t3 t4); have k0 := B1.cell_ 0; have t0 := B1.free 0; have k1 := B1.cell_ 1; have t1 := B1.free 1; have k2 := B1.cell_ 2; have t2 := B1.free 2; have k3 := B1.cell_ 3; have t3 := B1.free 3; have k4 := B1.cell_ 4; have t4 := B1.free 4; simp at k0 k1 k2 k3 k4; clear b6 hQ S1 T1))
  have B1u := B1.st5_ (.int .i64 s.nb) (.int .i64 s.nn) (.int .i64 s.ns) (.slice Ab6 s.bs.length cb6) (.slice An6 s.ts.length cn6)
  have hg6 := st5_grown w9 w.heap.size 0 (.int .i64 s.nb) (.int .i64 s.nn) (.int .i64 s.ns) (.slice Ab6 s.bs.length cb6) (.slice An6 s.ts.length cn6)
  have B2u := B2.grown hg6 (by omega)
  have hBk2 := hBk.far hg6 (by omega)
  have hNt2 := hNt.far hg6 (by omega)
  have hb2 := below_grown HB hg6 (Nat.le_refl _) HB.size
  clear hg6
  obtain ⟨Wd, hWd⟩ : ∃ V : World, V = (st5 w9 w.heap.size 0 (.int .i64 s.nb) (.int .i64 s.nn) (.int .i64 s.ns) (.slice Ab6 s.bs.length cb6) (.slice An6 s.ts.length cn6)) := ⟨_, rfl⟩
  change Code.wp _ _ _ _ (st5 w9 w.heap.size 0 (.int .i64 s.nb) (.int .i64 s.nn) (.int .i64 s.ns) (.slice Ab6 s.bs.length cb6) (.slice An6 s.ts.length cn6))
  rw [← hWd] at B1u B2u hBk2 hNt2 hb2 ⊢
  clear hWd B1 B2 HB hBk hNt k0 k1 k2 k3 k4 t0 t1 t2 t3 t4 hz6
  have k0 := B1u.cell_ 0
  have k1 := B1u.cell_ 1
  have k2 := B1u.cell_ 2
  have k3 := B1u.cell_ 3
  have k4 := B1u.cell_ 4
  simp at k0 k1 k2 k3 k4
  obtain ⟨gb, hgb, hgb2⟩ : ∃ gb, An6 = some ⟨gb, 0, none⟩ ∧ w6.heap.size ≤ gb := by
    obtain ⟨es9, h8, h9, _⟩ := hNt2
    rcases h9.2 with ⟨h, h0⟩ | ⟨g, c, cu, h, hb, _⟩
    · have := HKL.out; omega
    · injection h with h1 h2 h3
      exact ⟨g, h1, hb⟩
  subst hgb
  have HW5 := Lib.hid hW5
  have hNt3 := hNt2
  obtain ⟨es9, h8, h9, h10⟩ := hNt3
  obtain ⟨u0, u1, u2, u3, u4, x0, x1, x2, x3, x4⟩ := five_cells h9 (es_five h8 h10) (k := k) (by have := HKL.out; omega)
  have f1 := World.ownsRow.frozenAt h9 (k * 5 + 1)
  go_upto_region 10 with fail
  obtain ⟨hNw, hgw⟩ := hNt2.book_ HNN.out z
  have B1w := B1u.grown hgw (by have := HW5.out; omega)
  have B2w := B2u.grown hgw (by have := HW5.out; omega)
  have hBw := hBk2.apartN h9 hgw
  have hbw := below_grown hb2 hgw (by have := HW5.out; omega) hb2.size
  obtain ⟨Wx, hWx⟩ : ∃ V : World, V = Wd.setCell ⟨gb, k * 5 + 1, none⟩ (.int .i64 z) := ⟨_, rfl⟩
  rw [← hWx] at hBw B1w B2w hNw hbw ⊢
  clear hWx hgw B1u B2u hNt2 hBk2 hb2 x0 x1 x2 x3 x4 f1 h8 h9 h10
  clear k0 k1 k2 k3 k4
  have k0 := B1w.cell_ 0
  have r0 := B2w.cell_ 0
  have t0 := B2w.free 0
  have k1 := B1w.cell_ 1
  have r1 := B2w.cell_ 1
  have t1 := B2w.free 1
  have k2 := B1w.cell_ 2
  have r2 := B2w.cell_ 2
  have t2 := B2w.free 2
  have k3 := B1w.cell_ 3
  have r3 := B2w.cell_ 3
  have t3 := B2w.free 3
  have k4 := B1w.cell_ 4
  have r4 := B2w.cell_ 4
  have t4 := B2w.free 4
  simp at k0 k1 k2 k3 k4 r0 r1 r2 r3 r4
  go_wp2_with fail
  have B2e := B2w.st5_ (.int .i64 s.nb) (.int .i64 s.nn) (.int .i64 s.ns) (.slice Ab6 s.bs.length cb6) (.slice (some ⟨gb, 0, none⟩) s.ts.length cn6)
  have hgE := st5_grown Wx (w.heap.size + 1) 0 (.int .i64 s.nb) (.int .i64 s.nn) (.int .i64 s.ns) (.slice Ab6 s.bs.length cb6) (.slice (some ⟨gb, 0, none⟩) s.ts.length cn6)
  have hBe := hBw.far hgE (by have := HW5.out; omega)
  have hNe := hNw.far hgE (by have := HW5.out; omega)
  have hbe := below_grown hbw hgE (by omega) hbw.size
  change bodyPost _ _ _ _ _ (st5 Wx (w.heap.size + 1) 0 (.int .i64 s.nb) (.int .i64 s.nn) (.int .i64 s.ns) (.slice Ab6 s.bs.length cb6) (.slice (some ⟨gb, 0, none⟩) s.ts.length cn6))
  clear hgE
  generalize st5 Wx (w.heap.size + 1) 0 (.int .i64 s.nb) (.int .i64 s.nn) (.int .i64 s.ns) (.slice Ab6 s.bs.length cb6) (.slice (some ⟨gb, 0, none⟩) s.ts.length cn6) = WF at B2e hBe hNe hbe ⊢
  apply bodyPost_ret (v := .tuple #[.agg #[.int .i64 s.nb, .int .i64 s.nn, .int .i64 s.ns, .slice Ab6 s.bs.length cb6, .slice (some ⟨gb, 0, none⟩) s.ts.length cn6], .int .i64 0])
  · exact results_cell1 Tryd.results14 _ WF (w.heap.size + 1) 25 _ (0, 0) _ rfl B2e Tryd.underlying25 rfl (by kernel_rfl)
  · rfl
  · exact ⟨_, rfl, ShW.base_ (by rw [HRS.out]; exact ShW.make (s := { s with ts := s.ts.set k { n with bk := z } }) (w := WF) (base := w6.heap.size) (vb := .slice Ab6 s.bs.length cb6) (vn := .slice (some ⟨gb, 0, none⟩) s.ts.length cn6) hBe hNe) (by have := HW5.out; omega), hbe⟩
end Go.Proofs.YtokhapafpjejaaaDoor
namespace Go.Proofs.YtokhapafpjejaaaDoor
open Go.ChangeShapes Go.WideShapes Go.ChangeAt Go.RowKit
attribute [local go_sem ↓] Go.wp_at_zero Go.wp_at_succ
structure MkF (s : Sf) (x : ByteArray) : Prop where
  may : MayF s
  nm : mayN x = true
  tk : bookTk s x 0 = false
  bl : s.bs.length < 6
  nb : s.nb < 65536
theorem mkF_of {s : Sf} {x : ByteArray} (hc : makeC s x = 0) : MkF s x := by
  have : mayS s = true ∧ mayN x = true ∧ bookTk s x 0 = false ∧ fullB s = false := by
    unfold makeC at hc
    cases h1 : mayS s <;> cases h2 : mayN x <;> cases h3 : bookTk s x 0 <;> cases h4 : fullB s <;> rw [h1] at hc <;> simp [h2, h3, h4] at hc ⊢
  obtain ⟨h1, h2, h3, h4⟩ := this
  unfold fullB at h4
  rw [Bool.or_eq_false_iff, decide_eq_false_iff_not, decide_eq_false_iff_not] at h4
  exact ⟨mayF_of h1, h2, h3, by omega, by omega⟩
theorem tkB_iff {s : Sf} {x : ByteArray} {y : Int} : bookTk s x y = false ↔ ∀ b ∈ s.bs, b.nm.toList = x.toList → b.id = y := by
  unfold bookTk
  rw [List.any_eq_false]
  constructor
  · intro h b hb he
    have := h b hb
    simpa [sameS, he] using this
  · intro h b hb
    simp only [sameS, Bool.and_eq_true, beq_iff_eq, bne_iff_ne, ne_eq, not_and, Decidable.not_not]
    exact h b hb
theorem tkN_iff {s : Sf} {z : Int} {x : ByteArray} {y : Int} : noteTk s z x y = false ↔ ∀ n ∈ s.ts, n.bk = z → n.nm.toList = x.toList → n.id = y := by
  unfold noteTk
  rw [List.any_eq_false]
  constructor
  · intro h n hn hb he
    have := h n hn
    simpa [sameS, he, hb] using this
  · intro h n hn
    simp only [sameS, Bool.and_eq_true, beq_iff_eq, bne_iff_ne, ne_eq, not_and, Decidable.not_not]
    exact h n hn
theorem mayNt_iff {s : Sf} {n : Nt} : mayNt s n = true ↔ mayN n.nm = true ∧ (∃ b ∈ s.bs, b.id = n.bk) ∧ noteTk s n.bk n.nm n.id = false ∧ mayTg n.tg = true := by
  unfold mayNt
  simp only [Bool.and_eq_true, Bool.not_eq_true', decide_eq_true_eq]
  rw [book_is]
theorem MkF.may2 {s : Sf} {x : ByteArray} (h : MkF s x) : MayF (makeS s x) := by
  have hF := h.may
  have hnb := hF.nb
  have hone : ∀ b ∈ s.bs, 0 < b.id ∧ b.id ≤ s.nb - 1 := fun b hb => ⟨(hF.bs b hb).1, (hF.bs b hb).2.1⟩
  have hno : ∀ b ∈ s.bs, b.nm.toList ≠ x.toList := fun b hb he => by
    have h1 := tkB_iff.1 h.tk b hb he
    have h2 := hone b hb
    omega
  have hlt := h.nb
  refine ⟨⟨by show 1 ≤ s.nb + 1; omega, by show s.nb + 1 ≤ 65536; omega⟩, hF.nn, hF.ns, by show (s.bs ++ [_]).length ≤ 6; rw [List.length_append]; have := h.bl; simp; omega, hF.tl, fun b hb => ?_, ?_, fun n hn => ⟨(hF.ts n hn).1, (hF.ts n hn).2.1, ?_⟩, hF.tord, hF.sh⟩
  · have hb' : b ∈ s.bs ++ [⟨s.nb, x⟩] := hb
    have htk : bookTk (makeS s x) b.nm b.id = false := by
      rw [tkB_iff]
      intro c hc he
      have hc' : c ∈ s.bs ++ [⟨s.nb, x⟩] := hc
      rcases List.mem_append.1 hb' with hb1 | hb1 <;> rcases List.mem_append.1 hc' with hc1 | hc1
      · exact hF.names hc1 hb1 he
      · rw [List.mem_singleton] at hc1
        subst hc1
        exact absurd he.symm (hno b hb1)
      · rw [List.mem_singleton] at hb1
        subst hb1
        exact absurd he (hno c hc1)
      · rw [List.mem_singleton] at hb1 hc1
        rw [hb1, hc1]
    rcases List.mem_append.1 hb' with hb1 | hb1
    · have h2 := hF.bs b hb1
      exact ⟨h2.1, by show b.id ≤ s.nb + 1 - 1; omega, h2.2.2.1, htk⟩
    · rw [List.mem_singleton] at hb1
      subst hb1
      exact ⟨by show 0 < s.nb; omega, by show s.nb ≤ s.nb + 1 - 1; omega, h.nm, htk⟩
  · show (s.bs ++ [(⟨s.nb, x⟩ : Bk)]).Pairwise _
    rw [List.pairwise_append]
    refine ⟨hF.bo, List.pairwise_singleton _ _, fun a ha b hb => ?_⟩
    rw [List.mem_singleton] at hb
    subst hb
    have := hone a ha
    show a.id < s.nb
    omega
  · obtain ⟨q1, ⟨b, hb, hbe⟩, q3, q4⟩ := mayNt_iff.1 (hF.ts n hn).2.2
    exact mayNt_iff.2 ⟨q1, ⟨b, List.mem_append_left _ hb, hbe⟩, q3, q4⟩
theorem MkF.drop {s : Sf} {x : ByteArray} (h : MkF s x) : dropC (makeS s x) s.nb = 0 ∧ { dropS (makeS s x) s.nb with nb := s.nb } = s := by
  have hF := h.may
  have h0 : 0 ≤ bookAt (makeS s x) s.nb := (book_is _).2 ⟨⟨s.nb, x⟩, List.mem_append_right _ (by simp), rfl⟩
  constructor
  · unfold dropC
    rw [mayS_conv h.may2, decide_eq_false (by omega)]
    rfl
  · have e1 : (s.bs ++ [(⟨s.nb, x⟩ : Bk)]).filter (fun b => !(b.id == s.nb)) = s.bs := by
      rw [List.filter_append]
      have : s.bs.filter (fun b => !(b.id == s.nb)) = s.bs := by
        rw [List.filter_eq_self]
        intro b hb
        have := (hF.bs b hb).2.1
        have hne : b.id ≠ s.nb := by omega
        simp [hne]
      rw [this]
      simp
    have e2 : s.ts.filter (fun n => !(n.bk == s.nb)) = s.ts := by
      rw [List.filter_eq_self]
      intro n hn
      obtain ⟨b, hb, he⟩ := (mayNt_iff.1 (hF.ts n hn).2.2).2.1
      have := (hF.bs b hb).2.1
      have hne : n.bk ≠ s.nb := by omega
      simp [hne]
    show (⟨s.nb, s.nn, s.ns, (s.bs ++ [(⟨s.nb, x⟩ : Bk)]).filter (fun b => !(b.id == s.nb)), s.ts.filter (fun n => !(n.bk == s.nb))⟩ : Sf) = s
    rw [e1, e2]
theorem renS_at {s : Sf} {y : Int} {x : ByteArray} {k : Nat} (h : bookAt s y = (k : Int)) : renS s y x = { s with bs := s.bs.set k ⟨y, x⟩ } := by
  unfold renS
  rw [h]
  rfl
theorem movS_at {s : Sf} {y z : Int} {k : Nat} {n : Nt} (h : noteAt s y = (k : Int)) (hn : s.ts[k]? = some n) : movS s y z = { s with ts := s.ts.set k { n with bk := z } } := by
  unfold movS
  rw [h]
  simp [hn]
structure RnF (s : Sf) (y : Int) (x : ByteArray) (k : Nat) (b : Bk) : Prop where
  may : MayF s
  at_ : bookAt s y = (k : Int)
  bk : s.bs[k]? = some b
  id : b.id = y
  nm : mayN x = true
  tk : bookTk s x y = false
theorem rnF_of {s : Sf} {y : Int} {x : ByteArray} (hc : renC s y x = 0) : ∃ k b, RnF s y x k b := by
  have : mayS s = true ∧ ¬ bookAt s y < 0 ∧ mayN x = true ∧ bookTk s x y = false := by
    unfold renC at hc
    cases h1 : mayS s <;> by_cases h2 : bookAt s y < 0 <;> cases h3 : mayN x <;> cases h4 : bookTk s x y <;> rw [h1] at hc <;> simp [h2, h3, h4] at hc ⊢
    all_goals exact Int.not_lt.1 h2
  obtain ⟨h1, h2, h3, h4⟩ := this
  obtain ⟨k, b, hk, hb, hid⟩ := bookAt_get (Int.not_lt.1 h2)
  exact ⟨k, b, mayF_of h1, hk, hb, hid, h3, h4⟩
theorem RnF.eq {s : Sf} {y : Int} {x : ByteArray} {k : Nat} {b : Bk} (h : RnF s y x k b) : renS s y x = { s with bs := s.bs.set k ⟨y, x⟩ } := by
  unfold renS
  rw [h.at_]
  rfl
theorem set_mem {α : Type} {l : List α} {k : Nat} {a c : α} (h : c ∈ l.set k a) : c = a ∨ ∃ j, j ≠ k ∧ l[j]? = some c := by
  obtain ⟨j, hj, he⟩ := List.mem_iff_getElem.1 h
  have h1 := List.getElem?_eq_getElem hj
  rw [he, List.getElem?_set] at h1
  split at h1
  · rename_i hjk
    left
    split at h1
    · exact (Option.some.inj h1).symm
    · cases h1
  · rename_i hjk
    exact Or.inr ⟨j, fun e => hjk e.symm, h1⟩
theorem set_ids {l : List Bk} {k : Nat} {b : Bk} {x : ByteArray} (hb : l[k]? = some b) : (l.set k ⟨b.id, x⟩).map Bk.id = l.map Bk.id := by
  rw [List.map_set]
  apply List.ext_getElem?
  intro j
  rw [List.getElem?_set, List.getElem?_map]
  split
  · rename_i h
    subst h
    rw [hb]
    have := (List.getElem?_eq_some_iff.1 hb).1
    simp [this]
  · rfl
theorem RnF.may2 {s : Sf} {y : Int} {x : ByteArray} {k : Nat} {b : Bk} (h : RnF s y x k b) : MayF (renS s y x) := by
  have hF := h.may
  rw [h.eq]
  have hbm := List.mem_of_getElem? h.bk
  have hids := set_ids (x := x) h.bk
  rw [h.id] at hids
  have hmem : ∀ c ∈ s.bs.set k ⟨y, x⟩, (c = ⟨y, x⟩) ∨ (c ∈ s.bs ∧ c.id ≠ y) := by
    intro c hc
    rcases set_mem hc with h1 | ⟨j, hj, he⟩
    · exact Or.inl h1
    · refine Or.inr ⟨List.mem_of_getElem? he, fun e => hj ?_⟩
      have hcb := hF.bidinj (List.mem_of_getElem? he) hbm (e.trans h.id.symm)
      obtain ⟨h1, e1⟩ := List.getElem?_eq_some_iff.1 he
      obtain ⟨h2, e2⟩ := List.getElem?_eq_some_iff.1 h.bk
      rcases Nat.lt_trichotomy j k with hlt | rfl | hlt
      · have := List.pairwise_iff_getElem.1 hF.bo j k h1 h2 hlt
        rw [e1, e2, hcb] at this
        omega
      · rfl
      · have := List.pairwise_iff_getElem.1 hF.bo k j h2 h1 hlt
        rw [e1, e2, hcb] at this
        omega
  refine ⟨hF.nb, hF.nn, hF.ns, by show (s.bs.set k _).length ≤ 6; rw [List.length_set]; exact hF.bl, hF.tl, fun c hc => ?_, ?_, fun n hn => ⟨(hF.ts n hn).1, (hF.ts n hn).2.1, ?_⟩, hF.tord, hF.sh⟩
  · have hc0 : c ∈ s.bs.set k ⟨y, x⟩ := hc
    have htk : bookTk { s with bs := s.bs.set k ⟨y, x⟩ } c.nm c.id = false := by
      rw [tkB_iff]
      intro d hd he
      rcases hmem d hd with rfl | ⟨hd1, hd2⟩ <;> rcases hmem c hc0 with rfl | ⟨hc1, hc2⟩
      · rfl
      · exact absurd (tkB_iff.1 h.tk c hc1 he.symm) hc2
      · exact absurd (tkB_iff.1 h.tk d hd1 he) hd2
      · exact hF.names hd1 hc1 he
    rcases hmem c hc0 with rfl | ⟨hc1, hc2⟩
    · have h2 := hF.bs b hbm
      rw [h.id] at h2
      exact ⟨h2.1, h2.2.1, h.nm, htk⟩
    · have h2 := hF.bs c hc1
      exact ⟨h2.1, h2.2.1, h2.2.2.1, htk⟩
  · have h1 : (s.bs.map Bk.id).Pairwise (· < ·) := List.pairwise_map.2 hF.bo
    rw [← hids] at h1
    exact List.pairwise_map.1 h1
  · obtain ⟨q1, ⟨c, hc, hce⟩, q3, q4⟩ := mayNt_iff.1 (hF.ts n hn).2.2
    have : n.bk ∈ (s.bs.set k ⟨y, x⟩).map Bk.id := by
      rw [hids]
      exact List.mem_map.2 ⟨c, hc, hce⟩
    obtain ⟨d, hd, hde⟩ := List.mem_map.1 this
    exact mayNt_iff.2 ⟨q1, ⟨d, hd, hde⟩, q3, q4⟩
theorem RnF.back {s : Sf} {y : Int} {x : ByteArray} {k : Nat} {b : Bk} (h : RnF s y x k b) : renC (renS s y x) y b.nm = 0 ∧ renS (renS s y x) y b.nm = s := by
  have hF := h.may
  have hbm := List.mem_of_getElem? h.bk
  have hids := set_ids (x := x) h.bk
  rw [h.id] at hids
  have hlt := (List.getElem?_eq_some_iff.1 h.bk).1
  have hidx : bookAt (renS s y x) y = (k : Int) := by
    have h1 : ∀ l : List Bk, idxP (fun b : Bk => b.id == y) l = idxP (fun i : Int => i == y) (l.map Bk.id) := by
      intro l
      unfold idxP
      rw [List.findIdx?_map]
      rfl
    show idxP _ (renS s y x).bs = _
    rw [h.eq, h1]
    show idxP _ ((s.bs.set k ⟨y, x⟩).map Bk.id) = _
    rw [hids, ← h1]
    exact h.at_
  constructor
  · unfold renC
    rw [mayS_conv h.may2, hidx, decide_eq_false (by omega), (hF.bs b hbm).2.2.1]
    have : bookTk (renS s y x) b.nm y = false := by
      rw [tkB_iff, h.eq]
      intro d hd he
      rcases set_mem hd with rfl | ⟨j, hj, hje⟩
      · rfl
      · have := hF.names (List.mem_of_getElem? hje) hbm he
        rw [this, h.id]
    rw [this]
    rfl
  · have : renS (renS s y x) y b.nm = { renS s y x with bs := (renS s y x).bs.set k ⟨y, b.nm⟩ } := renS_at hidx
    rw [this, h.eq]
    show ({ s with bs := (s.bs.set k ⟨y, x⟩).set k ⟨y, b.nm⟩ } : Sf) = s
    rw [List.set_set]
    have hbe : (⟨y, b.nm⟩ : Bk) = b := by rw [← h.id]
    rw [hbe]
    have : s.bs.set k b = s.bs := by
      obtain ⟨h1, e1⟩ := List.getElem?_eq_some_iff.1 h.bk
      rw [← e1]
      exact List.set_getElem_self h1
    rw [this]
structure MvF (s : Sf) (y z : Int) (k : Nat) (n : Nt) : Prop where
  may : MayF s
  at_ : noteAt s y = (k : Int)
  nt : s.ts[k]? = some n
  id : n.id = y
  bk : ∃ b ∈ s.bs, b.id = z
  tk : noteTk s z n.nm y = false
theorem mvF_of {s : Sf} {y z : Int} (hc : movC s y z = 0) : ∃ k n, MvF s y z k n := by
  have : mayS s = true ∧ ¬ noteAt s y < 0 ∧ ¬ bookAt s z < 0 ∧ noteTk s z (nameAt s y) y = false := by
    unfold movC at hc
    cases h1 : mayS s <;> by_cases h2 : noteAt s y < 0 <;> by_cases h3 : bookAt s z < 0 <;> cases h4 : noteTk s z (nameAt s y) y <;> rw [h1] at hc <;> simp [h2, h3, h4] at hc ⊢
    all_goals exact ⟨Int.not_lt.1 h2, Int.not_lt.1 h3⟩
  obtain ⟨h1, h2, h3, h4⟩ := this
  obtain ⟨k, n, hk, hn, hid⟩ := noteAt_get (Int.not_lt.1 h2)
  have hnm : nameAt s y = n.nm := by unfold nameAt; rw [hk]; simp [hn]
  rw [hnm] at h4
  exact ⟨k, n, mayF_of h1, hk, hn, hid, (book_is _).1 (Int.not_lt.1 h3), h4⟩
theorem MvF.eq {s : Sf} {y z : Int} {k : Nat} {n : Nt} (h : MvF s y z k n) : movS s y z = { s with ts := s.ts.set k { n with bk := z } } := by
  unfold movS
  rw [h.at_]
  simp [h.nt]
theorem setN_map {β : Type} {l : List Nt} {k : Nat} {n : Nt} {z : Int} (f : Nt → β) (hf : f { n with bk := z } = f n) (hn : l[k]? = some n) : (l.set k { n with bk := z }).map f = l.map f := by
  rw [List.map_set, hf]
  apply List.ext_getElem?
  intro j
  rw [List.getElem?_set, List.getElem?_map]
  split
  · rename_i h
    subst h
    rw [hn]
    have := (List.getElem?_eq_some_iff.1 hn).1
    simp [this]
  · rfl
theorem MvF.may2 {s : Sf} {y z : Int} {k : Nat} {n : Nt} (h : MvF s y z k n) : MayF (movS s y z) := by
  have hF := h.may
  rw [h.eq]
  have hnm := List.mem_of_getElem? h.nt
  have hmem : ∀ c ∈ s.ts.set k { n with bk := z }, (c = { n with bk := z }) ∨ (c ∈ s.ts ∧ c.id ≠ y) := by
    intro c hc
    rcases set_mem hc with h1 | ⟨j, hj, he⟩
    · exact Or.inl h1
    · refine Or.inr ⟨List.mem_of_getElem? he, fun e => hj ?_⟩
      have hcb := hF.idinj (List.mem_of_getElem? he) hnm (e.trans h.id.symm)
      obtain ⟨h1, e1⟩ := List.getElem?_eq_some_iff.1 he
      obtain ⟨h2, e2⟩ := List.getElem?_eq_some_iff.1 h.nt
      rcases Nat.lt_trichotomy j k with hlt | rfl | hlt
      · have := List.pairwise_iff_getElem.1 hF.tord j k h1 h2 hlt
        rw [e1, e2, hcb] at this
        omega
      · rfl
      · have := List.pairwise_iff_getElem.1 hF.tord k j h2 h1 hlt
        rw [e1, e2, hcb] at this
        omega
  obtain ⟨q1, q2, q3⟩ := (sh_iff _ _ _).1 hF.sh
  have hfm : (s.ts.set k { n with bk := z }).flatMap Nt.sh = s.ts.flatMap Nt.sh := by
    rw [List.flatMap_def, List.flatMap_def, setN_map Nt.sh rfl h.nt]
  refine ⟨hF.nb, hF.nn, hF.ns, hF.bl, by show (s.ts.set k _).length ≤ 12; rw [List.length_set]; exact hF.tl, hF.bs, hF.bo, fun c hc => ?_, ?_, ?_⟩
  · have hc0 : c ∈ s.ts.set k { n with bk := z } := hc
    have htk : ∀ c ∈ s.ts.set k { n with bk := z }, noteTk { s with ts := s.ts.set k { n with bk := z } } c.bk c.nm c.id = false := by
      intro c hc
      rw [tkN_iff]
      intro d hd hdb he
      rcases hmem d hd with rfl | ⟨hd1, hd2⟩ <;> rcases hmem c hc with rfl | ⟨hc1, hc2⟩
      · rfl
      · exact absurd (tkN_iff.1 h.tk c hc1 hdb.symm he.symm) hc2
      · exact absurd (tkN_iff.1 h.tk d hd1 hdb he) hd2
      · exact hF.nnames hd1 hc1 hdb he
    rcases hmem c hc0 with rfl | ⟨hc1, hc2⟩
    · have h2 := hF.ts n hnm
      obtain ⟨m1, m2, m3, m4⟩ := mayNt_iff.1 h2.2.2
      exact ⟨h2.1, h2.2.1, mayNt_iff.2 ⟨m1, h.bk, htk _ hc0, m4⟩⟩
    · have h2 := hF.ts c hc1
      obtain ⟨m1, m2, m3, m4⟩ := mayNt_iff.1 h2.2.2
      exact ⟨h2.1, h2.2.1, mayNt_iff.2 ⟨m1, m2, htk _ hc0, m4⟩⟩
  · have h1 : (s.ts.map Nt.id).Pairwise (· < ·) := List.pairwise_map.2 hF.tord
    rw [← setN_map Nt.id rfl h.nt (z := z)] at h1
    exact List.pairwise_map.1 h1
  · refine (sh_iff _ _ _).2 ⟨fun c hc => ?_, ?_, ?_⟩
    · rcases hmem c hc with rfl | ⟨hc1, _⟩
      · exact q1 n hnm
      · exact q1 c hc1
    · show ∀ x ∈ (s.ts.set k { n with bk := z }).flatMap Nt.sh, _
      rw [hfm]
      exact q2
    · show ((s.ts.set k { n with bk := z }).flatMap Nt.sh).Nodup
      rw [hfm]
      exact q3
theorem MvF.back {s : Sf} {y z : Int} {k : Nat} {n : Nt} (h : MvF s y z k n) : movC (movS s y z) y n.bk = 0 ∧ movS (movS s y z) y n.bk = s := by
  have hF := h.may
  have hnm := List.mem_of_getElem? h.nt
  have hlt := (List.getElem?_eq_some_iff.1 h.nt).1
  have hidx : noteAt (movS s y z) y = (k : Int) := by
    have h1 : ∀ l : List Nt, idxP (fun b : Nt => b.id == y) l = idxP (fun i : Int => i == y) (l.map Nt.id) := by
      intro l
      unfold idxP
      rw [List.findIdx?_map]
      rfl
    show idxP _ (movS s y z).ts = _
    rw [h.eq, h1]
    show idxP _ ((s.ts.set k { n with bk := z }).map Nt.id) = _
    rw [setN_map Nt.id rfl h.nt, ← h1]
    exact h.at_
  have hget : (movS s y z).ts[k]? = some { n with bk := z } := by
    rw [h.eq]
    show (s.ts.set k { n with bk := z })[k]? = _
    rw [List.getElem?_set_self hlt]
  have hnam : nameAt (movS s y z) y = n.nm := by
    unfold nameAt
    rw [hidx]
    simp [hget]
  obtain ⟨m1, m2, m3, m4⟩ := mayNt_iff.1 (hF.ts n hnm).2.2
  constructor
  · have hbk : 0 ≤ bookAt (movS s y z) n.bk := by
      rw [h.eq]
      exact (book_is (s := { s with ts := s.ts.set k { n with bk := z } }) _).2 m2
    have htk : noteTk (movS s y z) n.bk n.nm y = false := by
      rw [tkN_iff, h.eq]
      intro d hd hdb he
      rcases set_mem hd with rfl | ⟨j, hj, hje⟩
      · exact h.id
      · have := tkN_iff.1 m3 d (List.mem_of_getElem? hje) hdb he
        rw [this, h.id]
    unfold movC
    rw [mayS_conv h.may2, hidx, hnam, htk, decide_eq_false (by omega), decide_eq_false (by omega)]
    rfl
  · have : movS (movS s y z) y n.bk = { movS s y z with ts := (movS s y z).ts.set k { n with bk := n.bk } } := by
      have := movS_at (z := n.bk) hidx hget
      exact this
    rw [this, h.eq]
    show ({ s with ts := (s.ts.set k { n with bk := z }).set k { n with bk := n.bk } } : Sf) = s
    rw [List.set_set]
    have : s.ts.set k { n with bk := n.bk } = s.ts := by
      obtain ⟨h1, e1⟩ := List.getElem?_eq_some_iff.1 h.nt
      have e2 : ({ n with bk := n.bk } : Nt) = n := rfl
      rw [e2, ← e1]
      exact List.set_getElem_self h1
    rw [this]
end Go.Proofs.YtokhapafpjejaaaDoor
namespace Go.Proofs.YtokhapafpjejaaaDoor
open Go.ChangeShapes Go.WideShapes Go.ChangeAt Go.RowKit
attribute [local go_sem ↓] Go.wp_at_zero Go.wp_at_succ
def sfZ : Sf := ⟨0, 0, 0, [], []⟩
theorem ShR.zeroZ (w : World) : ShR w w.heap.size (.agg #[.int .i64 0, .int .i64 0, .int .i64 0, .slice none 0 0, .slice none 0 0]) sfZ := ⟨none, 0, none, 0, rfl, Or.inl rfl, ⟨[], rfl, Or.inl rfl, fun k n e h => by simp [sfZ] at h⟩, by decide, by decide, by decide, by decide⟩
theorem may_Z : mayS sfZ = false := by decide +kernel
theorem renC_Z (y : Int) (x : ByteArray) : renC sfZ y x = 2 := by unfold renC; rw [may_Z]; rfl
theorem ShW.out {w : World} {base : Nat} {v : Value} {s : Sf} (h : ShW w base v s) : ∃ (A1 : Option Addr) (c1 : Nat) (A2 : Option Addr) (c2 : Nat), v = .agg #[.int .i64 s.nb, .int .i64 s.nn, .int .i64 s.ns, .slice A1 s.bs.length c1, .slice A2 s.ts.length c2] ∧ ShR w w.heap.size (.agg #[.int .i64 s.nb, .int .i64 s.nn, .int .i64 s.ns, .slice A1 s.bs.length c1, .slice A2 s.ts.length c2]) s := by
  have h2 := h.toR
  obtain ⟨A1, c1, A2, c2, rfl, -⟩ := h.parts
  exact ⟨A1, c1, A2, c2, rfl, h2⟩
theorem bk_make (s : Sf) (v : Value) (x : ByteArray) (w : World) (hS : ShR w w.heap.size v s) (hT : Tabs w) (hc : makeC s x = 0) (q : Sf) (hq : makeS s x = q) : Calls Tryd.prog 9 #[v, .string x] w fun e' w' => ∃ A1 c1 A2 c2, e' = .returned (.tuple #[.agg #[.int .i64 q.nb, .int .i64 q.nn, .int .i64 q.ns, .slice A1 q.bs.length c1, .slice A2 q.ts.length c2], .int .i64 s.nb, .int .i64 0]) ∧ ShR w' w'.heap.size (.agg #[.int .i64 q.nb, .int .i64 q.nn, .int .i64 q.ns, .slice A1 q.bs.length c1, .slice A2 q.ts.length c2]) q ∧ Below w.heap.size w w' := by
  subst hq
  refine (make_yes s v x w hS hT hc).mono ?_
  rintro e' w' ⟨v', rfl, h1, h2⟩
  obtain ⟨A1, c1, A2, c2, rfl, h3⟩ := h1.out
  exact ⟨A1, c1, A2, c2, rfl, h3, h2⟩
theorem bk_drop (s : Sf) (v : Value) (x : ByteArray) (w : World) (q : Sf) (hq : makeS s x = q) (hS : ShR w w.heap.size v q) (hT : Tabs w) (hc : makeC s x = 0) : Calls Tryd.prog 10 #[v, .int .i64 s.nb] w fun e' w' => ∃ z A1 c1 A2 c2, e' = .returned (.tuple #[.agg #[.int .i64 z, .int .i64 s.nn, .int .i64 s.ns, .slice A1 s.bs.length c1, .slice A2 s.ts.length c2], .int .i64 0]) ∧ ShR w' w'.heap.size (.agg #[.int .i64 s.nb, .int .i64 s.nn, .int .i64 s.ns, .slice A1 s.bs.length c1, .slice A2 s.ts.length c2]) s ∧ Below w.heap.size w w' := by
  subst hq
  obtain ⟨d1, d2⟩ := (mkF_of hc).drop
  refine (drop_yes _ v s.nb w hS hT d1).mono ?_
  rintro e' w' ⟨v', rfl, h1, h2⟩
  obtain ⟨A1, c1, A2, c2, rfl, h3, h4, g1, g2, g3, g4⟩ := h1.toR.ex
  generalize hr : dropS (makeS s x) s.nb = r at *
  obtain ⟨z, rn, rs, rb, rt⟩ := r
  have a1 : rn = s.nn := congrArg Sf.nn d2
  have a2 : rs = s.ns := congrArg Sf.ns d2
  have a3 : rb = s.bs := congrArg Sf.bs d2
  have a4 : rt = s.ts := congrArg Sf.ts d2
  subst a1 a2 a3 a4
  exact ⟨z, A1, c1, A2, c2, rfl, ⟨A1, c1, A2, c2, rfl, h3, h4, g1, g2, g3, g4⟩, h2⟩
theorem bk_ren (s : Sf) (v : Value) (y : Int) (x : ByteArray) (w : World) (hS : ShR w w.heap.size v s) (hT : Tabs w) (hc : renC s y x = 0) (q : Sf) (hq : renS s y x = q) : Calls Tryd.prog 11 #[v, .int .i64 y, .string x] w fun e' w' => ∃ A1 c1 A2 c2, e' = .returned (.tuple #[.agg #[.int .i64 q.nb, .int .i64 q.nn, .int .i64 q.ns, .slice A1 q.bs.length c1, .slice A2 q.ts.length c2], .int .i64 0]) ∧ ShR w' w'.heap.size (.agg #[.int .i64 q.nb, .int .i64 q.nn, .int .i64 q.ns, .slice A1 q.bs.length c1, .slice A2 q.ts.length c2]) q ∧ Below w.heap.size w w' := by
  subst hq
  refine (ren_yes s v y x w hS hT hc).mono ?_
  rintro e' w' ⟨v', rfl, h1, h2⟩
  obtain ⟨A1, c1, A2, c2, rfl, h3⟩ := h1.out
  exact ⟨A1, c1, A2, c2, rfl, h3, h2⟩
theorem bk_mov (s : Sf) (v : Value) (y z : Int) (w : World) (hS : ShR w w.heap.size v s) (hT : Tabs w) (hc : movC s y z = 0) (q : Sf) (hq : movS s y z = q) : Calls Tryd.prog 14 #[v, .int .i64 y, .int .i64 z] w fun e' w' => ∃ A1 c1 A2 c2, e' = .returned (.tuple #[.agg #[.int .i64 q.nb, .int .i64 q.nn, .int .i64 q.ns, .slice A1 q.bs.length c1, .slice A2 q.ts.length c2], .int .i64 0]) ∧ ShR w' w'.heap.size (.agg #[.int .i64 q.nb, .int .i64 q.nn, .int .i64 q.ns, .slice A1 q.bs.length c1, .slice A2 q.ts.length c2]) q ∧ Below w.heap.size w w' := by
  subst hq
  refine (mov_yes s v y z w hS hT hc).mono ?_
  rintro e' w' ⟨v', rfl, h1, h2⟩
  obtain ⟨A1, c1, A2, c2, rfl, h3⟩ := h1.out
  exact ⟨A1, c1, A2, c2, rfl, h3, h2⟩
theorem MayF.lens {s : Sf} (h : MayF s) : s.bs.length ≤ 100000 ∧ s.ts.length ≤ 100000 ∧ ∀ n ∈ s.ts, n.tg.length ≤ 100000 ∧ n.sh.length ≤ 100000 := ⟨by have := h.bl; omega, by have := h.tl; omega, h.small⟩
theorem bk_same (s : Sf) (v1 v2 : Value) (w : World) (h1 : ShR w w.heap.size v1 s) (h2 : ShR w w.heap.size v2 s) (h : MayF s) : Calls Tryd.prog 12 #[v1, v2] w fun e' w' => e' = .returned (.bool true) ∧ Below w.heap.size w w' := sameShelf_yes s v1 v2 w h1 h2 h.lens.1 h.lens.2.1 h.lens.2.2
end Go.Proofs.YtokhapafpjejaaaDoor
namespace Go.Proofs.YtokhapafpjejaaaDoor
open Go.ChangeShapes Go.WideShapes Go.ChangeAt Go.RowKit
attribute [local go_sem ↓] Go.wp_at_zero Go.wp_at_succ
theorem back_walk (s : Sf) (v : Value) (x1 x2 : ByteArray) (y z : Int) (w : World) (hS : ShR w w.heap.size v s) (hy : i64in y) (hz : i64in z) (hT : Tabs w) :
    Calls Tryd.prog 3 #[v, .string x1, .string x2, .int .i64 y, .int .i64 z] w fun e' w' => e' = .returned (.bool true) ∧ Below w.heap.size w w' := by
  have hS0 := hS
  obtain ⟨Ab, cb, An, cn, rfl, hB, hN, hcb, hmb, hcn, hmn⟩ := hS.ex
  clear hS
  have HB : Below w.heap.size w (w.alloc (.cells #[.int .i64 s.nb, .int .i64 s.nn, .int .i64 s.ns, .slice Ab s.bs.length cb, .slice An s.ts.length cn] 25)) := ((Below.refl w.heap.size w).alloc (by first | (simp; done) | (simp; omega)) _)
  have B1 : Blk (w.alloc (.cells #[.int .i64 s.nb, .int .i64 s.nn, .int .i64 s.ns, .slice Ab s.bs.length cb, .slice An s.ts.length cn] 25)) w.heap.size 25 #[.int .i64 s.nb, .int .i64 s.nn, .int .i64 s.ns, .slice Ab s.bs.length cb, .slice An s.ts.length cn] := Blk.new_ w 25 #[.int .i64 s.nb, .int .i64 s.nn, .int .i64 s.ns, .slice Ab s.bs.length cb, .slice An s.ts.length cn]
  have S1 : ShR (w.alloc (.cells #[.int .i64 s.nb, .int .i64 s.nn, .int .i64 s.ns, .slice Ab s.bs.length cb, .slice An s.ts.length cn] 25)) ((w.alloc (.cells #[.int .i64 s.nb, .int .i64 s.nn, .int .i64 s.ns, .slice Ab s.bs.length cb, .slice An s.ts.length cn] 25))).heap.size (.agg #[.int .i64 s.nb, .int .i64 s.nn, .int .i64 s.ns, .slice Ab s.bs.length cb, .slice An s.ts.length cn]) s := hS0.next HB
  have T1 := hT.next HB
  obtain ⟨G, hG⟩ : ∃ G, greatS s = G := ⟨_, rfl⟩
  obtain ⟨M, hM⟩ : ∃ M, mayS s = M := ⟨_, rfl⟩
  have HG := Lib.hid hG
  have HM := Lib.hid hM
  clear hG hM hS0 hT hB hN hcb hmb hcn hmn
  cases G
  · by_cases hl1 : 60 < x1.size
    · have g1 : (60 : Int) < (x1.size : Int) := by omega
      clear hl1
      go_enter Tryd.func3, Tryd.ntmps3
      go_wp2_with (first | (go_at_call 6; ((with_reducible refine (greatShelf_any s _ _ S1 _ HG.out).mono ?_); rintro e' w2 ⟨rfl, bx⟩; have T1 := T1.next bx; have HB := btr HB HB.size bx; have B1 := B1.below bx B1.lt; have S1 := S1.next bx; (try clear ks0 ks1 ks2 ks3 ks4); have ks0 := B1.cell_ 0; have ks1 := B1.cell_ 1; have ks2 := B1.cell_ 2; have ks3 := B1.cell_ 3; have ks4 := B1.cell_ 4; simp at ks0 ks1 ks2 ks3 ks4; clear bx)) | (go_at_call 7; ((with_reducible refine (smay_any s _ _ S1 T1 _ HM.out).mono ?_); rintro e' w3 ⟨rfl, bx⟩; have T1 := T1.next bx; have HB := btr HB HB.size bx; have B1 := B1.below bx B1.lt; have S1 := S1.next bx; (try clear ks0 ks1 ks2 ks3 ks4); have ks0 := B1.cell_ 0; have ks1 := B1.cell_ 1; have ks2 := B1.cell_ 2; have ks3 := B1.cell_ 3; have ks4 := B1.cell_ 4; simp at ks0 ks1 ks2 ks3 ks4; clear bx)) | (go_at_call 8; ((with_reducible refine (awake_any _ T1).mono ?_); rintro e' wA ⟨rfl, bx⟩; have HB := btr HB HB.size bx)))
      go_ret
      exact ⟨rfl, HB⟩
    · have g1 : ¬ (60 : Int) < (x1.size : Int) := by omega
      clear hl1
      by_cases hl2 : 60 < x2.size
      · have g2 : (60 : Int) < (x2.size : Int) := by omega
        clear hl2
        go_enter Tryd.func3, Tryd.ntmps3
        go_wp2_with (first | (go_at_call 6; ((with_reducible refine (greatShelf_any s _ _ S1 _ HG.out).mono ?_); rintro e' w2 ⟨rfl, bx⟩; have T1 := T1.next bx; have HB := btr HB HB.size bx; have B1 := B1.below bx B1.lt; have S1 := S1.next bx; (try clear ks0 ks1 ks2 ks3 ks4); have ks0 := B1.cell_ 0; have ks1 := B1.cell_ 1; have ks2 := B1.cell_ 2; have ks3 := B1.cell_ 3; have ks4 := B1.cell_ 4; simp at ks0 ks1 ks2 ks3 ks4; clear bx)) | (go_at_call 7; ((with_reducible refine (smay_any s _ _ S1 T1 _ HM.out).mono ?_); rintro e' w3 ⟨rfl, bx⟩; have T1 := T1.next bx; have HB := btr HB HB.size bx; have B1 := B1.below bx B1.lt; have S1 := S1.next bx; (try clear ks0 ks1 ks2 ks3 ks4); have ks0 := B1.cell_ 0; have ks1 := B1.cell_ 1; have ks2 := B1.cell_ 2; have ks3 := B1.cell_ 3; have ks4 := B1.cell_ 4; simp at ks0 ks1 ks2 ks3 ks4; clear bx)) | (go_at_call 8; ((with_reducible refine (awake_any _ T1).mono ?_); rintro e' wA ⟨rfl, bx⟩; have HB := btr HB HB.size bx)))
        go_ret
        exact ⟨rfl, HB⟩
      · have g2 : ¬ (60 : Int) < (x2.size : Int) := by omega
        clear hl2
        cases M
        · skip
          go_enter Tryd.func3, Tryd.ntmps3
          go_wp2_with (first | (go_at_call 6; ((with_reducible refine (greatShelf_any s _ _ S1 _ HG.out).mono ?_); rintro e' w2 ⟨rfl, bx⟩; have T1 := T1.next bx; have HB := btr HB HB.size bx; have B1 := B1.below bx B1.lt; have S1 := S1.next bx; (try clear ks0 ks1 ks2 ks3 ks4); have ks0 := B1.cell_ 0; have ks1 := B1.cell_ 1; have ks2 := B1.cell_ 2; have ks3 := B1.cell_ 3; have ks4 := B1.cell_ 4; simp at ks0 ks1 ks2 ks3 ks4; clear bx)) | (go_at_call 7; ((with_reducible refine (smay_any s _ _ S1 T1 _ HM.out).mono ?_); rintro e' w3 ⟨rfl, bx⟩; have T1 := T1.next bx; have HB := btr HB HB.size bx; have B1 := B1.below bx B1.lt; have S1 := S1.next bx; (try clear ks0 ks1 ks2 ks3 ks4); have ks0 := B1.cell_ 0; have ks1 := B1.cell_ 1; have ks2 := B1.cell_ 2; have ks3 := B1.cell_ 3; have ks4 := B1.cell_ 4; simp at ks0 ks1 ks2 ks3 ks4; clear bx)) | (go_at_call 8; ((with_reducible refine (awake_any _ T1).mono ?_); rintro e' wA ⟨rfl, bx⟩; have HB := btr HB HB.size bx)))
          go_ret
          exact ⟨rfl, HB⟩
        · have HMF := Lib.hid (mayF_of HM.out)
          by_cases hmk : makeC s x1 = 0
          · have hmkf := mkF_of hmk
            obtain ⟨qa, hqa⟩ : ∃ q, makeS s x1 = q := ⟨_, rfl⟩
            have HC0 := Lib.hid hmk
            have HQA := Lib.hid hqa
            have HMA : Hid (MayF qa) := Lib.hid (by rw [← hqa]; exact hmkf.may2)
            by_cases hrn : renC qa s.nb x2 = 0
            · obtain ⟨kr, br, hrf⟩ := rnF_of hrn
              have hbn : br.nm = x1 := by
                have h1 := hrf.id
                have h2 : br ∈ s.bs ++ [⟨s.nb, x1⟩] := by have := List.mem_of_getElem? hrf.bk; rw [← hqa] at this; exact this
                rcases List.mem_append.1 h2 with h3 | h3
                · have := (HMF.out.bs br h3).2.1
                  omega
                · rw [List.mem_singleton] at h3
                  rw [h3]
              obtain ⟨qc, hqc⟩ : ∃ q, renS qa s.nb x2 = q := ⟨_, rfl⟩
              have HC1 := Lib.hid hrn
              have HQC := Lib.hid hqc
              have HC2 : Hid (renC qc s.nb x1 = 0) := Lib.hid (by rw [← hqc, ← hbn]; exact hrf.back.1)
              have HQD : Hid (renS qc s.nb x1 = qa) := Lib.hid (by rw [← hqc, ← hbn]; exact hrf.back.2)
              clear hmk hqa hrn hqc hrf hbn hmkf
              by_cases hna : noteAt s y < 0
              · have HNA := Lib.hid hna
                obtain ⟨er3, hc3e⟩ : ∃ c, movC s y z = c := ⟨_, rfl⟩
                have hc3 : er3 ≠ 0 := by
                  intro h0
                  obtain ⟨k, n, hk⟩ := mvF_of (hc3e.trans h0)
                  have := hk.at_
                  omega
                have HC3 := Lib.hid hc3e
                have hb3 : (er3 == (0 : Int)) = false := beq_eq_false_iff_ne.2 hc3
                clear hna hc3e
                go_enter Tryd.func3, Tryd.ntmps3
                go_wp2_with (first | (go_at_call 6; ((with_reducible refine (greatShelf_any s _ _ S1 _ HG.out).mono ?_); rintro e' w2 ⟨rfl, bx⟩; have T1 := T1.next bx; have HB := btr HB HB.size bx; have B1 := B1.below bx B1.lt; have S1 := S1.next bx; (try clear ks0 ks1 ks2 ks3 ks4); have ks0 := B1.cell_ 0; have ks1 := B1.cell_ 1; have ks2 := B1.cell_ 2; have ks3 := B1.cell_ 3; have ks4 := B1.cell_ 4; simp at ks0 ks1 ks2 ks3 ks4; clear bx)) | (go_at_call 7; ((with_reducible refine (smay_any s _ _ S1 T1 _ HM.out).mono ?_); rintro e' w3 ⟨rfl, bx⟩; have T1 := T1.next bx; have HB := btr HB HB.size bx; have B1 := B1.below bx B1.lt; have S1 := S1.next bx; (try clear ks0 ks1 ks2 ks3 ks4); have ks0 := B1.cell_ 0; have ks1 := B1.cell_ 1; have ks2 := B1.cell_ 2; have ks3 := B1.cell_ 3; have ks4 := B1.cell_ 4; simp at ks0 ks1 ks2 ks3 ks4; clear bx)) | (go_at_call 9; ((with_reducible refine (bk_make s _ x1 _ S1 T1 HC0.out qa HQA.out).mono ?_); rintro e' w4 ⟨A3, c3, A4, c4, rfl, hN, bq⟩; have AL : Below w4.heap.size w4 (w4.alloc (.cells #[.int .i64 qa.nb, .int .i64 qa.nn, .int .i64 qa.ns, .slice A3 qa.bs.length c3, .slice A4 qa.ts.length c4] 25)) := (Below.refl _ _).alloc (Nat.le_refl _) _; have Ba : Blk (w4.alloc (.cells #[.int .i64 qa.nb, .int .i64 qa.nn, .int .i64 qa.ns, .slice A3 qa.bs.length c3, .slice A4 qa.ts.length c4] 25)) w4.heap.size 25 #[.int .i64 qa.nb, .int .i64 qa.nn, .int .i64 qa.ns, .slice A3 qa.bs.length c3, .slice A4 qa.ts.length c4] := Blk.new_ w4 25 #[.int .i64 qa.nb, .int .i64 qa.nn, .int .i64 qa.ns, .slice A3 qa.bs.length c3, .slice A4 qa.ts.length c4]; have Sa := hN.next AL; have bx := btr bq bq.size AL; have T1 := T1.next bx; have HB := btr HB HB.size bx; have B1 := B1.below bx B1.lt; have S1 := S1.next bx; (try clear ks0 ks1 ks2 ks3 ks4); have ks0 := B1.cell_ 0; have ks1 := B1.cell_ 1; have ks2 := B1.cell_ 2; have ks3 := B1.cell_ 3; have ks4 := B1.cell_ 4; have ka0 := Ba.cell_ 0; have ka1 := Ba.cell_ 1; have ka2 := Ba.cell_ 2; have ka3 := Ba.cell_ 3; have ka4 := Ba.cell_ 4; simp at ks0 ks1 ks2 ks3 ks4 ka0 ka1 ka2 ka3 ka4; clear bx bq AL hN)) | (go_at_call 10; ((with_reducible refine (bk_drop s _ x1 _ qa HQA.out Sa T1 HC0.out).mono ?_); rintro e' w5 ⟨z5, A5, c5, A6, c6, rfl, hN, bq⟩; have kI := (B1.below (bq.trans (Below.mono ((Below.refl w5.heap.size w5).alloc (Nat.le_refl _) (.cells #[.int .i64 z5, .int .i64 s.nn, .int .i64 s.ns, .slice A5 s.bs.length c5, .slice A6 s.ts.length c6] 25)) bq.size)) B1.lt).cell_ 0; simp at kI; have AL : Below w5.heap.size w5 (w5.alloc (.cells #[.int .i64 s.nb, .int .i64 s.nn, .int .i64 s.ns, .slice A5 s.bs.length c5, .slice A6 s.ts.length c6] 25)) := (Below.refl _ _).alloc (Nat.le_refl _) _; have Bb : Blk (w5.alloc (.cells #[.int .i64 s.nb, .int .i64 s.nn, .int .i64 s.ns, .slice A5 s.bs.length c5, .slice A6 s.ts.length c6] 25)) w5.heap.size 25 #[.int .i64 s.nb, .int .i64 s.nn, .int .i64 s.ns, .slice A5 s.bs.length c5, .slice A6 s.ts.length c6] := Blk.new_ w5 25 #[.int .i64 s.nb, .int .i64 s.nn, .int .i64 s.ns, .slice A5 s.bs.length c5, .slice A6 s.ts.length c6]; have Sb := hN.next AL; have bx := btr bq bq.size AL; have T1 := T1.next bx; have HB := btr HB HB.size bx; have B1 := B1.below bx B1.lt; have S1 := S1.next bx; have Ba := Ba.below bx Ba.lt; have Sa := Sa.next bx; (try clear ks0 ks1 ks2 ks3 ks4 ka0 ka1 ka2 ka3 ka4); have ks0 := B1.cell_ 0; have ks1 := B1.cell_ 1; have ks2 := B1.cell_ 2; have ks3 := B1.cell_ 3; have ks4 := B1.cell_ 4; have ka0 := Ba.cell_ 0; have ka1 := Ba.cell_ 1; have ka2 := Ba.cell_ 2; have ka3 := Ba.cell_ 3; have ka4 := Ba.cell_ 4; have kb0 := Bb.cell_ 0; have kb1 := Bb.cell_ 1; have kb2 := Bb.cell_ 2; have kb3 := Bb.cell_ 3; have kb4 := Bb.cell_ 4; simp at ks0 ks1 ks2 ks3 ks4 ka0 ka1 ka2 ka3 ka4 kb0 kb1 kb2 kb3 kb4; clear bx bq AL hN)) | (go_at_call 11; ((with_reducible refine (bk_ren qa _ s.nb x2 _ Sa T1 HC1.out qc HQC.out).mono ?_); rintro e' w6 ⟨A7, c7, A8, c8, rfl, hN, bq⟩; have AL : Below w6.heap.size w6 (w6.alloc (.cells #[.int .i64 qc.nb, .int .i64 qc.nn, .int .i64 qc.ns, .slice A7 qc.bs.length c7, .slice A8 qc.ts.length c8] 25)) := (Below.refl _ _).alloc (Nat.le_refl _) _; have Bc : Blk (w6.alloc (.cells #[.int .i64 qc.nb, .int .i64 qc.nn, .int .i64 qc.ns, .slice A7 qc.bs.length c7, .slice A8 qc.ts.length c8] 25)) w6.heap.size 25 #[.int .i64 qc.nb, .int .i64 qc.nn, .int .i64 qc.ns, .slice A7 qc.bs.length c7, .slice A8 qc.ts.length c8] := Blk.new_ w6 25 #[.int .i64 qc.nb, .int .i64 qc.nn, .int .i64 qc.ns, .slice A7 qc.bs.length c7, .slice A8 qc.ts.length c8]; have Sc := hN.next AL; have bx := btr bq bq.size AL; have T1 := T1.next bx; have HB := btr HB HB.size bx; have B1 := B1.below bx B1.lt; have S1 := S1.next bx; have Ba := Ba.below bx Ba.lt; have Sa := Sa.next bx; have Bb := Bb.below bx Bb.lt; have Sb := Sb.next bx; (try clear ks0 ks1 ks2 ks3 ks4 ka0 ka1 ka2 ka3 ka4 kb0 kb1 kb2 kb3 kb4); have ks0 := B1.cell_ 0; have ks1 := B1.cell_ 1; have ks2 := B1.cell_ 2; have ks3 := B1.cell_ 3; have ks4 := B1.cell_ 4; have ka0 := Ba.cell_ 0; have ka1 := Ba.cell_ 1; have ka2 := Ba.cell_ 2; have ka3 := Ba.cell_ 3; have ka4 := Ba.cell_ 4; have kb0 := Bb.cell_ 0; have kb1 := Bb.cell_ 1; have kb2 := Bb.cell_ 2; have kb3 := Bb.cell_ 3; have kb4 := Bb.cell_ 4; have kc0 := Bc.cell_ 0; have kc1 := Bc.cell_ 1; have kc2 := Bc.cell_ 2; have kc3 := Bc.cell_ 3; have kc4 := Bc.cell_ 4; simp at ks0 ks1 ks2 ks3 ks4 ka0 ka1 ka2 ka3 ka4 kb0 kb1 kb2 kb3 kb4 kc0 kc1 kc2 kc3 kc4; clear bx bq AL hN)) | (go_at_call 11; ((with_reducible refine (bk_ren qc _ s.nb x1 _ Sc T1 HC2.out qa HQD.out).mono ?_); rintro e' w7 ⟨A9, c9, A10, c10, rfl, hN, bq⟩; have AL : Below w7.heap.size w7 (w7.alloc (.cells #[.int .i64 qa.nb, .int .i64 qa.nn, .int .i64 qa.ns, .slice A9 qa.bs.length c9, .slice A10 qa.ts.length c10] 25)) := (Below.refl _ _).alloc (Nat.le_refl _) _; have Bd : Blk (w7.alloc (.cells #[.int .i64 qa.nb, .int .i64 qa.nn, .int .i64 qa.ns, .slice A9 qa.bs.length c9, .slice A10 qa.ts.length c10] 25)) w7.heap.size 25 #[.int .i64 qa.nb, .int .i64 qa.nn, .int .i64 qa.ns, .slice A9 qa.bs.length c9, .slice A10 qa.ts.length c10] := Blk.new_ w7 25 #[.int .i64 qa.nb, .int .i64 qa.nn, .int .i64 qa.ns, .slice A9 qa.bs.length c9, .slice A10 qa.ts.length c10]; have Sd := hN.next AL; have bx := btr bq bq.size AL; have T1 := T1.next bx; have HB := btr HB HB.size bx; have B1 := B1.below bx B1.lt; have S1 := S1.next bx; have Ba := Ba.below bx Ba.lt; have Sa := Sa.next bx; have Bb := Bb.below bx Bb.lt; have Sb := Sb.next bx; have Bc := Bc.below bx Bc.lt; have Sc := Sc.next bx; (try clear ks0 ks1 ks2 ks3 ks4 ka0 ka1 ka2 ka3 ka4 kb0 kb1 kb2 kb3 kb4 kc0 kc1 kc2 kc3 kc4); have ks0 := B1.cell_ 0; have ks1 := B1.cell_ 1; have ks2 := B1.cell_ 2; have ks3 := B1.cell_ 3; have ks4 := B1.cell_ 4; have ka0 := Ba.cell_ 0; have ka1 := Ba.cell_ 1; have ka2 := Ba.cell_ 2; have ka3 := Ba.cell_ 3; have ka4 := Ba.cell_ 4; have kb0 := Bb.cell_ 0; have kb1 := Bb.cell_ 1; have kb2 := Bb.cell_ 2; have kb3 := Bb.cell_ 3; have kb4 := Bb.cell_ 4; have kc0 := Bc.cell_ 0; have kc1 := Bc.cell_ 1; have kc2 := Bc.cell_ 2; have kc3 := Bc.cell_ 3; have kc4 := Bc.cell_ 4; have kd0 := Bd.cell_ 0; have kd1 := Bd.cell_ 1; have kd2 := Bd.cell_ 2; have kd3 := Bd.cell_ 3; have kd4 := Bd.cell_ 4; simp at ks0 ks1 ks2 ks3 ks4 ka0 ka1 ka2 ka3 ka4 kb0 kb1 kb2 kb3 kb4 kc0 kc1 kc2 kc3 kc4 kd0 kd1 kd2 kd3 kd4; clear bx bq AL hN)) | (go_at_call 12; ((with_reducible refine (bk_same s _ _ _ Sb S1 HMF.out).mono ?_); rintro e' w8 ⟨rfl, bx⟩; have T1 := T1.next bx; have HB := btr HB HB.size bx; have B1 := B1.below bx B1.lt; have S1 := S1.next bx; have Ba := Ba.below bx Ba.lt; have Sa := Sa.next bx; have Bb := Bb.below bx Bb.lt; have Sb := Sb.next bx; have Bd := Bd.below bx Bd.lt; have Sd := Sd.next bx; (try clear ks0 ks1 ks2 ks3 ks4 ka0 ka1 ka2 ka3 ka4 kb0 kb1 kb2 kb3 kb4 kd0 kd1 kd2 kd3 kd4); have ks0 := B1.cell_ 0; have ks1 := B1.cell_ 1; have ks2 := B1.cell_ 2; have ks3 := B1.cell_ 3; have ks4 := B1.cell_ 4; have ka0 := Ba.cell_ 0; have ka1 := Ba.cell_ 1; have ka2 := Ba.cell_ 2; have ka3 := Ba.cell_ 3; have ka4 := Ba.cell_ 4; have kb0 := Bb.cell_ 0; have kb1 := Bb.cell_ 1; have kb2 := Bb.cell_ 2; have kb3 := Bb.cell_ 3; have kb4 := Bb.cell_ 4; have kd0 := Bd.cell_ 0; have kd1 := Bd.cell_ 1; have kd2 := Bd.cell_ 2; have kd3 := Bd.cell_ 3; have kd4 := Bd.cell_ 4; simp at ks0 ks1 ks2 ks3 ks4 ka0 ka1 ka2 ka3 ka4 kb0 kb1 kb2 kb3 kb4 kd0 kd1 kd2 kd3 kd4; clear bx)) | (go_at_call 12; ((with_reducible refine (bk_same qa _ _ _ Sd Sa HMA.out).mono ?_); rintro e' w9 ⟨rfl, bx⟩; have T1 := T1.next bx; have HB := btr HB HB.size bx; have B1 := B1.below bx B1.lt; have S1 := S1.next bx; (try clear ks0 ks1 ks2 ks3 ks4); have ks0 := B1.cell_ 0; have ks1 := B1.cell_ 1; have ks2 := B1.cell_ 2; have ks3 := B1.cell_ 3; have ks4 := B1.cell_ 4; simp at ks0 ks1 ks2 ks3 ks4; clear bx)) | (go_at_call 13; ((with_reducible refine (find_no s _ y _ S1 T1 _ HM.out (Or.inr HNA.out)).mono ?_); rintro e' w10 ⟨rfl, bq⟩; have AL : Below w10.heap.size w10 (w10.alloc (.cells #[.int .i64 0, .int .i64 0, .string ⟨#[]⟩, .slice none 0 0, .slice none 0 0] 38)) := (Below.refl _ _).alloc (Nat.le_refl _) _; have Bx : Blk (w10.alloc (.cells #[.int .i64 0, .int .i64 0, .string ⟨#[]⟩, .slice none 0 0, .slice none 0 0] 38)) w10.heap.size 38 #[.int .i64 0, .int .i64 0, .string ⟨#[]⟩, .slice none 0 0, .slice none 0 0] := Blk.new_ w10 38 #[.int .i64 0, .int .i64 0, .string ⟨#[]⟩, .slice none 0 0, .slice none 0 0]; have bx := btr bq bq.size AL; have T1 := T1.next bx; have HB := btr HB HB.size bx; have B1 := B1.below bx B1.lt; have S1 := S1.next bx; (try clear ks0 ks1 ks2 ks3 ks4); have ks0 := B1.cell_ 0; have ks1 := B1.cell_ 1; have ks2 := B1.cell_ 2; have ks3 := B1.cell_ 3; have ks4 := B1.cell_ 4; have kx0 := Bx.cell_ 0; have kx1 := Bx.cell_ 1; have kx2 := Bx.cell_ 2; have kx3 := Bx.cell_ 3; have kx4 := Bx.cell_ 4; simp at ks0 ks1 ks2 ks3 ks4 kx0 kx1 kx2 kx3 kx4; clear bx bq AL)) | (go_at_call 14; ((with_reducible refine (mov_no s _ y z _ S1 T1 er3 HC3.out hc3).mono ?_); rintro e' w11 ⟨rfl, bq⟩; have AL : Below w11.heap.size w11 (w11.alloc (.cells #[.int .i64 0, .int .i64 0, .int .i64 0, .slice none 0 0, .slice none 0 0] 25)) := (Below.refl _ _).alloc (Nat.le_refl _) _; have By : Blk (w11.alloc (.cells #[.int .i64 0, .int .i64 0, .int .i64 0, .slice none 0 0, .slice none 0 0] 25)) w11.heap.size 25 #[.int .i64 0, .int .i64 0, .int .i64 0, .slice none 0 0, .slice none 0 0] := Blk.new_ w11 25 #[.int .i64 0, .int .i64 0, .int .i64 0, .slice none 0 0, .slice none 0 0]; have bx := btr bq bq.size AL; have T1 := T1.next bx; have HB := btr HB HB.size bx; have B1 := B1.below bx B1.lt; have S1 := S1.next bx; (try clear ks0 ks1 ks2 ks3 ks4); have ks0 := B1.cell_ 0; have ks1 := B1.cell_ 1; have ks2 := B1.cell_ 2; have ks3 := B1.cell_ 3; have ks4 := B1.cell_ 4; have ky0 := By.cell_ 0; have ky1 := By.cell_ 1; have ky2 := By.cell_ 2; have ky3 := By.cell_ 3; have ky4 := By.cell_ 4; simp at ks0 ks1 ks2 ks3 ks4 ky0 ky1 ky2 ky3 ky4; clear bx bq AL)) | (go_at_call 8; ((with_reducible refine (awake_any _ T1).mono ?_); rintro e' wA ⟨rfl, bx⟩; have HB := btr HB HB.size bx)))
                go_ret
                exact ⟨rfl, HB⟩
              · obtain ⟨kn, n, hkn, hnn, hnid⟩ := noteAt_get (Int.not_lt.1 hna)
                have HNA := Lib.hid hkn
                have HNN := Lib.hid hnn
                by_cases hmv : movC s y z = 0
                · obtain ⟨k, n2, hmf⟩ := mvF_of hmv
                  have hkk : k = kn := by have := hmf.at_; omega
                  subst hkk
                  obtain rfl : n2 = n := Option.some.inj (hmf.nt.symm.trans hnn)
                  obtain ⟨qy, hqy⟩ : ∃ q, movS s y z = q := ⟨_, rfl⟩
                  have HC3 := Lib.hid hmv
                  have HQY := Lib.hid hqy
                  have HC4 : Hid (movC qy y n2.bk = 0) := Lib.hid (by rw [← hqy]; exact hmf.back.1)
                  have HQZ : Hid (movS qy y n2.bk = s) := Lib.hid (by rw [← hqy]; exact hmf.back.2)
                  clear hmv hqy hmf hkn hnn hnid hna
                  go_enter Tryd.func3, Tryd.ntmps3
                  go_wp2_with (first | (go_at_call 6; ((with_reducible refine (greatShelf_any s _ _ S1 _ HG.out).mono ?_); rintro e' w2 ⟨rfl, bx⟩; have T1 := T1.next bx; have HB := btr HB HB.size bx; have B1 := B1.below bx B1.lt; have S1 := S1.next bx; (try clear ks0 ks1 ks2 ks3 ks4); have ks0 := B1.cell_ 0; have ks1 := B1.cell_ 1; have ks2 := B1.cell_ 2; have ks3 := B1.cell_ 3; have ks4 := B1.cell_ 4; simp at ks0 ks1 ks2 ks3 ks4; clear bx)) | (go_at_call 7; ((with_reducible refine (smay_any s _ _ S1 T1 _ HM.out).mono ?_); rintro e' w3 ⟨rfl, bx⟩; have T1 := T1.next bx; have HB := btr HB HB.size bx; have B1 := B1.below bx B1.lt; have S1 := S1.next bx; (try clear ks0 ks1 ks2 ks3 ks4); have ks0 := B1.cell_ 0; have ks1 := B1.cell_ 1; have ks2 := B1.cell_ 2; have ks3 := B1.cell_ 3; have ks4 := B1.cell_ 4; simp at ks0 ks1 ks2 ks3 ks4; clear bx)) | (go_at_call 9; ((with_reducible refine (bk_make s _ x1 _ S1 T1 HC0.out qa HQA.out).mono ?_); rintro e' w4 ⟨A3, c3, A4, c4, rfl, hN, bq⟩; have AL : Below w4.heap.size w4 (w4.alloc (.cells #[.int .i64 qa.nb, .int .i64 qa.nn, .int .i64 qa.ns, .slice A3 qa.bs.length c3, .slice A4 qa.ts.length c4] 25)) := (Below.refl _ _).alloc (Nat.le_refl _) _; have Ba : Blk (w4.alloc (.cells #[.int .i64 qa.nb, .int .i64 qa.nn, .int .i64 qa.ns, .slice A3 qa.bs.length c3, .slice A4 qa.ts.length c4] 25)) w4.heap.size 25 #[.int .i64 qa.nb, .int .i64 qa.nn, .int .i64 qa.ns, .slice A3 qa.bs.length c3, .slice A4 qa.ts.length c4] := Blk.new_ w4 25 #[.int .i64 qa.nb, .int .i64 qa.nn, .int .i64 qa.ns, .slice A3 qa.bs.length c3, .slice A4 qa.ts.length c4]; have Sa := hN.next AL; have bx := btr bq bq.size AL; have T1 := T1.next bx; have HB := btr HB HB.size bx; have B1 := B1.below bx B1.lt; have S1 := S1.next bx; (try clear ks0 ks1 ks2 ks3 ks4); have ks0 := B1.cell_ 0; have ks1 := B1.cell_ 1; have ks2 := B1.cell_ 2; have ks3 := B1.cell_ 3; have ks4 := B1.cell_ 4; have ka0 := Ba.cell_ 0; have ka1 := Ba.cell_ 1; have ka2 := Ba.cell_ 2; have ka3 := Ba.cell_ 3; have ka4 := Ba.cell_ 4; simp at ks0 ks1 ks2 ks3 ks4 ka0 ka1 ka2 ka3 ka4; clear bx bq AL hN)) | (go_at_call 10; ((with_reducible refine (bk_drop s _ x1 _ qa HQA.out Sa T1 HC0.out).mono ?_); rintro e' w5 ⟨z5, A5, c5, A6, c6, rfl, hN, bq⟩; have kI := (B1.below (bq.trans (Below.mono ((Below.refl w5.heap.size w5).alloc (Nat.le_refl _) (.cells #[.int .i64 z5, .int .i64 s.nn, .int .i64 s.ns, .slice A5 s.bs.length c5, .slice A6 s.ts.length c6] 25)) bq.size)) B1.lt).cell_ 0; simp at kI; have AL : Below w5.heap.size w5 (w5.alloc (.cells #[.int .i64 s.nb, .int .i64 s.nn, .int .i64 s.ns, .slice A5 s.bs.length c5, .slice A6 s.ts.length c6] 25)) := (Below.refl _ _).alloc (Nat.le_refl _) _; have Bb : Blk (w5.alloc (.cells #[.int .i64 s.nb, .int .i64 s.nn, .int .i64 s.ns, .slice A5 s.bs.length c5, .slice A6 s.ts.length c6] 25)) w5.heap.size 25 #[.int .i64 s.nb, .int .i64 s.nn, .int .i64 s.ns, .slice A5 s.bs.length c5, .slice A6 s.ts.length c6] := Blk.new_ w5 25 #[.int .i64 s.nb, .int .i64 s.nn, .int .i64 s.ns, .slice A5 s.bs.length c5, .slice A6 s.ts.length c6]; have Sb := hN.next AL; have bx := btr bq bq.size AL; have T1 := T1.next bx; have HB := btr HB HB.size bx; have B1 := B1.below bx B1.lt; have S1 := S1.next bx; have Ba := Ba.below bx Ba.lt; have Sa := Sa.next bx; (try clear ks0 ks1 ks2 ks3 ks4 ka0 ka1 ka2 ka3 ka4); have ks0 := B1.cell_ 0; have ks1 := B1.cell_ 1; have ks2 := B1.cell_ 2; have ks3 := B1.cell_ 3; have ks4 := B1.cell_ 4; have ka0 := Ba.cell_ 0; have ka1 := Ba.cell_ 1; have ka2 := Ba.cell_ 2; have ka3 := Ba.cell_ 3; have ka4 := Ba.cell_ 4; have kb0 := Bb.cell_ 0; have kb1 := Bb.cell_ 1; have kb2 := Bb.cell_ 2; have kb3 := Bb.cell_ 3; have kb4 := Bb.cell_ 4; simp at ks0 ks1 ks2 ks3 ks4 ka0 ka1 ka2 ka3 ka4 kb0 kb1 kb2 kb3 kb4; clear bx bq AL hN)) | (go_at_call 11; ((with_reducible refine (bk_ren qa _ s.nb x2 _ Sa T1 HC1.out qc HQC.out).mono ?_); rintro e' w6 ⟨A7, c7, A8, c8, rfl, hN, bq⟩; have AL : Below w6.heap.size w6 (w6.alloc (.cells #[.int .i64 qc.nb, .int .i64 qc.nn, .int .i64 qc.ns, .slice A7 qc.bs.length c7, .slice A8 qc.ts.length c8] 25)) := (Below.refl _ _).alloc (Nat.le_refl _) _; have Bc : Blk (w6.alloc (.cells #[.int .i64 qc.nb, .int .i64 qc.nn, .int .i64 qc.ns, .slice A7 qc.bs.length c7, .slice A8 qc.ts.length c8] 25)) w6.heap.size 25 #[.int .i64 qc.nb, .int .i64 qc.nn, .int .i64 qc.ns, .slice A7 qc.bs.length c7, .slice A8 qc.ts.length c8] := Blk.new_ w6 25 #[.int .i64 qc.nb, .int .i64 qc.nn, .int .i64 qc.ns, .slice A7 qc.bs.length c7, .slice A8 qc.ts.length c8]; have Sc := hN.next AL; have bx := btr bq bq.size AL; have T1 := T1.next bx; have HB := btr HB HB.size bx; have B1 := B1.below bx B1.lt; have S1 := S1.next bx; have Ba := Ba.below bx Ba.lt; have Sa := Sa.next bx; have Bb := Bb.below bx Bb.lt; have Sb := Sb.next bx; (try clear ks0 ks1 ks2 ks3 ks4 ka0 ka1 ka2 ka3 ka4 kb0 kb1 kb2 kb3 kb4); have ks0 := B1.cell_ 0; have ks1 := B1.cell_ 1; have ks2 := B1.cell_ 2; have ks3 := B1.cell_ 3; have ks4 := B1.cell_ 4; have ka0 := Ba.cell_ 0; have ka1 := Ba.cell_ 1; have ka2 := Ba.cell_ 2; have ka3 := Ba.cell_ 3; have ka4 := Ba.cell_ 4; have kb0 := Bb.cell_ 0; have kb1 := Bb.cell_ 1; have kb2 := Bb.cell_ 2; have kb3 := Bb.cell_ 3; have kb4 := Bb.cell_ 4; have kc0 := Bc.cell_ 0; have kc1 := Bc.cell_ 1; have kc2 := Bc.cell_ 2; have kc3 := Bc.cell_ 3; have kc4 := Bc.cell_ 4; simp at ks0 ks1 ks2 ks3 ks4 ka0 ka1 ka2 ka3 ka4 kb0 kb1 kb2 kb3 kb4 kc0 kc1 kc2 kc3 kc4; clear bx bq AL hN)) | (go_at_call 11; ((with_reducible refine (bk_ren qc _ s.nb x1 _ Sc T1 HC2.out qa HQD.out).mono ?_); rintro e' w7 ⟨A9, c9, A10, c10, rfl, hN, bq⟩; have AL : Below w7.heap.size w7 (w7.alloc (.cells #[.int .i64 qa.nb, .int .i64 qa.nn, .int .i64 qa.ns, .slice A9 qa.bs.length c9, .slice A10 qa.ts.length c10] 25)) := (Below.refl _ _).alloc (Nat.le_refl _) _; have Bd : Blk (w7.alloc (.cells #[.int .i64 qa.nb, .int .i64 qa.nn, .int .i64 qa.ns, .slice A9 qa.bs.length c9, .slice A10 qa.ts.length c10] 25)) w7.heap.size 25 #[.int .i64 qa.nb, .int .i64 qa.nn, .int .i64 qa.ns, .slice A9 qa.bs.length c9, .slice A10 qa.ts.length c10] := Blk.new_ w7 25 #[.int .i64 qa.nb, .int .i64 qa.nn, .int .i64 qa.ns, .slice A9 qa.bs.length c9, .slice A10 qa.ts.length c10]; have Sd := hN.next AL; have bx := btr bq bq.size AL; have T1 := T1.next bx; have HB := btr HB HB.size bx; have B1 := B1.below bx B1.lt; have S1 := S1.next bx; have Ba := Ba.below bx Ba.lt; have Sa := Sa.next bx; have Bb := Bb.below bx Bb.lt; have Sb := Sb.next bx; have Bc := Bc.below bx Bc.lt; have Sc := Sc.next bx; (try clear ks0 ks1 ks2 ks3 ks4 ka0 ka1 ka2 ka3 ka4 kb0 kb1 kb2 kb3 kb4 kc0 kc1 kc2 kc3 kc4); have ks0 := B1.cell_ 0; have ks1 := B1.cell_ 1; have ks2 := B1.cell_ 2; have ks3 := B1.cell_ 3; have ks4 := B1.cell_ 4; have ka0 := Ba.cell_ 0; have ka1 := Ba.cell_ 1; have ka2 := Ba.cell_ 2; have ka3 := Ba.cell_ 3; have ka4 := Ba.cell_ 4; have kb0 := Bb.cell_ 0; have kb1 := Bb.cell_ 1; have kb2 := Bb.cell_ 2; have kb3 := Bb.cell_ 3; have kb4 := Bb.cell_ 4; have kc0 := Bc.cell_ 0; have kc1 := Bc.cell_ 1; have kc2 := Bc.cell_ 2; have kc3 := Bc.cell_ 3; have kc4 := Bc.cell_ 4; have kd0 := Bd.cell_ 0; have kd1 := Bd.cell_ 1; have kd2 := Bd.cell_ 2; have kd3 := Bd.cell_ 3; have kd4 := Bd.cell_ 4; simp at ks0 ks1 ks2 ks3 ks4 ka0 ka1 ka2 ka3 ka4 kb0 kb1 kb2 kb3 kb4 kc0 kc1 kc2 kc3 kc4 kd0 kd1 kd2 kd3 kd4; clear bx bq AL hN)) | (go_at_call 12; ((with_reducible refine (bk_same s _ _ _ Sb S1 HMF.out).mono ?_); rintro e' w8 ⟨rfl, bx⟩; have T1 := T1.next bx; have HB := btr HB HB.size bx; have B1 := B1.below bx B1.lt; have S1 := S1.next bx; have Ba := Ba.below bx Ba.lt; have Sa := Sa.next bx; have Bb := Bb.below bx Bb.lt; have Sb := Sb.next bx; have Bd := Bd.below bx Bd.lt; have Sd := Sd.next bx; (try clear ks0 ks1 ks2 ks3 ks4 ka0 ka1 ka2 ka3 ka4 kb0 kb1 kb2 kb3 kb4 kd0 kd1 kd2 kd3 kd4); have ks0 := B1.cell_ 0; have ks1 := B1.cell_ 1; have ks2 := B1.cell_ 2; have ks3 := B1.cell_ 3; have ks4 := B1.cell_ 4; have ka0 := Ba.cell_ 0; have ka1 := Ba.cell_ 1; have ka2 := Ba.cell_ 2; have ka3 := Ba.cell_ 3; have ka4 := Ba.cell_ 4; have kb0 := Bb.cell_ 0; have kb1 := Bb.cell_ 1; have kb2 := Bb.cell_ 2; have kb3 := Bb.cell_ 3; have kb4 := Bb.cell_ 4; have kd0 := Bd.cell_ 0; have kd1 := Bd.cell_ 1; have kd2 := Bd.cell_ 2; have kd3 := Bd.cell_ 3; have kd4 := Bd.cell_ 4; simp at ks0 ks1 ks2 ks3 ks4 ka0 ka1 ka2 ka3 ka4 kb0 kb1 kb2 kb3 kb4 kd0 kd1 kd2 kd3 kd4; clear bx)) | (go_at_call 12; ((with_reducible refine (bk_same qa _ _ _ Sd Sa HMA.out).mono ?_); rintro e' w9 ⟨rfl, bx⟩; have T1 := T1.next bx; have HB := btr HB HB.size bx; have B1 := B1.below bx B1.lt; have S1 := S1.next bx; (try clear ks0 ks1 ks2 ks3 ks4); have ks0 := B1.cell_ 0; have ks1 := B1.cell_ 1; have ks2 := B1.cell_ 2; have ks3 := B1.cell_ 3; have ks4 := B1.cell_ 4; simp at ks0 ks1 ks2 ks3 ks4; clear bx)) | (go_at_call 13; ((with_reducible refine (find_yes s _ y _ S1 T1 HM.out k n2 HNA.out HNN.out).mono ?_); rintro e' w10 ⟨v1, v2, rfl, p1, p2, bq⟩; obtain ⟨A11, c11, rfl, -, -⟩ := own_shape p1; obtain ⟨A12, c12, rfl, -, -⟩ := own_shape p2; clear p1 p2; have AL : Below w10.heap.size w10 (w10.alloc (.cells #[.int .i64 n2.id, .int .i64 n2.bk, .string n2.nm, .slice A11 n2.tg.length c11, .slice A12 n2.sh.length c12] 38)) := (Below.refl _ _).alloc (Nat.le_refl _) _; have Bx : Blk (w10.alloc (.cells #[.int .i64 n2.id, .int .i64 n2.bk, .string n2.nm, .slice A11 n2.tg.length c11, .slice A12 n2.sh.length c12] 38)) w10.heap.size 38 #[.int .i64 n2.id, .int .i64 n2.bk, .string n2.nm, .slice A11 n2.tg.length c11, .slice A12 n2.sh.length c12] := Blk.new_ w10 38 #[.int .i64 n2.id, .int .i64 n2.bk, .string n2.nm, .slice A11 n2.tg.length c11, .slice A12 n2.sh.length c12]; have bx := btr bq bq.size AL; have T1 := T1.next bx; have HB := btr HB HB.size bx; have B1 := B1.below bx B1.lt; have S1 := S1.next bx; (try clear ks0 ks1 ks2 ks3 ks4); have ks0 := B1.cell_ 0; have ks1 := B1.cell_ 1; have ks2 := B1.cell_ 2; have ks3 := B1.cell_ 3; have ks4 := B1.cell_ 4; have kx0 := Bx.cell_ 0; have kx1 := Bx.cell_ 1; have kx2 := Bx.cell_ 2; have kx3 := Bx.cell_ 3; have kx4 := Bx.cell_ 4; simp at ks0 ks1 ks2 ks3 ks4 kx0 kx1 kx2 kx3 kx4; clear bx bq AL)) | (go_at_call 14; ((with_reducible refine (bk_mov s _ y z _ S1 T1 HC3.out qy HQY.out).mono ?_); rintro e' w11 ⟨A13, c13, A14, c14, rfl, hN, bq⟩; have AL : Below w11.heap.size w11 (w11.alloc (.cells #[.int .i64 qy.nb, .int .i64 qy.nn, .int .i64 qy.ns, .slice A13 qy.bs.length c13, .slice A14 qy.ts.length c14] 25)) := (Below.refl _ _).alloc (Nat.le_refl _) _; have By : Blk (w11.alloc (.cells #[.int .i64 qy.nb, .int .i64 qy.nn, .int .i64 qy.ns, .slice A13 qy.bs.length c13, .slice A14 qy.ts.length c14] 25)) w11.heap.size 25 #[.int .i64 qy.nb, .int .i64 qy.nn, .int .i64 qy.ns, .slice A13 qy.bs.length c13, .slice A14 qy.ts.length c14] := Blk.new_ w11 25 #[.int .i64 qy.nb, .int .i64 qy.nn, .int .i64 qy.ns, .slice A13 qy.bs.length c13, .slice A14 qy.ts.length c14]; have Sy := hN.next AL; have bx := btr bq bq.size AL; have T1 := T1.next bx; have HB := btr HB HB.size bx; have B1 := B1.below bx B1.lt; have S1 := S1.next bx; have Bx := Bx.below bx Bx.lt; (try clear ks0 ks1 ks2 ks3 ks4 kx0 kx1 kx2 kx3 kx4); have ks0 := B1.cell_ 0; have ks1 := B1.cell_ 1; have ks2 := B1.cell_ 2; have ks3 := B1.cell_ 3; have ks4 := B1.cell_ 4; have kx0 := Bx.cell_ 0; have kx1 := Bx.cell_ 1; have kx2 := Bx.cell_ 2; have kx3 := Bx.cell_ 3; have kx4 := Bx.cell_ 4; have ky0 := By.cell_ 0; have ky1 := By.cell_ 1; have ky2 := By.cell_ 2; have ky3 := By.cell_ 3; have ky4 := By.cell_ 4; simp at ks0 ks1 ks2 ks3 ks4 kx0 kx1 kx2 kx3 kx4 ky0 ky1 ky2 ky3 ky4; clear bx bq AL hN)) | (go_at_call 14; ((with_reducible refine (bk_mov qy _ y n2.bk _ Sy T1 HC4.out s HQZ.out).mono ?_); rintro e' w12 ⟨A15, c15, A16, c16, rfl, hN, bq⟩; have AL : Below w12.heap.size w12 (w12.alloc (.cells #[.int .i64 s.nb, .int .i64 s.nn, .int .i64 s.ns, .slice A15 s.bs.length c15, .slice A16 s.ts.length c16] 25)) := (Below.refl _ _).alloc (Nat.le_refl _) _; have Bz : Blk (w12.alloc (.cells #[.int .i64 s.nb, .int .i64 s.nn, .int .i64 s.ns, .slice A15 s.bs.length c15, .slice A16 s.ts.length c16] 25)) w12.heap.size 25 #[.int .i64 s.nb, .int .i64 s.nn, .int .i64 s.ns, .slice A15 s.bs.length c15, .slice A16 s.ts.length c16] := Blk.new_ w12 25 #[.int .i64 s.nb, .int .i64 s.nn, .int .i64 s.ns, .slice A15 s.bs.length c15, .slice A16 s.ts.length c16]; have Sz := hN.next AL; have bx := btr bq bq.size AL; have T1 := T1.next bx; have HB := btr HB HB.size bx; have B1 := B1.below bx B1.lt; have S1 := S1.next bx; have Bx := Bx.below bx Bx.lt; (try clear ks0 ks1 ks2 ks3 ks4 kx0 kx1 kx2 kx3 kx4); have ks0 := B1.cell_ 0; have ks1 := B1.cell_ 1; have ks2 := B1.cell_ 2; have ks3 := B1.cell_ 3; have ks4 := B1.cell_ 4; have kx0 := Bx.cell_ 0; have kx1 := Bx.cell_ 1; have kx2 := Bx.cell_ 2; have kx3 := Bx.cell_ 3; have kx4 := Bx.cell_ 4; have kz0 := Bz.cell_ 0; have kz1 := Bz.cell_ 1; have kz2 := Bz.cell_ 2; have kz3 := Bz.cell_ 3; have kz4 := Bz.cell_ 4; simp at ks0 ks1 ks2 ks3 ks4 kx0 kx1 kx2 kx3 kx4 kz0 kz1 kz2 kz3 kz4; clear bx bq AL hN)) | (go_at_call 12; ((with_reducible refine (bk_same s _ _ _ Sz S1 HMF.out).mono ?_); rintro e' w13 ⟨rfl, bx⟩; have T1 := T1.next bx; have HB := btr HB HB.size bx; have B1 := B1.below bx B1.lt; have S1 := S1.next bx; (try clear ks0 ks1 ks2 ks3 ks4); have ks0 := B1.cell_ 0; have ks1 := B1.cell_ 1; have ks2 := B1.cell_ 2; have ks3 := B1.cell_ 3; have ks4 := B1.cell_ 4; simp at ks0 ks1 ks2 ks3 ks4; clear bx)) | (go_at_call 8; ((with_reducible refine (awake_any _ T1).mono ?_); rintro e' wA ⟨rfl, bx⟩; have HB := btr HB HB.size bx)))
                  go_ret
                  exact ⟨rfl, HB⟩
                · obtain ⟨er3, hc3e⟩ : ∃ c, movC s y z = c := ⟨_, rfl⟩
                  have hc3 : er3 ≠ 0 := by rw [← hc3e]; exact hmv
                  have HC3 := Lib.hid hc3e
                  have hb3 : (er3 == (0 : Int)) = false := beq_eq_false_iff_ne.2 hc3
                  clear hmv hc3e hkn hnn hnid hna
                  go_enter Tryd.func3, Tryd.ntmps3
                  go_wp2_with (first | (go_at_call 6; ((with_reducible refine (greatShelf_any s _ _ S1 _ HG.out).mono ?_); rintro e' w2 ⟨rfl, bx⟩; have T1 := T1.next bx; have HB := btr HB HB.size bx; have B1 := B1.below bx B1.lt; have S1 := S1.next bx; (try clear ks0 ks1 ks2 ks3 ks4); have ks0 := B1.cell_ 0; have ks1 := B1.cell_ 1; have ks2 := B1.cell_ 2; have ks3 := B1.cell_ 3; have ks4 := B1.cell_ 4; simp at ks0 ks1 ks2 ks3 ks4; clear bx)) | (go_at_call 7; ((with_reducible refine (smay_any s _ _ S1 T1 _ HM.out).mono ?_); rintro e' w3 ⟨rfl, bx⟩; have T1 := T1.next bx; have HB := btr HB HB.size bx; have B1 := B1.below bx B1.lt; have S1 := S1.next bx; (try clear ks0 ks1 ks2 ks3 ks4); have ks0 := B1.cell_ 0; have ks1 := B1.cell_ 1; have ks2 := B1.cell_ 2; have ks3 := B1.cell_ 3; have ks4 := B1.cell_ 4; simp at ks0 ks1 ks2 ks3 ks4; clear bx)) | (go_at_call 9; ((with_reducible refine (bk_make s _ x1 _ S1 T1 HC0.out qa HQA.out).mono ?_); rintro e' w4 ⟨A3, c3, A4, c4, rfl, hN, bq⟩; have AL : Below w4.heap.size w4 (w4.alloc (.cells #[.int .i64 qa.nb, .int .i64 qa.nn, .int .i64 qa.ns, .slice A3 qa.bs.length c3, .slice A4 qa.ts.length c4] 25)) := (Below.refl _ _).alloc (Nat.le_refl _) _; have Ba : Blk (w4.alloc (.cells #[.int .i64 qa.nb, .int .i64 qa.nn, .int .i64 qa.ns, .slice A3 qa.bs.length c3, .slice A4 qa.ts.length c4] 25)) w4.heap.size 25 #[.int .i64 qa.nb, .int .i64 qa.nn, .int .i64 qa.ns, .slice A3 qa.bs.length c3, .slice A4 qa.ts.length c4] := Blk.new_ w4 25 #[.int .i64 qa.nb, .int .i64 qa.nn, .int .i64 qa.ns, .slice A3 qa.bs.length c3, .slice A4 qa.ts.length c4]; have Sa := hN.next AL; have bx := btr bq bq.size AL; have T1 := T1.next bx; have HB := btr HB HB.size bx; have B1 := B1.below bx B1.lt; have S1 := S1.next bx; (try clear ks0 ks1 ks2 ks3 ks4); have ks0 := B1.cell_ 0; have ks1 := B1.cell_ 1; have ks2 := B1.cell_ 2; have ks3 := B1.cell_ 3; have ks4 := B1.cell_ 4; have ka0 := Ba.cell_ 0; have ka1 := Ba.cell_ 1; have ka2 := Ba.cell_ 2; have ka3 := Ba.cell_ 3; have ka4 := Ba.cell_ 4; simp at ks0 ks1 ks2 ks3 ks4 ka0 ka1 ka2 ka3 ka4; clear bx bq AL hN)) | (go_at_call 10; ((with_reducible refine (bk_drop s _ x1 _ qa HQA.out Sa T1 HC0.out).mono ?_); rintro e' w5 ⟨z5, A5, c5, A6, c6, rfl, hN, bq⟩; have kI := (B1.below (bq.trans (Below.mono ((Below.refl w5.heap.size w5).alloc (Nat.le_refl _) (.cells #[.int .i64 z5, .int .i64 s.nn, .int .i64 s.ns, .slice A5 s.bs.length c5, .slice A6 s.ts.length c6] 25)) bq.size)) B1.lt).cell_ 0; simp at kI; have AL : Below w5.heap.size w5 (w5.alloc (.cells #[.int .i64 s.nb, .int .i64 s.nn, .int .i64 s.ns, .slice A5 s.bs.length c5, .slice A6 s.ts.length c6] 25)) := (Below.refl _ _).alloc (Nat.le_refl _) _; have Bb : Blk (w5.alloc (.cells #[.int .i64 s.nb, .int .i64 s.nn, .int .i64 s.ns, .slice A5 s.bs.length c5, .slice A6 s.ts.length c6] 25)) w5.heap.size 25 #[.int .i64 s.nb, .int .i64 s.nn, .int .i64 s.ns, .slice A5 s.bs.length c5, .slice A6 s.ts.length c6] := Blk.new_ w5 25 #[.int .i64 s.nb, .int .i64 s.nn, .int .i64 s.ns, .slice A5 s.bs.length c5, .slice A6 s.ts.length c6]; have Sb := hN.next AL; have bx := btr bq bq.size AL; have T1 := T1.next bx; have HB := btr HB HB.size bx; have B1 := B1.below bx B1.lt; have S1 := S1.next bx; have Ba := Ba.below bx Ba.lt; have Sa := Sa.next bx; (try clear ks0 ks1 ks2 ks3 ks4 ka0 ka1 ka2 ka3 ka4); have ks0 := B1.cell_ 0; have ks1 := B1.cell_ 1; have ks2 := B1.cell_ 2; have ks3 := B1.cell_ 3; have ks4 := B1.cell_ 4; have ka0 := Ba.cell_ 0; have ka1 := Ba.cell_ 1; have ka2 := Ba.cell_ 2; have ka3 := Ba.cell_ 3; have ka4 := Ba.cell_ 4; have kb0 := Bb.cell_ 0; have kb1 := Bb.cell_ 1; have kb2 := Bb.cell_ 2; have kb3 := Bb.cell_ 3; have kb4 := Bb.cell_ 4; simp at ks0 ks1 ks2 ks3 ks4 ka0 ka1 ka2 ka3 ka4 kb0 kb1 kb2 kb3 kb4; clear bx bq AL hN)) | (go_at_call 11; ((with_reducible refine (bk_ren qa _ s.nb x2 _ Sa T1 HC1.out qc HQC.out).mono ?_); rintro e' w6 ⟨A7, c7, A8, c8, rfl, hN, bq⟩; have AL : Below w6.heap.size w6 (w6.alloc (.cells #[.int .i64 qc.nb, .int .i64 qc.nn, .int .i64 qc.ns, .slice A7 qc.bs.length c7, .slice A8 qc.ts.length c8] 25)) := (Below.refl _ _).alloc (Nat.le_refl _) _; have Bc : Blk (w6.alloc (.cells #[.int .i64 qc.nb, .int .i64 qc.nn, .int .i64 qc.ns, .slice A7 qc.bs.length c7, .slice A8 qc.ts.length c8] 25)) w6.heap.size 25 #[.int .i64 qc.nb, .int .i64 qc.nn, .int .i64 qc.ns, .slice A7 qc.bs.length c7, .slice A8 qc.ts.length c8] := Blk.new_ w6 25 #[.int .i64 qc.nb, .int .i64 qc.nn, .int .i64 qc.ns, .slice A7 qc.bs.length c7, .slice A8 qc.ts.length c8]; have Sc := hN.next AL; have bx := btr bq bq.size AL; have T1 := T1.next bx; have HB := btr HB HB.size bx; have B1 := B1.below bx B1.lt; have S1 := S1.next bx; have Ba := Ba.below bx Ba.lt; have Sa := Sa.next bx; have Bb := Bb.below bx Bb.lt; have Sb := Sb.next bx; (try clear ks0 ks1 ks2 ks3 ks4 ka0 ka1 ka2 ka3 ka4 kb0 kb1 kb2 kb3 kb4); have ks0 := B1.cell_ 0; have ks1 := B1.cell_ 1; have ks2 := B1.cell_ 2; have ks3 := B1.cell_ 3; have ks4 := B1.cell_ 4; have ka0 := Ba.cell_ 0; have ka1 := Ba.cell_ 1; have ka2 := Ba.cell_ 2; have ka3 := Ba.cell_ 3; have ka4 := Ba.cell_ 4; have kb0 := Bb.cell_ 0; have kb1 := Bb.cell_ 1; have kb2 := Bb.cell_ 2; have kb3 := Bb.cell_ 3; have kb4 := Bb.cell_ 4; have kc0 := Bc.cell_ 0; have kc1 := Bc.cell_ 1; have kc2 := Bc.cell_ 2; have kc3 := Bc.cell_ 3; have kc4 := Bc.cell_ 4; simp at ks0 ks1 ks2 ks3 ks4 ka0 ka1 ka2 ka3 ka4 kb0 kb1 kb2 kb3 kb4 kc0 kc1 kc2 kc3 kc4; clear bx bq AL hN)) | (go_at_call 11; ((with_reducible refine (bk_ren qc _ s.nb x1 _ Sc T1 HC2.out qa HQD.out).mono ?_); rintro e' w7 ⟨A9, c9, A10, c10, rfl, hN, bq⟩; have AL : Below w7.heap.size w7 (w7.alloc (.cells #[.int .i64 qa.nb, .int .i64 qa.nn, .int .i64 qa.ns, .slice A9 qa.bs.length c9, .slice A10 qa.ts.length c10] 25)) := (Below.refl _ _).alloc (Nat.le_refl _) _; have Bd : Blk (w7.alloc (.cells #[.int .i64 qa.nb, .int .i64 qa.nn, .int .i64 qa.ns, .slice A9 qa.bs.length c9, .slice A10 qa.ts.length c10] 25)) w7.heap.size 25 #[.int .i64 qa.nb, .int .i64 qa.nn, .int .i64 qa.ns, .slice A9 qa.bs.length c9, .slice A10 qa.ts.length c10] := Blk.new_ w7 25 #[.int .i64 qa.nb, .int .i64 qa.nn, .int .i64 qa.ns, .slice A9 qa.bs.length c9, .slice A10 qa.ts.length c10]; have Sd := hN.next AL; have bx := btr bq bq.size AL; have T1 := T1.next bx; have HB := btr HB HB.size bx; have B1 := B1.below bx B1.lt; have S1 := S1.next bx; have Ba := Ba.below bx Ba.lt; have Sa := Sa.next bx; have Bb := Bb.below bx Bb.lt; have Sb := Sb.next bx; have Bc := Bc.below bx Bc.lt; have Sc := Sc.next bx; (try clear ks0 ks1 ks2 ks3 ks4 ka0 ka1 ka2 ka3 ka4 kb0 kb1 kb2 kb3 kb4 kc0 kc1 kc2 kc3 kc4); have ks0 := B1.cell_ 0; have ks1 := B1.cell_ 1; have ks2 := B1.cell_ 2; have ks3 := B1.cell_ 3; have ks4 := B1.cell_ 4; have ka0 := Ba.cell_ 0; have ka1 := Ba.cell_ 1; have ka2 := Ba.cell_ 2; have ka3 := Ba.cell_ 3; have ka4 := Ba.cell_ 4; have kb0 := Bb.cell_ 0; have kb1 := Bb.cell_ 1; have kb2 := Bb.cell_ 2; have kb3 := Bb.cell_ 3; have kb4 := Bb.cell_ 4; have kc0 := Bc.cell_ 0; have kc1 := Bc.cell_ 1; have kc2 := Bc.cell_ 2; have kc3 := Bc.cell_ 3; have kc4 := Bc.cell_ 4; have kd0 := Bd.cell_ 0; have kd1 := Bd.cell_ 1; have kd2 := Bd.cell_ 2; have kd3 := Bd.cell_ 3; have kd4 := Bd.cell_ 4; simp at ks0 ks1 ks2 ks3 ks4 ka0 ka1 ka2 ka3 ka4 kb0 kb1 kb2 kb3 kb4 kc0 kc1 kc2 kc3 kc4 kd0 kd1 kd2 kd3 kd4; clear bx bq AL hN)) | (go_at_call 12; ((with_reducible refine (bk_same s _ _ _ Sb S1 HMF.out).mono ?_); rintro e' w8 ⟨rfl, bx⟩; have T1 := T1.next bx; have HB := btr HB HB.size bx; have B1 := B1.below bx B1.lt; have S1 := S1.next bx; have Ba := Ba.below bx Ba.lt; have Sa := Sa.next bx; have Bb := Bb.below bx Bb.lt; have Sb := Sb.next bx; have Bd := Bd.below bx Bd.lt; have Sd := Sd.next bx; (try clear ks0 ks1 ks2 ks3 ks4 ka0 ka1 ka2 ka3 ka4 kb0 kb1 kb2 kb3 kb4 kd0 kd1 kd2 kd3 kd4); have ks0 := B1.cell_ 0; have ks1 := B1.cell_ 1; have ks2 := B1.cell_ 2; have ks3 := B1.cell_ 3; have ks4 := B1.cell_ 4; have ka0 := Ba.cell_ 0; have ka1 := Ba.cell_ 1; have ka2 := Ba.cell_ 2; have ka3 := Ba.cell_ 3; have ka4 := Ba.cell_ 4; have kb0 := Bb.cell_ 0; have kb1 := Bb.cell_ 1; have kb2 := Bb.cell_ 2; have kb3 := Bb.cell_ 3; have kb4 := Bb.cell_ 4; have kd0 := Bd.cell_ 0; have kd1 := Bd.cell_ 1; have kd2 := Bd.cell_ 2; have kd3 := Bd.cell_ 3; have kd4 := Bd.cell_ 4; simp at ks0 ks1 ks2 ks3 ks4 ka0 ka1 ka2 ka3 ka4 kb0 kb1 kb2 kb3 kb4 kd0 kd1 kd2 kd3 kd4; clear bx)) | (go_at_call 12; ((with_reducible refine (bk_same qa _ _ _ Sd Sa HMA.out).mono ?_); rintro e' w9 ⟨rfl, bx⟩; have T1 := T1.next bx; have HB := btr HB HB.size bx; have B1 := B1.below bx B1.lt; have S1 := S1.next bx; (try clear ks0 ks1 ks2 ks3 ks4); have ks0 := B1.cell_ 0; have ks1 := B1.cell_ 1; have ks2 := B1.cell_ 2; have ks3 := B1.cell_ 3; have ks4 := B1.cell_ 4; simp at ks0 ks1 ks2 ks3 ks4; clear bx)) | (go_at_call 13; ((with_reducible refine (find_yes s _ y _ S1 T1 HM.out kn n HNA.out HNN.out).mono ?_); rintro e' w10 ⟨v1, v2, rfl, p1, p2, bq⟩; obtain ⟨A11, c11, rfl, -, -⟩ := own_shape p1; obtain ⟨A12, c12, rfl, -, -⟩ := own_shape p2; clear p1 p2; have AL : Below w10.heap.size w10 (w10.alloc (.cells #[.int .i64 n.id, .int .i64 n.bk, .string n.nm, .slice A11 n.tg.length c11, .slice A12 n.sh.length c12] 38)) := (Below.refl _ _).alloc (Nat.le_refl _) _; have Bx : Blk (w10.alloc (.cells #[.int .i64 n.id, .int .i64 n.bk, .string n.nm, .slice A11 n.tg.length c11, .slice A12 n.sh.length c12] 38)) w10.heap.size 38 #[.int .i64 n.id, .int .i64 n.bk, .string n.nm, .slice A11 n.tg.length c11, .slice A12 n.sh.length c12] := Blk.new_ w10 38 #[.int .i64 n.id, .int .i64 n.bk, .string n.nm, .slice A11 n.tg.length c11, .slice A12 n.sh.length c12]; have bx := btr bq bq.size AL; have T1 := T1.next bx; have HB := btr HB HB.size bx; have B1 := B1.below bx B1.lt; have S1 := S1.next bx; (try clear ks0 ks1 ks2 ks3 ks4); have ks0 := B1.cell_ 0; have ks1 := B1.cell_ 1; have ks2 := B1.cell_ 2; have ks3 := B1.cell_ 3; have ks4 := B1.cell_ 4; have kx0 := Bx.cell_ 0; have kx1 := Bx.cell_ 1; have kx2 := Bx.cell_ 2; have kx3 := Bx.cell_ 3; have kx4 := Bx.cell_ 4; simp at ks0 ks1 ks2 ks3 ks4 kx0 kx1 kx2 kx3 kx4; clear bx bq AL)) | (go_at_call 14; ((with_reducible refine (mov_no s _ y z _ S1 T1 er3 HC3.out hc3).mono ?_); rintro e' w11 ⟨rfl, bq⟩; have AL : Below w11.heap.size w11 (w11.alloc (.cells #[.int .i64 0, .int .i64 0, .int .i64 0, .slice none 0 0, .slice none 0 0] 25)) := (Below.refl _ _).alloc (Nat.le_refl _) _; have By : Blk (w11.alloc (.cells #[.int .i64 0, .int .i64 0, .int .i64 0, .slice none 0 0, .slice none 0 0] 25)) w11.heap.size 25 #[.int .i64 0, .int .i64 0, .int .i64 0, .slice none 0 0, .slice none 0 0] := Blk.new_ w11 25 #[.int .i64 0, .int .i64 0, .int .i64 0, .slice none 0 0, .slice none 0 0]; have bx := btr bq bq.size AL; have T1 := T1.next bx; have HB := btr HB HB.size bx; have B1 := B1.below bx B1.lt; have S1 := S1.next bx; (try clear ks0 ks1 ks2 ks3 ks4); have ks0 := B1.cell_ 0; have ks1 := B1.cell_ 1; have ks2 := B1.cell_ 2; have ks3 := B1.cell_ 3; have ks4 := B1.cell_ 4; have ky0 := By.cell_ 0; have ky1 := By.cell_ 1; have ky2 := By.cell_ 2; have ky3 := By.cell_ 3; have ky4 := By.cell_ 4; simp at ks0 ks1 ks2 ks3 ks4 ky0 ky1 ky2 ky3 ky4; clear bx bq AL)) | (go_at_call 8; ((with_reducible refine (awake_any _ T1).mono ?_); rintro e' wA ⟨rfl, bx⟩; have HB := btr HB HB.size bx)))
                  go_ret
                  exact ⟨rfl, HB⟩
            · obtain ⟨er1, hc1e⟩ : ∃ c, renC qa s.nb x2 = c := ⟨_, rfl⟩
              have hc1 : er1 ≠ 0 := by rw [← hc1e]; exact hrn
              have HC1 := Lib.hid hc1e
              have hb1 : (er1 == (0 : Int)) = false := beq_eq_false_iff_ne.2 hc1
              clear hmk hqa hrn hc1e hmkf
              by_cases hna : noteAt s y < 0
              · have HNA := Lib.hid hna
                obtain ⟨er3, hc3e⟩ : ∃ c, movC s y z = c := ⟨_, rfl⟩
                have hc3 : er3 ≠ 0 := by
                  intro h0
                  obtain ⟨k, n, hk⟩ := mvF_of (hc3e.trans h0)
                  have := hk.at_
                  omega
                have HC3 := Lib.hid hc3e
                have hb3 : (er3 == (0 : Int)) = false := beq_eq_false_iff_ne.2 hc3
                clear hna hc3e
                go_enter Tryd.func3, Tryd.ntmps3
                go_wp2_with (first | (go_at_call 6; ((with_reducible refine (greatShelf_any s _ _ S1 _ HG.out).mono ?_); rintro e' w2 ⟨rfl, bx⟩; have T1 := T1.next bx; have HB := btr HB HB.size bx; have B1 := B1.below bx B1.lt; have S1 := S1.next bx; (try clear ks0 ks1 ks2 ks3 ks4); have ks0 := B1.cell_ 0; have ks1 := B1.cell_ 1; have ks2 := B1.cell_ 2; have ks3 := B1.cell_ 3; have ks4 := B1.cell_ 4; simp at ks0 ks1 ks2 ks3 ks4; clear bx)) | (go_at_call 7; ((with_reducible refine (smay_any s _ _ S1 T1 _ HM.out).mono ?_); rintro e' w3 ⟨rfl, bx⟩; have T1 := T1.next bx; have HB := btr HB HB.size bx; have B1 := B1.below bx B1.lt; have S1 := S1.next bx; (try clear ks0 ks1 ks2 ks3 ks4); have ks0 := B1.cell_ 0; have ks1 := B1.cell_ 1; have ks2 := B1.cell_ 2; have ks3 := B1.cell_ 3; have ks4 := B1.cell_ 4; simp at ks0 ks1 ks2 ks3 ks4; clear bx)) | (go_at_call 9; ((with_reducible refine (bk_make s _ x1 _ S1 T1 HC0.out qa HQA.out).mono ?_); rintro e' w4 ⟨A3, c3, A4, c4, rfl, hN, bq⟩; have AL : Below w4.heap.size w4 (w4.alloc (.cells #[.int .i64 qa.nb, .int .i64 qa.nn, .int .i64 qa.ns, .slice A3 qa.bs.length c3, .slice A4 qa.ts.length c4] 25)) := (Below.refl _ _).alloc (Nat.le_refl _) _; have Ba : Blk (w4.alloc (.cells #[.int .i64 qa.nb, .int .i64 qa.nn, .int .i64 qa.ns, .slice A3 qa.bs.length c3, .slice A4 qa.ts.length c4] 25)) w4.heap.size 25 #[.int .i64 qa.nb, .int .i64 qa.nn, .int .i64 qa.ns, .slice A3 qa.bs.length c3, .slice A4 qa.ts.length c4] := Blk.new_ w4 25 #[.int .i64 qa.nb, .int .i64 qa.nn, .int .i64 qa.ns, .slice A3 qa.bs.length c3, .slice A4 qa.ts.length c4]; have Sa := hN.next AL; have bx := btr bq bq.size AL; have T1 := T1.next bx; have HB := btr HB HB.size bx; have B1 := B1.below bx B1.lt; have S1 := S1.next bx; (try clear ks0 ks1 ks2 ks3 ks4); have ks0 := B1.cell_ 0; have ks1 := B1.cell_ 1; have ks2 := B1.cell_ 2; have ks3 := B1.cell_ 3; have ks4 := B1.cell_ 4; have ka0 := Ba.cell_ 0; have ka1 := Ba.cell_ 1; have ka2 := Ba.cell_ 2; have ka3 := Ba.cell_ 3; have ka4 := Ba.cell_ 4; simp at ks0 ks1 ks2 ks3 ks4 ka0 ka1 ka2 ka3 ka4; clear bx bq AL hN)) | (go_at_call 10; ((with_reducible refine (bk_drop s _ x1 _ qa HQA.out Sa T1 HC0.out).mono ?_); rintro e' w5 ⟨z5, A5, c5, A6, c6, rfl, hN, bq⟩; have kI := (B1.below (bq.trans (Below.mono ((Below.refl w5.heap.size w5).alloc (Nat.le_refl _) (.cells #[.int .i64 z5, .int .i64 s.nn, .int .i64 s.ns, .slice A5 s.bs.length c5, .slice A6 s.ts.length c6] 25)) bq.size)) B1.lt).cell_ 0; simp at kI; have AL : Below w5.heap.size w5 (w5.alloc (.cells #[.int .i64 s.nb, .int .i64 s.nn, .int .i64 s.ns, .slice A5 s.bs.length c5, .slice A6 s.ts.length c6] 25)) := (Below.refl _ _).alloc (Nat.le_refl _) _; have Bb : Blk (w5.alloc (.cells #[.int .i64 s.nb, .int .i64 s.nn, .int .i64 s.ns, .slice A5 s.bs.length c5, .slice A6 s.ts.length c6] 25)) w5.heap.size 25 #[.int .i64 s.nb, .int .i64 s.nn, .int .i64 s.ns, .slice A5 s.bs.length c5, .slice A6 s.ts.length c6] := Blk.new_ w5 25 #[.int .i64 s.nb, .int .i64 s.nn, .int .i64 s.ns, .slice A5 s.bs.length c5, .slice A6 s.ts.length c6]; have Sb := hN.next AL; have bx := btr bq bq.size AL; have T1 := T1.next bx; have HB := btr HB HB.size bx; have B1 := B1.below bx B1.lt; have S1 := S1.next bx; have Ba := Ba.below bx Ba.lt; have Sa := Sa.next bx; (try clear ks0 ks1 ks2 ks3 ks4 ka0 ka1 ka2 ka3 ka4); have ks0 := B1.cell_ 0; have ks1 := B1.cell_ 1; have ks2 := B1.cell_ 2; have ks3 := B1.cell_ 3; have ks4 := B1.cell_ 4; have ka0 := Ba.cell_ 0; have ka1 := Ba.cell_ 1; have ka2 := Ba.cell_ 2; have ka3 := Ba.cell_ 3; have ka4 := Ba.cell_ 4; have kb0 := Bb.cell_ 0; have kb1 := Bb.cell_ 1; have kb2 := Bb.cell_ 2; have kb3 := Bb.cell_ 3; have kb4 := Bb.cell_ 4; simp at ks0 ks1 ks2 ks3 ks4 ka0 ka1 ka2 ka3 ka4 kb0 kb1 kb2 kb3 kb4; clear bx bq AL hN)) | (go_at_call 11; ((with_reducible refine (ren_no qa _ s.nb x2 _ Sa T1 er1 HC1.out hc1).mono ?_); rintro e' w6 ⟨rfl, bq⟩; have AL : Below w6.heap.size w6 (w6.alloc (.cells #[.int .i64 0, .int .i64 0, .int .i64 0, .slice none 0 0, .slice none 0 0] 25)) := (Below.refl _ _).alloc (Nat.le_refl _) _; have Bc : Blk (w6.alloc (.cells #[.int .i64 0, .int .i64 0, .int .i64 0, .slice none 0 0, .slice none 0 0] 25)) w6.heap.size 25 #[.int .i64 0, .int .i64 0, .int .i64 0, .slice none 0 0, .slice none 0 0] := Blk.new_ w6 25 #[.int .i64 0, .int .i64 0, .int .i64 0, .slice none 0 0, .slice none 0 0]; have bx := btr bq bq.size AL; have T1 := T1.next bx; have HB := btr HB HB.size bx; have B1 := B1.below bx B1.lt; have S1 := S1.next bx; have Ba := Ba.below bx Ba.lt; have Sa := Sa.next bx; have Bb := Bb.below bx Bb.lt; have Sb := Sb.next bx; (try clear ks0 ks1 ks2 ks3 ks4 ka0 ka1 ka2 ka3 ka4 kb0 kb1 kb2 kb3 kb4); have ks0 := B1.cell_ 0; have ks1 := B1.cell_ 1; have ks2 := B1.cell_ 2; have ks3 := B1.cell_ 3; have ks4 := B1.cell_ 4; have ka0 := Ba.cell_ 0; have ka1 := Ba.cell_ 1; have ka2 := Ba.cell_ 2; have ka3 := Ba.cell_ 3; have ka4 := Ba.cell_ 4; have kb0 := Bb.cell_ 0; have kb1 := Bb.cell_ 1; have kb2 := Bb.cell_ 2; have kb3 := Bb.cell_ 3; have kb4 := Bb.cell_ 4; have kc0 := Bc.cell_ 0; have kc1 := Bc.cell_ 1; have kc2 := Bc.cell_ 2; have kc3 := Bc.cell_ 3; have kc4 := Bc.cell_ 4; simp at ks0 ks1 ks2 ks3 ks4 ka0 ka1 ka2 ka3 ka4 kb0 kb1 kb2 kb3 kb4 kc0 kc1 kc2 kc3 kc4; clear bx bq AL)) | (go_at_call 11; ((with_reducible refine (ren_no sfZ _ s.nb x1 _ (ShR.zeroZ _) T1 2 (renC_Z _ _) (by decide)).mono ?_); rintro e' w7 ⟨rfl, bq⟩; have AL : Below w7.heap.size w7 (w7.alloc (.cells #[.int .i64 0, .int .i64 0, .int .i64 0, .slice none 0 0, .slice none 0 0] 25)) := (Below.refl _ _).alloc (Nat.le_refl _) _; have Bd : Blk (w7.alloc (.cells #[.int .i64 0, .int .i64 0, .int .i64 0, .slice none 0 0, .slice none 0 0] 25)) w7.heap.size 25 #[.int .i64 0, .int .i64 0, .int .i64 0, .slice none 0 0, .slice none 0 0] := Blk.new_ w7 25 #[.int .i64 0, .int .i64 0, .int .i64 0, .slice none 0 0, .slice none 0 0]; have bx := btr bq bq.size AL; have T1 := T1.next bx; have HB := btr HB HB.size bx; have B1 := B1.below bx B1.lt; have S1 := S1.next bx; have Ba := Ba.below bx Ba.lt; have Sa := Sa.next bx; have Bb := Bb.below bx Bb.lt; have Sb := Sb.next bx; have Bc := Bc.below bx Bc.lt; have T1 := T1; (try clear ks0 ks1 ks2 ks3 ks4 ka0 ka1 ka2 ka3 ka4 kb0 kb1 kb2 kb3 kb4 kc0 kc1 kc2 kc3 kc4); have ks0 := B1.cell_ 0; have ks1 := B1.cell_ 1; have ks2 := B1.cell_ 2; have ks3 := B1.cell_ 3; have ks4 := B1.cell_ 4; have ka0 := Ba.cell_ 0; have ka1 := Ba.cell_ 1; have ka2 := Ba.cell_ 2; have ka3 := Ba.cell_ 3; have ka4 := Ba.cell_ 4; have kb0 := Bb.cell_ 0; have kb1 := Bb.cell_ 1; have kb2 := Bb.cell_ 2; have kb3 := Bb.cell_ 3; have kb4 := Bb.cell_ 4; have kc0 := Bc.cell_ 0; have kc1 := Bc.cell_ 1; have kc2 := Bc.cell_ 2; have kc3 := Bc.cell_ 3; have kc4 := Bc.cell_ 4; have kd0 := Bd.cell_ 0; have kd1 := Bd.cell_ 1; have kd2 := Bd.cell_ 2; have kd3 := Bd.cell_ 3; have kd4 := Bd.cell_ 4; simp at ks0 ks1 ks2 ks3 ks4 ka0 ka1 ka2 ka3 ka4 kb0 kb1 kb2 kb3 kb4 kc0 kc1 kc2 kc3 kc4 kd0 kd1 kd2 kd3 kd4; clear bx bq AL)) | (go_at_call 12; ((with_reducible refine (bk_same s _ _ _ Sb S1 HMF.out).mono ?_); rintro e' w8 ⟨rfl, bx⟩; have T1 := T1.next bx; have HB := btr HB HB.size bx; have B1 := B1.below bx B1.lt; have S1 := S1.next bx; (try clear ks0 ks1 ks2 ks3 ks4); have ks0 := B1.cell_ 0; have ks1 := B1.cell_ 1; have ks2 := B1.cell_ 2; have ks3 := B1.cell_ 3; have ks4 := B1.cell_ 4; simp at ks0 ks1 ks2 ks3 ks4; clear bx)) | (go_at_call 13; ((with_reducible refine (find_no s _ y _ S1 T1 _ HM.out (Or.inr HNA.out)).mono ?_); rintro e' w10 ⟨rfl, bq⟩; have AL : Below w10.heap.size w10 (w10.alloc (.cells #[.int .i64 0, .int .i64 0, .string ⟨#[]⟩, .slice none 0 0, .slice none 0 0] 38)) := (Below.refl _ _).alloc (Nat.le_refl _) _; have Bx : Blk (w10.alloc (.cells #[.int .i64 0, .int .i64 0, .string ⟨#[]⟩, .slice none 0 0, .slice none 0 0] 38)) w10.heap.size 38 #[.int .i64 0, .int .i64 0, .string ⟨#[]⟩, .slice none 0 0, .slice none 0 0] := Blk.new_ w10 38 #[.int .i64 0, .int .i64 0, .string ⟨#[]⟩, .slice none 0 0, .slice none 0 0]; have bx := btr bq bq.size AL; have T1 := T1.next bx; have HB := btr HB HB.size bx; have B1 := B1.below bx B1.lt; have S1 := S1.next bx; (try clear ks0 ks1 ks2 ks3 ks4); have ks0 := B1.cell_ 0; have ks1 := B1.cell_ 1; have ks2 := B1.cell_ 2; have ks3 := B1.cell_ 3; have ks4 := B1.cell_ 4; have kx0 := Bx.cell_ 0; have kx1 := Bx.cell_ 1; have kx2 := Bx.cell_ 2; have kx3 := Bx.cell_ 3; have kx4 := Bx.cell_ 4; simp at ks0 ks1 ks2 ks3 ks4 kx0 kx1 kx2 kx3 kx4; clear bx bq AL)) | (go_at_call 14; ((with_reducible refine (mov_no s _ y z _ S1 T1 er3 HC3.out hc3).mono ?_); rintro e' w11 ⟨rfl, bq⟩; have AL : Below w11.heap.size w11 (w11.alloc (.cells #[.int .i64 0, .int .i64 0, .int .i64 0, .slice none 0 0, .slice none 0 0] 25)) := (Below.refl _ _).alloc (Nat.le_refl _) _; have By : Blk (w11.alloc (.cells #[.int .i64 0, .int .i64 0, .int .i64 0, .slice none 0 0, .slice none 0 0] 25)) w11.heap.size 25 #[.int .i64 0, .int .i64 0, .int .i64 0, .slice none 0 0, .slice none 0 0] := Blk.new_ w11 25 #[.int .i64 0, .int .i64 0, .int .i64 0, .slice none 0 0, .slice none 0 0]; have bx := btr bq bq.size AL; have T1 := T1.next bx; have HB := btr HB HB.size bx; have B1 := B1.below bx B1.lt; have S1 := S1.next bx; (try clear ks0 ks1 ks2 ks3 ks4); have ks0 := B1.cell_ 0; have ks1 := B1.cell_ 1; have ks2 := B1.cell_ 2; have ks3 := B1.cell_ 3; have ks4 := B1.cell_ 4; have ky0 := By.cell_ 0; have ky1 := By.cell_ 1; have ky2 := By.cell_ 2; have ky3 := By.cell_ 3; have ky4 := By.cell_ 4; simp at ks0 ks1 ks2 ks3 ks4 ky0 ky1 ky2 ky3 ky4; clear bx bq AL)) | (go_at_call 8; ((with_reducible refine (awake_any _ T1).mono ?_); rintro e' wA ⟨rfl, bx⟩; have HB := btr HB HB.size bx)))
                go_ret
                exact ⟨rfl, HB⟩
              · obtain ⟨kn, n, hkn, hnn, hnid⟩ := noteAt_get (Int.not_lt.1 hna)
                have HNA := Lib.hid hkn
                have HNN := Lib.hid hnn
                by_cases hmv : movC s y z = 0
                · obtain ⟨k, n2, hmf⟩ := mvF_of hmv
                  have hkk : k = kn := by have := hmf.at_; omega
                  subst hkk
                  obtain rfl : n2 = n := Option.some.inj (hmf.nt.symm.trans hnn)
                  obtain ⟨qy, hqy⟩ : ∃ q, movS s y z = q := ⟨_, rfl⟩
                  have HC3 := Lib.hid hmv
                  have HQY := Lib.hid hqy
                  have HC4 : Hid (movC qy y n2.bk = 0) := Lib.hid (by rw [← hqy]; exact hmf.back.1)
                  have HQZ : Hid (movS qy y n2.bk = s) := Lib.hid (by rw [← hqy]; exact hmf.back.2)
                  clear hmv hqy hmf hkn hnn hnid hna
                  go_enter Tryd.func3, Tryd.ntmps3
                  go_wp2_with (first | (go_at_call 6; ((with_reducible refine (greatShelf_any s _ _ S1 _ HG.out).mono ?_); rintro e' w2 ⟨rfl, bx⟩; have T1 := T1.next bx; have HB := btr HB HB.size bx; have B1 := B1.below bx B1.lt; have S1 := S1.next bx; (try clear ks0 ks1 ks2 ks3 ks4); have ks0 := B1.cell_ 0; have ks1 := B1.cell_ 1; have ks2 := B1.cell_ 2; have ks3 := B1.cell_ 3; have ks4 := B1.cell_ 4; simp at ks0 ks1 ks2 ks3 ks4; clear bx)) | (go_at_call 7; ((with_reducible refine (smay_any s _ _ S1 T1 _ HM.out).mono ?_); rintro e' w3 ⟨rfl, bx⟩; have T1 := T1.next bx; have HB := btr HB HB.size bx; have B1 := B1.below bx B1.lt; have S1 := S1.next bx; (try clear ks0 ks1 ks2 ks3 ks4); have ks0 := B1.cell_ 0; have ks1 := B1.cell_ 1; have ks2 := B1.cell_ 2; have ks3 := B1.cell_ 3; have ks4 := B1.cell_ 4; simp at ks0 ks1 ks2 ks3 ks4; clear bx)) | (go_at_call 9; ((with_reducible refine (bk_make s _ x1 _ S1 T1 HC0.out qa HQA.out).mono ?_); rintro e' w4 ⟨A3, c3, A4, c4, rfl, hN, bq⟩; have AL : Below w4.heap.size w4 (w4.alloc (.cells #[.int .i64 qa.nb, .int .i64 qa.nn, .int .i64 qa.ns, .slice A3 qa.bs.length c3, .slice A4 qa.ts.length c4] 25)) := (Below.refl _ _).alloc (Nat.le_refl _) _; have Ba : Blk (w4.alloc (.cells #[.int .i64 qa.nb, .int .i64 qa.nn, .int .i64 qa.ns, .slice A3 qa.bs.length c3, .slice A4 qa.ts.length c4] 25)) w4.heap.size 25 #[.int .i64 qa.nb, .int .i64 qa.nn, .int .i64 qa.ns, .slice A3 qa.bs.length c3, .slice A4 qa.ts.length c4] := Blk.new_ w4 25 #[.int .i64 qa.nb, .int .i64 qa.nn, .int .i64 qa.ns, .slice A3 qa.bs.length c3, .slice A4 qa.ts.length c4]; have Sa := hN.next AL; have bx := btr bq bq.size AL; have T1 := T1.next bx; have HB := btr HB HB.size bx; have B1 := B1.below bx B1.lt; have S1 := S1.next bx; (try clear ks0 ks1 ks2 ks3 ks4); have ks0 := B1.cell_ 0; have ks1 := B1.cell_ 1; have ks2 := B1.cell_ 2; have ks3 := B1.cell_ 3; have ks4 := B1.cell_ 4; have ka0 := Ba.cell_ 0; have ka1 := Ba.cell_ 1; have ka2 := Ba.cell_ 2; have ka3 := Ba.cell_ 3; have ka4 := Ba.cell_ 4; simp at ks0 ks1 ks2 ks3 ks4 ka0 ka1 ka2 ka3 ka4; clear bx bq AL hN)) | (go_at_call 10; ((with_reducible refine (bk_drop s _ x1 _ qa HQA.out Sa T1 HC0.out).mono ?_); rintro e' w5 ⟨z5, A5, c5, A6, c6, rfl, hN, bq⟩; have kI := (B1.below (bq.trans (Below.mono ((Below.refl w5.heap.size w5).alloc (Nat.le_refl _) (.cells #[.int .i64 z5, .int .i64 s.nn, .int .i64 s.ns, .slice A5 s.bs.length c5, .slice A6 s.ts.length c6] 25)) bq.size)) B1.lt).cell_ 0; simp at kI; have AL : Below w5.heap.size w5 (w5.alloc (.cells #[.int .i64 s.nb, .int .i64 s.nn, .int .i64 s.ns, .slice A5 s.bs.length c5, .slice A6 s.ts.length c6] 25)) := (Below.refl _ _).alloc (Nat.le_refl _) _; have Bb : Blk (w5.alloc (.cells #[.int .i64 s.nb, .int .i64 s.nn, .int .i64 s.ns, .slice A5 s.bs.length c5, .slice A6 s.ts.length c6] 25)) w5.heap.size 25 #[.int .i64 s.nb, .int .i64 s.nn, .int .i64 s.ns, .slice A5 s.bs.length c5, .slice A6 s.ts.length c6] := Blk.new_ w5 25 #[.int .i64 s.nb, .int .i64 s.nn, .int .i64 s.ns, .slice A5 s.bs.length c5, .slice A6 s.ts.length c6]; have Sb := hN.next AL; have bx := btr bq bq.size AL; have T1 := T1.next bx; have HB := btr HB HB.size bx; have B1 := B1.below bx B1.lt; have S1 := S1.next bx; have Ba := Ba.below bx Ba.lt; have Sa := Sa.next bx; (try clear ks0 ks1 ks2 ks3 ks4 ka0 ka1 ka2 ka3 ka4); have ks0 := B1.cell_ 0; have ks1 := B1.cell_ 1; have ks2 := B1.cell_ 2; have ks3 := B1.cell_ 3; have ks4 := B1.cell_ 4; have ka0 := Ba.cell_ 0; have ka1 := Ba.cell_ 1; have ka2 := Ba.cell_ 2; have ka3 := Ba.cell_ 3; have ka4 := Ba.cell_ 4; have kb0 := Bb.cell_ 0; have kb1 := Bb.cell_ 1; have kb2 := Bb.cell_ 2; have kb3 := Bb.cell_ 3; have kb4 := Bb.cell_ 4; simp at ks0 ks1 ks2 ks3 ks4 ka0 ka1 ka2 ka3 ka4 kb0 kb1 kb2 kb3 kb4; clear bx bq AL hN)) | (go_at_call 11; ((with_reducible refine (ren_no qa _ s.nb x2 _ Sa T1 er1 HC1.out hc1).mono ?_); rintro e' w6 ⟨rfl, bq⟩; have AL : Below w6.heap.size w6 (w6.alloc (.cells #[.int .i64 0, .int .i64 0, .int .i64 0, .slice none 0 0, .slice none 0 0] 25)) := (Below.refl _ _).alloc (Nat.le_refl _) _; have Bc : Blk (w6.alloc (.cells #[.int .i64 0, .int .i64 0, .int .i64 0, .slice none 0 0, .slice none 0 0] 25)) w6.heap.size 25 #[.int .i64 0, .int .i64 0, .int .i64 0, .slice none 0 0, .slice none 0 0] := Blk.new_ w6 25 #[.int .i64 0, .int .i64 0, .int .i64 0, .slice none 0 0, .slice none 0 0]; have bx := btr bq bq.size AL; have T1 := T1.next bx; have HB := btr HB HB.size bx; have B1 := B1.below bx B1.lt; have S1 := S1.next bx; have Ba := Ba.below bx Ba.lt; have Sa := Sa.next bx; have Bb := Bb.below bx Bb.lt; have Sb := Sb.next bx; (try clear ks0 ks1 ks2 ks3 ks4 ka0 ka1 ka2 ka3 ka4 kb0 kb1 kb2 kb3 kb4); have ks0 := B1.cell_ 0; have ks1 := B1.cell_ 1; have ks2 := B1.cell_ 2; have ks3 := B1.cell_ 3; have ks4 := B1.cell_ 4; have ka0 := Ba.cell_ 0; have ka1 := Ba.cell_ 1; have ka2 := Ba.cell_ 2; have ka3 := Ba.cell_ 3; have ka4 := Ba.cell_ 4; have kb0 := Bb.cell_ 0; have kb1 := Bb.cell_ 1; have kb2 := Bb.cell_ 2; have kb3 := Bb.cell_ 3; have kb4 := Bb.cell_ 4; have kc0 := Bc.cell_ 0; have kc1 := Bc.cell_ 1; have kc2 := Bc.cell_ 2; have kc3 := Bc.cell_ 3; have kc4 := Bc.cell_ 4; simp at ks0 ks1 ks2 ks3 ks4 ka0 ka1 ka2 ka3 ka4 kb0 kb1 kb2 kb3 kb4 kc0 kc1 kc2 kc3 kc4; clear bx bq AL)) | (go_at_call 11; ((with_reducible refine (ren_no sfZ _ s.nb x1 _ (ShR.zeroZ _) T1 2 (renC_Z _ _) (by decide)).mono ?_); rintro e' w7 ⟨rfl, bq⟩; have AL : Below w7.heap.size w7 (w7.alloc (.cells #[.int .i64 0, .int .i64 0, .int .i64 0, .slice none 0 0, .slice none 0 0] 25)) := (Below.refl _ _).alloc (Nat.le_refl _) _; have Bd : Blk (w7.alloc (.cells #[.int .i64 0, .int .i64 0, .int .i64 0, .slice none 0 0, .slice none 0 0] 25)) w7.heap.size 25 #[.int .i64 0, .int .i64 0, .int .i64 0, .slice none 0 0, .slice none 0 0] := Blk.new_ w7 25 #[.int .i64 0, .int .i64 0, .int .i64 0, .slice none 0 0, .slice none 0 0]; have bx := btr bq bq.size AL; have T1 := T1.next bx; have HB := btr HB HB.size bx; have B1 := B1.below bx B1.lt; have S1 := S1.next bx; have Ba := Ba.below bx Ba.lt; have Sa := Sa.next bx; have Bb := Bb.below bx Bb.lt; have Sb := Sb.next bx; have Bc := Bc.below bx Bc.lt; have T1 := T1; (try clear ks0 ks1 ks2 ks3 ks4 ka0 ka1 ka2 ka3 ka4 kb0 kb1 kb2 kb3 kb4 kc0 kc1 kc2 kc3 kc4); have ks0 := B1.cell_ 0; have ks1 := B1.cell_ 1; have ks2 := B1.cell_ 2; have ks3 := B1.cell_ 3; have ks4 := B1.cell_ 4; have ka0 := Ba.cell_ 0; have ka1 := Ba.cell_ 1; have ka2 := Ba.cell_ 2; have ka3 := Ba.cell_ 3; have ka4 := Ba.cell_ 4; have kb0 := Bb.cell_ 0; have kb1 := Bb.cell_ 1; have kb2 := Bb.cell_ 2; have kb3 := Bb.cell_ 3; have kb4 := Bb.cell_ 4; have kc0 := Bc.cell_ 0; have kc1 := Bc.cell_ 1; have kc2 := Bc.cell_ 2; have kc3 := Bc.cell_ 3; have kc4 := Bc.cell_ 4; have kd0 := Bd.cell_ 0; have kd1 := Bd.cell_ 1; have kd2 := Bd.cell_ 2; have kd3 := Bd.cell_ 3; have kd4 := Bd.cell_ 4; simp at ks0 ks1 ks2 ks3 ks4 ka0 ka1 ka2 ka3 ka4 kb0 kb1 kb2 kb3 kb4 kc0 kc1 kc2 kc3 kc4 kd0 kd1 kd2 kd3 kd4; clear bx bq AL)) | (go_at_call 12; ((with_reducible refine (bk_same s _ _ _ Sb S1 HMF.out).mono ?_); rintro e' w8 ⟨rfl, bx⟩; have T1 := T1.next bx; have HB := btr HB HB.size bx; have B1 := B1.below bx B1.lt; have S1 := S1.next bx; (try clear ks0 ks1 ks2 ks3 ks4); have ks0 := B1.cell_ 0; have ks1 := B1.cell_ 1; have ks2 := B1.cell_ 2; have ks3 := B1.cell_ 3; have ks4 := B1.cell_ 4; simp at ks0 ks1 ks2 ks3 ks4; clear bx)) | (go_at_call 13; ((with_reducible refine (find_yes s _ y _ S1 T1 HM.out k n2 HNA.out HNN.out).mono ?_); rintro e' w10 ⟨v1, v2, rfl, p1, p2, bq⟩; obtain ⟨A11, c11, rfl, -, -⟩ := own_shape p1; obtain ⟨A12, c12, rfl, -, -⟩ := own_shape p2; clear p1 p2; have AL : Below w10.heap.size w10 (w10.alloc (.cells #[.int .i64 n2.id, .int .i64 n2.bk, .string n2.nm, .slice A11 n2.tg.length c11, .slice A12 n2.sh.length c12] 38)) := (Below.refl _ _).alloc (Nat.le_refl _) _; have Bx : Blk (w10.alloc (.cells #[.int .i64 n2.id, .int .i64 n2.bk, .string n2.nm, .slice A11 n2.tg.length c11, .slice A12 n2.sh.length c12] 38)) w10.heap.size 38 #[.int .i64 n2.id, .int .i64 n2.bk, .string n2.nm, .slice A11 n2.tg.length c11, .slice A12 n2.sh.length c12] := Blk.new_ w10 38 #[.int .i64 n2.id, .int .i64 n2.bk, .string n2.nm, .slice A11 n2.tg.length c11, .slice A12 n2.sh.length c12]; have bx := btr bq bq.size AL; have T1 := T1.next bx; have HB := btr HB HB.size bx; have B1 := B1.below bx B1.lt; have S1 := S1.next bx; (try clear ks0 ks1 ks2 ks3 ks4); have ks0 := B1.cell_ 0; have ks1 := B1.cell_ 1; have ks2 := B1.cell_ 2; have ks3 := B1.cell_ 3; have ks4 := B1.cell_ 4; have kx0 := Bx.cell_ 0; have kx1 := Bx.cell_ 1; have kx2 := Bx.cell_ 2; have kx3 := Bx.cell_ 3; have kx4 := Bx.cell_ 4; simp at ks0 ks1 ks2 ks3 ks4 kx0 kx1 kx2 kx3 kx4; clear bx bq AL)) | (go_at_call 14; ((with_reducible refine (bk_mov s _ y z _ S1 T1 HC3.out qy HQY.out).mono ?_); rintro e' w11 ⟨A13, c13, A14, c14, rfl, hN, bq⟩; have AL : Below w11.heap.size w11 (w11.alloc (.cells #[.int .i64 qy.nb, .int .i64 qy.nn, .int .i64 qy.ns, .slice A13 qy.bs.length c13, .slice A14 qy.ts.length c14] 25)) := (Below.refl _ _).alloc (Nat.le_refl _) _; have By : Blk (w11.alloc (.cells #[.int .i64 qy.nb, .int .i64 qy.nn, .int .i64 qy.ns, .slice A13 qy.bs.length c13, .slice A14 qy.ts.length c14] 25)) w11.heap.size 25 #[.int .i64 qy.nb, .int .i64 qy.nn, .int .i64 qy.ns, .slice A13 qy.bs.length c13, .slice A14 qy.ts.length c14] := Blk.new_ w11 25 #[.int .i64 qy.nb, .int .i64 qy.nn, .int .i64 qy.ns, .slice A13 qy.bs.length c13, .slice A14 qy.ts.length c14]; have Sy := hN.next AL; have bx := btr bq bq.size AL; have T1 := T1.next bx; have HB := btr HB HB.size bx; have B1 := B1.below bx B1.lt; have S1 := S1.next bx; have Bx := Bx.below bx Bx.lt; (try clear ks0 ks1 ks2 ks3 ks4 kx0 kx1 kx2 kx3 kx4); have ks0 := B1.cell_ 0; have ks1 := B1.cell_ 1; have ks2 := B1.cell_ 2; have ks3 := B1.cell_ 3; have ks4 := B1.cell_ 4; have kx0 := Bx.cell_ 0; have kx1 := Bx.cell_ 1; have kx2 := Bx.cell_ 2; have kx3 := Bx.cell_ 3; have kx4 := Bx.cell_ 4; have ky0 := By.cell_ 0; have ky1 := By.cell_ 1; have ky2 := By.cell_ 2; have ky3 := By.cell_ 3; have ky4 := By.cell_ 4; simp at ks0 ks1 ks2 ks3 ks4 kx0 kx1 kx2 kx3 kx4 ky0 ky1 ky2 ky3 ky4; clear bx bq AL hN)) | (go_at_call 14; ((with_reducible refine (bk_mov qy _ y n2.bk _ Sy T1 HC4.out s HQZ.out).mono ?_); rintro e' w12 ⟨A15, c15, A16, c16, rfl, hN, bq⟩; have AL : Below w12.heap.size w12 (w12.alloc (.cells #[.int .i64 s.nb, .int .i64 s.nn, .int .i64 s.ns, .slice A15 s.bs.length c15, .slice A16 s.ts.length c16] 25)) := (Below.refl _ _).alloc (Nat.le_refl _) _; have Bz : Blk (w12.alloc (.cells #[.int .i64 s.nb, .int .i64 s.nn, .int .i64 s.ns, .slice A15 s.bs.length c15, .slice A16 s.ts.length c16] 25)) w12.heap.size 25 #[.int .i64 s.nb, .int .i64 s.nn, .int .i64 s.ns, .slice A15 s.bs.length c15, .slice A16 s.ts.length c16] := Blk.new_ w12 25 #[.int .i64 s.nb, .int .i64 s.nn, .int .i64 s.ns, .slice A15 s.bs.length c15, .slice A16 s.ts.length c16]; have Sz := hN.next AL; have bx := btr bq bq.size AL; have T1 := T1.next bx; have HB := btr HB HB.size bx; have B1 := B1.below bx B1.lt; have S1 := S1.next bx; have Bx := Bx.below bx Bx.lt; (try clear ks0 ks1 ks2 ks3 ks4 kx0 kx1 kx2 kx3 kx4); have ks0 := B1.cell_ 0; have ks1 := B1.cell_ 1; have ks2 := B1.cell_ 2; have ks3 := B1.cell_ 3; have ks4 := B1.cell_ 4; have kx0 := Bx.cell_ 0; have kx1 := Bx.cell_ 1; have kx2 := Bx.cell_ 2; have kx3 := Bx.cell_ 3; have kx4 := Bx.cell_ 4; have kz0 := Bz.cell_ 0; have kz1 := Bz.cell_ 1; have kz2 := Bz.cell_ 2; have kz3 := Bz.cell_ 3; have kz4 := Bz.cell_ 4; simp at ks0 ks1 ks2 ks3 ks4 kx0 kx1 kx2 kx3 kx4 kz0 kz1 kz2 kz3 kz4; clear bx bq AL hN)) | (go_at_call 12; ((with_reducible refine (bk_same s _ _ _ Sz S1 HMF.out).mono ?_); rintro e' w13 ⟨rfl, bx⟩; have T1 := T1.next bx; have HB := btr HB HB.size bx; have B1 := B1.below bx B1.lt; have S1 := S1.next bx; (try clear ks0 ks1 ks2 ks3 ks4); have ks0 := B1.cell_ 0; have ks1 := B1.cell_ 1; have ks2 := B1.cell_ 2; have ks3 := B1.cell_ 3; have ks4 := B1.cell_ 4; simp at ks0 ks1 ks2 ks3 ks4; clear bx)) | (go_at_call 8; ((with_reducible refine (awake_any _ T1).mono ?_); rintro e' wA ⟨rfl, bx⟩; have HB := btr HB HB.size bx)))
                  go_ret
                  exact ⟨rfl, HB⟩
                · obtain ⟨er3, hc3e⟩ : ∃ c, movC s y z = c := ⟨_, rfl⟩
                  have hc3 : er3 ≠ 0 := by rw [← hc3e]; exact hmv
                  have HC3 := Lib.hid hc3e
                  have hb3 : (er3 == (0 : Int)) = false := beq_eq_false_iff_ne.2 hc3
                  clear hmv hc3e hkn hnn hnid hna
                  go_enter Tryd.func3, Tryd.ntmps3
                  go_wp2_with (first | (go_at_call 6; ((with_reducible refine (greatShelf_any s _ _ S1 _ HG.out).mono ?_); rintro e' w2 ⟨rfl, bx⟩; have T1 := T1.next bx; have HB := btr HB HB.size bx; have B1 := B1.below bx B1.lt; have S1 := S1.next bx; (try clear ks0 ks1 ks2 ks3 ks4); have ks0 := B1.cell_ 0; have ks1 := B1.cell_ 1; have ks2 := B1.cell_ 2; have ks3 := B1.cell_ 3; have ks4 := B1.cell_ 4; simp at ks0 ks1 ks2 ks3 ks4; clear bx)) | (go_at_call 7; ((with_reducible refine (smay_any s _ _ S1 T1 _ HM.out).mono ?_); rintro e' w3 ⟨rfl, bx⟩; have T1 := T1.next bx; have HB := btr HB HB.size bx; have B1 := B1.below bx B1.lt; have S1 := S1.next bx; (try clear ks0 ks1 ks2 ks3 ks4); have ks0 := B1.cell_ 0; have ks1 := B1.cell_ 1; have ks2 := B1.cell_ 2; have ks3 := B1.cell_ 3; have ks4 := B1.cell_ 4; simp at ks0 ks1 ks2 ks3 ks4; clear bx)) | (go_at_call 9; ((with_reducible refine (bk_make s _ x1 _ S1 T1 HC0.out qa HQA.out).mono ?_); rintro e' w4 ⟨A3, c3, A4, c4, rfl, hN, bq⟩; have AL : Below w4.heap.size w4 (w4.alloc (.cells #[.int .i64 qa.nb, .int .i64 qa.nn, .int .i64 qa.ns, .slice A3 qa.bs.length c3, .slice A4 qa.ts.length c4] 25)) := (Below.refl _ _).alloc (Nat.le_refl _) _; have Ba : Blk (w4.alloc (.cells #[.int .i64 qa.nb, .int .i64 qa.nn, .int .i64 qa.ns, .slice A3 qa.bs.length c3, .slice A4 qa.ts.length c4] 25)) w4.heap.size 25 #[.int .i64 qa.nb, .int .i64 qa.nn, .int .i64 qa.ns, .slice A3 qa.bs.length c3, .slice A4 qa.ts.length c4] := Blk.new_ w4 25 #[.int .i64 qa.nb, .int .i64 qa.nn, .int .i64 qa.ns, .slice A3 qa.bs.length c3, .slice A4 qa.ts.length c4]; have Sa := hN.next AL; have bx := btr bq bq.size AL; have T1 := T1.next bx; have HB := btr HB HB.size bx; have B1 := B1.below bx B1.lt; have S1 := S1.next bx; (try clear ks0 ks1 ks2 ks3 ks4); have ks0 := B1.cell_ 0; have ks1 := B1.cell_ 1; have ks2 := B1.cell_ 2; have ks3 := B1.cell_ 3; have ks4 := B1.cell_ 4; have ka0 := Ba.cell_ 0; have ka1 := Ba.cell_ 1; have ka2 := Ba.cell_ 2; have ka3 := Ba.cell_ 3; have ka4 := Ba.cell_ 4; simp at ks0 ks1 ks2 ks3 ks4 ka0 ka1 ka2 ka3 ka4; clear bx bq AL hN)) | (go_at_call 10; ((with_reducible refine (bk_drop s _ x1 _ qa HQA.out Sa T1 HC0.out).mono ?_); rintro e' w5 ⟨z5, A5, c5, A6, c6, rfl, hN, bq⟩; have kI := (B1.below (bq.trans (Below.mono ((Below.refl w5.heap.size w5).alloc (Nat.le_refl _) (.cells #[.int .i64 z5, .int .i64 s.nn, .int .i64 s.ns, .slice A5 s.bs.length c5, .slice A6 s.ts.length c6] 25)) bq.size)) B1.lt).cell_ 0; simp at kI; have AL : Below w5.heap.size w5 (w5.alloc (.cells #[.int .i64 s.nb, .int .i64 s.nn, .int .i64 s.ns, .slice A5 s.bs.length c5, .slice A6 s.ts.length c6] 25)) := (Below.refl _ _).alloc (Nat.le_refl _) _; have Bb : Blk (w5.alloc (.cells #[.int .i64 s.nb, .int .i64 s.nn, .int .i64 s.ns, .slice A5 s.bs.length c5, .slice A6 s.ts.length c6] 25)) w5.heap.size 25 #[.int .i64 s.nb, .int .i64 s.nn, .int .i64 s.ns, .slice A5 s.bs.length c5, .slice A6 s.ts.length c6] := Blk.new_ w5 25 #[.int .i64 s.nb, .int .i64 s.nn, .int .i64 s.ns, .slice A5 s.bs.length c5, .slice A6 s.ts.length c6]; have Sb := hN.next AL; have bx := btr bq bq.size AL; have T1 := T1.next bx; have HB := btr HB HB.size bx; have B1 := B1.below bx B1.lt; have S1 := S1.next bx; have Ba := Ba.below bx Ba.lt; have Sa := Sa.next bx; (try clear ks0 ks1 ks2 ks3 ks4 ka0 ka1 ka2 ka3 ka4); have ks0 := B1.cell_ 0; have ks1 := B1.cell_ 1; have ks2 := B1.cell_ 2; have ks3 := B1.cell_ 3; have ks4 := B1.cell_ 4; have ka0 := Ba.cell_ 0; have ka1 := Ba.cell_ 1; have ka2 := Ba.cell_ 2; have ka3 := Ba.cell_ 3; have ka4 := Ba.cell_ 4; have kb0 := Bb.cell_ 0; have kb1 := Bb.cell_ 1; have kb2 := Bb.cell_ 2; have kb3 := Bb.cell_ 3; have kb4 := Bb.cell_ 4; simp at ks0 ks1 ks2 ks3 ks4 ka0 ka1 ka2 ka3 ka4 kb0 kb1 kb2 kb3 kb4; clear bx bq AL hN)) | (go_at_call 11; ((with_reducible refine (ren_no qa _ s.nb x2 _ Sa T1 er1 HC1.out hc1).mono ?_); rintro e' w6 ⟨rfl, bq⟩; have AL : Below w6.heap.size w6 (w6.alloc (.cells #[.int .i64 0, .int .i64 0, .int .i64 0, .slice none 0 0, .slice none 0 0] 25)) := (Below.refl _ _).alloc (Nat.le_refl _) _; have Bc : Blk (w6.alloc (.cells #[.int .i64 0, .int .i64 0, .int .i64 0, .slice none 0 0, .slice none 0 0] 25)) w6.heap.size 25 #[.int .i64 0, .int .i64 0, .int .i64 0, .slice none 0 0, .slice none 0 0] := Blk.new_ w6 25 #[.int .i64 0, .int .i64 0, .int .i64 0, .slice none 0 0, .slice none 0 0]; have bx := btr bq bq.size AL; have T1 := T1.next bx; have HB := btr HB HB.size bx; have B1 := B1.below bx B1.lt; have S1 := S1.next bx; have Ba := Ba.below bx Ba.lt; have Sa := Sa.next bx; have Bb := Bb.below bx Bb.lt; have Sb := Sb.next bx; (try clear ks0 ks1 ks2 ks3 ks4 ka0 ka1 ka2 ka3 ka4 kb0 kb1 kb2 kb3 kb4); have ks0 := B1.cell_ 0; have ks1 := B1.cell_ 1; have ks2 := B1.cell_ 2; have ks3 := B1.cell_ 3; have ks4 := B1.cell_ 4; have ka0 := Ba.cell_ 0; have ka1 := Ba.cell_ 1; have ka2 := Ba.cell_ 2; have ka3 := Ba.cell_ 3; have ka4 := Ba.cell_ 4; have kb0 := Bb.cell_ 0; have kb1 := Bb.cell_ 1; have kb2 := Bb.cell_ 2; have kb3 := Bb.cell_ 3; have kb4 := Bb.cell_ 4; have kc0 := Bc.cell_ 0; have kc1 := Bc.cell_ 1; have kc2 := Bc.cell_ 2; have kc3 := Bc.cell_ 3; have kc4 := Bc.cell_ 4; simp at ks0 ks1 ks2 ks3 ks4 ka0 ka1 ka2 ka3 ka4 kb0 kb1 kb2 kb3 kb4 kc0 kc1 kc2 kc3 kc4; clear bx bq AL)) | (go_at_call 11; ((with_reducible refine (ren_no sfZ _ s.nb x1 _ (ShR.zeroZ _) T1 2 (renC_Z _ _) (by decide)).mono ?_); rintro e' w7 ⟨rfl, bq⟩; have AL : Below w7.heap.size w7 (w7.alloc (.cells #[.int .i64 0, .int .i64 0, .int .i64 0, .slice none 0 0, .slice none 0 0] 25)) := (Below.refl _ _).alloc (Nat.le_refl _) _; have Bd : Blk (w7.alloc (.cells #[.int .i64 0, .int .i64 0, .int .i64 0, .slice none 0 0, .slice none 0 0] 25)) w7.heap.size 25 #[.int .i64 0, .int .i64 0, .int .i64 0, .slice none 0 0, .slice none 0 0] := Blk.new_ w7 25 #[.int .i64 0, .int .i64 0, .int .i64 0, .slice none 0 0, .slice none 0 0]; have bx := btr bq bq.size AL; have T1 := T1.next bx; have HB := btr HB HB.size bx; have B1 := B1.below bx B1.lt; have S1 := S1.next bx; have Ba := Ba.below bx Ba.lt; have Sa := Sa.next bx; have Bb := Bb.below bx Bb.lt; have Sb := Sb.next bx; have Bc := Bc.below bx Bc.lt; have T1 := T1; (try clear ks0 ks1 ks2 ks3 ks4 ka0 ka1 ka2 ka3 ka4 kb0 kb1 kb2 kb3 kb4 kc0 kc1 kc2 kc3 kc4); have ks0 := B1.cell_ 0; have ks1 := B1.cell_ 1; have ks2 := B1.cell_ 2; have ks3 := B1.cell_ 3; have ks4 := B1.cell_ 4; have ka0 := Ba.cell_ 0; have ka1 := Ba.cell_ 1; have ka2 := Ba.cell_ 2; have ka3 := Ba.cell_ 3; have ka4 := Ba.cell_ 4; have kb0 := Bb.cell_ 0; have kb1 := Bb.cell_ 1; have kb2 := Bb.cell_ 2; have kb3 := Bb.cell_ 3; have kb4 := Bb.cell_ 4; have kc0 := Bc.cell_ 0; have kc1 := Bc.cell_ 1; have kc2 := Bc.cell_ 2; have kc3 := Bc.cell_ 3; have kc4 := Bc.cell_ 4; have kd0 := Bd.cell_ 0; have kd1 := Bd.cell_ 1; have kd2 := Bd.cell_ 2; have kd3 := Bd.cell_ 3; have kd4 := Bd.cell_ 4; simp at ks0 ks1 ks2 ks3 ks4 ka0 ka1 ka2 ka3 ka4 kb0 kb1 kb2 kb3 kb4 kc0 kc1 kc2 kc3 kc4 kd0 kd1 kd2 kd3 kd4; clear bx bq AL)) | (go_at_call 12; ((with_reducible refine (bk_same s _ _ _ Sb S1 HMF.out).mono ?_); rintro e' w8 ⟨rfl, bx⟩; have T1 := T1.next bx; have HB := btr HB HB.size bx; have B1 := B1.below bx B1.lt; have S1 := S1.next bx; (try clear ks0 ks1 ks2 ks3 ks4); have ks0 := B1.cell_ 0; have ks1 := B1.cell_ 1; have ks2 := B1.cell_ 2; have ks3 := B1.cell_ 3; have ks4 := B1.cell_ 4; simp at ks0 ks1 ks2 ks3 ks4; clear bx)) | (go_at_call 13; ((with_reducible refine (find_yes s _ y _ S1 T1 HM.out kn n HNA.out HNN.out).mono ?_); rintro e' w10 ⟨v1, v2, rfl, p1, p2, bq⟩; obtain ⟨A11, c11, rfl, -, -⟩ := own_shape p1; obtain ⟨A12, c12, rfl, -, -⟩ := own_shape p2; clear p1 p2; have AL : Below w10.heap.size w10 (w10.alloc (.cells #[.int .i64 n.id, .int .i64 n.bk, .string n.nm, .slice A11 n.tg.length c11, .slice A12 n.sh.length c12] 38)) := (Below.refl _ _).alloc (Nat.le_refl _) _; have Bx : Blk (w10.alloc (.cells #[.int .i64 n.id, .int .i64 n.bk, .string n.nm, .slice A11 n.tg.length c11, .slice A12 n.sh.length c12] 38)) w10.heap.size 38 #[.int .i64 n.id, .int .i64 n.bk, .string n.nm, .slice A11 n.tg.length c11, .slice A12 n.sh.length c12] := Blk.new_ w10 38 #[.int .i64 n.id, .int .i64 n.bk, .string n.nm, .slice A11 n.tg.length c11, .slice A12 n.sh.length c12]; have bx := btr bq bq.size AL; have T1 := T1.next bx; have HB := btr HB HB.size bx; have B1 := B1.below bx B1.lt; have S1 := S1.next bx; (try clear ks0 ks1 ks2 ks3 ks4); have ks0 := B1.cell_ 0; have ks1 := B1.cell_ 1; have ks2 := B1.cell_ 2; have ks3 := B1.cell_ 3; have ks4 := B1.cell_ 4; have kx0 := Bx.cell_ 0; have kx1 := Bx.cell_ 1; have kx2 := Bx.cell_ 2; have kx3 := Bx.cell_ 3; have kx4 := Bx.cell_ 4; simp at ks0 ks1 ks2 ks3 ks4 kx0 kx1 kx2 kx3 kx4; clear bx bq AL)) | (go_at_call 14; ((with_reducible refine (mov_no s _ y z _ S1 T1 er3 HC3.out hc3).mono ?_); rintro e' w11 ⟨rfl, bq⟩; have AL : Below w11.heap.size w11 (w11.alloc (.cells #[.int .i64 0, .int .i64 0, .int .i64 0, .slice none 0 0, .slice none 0 0] 25)) := (Below.refl _ _).alloc (Nat.le_refl _) _; have By : Blk (w11.alloc (.cells #[.int .i64 0, .int .i64 0, .int .i64 0, .slice none 0 0, .slice none 0 0] 25)) w11.heap.size 25 #[.int .i64 0, .int .i64 0, .int .i64 0, .slice none 0 0, .slice none 0 0] := Blk.new_ w11 25 #[.int .i64 0, .int .i64 0, .int .i64 0, .slice none 0 0, .slice none 0 0]; have bx := btr bq bq.size AL; have T1 := T1.next bx; have HB := btr HB HB.size bx; have B1 := B1.below bx B1.lt; have S1 := S1.next bx; (try clear ks0 ks1 ks2 ks3 ks4); have ks0 := B1.cell_ 0; have ks1 := B1.cell_ 1; have ks2 := B1.cell_ 2; have ks3 := B1.cell_ 3; have ks4 := B1.cell_ 4; have ky0 := By.cell_ 0; have ky1 := By.cell_ 1; have ky2 := By.cell_ 2; have ky3 := By.cell_ 3; have ky4 := By.cell_ 4; simp at ks0 ks1 ks2 ks3 ks4 ky0 ky1 ky2 ky3 ky4; clear bx bq AL)) | (go_at_call 8; ((with_reducible refine (awake_any _ T1).mono ?_); rintro e' wA ⟨rfl, bx⟩; have HB := btr HB HB.size bx)))
                  go_ret
                  exact ⟨rfl, HB⟩
          · obtain ⟨er0, hc0e⟩ : ∃ c, makeC s x1 = c := ⟨_, rfl⟩
            have hc0 : er0 ≠ 0 := by rw [← hc0e]; exact hmk
            have HC0 := Lib.hid hc0e
            have hb0 : (er0 == (0 : Int)) = false := beq_eq_false_iff_ne.2 hc0
            clear hmk hc0e
            by_cases hna : noteAt s y < 0
            · have HNA := Lib.hid hna
              obtain ⟨er3, hc3e⟩ : ∃ c, movC s y z = c := ⟨_, rfl⟩
              have hc3 : er3 ≠ 0 := by
                intro h0
                obtain ⟨k, n, hk⟩ := mvF_of (hc3e.trans h0)
                have := hk.at_
                omega
              have HC3 := Lib.hid hc3e
              have hb3 : (er3 == (0 : Int)) = false := beq_eq_false_iff_ne.2 hc3
              clear hna hc3e
              go_enter Tryd.func3, Tryd.ntmps3
              go_wp2_with (first | (go_at_call 6; ((with_reducible refine (greatShelf_any s _ _ S1 _ HG.out).mono ?_); rintro e' w2 ⟨rfl, bx⟩; have T1 := T1.next bx; have HB := btr HB HB.size bx; have B1 := B1.below bx B1.lt; have S1 := S1.next bx; (try clear ks0 ks1 ks2 ks3 ks4); have ks0 := B1.cell_ 0; have ks1 := B1.cell_ 1; have ks2 := B1.cell_ 2; have ks3 := B1.cell_ 3; have ks4 := B1.cell_ 4; simp at ks0 ks1 ks2 ks3 ks4; clear bx)) | (go_at_call 7; ((with_reducible refine (smay_any s _ _ S1 T1 _ HM.out).mono ?_); rintro e' w3 ⟨rfl, bx⟩; have T1 := T1.next bx; have HB := btr HB HB.size bx; have B1 := B1.below bx B1.lt; have S1 := S1.next bx; (try clear ks0 ks1 ks2 ks3 ks4); have ks0 := B1.cell_ 0; have ks1 := B1.cell_ 1; have ks2 := B1.cell_ 2; have ks3 := B1.cell_ 3; have ks4 := B1.cell_ 4; simp at ks0 ks1 ks2 ks3 ks4; clear bx)) | (go_at_call 9; ((with_reducible refine (make_no s _ x1 _ S1 T1 er0 HC0.out hc0).mono ?_); rintro e' w4 ⟨rfl, bq⟩; have AL : Below w4.heap.size w4 (w4.alloc (.cells #[.int .i64 0, .int .i64 0, .int .i64 0, .slice none 0 0, .slice none 0 0] 25)) := (Below.refl _ _).alloc (Nat.le_refl _) _; have Ba : Blk (w4.alloc (.cells #[.int .i64 0, .int .i64 0, .int .i64 0, .slice none 0 0, .slice none 0 0] 25)) w4.heap.size 25 #[.int .i64 0, .int .i64 0, .int .i64 0, .slice none 0 0, .slice none 0 0] := Blk.new_ w4 25 #[.int .i64 0, .int .i64 0, .int .i64 0, .slice none 0 0, .slice none 0 0]; have bx := btr bq bq.size AL; have T1 := T1.next bx; have HB := btr HB HB.size bx; have B1 := B1.below bx B1.lt; have S1 := S1.next bx; (try clear ks0 ks1 ks2 ks3 ks4); have ks0 := B1.cell_ 0; have ks1 := B1.cell_ 1; have ks2 := B1.cell_ 2; have ks3 := B1.cell_ 3; have ks4 := B1.cell_ 4; have ka0 := Ba.cell_ 0; have ka1 := Ba.cell_ 1; have ka2 := Ba.cell_ 2; have ka3 := Ba.cell_ 3; have ka4 := Ba.cell_ 4; simp at ks0 ks1 ks2 ks3 ks4 ka0 ka1 ka2 ka3 ka4; clear bx bq AL)) | (go_at_call 13; ((with_reducible refine (find_no s _ y _ S1 T1 _ HM.out (Or.inr HNA.out)).mono ?_); rintro e' w10 ⟨rfl, bq⟩; have AL : Below w10.heap.size w10 (w10.alloc (.cells #[.int .i64 0, .int .i64 0, .string ⟨#[]⟩, .slice none 0 0, .slice none 0 0] 38)) := (Below.refl _ _).alloc (Nat.le_refl _) _; have Bx : Blk (w10.alloc (.cells #[.int .i64 0, .int .i64 0, .string ⟨#[]⟩, .slice none 0 0, .slice none 0 0] 38)) w10.heap.size 38 #[.int .i64 0, .int .i64 0, .string ⟨#[]⟩, .slice none 0 0, .slice none 0 0] := Blk.new_ w10 38 #[.int .i64 0, .int .i64 0, .string ⟨#[]⟩, .slice none 0 0, .slice none 0 0]; have bx := btr bq bq.size AL; have T1 := T1.next bx; have HB := btr HB HB.size bx; have B1 := B1.below bx B1.lt; have S1 := S1.next bx; (try clear ks0 ks1 ks2 ks3 ks4); have ks0 := B1.cell_ 0; have ks1 := B1.cell_ 1; have ks2 := B1.cell_ 2; have ks3 := B1.cell_ 3; have ks4 := B1.cell_ 4; have kx0 := Bx.cell_ 0; have kx1 := Bx.cell_ 1; have kx2 := Bx.cell_ 2; have kx3 := Bx.cell_ 3; have kx4 := Bx.cell_ 4; simp at ks0 ks1 ks2 ks3 ks4 kx0 kx1 kx2 kx3 kx4; clear bx bq AL)) | (go_at_call 14; ((with_reducible refine (mov_no s _ y z _ S1 T1 er3 HC3.out hc3).mono ?_); rintro e' w11 ⟨rfl, bq⟩; have AL : Below w11.heap.size w11 (w11.alloc (.cells #[.int .i64 0, .int .i64 0, .int .i64 0, .slice none 0 0, .slice none 0 0] 25)) := (Below.refl _ _).alloc (Nat.le_refl _) _; have By : Blk (w11.alloc (.cells #[.int .i64 0, .int .i64 0, .int .i64 0, .slice none 0 0, .slice none 0 0] 25)) w11.heap.size 25 #[.int .i64 0, .int .i64 0, .int .i64 0, .slice none 0 0, .slice none 0 0] := Blk.new_ w11 25 #[.int .i64 0, .int .i64 0, .int .i64 0, .slice none 0 0, .slice none 0 0]; have bx := btr bq bq.size AL; have T1 := T1.next bx; have HB := btr HB HB.size bx; have B1 := B1.below bx B1.lt; have S1 := S1.next bx; (try clear ks0 ks1 ks2 ks3 ks4); have ks0 := B1.cell_ 0; have ks1 := B1.cell_ 1; have ks2 := B1.cell_ 2; have ks3 := B1.cell_ 3; have ks4 := B1.cell_ 4; have ky0 := By.cell_ 0; have ky1 := By.cell_ 1; have ky2 := By.cell_ 2; have ky3 := By.cell_ 3; have ky4 := By.cell_ 4; simp at ks0 ks1 ks2 ks3 ks4 ky0 ky1 ky2 ky3 ky4; clear bx bq AL)) | (go_at_call 8; ((with_reducible refine (awake_any _ T1).mono ?_); rintro e' wA ⟨rfl, bx⟩; have HB := btr HB HB.size bx)))
              go_ret
              exact ⟨rfl, HB⟩
            · obtain ⟨kn, n, hkn, hnn, hnid⟩ := noteAt_get (Int.not_lt.1 hna)
              have HNA := Lib.hid hkn
              have HNN := Lib.hid hnn
              by_cases hmv : movC s y z = 0
              · obtain ⟨k, n2, hmf⟩ := mvF_of hmv
                have hkk : k = kn := by have := hmf.at_; omega
                subst hkk
                obtain rfl : n2 = n := Option.some.inj (hmf.nt.symm.trans hnn)
                obtain ⟨qy, hqy⟩ : ∃ q, movS s y z = q := ⟨_, rfl⟩
                have HC3 := Lib.hid hmv
                have HQY := Lib.hid hqy
                have HC4 : Hid (movC qy y n2.bk = 0) := Lib.hid (by rw [← hqy]; exact hmf.back.1)
                have HQZ : Hid (movS qy y n2.bk = s) := Lib.hid (by rw [← hqy]; exact hmf.back.2)
                clear hmv hqy hmf hkn hnn hnid hna
                go_enter Tryd.func3, Tryd.ntmps3
                go_wp2_with (first | (go_at_call 6; ((with_reducible refine (greatShelf_any s _ _ S1 _ HG.out).mono ?_); rintro e' w2 ⟨rfl, bx⟩; have T1 := T1.next bx; have HB := btr HB HB.size bx; have B1 := B1.below bx B1.lt; have S1 := S1.next bx; (try clear ks0 ks1 ks2 ks3 ks4); have ks0 := B1.cell_ 0; have ks1 := B1.cell_ 1; have ks2 := B1.cell_ 2; have ks3 := B1.cell_ 3; have ks4 := B1.cell_ 4; simp at ks0 ks1 ks2 ks3 ks4; clear bx)) | (go_at_call 7; ((with_reducible refine (smay_any s _ _ S1 T1 _ HM.out).mono ?_); rintro e' w3 ⟨rfl, bx⟩; have T1 := T1.next bx; have HB := btr HB HB.size bx; have B1 := B1.below bx B1.lt; have S1 := S1.next bx; (try clear ks0 ks1 ks2 ks3 ks4); have ks0 := B1.cell_ 0; have ks1 := B1.cell_ 1; have ks2 := B1.cell_ 2; have ks3 := B1.cell_ 3; have ks4 := B1.cell_ 4; simp at ks0 ks1 ks2 ks3 ks4; clear bx)) | (go_at_call 9; ((with_reducible refine (make_no s _ x1 _ S1 T1 er0 HC0.out hc0).mono ?_); rintro e' w4 ⟨rfl, bq⟩; have AL : Below w4.heap.size w4 (w4.alloc (.cells #[.int .i64 0, .int .i64 0, .int .i64 0, .slice none 0 0, .slice none 0 0] 25)) := (Below.refl _ _).alloc (Nat.le_refl _) _; have Ba : Blk (w4.alloc (.cells #[.int .i64 0, .int .i64 0, .int .i64 0, .slice none 0 0, .slice none 0 0] 25)) w4.heap.size 25 #[.int .i64 0, .int .i64 0, .int .i64 0, .slice none 0 0, .slice none 0 0] := Blk.new_ w4 25 #[.int .i64 0, .int .i64 0, .int .i64 0, .slice none 0 0, .slice none 0 0]; have bx := btr bq bq.size AL; have T1 := T1.next bx; have HB := btr HB HB.size bx; have B1 := B1.below bx B1.lt; have S1 := S1.next bx; (try clear ks0 ks1 ks2 ks3 ks4); have ks0 := B1.cell_ 0; have ks1 := B1.cell_ 1; have ks2 := B1.cell_ 2; have ks3 := B1.cell_ 3; have ks4 := B1.cell_ 4; have ka0 := Ba.cell_ 0; have ka1 := Ba.cell_ 1; have ka2 := Ba.cell_ 2; have ka3 := Ba.cell_ 3; have ka4 := Ba.cell_ 4; simp at ks0 ks1 ks2 ks3 ks4 ka0 ka1 ka2 ka3 ka4; clear bx bq AL)) | (go_at_call 13; ((with_reducible refine (find_yes s _ y _ S1 T1 HM.out k n2 HNA.out HNN.out).mono ?_); rintro e' w10 ⟨v1, v2, rfl, p1, p2, bq⟩; obtain ⟨A11, c11, rfl, -, -⟩ := own_shape p1; obtain ⟨A12, c12, rfl, -, -⟩ := own_shape p2; clear p1 p2; have AL : Below w10.heap.size w10 (w10.alloc (.cells #[.int .i64 n2.id, .int .i64 n2.bk, .string n2.nm, .slice A11 n2.tg.length c11, .slice A12 n2.sh.length c12] 38)) := (Below.refl _ _).alloc (Nat.le_refl _) _; have Bx : Blk (w10.alloc (.cells #[.int .i64 n2.id, .int .i64 n2.bk, .string n2.nm, .slice A11 n2.tg.length c11, .slice A12 n2.sh.length c12] 38)) w10.heap.size 38 #[.int .i64 n2.id, .int .i64 n2.bk, .string n2.nm, .slice A11 n2.tg.length c11, .slice A12 n2.sh.length c12] := Blk.new_ w10 38 #[.int .i64 n2.id, .int .i64 n2.bk, .string n2.nm, .slice A11 n2.tg.length c11, .slice A12 n2.sh.length c12]; have bx := btr bq bq.size AL; have T1 := T1.next bx; have HB := btr HB HB.size bx; have B1 := B1.below bx B1.lt; have S1 := S1.next bx; (try clear ks0 ks1 ks2 ks3 ks4); have ks0 := B1.cell_ 0; have ks1 := B1.cell_ 1; have ks2 := B1.cell_ 2; have ks3 := B1.cell_ 3; have ks4 := B1.cell_ 4; have kx0 := Bx.cell_ 0; have kx1 := Bx.cell_ 1; have kx2 := Bx.cell_ 2; have kx3 := Bx.cell_ 3; have kx4 := Bx.cell_ 4; simp at ks0 ks1 ks2 ks3 ks4 kx0 kx1 kx2 kx3 kx4; clear bx bq AL)) | (go_at_call 14; ((with_reducible refine (bk_mov s _ y z _ S1 T1 HC3.out qy HQY.out).mono ?_); rintro e' w11 ⟨A13, c13, A14, c14, rfl, hN, bq⟩; have AL : Below w11.heap.size w11 (w11.alloc (.cells #[.int .i64 qy.nb, .int .i64 qy.nn, .int .i64 qy.ns, .slice A13 qy.bs.length c13, .slice A14 qy.ts.length c14] 25)) := (Below.refl _ _).alloc (Nat.le_refl _) _; have By : Blk (w11.alloc (.cells #[.int .i64 qy.nb, .int .i64 qy.nn, .int .i64 qy.ns, .slice A13 qy.bs.length c13, .slice A14 qy.ts.length c14] 25)) w11.heap.size 25 #[.int .i64 qy.nb, .int .i64 qy.nn, .int .i64 qy.ns, .slice A13 qy.bs.length c13, .slice A14 qy.ts.length c14] := Blk.new_ w11 25 #[.int .i64 qy.nb, .int .i64 qy.nn, .int .i64 qy.ns, .slice A13 qy.bs.length c13, .slice A14 qy.ts.length c14]; have Sy := hN.next AL; have bx := btr bq bq.size AL; have T1 := T1.next bx; have HB := btr HB HB.size bx; have B1 := B1.below bx B1.lt; have S1 := S1.next bx; have Bx := Bx.below bx Bx.lt; (try clear ks0 ks1 ks2 ks3 ks4 kx0 kx1 kx2 kx3 kx4); have ks0 := B1.cell_ 0; have ks1 := B1.cell_ 1; have ks2 := B1.cell_ 2; have ks3 := B1.cell_ 3; have ks4 := B1.cell_ 4; have kx0 := Bx.cell_ 0; have kx1 := Bx.cell_ 1; have kx2 := Bx.cell_ 2; have kx3 := Bx.cell_ 3; have kx4 := Bx.cell_ 4; have ky0 := By.cell_ 0; have ky1 := By.cell_ 1; have ky2 := By.cell_ 2; have ky3 := By.cell_ 3; have ky4 := By.cell_ 4; simp at ks0 ks1 ks2 ks3 ks4 kx0 kx1 kx2 kx3 kx4 ky0 ky1 ky2 ky3 ky4; clear bx bq AL hN)) | (go_at_call 14; ((with_reducible refine (bk_mov qy _ y n2.bk _ Sy T1 HC4.out s HQZ.out).mono ?_); rintro e' w12 ⟨A15, c15, A16, c16, rfl, hN, bq⟩; have AL : Below w12.heap.size w12 (w12.alloc (.cells #[.int .i64 s.nb, .int .i64 s.nn, .int .i64 s.ns, .slice A15 s.bs.length c15, .slice A16 s.ts.length c16] 25)) := (Below.refl _ _).alloc (Nat.le_refl _) _; have Bz : Blk (w12.alloc (.cells #[.int .i64 s.nb, .int .i64 s.nn, .int .i64 s.ns, .slice A15 s.bs.length c15, .slice A16 s.ts.length c16] 25)) w12.heap.size 25 #[.int .i64 s.nb, .int .i64 s.nn, .int .i64 s.ns, .slice A15 s.bs.length c15, .slice A16 s.ts.length c16] := Blk.new_ w12 25 #[.int .i64 s.nb, .int .i64 s.nn, .int .i64 s.ns, .slice A15 s.bs.length c15, .slice A16 s.ts.length c16]; have Sz := hN.next AL; have bx := btr bq bq.size AL; have T1 := T1.next bx; have HB := btr HB HB.size bx; have B1 := B1.below bx B1.lt; have S1 := S1.next bx; have Bx := Bx.below bx Bx.lt; (try clear ks0 ks1 ks2 ks3 ks4 kx0 kx1 kx2 kx3 kx4); have ks0 := B1.cell_ 0; have ks1 := B1.cell_ 1; have ks2 := B1.cell_ 2; have ks3 := B1.cell_ 3; have ks4 := B1.cell_ 4; have kx0 := Bx.cell_ 0; have kx1 := Bx.cell_ 1; have kx2 := Bx.cell_ 2; have kx3 := Bx.cell_ 3; have kx4 := Bx.cell_ 4; have kz0 := Bz.cell_ 0; have kz1 := Bz.cell_ 1; have kz2 := Bz.cell_ 2; have kz3 := Bz.cell_ 3; have kz4 := Bz.cell_ 4; simp at ks0 ks1 ks2 ks3 ks4 kx0 kx1 kx2 kx3 kx4 kz0 kz1 kz2 kz3 kz4; clear bx bq AL hN)) | (go_at_call 12; ((with_reducible refine (bk_same s _ _ _ Sz S1 HMF.out).mono ?_); rintro e' w13 ⟨rfl, bx⟩; have T1 := T1.next bx; have HB := btr HB HB.size bx; have B1 := B1.below bx B1.lt; have S1 := S1.next bx; (try clear ks0 ks1 ks2 ks3 ks4); have ks0 := B1.cell_ 0; have ks1 := B1.cell_ 1; have ks2 := B1.cell_ 2; have ks3 := B1.cell_ 3; have ks4 := B1.cell_ 4; simp at ks0 ks1 ks2 ks3 ks4; clear bx)) | (go_at_call 8; ((with_reducible refine (awake_any _ T1).mono ?_); rintro e' wA ⟨rfl, bx⟩; have HB := btr HB HB.size bx)))
                go_ret
                exact ⟨rfl, HB⟩
              · obtain ⟨er3, hc3e⟩ : ∃ c, movC s y z = c := ⟨_, rfl⟩
                have hc3 : er3 ≠ 0 := by rw [← hc3e]; exact hmv
                have HC3 := Lib.hid hc3e
                have hb3 : (er3 == (0 : Int)) = false := beq_eq_false_iff_ne.2 hc3
                clear hmv hc3e hkn hnn hnid hna
                go_enter Tryd.func3, Tryd.ntmps3
                go_wp2_with (first | (go_at_call 6; ((with_reducible refine (greatShelf_any s _ _ S1 _ HG.out).mono ?_); rintro e' w2 ⟨rfl, bx⟩; have T1 := T1.next bx; have HB := btr HB HB.size bx; have B1 := B1.below bx B1.lt; have S1 := S1.next bx; (try clear ks0 ks1 ks2 ks3 ks4); have ks0 := B1.cell_ 0; have ks1 := B1.cell_ 1; have ks2 := B1.cell_ 2; have ks3 := B1.cell_ 3; have ks4 := B1.cell_ 4; simp at ks0 ks1 ks2 ks3 ks4; clear bx)) | (go_at_call 7; ((with_reducible refine (smay_any s _ _ S1 T1 _ HM.out).mono ?_); rintro e' w3 ⟨rfl, bx⟩; have T1 := T1.next bx; have HB := btr HB HB.size bx; have B1 := B1.below bx B1.lt; have S1 := S1.next bx; (try clear ks0 ks1 ks2 ks3 ks4); have ks0 := B1.cell_ 0; have ks1 := B1.cell_ 1; have ks2 := B1.cell_ 2; have ks3 := B1.cell_ 3; have ks4 := B1.cell_ 4; simp at ks0 ks1 ks2 ks3 ks4; clear bx)) | (go_at_call 9; ((with_reducible refine (make_no s _ x1 _ S1 T1 er0 HC0.out hc0).mono ?_); rintro e' w4 ⟨rfl, bq⟩; have AL : Below w4.heap.size w4 (w4.alloc (.cells #[.int .i64 0, .int .i64 0, .int .i64 0, .slice none 0 0, .slice none 0 0] 25)) := (Below.refl _ _).alloc (Nat.le_refl _) _; have Ba : Blk (w4.alloc (.cells #[.int .i64 0, .int .i64 0, .int .i64 0, .slice none 0 0, .slice none 0 0] 25)) w4.heap.size 25 #[.int .i64 0, .int .i64 0, .int .i64 0, .slice none 0 0, .slice none 0 0] := Blk.new_ w4 25 #[.int .i64 0, .int .i64 0, .int .i64 0, .slice none 0 0, .slice none 0 0]; have bx := btr bq bq.size AL; have T1 := T1.next bx; have HB := btr HB HB.size bx; have B1 := B1.below bx B1.lt; have S1 := S1.next bx; (try clear ks0 ks1 ks2 ks3 ks4); have ks0 := B1.cell_ 0; have ks1 := B1.cell_ 1; have ks2 := B1.cell_ 2; have ks3 := B1.cell_ 3; have ks4 := B1.cell_ 4; have ka0 := Ba.cell_ 0; have ka1 := Ba.cell_ 1; have ka2 := Ba.cell_ 2; have ka3 := Ba.cell_ 3; have ka4 := Ba.cell_ 4; simp at ks0 ks1 ks2 ks3 ks4 ka0 ka1 ka2 ka3 ka4; clear bx bq AL)) | (go_at_call 13; ((with_reducible refine (find_yes s _ y _ S1 T1 HM.out kn n HNA.out HNN.out).mono ?_); rintro e' w10 ⟨v1, v2, rfl, p1, p2, bq⟩; obtain ⟨A11, c11, rfl, -, -⟩ := own_shape p1; obtain ⟨A12, c12, rfl, -, -⟩ := own_shape p2; clear p1 p2; have AL : Below w10.heap.size w10 (w10.alloc (.cells #[.int .i64 n.id, .int .i64 n.bk, .string n.nm, .slice A11 n.tg.length c11, .slice A12 n.sh.length c12] 38)) := (Below.refl _ _).alloc (Nat.le_refl _) _; have Bx : Blk (w10.alloc (.cells #[.int .i64 n.id, .int .i64 n.bk, .string n.nm, .slice A11 n.tg.length c11, .slice A12 n.sh.length c12] 38)) w10.heap.size 38 #[.int .i64 n.id, .int .i64 n.bk, .string n.nm, .slice A11 n.tg.length c11, .slice A12 n.sh.length c12] := Blk.new_ w10 38 #[.int .i64 n.id, .int .i64 n.bk, .string n.nm, .slice A11 n.tg.length c11, .slice A12 n.sh.length c12]; have bx := btr bq bq.size AL; have T1 := T1.next bx; have HB := btr HB HB.size bx; have B1 := B1.below bx B1.lt; have S1 := S1.next bx; (try clear ks0 ks1 ks2 ks3 ks4); have ks0 := B1.cell_ 0; have ks1 := B1.cell_ 1; have ks2 := B1.cell_ 2; have ks3 := B1.cell_ 3; have ks4 := B1.cell_ 4; have kx0 := Bx.cell_ 0; have kx1 := Bx.cell_ 1; have kx2 := Bx.cell_ 2; have kx3 := Bx.cell_ 3; have kx4 := Bx.cell_ 4; simp at ks0 ks1 ks2 ks3 ks4 kx0 kx1 kx2 kx3 kx4; clear bx bq AL)) | (go_at_call 14; ((with_reducible refine (mov_no s _ y z _ S1 T1 er3 HC3.out hc3).mono ?_); rintro e' w11 ⟨rfl, bq⟩; have AL : Below w11.heap.size w11 (w11.alloc (.cells #[.int .i64 0, .int .i64 0, .int .i64 0, .slice none 0 0, .slice none 0 0] 25)) := (Below.refl _ _).alloc (Nat.le_refl _) _; have By : Blk (w11.alloc (.cells #[.int .i64 0, .int .i64 0, .int .i64 0, .slice none 0 0, .slice none 0 0] 25)) w11.heap.size 25 #[.int .i64 0, .int .i64 0, .int .i64 0, .slice none 0 0, .slice none 0 0] := Blk.new_ w11 25 #[.int .i64 0, .int .i64 0, .int .i64 0, .slice none 0 0, .slice none 0 0]; have bx := btr bq bq.size AL; have T1 := T1.next bx; have HB := btr HB HB.size bx; have B1 := B1.below bx B1.lt; have S1 := S1.next bx; (try clear ks0 ks1 ks2 ks3 ks4); have ks0 := B1.cell_ 0; have ks1 := B1.cell_ 1; have ks2 := B1.cell_ 2; have ks3 := B1.cell_ 3; have ks4 := B1.cell_ 4; have ky0 := By.cell_ 0; have ky1 := By.cell_ 1; have ky2 := By.cell_ 2; have ky3 := By.cell_ 3; have ky4 := By.cell_ 4; simp at ks0 ks1 ks2 ks3 ks4 ky0 ky1 ky2 ky3 ky4; clear bx bq AL)) | (go_at_call 8; ((with_reducible refine (awake_any _ T1).mono ?_); rintro e' wA ⟨rfl, bx⟩; have HB := btr HB HB.size bx)))
                go_ret
                exact ⟨rfl, HB⟩
  · skip
    go_enter Tryd.func3, Tryd.ntmps3
    go_wp2_with (first | (go_at_call 6; ((with_reducible refine (greatShelf_any s _ _ S1 _ HG.out).mono ?_); rintro e' w2 ⟨rfl, bx⟩; have T1 := T1.next bx; have HB := btr HB HB.size bx; have B1 := B1.below bx B1.lt; have S1 := S1.next bx; (try clear ks0 ks1 ks2 ks3 ks4); have ks0 := B1.cell_ 0; have ks1 := B1.cell_ 1; have ks2 := B1.cell_ 2; have ks3 := B1.cell_ 3; have ks4 := B1.cell_ 4; simp at ks0 ks1 ks2 ks3 ks4; clear bx)) | (go_at_call 7; ((with_reducible refine (smay_any s _ _ S1 T1 _ HM.out).mono ?_); rintro e' w3 ⟨rfl, bx⟩; have T1 := T1.next bx; have HB := btr HB HB.size bx; have B1 := B1.below bx B1.lt; have S1 := S1.next bx; (try clear ks0 ks1 ks2 ks3 ks4); have ks0 := B1.cell_ 0; have ks1 := B1.cell_ 1; have ks2 := B1.cell_ 2; have ks3 := B1.cell_ 3; have ks4 := B1.cell_ 4; simp at ks0 ks1 ks2 ks3 ks4; clear bx)) | (go_at_call 8; ((with_reducible refine (awake_any _ T1).mono ?_); rintro e' wA ⟨rfl, bx⟩; have HB := btr HB HB.size bx)))
    go_ret
    exact ⟨rfl, HB⟩
end Go.Proofs.YtokhapafpjejaaaDoor
namespace Go.Proofs.YtokhapafpjejaaaDoor
open Go.ChangeShapes Go.WideShapes Go.ChangeAt Go.RowKit
theorem acc_eq : Rows.laid_unicode_utf8_acceptRanges = Lib.acceptData := by kernel_rfl
theorem first_eq : Rows.laid_unicode_utf8_first = Lib.firstData := Pinned.utf8First_eq
def laidTabs : List (String × DataW Unit) := [("unicode/utf8.acceptRanges", Lib.acceptData), ("unicode/utf8.first", Lib.firstData)]
theorem laid_eq : [("unicode/utf8.acceptRanges", Rows.laid_unicode_utf8_acceptRanges), ("unicode/utf8.first", Rows.laid_unicode_utf8_first)] = laidTabs := by rw [acc_eq, first_eq]; rfl
noncomputable def laidWorld (os : Os) : World :=
  let w0 := World.holding Tryd.prog os ⟨#[], #[], []⟩
  let put (h : Array Obj) (g : Nat) (cs : Array Value) : Array Obj := h.modify g fun
    | .cells _ t frozen => .cells cs t frozen
    | o => o
  let h1 := put w0.heap 0 (Lib.firstTab.map fun z => Value.int .u8 z).toArray
  let h2 := put h1 1 ((List.range 16).flatMap fun i => [Value.int .u8 (Lib.accLo i), Value.int .u8 (Lib.accHi i)]).toArray
  { w0 with heap := h2 }
theorem noHandle (w : World) : laidMetH Tryd.prog laidTabs w ↔ laidMet Tryd.prog laidTabs w := by
  have e : (laidTabs.filter fun x => x.2.handleName?.isSome) = [] := by kernel_rfl
  unfold laidMetH
  rw [e]
theorem laid_met (os : Os) (args : Array Value) : laidMetH Tryd.prog [("unicode/utf8.acceptRanges", Rows.laid_unicode_utf8_acceptRanges), ("unicode/utf8.first", Rows.laid_unicode_utf8_first)] ((laidWorld os).forCall (fun _ _ => 0) ⟨#[], args, []⟩).memory := by
  rw [laid_eq, noHandle]
  exact (LaidIn.of_run (l := laidTabs) [0, 1] 8 (by kernel_rfl) (by kernel_rfl) (by kernel_rfl) (by kernel_rfl)).met
theorem tabs_of {W : World} (h : laidMetH Tryd.prog [("unicode/utf8.acceptRanges", Rows.laid_unicode_utf8_acceptRanges), ("unicode/utf8.first", Rows.laid_unicode_utf8_first)] W) : Tabs W := by
  rw [laid_eq, noHandle] at h
  exact utf8Tabs_of_readsT (U8Types.of196 Tryd.laysValid) ⟨by kernel_rfl, by kernel_rfl, by kernel_rfl, by kernel_rfl, by kernel_rfl, by kernel_rfl, by kernel_rfl⟩ (Lib.laidMet.reads h (.tail _ (.head _))) (Lib.laidMet.reads h (.head _))
theorem string_value {H : Type} {enc : TypeId × Value → H} {P : Program} {w : World} {base : Nat} {spare : Nat → Bool} {held : Bool} {r : Reach} {b0 : Nat} {t : TypeId} {v : Value} {d : DataW H} {p : List MemPlace} (ht : P.underlying t = some .string) (hv : Value.okWide P w r b0 t v) (h : DataW.Trod enc P w base spare held t v d p) :
    ∃ s : ByteArray, v = .string s ∧ s.size ≤ maxLen := by
  obtain ⟨s, rfl, _, _, hs⟩ := Go.ChangeMaps.open_string ht hv h
  exact ⟨s, rfl, hs⟩
end Go.Proofs.YtokhapafpjejaaaDoor
