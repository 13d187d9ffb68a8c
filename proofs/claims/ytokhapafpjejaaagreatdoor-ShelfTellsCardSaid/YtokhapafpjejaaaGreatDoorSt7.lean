/- Chapter 17's own: may the shelf be? -/
import Derived.Test.YtokhapafpjejaaaGreatDoorSt6
import Derived.Test.YtokhapafpjejaaaGreatDoorSt3
import Derived.Test.YtokhapafpjejaaaGreatDoorSt5
import Derived.Test.YtokhapafpjejaaaGreatDoorSt2
import Derived.Test.YtokhapafpjejaaaGreatDoorSt1
set_option linter.unusedSimpArgs false
set_option linter.unusedVariables false
set_option maxRecDepth 100000
set_option maxHeartbeats 16000000
namespace Go.Proofs.YtokhapafpjejaaaGreatDoor
open Go.ChangeShapes Go.WideShapes Go.ChangeAt Go.RowKit
attribute [local go_sem ↓] Go.wp_at_zero Go.wp_at_succ
structure SzF (s : Sf) : Prop where
  hb : ∀ b ∈ s.bs, b.nm.size ≤ 100000
  hn : ∀ b ∈ s.ts, b.nm.size ≤ 100000 ∧ ((∀ t ∈ b.tg, t.size ≤ 100000) ∧ b.tg.length ≤ 100000) ∧ b.sh.length ≤ 100000
  bl : s.bs.length ≤ 100000
  tl : s.ts.length ≤ 100000
  fl : (s.ts.flatMap Nt.sh).length ≤ 100000
def rMayB (s : Sf) : Bool := rbkB s && (rntB s && rshB s)
theorem rMay_any (s : Sf) (v : Value) (w : World) (hS : ShR w w.heap.size v s) (hz : SzF s) (T : Bool) (hT0 : rMayB s = T) :
    Calls Tryz.prog 11 #[v] w fun e' w' => e' = .returned (.bool T) ∧ Below w.heap.size w w' := by
  have hS0 := hS
  obtain ⟨Ab, cb, An, cn, rfl, hB, hN, hcb, hmb, hcn, hmn⟩ := hS.ex
  clear hS
  have HB : Below w.heap.size w (w.alloc (.cells #[.int .i64 s.nb, .int .i64 s.nn, .int .i64 s.ns, .slice Ab s.bs.length cb, .slice An s.ts.length cn] 25)) := ((Below.refl w.heap.size w).alloc (by first | (simp; done) | (simp; omega)) _)
  have B1 : Blk (w.alloc (.cells #[.int .i64 s.nb, .int .i64 s.nn, .int .i64 s.ns, .slice Ab s.bs.length cb, .slice An s.ts.length cn] 25)) w.heap.size 25 #[.int .i64 s.nb, .int .i64 s.nn, .int .i64 s.ns, .slice Ab s.bs.length cb, .slice An s.ts.length cn] := Blk.new_ w 25 #[.int .i64 s.nb, .int .i64 s.nn, .int .i64 s.ns, .slice Ab s.bs.length cb, .slice An s.ts.length cn]
  have S1 : ShR (w.alloc (.cells #[.int .i64 s.nb, .int .i64 s.nn, .int .i64 s.ns, .slice Ab s.bs.length cb, .slice An s.ts.length cn] 25)) ((w.alloc (.cells #[.int .i64 s.nb, .int .i64 s.nn, .int .i64 s.ns, .slice Ab s.bs.length cb, .slice An s.ts.length cn] 25))).heap.size (.agg #[.int .i64 s.nb, .int .i64 s.nn, .int .i64 s.ns, .slice Ab s.bs.length cb, .slice An s.ts.length cn]) s := hS0.next HB
  have HZ := Lib.hid hz
  obtain ⟨R1, h1⟩ : ∃ R, rbkB s = R := ⟨_, rfl⟩
  obtain ⟨R2, h2⟩ : ∃ R, rntB s = R := ⟨_, rfl⟩
  obtain ⟨R3, h3⟩ : ∃ R, rshB s = R := ⟨_, rfl⟩
  unfold rMayB at hT0
  rw [h1, h2, h3] at hT0
  have H0 := Lib.hid hT0
  have H1 := Lib.hid h1
  have H2 := Lib.hid h2
  have H3 := Lib.hid h3
  clear hT0 h1 h2 h3 hS0 hB hN hcb hmb hcn hmn hz
  cases R1
  · skip
    go_enter Tryz.func11, Tryz.ntmps11
    go_wp2_with (first | (go_at_call 47; ((with_reducible refine (rbooks_any s _ _ S1 HZ.out.hb HZ.out.bl _ H1.out).mono ?_); rintro e' w4 ⟨rfl, b4⟩; have S1 := S1.next b4; have B1 := B1.below b4 B1.lt; have HB := btr HB HB.size b4; (try clear k0 k1 k2 k3 k4); have k0 := B1.cell_ 0; have k1 := B1.cell_ 1; have k2 := B1.cell_ 2; have k3 := B1.cell_ 3; have k4 := B1.cell_ 4; simp at k0 k1 k2 k3 k4; clear b4)))
    go_ret
    exact ⟨by rw [← H0.out]; rfl, HB⟩
  · cases R2
    · skip
      go_enter Tryz.func11, Tryz.ntmps11
      go_wp2_with (first | (go_at_call 47; ((with_reducible refine (rbooks_any s _ _ S1 HZ.out.hb HZ.out.bl _ H1.out).mono ?_); rintro e' w4 ⟨rfl, b4⟩; have S1 := S1.next b4; have B1 := B1.below b4 B1.lt; have HB := btr HB HB.size b4; (try clear k0 k1 k2 k3 k4); have k0 := B1.cell_ 0; have k1 := B1.cell_ 1; have k2 := B1.cell_ 2; have k3 := B1.cell_ 3; have k4 := B1.cell_ 4; simp at k0 k1 k2 k3 k4; clear b4)) | (go_at_call 48; ((with_reducible refine (rnotes_any s _ _ S1 HZ.out.hn ⟨HZ.out.bl, HZ.out.tl⟩ _ H2.out).mono ?_); rintro e' w5 ⟨rfl, b5⟩; have S1 := S1.next b5; have B1 := B1.below b5 B1.lt; have HB := btr HB HB.size b5; (try clear k0 k1 k2 k3 k4); have k0 := B1.cell_ 0; have k1 := B1.cell_ 1; have k2 := B1.cell_ 2; have k3 := B1.cell_ 3; have k4 := B1.cell_ 4; simp at k0 k1 k2 k3 k4; clear b5)))
      go_ret
      exact ⟨by rw [← H0.out]; rfl, HB⟩
    · cases R3
      · skip
        go_enter Tryz.func11, Tryz.ntmps11
        go_wp2_with (first | (go_at_call 47; ((with_reducible refine (rbooks_any s _ _ S1 HZ.out.hb HZ.out.bl _ H1.out).mono ?_); rintro e' w4 ⟨rfl, b4⟩; have S1 := S1.next b4; have B1 := B1.below b4 B1.lt; have HB := btr HB HB.size b4; (try clear k0 k1 k2 k3 k4); have k0 := B1.cell_ 0; have k1 := B1.cell_ 1; have k2 := B1.cell_ 2; have k3 := B1.cell_ 3; have k4 := B1.cell_ 4; simp at k0 k1 k2 k3 k4; clear b4)) | (go_at_call 48; ((with_reducible refine (rnotes_any s _ _ S1 HZ.out.hn ⟨HZ.out.bl, HZ.out.tl⟩ _ H2.out).mono ?_); rintro e' w5 ⟨rfl, b5⟩; have S1 := S1.next b5; have B1 := B1.below b5 B1.lt; have HB := btr HB HB.size b5; (try clear k0 k1 k2 k3 k4); have k0 := B1.cell_ 0; have k1 := B1.cell_ 1; have k2 := B1.cell_ 2; have k3 := B1.cell_ 3; have k4 := B1.cell_ 4; simp at k0 k1 k2 k3 k4; clear b5)) | (go_at_call 49; ((with_reducible refine (rsheets_any s _ _ S1 HZ.out.tl HZ.out.fl _ H3.out).mono ?_); rintro e' w6 ⟨rfl, b6⟩; have S1 := S1.next b6; have B1 := B1.below b6 B1.lt; have HB := btr HB HB.size b6; (try clear k0 k1 k2 k3 k4); have k0 := B1.cell_ 0; have k1 := B1.cell_ 1; have k2 := B1.cell_ 2; have k3 := B1.cell_ 3; have k4 := B1.cell_ 4; simp at k0 k1 k2 k3 k4; clear b6)))
        go_ret
        exact ⟨by rw [← H0.out]; rfl, HB⟩
      · skip
        go_enter Tryz.func11, Tryz.ntmps11
        go_wp2_with (first | (go_at_call 47; ((with_reducible refine (rbooks_any s _ _ S1 HZ.out.hb HZ.out.bl _ H1.out).mono ?_); rintro e' w4 ⟨rfl, b4⟩; have S1 := S1.next b4; have B1 := B1.below b4 B1.lt; have HB := btr HB HB.size b4; (try clear k0 k1 k2 k3 k4); have k0 := B1.cell_ 0; have k1 := B1.cell_ 1; have k2 := B1.cell_ 2; have k3 := B1.cell_ 3; have k4 := B1.cell_ 4; simp at k0 k1 k2 k3 k4; clear b4)) | (go_at_call 48; ((with_reducible refine (rnotes_any s _ _ S1 HZ.out.hn ⟨HZ.out.bl, HZ.out.tl⟩ _ H2.out).mono ?_); rintro e' w5 ⟨rfl, b5⟩; have S1 := S1.next b5; have B1 := B1.below b5 B1.lt; have HB := btr HB HB.size b5; (try clear k0 k1 k2 k3 k4); have k0 := B1.cell_ 0; have k1 := B1.cell_ 1; have k2 := B1.cell_ 2; have k3 := B1.cell_ 3; have k4 := B1.cell_ 4; simp at k0 k1 k2 k3 k4; clear b5)) | (go_at_call 49; ((with_reducible refine (rsheets_any s _ _ S1 HZ.out.tl HZ.out.fl _ H3.out).mono ?_); rintro e' w6 ⟨rfl, b6⟩; have S1 := S1.next b6; have B1 := B1.below b6 B1.lt; have HB := btr HB HB.size b6; (try clear k0 k1 k2 k3 k4); have k0 := B1.cell_ 0; have k1 := B1.cell_ 1; have k2 := B1.cell_ 2; have k3 := B1.cell_ 3; have k4 := B1.cell_ 4; simp at k0 k1 k2 k3 k4; clear b6)))
        go_ret
        exact ⟨by rw [← H0.out]; rfl, HB⟩
end Go.Proofs.YtokhapafpjejaaaGreatDoor
namespace Go.Proofs.YtokhapafpjejaaaGreatDoor
open Go.ChangeShapes Go.WideShapes Go.ChangeAt Go.RowKit
attribute [local go_sem ↓] Go.wp_at_zero Go.wp_at_succ
theorem keepR {s : Sf} {v : Value} {w W W' : World} {g1 g2 : Nat} {t1 t2 : TypeId} {a0 a1 a2 a3 a4 b0 b1 b2 b3 b4 : Value} (S1 : ShR W W.heap.size v s) (B1 : Blk W g1 t1 #[a0, a1, a2, a3, a4]) (B2 : Blk W g2 t2 #[b0, b1, b2, b3, b4]) (HB : Below w.heap.size w W) (bx : Below W.heap.size W W') : ShR W' W'.heap.size v s ∧ Blk W' g1 t1 #[a0, a1, a2, a3, a4] ∧ Blk W' g2 t2 #[b0, b1, b2, b3, b4] ∧ Below w.heap.size w W' ∧ W'.cell? ⟨g1, 0, none⟩ = some a0 ∧ W'.cell? ⟨g1, 1, none⟩ = some a1 ∧ W'.cell? ⟨g1, 2, none⟩ = some a2 ∧ W'.cell? ⟨g1, 3, none⟩ = some a3 ∧ W'.cell? ⟨g1, 4, none⟩ = some a4 ∧ W'.cell? ⟨g2, 0, none⟩ = some b0 ∧ W'.cell? ⟨g2, 1, none⟩ = some b1 ∧ W'.cell? ⟨g2, 2, none⟩ = some b2 ∧ W'.cell? ⟨g2, 3, none⟩ = some b3 ∧ W'.cell? ⟨g2, 4, none⟩ = some b4 ∧ W'.frozen? ⟨g2, 0, none⟩ = false ∧ W'.frozen? ⟨g2, 1, none⟩ = false ∧ W'.frozen? ⟨g2, 2, none⟩ = false ∧ W'.frozen? ⟨g2, 3, none⟩ = false ∧ W'.frozen? ⟨g2, 4, none⟩ = false := by
  have B1n := B1.below bx B1.lt
  have B2n := B2.below bx B2.lt
  exact ⟨S1.next bx, B1n, B2n, btr HB HB.size bx, B1n.cell_ 0, B1n.cell_ 1, B1n.cell_ 2, B1n.cell_ 3, B1n.cell_ 4, B2n.cell_ 0, B2n.cell_ 1, B2n.cell_ 2, B2n.cell_ 3, B2n.cell_ 4, B2n.free 0, B2n.free 1, B2n.free 2, B2n.free 3, B2n.free 4⟩
theorem keepT {s : Sf} {v : Value} {w W W' : World} {g1 g2 : Nat} {t1 t2 : TypeId} {a0 a1 a2 a3 a4 b0 b1 b2 b3 b4 : Value} (S1 : ShR W W.heap.size v s) (T1 : Tabs W) (B1 : Blk W g1 t1 #[a0, a1, a2, a3, a4]) (B2 : Blk W g2 t2 #[b0, b1, b2, b3, b4]) (HB : Below w.heap.size w W) (bx : Below W.heap.size W W') : ShR W' W'.heap.size v s ∧ Tabs W' ∧ Blk W' g1 t1 #[a0, a1, a2, a3, a4] ∧ Blk W' g2 t2 #[b0, b1, b2, b3, b4] ∧ Below w.heap.size w W' ∧ W'.cell? ⟨g1, 0, none⟩ = some a0 ∧ W'.cell? ⟨g1, 1, none⟩ = some a1 ∧ W'.cell? ⟨g1, 2, none⟩ = some a2 ∧ W'.cell? ⟨g1, 3, none⟩ = some a3 ∧ W'.cell? ⟨g1, 4, none⟩ = some a4 ∧ W'.cell? ⟨g2, 0, none⟩ = some b0 ∧ W'.cell? ⟨g2, 1, none⟩ = some b1 ∧ W'.cell? ⟨g2, 2, none⟩ = some b2 ∧ W'.cell? ⟨g2, 3, none⟩ = some b3 ∧ W'.cell? ⟨g2, 4, none⟩ = some b4 ∧ W'.frozen? ⟨g2, 0, none⟩ = false ∧ W'.frozen? ⟨g2, 1, none⟩ = false ∧ W'.frozen? ⟨g2, 2, none⟩ = false ∧ W'.frozen? ⟨g2, 3, none⟩ = false ∧ W'.frozen? ⟨g2, 4, none⟩ = false := by
  obtain ⟨h1, h2⟩ := keepR S1 B1 B2 HB bx
  exact ⟨h1, T1.next bx, h2⟩
theorem pre2 {s : Sf} {w : World} {Ab : Option Addr} {cb : Nat} {An : Option Addr} {cn : Nat} (hS0 : ShR w w.heap.size (.agg #[.int .i64 s.nb, .int .i64 s.nn, .int .i64 s.ns, .slice Ab s.bs.length cb, .slice An s.ts.length cn]) s) : Below w.heap.size w ((w.alloc (.cells #[.int .i64 s.nb, .int .i64 s.nn, .int .i64 s.ns, .slice Ab s.bs.length cb, .slice An s.ts.length cn] 25)).alloc (.cells #[.int .i64 0, .int .i64 0, .int .i64 0, .slice none 0 0, .slice none 0 0] 25)) ∧ Blk ((w.alloc (.cells #[.int .i64 s.nb, .int .i64 s.nn, .int .i64 s.ns, .slice Ab s.bs.length cb, .slice An s.ts.length cn] 25)).alloc (.cells #[.int .i64 0, .int .i64 0, .int .i64 0, .slice none 0 0, .slice none 0 0] 25)) w.heap.size 25 #[.int .i64 s.nb, .int .i64 s.nn, .int .i64 s.ns, .slice Ab s.bs.length cb, .slice An s.ts.length cn] ∧ Blk ((w.alloc (.cells #[.int .i64 s.nb, .int .i64 s.nn, .int .i64 s.ns, .slice Ab s.bs.length cb, .slice An s.ts.length cn] 25)).alloc (.cells #[.int .i64 0, .int .i64 0, .int .i64 0, .slice none 0 0, .slice none 0 0] 25)) (w.heap.size + 1) 25 #[.int .i64 0, .int .i64 0, .int .i64 0, .slice none 0 0, .slice none 0 0] ∧ ShR ((w.alloc (.cells #[.int .i64 s.nb, .int .i64 s.nn, .int .i64 s.ns, .slice Ab s.bs.length cb, .slice An s.ts.length cn] 25)).alloc (.cells #[.int .i64 0, .int .i64 0, .int .i64 0, .slice none 0 0, .slice none 0 0] 25)) (((w.alloc (.cells #[.int .i64 s.nb, .int .i64 s.nn, .int .i64 s.ns, .slice Ab s.bs.length cb, .slice An s.ts.length cn] 25)).alloc (.cells #[.int .i64 0, .int .i64 0, .int .i64 0, .slice none 0 0, .slice none 0 0] 25))).heap.size (.agg #[.int .i64 s.nb, .int .i64 s.nn, .int .i64 s.ns, .slice Ab s.bs.length cb, .slice An s.ts.length cn]) s := by
  have HB : Below w.heap.size w ((w.alloc (.cells #[.int .i64 s.nb, .int .i64 s.nn, .int .i64 s.ns, .slice Ab s.bs.length cb, .slice An s.ts.length cn] 25)).alloc (.cells #[.int .i64 0, .int .i64 0, .int .i64 0, .slice none 0 0, .slice none 0 0] 25)) := (((Below.refl w.heap.size w).alloc (by first | (simp; done) | (simp; omega)) _).alloc (by first | (simp; done) | (simp; omega)) _)
  have B1 : Blk ((w.alloc (.cells #[.int .i64 s.nb, .int .i64 s.nn, .int .i64 s.ns, .slice Ab s.bs.length cb, .slice An s.ts.length cn] 25)).alloc (.cells #[.int .i64 0, .int .i64 0, .int .i64 0, .slice none 0 0, .slice none 0 0] 25)) w.heap.size 25 #[.int .i64 s.nb, .int .i64 s.nn, .int .i64 s.ns, .slice Ab s.bs.length cb, .slice An s.ts.length cn] := (Blk.new_ w 25 #[.int .i64 s.nb, .int .i64 s.nn, .int .i64 s.ns, .slice Ab s.bs.length cb, .slice An s.ts.length cn]).alloc_ (.cells #[.int .i64 0, .int .i64 0, .int .i64 0, .slice none 0 0, .slice none 0 0] 25)
  have B2 : Blk ((w.alloc (.cells #[.int .i64 s.nb, .int .i64 s.nn, .int .i64 s.ns, .slice Ab s.bs.length cb, .slice An s.ts.length cn] 25)).alloc (.cells #[.int .i64 0, .int .i64 0, .int .i64 0, .slice none 0 0, .slice none 0 0] 25)) (w.heap.size + 1) 25 #[.int .i64 0, .int .i64 0, .int .i64 0, .slice none 0 0, .slice none 0 0] := by
    have := Blk.new_ (w.alloc (.cells #[.int .i64 s.nb, .int .i64 s.nn, .int .i64 s.ns, .slice Ab s.bs.length cb, .slice An s.ts.length cn] 25)) 25 #[.int .i64 0, .int .i64 0, .int .i64 0, .slice none 0 0, .slice none 0 0]
    simpa using this
  have S1 : ShR ((w.alloc (.cells #[.int .i64 s.nb, .int .i64 s.nn, .int .i64 s.ns, .slice Ab s.bs.length cb, .slice An s.ts.length cn] 25)).alloc (.cells #[.int .i64 0, .int .i64 0, .int .i64 0, .slice none 0 0, .slice none 0 0] 25)) (((w.alloc (.cells #[.int .i64 s.nb, .int .i64 s.nn, .int .i64 s.ns, .slice Ab s.bs.length cb, .slice An s.ts.length cn] 25)).alloc (.cells #[.int .i64 0, .int .i64 0, .int .i64 0, .slice none 0 0, .slice none 0 0] 25))).heap.size (.agg #[.int .i64 s.nb, .int .i64 s.nn, .int .i64 s.ns, .slice Ab s.bs.length cb, .slice An s.ts.length cn]) s := hS0.next HB
  exact ⟨HB, B1, B2, S1⟩
def z5 (w : World) (g : Nat) : World := st5 w g 0 (.int .i64 0) (.int .i64 0) (.int .i64 0) (.slice none 0 0) (.slice none 0 0)
theorem z5_blk {w : World} {g : Nat} {t : TypeId} {p0 p1 p2 p3 p4 : Value} (h : Blk w g t #[p0, p1, p2, p3, p4]) : Blk (z5 w g) g t #[.int .i64 0, .int .i64 0, .int .i64 0, .slice none 0 0, .slice none 0 0] := h.st5_ _ _ _ _ _
theorem z5_below {w W : World} {g : Nat} (HB : Below w.heap.size w W) (hg : w.heap.size ≤ g) : Below w.heap.size w (z5 W g) := st5_below HB hg 0 _ _ _ _ _ HB.size
theorem set_snd (es : List (List Value)) (k : Nat) (p0 p1 a1 : Value) (h : es[k]? = some [p0, p1]) (hC : ∀ x ∈ es, x.length = 2) : es.flatten.set (k * 2 + 1) a1 = (es.set k [p0, a1]).flatten := by
  have h1 := set_two es k p0 p1 p0 a1 h hC
  have h2 : es.flatten.set (k * 2 + 0) p0 = es.flatten := by
    have h3 := flat_at es hC k _ h 0 (by decide)
    obtain ⟨hlt, he⟩ := List.getElem?_eq_some_iff.1 (h3.trans (show ([p0, p1] : List Value)[0]? = some p0 from rfl))
    conv => lhs; rw [← he]
    exact List.set_getElem_self hlt
  rw [h2] at h1
  exact h1
theorem set_bk (es : List (List Value)) (k : Nat) (p0 p1 p2 p3 p4 a1 : Value) (h : es[k]? = some [p0, p1, p2, p3, p4]) (hC : ∀ x ∈ es, x.length = 5) : es.flatten.set (k * 5 + 1) a1 = (es.set k [p0, a1, p2, p3, p4]).flatten := by
  have h1 := set_five es k p0 p1 p2 p3 p4 p0 a1 p2 p3 p4 h hC
  have hs : ∀ (l : List Value) (i : Nat) (u : Value), l[i]? = some u → l.set i u = l := by
    intro l i u hu
    obtain ⟨hlt, he⟩ := List.getElem?_eq_some_iff.1 hu
    rw [← he]
    exact List.set_getElem_self hlt
  have g : ∀ j, j < 5 → es.flatten[k * 5 + j]? = ([p0, p1, p2, p3, p4] : List Value)[j]? := fun j hj => flat_at es hC k _ h j hj
  have h0 := hs es.flatten (k * 5 + 0) p0 (g 0 (by decide))
  rw [h0] at h1
  rw [← h1]
  have n2 : (es.flatten.set (k * 5 + 1) a1).set (k * 5 + 2) p2 = es.flatten.set (k * 5 + 1) a1 := hs _ _ _ (by rw [List.getElem?_set_ne (by omega)]; exact g 2 (by decide))
  have n3 : (es.flatten.set (k * 5 + 1) a1).set (k * 5 + 3) p3 = es.flatten.set (k * 5 + 1) a1 := hs _ _ _ (by rw [List.getElem?_set_ne (by omega)]; exact g 3 (by decide))
  have n4 : (es.flatten.set (k * 5 + 1) a1).set (k * 5 + 4) p4 = es.flatten.set (k * 5 + 1) a1 := hs _ _ _ (by rw [List.getElem?_set_ne (by omega)]; exact g 4 (by decide))
  rw [n2, n3, n4]
def renC (s : Sf) (y : Int) (x : ByteArray) : Int := cond (mayS s) (cond (decide (bookAt s y < 0)) 4 (cond (mayN x) (cond (bookTk s x y) 7 0) 6)) 2
def renS (s : Sf) (y : Int) (x : ByteArray) : Sf := { s with bs := s.bs.set (bookAt s y).toNat ⟨y, x⟩ }
def nameAt (s : Sf) (y : Int) : ByteArray := match s.ts[(noteAt s y).toNat]? with
  | some n => n.nm
  | none => ByteArray.empty
def movC (s : Sf) (y z : Int) : Int := cond (mayS s) (cond (decide (noteAt s y < 0) || decide (bookAt s z < 0)) 4 (cond (noteTk s z (nameAt s y) y) 7 0)) 2
def movS (s : Sf) (y z : Int) : Sf := match s.ts[(noteAt s y).toNat]? with
  | some n => { s with ts := s.ts.set (noteAt s y).toNat { n with bk := z } }
  | none => s
theorem bookAt_get {s : Sf} {x : Int} (h : 0 ≤ bookAt s x) : ∃ (k : Nat) (b : Bk), bookAt s x = (k : Int) ∧ s.bs[k]? = some b ∧ b.id = x := by
  rcases idxP_cases (fun b : Bk => b.id == x) s.bs with ⟨h1, _⟩ | ⟨k, b, h1, h2, h3, _⟩
  · have : bookAt s x = -1 := h1
    omega
  · exact ⟨k, b, h1, h2, by simpa using h3⟩
theorem noteAt_get {s : Sf} {x : Int} (h : 0 ≤ noteAt s x) : ∃ (k : Nat) (b : Nt), noteAt s x = (k : Int) ∧ s.ts[k]? = some b ∧ b.id = x := by
  rcases idxP_cases (fun b : Nt => b.id == x) s.ts with ⟨h1, _⟩ | ⟨k, b, h1, h2, h3, _⟩
  · have : noteAt s x = -1 := h1
    omega
  · exact ⟨k, b, h1, h2, by simpa using h3⟩
theorem BksW.name_ {w : World} {base c k : Nat} {g : Nat} {bs : List Bk} {b : Bk} (h : BksW w base (.slice (some ⟨g, 0, none⟩) bs.length c) bs) (hk : bs[k]? = some b) (x : ByteArray) : BksW (w.setCell ⟨g, k * 2 + 1, none⟩ (.string x)) base (.slice (some ⟨g, 0, none⟩) bs.length c) (bs.set k ⟨b.id, x⟩) ∧ w.grownBy (w.setCell ⟨g, k * 2 + 1, none⟩ (.string x)) (some g) := by
  refine ⟨?_, set1_grown w g _ _⟩
  have h1 := (World.ownsRow.stored h (k * 2 + 1) (.string x)).1
  have he : (bs.map bkC)[k]? = some [.int .i64 b.id, .string b.nm] := by rw [List.getElem?_map, hk]; rfl
  rw [set_snd _ k _ _ _ he (bkC_two _)] at h1
  show World.ownsRow _ _ _ _ _ (bs.set k ⟨b.id, x⟩).length ((bs.set k ⟨b.id, x⟩).map bkC).flatten
  rw [List.length_set, List.map_set]
  exact h1
theorem NtsW.book_ {w : World} {base c k : Nat} {g : Nat} {ts : List Nt} {n : Nt} (h : NtsW w base (.slice (some ⟨g, 0, none⟩) ts.length c) ts) (hk : ts[k]? = some n) (z : Int) : NtsW (w.setCell ⟨g, k * 5 + 1, none⟩ (.int .i64 z)) base (.slice (some ⟨g, 0, none⟩) ts.length c) (ts.set k { n with bk := z }) ∧ w.grownBy (w.setCell ⟨g, k * 5 + 1, none⟩ (.int .i64 z)) (some g) := by
  obtain ⟨es, hel, hon, hnt⟩ := h
  have hkl := (List.getElem?_eq_some_iff.1 hk).1
  have he := List.getElem?_eq_getElem (l := es) (i := k) (by omega)
  obtain ⟨vt, vs, hev, q1, q2⟩ := hnt k n _ hk he
  rw [hev] at he
  have h1 := (World.ownsRow.stored hon (k * 5 + 1) (.int .i64 z)).1
  rw [set_bk es k _ _ _ _ _ _ he (es_five hel hnt)] at h1
  have hg := set1_grown w g (k * 5 + 1) (.int .i64 z)
  refine ⟨⟨es.set k (ntC { n with bk := z } vt vs), by rw [List.length_set, List.length_set]; exact hel, by rw [List.length_set]; exact h1, fun j m e a b => ?_⟩, hg⟩
  rw [List.getElem?_set] at a b
  split at a
  · rename_i hj
    subst hj
    rw [if_pos rfl] at b
    first | rw [if_pos (by omega)] at b | skip
    first | rw [if_pos hkl] at a | skip
    cases a
    cases b
    exact NtW.kept (w := w) ⟨vt, vs, rfl, q1, q2⟩ hon hg (by decide) (by decide)
  · rename_i hj
    rw [if_neg hj] at b
    exact (hnt j m e a b).kept hon hg (by decide) (by decide)
theorem ren_no (s : Sf) (v : Value) (y : Int) (x : ByteArray) (w : World) (hS : ShR w w.heap.size v s) (hT : Tabs w) (c : Int) (hc : renC s y x = c) (hne : c ≠ 0) :
    Calls Tryz.prog 31 #[v, .int .i64 y, .string x] w fun e' w' => e' = .returned (.tuple #[.agg #[.int .i64 0, .int .i64 0, .int .i64 0, .slice none 0 0, .slice none 0 0], .int .i64 c]) ∧ Below w.heap.size w w' := by
  have hS0 := hS
  obtain ⟨Ab, cb, An, cn, rfl, hB, hN, hcb, hmb, hcn, hmn⟩ := hS.ex
  clear hS
  obtain ⟨HB, B1, B2, S1⟩ := pre2 hS0
  have T1 := hT.next HB
  clear hS0 hT hB hN hcb hmb hcn hmn
  obtain ⟨M, hM⟩ : ∃ M, mayS s = M := ⟨_, rfl⟩
  obtain ⟨I, hI⟩ : ∃ I, bookAt s y = I := ⟨_, rfl⟩
  obtain ⟨N, hN⟩ : ∃ N, mayN x = N := ⟨_, rfl⟩
  obtain ⟨K_, hK⟩ : ∃ K, bookTk s x y = K := ⟨_, rfl⟩
  unfold renC at hc
  rw [hM, hI, hN, hK] at hc
  have HM := Lib.hid hM
  have HI := Lib.hid hI
  have HN : Hid (nameB x.data.toList = N) := Lib.hid hN
  have HK := Lib.hid hK
  clear hM hN hK hI
  cases M
  · obtain rfl : c = 2 := hc.symm
    clear hc hne
    go_enter Tryz.func31, Tryz.ntmps31
    go_wp2_with (first | (go_at_call 52; ((with_reducible refine (pBook_any s _ y _ S1).mono ?_); rintro e' w3 ⟨rfl, bx⟩; rw [HI.out]; (try clear k0 k1 k2 k3 k4 r0 r1 r2 r3 r4 t0 t1 t2 t3 t4); obtain ⟨S1, T1, B1, B2, HB, k0, k1, k2, k3, k4, r0, r1, r2, r3, r4, t0, t1, t2, t3, t4⟩ := keepT S1 T1 B1 B2 HB bx; clear bx)) | (go_at_call 10; ((with_reducible refine (smay_any s _ _ S1 T1 _ HM.out).mono ?_); rintro e' w4 ⟨rfl, bx⟩; (try clear k0 k1 k2 k3 k4 r0 r1 r2 r3 r4 t0 t1 t2 t3 t4); obtain ⟨S1, T1, B1, B2, HB, k0, k1, k2, k3, k4, r0, r1, r2, r3, r4, t0, t1, t2, t3, t4⟩ := keepT S1 T1 B1 B2 HB bx; clear bx)))
    have B2u := z5_blk B2
    have hb2 := z5_below HB (g := w.heap.size + 1) (by omega)
    change bodyPost _ _ _ _ _ (z5 w4 (w.heap.size + 1))
    generalize z5 w4 (w.heap.size + 1) = Wd at B2u hb2 ⊢
    apply bodyPost_ret (v := .tuple #[.agg #[.int .i64 0, .int .i64 0, .int .i64 0, .slice none 0 0, .slice none 0 0], .int .i64 2])
    · exact results_cell1 Tryz.results31 _ Wd _ 25 #[.int .i64 0, .int .i64 0, .int .i64 0, .slice none 0 0, .slice none 0 0] (0, 0) _ rfl B2u Tryz.underlying25 rfl (by kernel_rfl)
    · rfl
    · exact ⟨rfl, hb2⟩
  · by_cases hi : I < 0
    · obtain rfl : c = 4 := by simpa [hi] using hc.symm
      clear hc hne
      go_enter Tryz.func31, Tryz.ntmps31
      go_wp2_with (first | (go_at_call 52; ((with_reducible refine (pBook_any s _ y _ S1).mono ?_); rintro e' w3 ⟨rfl, bx⟩; rw [HI.out]; (try clear k0 k1 k2 k3 k4 r0 r1 r2 r3 r4 t0 t1 t2 t3 t4); obtain ⟨S1, T1, B1, B2, HB, k0, k1, k2, k3, k4, r0, r1, r2, r3, r4, t0, t1, t2, t3, t4⟩ := keepT S1 T1 B1 B2 HB bx; clear bx)) | (go_at_call 10; ((with_reducible refine (smay_any s _ _ S1 T1 _ HM.out).mono ?_); rintro e' w4 ⟨rfl, bx⟩; (try clear k0 k1 k2 k3 k4 r0 r1 r2 r3 r4 t0 t1 t2 t3 t4); obtain ⟨S1, T1, B1, B2, HB, k0, k1, k2, k3, k4, r0, r1, r2, r3, r4, t0, t1, t2, t3, t4⟩ := keepT S1 T1 B1 B2 HB bx; clear bx)))
      have B2u := z5_blk B2
      have hb2 := z5_below HB (g := w.heap.size + 1) (by omega)
      change bodyPost _ _ _ _ _ (z5 w4 (w.heap.size + 1))
      generalize z5 w4 (w.heap.size + 1) = Wd at B2u hb2 ⊢
      apply bodyPost_ret (v := .tuple #[.agg #[.int .i64 0, .int .i64 0, .int .i64 0, .slice none 0 0, .slice none 0 0], .int .i64 4])
      · exact results_cell1 Tryz.results31 _ Wd _ 25 #[.int .i64 0, .int .i64 0, .int .i64 0, .slice none 0 0, .slice none 0 0] (0, 0) _ rfl B2u Tryz.underlying25 rfl (by kernel_rfl)
      · rfl
      · exact ⟨rfl, hb2⟩
    · cases N
      · obtain rfl : c = 6 := by simpa [hi] using hc.symm
        clear hc hne
        go_enter Tryz.func31, Tryz.ntmps31
        go_wp2_with (first | (go_at_call 52; ((with_reducible refine (pBook_any s _ y _ S1).mono ?_); rintro e' w3 ⟨rfl, bx⟩; rw [HI.out]; (try clear k0 k1 k2 k3 k4 r0 r1 r2 r3 r4 t0 t1 t2 t3 t4); obtain ⟨S1, T1, B1, B2, HB, k0, k1, k2, k3, k4, r0, r1, r2, r3, r4, t0, t1, t2, t3, t4⟩ := keepT S1 T1 B1 B2 HB bx; clear bx)) | (go_at_call 10; ((with_reducible refine (smay_any s _ _ S1 T1 _ HM.out).mono ?_); rintro e' w4 ⟨rfl, bx⟩; (try clear k0 k1 k2 k3 k4 r0 r1 r2 r3 r4 t0 t1 t2 t3 t4); obtain ⟨S1, T1, B1, B2, HB, k0, k1, k2, k3, k4, r0, r1, r2, r3, r4, t0, t1, t2, t3, t4⟩ := keepT S1 T1 B1 B2 HB bx; clear bx)) | (go_at_call 61; ((with_reducible refine (nmay_any x _ _ T1 HN.out).mono ?_); rintro e' w5 ⟨rfl, bx⟩; (try clear k0 k1 k2 k3 k4 r0 r1 r2 r3 r4 t0 t1 t2 t3 t4); obtain ⟨S1, T1, B1, B2, HB, k0, k1, k2, k3, k4, r0, r1, r2, r3, r4, t0, t1, t2, t3, t4⟩ := keepT S1 T1 B1 B2 HB bx; clear bx)))
        have B2u := z5_blk B2
        have hb2 := z5_below HB (g := w.heap.size + 1) (by omega)
        change bodyPost _ _ _ _ _ (z5 w5 (w.heap.size + 1))
        generalize z5 w5 (w.heap.size + 1) = Wd at B2u hb2 ⊢
        apply bodyPost_ret (v := .tuple #[.agg #[.int .i64 0, .int .i64 0, .int .i64 0, .slice none 0 0, .slice none 0 0], .int .i64 6])
        · exact results_cell1 Tryz.results31 _ Wd _ 25 #[.int .i64 0, .int .i64 0, .int .i64 0, .slice none 0 0, .slice none 0 0] (0, 0) _ rfl B2u Tryz.underlying25 rfl (by kernel_rfl)
        · rfl
        · exact ⟨rfl, hb2⟩
      · cases K_
        · exact absurd (by simpa [hi] using hc.symm) hne
        · obtain rfl : c = 7 := by simpa [hi] using hc.symm
          clear hc hne
          go_enter Tryz.func31, Tryz.ntmps31
          go_wp2_with (first | (go_at_call 52; ((with_reducible refine (pBook_any s _ y _ S1).mono ?_); rintro e' w3 ⟨rfl, bx⟩; rw [HI.out]; (try clear k0 k1 k2 k3 k4 r0 r1 r2 r3 r4 t0 t1 t2 t3 t4); obtain ⟨S1, T1, B1, B2, HB, k0, k1, k2, k3, k4, r0, r1, r2, r3, r4, t0, t1, t2, t3, t4⟩ := keepT S1 T1 B1 B2 HB bx; clear bx)) | (go_at_call 10; ((with_reducible refine (smay_any s _ _ S1 T1 _ HM.out).mono ?_); rintro e' w4 ⟨rfl, bx⟩; (try clear k0 k1 k2 k3 k4 r0 r1 r2 r3 r4 t0 t1 t2 t3 t4); obtain ⟨S1, T1, B1, B2, HB, k0, k1, k2, k3, k4, r0, r1, r2, r3, r4, t0, t1, t2, t3, t4⟩ := keepT S1 T1 B1 B2 HB bx; clear bx)) | (go_at_call 61; ((with_reducible refine (nmay_any x _ _ T1 HN.out).mono ?_); rintro e' w5 ⟨rfl, bx⟩; (try clear k0 k1 k2 k3 k4 r0 r1 r2 r3 r4 t0 t1 t2 t3 t4); obtain ⟨S1, T1, B1, B2, HB, k0, k1, k2, k3, k4, r0, r1, r2, r3, r4, t0, t1, t2, t3, t4⟩ := keepT S1 T1 B1 B2 HB bx; clear bx)) | (go_at_call 62; ((with_reducible refine (bTaken_any s _ x y _ S1 _ HK.out).mono ?_); rintro e' w6 ⟨rfl, bx⟩; (try clear k0 k1 k2 k3 k4 r0 r1 r2 r3 r4 t0 t1 t2 t3 t4); obtain ⟨S1, T1, B1, B2, HB, k0, k1, k2, k3, k4, r0, r1, r2, r3, r4, t0, t1, t2, t3, t4⟩ := keepT S1 T1 B1 B2 HB bx; clear bx)))
          have B2u := z5_blk B2
          have hb2 := z5_below HB (g := w.heap.size + 1) (by omega)
          change bodyPost _ _ _ _ _ (z5 w6 (w.heap.size + 1))
          generalize z5 w6 (w.heap.size + 1) = Wd at B2u hb2 ⊢
          apply bodyPost_ret (v := .tuple #[.agg #[.int .i64 0, .int .i64 0, .int .i64 0, .slice none 0 0, .slice none 0 0], .int .i64 7])
          · exact results_cell1 Tryz.results31 _ Wd _ 25 #[.int .i64 0, .int .i64 0, .int .i64 0, .slice none 0 0, .slice none 0 0] (0, 0) _ rfl B2u Tryz.underlying25 rfl (by kernel_rfl)
          · rfl
          · exact ⟨rfl, hb2⟩
theorem ren_yes (s : Sf) (v : Value) (y : Int) (x : ByteArray) (w : World) (hS : ShR w w.heap.size v s) (hT : Tabs w) (hc : renC s y x = 0) :
    Calls Tryz.prog 31 #[v, .int .i64 y, .string x] w fun e' w' => ∃ v', e' = .returned (.tuple #[v', .int .i64 0]) ∧ ShW w' w.heap.size v' (renS s y x) ∧ Below w.heap.size w w' := by
  have hS0 := hS
  obtain ⟨Ab, cb, An, cn, rfl, hB, hN, hcb, hmb, hcn, hmn⟩ := hS.ex
  clear hS
  obtain ⟨HB, B1, B2, S1⟩ := pre2 hS0
  have T1 := hT.next HB
  clear hS0 hT hB hN hcb hmb hcn hmn
  obtain ⟨hM, hI, hN, hK⟩ : mayS s = true ∧ ¬ bookAt s y < 0 ∧ mayN x = true ∧ bookTk s x y = false := by
    unfold renC at hc
    cases h1 : mayS s <;> by_cases h2 : bookAt s y < 0 <;> cases h3 : mayN x <;> cases h4 : bookTk s x y <;> rw [h1] at hc <;> simp [h2, h3, h4] at hc ⊢
    all_goals exact Int.not_lt.1 h2
  obtain ⟨k, b, hk, hb, hid⟩ := bookAt_get (Int.not_lt.1 hI)
  have HRS : Hid (renS s y x = { s with bs := s.bs.set k ⟨b.id, x⟩ }) := Lib.hid (by unfold renS; rw [hk, hid]; rfl)
  have HI := Lib.hid hk
  have HN : Hid (nameB x.data.toList = true) := Lib.hid hN
  have HK := Lib.hid hK
  have HBB := Lib.hid hb
  have hkl : k < s.bs.length := (List.getElem?_eq_some_iff.1 hb).1
  have i0 : (0 : Int) ≤ (k : Int) := by omega
  have i1 : (k : Int) < (s.bs.length : Int) := by omega
  have i2 : ¬ (k : Int) < 0 := by omega
  have HKL := Lib.hid hkl
  clear hI hN hK hk hb hid hkl
  have hMF := mayF_of hM
  have hlb : s.bs.length ≤ 100000 := by have := hMF.bl; omega
  have hln : s.ts.length ≤ 100000 := by have := hMF.tl; omega
  have HM := Lib.hid hM
  have HLB := Lib.hid hlb
  have HLN := Lib.hid hln
  have HLR := Lib.hid hMF.small
  clear hM hMF hc hlb hln
  go_enter Tryz.func31, Tryz.ntmps31
  go_upto_region 10 with (first | (go_at_call 52; ((with_reducible refine (pBook_any s _ y _ S1).mono ?_); rintro e' w3 ⟨rfl, bx⟩; rw [HI.out]; (try clear k0 k1 k2 k3 k4 r0 r1 r2 r3 r4 t0 t1 t2 t3 t4); obtain ⟨S1, T1, B1, B2, HB, k0, k1, k2, k3, k4, r0, r1, r2, r3, r4, t0, t1, t2, t3, t4⟩ := keepT S1 T1 B1 B2 HB bx; clear bx)) | (go_at_call 10; ((with_reducible refine (smay_any s _ _ S1 T1 _ HM.out).mono ?_); rintro e' w4 ⟨rfl, bx⟩; (try clear k0 k1 k2 k3 k4 r0 r1 r2 r3 r4 t0 t1 t2 t3 t4); obtain ⟨S1, T1, B1, B2, HB, k0, k1, k2, k3, k4, r0, r1, r2, r3, r4, t0, t1, t2, t3, t4⟩ := keepT S1 T1 B1 B2 HB bx; clear bx)) | (go_at_call 61; ((with_reducible refine (nmay_any x _ _ T1 HN.out).mono ?_); rintro e' w5 ⟨rfl, bx⟩; (try clear k0 k1 k2 k3 k4 r0 r1 r2 r3 r4 t0 t1 t2 t3 t4); obtain ⟨S1, T1, B1, B2, HB, k0, k1, k2, k3, k4, r0, r1, r2, r3, r4, t0, t1, t2, t3, t4⟩ := keepT S1 T1 B1 B2 HB bx; clear bx)) | (go_at_call 62; ((with_reducible refine (bTaken_any s _ x y _ S1 _ HK.out).mono ?_); rintro e' w6 ⟨rfl, bx⟩; (try clear k0 k1 k2 k3 k4 r0 r1 r2 r3 r4 t0 t1 t2 t3 t4); obtain ⟨S1, T1, B1, B2, HB, k0, k1, k2, k3, k4, r0, r1, r2, r3, r4, t0, t1, t2, t3, t4⟩ := keepT S1 T1 B1 B2 HB bx; clear bx)))
  have hW5 : w.heap.size + 2 ≤ w6.heap.size := by have := B2.lt; omega
  go_upto_region 11 with (go_at_call 63; ((with_reducible refine (clone_any s _ _ S1 HLB.out HLN.out HLR.out).mono ?_); rintro e' w9 ⟨v6, rfl, hQ, b6⟩; obtain ⟨Ab6, cb6, An6, cn6, rfl, hBk, hNt, q1, q2, q3, q4⟩ := hQ.parts; have B1 := B1.below b6 B1.lt; have B2 := B2.below b6 B2.lt; have HB := btr HB HB.size b6; have hz6 := b6.size; (try clear k0 k1 k2 k3 k4 r0 r1 r2 r3 r4 t0 t1 t2 t3 t4); have k0 := B1.cell_ 0; have t0 := B1.free 0; have k1 := B1.cell_ 1; have t1 := B1.free 1; have k2 := B1.cell_ 2; have t2 := B1.free 2; have k3 := B1.cell_ 3; have t3 := B1.free 3; have k4 := B1.cell_ 4; have t4 := B1.free 4; simp at k0 k1 k2 k3 k4; clear b6 hQ S1 T1))
  have B1u := B1.st5_ (.int .i64 s.nb) (.int .i64 s.nn) (.int .i64 s.ns) (.slice Ab6 s.bs.length cb6) (.slice An6 s.ts.length cn6)
  have hg6 := st5_grown w9 w.heap.size 0 (.int .i64 s.nb) (.int .i64 s.nn) (.int .i64 s.ns) (.slice Ab6 s.bs.length cb6) (.slice An6 s.ts.length cn6)
  have B2u := B2.grown hg6 (by omega)
  have hBk2 := hBk.far hg6 (by omega)
  have hNt2 := hNt.far hg6 (by omega)
  have hb2 := below_grown HB hg6 (Nat.le_refl _) HB.size
  clear hg6
  obtain ⟨Wd, hWd⟩ : ∃ V : World, V = (st5 w9 w.heap.size 0 (.int .i64 s.nb) (.int .i64 s.nn) (.int .i64 s.ns) (.slice Ab6 s.bs.length cb6) (.slice An6 s.ts.length cn6)) := ⟨_, rfl⟩
  change Code.wp _ _ _ _ (st5 w9 w.heap.size 0 (.int .i64 s.nb) (.int .i64 s.nn) (.int .i64 s.ns) (.slice Ab6 s.bs.length cb6) (.slice An6 s.ts.length cn6))
  rw [← hWd] at B1u B2u hBk2 hNt2 hb2 ⊢
  clear hWd B1 B2 HB hBk hNt k0 k1 k2 k3 k4 t0 t1 t2 t3 t4 hz6
  have k0 := B1u.cell_ 0
  have k1 := B1u.cell_ 1
  have k2 := B1u.cell_ 2
  have k3 := B1u.cell_ 3
  have k4 := B1u.cell_ 4
  simp at k0 k1 k2 k3 k4
  obtain ⟨gb, hgb, hgb2⟩ : ∃ gb, Ab6 = some ⟨gb, 0, none⟩ ∧ w6.heap.size ≤ gb := by
    rcases hBk2.2 with ⟨h, h0⟩ | ⟨g, c, cu, h, hb, _⟩
    · have := HKL.out; omega
    · injection h with h1 h2 h3
      exact ⟨g, h1, hb⟩
  subst hgb
  have HW5 := Lib.hid hW5
  obtain ⟨u0, u1, x0, x1⟩ := two_cells hBk2 (bkC_two _) (k := k) (by rw [List.length_map]; exact HKL.out)
  have f1 := World.ownsRow.frozenAt hBk2 (k * 2 + 1)
  go_upto_region 12 with fail
  obtain ⟨hBw, hgw⟩ := hBk2.name_ HBB.out x
  have B1w := B1u.grown hgw (by have := HW5.out; omega)
  have B2w := B2u.grown hgw (by have := HW5.out; omega)
  have hNw := hNt2.apart hBk2 hgw
  have hbw := below_grown hb2 hgw (by have := HW5.out; omega) hb2.size
  obtain ⟨Wx, hWx⟩ : ∃ V : World, V = Wd.setCell ⟨gb, k * 2 + 1, none⟩ (.string x) := ⟨_, rfl⟩
  rw [← hWx] at hBw B1w B2w hNw hbw ⊢
  clear hWx hgw B1u B2u hNt2 hBk2 hb2 x0 x1 f1
  clear k0 k1 k2 k3 k4
  have k0 := B1w.cell_ 0
  have r0 := B2w.cell_ 0
  have t0 := B2w.free 0
  have k1 := B1w.cell_ 1
  have r1 := B2w.cell_ 1
  have t1 := B2w.free 1
  have k2 := B1w.cell_ 2
  have r2 := B2w.cell_ 2
  have t2 := B2w.free 2
  have k3 := B1w.cell_ 3
  have r3 := B2w.cell_ 3
  have t3 := B2w.free 3
  have k4 := B1w.cell_ 4
  have r4 := B2w.cell_ 4
  have t4 := B2w.free 4
  simp at k0 k1 k2 k3 k4 r0 r1 r2 r3 r4
  go_wp2_with fail
  have B2e := B2w.st5_ (.int .i64 s.nb) (.int .i64 s.nn) (.int .i64 s.ns) (.slice (some ⟨gb, 0, none⟩) s.bs.length cb6) (.slice An6 s.ts.length cn6)
  have hgE := st5_grown Wx (w.heap.size + 1) 0 (.int .i64 s.nb) (.int .i64 s.nn) (.int .i64 s.ns) (.slice (some ⟨gb, 0, none⟩) s.bs.length cb6) (.slice An6 s.ts.length cn6)
  have hBe := hBw.far hgE (by have := HW5.out; omega)
  have hNe := hNw.far hgE (by have := HW5.out; omega)
  have hbe := below_grown hbw hgE (by omega) hbw.size
  change bodyPost _ _ _ _ _ (st5 Wx (w.heap.size + 1) 0 (.int .i64 s.nb) (.int .i64 s.nn) (.int .i64 s.ns) (.slice (some ⟨gb, 0, none⟩) s.bs.length cb6) (.slice An6 s.ts.length cn6))
  clear hgE
  generalize st5 Wx (w.heap.size + 1) 0 (.int .i64 s.nb) (.int .i64 s.nn) (.int .i64 s.ns) (.slice (some ⟨gb, 0, none⟩) s.bs.length cb6) (.slice An6 s.ts.length cn6) = WF at B2e hBe hNe hbe ⊢
  apply bodyPost_ret (v := .tuple #[.agg #[.int .i64 s.nb, .int .i64 s.nn, .int .i64 s.ns, .slice (some ⟨gb, 0, none⟩) s.bs.length cb6, .slice An6 s.ts.length cn6], .int .i64 0])
  · exact results_cell1 Tryz.results31 _ WF (w.heap.size + 1) 25 _ (0, 0) _ rfl B2e Tryz.underlying25 rfl (by kernel_rfl)
  · rfl
  · exact ⟨_, rfl, ShW.base_ (by rw [HRS.out]; exact ShW.make (s := { s with bs := s.bs.set k ⟨b.id, x⟩ }) (w := WF) (base := w6.heap.size) (vb := .slice (some ⟨gb, 0, none⟩) s.bs.length cb6) (vn := .slice An6 s.ts.length cn6) hBe hNe) (by have := HW5.out; omega), hbe⟩
theorem mov_no (s : Sf) (v : Value) (y z : Int) (w : World) (hS : ShR w w.heap.size v s) (hT : Tabs w) (c : Int) (hc : movC s y z = c) (hne : c ≠ 0) :
    Calls Tryz.prog 39 #[v, .int .i64 y, .int .i64 z] w fun e' w' => e' = .returned (.tuple #[.agg #[.int .i64 0, .int .i64 0, .int .i64 0, .slice none 0 0, .slice none 0 0], .int .i64 c]) ∧ Below w.heap.size w w' := by
  have hS0 := hS
  obtain ⟨Ab, cb, An, cn, rfl, hB, hN, hcb, hmb, hcn, hmn⟩ := hS.ex
  clear hS
  obtain ⟨HB, B1, B2, S1⟩ := pre2 hS0
  have T1 := hT.next HB
  obtain ⟨M, hM⟩ : ∃ M, mayS s = M := ⟨_, rfl⟩
  obtain ⟨J, hJ⟩ : ∃ J, noteAt s y = J := ⟨_, rfl⟩
  obtain ⟨I, hI⟩ : ∃ I, bookAt s z = I := ⟨_, rfl⟩
  unfold movC at hc
  rw [hM, hI, hJ] at hc
  have HM := Lib.hid hM
  have HI := Lib.hid hI
  have HJ := Lib.hid hJ
  cases M
  · obtain rfl : c = 2 := hc.symm
    clear hS0 hT hB hN hcb hmb hcn hmn hM hI hJ
    clear hc hne
    go_enter Tryz.func39, Tryz.ntmps39
    go_wp2_with (first | (go_at_call 55; ((with_reducible refine (pNote_any s _ y _ S1).mono ?_); rintro e' w3 ⟨rfl, bx⟩; rw [HJ.out]; (try clear k0 k1 k2 k3 k4 r0 r1 r2 r3 r4 t0 t1 t2 t3 t4); obtain ⟨S1, T1, B1, B2, HB, k0, k1, k2, k3, k4, r0, r1, r2, r3, r4, t0, t1, t2, t3, t4⟩ := keepT S1 T1 B1 B2 HB bx; clear bx)) | (go_at_call 10; ((with_reducible refine (smay_any s _ _ S1 T1 _ HM.out).mono ?_); rintro e' w4 ⟨rfl, bx⟩; (try clear k0 k1 k2 k3 k4 r0 r1 r2 r3 r4 t0 t1 t2 t3 t4); obtain ⟨S1, T1, B1, B2, HB, k0, k1, k2, k3, k4, r0, r1, r2, r3, r4, t0, t1, t2, t3, t4⟩ := keepT S1 T1 B1 B2 HB bx; clear bx)))
    have B2u := z5_blk B2
    have hb2 := z5_below HB (g := w.heap.size + 1) (by omega)
    change bodyPost _ _ _ _ _ (z5 w4 (w.heap.size + 1))
    generalize z5 w4 (w.heap.size + 1) = Wd at B2u hb2 ⊢
    apply bodyPost_ret (v := .tuple #[.agg #[.int .i64 0, .int .i64 0, .int .i64 0, .slice none 0 0, .slice none 0 0], .int .i64 2])
    · exact results_cell1 Tryz.results39 _ Wd _ 25 #[.int .i64 0, .int .i64 0, .int .i64 0, .slice none 0 0, .slice none 0 0] (0, 0) _ rfl B2u Tryz.underlying25 rfl (by kernel_rfl)
    · rfl
    · exact ⟨rfl, hb2⟩
  · by_cases hj : J < 0
    · obtain rfl : c = 4 := by simpa [hj] using hc.symm
      clear hS0 hT hB hN hcb hmb hcn hmn hM hI hJ
      clear hc hne
      go_enter Tryz.func39, Tryz.ntmps39
      go_wp2_with (first | (go_at_call 55; ((with_reducible refine (pNote_any s _ y _ S1).mono ?_); rintro e' w3 ⟨rfl, bx⟩; rw [HJ.out]; (try clear k0 k1 k2 k3 k4 r0 r1 r2 r3 r4 t0 t1 t2 t3 t4); obtain ⟨S1, T1, B1, B2, HB, k0, k1, k2, k3, k4, r0, r1, r2, r3, r4, t0, t1, t2, t3, t4⟩ := keepT S1 T1 B1 B2 HB bx; clear bx)) | (go_at_call 10; ((with_reducible refine (smay_any s _ _ S1 T1 _ HM.out).mono ?_); rintro e' w4 ⟨rfl, bx⟩; (try clear k0 k1 k2 k3 k4 r0 r1 r2 r3 r4 t0 t1 t2 t3 t4); obtain ⟨S1, T1, B1, B2, HB, k0, k1, k2, k3, k4, r0, r1, r2, r3, r4, t0, t1, t2, t3, t4⟩ := keepT S1 T1 B1 B2 HB bx; clear bx)))
      have B2u := z5_blk B2
      have hb2 := z5_below HB (g := w.heap.size + 1) (by omega)
      change bodyPost _ _ _ _ _ (z5 w4 (w.heap.size + 1))
      generalize z5 w4 (w.heap.size + 1) = Wd at B2u hb2 ⊢
      apply bodyPost_ret (v := .tuple #[.agg #[.int .i64 0, .int .i64 0, .int .i64 0, .slice none 0 0, .slice none 0 0], .int .i64 4])
      · exact results_cell1 Tryz.results39 _ Wd _ 25 #[.int .i64 0, .int .i64 0, .int .i64 0, .slice none 0 0, .slice none 0 0] (0, 0) _ rfl B2u Tryz.underlying25 rfl (by kernel_rfl)
      · rfl
      · exact ⟨rfl, hb2⟩
    · by_cases hi : I < 0
      · obtain rfl : c = 4 := by simpa [hi, hj] using hc.symm
        clear hS0 hT hB hN hcb hmb hcn hmn hM hI hJ
        clear hc hne
        go_enter Tryz.func39, Tryz.ntmps39
        go_wp2_with (first | (go_at_call 55; ((with_reducible refine (pNote_any s _ y _ S1).mono ?_); rintro e' w3 ⟨rfl, bx⟩; rw [HJ.out]; (try clear k0 k1 k2 k3 k4 r0 r1 r2 r3 r4 t0 t1 t2 t3 t4); obtain ⟨S1, T1, B1, B2, HB, k0, k1, k2, k3, k4, r0, r1, r2, r3, r4, t0, t1, t2, t3, t4⟩ := keepT S1 T1 B1 B2 HB bx; clear bx)) | (go_at_call 10; ((with_reducible refine (smay_any s _ _ S1 T1 _ HM.out).mono ?_); rintro e' w4 ⟨rfl, bx⟩; (try clear k0 k1 k2 k3 k4 r0 r1 r2 r3 r4 t0 t1 t2 t3 t4); obtain ⟨S1, T1, B1, B2, HB, k0, k1, k2, k3, k4, r0, r1, r2, r3, r4, t0, t1, t2, t3, t4⟩ := keepT S1 T1 B1 B2 HB bx; clear bx)) | (go_at_call 52; ((with_reducible refine (pBook_any s _ z _ S1).mono ?_); rintro e' w5 ⟨rfl, bx⟩; rw [HI.out]; (try clear k0 k1 k2 k3 k4 r0 r1 r2 r3 r4 t0 t1 t2 t3 t4); obtain ⟨S1, T1, B1, B2, HB, k0, k1, k2, k3, k4, r0, r1, r2, r3, r4, t0, t1, t2, t3, t4⟩ := keepT S1 T1 B1 B2 HB bx; clear bx)))
        have B2u := z5_blk B2
        have hb2 := z5_below HB (g := w.heap.size + 1) (by omega)
        change bodyPost _ _ _ _ _ (z5 w5 (w.heap.size + 1))
        generalize z5 w5 (w.heap.size + 1) = Wd at B2u hb2 ⊢
        apply bodyPost_ret (v := .tuple #[.agg #[.int .i64 0, .int .i64 0, .int .i64 0, .slice none 0 0, .slice none 0 0], .int .i64 4])
        · exact results_cell1 Tryz.results39 _ Wd _ 25 #[.int .i64 0, .int .i64 0, .int .i64 0, .slice none 0 0, .slice none 0 0] (0, 0) _ rfl B2u Tryz.underlying25 rfl (by kernel_rfl)
        · rfl
        · exact ⟨rfl, hb2⟩
      · obtain ⟨k, n, hk, hn, hid⟩ := noteAt_get (s := s) (x := y) (by omega)
        have hnm : nameAt s y = n.nm := by unfold nameAt; rw [hk]; simp [hn]
        rw [hnm] at hc
        have hK : noteTk s z n.nm y = true := by
          cases h : noteTk s z n.nm y
          · rw [h] at hc
            exact absurd (by simpa [hi, hj] using hc.symm) hne
          · rfl
        rw [hK] at hc
        obtain rfl : c = 7 := by simpa [hi, hj] using hc.symm
        have hJk : J = (k : Int) := hJ.symm.trans hk
        subst hJk
        obtain ⟨es, hel, hse, hnt⟩ := hN.ex
        have hkl : k < s.ts.length := (List.getElem?_eq_some_iff.1 hn).1
        obtain ⟨e0, he⟩ : ∃ e, es[k]? = some e := ⟨_, List.getElem?_eq_getElem (by omega)⟩
        obtain ⟨At, ct, As, cs, rfl, -⟩ := (hnt k n e0 hn he).ex
        obtain ⟨b1, o1, rfl, l1, q1⟩ := hse.at_ (by omega)
        have y2 := q1 k _ he 2 _ rfl
        have HK := Lib.hid hK
        have i0 : (0 : Int) ≤ (k : Int) := by omega
        have i1 : (k : Int) < (s.ts.length : Int) := by omega
        have i2 : ¬ (k : Int) < 0 := by omega
        clear hS0 hT hB hcb hmb hcn hmn hM hI hJ hnm hid hN hel hse hnt hn he q1 hkl hk
        clear hc hne
        go_enter Tryz.func39, Tryz.ntmps39
        go_upto_region 6 with (first | (go_at_call 55; ((with_reducible refine (pNote_any s _ y _ S1).mono ?_); rintro e' w3 ⟨rfl, bx⟩; rw [HJ.out]; (try clear k0 k1 k2 k3 k4 r0 r1 r2 r3 r4 t0 t1 t2 t3 t4); obtain ⟨S1, T1, B1, B2, HB, k0, k1, k2, k3, k4, r0, r1, r2, r3, r4, t0, t1, t2, t3, t4⟩ := keepT S1 T1 B1 B2 HB bx; clear bx)) | (go_at_call 10; ((with_reducible refine (smay_any s _ _ S1 T1 _ HM.out).mono ?_); rintro e' w4 ⟨rfl, bx⟩; (try clear k0 k1 k2 k3 k4 r0 r1 r2 r3 r4 t0 t1 t2 t3 t4); obtain ⟨S1, T1, B1, B2, HB, k0, k1, k2, k3, k4, r0, r1, r2, r3, r4, t0, t1, t2, t3, t4⟩ := keepT S1 T1 B1 B2 HB bx; clear bx)) | (go_at_call 52; ((with_reducible refine (pBook_any s _ z _ S1).mono ?_); rintro e' w5 ⟨rfl, bx⟩; rw [HI.out]; (try clear k0 k1 k2 k3 k4 r0 r1 r2 r3 r4 t0 t1 t2 t3 t4); obtain ⟨S1, T1, B1, B2, HB, k0, k1, k2, k3, k4, r0, r1, r2, r3, r4, t0, t1, t2, t3, t4⟩ := keepT S1 T1 B1 B2 HB bx; clear bx)))
        have z2 := (HB.cell (p := ⟨b1, o1 + k * 5 + 2, none⟩) l1).trans y2
        have SD := S1.next (below_dr w5)
        have TD := T1.next (below_dr w5)
        have B1d := B1.below (below_dr w5) B1.lt
        have B2d := B2.below (below_dr w5) B2.lt
        have HBd := btr HB HB.size (below_dr w5)
        go_still_tail 9, (by kernel_rfl)
        change wpList _ _ _ _ _ w5.drew
        obtain ⟨wd, hwd⟩ : ∃ V : World, V = w5.drew := ⟨_, rfl⟩
        rw [← hwd] at SD TD B1d B2d HBd ⊢
        clear hwd S1 T1 B1 B2 HB z2 y2 k0 k1 k2 k3 k4 r0 r1 r2 r3 r4 t0 t1 t2 t3 t4
        have S1 := SD
        have T1 := TD
        have B1 := B1d
        have B2 := B2d
        have HB := HBd
        clear TD B1d B2d HBd
        go_wp2_with (go_at_call 69; ((with_reducible refine (nTaken_any s _ z n.nm y _ S1 _ HK.out).mono ?_); rintro e' w6 ⟨rfl, bx⟩; (try clear k0 k1 k2 k3 k4 r0 r1 r2 r3 r4 t0 t1 t2 t3 t4); obtain ⟨S1, T1, B1, B2, HB, k0, k1, k2, k3, k4, r0, r1, r2, r3, r4, t0, t1, t2, t3, t4⟩ := keepT S1 T1 B1 B2 HB bx; clear bx))
        have B2u := z5_blk B2
        have hb2 := z5_below HB (g := w.heap.size + 1) (by omega)
        change bodyPost _ _ _ _ _ (z5 w6 (w.heap.size + 1))
        generalize z5 w6 (w.heap.size + 1) = Wd at B2u hb2 ⊢
        apply bodyPost_ret (v := .tuple #[.agg #[.int .i64 0, .int .i64 0, .int .i64 0, .slice none 0 0, .slice none 0 0], .int .i64 7])
        · exact results_cell1 Tryz.results39 _ Wd _ 25 #[.int .i64 0, .int .i64 0, .int .i64 0, .slice none 0 0, .slice none 0 0] (0, 0) _ rfl B2u Tryz.underlying25 rfl (by kernel_rfl)
        · rfl
        · exact ⟨rfl, hb2⟩
theorem mov_yes (s : Sf) (v : Value) (y z : Int) (w : World) (hS : ShR w w.heap.size v s) (hT : Tabs w) (hc : movC s y z = 0) :
    Calls Tryz.prog 39 #[v, .int .i64 y, .int .i64 z] w fun e' w' => ∃ v', e' = .returned (.tuple #[v', .int .i64 0]) ∧ ShW w' w.heap.size v' (movS s y z) ∧ Below w.heap.size w w' := by
  have hS0 := hS
  obtain ⟨Ab, cb, An, cn, rfl, hB, hN, hcb, hmb, hcn, hmn⟩ := hS.ex
  clear hS
  obtain ⟨HB, B1, B2, S1⟩ := pre2 hS0
  have T1 := hT.next HB
  obtain ⟨hM, hJ, hI, hK0⟩ : mayS s = true ∧ ¬ noteAt s y < 0 ∧ ¬ bookAt s z < 0 ∧ noteTk s z (nameAt s y) y = false := by
    unfold movC at hc
    cases h1 : mayS s <;> by_cases h2 : noteAt s y < 0 <;> by_cases h3 : bookAt s z < 0 <;> cases h4 : noteTk s z (nameAt s y) y <;> rw [h1] at hc <;> simp [h2, h3, h4] at hc ⊢
    all_goals exact ⟨Int.not_lt.1 h2, Int.not_lt.1 h3⟩
  obtain ⟨k, n, hk, hn, hid⟩ := noteAt_get (Int.not_lt.1 hJ)
  have hnm : nameAt s y = n.nm := by unfold nameAt; rw [hk]; simp [hn]
  have hK : noteTk s z n.nm y = false := by rw [← hnm]; exact hK0
  have HRS : Hid (movS s y z = { s with ts := s.ts.set k { n with bk := z } }) := Lib.hid (by unfold movS; rw [hk]; simp [hn])
  obtain ⟨I, hIe⟩ : ∃ I, bookAt s z = I := ⟨_, rfl⟩
  rw [hIe] at hI
  have HI := Lib.hid hIe
  have HJ := Lib.hid hk
  have HNN := Lib.hid hn
  obtain ⟨es, hel, hse, hnt⟩ := hN.ex
  have hkl : k < s.ts.length := (List.getElem?_eq_some_iff.1 hn).1
  obtain ⟨e0, he⟩ : ∃ e, es[k]? = some e := ⟨_, List.getElem?_eq_getElem (by omega)⟩
  obtain ⟨At, ct, As, cs, rfl, -⟩ := (hnt k n e0 hn he).ex
  obtain ⟨b1, o1, rfl, l1, q1⟩ := hse.at_ (by omega)
  have y2 := q1 k _ he 2 _ rfl
  have HK := Lib.hid hK
  have i0 : (0 : Int) ≤ (k : Int) := by omega
  have i1 : (k : Int) < (s.ts.length : Int) := by omega
  have i2 : ¬ (k : Int) < 0 := by omega
  have HKL := Lib.hid hkl
  have hMF := mayF_of hM
  have hlb : s.bs.length ≤ 100000 := by have := hMF.bl; omega
  have hln : s.ts.length ≤ 100000 := by have := hMF.tl; omega
  have HM := Lib.hid hM
  have HLB := Lib.hid hlb
  have HLN := Lib.hid hln
  have HLR := Lib.hid hMF.small
  clear hM hMF hc hlb hln
  clear hS0 hT hB hcb hmb hcn hmn hJ hIe hK0 hnm hid hN hel hse hnt hn he q1 hkl hk
  go_enter Tryz.func39, Tryz.ntmps39
  go_upto_region 6 with (first | (go_at_call 55; ((with_reducible refine (pNote_any s _ y _ S1).mono ?_); rintro e' w3 ⟨rfl, bx⟩; rw [HJ.out]; (try clear k0 k1 k2 k3 k4 r0 r1 r2 r3 r4 t0 t1 t2 t3 t4); obtain ⟨S1, T1, B1, B2, HB, k0, k1, k2, k3, k4, r0, r1, r2, r3, r4, t0, t1, t2, t3, t4⟩ := keepT S1 T1 B1 B2 HB bx; clear bx)) | (go_at_call 10; ((with_reducible refine (smay_any s _ _ S1 T1 _ HM.out).mono ?_); rintro e' w4 ⟨rfl, bx⟩; (try clear k0 k1 k2 k3 k4 r0 r1 r2 r3 r4 t0 t1 t2 t3 t4); obtain ⟨S1, T1, B1, B2, HB, k0, k1, k2, k3, k4, r0, r1, r2, r3, r4, t0, t1, t2, t3, t4⟩ := keepT S1 T1 B1 B2 HB bx; clear bx)) | (go_at_call 52; ((with_reducible refine (pBook_any s _ z _ S1).mono ?_); rintro e' w5 ⟨rfl, bx⟩; rw [HI.out]; (try clear k0 k1 k2 k3 k4 r0 r1 r2 r3 r4 t0 t1 t2 t3 t4); obtain ⟨S1, T1, B1, B2, HB, k0, k1, k2, k3, k4, r0, r1, r2, r3, r4, t0, t1, t2, t3, t4⟩ := keepT S1 T1 B1 B2 HB bx; clear bx)))
  have z2 := (HB.cell (p := ⟨b1, o1 + k * 5 + 2, none⟩) l1).trans y2
  have SD := S1.next (below_dr w5)
  have TD := T1.next (below_dr w5)
  have B1d := B1.below (below_dr w5) B1.lt
  have B2d := B2.below (below_dr w5) B2.lt
  have HBd := btr HB HB.size (below_dr w5)
  go_still_tail 9, (by kernel_rfl)
  change wpList _ _ _ _ _ w5.drew
  obtain ⟨wd, hwd⟩ : ∃ V : World, V = w5.drew := ⟨_, rfl⟩
  rw [← hwd] at SD TD B1d B2d HBd ⊢
  clear hwd S1 T1 B1 B2 HB z2 y2 k0 k1 k2 k3 k4 r0 r1 r2 r3 r4 t0 t1 t2 t3 t4
  have S1 := SD
  have T1 := TD
  have B1 := B1d
  have B2 := B2d
  have HB := HBd
  clear TD B1d B2d HBd
  go_upto_region 8 with (go_at_call 69; ((with_reducible refine (nTaken_any s _ z n.nm y _ S1 _ HK.out).mono ?_); rintro e' w6 ⟨rfl, bx⟩; (try clear k0 k1 k2 k3 k4 r0 r1 r2 r3 r4 t0 t1 t2 t3 t4); obtain ⟨S1, T1, B1, B2, HB, k0, k1, k2, k3, k4, r0, r1, r2, r3, r4, t0, t1, t2, t3, t4⟩ := keepT S1 T1 B1 B2 HB bx; clear bx))
  have hW5 : w.heap.size + 2 ≤ w6.heap.size := by have := B2.lt; omega
  go_upto_region 9 with (go_at_call 63; ((with_reducible refine (clone_any s _ _ S1 HLB.out HLN.out HLR.out).mono ?_); rintro e' w9 ⟨v6, rfl, hQ, b6⟩; obtain ⟨Ab6, cb6, An6, cn6, rfl, hBk, hNt, q1, q2, q3, q4⟩ := hQ.parts; have B1 := B1.below b6 B1.lt; have B2 := B2.below b6 B2.lt; have HB := btr HB HB.size b6; have hz6 := b6.size; (try clear k0 k1 k2 k3 k4 r0 r1 r2 r3 r4 t0 t1 t2 t3 t4); have k0 := B1.cell_ 0; have t0 := B1.free 0; have k1 := B1.cell_ 1; have t1 := B1.free 1; have k2 := B1.cell_ 2; have t2 := B1.free 2; have k3 := B1.cell_ 3; have t3 := B1.free 3; have k4 := B1.cell_ 4; have t4 := B1.free 4; simp at k0 k1 k2 k3 k4; clear b6 hQ S1 T1))
  have B1u := B1.st5_ (.int .i64 s.nb) (.int .i64 s.nn) (.int .i64 s.ns) (.slice Ab6 s.bs.length cb6) (.slice An6 s.ts.length cn6)
  have hg6 := st5_grown w9 w.heap.size 0 (.int .i64 s.nb) (.int .i64 s.nn) (.int .i64 s.ns) (.slice Ab6 s.bs.length cb6) (.slice An6 s.ts.length cn6)
  have B2u := B2.grown hg6 (by omega)
  have hBk2 := hBk.far hg6 (by omega)
  have hNt2 := hNt.far hg6 (by omega)
  have hb2 := below_grown HB hg6 (Nat.le_refl _) HB.size
  clear hg6
  obtain ⟨Wd, hWd⟩ : ∃ V : World, V = (st5 w9 w.heap.size 0 (.int .i64 s.nb) (.int .i64 s.nn) (.int .i64 s.ns) (.slice Ab6 s.bs.length cb6) (.slice An6 s.ts.length cn6)) := ⟨_, rfl⟩
  change Code.wp _ _ _ _ (st5 w9 w.heap.size 0 (.int .i64 s.nb) (.int .i64 s.nn) (.int .i64 s.ns) (.slice Ab6 s.bs.length cb6) (.slice An6 s.ts.length cn6))
  rw [← hWd] at B1u B2u hBk2 hNt2 hb2 ⊢
  clear hWd B1 B2 HB hBk hNt k0 k1 k2 k3 k4 t0 t1 t2 t3 t4 hz6
  have k0 := B1u.cell_ 0
  have k1 := B1u.cell_ 1
  have k2 := B1u.cell_ 2
  have k3 := B1u.cell_ 3
  have k4 := B1u.cell_ 4
  simp at k0 k1 k2 k3 k4
  obtain ⟨gb, hgb, hgb2⟩ : ∃ gb, An6 = some ⟨gb, 0, none⟩ ∧ w6.heap.size ≤ gb := by
    obtain ⟨es9, h8, h9, _⟩ := hNt2
    rcases h9.2 with ⟨h, h0⟩ | ⟨g, c, cu, h, hb, _⟩
    · have := HKL.out; omega
    · injection h with h1 h2 h3
      exact ⟨g, h1, hb⟩
  subst hgb
  have HW5 := Lib.hid hW5
  have hNt3 := hNt2
  obtain ⟨es9, h8, h9, h10⟩ := hNt3
  obtain ⟨u0, u1, u2, u3, u4, x0, x1, x2, x3, x4⟩ := five_cells h9 (es_five h8 h10) (k := k) (by have := HKL.out; omega)
  have f1 := World.ownsRow.frozenAt h9 (k * 5 + 1)
  go_upto_region 10 with fail
  obtain ⟨hNw, hgw⟩ := hNt2.book_ HNN.out z
  have B1w := B1u.grown hgw (by have := HW5.out; omega)
  have B2w := B2u.grown hgw (by have := HW5.out; omega)
  have hBw := hBk2.apartN h9 hgw
  have hbw := below_grown hb2 hgw (by have := HW5.out; omega) hb2.size
  obtain ⟨Wx, hWx⟩ : ∃ V : World, V = Wd.setCell ⟨gb, k * 5 + 1, none⟩ (.int .i64 z) := ⟨_, rfl⟩
  rw [← hWx] at hBw B1w B2w hNw hbw ⊢
  clear hWx hgw B1u B2u hNt2 hBk2 hb2 x0 x1 x2 x3 x4 f1 h8 h9 h10
  clear k0 k1 k2 k3 k4
  have k0 := B1w.cell_ 0
  have r0 := B2w.cell_ 0
  have t0 := B2w.free 0
  have k1 := B1w.cell_ 1
  have r1 := B2w.cell_ 1
  have t1 := B2w.free 1
  have k2 := B1w.cell_ 2
  have r2 := B2w.cell_ 2
  have t2 := B2w.free 2
  have k3 := B1w.cell_ 3
  have r3 := B2w.cell_ 3
  have t3 := B2w.free 3
  have k4 := B1w.cell_ 4
  have r4 := B2w.cell_ 4
  have t4 := B2w.free 4
  simp at k0 k1 k2 k3 k4 r0 r1 r2 r3 r4
  go_wp2_with fail
  have B2e := B2w.st5_ (.int .i64 s.nb) (.int .i64 s.nn) (.int .i64 s.ns) (.slice Ab6 s.bs.length cb6) (.slice (some ⟨gb, 0, none⟩) s.ts.length cn6)
  have hgE := st5_grown Wx (w.heap.size + 1) 0 (.int .i64 s.nb) (.int .i64 s.nn) (.int .i64 s.ns) (.slice Ab6 s.bs.length cb6) (.slice (some ⟨gb, 0, none⟩) s.ts.length cn6)
  have hBe := hBw.far hgE (by have := HW5.out; omega)
  have hNe := hNw.far hgE (by have := HW5.out; omega)
  have hbe := below_grown hbw hgE (by omega) hbw.size
  change bodyPost _ _ _ _ _ (st5 Wx (w.heap.size + 1) 0 (.int .i64 s.nb) (.int .i64 s.nn) (.int .i64 s.ns) (.slice Ab6 s.bs.length cb6) (.slice (some ⟨gb, 0, none⟩) s.ts.length cn6))
  clear hgE
  generalize st5 Wx (w.heap.size + 1) 0 (.int .i64 s.nb) (.int .i64 s.nn) (.int .i64 s.ns) (.slice Ab6 s.bs.length cb6) (.slice (some ⟨gb, 0, none⟩) s.ts.length cn6) = WF at B2e hBe hNe hbe ⊢
  apply bodyPost_ret (v := .tuple #[.agg #[.int .i64 s.nb, .int .i64 s.nn, .int .i64 s.ns, .slice Ab6 s.bs.length cb6, .slice (some ⟨gb, 0, none⟩) s.ts.length cn6], .int .i64 0])
  · exact results_cell1 Tryz.results39 _ WF (w.heap.size + 1) 25 _ (0, 0) _ rfl B2e Tryz.underlying25 rfl (by kernel_rfl)
  · rfl
  · exact ⟨_, rfl, ShW.base_ (by rw [HRS.out]; exact ShW.make (s := { s with ts := s.ts.set k { n with bk := z } }) (w := WF) (base := w6.heap.size) (vb := .slice Ab6 s.bs.length cb6) (vn := .slice (some ⟨gb, 0, none⟩) s.ts.length cn6) hBe hNe) (by have := HW5.out; omega), hbe⟩
end Go.Proofs.YtokhapafpjejaaaGreatDoor
namespace Go.Proofs.YtokhapafpjejaaaGreatDoor
open Go.ChangeShapes Go.WideShapes Go.ChangeAt Go.RowKit
attribute [local go_sem ↓] Go.wp_at_zero Go.wp_at_succ
structure MkF (s : Sf) (x : ByteArray) : Prop where
  may : MayF s
  nm : mayN x = true
  tk : bookTk s x 0 = false
  bl : s.bs.length < 6
  nb : s.nb < 65536
theorem mkF_of {s : Sf} {x : ByteArray} (hc : makeC s x = 0) : MkF s x := by
  have : mayS s = true ∧ mayN x = true ∧ bookTk s x 0 = false ∧ fullB s = false := by
    unfold makeC at hc
    cases h1 : mayS s <;> cases h2 : mayN x <;> cases h3 : bookTk s x 0 <;> cases h4 : fullB s <;> rw [h1] at hc <;> simp [h2, h3, h4] at hc ⊢
  obtain ⟨h1, h2, h3, h4⟩ := this
  unfold fullB at h4
  rw [Bool.or_eq_false_iff, decide_eq_false_iff_not, decide_eq_false_iff_not] at h4
  exact ⟨mayF_of h1, h2, h3, by omega, by omega⟩
theorem tkB_iff {s : Sf} {x : ByteArray} {y : Int} : bookTk s x y = false ↔ ∀ b ∈ s.bs, b.nm.toList = x.toList → b.id = y := by
  unfold bookTk
  rw [List.any_eq_false]
  constructor
  · intro h b hb he
    have := h b hb
    simpa [sameS, he] using this
  · intro h b hb
    simp only [sameS, Bool.and_eq_true, beq_iff_eq, bne_iff_ne, ne_eq, not_and, Decidable.not_not]
    exact h b hb
theorem tkN_iff {s : Sf} {z : Int} {x : ByteArray} {y : Int} : noteTk s z x y = false ↔ ∀ n ∈ s.ts, n.bk = z → n.nm.toList = x.toList → n.id = y := by
  unfold noteTk
  rw [List.any_eq_false]
  constructor
  · intro h n hn hb he
    have := h n hn
    simpa [sameS, he, hb] using this
  · intro h n hn
    simp only [sameS, Bool.and_eq_true, beq_iff_eq, bne_iff_ne, ne_eq, not_and, Decidable.not_not]
    exact h n hn
theorem mayNt_iff {s : Sf} {n : Nt} : mayNt s n = true ↔ mayN n.nm = true ∧ (∃ b ∈ s.bs, b.id = n.bk) ∧ noteTk s n.bk n.nm n.id = false ∧ mayTg n.tg = true := by
  unfold mayNt
  simp only [Bool.and_eq_true, Bool.not_eq_true', decide_eq_true_eq]
  rw [book_is]
theorem MkF.may2 {s : Sf} {x : ByteArray} (h : MkF s x) : MayF (makeS s x) := by
  have hF := h.may
  have hnb := hF.nb
  have hone : ∀ b ∈ s.bs, 0 < b.id ∧ b.id ≤ s.nb - 1 := fun b hb => ⟨(hF.bs b hb).1, (hF.bs b hb).2.1⟩
  have hno : ∀ b ∈ s.bs, b.nm.toList ≠ x.toList := fun b hb he => by
    have h1 := tkB_iff.1 h.tk b hb he
    have h2 := hone b hb
    omega
  have hlt := h.nb
  refine ⟨⟨by show 1 ≤ s.nb + 1; omega, by show s.nb + 1 ≤ 65536; omega⟩, hF.nn, hF.ns, by show (s.bs ++ [_]).length ≤ 6; rw [List.length_append]; have := h.bl; simp; omega, hF.tl, fun b hb => ?_, ?_, fun n hn => ⟨(hF.ts n hn).1, (hF.ts n hn).2.1, ?_⟩, hF.tord, hF.sh⟩
  · have hb' : b ∈ s.bs ++ [⟨s.nb, x⟩] := hb
    have htk : bookTk (makeS s x) b.nm b.id = false := by
      rw [tkB_iff]
      intro c hc he
      have hc' : c ∈ s.bs ++ [⟨s.nb, x⟩] := hc
      rcases List.mem_append.1 hb' with hb1 | hb1 <;> rcases List.mem_append.1 hc' with hc1 | hc1
      · exact hF.names hc1 hb1 he
      · rw [List.mem_singleton] at hc1
        subst hc1
        exact absurd he.symm (hno b hb1)
      · rw [List.mem_singleton] at hb1
        subst hb1
        exact absurd he (hno c hc1)
      · rw [List.mem_singleton] at hb1 hc1
        rw [hb1, hc1]
    rcases List.mem_append.1 hb' with hb1 | hb1
    · have h2 := hF.bs b hb1
      exact ⟨h2.1, by show b.id ≤ s.nb + 1 - 1; omega, h2.2.2.1, htk⟩
    · rw [List.mem_singleton] at hb1
      subst hb1
      exact ⟨by show 0 < s.nb; omega, by show s.nb ≤ s.nb + 1 - 1; omega, h.nm, htk⟩
  · show (s.bs ++ [(⟨s.nb, x⟩ : Bk)]).Pairwise _
    rw [List.pairwise_append]
    refine ⟨hF.bo, List.pairwise_singleton _ _, fun a ha b hb => ?_⟩
    rw [List.mem_singleton] at hb
    subst hb
    have := hone a ha
    show a.id < s.nb
    omega
  · obtain ⟨q1, ⟨b, hb, hbe⟩, q3, q4⟩ := mayNt_iff.1 (hF.ts n hn).2.2
    exact mayNt_iff.2 ⟨q1, ⟨b, List.mem_append_left _ hb, hbe⟩, q3, q4⟩
theorem MkF.drop {s : Sf} {x : ByteArray} (h : MkF s x) : dropC (makeS s x) s.nb = 0 ∧ { dropS (makeS s x) s.nb with nb := s.nb } = s := by
  have hF := h.may
  have h0 : 0 ≤ bookAt (makeS s x) s.nb := (book_is _).2 ⟨⟨s.nb, x⟩, List.mem_append_right _ (by simp), rfl⟩
  constructor
  · unfold dropC
    rw [mayS_conv h.may2, decide_eq_false (by omega)]
    rfl
  · have e1 : (s.bs ++ [(⟨s.nb, x⟩ : Bk)]).filter (fun b => !(b.id == s.nb)) = s.bs := by
      rw [List.filter_append]
      have : s.bs.filter (fun b => !(b.id == s.nb)) = s.bs := by
        rw [List.filter_eq_self]
        intro b hb
        have := (hF.bs b hb).2.1
        have hne : b.id ≠ s.nb := by omega
        simp [hne]
      rw [this]
      simp
    have e2 : s.ts.filter (fun n => !(n.bk == s.nb)) = s.ts := by
      rw [List.filter_eq_self]
      intro n hn
      obtain ⟨b, hb, he⟩ := (mayNt_iff.1 (hF.ts n hn).2.2).2.1
      have := (hF.bs b hb).2.1
      have hne : n.bk ≠ s.nb := by omega
      simp [hne]
    show (⟨s.nb, s.nn, s.ns, (s.bs ++ [(⟨s.nb, x⟩ : Bk)]).filter (fun b => !(b.id == s.nb)), s.ts.filter (fun n => !(n.bk == s.nb))⟩ : Sf) = s
    rw [e1, e2]
theorem renS_at {s : Sf} {y : Int} {x : ByteArray} {k : Nat} (h : bookAt s y = (k : Int)) : renS s y x = { s with bs := s.bs.set k ⟨y, x⟩ } := by
  unfold renS
  rw [h]
  rfl
theorem movS_at {s : Sf} {y z : Int} {k : Nat} {n : Nt} (h : noteAt s y = (k : Int)) (hn : s.ts[k]? = some n) : movS s y z = { s with ts := s.ts.set k { n with bk := z } } := by
  unfold movS
  rw [h]
  simp [hn]
structure RnF (s : Sf) (y : Int) (x : ByteArray) (k : Nat) (b : Bk) : Prop where
  may : MayF s
  at_ : bookAt s y = (k : Int)
  bk : s.bs[k]? = some b
  id : b.id = y
  nm : mayN x = true
  tk : bookTk s x y = false
theorem rnF_of {s : Sf} {y : Int} {x : ByteArray} (hc : renC s y x = 0) : ∃ k b, RnF s y x k b := by
  have : mayS s = true ∧ ¬ bookAt s y < 0 ∧ mayN x = true ∧ bookTk s x y = false := by
    unfold renC at hc
    cases h1 : mayS s <;> by_cases h2 : bookAt s y < 0 <;> cases h3 : mayN x <;> cases h4 : bookTk s x y <;> rw [h1] at hc <;> simp [h2, h3, h4] at hc ⊢
    all_goals exact Int.not_lt.1 h2
  obtain ⟨h1, h2, h3, h4⟩ := this
  obtain ⟨k, b, hk, hb, hid⟩ := bookAt_get (Int.not_lt.1 h2)
  exact ⟨k, b, mayF_of h1, hk, hb, hid, h3, h4⟩
theorem RnF.eq {s : Sf} {y : Int} {x : ByteArray} {k : Nat} {b : Bk} (h : RnF s y x k b) : renS s y x = { s with bs := s.bs.set k ⟨y, x⟩ } := by
  unfold renS
  rw [h.at_]
  rfl
theorem set_mem {α : Type} {l : List α} {k : Nat} {a c : α} (h : c ∈ l.set k a) : c = a ∨ ∃ j, j ≠ k ∧ l[j]? = some c := by
  obtain ⟨j, hj, he⟩ := List.mem_iff_getElem.1 h
  have h1 := List.getElem?_eq_getElem hj
  rw [he, List.getElem?_set] at h1
  split at h1
  · rename_i hjk
    left
    split at h1
    · exact (Option.some.inj h1).symm
    · cases h1
  · rename_i hjk
    exact Or.inr ⟨j, fun e => hjk e.symm, h1⟩
theorem set_ids {l : List Bk} {k : Nat} {b : Bk} {x : ByteArray} (hb : l[k]? = some b) : (l.set k ⟨b.id, x⟩).map Bk.id = l.map Bk.id := by
  rw [List.map_set]
  apply List.ext_getElem?
  intro j
  rw [List.getElem?_set, List.getElem?_map]
  split
  · rename_i h
    subst h
    rw [hb]
    have := (List.getElem?_eq_some_iff.1 hb).1
    simp [this]
  · rfl
theorem RnF.may2 {s : Sf} {y : Int} {x : ByteArray} {k : Nat} {b : Bk} (h : RnF s y x k b) : MayF (renS s y x) := by
  have hF := h.may
  rw [h.eq]
  have hbm := List.mem_of_getElem? h.bk
  have hids := set_ids (x := x) h.bk
  rw [h.id] at hids
  have hmem : ∀ c ∈ s.bs.set k ⟨y, x⟩, (c = ⟨y, x⟩) ∨ (c ∈ s.bs ∧ c.id ≠ y) := by
    intro c hc
    rcases set_mem hc with h1 | ⟨j, hj, he⟩
    · exact Or.inl h1
    · refine Or.inr ⟨List.mem_of_getElem? he, fun e => hj ?_⟩
      have hcb := hF.bidinj (List.mem_of_getElem? he) hbm (e.trans h.id.symm)
      obtain ⟨h1, e1⟩ := List.getElem?_eq_some_iff.1 he
      obtain ⟨h2, e2⟩ := List.getElem?_eq_some_iff.1 h.bk
      rcases Nat.lt_trichotomy j k with hlt | rfl | hlt
      · have := List.pairwise_iff_getElem.1 hF.bo j k h1 h2 hlt
        rw [e1, e2, hcb] at this
        omega
      · rfl
      · have := List.pairwise_iff_getElem.1 hF.bo k j h2 h1 hlt
        rw [e1, e2, hcb] at this
        omega
  refine ⟨hF.nb, hF.nn, hF.ns, by show (s.bs.set k _).length ≤ 6; rw [List.length_set]; exact hF.bl, hF.tl, fun c hc => ?_, ?_, fun n hn => ⟨(hF.ts n hn).1, (hF.ts n hn).2.1, ?_⟩, hF.tord, hF.sh⟩
  · have hc0 : c ∈ s.bs.set k ⟨y, x⟩ := hc
    have htk : bookTk { s with bs := s.bs.set k ⟨y, x⟩ } c.nm c.id = false := by
      rw [tkB_iff]
      intro d hd he
      rcases hmem d hd with rfl | ⟨hd1, hd2⟩ <;> rcases hmem c hc0 with rfl | ⟨hc1, hc2⟩
      · rfl
      · exact absurd (tkB_iff.1 h.tk c hc1 he.symm) hc2
      · exact absurd (tkB_iff.1 h.tk d hd1 he) hd2
      · exact hF.names hd1 hc1 he
    rcases hmem c hc0 with rfl | ⟨hc1, hc2⟩
    · have h2 := hF.bs b hbm
      rw [h.id] at h2
      exact ⟨h2.1, h2.2.1, h.nm, htk⟩
    · have h2 := hF.bs c hc1
      exact ⟨h2.1, h2.2.1, h2.2.2.1, htk⟩
  · have h1 : (s.bs.map Bk.id).Pairwise (· < ·) := List.pairwise_map.2 hF.bo
    rw [← hids] at h1
    exact List.pairwise_map.1 h1
  · obtain ⟨q1, ⟨c, hc, hce⟩, q3, q4⟩ := mayNt_iff.1 (hF.ts n hn).2.2
    have : n.bk ∈ (s.bs.set k ⟨y, x⟩).map Bk.id := by
      rw [hids]
      exact List.mem_map.2 ⟨c, hc, hce⟩
    obtain ⟨d, hd, hde⟩ := List.mem_map.1 this
    exact mayNt_iff.2 ⟨q1, ⟨d, hd, hde⟩, q3, q4⟩
theorem RnF.back {s : Sf} {y : Int} {x : ByteArray} {k : Nat} {b : Bk} (h : RnF s y x k b) : renC (renS s y x) y b.nm = 0 ∧ renS (renS s y x) y b.nm = s := by
  have hF := h.may
  have hbm := List.mem_of_getElem? h.bk
  have hids := set_ids (x := x) h.bk
  rw [h.id] at hids
  have hlt := (List.getElem?_eq_some_iff.1 h.bk).1
  have hidx : bookAt (renS s y x) y = (k : Int) := by
    have h1 : ∀ l : List Bk, idxP (fun b : Bk => b.id == y) l = idxP (fun i : Int => i == y) (l.map Bk.id) := by
      intro l
      unfold idxP
      rw [List.findIdx?_map]
      rfl
    show idxP _ (renS s y x).bs = _
    rw [h.eq, h1]
    show idxP _ ((s.bs.set k ⟨y, x⟩).map Bk.id) = _
    rw [hids, ← h1]
    exact h.at_
  constructor
  · unfold renC
    rw [mayS_conv h.may2, hidx, decide_eq_false (by omega), (hF.bs b hbm).2.2.1]
    have : bookTk (renS s y x) b.nm y = false := by
      rw [tkB_iff, h.eq]
      intro d hd he
      rcases set_mem hd with rfl | ⟨j, hj, hje⟩
      · rfl
      · have := hF.names (List.mem_of_getElem? hje) hbm he
        rw [this, h.id]
    rw [this]
    rfl
  · have : renS (renS s y x) y b.nm = { renS s y x with bs := (renS s y x).bs.set k ⟨y, b.nm⟩ } := renS_at hidx
    rw [this, h.eq]
    show ({ s with bs := (s.bs.set k ⟨y, x⟩).set k ⟨y, b.nm⟩ } : Sf) = s
    rw [List.set_set]
    have hbe : (⟨y, b.nm⟩ : Bk) = b := by rw [← h.id]
    rw [hbe]
    have : s.bs.set k b = s.bs := by
      obtain ⟨h1, e1⟩ := List.getElem?_eq_some_iff.1 h.bk
      rw [← e1]
      exact List.set_getElem_self h1
    rw [this]
structure MvF (s : Sf) (y z : Int) (k : Nat) (n : Nt) : Prop where
  may : MayF s
  at_ : noteAt s y = (k : Int)
  nt : s.ts[k]? = some n
  id : n.id = y
  bk : ∃ b ∈ s.bs, b.id = z
  tk : noteTk s z n.nm y = false
theorem mvF_of {s : Sf} {y z : Int} (hc : movC s y z = 0) : ∃ k n, MvF s y z k n := by
  have : mayS s = true ∧ ¬ noteAt s y < 0 ∧ ¬ bookAt s z < 0 ∧ noteTk s z (nameAt s y) y = false := by
    unfold movC at hc
    cases h1 : mayS s <;> by_cases h2 : noteAt s y < 0 <;> by_cases h3 : bookAt s z < 0 <;> cases h4 : noteTk s z (nameAt s y) y <;> rw [h1] at hc <;> simp [h2, h3, h4] at hc ⊢
    all_goals exact ⟨Int.not_lt.1 h2, Int.not_lt.1 h3⟩
  obtain ⟨h1, h2, h3, h4⟩ := this
  obtain ⟨k, n, hk, hn, hid⟩ := noteAt_get (Int.not_lt.1 h2)
  have hnm : nameAt s y = n.nm := by unfold nameAt; rw [hk]; simp [hn]
  rw [hnm] at h4
  exact ⟨k, n, mayF_of h1, hk, hn, hid, (book_is _).1 (Int.not_lt.1 h3), h4⟩
theorem MvF.eq {s : Sf} {y z : Int} {k : Nat} {n : Nt} (h : MvF s y z k n) : movS s y z = { s with ts := s.ts.set k { n with bk := z } } := by
  unfold movS
  rw [h.at_]
  simp [h.nt]
theorem setN_map {β : Type} {l : List Nt} {k : Nat} {n : Nt} {z : Int} (f : Nt → β) (hf : f { n with bk := z } = f n) (hn : l[k]? = some n) : (l.set k { n with bk := z }).map f = l.map f := by
  rw [List.map_set, hf]
  apply List.ext_getElem?
  intro j
  rw [List.getElem?_set, List.getElem?_map]
  split
  · rename_i h
    subst h
    rw [hn]
    have := (List.getElem?_eq_some_iff.1 hn).1
    simp [this]
  · rfl
theorem MvF.may2 {s : Sf} {y z : Int} {k : Nat} {n : Nt} (h : MvF s y z k n) : MayF (movS s y z) := by
  have hF := h.may
  rw [h.eq]
  have hnm := List.mem_of_getElem? h.nt
  have hmem : ∀ c ∈ s.ts.set k { n with bk := z }, (c = { n with bk := z }) ∨ (c ∈ s.ts ∧ c.id ≠ y) := by
    intro c hc
    rcases set_mem hc with h1 | ⟨j, hj, he⟩
    · exact Or.inl h1
    · refine Or.inr ⟨List.mem_of_getElem? he, fun e => hj ?_⟩
      have hcb := hF.idinj (List.mem_of_getElem? he) hnm (e.trans h.id.symm)
      obtain ⟨h1, e1⟩ := List.getElem?_eq_some_iff.1 he
      obtain ⟨h2, e2⟩ := List.getElem?_eq_some_iff.1 h.nt
      rcases Nat.lt_trichotomy j k with hlt | rfl | hlt
      · have := List.pairwise_iff_getElem.1 hF.tord j k h1 h2 hlt
        rw [e1, e2, hcb] at this
        omega
      · rfl
      · have := List.pairwise_iff_getElem.1 hF.tord k j h2 h1 hlt
        rw [e1, e2, hcb] at this
        omega
  obtain ⟨q1, q2, q3⟩ := (sh_iff _ _ _).1 hF.sh
  have hfm : (s.ts.set k { n with bk := z }).flatMap Nt.sh = s.ts.flatMap Nt.sh := by
    rw [List.flatMap_def, List.flatMap_def, setN_map Nt.sh rfl h.nt]
  refine ⟨hF.nb, hF.nn, hF.ns, hF.bl, by show (s.ts.set k _).length ≤ 12; rw [List.length_set]; exact hF.tl, hF.bs, hF.bo, fun c hc => ?_, ?_, ?_⟩
  · have hc0 : c ∈ s.ts.set k { n with bk := z } := hc
    have htk : ∀ c ∈ s.ts.set k { n with bk := z }, noteTk { s with ts := s.ts.set k { n with bk := z } } c.bk c.nm c.id = false := by
      intro c hc
      rw [tkN_iff]
      intro d hd hdb he
      rcases hmem d hd with rfl | ⟨hd1, hd2⟩ <;> rcases hmem c hc with rfl | ⟨hc1, hc2⟩
      · rfl
      · exact absurd (tkN_iff.1 h.tk c hc1 hdb.symm he.symm) hc2
      · exact absurd (tkN_iff.1 h.tk d hd1 hdb he) hd2
      · exact hF.nnames hd1 hc1 hdb he
    rcases hmem c hc0 with rfl | ⟨hc1, hc2⟩
    · have h2 := hF.ts n hnm
      obtain ⟨m1, m2, m3, m4⟩ := mayNt_iff.1 h2.2.2
      exact ⟨h2.1, h2.2.1, mayNt_iff.2 ⟨m1, h.bk, htk _ hc0, m4⟩⟩
    · have h2 := hF.ts c hc1
      obtain ⟨m1, m2, m3, m4⟩ := mayNt_iff.1 h2.2.2
      exact ⟨h2.1, h2.2.1, mayNt_iff.2 ⟨m1, m2, htk _ hc0, m4⟩⟩
  · have h1 : (s.ts.map Nt.id).Pairwise (· < ·) := List.pairwise_map.2 hF.tord
    rw [← setN_map Nt.id rfl h.nt (z := z)] at h1
    exact List.pairwise_map.1 h1
  · refine (sh_iff _ _ _).2 ⟨fun c hc => ?_, ?_, ?_⟩
    · rcases hmem c hc with rfl | ⟨hc1, _⟩
      · exact q1 n hnm
      · exact q1 c hc1
    · show ∀ x ∈ (s.ts.set k { n with bk := z }).flatMap Nt.sh, _
      rw [hfm]
      exact q2
    · show ((s.ts.set k { n with bk := z }).flatMap Nt.sh).Nodup
      rw [hfm]
      exact q3
theorem MvF.back {s : Sf} {y z : Int} {k : Nat} {n : Nt} (h : MvF s y z k n) : movC (movS s y z) y n.bk = 0 ∧ movS (movS s y z) y n.bk = s := by
  have hF := h.may
  have hnm := List.mem_of_getElem? h.nt
  have hlt := (List.getElem?_eq_some_iff.1 h.nt).1
  have hidx : noteAt (movS s y z) y = (k : Int) := by
    have h1 : ∀ l : List Nt, idxP (fun b : Nt => b.id == y) l = idxP (fun i : Int => i == y) (l.map Nt.id) := by
      intro l
      unfold idxP
      rw [List.findIdx?_map]
      rfl
    show idxP _ (movS s y z).ts = _
    rw [h.eq, h1]
    show idxP _ ((s.ts.set k { n with bk := z }).map Nt.id) = _
    rw [setN_map Nt.id rfl h.nt, ← h1]
    exact h.at_
  have hget : (movS s y z).ts[k]? = some { n with bk := z } := by
    rw [h.eq]
    show (s.ts.set k { n with bk := z })[k]? = _
    rw [List.getElem?_set_self hlt]
  have hnam : nameAt (movS s y z) y = n.nm := by
    unfold nameAt
    rw [hidx]
    simp [hget]
  obtain ⟨m1, m2, m3, m4⟩ := mayNt_iff.1 (hF.ts n hnm).2.2
  constructor
  · have hbk : 0 ≤ bookAt (movS s y z) n.bk := by
      rw [h.eq]
      exact (book_is (s := { s with ts := s.ts.set k { n with bk := z } }) _).2 m2
    have htk : noteTk (movS s y z) n.bk n.nm y = false := by
      rw [tkN_iff, h.eq]
      intro d hd hdb he
      rcases set_mem hd with rfl | ⟨j, hj, hje⟩
      · exact h.id
      · have := tkN_iff.1 m3 d (List.mem_of_getElem? hje) hdb he
        rw [this, h.id]
    unfold movC
    rw [mayS_conv h.may2, hidx, hnam, htk, decide_eq_false (by omega), decide_eq_false (by omega)]
    rfl
  · have : movS (movS s y z) y n.bk = { movS s y z with ts := (movS s y z).ts.set k { n with bk := n.bk } } := by
      have := movS_at (z := n.bk) hidx hget
      exact this
    rw [this, h.eq]
    show ({ s with ts := (s.ts.set k { n with bk := z }).set k { n with bk := n.bk } } : Sf) = s
    rw [List.set_set]
    have : s.ts.set k { n with bk := n.bk } = s.ts := by
      obtain ⟨h1, e1⟩ := List.getElem?_eq_some_iff.1 h.nt
      have e2 : ({ n with bk := n.bk } : Nt) = n := rfl
      rw [e2, ← e1]
      exact List.set_getElem_self h1
    rw [this]
end Go.Proofs.YtokhapafpjejaaaGreatDoor
namespace Go.Proofs.YtokhapafpjejaaaGreatDoor
open Go.ChangeShapes Go.WideShapes Go.ChangeAt Go.RowKit
attribute [local go_sem ↓] Go.wp_at_zero Go.wp_at_succ
theorem bkOk_iff {s : Sf} : ∀ (l pre : List Bk), bkOk s pre l = true ↔ (∀ b ∈ l, 1 ≤ b.id ∧ b.id < s.nb ∧ mayN b.nm = true) ∧ (∀ a, pre.getLast? = some a → ∀ b ∈ l, a.id < b.id) ∧ (l.Pairwise fun a b => a.id < b.id) ∧ (l.Pairwise fun a b => sameS a.nm b.nm = false) ∧ ∀ a ∈ pre, ∀ b ∈ l, sameS a.nm b.nm = false
  | [], pre => by simp [bkOk]
  | x :: l, pre => by
    have ih := bkOk_iff (s := s) l (pre ++ [x])
    have hp : prevOk pre x = true ↔ ∀ a, pre.getLast? = some a → a.id < x.id := by
      unfold prevOk
      cases pre.getLast? with
      | none => simp
      | some p => simp
    show (decide (1 ≤ x.id) && (decide (x.id < s.nb) && (prevOk pre x && (mayN x.nm && (!pre.any (fun c => sameS c.nm x.nm) && bkOk s (pre ++ [x]) l))))) = true ↔ _
    rw [Bool.and_eq_true, Bool.and_eq_true, Bool.and_eq_true, Bool.and_eq_true, Bool.and_eq_true, ih, hp, decide_eq_true_eq, decide_eq_true_eq, Bool.not_eq_true', List.any_eq_false, List.pairwise_cons, List.pairwise_cons]
    constructor
    · rintro ⟨h1, h2, h3, h4, h5, h6, h7, h8, h9, h10⟩
      have hx : ∀ b ∈ l, x.id < b.id := fun b hb => h7 x (by simp) b hb
      refine ⟨fun b hb => ?_, fun a ha b hb => ?_, ⟨hx, h8⟩, ⟨fun b hb => h10 x (by simp) b hb, h9⟩, fun a ha b hb => ?_⟩
      · rcases List.mem_cons.1 hb with rfl | hb
        · exact ⟨h1, h2, h4⟩
        · exact h6 b hb
      · have := h3 a ha
        rcases List.mem_cons.1 hb with rfl | hb
        · exact this
        · have := hx b hb
          omega
      · rcases List.mem_cons.1 hb with rfl | hb
        · simpa using h5 a ha
        · exact h10 a (by simp [ha]) b hb
    · rintro ⟨h1, h2, ⟨h3, h4⟩, ⟨h5, h6⟩, h7⟩
      refine ⟨(h1 x (by simp)).1, (h1 x (by simp)).2.1, fun a ha => h2 a ha x (by simp), (h1 x (by simp)).2.2, fun a ha => by simp [h7 a ha x (by simp)], fun b hb => h1 b (by simp [hb]), fun a ha b hb => ?_, h4, h6, fun a ha b hb => ?_⟩
      · have : x = a := by simpa using ha
        subst this
        exact h3 b hb
      · rcases List.mem_append.1 ha with ha | ha
        · exact h7 a ha b (by simp [hb])
        · have : a = x := by simpa using ha
          subst this
          exact h5 b hb
theorem pair_at {l : List Bk} {R : Bk → Bk → Prop} (h : l.Pairwise R) {a b : Bk} (ha : a ∈ l) (hb : b ∈ l) (hne : a ≠ b) : R a b ∨ R b a := by
  obtain ⟨i, hi, rfl⟩ := List.mem_iff_getElem.1 ha
  obtain ⟨j, hj, rfl⟩ := List.mem_iff_getElem.1 hb
  have := List.pairwise_iff_getElem.1 h
  rcases Nat.lt_trichotomy i j with hij | rfl | hij
  · exact Or.inl (this i j hi hj hij)
  · exact absurd rfl hne
  · exact Or.inr (this j i hj hi hij)
theorem sameS_comm {a b : ByteArray} : sameS a b = sameS b a := by
  unfold sameS
  rw [Bool.eq_iff_iff, beq_iff_eq, beq_iff_eq]
  exact eq_comm
theorem rbk_eq (s : Sf) : rbkB s = (inI s.nb 1 65536 && (decide (s.bs.length ≤ 6) && booksFrom s 0 s.bs)) := by
  unfold rbkB
  rw [Bool.eq_iff_iff, Bool.and_eq_true, Bool.and_eq_true, Bool.and_eq_true, Bool.and_eq_true, bkOk_iff]
  constructor
  · rintro ⟨h1, h2, h3, -, h4, h5, -⟩
    refine ⟨h2, h1, books_conv s.bs 0 (fun b hb => ⟨by have := h3 b hb; omega, by have := h3 b hb; omega, (h3 b hb).2.2, tkB_iff.2 fun c hc he => ?_⟩) h4⟩
    by_cases hcb : c = b
    · rw [hcb]
    · have hs : sameS c.nm b.nm = true := by simp [sameS, he]
      rcases pair_at h5 hc hb hcb with h | h
      · rw [hs] at h
        cases h
      · rw [sameS_comm, hs] at h
        cases h
  · rintro ⟨h1, h2, h3⟩
    obtain ⟨q1, q2⟩ := books_all s.bs 0 h3
    refine ⟨h2, h1, fun b hb => ⟨by have := q1 b hb; omega, by have := q1 b hb; omega, (q1 b hb).2.2.1⟩, fun a ha => by simp at ha, q2, ?_, fun a ha => by simp at ha⟩
    refine q2.imp_of_mem fun {a b} ha hb hlt => ?_
    cases hs : sameS a.nm b.nm
    · rfl
    · have := tkB_iff.1 (q1 b hb).2.2.2 a ha (by simpa [sameS] using hs)
      omega
end Go.Proofs.YtokhapafpjejaaaGreatDoor
namespace Go.Proofs.YtokhapafpjejaaaGreatDoor
open Go.ChangeShapes Go.WideShapes Go.ChangeAt Go.RowKit
attribute [local go_sem ↓] Go.wp_at_zero Go.wp_at_succ
def clash (a b : Nt) : Bool := sameS a.nm b.nm && a.bk == b.bk
theorem clash_comm {a b : Nt} : clash a b = clash b a := by
  unfold clash
  rw [sameS_comm, Bool.eq_iff_iff, Bool.and_eq_true, Bool.and_eq_true, beq_iff_eq, beq_iff_eq]
  exact and_congr Iff.rfl eq_comm
theorem ntOk_iff {s : Sf} : ∀ (l pre : List Nt), ntOk s pre l = true ↔ (∀ b ∈ l, 1 ≤ b.id ∧ b.id < s.nn ∧ mayN b.nm = true ∧ 0 ≤ bookAt s b.bk ∧ mayTg b.tg = true ∧ b.sh.length ≤ 8) ∧ (∀ a, pre.getLast? = some a → ∀ b ∈ l, a.id < b.id) ∧ (l.Pairwise fun a b => a.id < b.id) ∧ (l.Pairwise fun a b => clash a b = false) ∧ ∀ a ∈ pre, ∀ b ∈ l, clash a b = false
  | [], pre => by simp [ntOk]
  | x :: l, pre => by
    have ih := ntOk_iff (s := s) l (pre ++ [x])
    have hp : prevNk pre x = true ↔ ∀ a, pre.getLast? = some a → a.id < x.id := by
      unfold prevNk
      cases pre.getLast? with
      | none => simp
      | some p => simp
    show (decide (1 ≤ x.id) && (decide (x.id < s.nn) && (prevNk pre x && (mayN x.nm && (decide (0 ≤ bookAt s x.bk) && (mayTg x.tg && (decide (x.sh.length ≤ 8) && (!pre.any (fun c => clash c x) && ntOk s (pre ++ [x]) l)))))))) = true ↔ _
    rw [Bool.and_eq_true, Bool.and_eq_true, Bool.and_eq_true, Bool.and_eq_true, Bool.and_eq_true, Bool.and_eq_true, Bool.and_eq_true, Bool.and_eq_true, ih, hp, decide_eq_true_eq, decide_eq_true_eq, decide_eq_true_eq, decide_eq_true_eq, Bool.not_eq_true', List.any_eq_false, List.pairwise_cons, List.pairwise_cons]
    constructor
    · rintro ⟨h1, h2, h3, h4, g1, g2, g3, h5, h6, h7, h8, h9, h10⟩
      have hx : ∀ b ∈ l, x.id < b.id := fun b hb => h7 x (by simp) b hb
      refine ⟨fun b hb => ?_, fun a ha b hb => ?_, ⟨hx, h8⟩, ⟨fun b hb => h10 x (by simp) b hb, h9⟩, fun a ha b hb => ?_⟩
      · rcases List.mem_cons.1 hb with rfl | hb
        · exact ⟨h1, h2, h4, g1, g2, g3⟩
        · exact h6 b hb
      · have := h3 a ha
        rcases List.mem_cons.1 hb with rfl | hb
        · exact this
        · have := hx b hb
          omega
      · rcases List.mem_cons.1 hb with rfl | hb
        · simpa using h5 a ha
        · exact h10 a (by simp [ha]) b hb
    · rintro ⟨h1, h2, ⟨h3, h4⟩, ⟨h5, h6⟩, h7⟩
      obtain ⟨k1, k2, k3, k4, k5, k6⟩ := h1 x (by simp)
      refine ⟨k1, k2, fun a ha => h2 a ha x (by simp), k3, k4, k5, k6, fun a ha => by simp [h7 a ha x (by simp)], fun b hb => h1 b (by simp [hb]), fun a ha b hb => ?_, h4, h6, fun a ha b hb => ?_⟩
      · have : x = a := by simpa using ha
        subst this
        exact h3 b hb
      · rcases List.mem_append.1 ha with ha | ha
        · exact h7 a ha b (by simp [hb])
        · have : a = x := by simpa using ha
          subst this
          exact h5 b hb
theorem npair_at {l : List Nt} {R : Nt → Nt → Prop} (h : l.Pairwise R) {a b : Nt} (ha : a ∈ l) (hb : b ∈ l) (hne : a ≠ b) : R a b ∨ R b a := by
  obtain ⟨i, hi, rfl⟩ := List.mem_iff_getElem.1 ha
  obtain ⟨j, hj, rfl⟩ := List.mem_iff_getElem.1 hb
  have := List.pairwise_iff_getElem.1 h
  rcases Nat.lt_trichotomy i j with hij | rfl | hij
  · exact Or.inl (this i j hi hj hij)
  · exact absurd rfl hne
  · exact Or.inr (this j i hj hi hij)
theorem rtkN_iff {s : Sf} {z : Int} {x : ByteArray} {y : Int} : noteTk s z x y = false ↔ ∀ b ∈ s.ts, b.bk = z → b.nm.toList = x.toList → b.id = y := by
  unfold noteTk
  rw [List.any_eq_false]
  constructor
  · intro h b hb h1 h2
    have := h b hb
    simpa [sameS, h1, h2] using this
  · intro h b hb
    have := h b hb
    intro hh
    simp only [sameS, Bool.and_eq_true, beq_iff_eq, bne_iff_ne, ne_eq] at hh
    exact hh.2.2 (this hh.1 hh.2.1)
theorem rnt_iff (s : Sf) : rntB s = true ↔ (1 ≤ s.nn ∧ s.nn ≤ 65536) ∧ s.ts.length ≤ 12 ∧ notesFrom s 0 s.ts = true ∧ ∀ n ∈ s.ts, n.sh.length ≤ 8 := by
  unfold rntB inI
  rw [Bool.and_eq_true, Bool.and_eq_true, Bool.and_eq_true, ntOk_iff, decide_eq_true_eq, decide_eq_true_eq, decide_eq_true_eq]
  constructor
  · rintro ⟨h1, h2, h3, -, h4, h5, -⟩
    refine ⟨h2, h1, notes_conv s.ts 0 (fun b hb => ?_) h4, fun n hn => (h3 n hn).2.2.2.2.2⟩
    obtain ⟨k1, k2, k3, k4, k5, k6⟩ := h3 b hb
    refine ⟨by omega, by omega, ?_⟩
    unfold mayNt
    rw [k3, decide_eq_true k4, k5, rtkN_iff.2 fun c hc he hm => ?_]
    · rfl
    · by_cases hcb : c = b
      · rw [hcb]
      · have hs : clash c b = true := by simp [clash, sameS, he, hm]
        rcases npair_at h5 hc hb hcb with h | h
        · rw [hs] at h
          cases h
        · rw [clash_comm, hs] at h
          cases h
  · rintro ⟨h1, h2, h3, h4⟩
    obtain ⟨q1, q2⟩ := notes_all s.ts 0 h3
    have q3 : ∀ b ∈ s.ts, mayN b.nm = true ∧ 0 ≤ bookAt s b.bk ∧ noteTk s b.bk b.nm b.id = false ∧ mayTg b.tg = true := fun b hb => by
      have := (q1 b hb).2.2
      unfold mayNt at this
      simpa only [Bool.and_eq_true, decide_eq_true_eq, Bool.not_eq_true'] using this
    refine ⟨h2, h1, fun b hb => ⟨by have := q1 b hb; omega, by have := q1 b hb; omega, (q3 b hb).1, (q3 b hb).2.1, (q3 b hb).2.2.2, h4 b hb⟩, fun a ha => by simp at ha, q2, ?_, fun a ha => by simp at ha⟩
    refine q2.imp_of_mem fun {a b} ha hb hlt => ?_
    cases hs : clash a b
    · rfl
    · have hs2 : a.nm.toList = b.nm.toList ∧ a.bk = b.bk := by simpa [clash, sameS] using hs
      have := rtkN_iff.1 (q3 b hb).2.2.1 a ha hs2.2 hs2.1
      omega
theorem rMay_eq (s : Sf) : rMayB s = mayS s := by
  unfold rMayB mayS
  rw [rbk_eq]
  unfold rshB
  rw [Bool.eq_iff_iff]
  simp only [Bool.and_eq_true]
  rw [rnt_iff, sh_iff, shIn_iff]
  unfold inI
  simp only [Bool.and_eq_true, decide_eq_true_eq]
  constructor
  · rintro ⟨⟨h1, h2, h3⟩, ⟨h4, h5, h6, h7⟩, h8, h9, h10⟩
    exact ⟨h1, h4, h8, ⟨h2, h3⟩, ⟨h5, h6⟩, h7, h9, h10⟩
  · rintro ⟨h1, h4, h8, ⟨h2, h3⟩, ⟨h5, h6⟩, h7, h9, h10⟩
    exact ⟨⟨h1, h2, h3⟩, ⟨h4, h5, h6, h7⟩, h8, h9, h10⟩
end Go.Proofs.YtokhapafpjejaaaGreatDoor
namespace Go.Proofs.YtokhapafpjejaaaGreatDoor
open Go.ChangeShapes Go.WideShapes Go.ChangeAt Go.RowKit
attribute [local go_sem ↓] Go.wp_at_zero Go.wp_at_succ
def fIns (xs : List It) : List It := xs.foldl insI []
theorem fIns_snoc (xs : List It) (x : It) : fIns (xs ++ [x]) = insI (fIns xs) x := by
  unfold fIns
  rw [List.foldl_append]
  rfl
theorem cntLt_le : ∀ (l : List It) (x : It), cntLt l x ≤ l.length
  | [], _ => Nat.le_refl _
  | y :: l, x => by
    unfold cntLt
    have := cntLt_le l x
    split
    · rw [List.length_cons]
      omega
    · exact Nat.zero_le _
theorem insI_len (l : List It) (x : It) : (insI l x).length = l.length + 1 := by
  unfold insI
  have := cntLt_le l x
  rw [List.length_append, List.length_append, List.length_take, List.length_drop]
  simp
  omega
theorem fIns_len (xs : List It) : (fIns xs).length = xs.length := by
  have : ∀ (xs acc : List It), (xs.foldl insI acc).length = acc.length + xs.length := by
    intro xs
    induction xs with
    | nil => intro acc; rfl
    | cons x xs ih =>
      intro acc
      rw [List.foldl_cons, ih, insI_len, List.length_cons]
      omega
  have h := this xs []
  simpa [fIns] using h
theorem rBooksL_any (s : Sf) (v : Value) (w : World) (hS : ShR w w.heap.size v s) (hz : SzF s) (hM : mayS s = true) :
    Calls Tryz.prog 19 #[v] w fun e' w' => ∃ (A : Option Addr) (c : Nat), e' = .returned (.slice A (fIns (s.bs.map bkIt)).length c) ∧ SlE 2 w' w'.heap.size A ((fIns (s.bs.map bkIt)).map itC) ∧ (fIns (s.bs.map bkIt)).length ≤ c ∧ c ≤ maxLen ∧ Below w.heap.size w w' := by
  have hS0 := hS
  obtain ⟨Ab, cb, An, cn, rfl, hB, hN, hcb, hmb, hcn, hmn⟩ := hS.ex
  clear hS
  have HB : Below w.heap.size w (w.alloc (.cells #[.int .i64 s.nb, .int .i64 s.nn, .int .i64 s.ns, .slice Ab s.bs.length cb, .slice An s.ts.length cn] 25)) := ((Below.refl w.heap.size w).alloc (by first | (simp; done) | (simp; omega)) _)
  have B1 : Blk (w.alloc (.cells #[.int .i64 s.nb, .int .i64 s.nn, .int .i64 s.ns, .slice Ab s.bs.length cb, .slice An s.ts.length cn] 25)) w.heap.size 25 #[.int .i64 s.nb, .int .i64 s.nn, .int .i64 s.ns, .slice Ab s.bs.length cb, .slice An s.ts.length cn] := Blk.new_ w 25 #[.int .i64 s.nb, .int .i64 s.nn, .int .i64 s.ns, .slice Ab s.bs.length cb, .slice An s.ts.length cn]
  have S1 : ShR (w.alloc (.cells #[.int .i64 s.nb, .int .i64 s.nn, .int .i64 s.ns, .slice Ab s.bs.length cb, .slice An s.ts.length cn] 25)) ((w.alloc (.cells #[.int .i64 s.nb, .int .i64 s.nn, .int .i64 s.ns, .slice Ab s.bs.length cb, .slice An s.ts.length cn] 25))).heap.size (.agg #[.int .i64 s.nb, .int .i64 s.nn, .int .i64 s.ns, .slice Ab s.bs.length cb, .slice An s.ts.length cn]) s := hS0.next HB
  have HZ := Lib.hid hz
  have HM : Hid (rMayB s = true) := Lib.hid ((rMay_eq s).trans hM)
  have hnl : s.bs.length ≤ 100 := by have := (mayF_of hM).bl; have := (mayF_of hM).tl; omega
  obtain ⟨n, hn⟩ : ∃ n, s.bs.length = n := ⟨_, rfl⟩
  have HN := Lib.hid hn
  rw [hn] at HB B1 S1 hnl ⊢
  clear hM hn hz hcb hmb hcn hmn hN
  go_enter Tryz.func19, Tryz.ntmps19
  go_wp2_with fail
  go_loopw [3, 4] (fun sv iv wr => ∃ (k : Nat) (A : Option Addr) (c : Nat) (F : List It), k ≤ n ∧ iv = .int .i64 k ∧ sv = .slice A F.length c ∧ Hid (fIns ((s.bs.take k).map bkIt) = F) ∧ SlE 2 wr wr.heap.size A (F.map itC) ∧ F.length ≤ c ∧ c ≤ maxLen ∧ F.length ≤ k ∧ Below w.heap.size w wr ∧ Blk wr w.heap.size 25 #[.int .i64 s.nb, .int .i64 s.nn, .int .i64 s.ns, .slice Ab n cb, .slice An s.ts.length cn] ∧ ShR wr wr.heap.size (.agg #[.int .i64 s.nb, .int .i64 s.nn, .int .i64 s.ns, .slice Ab n cb, .slice An s.ts.length cn]) s) (fun _ iv _ => n - (intOf iv).toNat)
  case atStart => exact ⟨0, none, 0, [], Nat.zero_le _, rfl, rfl, Lib.hid rfl, Or.inl rfl, Nat.le_refl _, by unfold maxLen; omega, Nat.le_refl _, HB, B1, S1⟩
  case round =>
    clear HB B1 S1
    try clear HB
    try clear HB
    try clear B1
    try clear B1
    try clear S1
    try clear S1
    obtain ⟨k, A, c, F, hk, rfl, rfl, HF, hA, hFc, hcm, hFk, HB, B1, S1⟩ := hrel
    have i0 : (0 : Int) ≤ (k : Int) := by omega
    have k0 := B1.cell_ 0
    have k1 := B1.cell_ 1
    have k2 := B1.cell_ 2
    have k3 := B1.cell_ 3
    have k4 := B1.cell_ 4
    simp at k0 k1 k2 k3 k4
    by_cases hlt : k < n
    · have i1 : (k : Int) < (n : Int) := by omega
      have hlx : k < s.bs.length := by have := HN.out; omega
      obtain ⟨y, hx⟩ : ∃ y, s.bs[k]? = some y := ⟨_, List.getElem?_eq_getElem hlx⟩
      have he : (s.bs.map bkC)[k]? = some (bkC y) := by rw [List.getElem?_map, hx]; rfl
      obtain ⟨b1, o1, rfl, l1, q1⟩ := SlE.at_ hB (by rw [List.length_map]; omega)
      have y0 : wr.cell? ⟨b1, o1 + k * 2, none⟩ = some (.int .i64 y.id) := (HB.cell (p := ⟨b1, _, none⟩) l1).trans (q1 k _ he 0 _ rfl)
      have y1 : wr.cell? ⟨b1, o1 + k * 2 + 1, none⟩ = some (.string y.nm) := (HB.cell (p := ⟨b1, _, none⟩) l1).trans (q1 k _ he 1 _ rfl)
      have HXY := Lib.hid hx
      clear he q1 hx hlx
      have hbs0 := HB.size
      go_upto_region 5 with (go_at_call 11; go_loud (((with_reducible refine (rMay_any s _ _ S1 HZ.out _ HM.out).mono ?_); rintro e' w3 ⟨rfl, bx⟩; have S1 := S1.next bx; have B1 := B1.below bx B1.lt; have HB := btr HB HB.size bx; (try clear k0 k1 k2 k3 k4); have k0 := B1.cell_ 0; have k1 := B1.cell_ 1; have k2 := B1.cell_ 2; have k3 := B1.cell_ 3; have k4 := B1.cell_ 4; simp at k0 k1 k2 k3 k4; have y0 := (bx.cell (p := ⟨b1, _, none⟩) (Nat.lt_of_lt_of_le l1 hbs0)).trans y0; have y1 := (bx.cell (p := ⟨b1, _, none⟩) (Nat.lt_of_lt_of_le l1 hbs0)).trans y1; have hA := (hA.below bx).mono bx.size; clear bx)))
      have hAd : SlE 2 w3.drew w3.drew.heap.size A (F.map itC) := hA.below (below_dr w3)
      have QD : w3.drew.cell? ⟨w.heap.size, 3, none⟩ = some (.slice (some ⟨b1, o1, none⟩) n cb) ∧ w3.drew.cell? ⟨b1, o1 + k * 2, none⟩ = some (.int .i64 y.id) ∧ w3.drew.cell? ⟨b1, o1 + k * 2 + 1, none⟩ = some (.string y.nm) := by
        refine ⟨?_, ?_, ?_⟩
        · exact k3
        · exact y0
        · exact y1
      refine wp_region_noPanic ?_
      refine wp_region_held_drew (S := (fun w_ => w_.cell? ⟨w.heap.size, 3, none⟩ = some (.slice (some ⟨b1, o1, none⟩) n cb) ∧ w_.cell? ⟨b1, o1 + k * 2, none⟩ = some (.int .i64 y.id) ∧ w_.cell? ⟨b1, o1 + k * 2 + 1, none⟩ = some (.string y.nm))) (by kernel_rfl) ?_ (fun hHeld => ?_)
      · (first | with_reducible exact QD | with_reducible exact Q8)
      refine tk 0 ?_; try simp only [Act.put, pz1, pz2, pz3]
      refine tk 1 ?_; try simp only [Act.put, pz1, pz2, pz3]
      refine tk 2 ?_; try simp only [Act.put, pz1, pz2, pz3]
      refine tk 3 ?_; try simp only [Act.put, pz1, pz2, pz3]
      refine tk 4 ?_; try simp only [Act.put, pz1, pz2, pz3]
      refine tk 5 ?_; try simp only [Act.put, pz1, pz2, pz3]
      refine tk 6 ?_; try simp only [Act.put, pz1, pz2, pz3]
      refine tk 7 ?_; try simp only [Act.put, pz1, pz2, pz3]
      refine tk 8 ?_; try simp only [Act.put, pz1, pz2, pz3]
      refine tk 9 ?_; try simp only [Act.put, pz1, pz2, pz3]
      refine tk 10 ?_; try simp only [Act.put, pz1, pz2, pz3]
      refine tk 11 ?_; try simp only [Act.put, pz1, pz2, pz3]
      refine tk 12 ?_; try simp only [Act.put, pz1, pz2, pz3]
      refine tk 13 ?_; try simp only [Act.put, pz1, pz2, pz3]
      refine wpAnyH_ready (rs := [14]) (by kernel_rfl) (by simp) ?_
      refine AllReadyH.cons (o := ⟨some 30, .call { callee := .value (.func 54), args := #[.tmp 16, .tmp 29], argTypes := #[36, 64] }, 36, "ref.go:291", #[⟨0, .data⟩, ⟨13, .data⟩], none⟩) rfl (fun K hK => ?_) AllReadyH.nil
      go_simp
      (go_at_call 54; go_loud (((with_reducible refine (rinto_any F ⟨y.id, y.nm⟩ _ _ _ hAd hFc hcm (by omega)).mono ?_); rintro e' w8 ⟨A2, c2, rfl, hA2, hF2, hc2, b8⟩; have b8 := btr (below_dr w3) (Nat.le_refl _) b8; have Q8 : w8.cell? ⟨w.heap.size, 3, none⟩ = some (.slice (some ⟨b1, o1, none⟩) n cb) ∧ w8.cell? ⟨b1, o1 + k * 2, none⟩ = some (.int .i64 y.id) ∧ w8.cell? ⟨b1, o1 + k * 2 + 1, none⟩ = some (.string y.nm) := ⟨(b8.cell (p := ⟨w.heap.size, 3, none⟩) B1.lt).trans k3, (b8.cell (p := ⟨b1, _, none⟩) (Nat.lt_of_lt_of_le l1 HB.size)).trans y0, (b8.cell (p := ⟨b1, _, none⟩) (Nat.lt_of_lt_of_le l1 HB.size)).trans y1⟩)))
      go_wp2_with fail
      refine hK.out _ _ ?_ (fun hNew => ?_)
      · (first | with_reducible exact QD | with_reducible exact Q8)
      clear hK K hHeld
      have hHeld := hNew
      clear hNew
      try simp only [Act.put, pz1, pz2, pz3]
      refine tk 15 ?_; try simp only [Act.put, pz1, pz2, pz3]
      refine wpAnyH_done (by kernel_rfl) ?_ _
      refine NoPanic.normal ?_
      go_wp2_with fail
      have B1n := B1.below b8 B1.lt
      have HBn := btr HB HB.size b8
      have S1n := S1.next b8
      have HF2 : Hid (fIns ((s.bs.take (k + 1)).map bkIt) = insI F ⟨y.id, y.nm⟩) := Lib.hid (by rw [List.take_add_one, HXY.out, Option.toList_some, List.map_append, ← HF.out]; exact fIns_snoc _ _)
      have hl2 : (insI F ⟨y.id, y.nm⟩).length = F.length + 1 := insI_len _ _
      go_roundw
      case rel => exact ⟨k + 1, A2, c2, insI F ⟨y.id, y.nm⟩, by omega, by go_num, by rw [hl2], HF2, hA2, by omega, hc2, by omega, HBn, B1n, S1n⟩
      case measure => simp [intOf]; omega
    · have hjn : k = n := by omega
      subst hjn
      have hFE : Hid (F = fIns (s.bs.map bkIt)) := Lib.hid (by rw [← HF.out, List.take_of_length_le (by rw [HN.out]; exact Nat.le_refl _)])
      go_wp2_with fail
      go_ret
      rw [← hFE.out]
      exact ⟨A, c, rfl, hA, hFc, hcm, HB⟩
theorem rNotesL_any (s : Sf) (v : Value) (x : Int) (w : World) (hS : ShR w w.heap.size v s) (hz : SzF s) (hM : mayS s = true) (hI : 0 ≤ bookAt s x) :
    Calls Tryz.prog 15 #[v, .int .i64 x] w fun e' w' => ∃ (A : Option Addr) (c : Nat), e' = .returned (.tuple #[.slice A (fIns ((ofBook s x).map ntIt)).length c, .int .i64 0]) ∧ SlE 2 w' w'.heap.size A ((fIns ((ofBook s x).map ntIt)).map itC) ∧ (fIns ((ofBook s x).map ntIt)).length ≤ c ∧ c ≤ maxLen ∧ Below w.heap.size w w' := by
  have hS0 := hS
  obtain ⟨Ab, cb, An, cn, rfl, hB, hN, hcb, hmb, hcn, hmn⟩ := hS.ex
  clear hS
  have HB : Below w.heap.size w (w.alloc (.cells #[.int .i64 s.nb, .int .i64 s.nn, .int .i64 s.ns, .slice Ab s.bs.length cb, .slice An s.ts.length cn] 25)) := ((Below.refl w.heap.size w).alloc (by first | (simp; done) | (simp; omega)) _)
  have B1 : Blk (w.alloc (.cells #[.int .i64 s.nb, .int .i64 s.nn, .int .i64 s.ns, .slice Ab s.bs.length cb, .slice An s.ts.length cn] 25)) w.heap.size 25 #[.int .i64 s.nb, .int .i64 s.nn, .int .i64 s.ns, .slice Ab s.bs.length cb, .slice An s.ts.length cn] := Blk.new_ w 25 #[.int .i64 s.nb, .int .i64 s.nn, .int .i64 s.ns, .slice Ab s.bs.length cb, .slice An s.ts.length cn]
  have S1 : ShR (w.alloc (.cells #[.int .i64 s.nb, .int .i64 s.nn, .int .i64 s.ns, .slice Ab s.bs.length cb, .slice An s.ts.length cn] 25)) ((w.alloc (.cells #[.int .i64 s.nb, .int .i64 s.nn, .int .i64 s.ns, .slice Ab s.bs.length cb, .slice An s.ts.length cn] 25))).heap.size (.agg #[.int .i64 s.nb, .int .i64 s.nn, .int .i64 s.ns, .slice Ab s.bs.length cb, .slice An s.ts.length cn]) s := hS0.next HB
  have HZ := Lib.hid hz
  have HM : Hid (rMayB s = true) := Lib.hid ((rMay_eq s).trans hM)
  have hnl : s.ts.length ≤ 100 := by have := (mayF_of hM).bl; have := (mayF_of hM).tl; omega
  obtain ⟨n, hn⟩ : ∃ n, s.ts.length = n := ⟨_, rfl⟩
  have HN := Lib.hid hn
  rw [hn] at HB B1 S1 hnl ⊢
  obtain ⟨q, hq⟩ : ∃ q : Nat, bookAt s x = (q : Int) := ⟨(bookAt s x).toNat, by omega⟩
  have HB1 := Lib.hid hq
  have p0 : (0 : Int) ≤ (q : Int) := by omega
  have p2 : ¬ (q : Int) < 0 := by omega
  obtain ⟨es, hel, hse, hnt⟩ := hN.ex
  clear hq hI
  clear hM hn hz hcb hmb hcn hmn hB
  go_enter Tryz.func15, Tryz.ntmps15
  go_upto_region 5 with (first | (go_at_call 11; go_loud (((with_reducible refine (rMay_any s _ _ S1 HZ.out _ HM.out).mono ?_); rintro e' w3 ⟨rfl, bx⟩; have S1 := S1.next bx; have B1 := B1.below bx B1.lt; have HB := btr HB HB.size bx; (try clear k0 k1 k2 k3 k4); have k0 := B1.cell_ 0; have k1 := B1.cell_ 1; have k2 := B1.cell_ 2; have k3 := B1.cell_ 3; have k4 := B1.cell_ 4; simp at k0 k1 k2 k3 k4; clear bx))) | (go_at_call 53; go_loud (((with_reducible refine (rBook_any s _ x _ S1 ⟨HZ.out.bl, HZ.out.tl⟩).mono ?_); rintro e' w4 ⟨rfl, bx⟩; rw [HB1.out]; have S1 := S1.next bx; have B1 := B1.below bx B1.lt; have HB := btr HB HB.size bx; (try clear k0 k1 k2 k3 k4); have k0 := B1.cell_ 0; have k1 := B1.cell_ 1; have k2 := B1.cell_ 2; have k3 := B1.cell_ 3; have k4 := B1.cell_ 4; simp at k0 k1 k2 k3 k4; clear bx))))
  clear k0 k1 k2 k3 k4
  go_wp2_with fail
  go_loopw [6, 7] (fun sv iv wr => ∃ (k : Nat) (A : Option Addr) (c : Nat) (F : List It), k ≤ n ∧ iv = .int .i64 k ∧ sv = .slice A F.length c ∧ Hid (fIns (((s.ts.take k).filter fun n => n.bk == x).map ntIt) = F) ∧ SlE 2 wr wr.heap.size A (F.map itC) ∧ F.length ≤ c ∧ c ≤ maxLen ∧ F.length ≤ k ∧ Below w.heap.size w wr ∧ Blk wr w.heap.size 25 #[.int .i64 s.nb, .int .i64 s.nn, .int .i64 s.ns, .slice Ab s.bs.length cb, .slice An n cn] ∧ ShR wr wr.heap.size (.agg #[.int .i64 s.nb, .int .i64 s.nn, .int .i64 s.ns, .slice Ab s.bs.length cb, .slice An n cn]) s) (fun _ iv _ => n - (intOf iv).toNat)
  case atStart => exact ⟨0, none, 0, [], Nat.zero_le _, rfl, rfl, Lib.hid rfl, Or.inl rfl, Nat.le_refl _, by unfold maxLen; omega, Nat.le_refl _, HB, B1, S1⟩
  case round =>
    clear HB B1 S1
    try clear HB
    try clear HB
    try clear B1
    try clear B1
    try clear S1
    try clear S1
    obtain ⟨k, A, c, F, hk, rfl, rfl, HF, hA, hFc, hcm, hFk, HB, B1, S1⟩ := hrel
    have i0 : (0 : Int) ≤ (k : Int) := by omega
    have k0 := B1.cell_ 0
    have k1 := B1.cell_ 1
    have k2 := B1.cell_ 2
    have k3 := B1.cell_ 3
    have k4 := B1.cell_ 4
    simp at k0 k1 k2 k3 k4
    by_cases hlt : k < n
    · have i1 : (k : Int) < (n : Int) := by omega
      have hlx : k < s.ts.length := by have := HN.out; omega
      obtain ⟨y, hx⟩ : ∃ y, s.ts[k]? = some y := ⟨_, List.getElem?_eq_getElem hlx⟩
      obtain ⟨e0, he⟩ : ∃ e, es[k]? = some e := ⟨_, List.getElem?_eq_getElem (by have := HN.out; omega)⟩
      obtain ⟨At, ct, As, cs, rfl, -⟩ := (hnt k y e0 hx he).ex
      obtain ⟨b1, o1, rfl, l1, q1⟩ := hse.at_ (by have := HN.out; omega)
      have y0 : wr.cell? ⟨b1, o1 + k * 5, none⟩ = some (.int .i64 y.id) := (HB.cell (p := ⟨b1, _, none⟩) l1).trans (q1 k _ he 0 _ rfl)
      have y1 : wr.cell? ⟨b1, o1 + k * 5 + 1, none⟩ = some (.int .i64 y.bk) := (HB.cell (p := ⟨b1, _, none⟩) l1).trans (q1 k _ he 1 _ rfl)
      have y2 : wr.cell? ⟨b1, o1 + k * 5 + 2, none⟩ = some (.string y.nm) := (HB.cell (p := ⟨b1, _, none⟩) l1).trans (q1 k _ he 2 _ rfl)
      have HXY := Lib.hid hx
      clear he q1 hx hlx
      rcases (by cases hq : (y.bk == x) <;> simp : (y.bk == x) = true ∨ (y.bk == x) = false) with hp | hp
      · have HP : Hid ((fun n : Nt => n.bk == x) y = true) := Lib.hid hp
        have hAd : SlE 2 wr.drew wr.drew.heap.size A (F.map itC) := hA.below (below_dr wr)
        have QD : wr.drew.cell? ⟨w.heap.size, 4, none⟩ = some (.slice (some ⟨b1, o1, none⟩) n cn) ∧ wr.drew.cell? ⟨b1, o1 + k * 5, none⟩ = some (.int .i64 y.id) ∧ wr.drew.cell? ⟨b1, o1 + k * 5 + 2, none⟩ = some (.string y.nm) := by
          refine ⟨?_, ?_, ?_⟩
          · exact k4
          · exact y0
          · exact y2
        go_upto_region 10 with fail
        refine wp_region_noPanic ?_
        refine wp_region_held_drew (S := (fun w_ => w_.cell? ⟨w.heap.size, 4, none⟩ = some (.slice (some ⟨b1, o1, none⟩) n cn) ∧ w_.cell? ⟨b1, o1 + k * 5, none⟩ = some (.int .i64 y.id) ∧ w_.cell? ⟨b1, o1 + k * 5 + 2, none⟩ = some (.string y.nm))) (by kernel_rfl) ?_ (fun hHeld => ?_)
        · (first | with_reducible exact QD | with_reducible exact Q8)
        refine tk 0 ?_; try simp only [Act.put, pz1, pz2, pz3]
        refine tk 1 ?_; try simp only [Act.put, pz1, pz2, pz3]
        refine tk 2 ?_; try simp only [Act.put, pz1, pz2, pz3]
        refine tk 3 ?_; try simp only [Act.put, pz1, pz2, pz3]
        refine tk 4 ?_; try simp only [Act.put, pz1, pz2, pz3]
        refine tk 5 ?_; try simp only [Act.put, pz1, pz2, pz3]
        refine tk 6 ?_; try simp only [Act.put, pz1, pz2, pz3]
        refine tk 7 ?_; try simp only [Act.put, pz1, pz2, pz3]
        refine tk 8 ?_; try simp only [Act.put, pz1, pz2, pz3]
        refine tk 9 ?_; try simp only [Act.put, pz1, pz2, pz3]
        refine tk 10 ?_; try simp only [Act.put, pz1, pz2, pz3]
        refine tk 11 ?_; try simp only [Act.put, pz1, pz2, pz3]
        refine tk 12 ?_; try simp only [Act.put, pz1, pz2, pz3]
        refine tk 13 ?_; try simp only [Act.put, pz1, pz2, pz3]
        refine wpAnyH_ready (rs := [14]) (by kernel_rfl) (by simp) ?_
        refine AllReadyH.cons (o := ⟨some 44, .call { callee := .value (.func 54), args := #[.tmp 30, .tmp 43], argTypes := #[36, 64] }, 36, "ref.go:307", #[⟨0, .data⟩, ⟨13, .data⟩], none⟩) rfl (fun K hK => ?_) AllReadyH.nil
        go_simp
        (go_at_call 54; go_loud (((with_reducible refine (rinto_any F ⟨y.id, y.nm⟩ _ _ _ hAd hFc hcm (by omega)).mono ?_); rintro e' w8 ⟨A2, c2, rfl, hA2, hF2, hc2, b8⟩; have b8 := btr (below_dr wr) (Nat.le_refl _) b8; have Q8 : w8.cell? ⟨w.heap.size, 4, none⟩ = some (.slice (some ⟨b1, o1, none⟩) n cn) ∧ w8.cell? ⟨b1, o1 + k * 5, none⟩ = some (.int .i64 y.id) ∧ w8.cell? ⟨b1, o1 + k * 5 + 2, none⟩ = some (.string y.nm) := ⟨(b8.cell (p := ⟨w.heap.size, 4, none⟩) B1.lt).trans k4, (b8.cell (p := ⟨b1, _, none⟩) (Nat.lt_of_lt_of_le l1 HB.size)).trans y0, (b8.cell (p := ⟨b1, _, none⟩) (Nat.lt_of_lt_of_le l1 HB.size)).trans y2⟩)))
        go_wp2_with fail
        refine hK.out _ _ ?_ (fun hNew => ?_)
        · (first | with_reducible exact QD | with_reducible exact Q8)
        clear hK K hHeld
        have hHeld := hNew
        clear hNew
        try simp only [Act.put, pz1, pz2, pz3]
        refine tk 15 ?_; try simp only [Act.put, pz1, pz2, pz3]
        refine wpAnyH_done (by kernel_rfl) ?_ _
        refine NoPanic.normal ?_
        go_wp2_with fail
        have B1n := B1.below b8 B1.lt
        have HBn := btr HB HB.size b8
        have S1n := S1.next b8
        have HF2 : Hid (fIns (((s.ts.take (k + 1)).filter fun n => n.bk == x).map ntIt) = insI F ⟨y.id, y.nm⟩) := Lib.hid (by rw [filter_yes HXY.out HP.out, List.map_append, ← HF.out]; exact fIns_snoc _ _)
        have hl2 : (insI F ⟨y.id, y.nm⟩).length = F.length + 1 := insI_len _ _
        go_roundw
        case rel => exact ⟨k + 1, A2, c2, insI F ⟨y.id, y.nm⟩, by omega, by go_num, by rw [hl2], HF2, hA2, by omega, hc2, by omega, HBn, B1n, S1n⟩
        case measure => simp [intOf]; omega
      · have HP : Hid ((fun n : Nt => n.bk == x) y = false) := Lib.hid hp
        go_wp2_with fail
        go_roundw
        case rel => exact ⟨k + 1, A, c, F, by omega, by go_num, rfl, Lib.hid (by rw [filter_no HXY.out HP.out]; exact HF.out), hA, hFc, hcm, by omega, HB, B1, S1⟩
        case measure => simp [intOf]; omega
    · have hjn : k = n := by omega
      subst hjn
      have hFE : Hid (F = fIns ((ofBook s x).map ntIt)) := Lib.hid (by rw [← HF.out, List.take_of_length_le (by rw [HN.out]; exact Nat.le_refl _)]; rfl)
      go_wp2_with fail
      go_ret2
      rw [← hFE.out]
      exact ⟨A, c, rfl, hA, hFc, hcm, HB⟩
theorem books_bad (s : Sf) (v : Value) (w : World) (hS : ShR w w.heap.size v s) (hT : Tabs w) (hM : mayS s = false) :
    Calls Tryz.prog 13 #[v] w fun e' w' => e' = .returned (.slice none 0 0) ∧ Below w.heap.size w w' := by
  have hS0 := hS
  obtain ⟨Ab, cb, An, cn, rfl, hB, hN, hcb, hmb, hcn, hmn⟩ := hS.ex
  clear hS
  have HB : Below w.heap.size w (w.alloc (.cells #[.int .i64 s.nb, .int .i64 s.nn, .int .i64 s.ns, .slice Ab s.bs.length cb, .slice An s.ts.length cn] 25)) := ((Below.refl w.heap.size w).alloc (by first | (simp; done) | (simp; omega)) _)
  have B1 : Blk (w.alloc (.cells #[.int .i64 s.nb, .int .i64 s.nn, .int .i64 s.ns, .slice Ab s.bs.length cb, .slice An s.ts.length cn] 25)) w.heap.size 25 #[.int .i64 s.nb, .int .i64 s.nn, .int .i64 s.ns, .slice Ab s.bs.length cb, .slice An s.ts.length cn] := Blk.new_ w 25 #[.int .i64 s.nb, .int .i64 s.nn, .int .i64 s.ns, .slice Ab s.bs.length cb, .slice An s.ts.length cn]
  have S1 : ShR (w.alloc (.cells #[.int .i64 s.nb, .int .i64 s.nn, .int .i64 s.ns, .slice Ab s.bs.length cb, .slice An s.ts.length cn] 25)) ((w.alloc (.cells #[.int .i64 s.nb, .int .i64 s.nn, .int .i64 s.ns, .slice Ab s.bs.length cb, .slice An s.ts.length cn] 25))).heap.size (.agg #[.int .i64 s.nb, .int .i64 s.nn, .int .i64 s.ns, .slice Ab s.bs.length cb, .slice An s.ts.length cn]) s := hS0.next HB
  have T1 := hT.next HB
  have HM := Lib.hid hM
  clear hM hT
  clear hS0 hB hN hcb hmb hcn hmn
  go_enter Tryz.func13, Tryz.ntmps13
  go_wp2_with (first | (go_at_call 10; go_loud (((with_reducible refine (smay_any s _ _ S1 T1 _ HM.out).mono ?_); rintro e' w3 ⟨rfl, bx⟩; have S1 := S1.next bx; have B1 := B1.below bx B1.lt; have HB := btr HB HB.size bx; (try clear k0 k1 k2 k3 k4); have k0 := B1.cell_ 0; have k1 := B1.cell_ 1; have k2 := B1.cell_ 2; have k3 := B1.cell_ 3; have k4 := B1.cell_ 4; simp at k0 k1 k2 k3 k4; clear bx))))
  go_ret
  exact ⟨rfl, HB⟩
theorem notes_bad (s : Sf) (v : Value) (x : Int) (w : World) (hS : ShR w w.heap.size v s) (hT : Tabs w) (hM : mayS s = false) :
    Calls Tryz.prog 14 #[v, .int .i64 x] w fun e' w' => e' = .returned (.tuple #[.slice none 0 0, .int .i64 2]) ∧ Below w.heap.size w w' := by
  have hS0 := hS
  obtain ⟨Ab, cb, An, cn, rfl, hB, hN, hcb, hmb, hcn, hmn⟩ := hS.ex
  clear hS
  have HB : Below w.heap.size w (w.alloc (.cells #[.int .i64 s.nb, .int .i64 s.nn, .int .i64 s.ns, .slice Ab s.bs.length cb, .slice An s.ts.length cn] 25)) := ((Below.refl w.heap.size w).alloc (by first | (simp; done) | (simp; omega)) _)
  have B1 : Blk (w.alloc (.cells #[.int .i64 s.nb, .int .i64 s.nn, .int .i64 s.ns, .slice Ab s.bs.length cb, .slice An s.ts.length cn] 25)) w.heap.size 25 #[.int .i64 s.nb, .int .i64 s.nn, .int .i64 s.ns, .slice Ab s.bs.length cb, .slice An s.ts.length cn] := Blk.new_ w 25 #[.int .i64 s.nb, .int .i64 s.nn, .int .i64 s.ns, .slice Ab s.bs.length cb, .slice An s.ts.length cn]
  have S1 : ShR (w.alloc (.cells #[.int .i64 s.nb, .int .i64 s.nn, .int .i64 s.ns, .slice Ab s.bs.length cb, .slice An s.ts.length cn] 25)) ((w.alloc (.cells #[.int .i64 s.nb, .int .i64 s.nn, .int .i64 s.ns, .slice Ab s.bs.length cb, .slice An s.ts.length cn] 25))).heap.size (.agg #[.int .i64 s.nb, .int .i64 s.nn, .int .i64 s.ns, .slice Ab s.bs.length cb, .slice An s.ts.length cn]) s := hS0.next HB
  have T1 := hT.next HB
  have HM := Lib.hid hM
  clear hM hT
  clear hS0 hB hN hcb hmb hcn hmn
  go_enter Tryz.func14, Tryz.ntmps14
  go_wp2_with (first | (go_at_call 10; go_loud (((with_reducible refine (smay_any s _ _ S1 T1 _ HM.out).mono ?_); rintro e' w3 ⟨rfl, bx⟩; have S1 := S1.next bx; have B1 := B1.below bx B1.lt; have HB := btr HB HB.size bx; (try clear k0 k1 k2 k3 k4); have k0 := B1.cell_ 0; have k1 := B1.cell_ 1; have k2 := B1.cell_ 2; have k3 := B1.cell_ 3; have k4 := B1.cell_ 4; simp at k0 k1 k2 k3 k4; clear bx))))
  go_ret2
  exact ⟨rfl, HB⟩
theorem rnotes_bad (s : Sf) (v : Value) (x : Int) (w : World) (hS : ShR w w.heap.size v s) (hz : SzF s) (hM : mayS s = false) :
    Calls Tryz.prog 15 #[v, .int .i64 x] w fun e' w' => e' = .returned (.tuple #[.slice none 0 0, .int .i64 2]) ∧ Below w.heap.size w w' := by
  have hS0 := hS
  obtain ⟨Ab, cb, An, cn, rfl, hB, hN, hcb, hmb, hcn, hmn⟩ := hS.ex
  clear hS
  have HB : Below w.heap.size w (w.alloc (.cells #[.int .i64 s.nb, .int .i64 s.nn, .int .i64 s.ns, .slice Ab s.bs.length cb, .slice An s.ts.length cn] 25)) := ((Below.refl w.heap.size w).alloc (by first | (simp; done) | (simp; omega)) _)
  have B1 : Blk (w.alloc (.cells #[.int .i64 s.nb, .int .i64 s.nn, .int .i64 s.ns, .slice Ab s.bs.length cb, .slice An s.ts.length cn] 25)) w.heap.size 25 #[.int .i64 s.nb, .int .i64 s.nn, .int .i64 s.ns, .slice Ab s.bs.length cb, .slice An s.ts.length cn] := Blk.new_ w 25 #[.int .i64 s.nb, .int .i64 s.nn, .int .i64 s.ns, .slice Ab s.bs.length cb, .slice An s.ts.length cn]
  have S1 : ShR (w.alloc (.cells #[.int .i64 s.nb, .int .i64 s.nn, .int .i64 s.ns, .slice Ab s.bs.length cb, .slice An s.ts.length cn] 25)) ((w.alloc (.cells #[.int .i64 s.nb, .int .i64 s.nn, .int .i64 s.ns, .slice Ab s.bs.length cb, .slice An s.ts.length cn] 25))).heap.size (.agg #[.int .i64 s.nb, .int .i64 s.nn, .int .i64 s.ns, .slice Ab s.bs.length cb, .slice An s.ts.length cn]) s := hS0.next HB
  have HZ := Lib.hid hz
  have HM : Hid (rMayB s = false) := Lib.hid ((rMay_eq s).trans hM)
  clear hM hz
  clear hS0 hB hN hcb hmb hcn hmn
  go_enter Tryz.func15, Tryz.ntmps15
  go_wp2_with (first | (go_at_call 11; go_loud (((with_reducible refine (rMay_any s _ _ S1 HZ.out _ HM.out).mono ?_); rintro e' w3 ⟨rfl, bx⟩; have S1 := S1.next bx; have B1 := B1.below bx B1.lt; have HB := btr HB HB.size bx; (try clear k0 k1 k2 k3 k4); have k0 := B1.cell_ 0; have k1 := B1.cell_ 1; have k2 := B1.cell_ 2; have k3 := B1.cell_ 3; have k4 := B1.cell_ 4; simp at k0 k1 k2 k3 k4; clear bx))))
  go_ret2
  exact ⟨rfl, HB⟩
theorem rnotes_none (s : Sf) (v : Value) (x : Int) (w : World) (hS : ShR w w.heap.size v s) (hz : SzF s) (hM : mayS s = true) (hI : bookAt s x < 0) :
    Calls Tryz.prog 15 #[v, .int .i64 x] w fun e' w' => e' = .returned (.tuple #[.slice none 0 0, .int .i64 4]) ∧ Below w.heap.size w w' := by
  have hS0 := hS
  obtain ⟨Ab, cb, An, cn, rfl, hB, hN, hcb, hmb, hcn, hmn⟩ := hS.ex
  clear hS
  have HB : Below w.heap.size w (w.alloc (.cells #[.int .i64 s.nb, .int .i64 s.nn, .int .i64 s.ns, .slice Ab s.bs.length cb, .slice An s.ts.length cn] 25)) := ((Below.refl w.heap.size w).alloc (by first | (simp; done) | (simp; omega)) _)
  have B1 : Blk (w.alloc (.cells #[.int .i64 s.nb, .int .i64 s.nn, .int .i64 s.ns, .slice Ab s.bs.length cb, .slice An s.ts.length cn] 25)) w.heap.size 25 #[.int .i64 s.nb, .int .i64 s.nn, .int .i64 s.ns, .slice Ab s.bs.length cb, .slice An s.ts.length cn] := Blk.new_ w 25 #[.int .i64 s.nb, .int .i64 s.nn, .int .i64 s.ns, .slice Ab s.bs.length cb, .slice An s.ts.length cn]
  have S1 : ShR (w.alloc (.cells #[.int .i64 s.nb, .int .i64 s.nn, .int .i64 s.ns, .slice Ab s.bs.length cb, .slice An s.ts.length cn] 25)) ((w.alloc (.cells #[.int .i64 s.nb, .int .i64 s.nn, .int .i64 s.ns, .slice Ab s.bs.length cb, .slice An s.ts.length cn] 25))).heap.size (.agg #[.int .i64 s.nb, .int .i64 s.nn, .int .i64 s.ns, .slice Ab s.bs.length cb, .slice An s.ts.length cn]) s := hS0.next HB
  have HZ := Lib.hid hz
  have HM : Hid (rMayB s = true) := Lib.hid ((rMay_eq s).trans hM)
  clear hM hz
  obtain ⟨I, hIe⟩ : ∃ I, bookAt s x = I := ⟨_, rfl⟩
  have HI := Lib.hid hIe
  rw [hIe] at hI
  clear hIe
  clear hS0 hB hN hcb hmb hcn hmn
  go_enter Tryz.func15, Tryz.ntmps15
  go_wp2_with (first | (go_at_call 11; go_loud (((with_reducible refine (rMay_any s _ _ S1 HZ.out _ HM.out).mono ?_); rintro e' w3 ⟨rfl, bx⟩; have S1 := S1.next bx; have B1 := B1.below bx B1.lt; have HB := btr HB HB.size bx; (try clear k0 k1 k2 k3 k4); have k0 := B1.cell_ 0; have k1 := B1.cell_ 1; have k2 := B1.cell_ 2; have k3 := B1.cell_ 3; have k4 := B1.cell_ 4; simp at k0 k1 k2 k3 k4; clear bx))) | (go_at_call 53; go_loud (((with_reducible refine (rBook_any s _ x _ S1 ⟨HZ.out.bl, HZ.out.tl⟩).mono ?_); rintro e' w4 ⟨rfl, bx⟩; rw [HI.out]; have S1 := S1.next bx; have B1 := B1.below bx B1.lt; have HB := btr HB HB.size bx; (try clear k0 k1 k2 k3 k4); have k0 := B1.cell_ 0; have k1 := B1.cell_ 1; have k2 := B1.cell_ 2; have k3 := B1.cell_ 3; have k4 := B1.cell_ 4; simp at k0 k1 k2 k3 k4; clear bx))))
  go_ret2
  exact ⟨rfl, HB⟩
theorem rbooks_bad (s : Sf) (v : Value) (w : World) (hS : ShR w w.heap.size v s) (hz : SzF s) (hM : mayS s = false) :
    Calls Tryz.prog 19 #[v] w fun e' w' => e' = .returned (.slice none 0 0) ∧ Below w.heap.size w w' := by
  have hS0 := hS
  obtain ⟨Ab, cb, An, cn, rfl, hB, hN, hcb, hmb, hcn, hmn⟩ := hS.ex
  clear hS
  have HB : Below w.heap.size w (w.alloc (.cells #[.int .i64 s.nb, .int .i64 s.nn, .int .i64 s.ns, .slice Ab s.bs.length cb, .slice An s.ts.length cn] 25)) := ((Below.refl w.heap.size w).alloc (by first | (simp; done) | (simp; omega)) _)
  have B1 : Blk (w.alloc (.cells #[.int .i64 s.nb, .int .i64 s.nn, .int .i64 s.ns, .slice Ab s.bs.length cb, .slice An s.ts.length cn] 25)) w.heap.size 25 #[.int .i64 s.nb, .int .i64 s.nn, .int .i64 s.ns, .slice Ab s.bs.length cb, .slice An s.ts.length cn] := Blk.new_ w 25 #[.int .i64 s.nb, .int .i64 s.nn, .int .i64 s.ns, .slice Ab s.bs.length cb, .slice An s.ts.length cn]
  have S1 : ShR (w.alloc (.cells #[.int .i64 s.nb, .int .i64 s.nn, .int .i64 s.ns, .slice Ab s.bs.length cb, .slice An s.ts.length cn] 25)) ((w.alloc (.cells #[.int .i64 s.nb, .int .i64 s.nn, .int .i64 s.ns, .slice Ab s.bs.length cb, .slice An s.ts.length cn] 25))).heap.size (.agg #[.int .i64 s.nb, .int .i64 s.nn, .int .i64 s.ns, .slice Ab s.bs.length cb, .slice An s.ts.length cn]) s := hS0.next HB
  have HZ := Lib.hid hz
  have HM : Hid (rMayB s = false) := Lib.hid ((rMay_eq s).trans hM)
  have hbl := hz.bl
  obtain ⟨n, hn⟩ : ∃ n, s.bs.length = n := ⟨_, rfl⟩
  rw [hn] at HB B1 S1 hbl ⊢
  clear hM hn hz hS0 hB hN hcb hmb hcn hmn
  go_enter Tryz.func19, Tryz.ntmps19
  go_wp2_with fail
  go_loopw [3, 4] (fun sv iv wr => sv = .slice none 0 0 ∧ iv = .int .i64 0 ∧ Below w.heap.size w wr ∧ Blk wr w.heap.size 25 #[.int .i64 s.nb, .int .i64 s.nn, .int .i64 s.ns, .slice Ab n cb, .slice An s.ts.length cn] ∧ ShR wr wr.heap.size (.agg #[.int .i64 s.nb, .int .i64 s.nn, .int .i64 s.ns, .slice Ab n cb, .slice An s.ts.length cn]) s) (fun _ _ _ => 0)
  case atStart => exact ⟨rfl, rfl, HB, B1, S1⟩
  case round =>
    clear HB B1 S1
    obtain ⟨rfl, rfl, HB, B1, S1⟩ := hrel
    have k0 := B1.cell_ 0
    have k1 := B1.cell_ 1
    have k2 := B1.cell_ 2
    have k3 := B1.cell_ 3
    have k4 := B1.cell_ 4
    simp at k0 k1 k2 k3 k4
    by_cases h0 : 0 < n
    · have i1 : (0 : Int) < (n : Int) := by omega
      go_wp2_with (go_at_call 11; go_loud (((with_reducible refine (rMay_any s _ _ S1 HZ.out _ HM.out).mono ?_); rintro e' w3 ⟨rfl, bx⟩; have S1 := S1.next bx; have B1 := B1.below bx B1.lt; have HB := btr HB HB.size bx; (try clear k0 k1 k2 k3 k4); have k0 := B1.cell_ 0; have k1 := B1.cell_ 1; have k2 := B1.cell_ 2; have k3 := B1.cell_ 3; have k4 := B1.cell_ 4; simp at k0 k1 k2 k3 k4; clear bx)))
      go_ret
      exact ⟨rfl, HB⟩
    · obtain rfl : n = 0 := by omega
      go_wp2_with fail
      go_ret
      exact ⟨rfl, HB⟩
theorem rfind_no (s : Sf) (v : Value) (x : Int) (w : World) (hS : ShR w w.heap.size v s) (hz : SzF s) (M : Bool) (hM : mayS s = M) (hI : M = false ∨ noteAt s x < 0) :
    Calls Tryz.prog 17 #[v, .int .i64 x] w fun e' w' => e' = .returned (.tuple #[.agg #[.int .i64 0, .int .i64 0, .string ⟨#[]⟩, .slice none 0 0, .slice none 0 0], .bool false]) ∧ Below w.heap.size w w' := by
  have hS0 := hS
  obtain ⟨Ab, cb, An, cn, rfl, hB, hN, hcb, hmb, hcn, hmn⟩ := hS.ex
  clear hS
  have HB : Below w.heap.size w ((w.alloc (.cells #[.int .i64 s.nb, .int .i64 s.nn, .int .i64 s.ns, .slice Ab s.bs.length cb, .slice An s.ts.length cn] 25)).alloc (.cells #[.int .i64 0, .int .i64 0, .string ⟨#[]⟩, .slice none 0 0, .slice none 0 0] 46)) := (((Below.refl w.heap.size w).alloc (by first | (simp; done) | (simp; omega)) _).alloc (by first | (simp; done) | (simp; omega)) _)
  have B1 : Blk ((w.alloc (.cells #[.int .i64 s.nb, .int .i64 s.nn, .int .i64 s.ns, .slice Ab s.bs.length cb, .slice An s.ts.length cn] 25)).alloc (.cells #[.int .i64 0, .int .i64 0, .string ⟨#[]⟩, .slice none 0 0, .slice none 0 0] 46)) w.heap.size 25 #[.int .i64 s.nb, .int .i64 s.nn, .int .i64 s.ns, .slice Ab s.bs.length cb, .slice An s.ts.length cn] := (Blk.new_ w 25 #[.int .i64 s.nb, .int .i64 s.nn, .int .i64 s.ns, .slice Ab s.bs.length cb, .slice An s.ts.length cn]).alloc_ _
  have B2 : Blk ((w.alloc (.cells #[.int .i64 s.nb, .int .i64 s.nn, .int .i64 s.ns, .slice Ab s.bs.length cb, .slice An s.ts.length cn] 25)).alloc (.cells #[.int .i64 0, .int .i64 0, .string ⟨#[]⟩, .slice none 0 0, .slice none 0 0] 46)) (w.heap.size + 1) 46 #[.int .i64 0, .int .i64 0, .string ⟨#[]⟩, .slice none 0 0, .slice none 0 0] := by
    have := Blk.new_ (w.alloc (.cells #[.int .i64 s.nb, .int .i64 s.nn, .int .i64 s.ns, .slice Ab s.bs.length cb, .slice An s.ts.length cn] 25)) 46 #[.int .i64 0, .int .i64 0, .string ⟨#[]⟩, .slice none 0 0, .slice none 0 0]
    simpa using this
  have S1 : ShR ((w.alloc (.cells #[.int .i64 s.nb, .int .i64 s.nn, .int .i64 s.ns, .slice Ab s.bs.length cb, .slice An s.ts.length cn] 25)).alloc (.cells #[.int .i64 0, .int .i64 0, .string ⟨#[]⟩, .slice none 0 0, .slice none 0 0] 46)) (((w.alloc (.cells #[.int .i64 s.nb, .int .i64 s.nn, .int .i64 s.ns, .slice Ab s.bs.length cb, .slice An s.ts.length cn] 25)).alloc (.cells #[.int .i64 0, .int .i64 0, .string ⟨#[]⟩, .slice none 0 0, .slice none 0 0] 46))).heap.size (.agg #[.int .i64 s.nb, .int .i64 s.nn, .int .i64 s.ns, .slice Ab s.bs.length cb, .slice An s.ts.length cn]) s := hS0.next HB
  have HZ := Lib.hid hz
  have HM : Hid (rMayB s = M) := Lib.hid ((rMay_eq s).trans hM)
  obtain ⟨J, hJ⟩ : ∃ J, noteAt s x = J := ⟨_, rfl⟩
  rw [hJ] at hI
  have HJ := Lib.hid hJ
  clear hM hz hJ hS0 hB hN hcb hmb hcn hmn
  cases M
  · clear hI
    go_enter Tryz.func17, Tryz.ntmps17
    go_wp2_with (first | (go_at_call 57; go_loud (((with_reducible refine (rNote_any s _ x _ S1 ⟨HZ.out.bl, HZ.out.tl⟩).mono ?_); rintro e' w3 ⟨rfl, bx⟩; rw [HJ.out]; have B2 := B2.below bx B2.lt; have S1 := S1.next bx; have B1 := B1.below bx B1.lt; have HB := btr HB HB.size bx; (try clear k0 k1 k2 k3 k4); have k0 := B1.cell_ 0; have k1 := B1.cell_ 1; have k2 := B1.cell_ 2; have k3 := B1.cell_ 3; have k4 := B1.cell_ 4; simp at k0 k1 k2 k3 k4; (try clear r0 r1 r2 r3 r4 t0 t1 t2 t3 t4); have r0 := B2.cell_ 0; have t0 := B2.free 0; have r1 := B2.cell_ 1; have t1 := B2.free 1; have r2 := B2.cell_ 2; have t2 := B2.free 2; have r3 := B2.cell_ 3; have t3 := B2.free 3; have r4 := B2.cell_ 4; have t4 := B2.free 4; simp at r0 r1 r2 r3 r4; clear bx))) | (go_at_call 11; go_loud (((with_reducible refine (rMay_any s _ _ S1 HZ.out _ HM.out).mono ?_); rintro e' w4 ⟨rfl, bx⟩; have B2 := B2.below bx B2.lt; have S1 := S1.next bx; have B1 := B1.below bx B1.lt; have HB := btr HB HB.size bx; (try clear k0 k1 k2 k3 k4); have k0 := B1.cell_ 0; have k1 := B1.cell_ 1; have k2 := B1.cell_ 2; have k3 := B1.cell_ 3; have k4 := B1.cell_ 4; simp at k0 k1 k2 k3 k4; (try clear r0 r1 r2 r3 r4 t0 t1 t2 t3 t4); have r0 := B2.cell_ 0; have t0 := B2.free 0; have r1 := B2.cell_ 1; have t1 := B2.free 1; have r2 := B2.cell_ 2; have t2 := B2.free 2; have r3 := B2.cell_ 3; have t3 := B2.free 3; have r4 := B2.cell_ 4; have t4 := B2.free 4; simp at r0 r1 r2 r3 r4; clear bx))))
    have B2u := B2.st5_ (.int .i64 0) (.int .i64 0) (.string ⟨#[]⟩) (.slice none 0 0) (.slice none 0 0)
    have hb2 := st5_below HB (g := w.heap.size + 1) (by omega) 0 (.int .i64 0) (.int .i64 0) (.string ⟨#[]⟩) (.slice none 0 0) (.slice none 0 0)
    change bodyPost _ _ _ _ _ (st5 w4 (w.heap.size + 1) 0 (.int .i64 0) (.int .i64 0) (.string ⟨#[]⟩) (.slice none 0 0) (.slice none 0 0))
    generalize st5 w4 (w.heap.size + 1) 0 (.int .i64 0) (.int .i64 0) (.string ⟨#[]⟩) (.slice none 0 0) (.slice none 0 0) = Wd at B2u hb2 ⊢
    apply bodyPost_ret (v := .tuple #[.agg #[.int .i64 0, .int .i64 0, .string ⟨#[]⟩, .slice none 0 0, .slice none 0 0], .bool false])
    · exact results_cell1 Tryz.results17 _ Wd (w.heap.size + 1) 46 _ (0, 0) _ rfl B2u Tryz.underlying46 rfl (by kernel_rfl)
    · rfl
    · exact ⟨rfl, hb2⟩
  · have hj : J < 0 := by
      rcases hI with h | h
      · cases h
      · exact h
    clear hI
    go_enter Tryz.func17, Tryz.ntmps17
    go_wp2_with (first | (go_at_call 57; go_loud (((with_reducible refine (rNote_any s _ x _ S1 ⟨HZ.out.bl, HZ.out.tl⟩).mono ?_); rintro e' w3 ⟨rfl, bx⟩; rw [HJ.out]; have B2 := B2.below bx B2.lt; have S1 := S1.next bx; have B1 := B1.below bx B1.lt; have HB := btr HB HB.size bx; (try clear k0 k1 k2 k3 k4); have k0 := B1.cell_ 0; have k1 := B1.cell_ 1; have k2 := B1.cell_ 2; have k3 := B1.cell_ 3; have k4 := B1.cell_ 4; simp at k0 k1 k2 k3 k4; (try clear r0 r1 r2 r3 r4 t0 t1 t2 t3 t4); have r0 := B2.cell_ 0; have t0 := B2.free 0; have r1 := B2.cell_ 1; have t1 := B2.free 1; have r2 := B2.cell_ 2; have t2 := B2.free 2; have r3 := B2.cell_ 3; have t3 := B2.free 3; have r4 := B2.cell_ 4; have t4 := B2.free 4; simp at r0 r1 r2 r3 r4; clear bx))) | (go_at_call 11; go_loud (((with_reducible refine (rMay_any s _ _ S1 HZ.out _ HM.out).mono ?_); rintro e' w4 ⟨rfl, bx⟩; have B2 := B2.below bx B2.lt; have S1 := S1.next bx; have B1 := B1.below bx B1.lt; have HB := btr HB HB.size bx; (try clear k0 k1 k2 k3 k4); have k0 := B1.cell_ 0; have k1 := B1.cell_ 1; have k2 := B1.cell_ 2; have k3 := B1.cell_ 3; have k4 := B1.cell_ 4; simp at k0 k1 k2 k3 k4; (try clear r0 r1 r2 r3 r4 t0 t1 t2 t3 t4); have r0 := B2.cell_ 0; have t0 := B2.free 0; have r1 := B2.cell_ 1; have t1 := B2.free 1; have r2 := B2.cell_ 2; have t2 := B2.free 2; have r3 := B2.cell_ 3; have t3 := B2.free 3; have r4 := B2.cell_ 4; have t4 := B2.free 4; simp at r0 r1 r2 r3 r4; clear bx))))
    have B2u := B2.st5_ (.int .i64 0) (.int .i64 0) (.string ⟨#[]⟩) (.slice none 0 0) (.slice none 0 0)
    have hb2 := st5_below HB (g := w.heap.size + 1) (by omega) 0 (.int .i64 0) (.int .i64 0) (.string ⟨#[]⟩) (.slice none 0 0) (.slice none 0 0)
    change bodyPost _ _ _ _ _ (st5 w4 (w.heap.size + 1) 0 (.int .i64 0) (.int .i64 0) (.string ⟨#[]⟩) (.slice none 0 0) (.slice none 0 0))
    generalize st5 w4 (w.heap.size + 1) 0 (.int .i64 0) (.int .i64 0) (.string ⟨#[]⟩) (.slice none 0 0) (.slice none 0 0) = Wd at B2u hb2 ⊢
    apply bodyPost_ret (v := .tuple #[.agg #[.int .i64 0, .int .i64 0, .string ⟨#[]⟩, .slice none 0 0, .slice none 0 0], .bool false])
    · exact results_cell1 Tryz.results17 _ Wd (w.heap.size + 1) 46 _ (0, 0) _ rfl B2u Tryz.underlying46 rfl (by kernel_rfl)
    · rfl
    · exact ⟨rfl, hb2⟩
@[go_sem] theorem field_sh4 (a b c : Int) (A B : Option Addr) (n c1 m c2 : Nat) (w : World) : (Instr.field 25 (.agg #[.int .i64 a, .int .i64 b, .int .i64 c, .slice A n c1, .slice B m c2]) 4).run Tryz.prog w = .ok (.slice B m c2) w := by kernel_rfl
theorem rfind_yes (s : Sf) (v : Value) (x : Int) (w : World) (hS : ShR w w.heap.size v s) (hz : SzF s) (hM : mayS s = true) (k : Nat) (n : Nt) (hk : noteAt s x = (k : Int)) (hn : s.ts[k]? = some n) :
    Calls Tryz.prog 17 #[v, .int .i64 x] w fun e' w' => ∃ v1 v2, e' = .returned (.tuple #[.agg #[.int .i64 n.id, .int .i64 n.bk, .string n.nm, v1, v2], .bool true]) ∧ w'.ownsRow w.heap.size 9 1 v1 n.tg.length (n.tg.map strV) ∧ w'.ownsRow w.heap.size 3 1 v2 n.sh.length (n.sh.map (Value.int .i64)) ∧ Below w.heap.size w w' := by
  have hS0 := hS
  obtain ⟨Ab, cb, An, cn, rfl, hB, hN, hcb, hmb, hcn, hmn⟩ := hS.ex
  clear hS
  have HB : Below w.heap.size w ((w.alloc (.cells #[.int .i64 s.nb, .int .i64 s.nn, .int .i64 s.ns, .slice Ab s.bs.length cb, .slice An s.ts.length cn] 25)).alloc (.cells #[.int .i64 0, .int .i64 0, .string ⟨#[]⟩, .slice none 0 0, .slice none 0 0] 46)) := (((Below.refl w.heap.size w).alloc (by first | (simp; done) | (simp; omega)) _).alloc (by first | (simp; done) | (simp; omega)) _)
  have B1 : Blk ((w.alloc (.cells #[.int .i64 s.nb, .int .i64 s.nn, .int .i64 s.ns, .slice Ab s.bs.length cb, .slice An s.ts.length cn] 25)).alloc (.cells #[.int .i64 0, .int .i64 0, .string ⟨#[]⟩, .slice none 0 0, .slice none 0 0] 46)) w.heap.size 25 #[.int .i64 s.nb, .int .i64 s.nn, .int .i64 s.ns, .slice Ab s.bs.length cb, .slice An s.ts.length cn] := (Blk.new_ w 25 #[.int .i64 s.nb, .int .i64 s.nn, .int .i64 s.ns, .slice Ab s.bs.length cb, .slice An s.ts.length cn]).alloc_ _
  have B2 : Blk ((w.alloc (.cells #[.int .i64 s.nb, .int .i64 s.nn, .int .i64 s.ns, .slice Ab s.bs.length cb, .slice An s.ts.length cn] 25)).alloc (.cells #[.int .i64 0, .int .i64 0, .string ⟨#[]⟩, .slice none 0 0, .slice none 0 0] 46)) (w.heap.size + 1) 46 #[.int .i64 0, .int .i64 0, .string ⟨#[]⟩, .slice none 0 0, .slice none 0 0] := by
    have := Blk.new_ (w.alloc (.cells #[.int .i64 s.nb, .int .i64 s.nn, .int .i64 s.ns, .slice Ab s.bs.length cb, .slice An s.ts.length cn] 25)) 46 #[.int .i64 0, .int .i64 0, .string ⟨#[]⟩, .slice none 0 0, .slice none 0 0]
    simpa using this
  have S1 : ShR ((w.alloc (.cells #[.int .i64 s.nb, .int .i64 s.nn, .int .i64 s.ns, .slice Ab s.bs.length cb, .slice An s.ts.length cn] 25)).alloc (.cells #[.int .i64 0, .int .i64 0, .string ⟨#[]⟩, .slice none 0 0, .slice none 0 0] 46)) (((w.alloc (.cells #[.int .i64 s.nb, .int .i64 s.nn, .int .i64 s.ns, .slice Ab s.bs.length cb, .slice An s.ts.length cn] 25)).alloc (.cells #[.int .i64 0, .int .i64 0, .string ⟨#[]⟩, .slice none 0 0, .slice none 0 0] 46))).heap.size (.agg #[.int .i64 s.nb, .int .i64 s.nn, .int .i64 s.ns, .slice Ab s.bs.length cb, .slice An s.ts.length cn]) s := hS0.next HB
  have HZ := Lib.hid hz
  have HM : Hid (rMayB s = true) := Lib.hid ((rMay_eq s).trans hM)
  have hMF := mayF_of hM
  have HLB : Hid (s.bs.length ≤ 100000) := Lib.hid (by have := hMF.bl; omega)
  have HLN : Hid (s.ts.length ≤ 100000) := Lib.hid (by have := hMF.tl; omega)
  have HLR := Lib.hid hMF.small
  have HJ := Lib.hid hk
  have HNN := Lib.hid hn
  have hkl : k < s.ts.length := (List.getElem?_eq_some_iff.1 hn).1
  have HKL := Lib.hid hkl
  have i0 : (0 : Int) ≤ (k : Int) := by omega
  have i1 : (k : Int) < (s.ts.length : Int) := by omega
  have i2 : ¬ (k : Int) < 0 := by omega
  clear hM hz hk hn hMF hkl hS0 hB hN hcb hmb hcn hmn
  go_enter Tryz.func17, Tryz.ntmps17
  go_wp2_with (first | (go_at_call 57; go_loud (((with_reducible refine (rNote_any s _ x _ S1 ⟨HZ.out.bl, HZ.out.tl⟩).mono ?_); rintro e' w3 ⟨rfl, bx⟩; rw [HJ.out]; have B2 := B2.below bx B2.lt; have S1 := S1.next bx; have B1 := B1.below bx B1.lt; have HB := btr HB HB.size bx; (try clear k0 k1 k2 k3 k4); have k0 := B1.cell_ 0; have k1 := B1.cell_ 1; have k2 := B1.cell_ 2; have k3 := B1.cell_ 3; have k4 := B1.cell_ 4; simp at k0 k1 k2 k3 k4; (try clear r0 r1 r2 r3 r4 t0 t1 t2 t3 t4); have r0 := B2.cell_ 0; have t0 := B2.free 0; have r1 := B2.cell_ 1; have t1 := B2.free 1; have r2 := B2.cell_ 2; have t2 := B2.free 2; have r3 := B2.cell_ 3; have t3 := B2.free 3; have r4 := B2.cell_ 4; have t4 := B2.free 4; simp at r0 r1 r2 r3 r4; clear bx))) | (go_at_call 11; go_loud (((with_reducible refine (rMay_any s _ _ S1 HZ.out _ HM.out).mono ?_); rintro e' w4 ⟨rfl, bx⟩; have B2 := B2.below bx B2.lt; have S1 := S1.next bx; have B1 := B1.below bx B1.lt; have HB := btr HB HB.size bx; (try clear k0 k1 k2 k3 k4); have k0 := B1.cell_ 0; have k1 := B1.cell_ 1; have k2 := B1.cell_ 2; have k3 := B1.cell_ 3; have k4 := B1.cell_ 4; simp at k0 k1 k2 k3 k4; (try clear r0 r1 r2 r3 r4 t0 t1 t2 t3 t4); have r0 := B2.cell_ 0; have t0 := B2.free 0; have r1 := B2.cell_ 1; have t1 := B2.free 1; have r2 := B2.cell_ 2; have t2 := B2.free 2; have r3 := B2.cell_ 3; have t3 := B2.free 3; have r4 := B2.cell_ 4; have t4 := B2.free 4; simp at r0 r1 r2 r3 r4; clear bx))) | (go_at_call 8; go_loud (((with_reducible refine (rcopy_any s _ _ S1 HLB.out HLN.out HLR.out).mono ?_); rintro e' w5 ⟨v6, rfl, hQ, bx⟩; have hw4 := B2.lt; (obtain ⟨Ab6, cb6, An6, cn6, rfl, -, ⟨es6, hel6, hon6, hnt6⟩, -⟩ := hQ.parts); (obtain ⟨e0, he⟩ : ∃ e, es6[k]? = some e := ⟨_, List.getElem?_eq_getElem (by have := HKL.out; omega)⟩); (obtain ⟨vt, vs, rfl, o1, o2⟩ := hnt6 k n e0 HNN.out he); (obtain ⟨At, ct, rfl, -⟩ := own_shape o1); (obtain ⟨As, cs, rfl, -⟩ := own_shape o2); (obtain ⟨gn, hgn⟩ : ∃ gn, An6 = some ⟨gn, 0, none⟩ := by rcases hon6.2 with ⟨h, h0⟩ | ⟨g, c, cu, h, hb, _⟩; (have := HKL.out; omega); (injection h with h1 h2 h3; exact ⟨g, h1⟩)); subst hgn; have y0 : w5.cell? ⟨gn, k * 5, none⟩ = some (.int .i64 n.id) := own_cellE hon6 (es_five hel6 hnt6) he (j := 0) rfl; have y1 : w5.cell? ⟨gn, k * 5 + 1, none⟩ = some (.int .i64 n.bk) := own_cellE hon6 (es_five hel6 hnt6) he (j := 1) rfl; have y2 : w5.cell? ⟨gn, k * 5 + 2, none⟩ = some (.string n.nm) := own_cellE hon6 (es_five hel6 hnt6) he (j := 2) rfl; have y3 : w5.cell? ⟨gn, k * 5 + 3, none⟩ = some (.slice At n.tg.length ct) := own_cellE hon6 (es_five hel6 hnt6) he (j := 3) rfl; have y4 : w5.cell? ⟨gn, k * 5 + 4, none⟩ = some (.slice As n.sh.length cs) := own_cellE hon6 (es_five hel6 hnt6) he (j := 4) rfl; have HO1 := Lib.hid o1; have HO2 := Lib.hid o2; have B2 := B2.below bx B2.lt; have S1 := S1.next bx; have B1 := B1.below bx B1.lt; have HB := btr HB HB.size bx; (try clear k0 k1 k2 k3 k4); have k0 := B1.cell_ 0; have k1 := B1.cell_ 1; have k2 := B1.cell_ 2; have k3 := B1.cell_ 3; have k4 := B1.cell_ 4; simp at k0 k1 k2 k3 k4; (try clear r0 r1 r2 r3 r4 t0 t1 t2 t3 t4); have r0 := B2.cell_ 0; have t0 := B2.free 0; have r1 := B2.cell_ 1; have t1 := B2.free 1; have r2 := B2.cell_ 2; have t2 := B2.free 2; have r3 := B2.cell_ 3; have t3 := B2.free 3; have r4 := B2.cell_ 4; have t4 := B2.free 4; simp at r0 r1 r2 r3 r4; clear bx; clear hQ hel6 hon6 hnt6 he o1 o2))))
  have B2u := B2.st5_ (.int .i64 n.id) (.int .i64 n.bk) (.string n.nm) (.slice At n.tg.length ct) (.slice As n.sh.length cs)
  have hg5 := st5_grown w5 (w.heap.size + 1) 0 (.int .i64 n.id) (.int .i64 n.bk) (.string n.nm) (.slice At n.tg.length ct) (.slice As n.sh.length cs)
  have hb2 := st5_below HB (g := w.heap.size + 1) (by omega) 0 (.int .i64 n.id) (.int .i64 n.bk) (.string n.nm) (.slice At n.tg.length ct) (.slice As n.sh.length cs)
  have hq1 := own_base (B' := w.heap.size) (World.ownsRow.kept HO1.out hg5 (own_off HO1.out (by omega))) (by omega)
  have hq2 := own_base (B' := w.heap.size) (World.ownsRow.kept HO2.out hg5 (own_off HO2.out (by omega))) (by omega)
  change bodyPost _ _ _ _ _ (st5 w5 (w.heap.size + 1) 0 (.int .i64 n.id) (.int .i64 n.bk) (.string n.nm) (.slice At n.tg.length ct) (.slice As n.sh.length cs))
  clear hg5
  generalize st5 w5 (w.heap.size + 1) 0 (.int .i64 n.id) (.int .i64 n.bk) (.string n.nm) (.slice At n.tg.length ct) (.slice As n.sh.length cs) = Wd at B2u hb2 hq1 hq2 ⊢
  apply bodyPost_ret (v := .tuple #[.agg #[.int .i64 n.id, .int .i64 n.bk, .string n.nm, .slice At n.tg.length ct, .slice As n.sh.length cs], .bool true])
  · exact results_cell1 Tryz.results17 _ Wd (w.heap.size + 1) 46 _ (0, 0) _ rfl B2u Tryz.underlying46 rfl (by kernel_rfl)
  · rfl
  · exact ⟨_, _, rfl, hq1, hq2, hb2⟩
end Go.Proofs.YtokhapafpjejaaaGreatDoor
namespace Go.Proofs.YtokhapafpjejaaaGreatDoor
open Go.ChangeShapes Go.WideShapes Go.ChangeAt Go.RowKit
attribute [local go_sem ↓] Go.wp_at_zero Go.wp_at_succ
theorem lessI (a b : It) : lessS a.nm b.nm = decide (cmpI a b < 0) := by
  unfold lessS cmpI
  rw [cmp_less, ByteArray.toList_eq, ByteArray.toList_eq]
def insR : List It → It → List It
  | [], x => [x]
  | y :: l, x => if lessS y.nm x.nm = true then y :: insR l x else x :: y :: l
theorem insI_eq : ∀ (l : List It) (x : It), insI l x = insR l x
  | [], x => rfl
  | y :: l, x => by
    have ih := insI_eq l x
    unfold insI at ih ⊢
    unfold cntLt insR
    by_cases h : lessS y.nm x.nm = true
    · rw [if_pos h, if_pos h, ← ih]
      simp
    · rw [if_neg h, if_neg h]
      simp
theorem insR_mem {x z : It} : ∀ {l : List It}, z ∈ insR l x → z = x ∨ z ∈ l
  | [], h => by simpa [insR] using h
  | y :: l, h => by
    unfold insR at h
    split at h
    · rcases List.mem_cons.1 h with rfl | h
      · simp
      · rcases insR_mem h with h | h
        · exact Or.inl h
        · exact Or.inr (by simp [h])
    · rcases List.mem_cons.1 h with rfl | h
      · exact Or.inl rfl
      · exact Or.inr h
theorem insR_perm (x : It) : ∀ l : List It, (insR l x).Perm (x :: l)
  | [] => List.Perm.refl _
  | y :: l => by
    unfold insR
    split
    · exact ((insR_perm x l).cons y).trans (List.Perm.swap x y l)
    · exact List.Perm.refl _
theorem insR_ord {x : It} : ∀ {l : List It}, OrdI l → OrdI (insR l x)
  | [], _ => List.pairwise_singleton _ _
  | y :: l, h => by
    have h1 := List.pairwise_cons.1 h
    unfold insR
    split
    · rename_i hy
      refine List.pairwise_cons.2 ⟨fun z hz hlt => ?_, insR_ord h1.2⟩
      rcases insR_mem hz with rfl | hz
      · rw [lessI, decide_eq_true_eq] at hy
        have h2 := swoI.trans y z y (decide_eq_true hy) (decide_eq_true hlt)
        rw [swoI.irrefl] at h2
        cases h2
      · exact h1.1 z hz hlt
    · rename_i hy
      have hyx : ltOf cmpI y x = false := by
        rw [lessI, decide_eq_true_eq] at hy
        exact decide_eq_false hy
      refine List.pairwise_cons.2 ⟨fun z hz hlt => ?_, h⟩
      rcases List.mem_cons.1 hz with rfl | hz
      · exact absurd hlt (of_decide_eq_false hyx)
      · have h3 : ltOf cmpI z y = false := decide_eq_false (fun h4 => h1.1 z hz h4)
        exact absurd hlt (of_decide_eq_false (swoI.ntrans z y x h3 hyx))
theorem fIns_both (xs : List It) : OrdI (fIns xs) ∧ (fIns xs).Perm xs := by
  have : ∀ (xs acc : List It), OrdI acc → OrdI (xs.foldl insI acc) ∧ (xs.foldl insI acc).Perm (acc ++ xs) := by
    intro xs
    induction xs with
    | nil => intro acc h; exact ⟨h, by rw [List.append_nil]; exact List.Perm.refl _⟩
    | cons x xs ih =>
      intro acc h
      obtain ⟨h1, h2⟩ := ih (insI acc x) (by rw [insI_eq]; exact insR_ord h)
      refine ⟨h1, h2.trans ?_⟩
      rw [insI_eq]
      exact ((insR_perm x acc).append_right xs).trans List.perm_middle.symm
  have h := this xs [] List.Pairwise.nil
  simpa [fIns] using h
theorem its_eq {its xs : List It} (hp : its.Perm xs) (ho : OrdI its) (hinj : ∀ a ∈ xs, ∀ b ∈ xs, a.nm.toList = b.nm.toList → a = b) : its = fIns xs := by
  obtain ⟨h1, h2⟩ := fIns_both xs
  refine List.Perm.eq_of_pairwise (le := fun a b => cmpI b a < 0 → False) (fun a b ha hb h3 h4 => ?_) ho h1 (hp.trans h2.symm)
  refine hinj a (hp.mem_iff.1 ha) b (h2.mem_iff.1 hb) ?_
  rw [ByteArray.toList_eq, ByteArray.toList_eq]
  exact cmp_tri _ _ (fun h => h4 h) (fun h => h3 h)
theorem nm_eq {a b : ByteArray} (h : a.toList = b.toList) : a = b := by
  rw [ByteArray.toList_eq, ByteArray.toList_eq] at h
  cases a
  cases b
  congr 1
  exact Array.toList_inj.1 h
theorem bks_inj {s : Sf} (hF : MayF s) : ∀ a ∈ s.bs.map bkIt, ∀ b ∈ s.bs.map bkIt, a.nm.toList = b.nm.toList → a = b := by
  intro a ha b hb he
  obtain ⟨x, hx, rfl⟩ := List.mem_map.1 ha
  obtain ⟨y, hy, rfl⟩ := List.mem_map.1 hb
  have h1 : x.id = y.id := hF.names hx hy he
  have h2 : x.nm = y.nm := nm_eq he
  show (⟨x.id, x.nm⟩ : It) = ⟨y.id, y.nm⟩
  rw [h1, h2]
theorem nts_inj {s : Sf} (hF : MayF s) (z : Int) : ∀ a ∈ (ofBook s z).map ntIt, ∀ b ∈ (ofBook s z).map ntIt, a.nm.toList = b.nm.toList → a = b := by
  intro a ha b hb he
  obtain ⟨x, hx, rfl⟩ := List.mem_map.1 ha
  obtain ⟨y, hy, rfl⟩ := List.mem_map.1 hb
  have hx2 := List.mem_filter.1 hx
  have hy2 := List.mem_filter.1 hy
  have h0 : x.bk = y.bk := by
    have h1 : x.bk = z := by simpa using hx2.2
    have h2 : y.bk = z := by simpa using hy2.2
    rw [h1, h2]
  have h1 : x.id = y.id := hF.nnames hx2.1 hy2.1 h0 he
  have h2 : x.nm = y.nm := nm_eq he
  show (⟨x.id, x.nm⟩ : It) = ⟨y.id, y.nm⟩
  rw [h1, h2]
def bksT (s : Sf) : List It := cond (mayS s) (fIns (s.bs.map bkIt)) []
def ntsT (s : Sf) (x : Int) : List It := cond (mayS s) (cond (decide (bookAt s x < 0)) [] (fIns ((ofBook s x).map ntIt))) []
def ntsC (s : Sf) (x : Int) : Int := cond (mayS s) (cond (decide (bookAt s x < 0)) 4 0) 2
def fndB (s : Sf) (x : Int) : Bool := mayS s && !decide (noteAt s x < 0)
def fndN (s : Sf) (x : Int) : Nt := match cond (fndB s x) (s.ts[(noteAt s x).toNat]?) none with
  | some n => n
  | none => ⟨0, 0, ⟨#[]⟩, [], []⟩
theorem lists_len (s : Sf) (x : Int) (hb : s.bs.length ≤ 100) (ht : s.ts.length ≤ 100) : (bksT s).length ≤ 1000 ∧ (ntsT s x).length ≤ 1000 := by
  constructor
  · unfold bksT
    cases mayS s
    · simp
    · show (fIns _).length ≤ 1000
      rw [fIns_len, List.length_map]
      omega
  · unfold ntsT
    cases mayS s
    · simp
    · cases decide (bookAt s x < 0)
      · show (fIns _).length ≤ 1000
        rw [fIns_len, List.length_map]
        have := List.length_filter_le (fun n : Nt => n.bk == x) s.ts
        unfold ofBook
        omega
      · simp
theorem fnd_small {s : Sf} (hz : SzF s) (x : Int) : (fndN s x).tg.length ≤ 100000 ∧ (fndN s x).sh.length ≤ 100000 := by
  unfold fndN
  cases h : cond (fndB s x) (s.ts[(noteAt s x).toNat]?) none with
  | none => exact ⟨by simp, by simp⟩
  | some n =>
    have hn : n ∈ s.ts := by
      cases hb : fndB s x
      · rw [hb] at h
        cases h
      · rw [hb] at h
        exact List.mem_of_getElem? h
    have h1 := hz.hn n hn
    exact ⟨h1.2.1.2, h1.2.2⟩
theorem bksA_any (s : Sf) (v : Value) (w : World) (hS : ShR w w.heap.size v s) (hT : Tabs w) :
    Calls Tryz.prog 13 #[v] w fun e' w' => ∃ (A : Option Addr) (c : Nat) (xs : List Value), e' = .returned (.slice A (bksT s).length c) ∧ SlE 2 w' w'.heap.size A ((bksT s).map itC) ∧ w'.ownsRow w.heap.size 64 2 (.slice A (bksT s).length c) (bksT s).length xs ∧ Below w.heap.size w w' := by
  unfold bksT
  cases hM : mayS s
  · exact (books_bad s v w hS hT hM).mono fun e' w' ⟨h1, h2⟩ => ⟨none, 0, [], h1, Or.inl rfl, World.ownsRow_nil _ _ _ _, h2⟩
  · refine (books_own s v w hS hT hM (mayF_of hM).bl).mono ?_
    rintro e' w' ⟨A, c, its, h1, h2, h3, h4, h5, h6, h7, xs, h8⟩
    have he := its_eq h2 h3 (bks_inj (mayF_of hM))
    subst he
    exact ⟨A, c, xs, h1, h4, h8, h7⟩
theorem rbooks_all (s : Sf) (v : Value) (w : World) (hS : ShR w w.heap.size v s) (hz : SzF s) :
    Calls Tryz.prog 19 #[v] w fun e' w' => ∃ (A : Option Addr) (c : Nat), e' = .returned (.slice A (bksT s).length c) ∧ SlE 2 w' w'.heap.size A ((bksT s).map itC) ∧ Below w.heap.size w w' := by
  unfold bksT
  cases hM : mayS s
  · exact (rbooks_bad s v w hS hz hM).mono fun e' w' ⟨h1, h2⟩ => ⟨none, 0, h1, Or.inl rfl, h2⟩
  · exact (rBooksL_any s v w hS hz hM).mono fun e' w' ⟨A, c, h1, h2, h3, h4, h5⟩ => ⟨A, c, h1, h2, h5⟩
theorem ntsA_any (s : Sf) (v : Value) (x : Int) (w : World) (hS : ShR w w.heap.size v s) (hT : Tabs w) :
    Calls Tryz.prog 14 #[v, .int .i64 x] w fun e' w' => ∃ (A : Option Addr) (c : Nat) (xs : List Value), e' = .returned (.tuple #[.slice A (ntsT s x).length c, .int .i64 (ntsC s x)]) ∧ SlE 2 w' w'.heap.size A ((ntsT s x).map itC) ∧ w'.ownsRow w.heap.size 64 2 (.slice A (ntsT s x).length c) (ntsT s x).length xs ∧ Below w.heap.size w w' := by
  unfold ntsT ntsC
  cases hM : mayS s
  · exact (notes_bad s v x w hS hT hM).mono fun e' w' ⟨h1, h2⟩ => ⟨none, 0, [], h1, Or.inl rfl, World.ownsRow_nil _ _ _ _, h2⟩
  · by_cases hI : bookAt s x < 0
    · rw [decide_eq_true hI]
      exact (notes_none s v x w hS hT hM hI).mono fun e' w' ⟨h1, h2⟩ => ⟨none, 0, [], h1, Or.inl rfl, World.ownsRow_nil _ _ _ _, h2⟩
    · rw [decide_eq_false hI]
      refine (notes_own s v x w hS hT hM (Int.not_lt.1 hI) (mayF_of hM).tl).mono ?_
      rintro e' w' ⟨A, c, its, h1, h2, h3, h4, h5, h6, h7, xs, h8⟩
      have he := its_eq h2 h3 (nts_inj (mayF_of hM) x)
      subst he
      exact ⟨A, c, xs, h1, h4, h8, h7⟩
theorem rnotes_all (s : Sf) (v : Value) (x : Int) (w : World) (hS : ShR w w.heap.size v s) (hz : SzF s) :
    Calls Tryz.prog 15 #[v, .int .i64 x] w fun e' w' => ∃ (A : Option Addr) (c : Nat), e' = .returned (.tuple #[.slice A (ntsT s x).length c, .int .i64 (ntsC s x)]) ∧ SlE 2 w' w'.heap.size A ((ntsT s x).map itC) ∧ Below w.heap.size w w' := by
  unfold ntsT ntsC
  cases hM : mayS s
  · exact (rnotes_bad s v x w hS hz hM).mono fun e' w' ⟨h1, h2⟩ => ⟨none, 0, h1, Or.inl rfl, h2⟩
  · by_cases hI : bookAt s x < 0
    · rw [decide_eq_true hI]
      exact (rnotes_none s v x w hS hz hM hI).mono fun e' w' ⟨h1, h2⟩ => ⟨none, 0, h1, Or.inl rfl, h2⟩
    · rw [decide_eq_false hI]
      exact (rNotesL_any s v x w hS hz hM (Int.not_lt.1 hI)).mono fun e' w' ⟨A, c, h1, h2, h3, h4, h5⟩ => ⟨A, c, h1, h2, h5⟩
theorem find_all (s : Sf) (v : Value) (x : Int) (w : World) (hS : ShR w w.heap.size v s) (hT : Tabs w) :
    Calls Tryz.prog 16 #[v, .int .i64 x] w fun e' w' => ∃ v1 v2, e' = .returned (.tuple #[.agg #[.int .i64 (fndN s x).id, .int .i64 (fndN s x).bk, .string (fndN s x).nm, v1, v2], .bool (fndB s x)]) ∧ w'.ownsRow w.heap.size 9 1 v1 (fndN s x).tg.length ((fndN s x).tg.map strV) ∧ w'.ownsRow w.heap.size 3 1 v2 (fndN s x).sh.length ((fndN s x).sh.map (Value.int .i64)) ∧ Below w.heap.size w w' := by
  cases hb : fndB s x
  · have hn : fndN s x = ⟨0, 0, ⟨#[]⟩, [], []⟩ := by unfold fndN; rw [hb]; rfl
    rw [hn]
    refine (find_no s v x w hS hT _ rfl ?_).mono fun e' w' ⟨h1, h2⟩ => ⟨.slice none 0 0, .slice none 0 0, h1, World.ownsRow_nil _ _ _ _, World.ownsRow_nil _ _ _ _, h2⟩
    unfold fndB at hb
    cases hM : mayS s
    · exact Or.inl rfl
    · right
      rw [hM] at hb
      by_cases h : noteAt s x < 0
      · exact h
      · simp [h] at hb
  · have hb2 := hb
    unfold fndB at hb2
    rw [Bool.and_eq_true, Bool.not_eq_true', decide_eq_false_iff_not] at hb2
    obtain ⟨k, n, hk, hn, hid⟩ := noteAt_get (Int.not_lt.1 hb2.2)
    have he : fndN s x = n := by
      unfold fndN
      rw [hb, hk]
      simp [hn]
    rw [he]
    exact find_yes s v x w hS hT hb2.1 k n hk hn
theorem rfind_all (s : Sf) (v : Value) (x : Int) (w : World) (hS : ShR w w.heap.size v s) (hz : SzF s) :
    Calls Tryz.prog 17 #[v, .int .i64 x] w fun e' w' => ∃ v1 v2, e' = .returned (.tuple #[.agg #[.int .i64 (fndN s x).id, .int .i64 (fndN s x).bk, .string (fndN s x).nm, v1, v2], .bool (fndB s x)]) ∧ w'.ownsRow w.heap.size 9 1 v1 (fndN s x).tg.length ((fndN s x).tg.map strV) ∧ w'.ownsRow w.heap.size 3 1 v2 (fndN s x).sh.length ((fndN s x).sh.map (Value.int .i64)) ∧ Below w.heap.size w w' := by
  cases hb : fndB s x
  · have hn : fndN s x = ⟨0, 0, ⟨#[]⟩, [], []⟩ := by unfold fndN; rw [hb]; rfl
    rw [hn]
    refine (rfind_no s v x w hS hz _ rfl ?_).mono fun e' w' ⟨h1, h2⟩ => ⟨.slice none 0 0, .slice none 0 0, h1, World.ownsRow_nil _ _ _ _, World.ownsRow_nil _ _ _ _, h2⟩
    unfold fndB at hb
    cases hM : mayS s
    · exact Or.inl rfl
    · right
      rw [hM] at hb
      by_cases h : noteAt s x < 0
      · exact h
      · simp [h] at hb
  · have hb2 := hb
    unfold fndB at hb2
    rw [Bool.and_eq_true, Bool.not_eq_true', decide_eq_false_iff_not] at hb2
    obtain ⟨k, n, hk, hn, hid⟩ := noteAt_get (Int.not_lt.1 hb2.2)
    have he : fndN s x = n := by
      unfold fndN
      rw [hb, hk]
      simp [hn]
    rw [he]
    exact rfind_yes s v x w hS hz hb2.1 k n hk hn
theorem sz_of_great {s : Sf} (h : greatS s = false) : SzF s := by
  have h1 : s.bs.length ≤ 10 := by
    rcases Nat.lt_or_ge 10 s.bs.length with h2 | h2
    · rw [gS_1 h2] at h; cases h
    · exact h2
  have h2 : s.ts.length ≤ 16 := by
    rcases Nat.lt_or_ge 16 s.ts.length with h3 | h3
    · rw [gS_2 h3] at h; cases h
    · exact h3
  have h3 : s.bs.any bigB = false := by
    cases h4 : s.bs.any bigB
    · rfl
    · rw [gS_b h1 h4] at h; cases h
  have h4 : s.ts.any bigN = false := by
    cases h5 : s.ts.any bigN
    · rfl
    · rw [gS_n h2 h5] at h; cases h
  have h5 : ∀ n ∈ s.ts, n.nm.size ≤ 60 ∧ n.tg.length ≤ 8 ∧ (∀ t ∈ n.tg, t.size ≤ 60) ∧ n.sh.length ≤ 12 := by
    intro n hn
    have h6 := List.any_eq_false.1 h4 n hn
    unfold bigN greatT at h6
    simp only [Bool.or_eq_true, decide_eq_true_eq, not_or, Bool.not_eq_true] at h6
    refine ⟨by omega, by omega, fun t ht => ?_, by omega⟩
    have h7 := List.any_eq_false.1 h6.2.1.2 t ht
    unfold bigS at h7
    have h8 : ¬ 60 < t.size := by simpa using h7
    omega
  have h6 : ∀ l : List Nt, (∀ n ∈ l, n.sh.length ≤ 12) → (l.flatMap Nt.sh).length ≤ 12 * l.length := by
    intro l
    induction l with
    | nil => intro _; simp
    | cons n l ih =>
      intro hl
      rw [List.flatMap_cons, List.length_append, List.length_cons]
      have q1 := hl n (by simp)
      have q2 := ih (fun m hm => hl m (by simp [hm]))
      omega
  refine ⟨fun b hb => ?_, fun n hn => ?_, by omega, by omega, ?_⟩
  · have h7 := List.any_eq_false.1 h3 b hb
    unfold bigB at h7
    have h8 : ¬ 60 < b.nm.size := by simpa using h7
    omega
  · obtain ⟨q1, q2, q3, q4⟩ := h5 n hn
    exact ⟨by omega, ⟨fun t ht => by have := q3 t ht; omega, by omega⟩, by omega⟩
  · have := h6 s.ts (fun n hn => (h5 n hn).2.2.2)
    omega
theorem blk_neq {w : World} {base C n g : Nat} {e t : TypeId} {v : Value} {xs : List Value} {cs : Array Value} (h : w.ownsRow base e C v n xs) (hB : Blk w g t cs) (hne : e ≠ t) : v.ownBlock ≠ some g := by
  rcases h.2 with ⟨rfl, _⟩ | ⟨g2, c, cu, rfl, _, hh, _⟩
  · simp [Value.ownBlock]
  · intro he
    have h2 : g2 = g := by simpa [Value.ownBlock] using he
    subst h2
    have h3 : w.heap[g2]? = some (.cells cs t (0, 0)) := hB
    rw [hh] at h3
    injection h3 with h3
    injection h3 with h4 h5
    exact hne h5
end Go.Proofs.YtokhapafpjejaaaGreatDoor
namespace Go.Proofs.YtokhapafpjejaaaGreatDoor
open Go.ChangeShapes Go.WideShapes Go.ChangeAt Go.RowKit
attribute [local go_sem ↓] Go.wp_at_zero Go.wp_at_succ
def fullN (s : Sf) : Bool := decide (12 ≤ s.ts.length) || decide (65536 ≤ s.nn)
def noteC (s : Sf) (z : Int) (x : ByteArray) : Int := cond (mayS s) (cond (decide (bookAt s z < 0)) 4 (cond (mayN x) (cond (noteTk s z x 0) 7 (cond (fullN s) 3 0)) 6)) 2
def noteS (s : Sf) (z : Int) (x : ByteArray) : Sf := { s with nn := s.nn + 1, ts := s.ts ++ [⟨s.nn, z, x, [], []⟩] }
def bkOf (s : Sf) (y : Int) : Int := match s.ts[(noteAt s y).toNat]? with
  | some n => n.bk
  | none => 0
def retC (s : Sf) (y : Int) (x : ByteArray) : Int := cond (mayS s) (cond (decide (noteAt s y < 0)) 4 (cond (mayN x) (cond (noteTk s (bkOf s y) x y) 7 0) 6)) 2
def retS (s : Sf) (y : Int) (x : ByteArray) : Sf := match s.ts[(noteAt s y).toNat]? with
  | some n => { s with ts := s.ts.set (noteAt s y).toNat { n with nm := x } }
  | none => s
theorem rmov_no (s : Sf) (v : Value) (y z : Int) (w : World) (hS : ShR w w.heap.size v s) (hz : SzF s) (c : Int) (hc : movC s y z = c) (hne : c ≠ 0) :
    Calls Tryz.prog 40 #[v, .int .i64 y, .int .i64 z] w fun e' w' => e' = .returned (.tuple #[.agg #[.int .i64 0, .int .i64 0, .int .i64 0, .slice none 0 0, .slice none 0 0], .int .i64 c]) ∧ Below w.heap.size w w' := by
  have hS0 := hS
  obtain ⟨Ab, cb, An, cn, rfl, hB, hN, hcb, hmb, hcn, hmn⟩ := hS.ex
  clear hS
  obtain ⟨HB, B1, B2, S1⟩ := pre2 hS0
  have HZ := Lib.hid hz
  obtain ⟨M, hM⟩ : ∃ M, mayS s = M := ⟨_, rfl⟩
  have HM : Hid (rMayB s = M) := Lib.hid ((rMay_eq s).trans hM)
  obtain ⟨J, hJ⟩ : ∃ J, noteAt s y = J := ⟨_, rfl⟩
  obtain ⟨I, hI⟩ : ∃ I, bookAt s z = I := ⟨_, rfl⟩
  have hmn2 : mayN (nameAt s y) = true ∨ M = false ∨ J < 0 := by
    cases hM2 : M
    · exact Or.inr (Or.inl rfl)
    · by_cases hj : J < 0
      · exact Or.inr (Or.inr hj)
      · left
        obtain ⟨k, n, hk, hn, hid⟩ := noteAt_get (s := s) (x := y) (by omega)
        have hnm : nameAt s y = n.nm := by unfold nameAt; rw [hk]; simp [hn]
        have h1 := ((mayF_of (hM.trans hM2)).ts n (List.mem_of_getElem? hn)).2.2
        unfold mayNt at h1
        simp only [Bool.and_eq_true] at h1
        rw [hnm]
        exact h1.1
  unfold movC at hc
  rw [hM, hI, hJ] at hc
  have HI := Lib.hid hI
  have HJ := Lib.hid hJ
  clear hM hI
  cases M
  · obtain rfl : c = 2 := hc.symm
    clear hS0 hB hN hcb hmb hcn hmn hz
    clear hc hne hJ hmn2
    go_enter Tryz.func40, Tryz.ntmps40
    go_wp2_with (first | (go_at_call 11; ((with_reducible refine (rMay_any s _ _ S1 HZ.out _ HM.out).mono ?_); rintro e' w3 ⟨rfl, bx⟩; (try clear k0 k1 k2 k3 k4 r0 r1 r2 r3 r4 t0 t1 t2 t3 t4); obtain ⟨S1, B1, B2, HB, k0, k1, k2, k3, k4, r0, r1, r2, r3, r4, t0, t1, t2, t3, t4⟩ := keepR S1 B1 B2 HB bx; clear bx)))
    have B2u := z5_blk B2
    have hb2 := z5_below HB (g := w.heap.size + 1) (by omega)
    change bodyPost _ _ _ _ _ (z5 w3 (w.heap.size + 1))
    generalize z5 w3 (w.heap.size + 1) = Wd at B2u hb2 ⊢
    apply bodyPost_ret (v := .tuple #[.agg #[.int .i64 0, .int .i64 0, .int .i64 0, .slice none 0 0, .slice none 0 0], .int .i64 2])
    · exact results_cell1 Tryz.results40 _ Wd _ 25 #[.int .i64 0, .int .i64 0, .int .i64 0, .slice none 0 0, .slice none 0 0] (0, 0) _ rfl B2u Tryz.underlying25 rfl (by kernel_rfl)
    · rfl
    · exact ⟨rfl, hb2⟩
  · by_cases hj : J < 0
    · obtain rfl : c = 4 := by simpa [hj] using hc.symm
      clear hS0 hB hN hcb hmb hcn hmn hz
      clear hc hne hJ hmn2
      go_enter Tryz.func40, Tryz.ntmps40
      go_wp2_with (first | (go_at_call 11; ((with_reducible refine (rMay_any s _ _ S1 HZ.out _ HM.out).mono ?_); rintro e' w3 ⟨rfl, bx⟩; (try clear k0 k1 k2 k3 k4 r0 r1 r2 r3 r4 t0 t1 t2 t3 t4); obtain ⟨S1, B1, B2, HB, k0, k1, k2, k3, k4, r0, r1, r2, r3, r4, t0, t1, t2, t3, t4⟩ := keepR S1 B1 B2 HB bx; clear bx)) | (go_at_call 57; ((with_reducible refine (rNote_any s _ y _ S1 ⟨HZ.out.bl, HZ.out.tl⟩).mono ?_); rintro e' w4 ⟨rfl, bx⟩; rw [HJ.out]; (try clear k0 k1 k2 k3 k4 r0 r1 r2 r3 r4 t0 t1 t2 t3 t4); obtain ⟨S1, B1, B2, HB, k0, k1, k2, k3, k4, r0, r1, r2, r3, r4, t0, t1, t2, t3, t4⟩ := keepR S1 B1 B2 HB bx; clear bx)))
      have B2u := z5_blk B2
      have hb2 := z5_below HB (g := w.heap.size + 1) (by omega)
      change bodyPost _ _ _ _ _ (z5 w4 (w.heap.size + 1))
      generalize z5 w4 (w.heap.size + 1) = Wd at B2u hb2 ⊢
      apply bodyPost_ret (v := .tuple #[.agg #[.int .i64 0, .int .i64 0, .int .i64 0, .slice none 0 0, .slice none 0 0], .int .i64 4])
      · exact results_cell1 Tryz.results40 _ Wd _ 25 #[.int .i64 0, .int .i64 0, .int .i64 0, .slice none 0 0, .slice none 0 0] (0, 0) _ rfl B2u Tryz.underlying25 rfl (by kernel_rfl)
      · rfl
      · exact ⟨rfl, hb2⟩
    · by_cases hi : I < 0
      · obtain rfl : c = 4 := by simpa [hi, hj] using hc.symm
        clear hS0 hB hN hcb hmb hcn hmn hz
        clear hc hne hJ hmn2
        go_enter Tryz.func40, Tryz.ntmps40
        go_wp2_with (first | (go_at_call 11; ((with_reducible refine (rMay_any s _ _ S1 HZ.out _ HM.out).mono ?_); rintro e' w3 ⟨rfl, bx⟩; (try clear k0 k1 k2 k3 k4 r0 r1 r2 r3 r4 t0 t1 t2 t3 t4); obtain ⟨S1, B1, B2, HB, k0, k1, k2, k3, k4, r0, r1, r2, r3, r4, t0, t1, t2, t3, t4⟩ := keepR S1 B1 B2 HB bx; clear bx)) | (go_at_call 57; ((with_reducible refine (rNote_any s _ y _ S1 ⟨HZ.out.bl, HZ.out.tl⟩).mono ?_); rintro e' w4 ⟨rfl, bx⟩; rw [HJ.out]; (try clear k0 k1 k2 k3 k4 r0 r1 r2 r3 r4 t0 t1 t2 t3 t4); obtain ⟨S1, B1, B2, HB, k0, k1, k2, k3, k4, r0, r1, r2, r3, r4, t0, t1, t2, t3, t4⟩ := keepR S1 B1 B2 HB bx; clear bx)) | (go_at_call 53; ((with_reducible refine (rBook_any s _ z _ S1 ⟨HZ.out.bl, HZ.out.tl⟩).mono ?_); rintro e' w5 ⟨rfl, bx⟩; rw [HI.out]; (try clear k0 k1 k2 k3 k4 r0 r1 r2 r3 r4 t0 t1 t2 t3 t4); obtain ⟨S1, B1, B2, HB, k0, k1, k2, k3, k4, r0, r1, r2, r3, r4, t0, t1, t2, t3, t4⟩ := keepR S1 B1 B2 HB bx; clear bx)))
        have B2u := z5_blk B2
        have hb2 := z5_below HB (g := w.heap.size + 1) (by omega)
        change bodyPost _ _ _ _ _ (z5 w5 (w.heap.size + 1))
        generalize z5 w5 (w.heap.size + 1) = Wd at B2u hb2 ⊢
        apply bodyPost_ret (v := .tuple #[.agg #[.int .i64 0, .int .i64 0, .int .i64 0, .slice none 0 0, .slice none 0 0], .int .i64 4])
        · exact results_cell1 Tryz.results40 _ Wd _ 25 #[.int .i64 0, .int .i64 0, .int .i64 0, .slice none 0 0, .slice none 0 0] (0, 0) _ rfl B2u Tryz.underlying25 rfl (by kernel_rfl)
        · rfl
        · exact ⟨rfl, hb2⟩
      · obtain ⟨k, n, hk, hn, hid⟩ := noteAt_get (s := s) (x := y) (by omega)
        have hnm : nameAt s y = n.nm := by unfold nameAt; rw [hk]; simp [hn]
        have hmy : mayN n.nm = true := by
          rcases hmn2 with h | h | h
          · rwa [hnm] at h
          · cases h
          · exact absurd h hj
        rw [hnm] at hc
        have hK0 : noteTk s z n.nm y = true := by
          cases h : noteTk s z n.nm y
          · rw [h] at hc
            exact absurd (by simpa [hi, hj] using hc.symm) hne
          · rfl
        have hK : (cond (mayN n.nm) (cond (noteTk s z n.nm y) 7 0) 6 : Int) = 7 := by rw [hmy, hK0]; rfl
        rw [hK0] at hc
        obtain rfl : c = 7 := by simpa [hi, hj] using hc.symm
        have hJk : J = (k : Int) := hJ.symm.trans hk
        subst hJk
        have HX := Lib.hid (hz.hn n (List.mem_of_getElem? hn)).1
        obtain ⟨es, hel, hse, hnt⟩ := hN.ex
        have hkl : k < s.ts.length := (List.getElem?_eq_some_iff.1 hn).1
        obtain ⟨e0, he⟩ : ∃ e, es[k]? = some e := ⟨_, List.getElem?_eq_getElem (by omega)⟩
        obtain ⟨At, ct, As, cs, rfl, -⟩ := (hnt k n e0 hn he).ex
        obtain ⟨b1, o1, rfl, l1, q1⟩ := hse.at_ (by omega)
        have y2 := q1 k _ he 2 _ rfl
        have HK := Lib.hid hK
        have i0 : (0 : Int) ≤ (k : Int) := by omega
        have i1 : (k : Int) < (s.ts.length : Int) := by omega
        have i2 : ¬ (k : Int) < 0 := by omega
        clear hS0 hB hcb hmb hcn hmn hJ hnm hid hN hel hse hnt hn he q1 hkl hk hmn2 hmy hK0 hK hz
        clear hc hne
        go_enter Tryz.func40, Tryz.ntmps40
        go_upto_region 6 with (first | (go_at_call 11; ((with_reducible refine (rMay_any s _ _ S1 HZ.out _ HM.out).mono ?_); rintro e' w3 ⟨rfl, bx⟩; (try clear k0 k1 k2 k3 k4 r0 r1 r2 r3 r4 t0 t1 t2 t3 t4); obtain ⟨S1, B1, B2, HB, k0, k1, k2, k3, k4, r0, r1, r2, r3, r4, t0, t1, t2, t3, t4⟩ := keepR S1 B1 B2 HB bx; clear bx)) | (go_at_call 57; ((with_reducible refine (rNote_any s _ y _ S1 ⟨HZ.out.bl, HZ.out.tl⟩).mono ?_); rintro e' w4 ⟨rfl, bx⟩; rw [HJ.out]; (try clear k0 k1 k2 k3 k4 r0 r1 r2 r3 r4 t0 t1 t2 t3 t4); obtain ⟨S1, B1, B2, HB, k0, k1, k2, k3, k4, r0, r1, r2, r3, r4, t0, t1, t2, t3, t4⟩ := keepR S1 B1 B2 HB bx; clear bx)) | (go_at_call 53; ((with_reducible refine (rBook_any s _ z _ S1 ⟨HZ.out.bl, HZ.out.tl⟩).mono ?_); rintro e' w5 ⟨rfl, bx⟩; rw [HI.out]; (try clear k0 k1 k2 k3 k4 r0 r1 r2 r3 r4 t0 t1 t2 t3 t4); obtain ⟨S1, B1, B2, HB, k0, k1, k2, k3, k4, r0, r1, r2, r3, r4, t0, t1, t2, t3, t4⟩ := keepR S1 B1 B2 HB bx; clear bx)))
        have z2 := (HB.cell (p := ⟨b1, o1 + k * 5 + 2, none⟩) l1).trans y2
        have SD := S1.next (below_dr w5)
        have B1d := B1.below (below_dr w5) B1.lt
        have B2d := B2.below (below_dr w5) B2.lt
        have HBd := btr HB HB.size (below_dr w5)
        go_still_tail 9, (by kernel_rfl)
        change wpList _ _ _ _ _ w5.drew
        obtain ⟨wd, hwd⟩ : ∃ V : World, V = w5.drew := ⟨_, rfl⟩
        rw [← hwd] at SD B1d B2d HBd ⊢
        clear hwd S1 B1 B2 HB z2 y2 k0 k1 k2 k3 k4 r0 r1 r2 r3 r4 t0 t1 t2 t3 t4
        have S1 := SD
        have B1 := B1d
        have B2 := B2d
        have HB := HBd
        clear B1d B2d HBd
        go_wp2_with (go_at_call 70; ((with_reducible refine (rNoteName_any s _ z y n.nm _ S1 ⟨HZ.out.bl, HZ.out.tl⟩ HX.out _ HK.out).mono ?_); rintro e' w6 ⟨rfl, bx⟩; (try clear k0 k1 k2 k3 k4 r0 r1 r2 r3 r4 t0 t1 t2 t3 t4); obtain ⟨S1, B1, B2, HB, k0, k1, k2, k3, k4, r0, r1, r2, r3, r4, t0, t1, t2, t3, t4⟩ := keepR S1 B1 B2 HB bx; clear bx))
        have B2u := z5_blk B2
        have hb2 := z5_below HB (g := w.heap.size + 1) (by omega)
        change bodyPost _ _ _ _ _ (z5 w6 (w.heap.size + 1))
        generalize z5 w6 (w.heap.size + 1) = Wd at B2u hb2 ⊢
        apply bodyPost_ret (v := .tuple #[.agg #[.int .i64 0, .int .i64 0, .int .i64 0, .slice none 0 0, .slice none 0 0], .int .i64 7])
        · exact results_cell1 Tryz.results40 _ Wd _ 25 #[.int .i64 0, .int .i64 0, .int .i64 0, .slice none 0 0, .slice none 0 0] (0, 0) _ rfl B2u Tryz.underlying25 rfl (by kernel_rfl)
        · rfl
        · exact ⟨rfl, hb2⟩
theorem radd_no (s : Sf) (v : Value) (z : Int) (x : ByteArray) (w : World) (hS : ShR w w.heap.size v s) (hz : SzF s) (hx : x.size ≤ 100000) (c : Int) (hc : noteC s z x = c) (hne : c ≠ 0) :
    Calls Tryz.prog 36 #[v, .int .i64 z, .string x] w fun e' w' => e' = .returned (.tuple #[.agg #[.int .i64 0, .int .i64 0, .int .i64 0, .slice none 0 0, .slice none 0 0], .int .i64 0, .int .i64 c]) ∧ Below w.heap.size w w' := by
  have hS0 := hS
  obtain ⟨Ab, cb, An, cn, rfl, hB, hN, hcb, hmb, hcn, hmn⟩ := hS.ex
  clear hS
  obtain ⟨HB, B1, B2, S1⟩ := pre2 hS0
  have HZ := Lib.hid hz
  obtain ⟨M, hM⟩ : ∃ M, mayS s = M := ⟨_, rfl⟩
  have HM : Hid (rMayB s = M) := Lib.hid ((rMay_eq s).trans hM)
  have HX := Lib.hid hx
  clear hS0 hB hN hcb hmb hcn hmn hz
  obtain ⟨I, hI⟩ : ∃ I, bookAt s z = I := ⟨_, rfl⟩
  obtain ⟨N, hN⟩ : ∃ N, mayN x = N := ⟨_, rfl⟩
  obtain ⟨K_, hK⟩ : ∃ K, noteTk s z x 0 = K := ⟨_, rfl⟩
  unfold noteC at hc
  rw [hM, hI, hN, hK] at hc
  have HK : Hid ((cond (mayN x) (cond (noteTk s z x 0) 7 0) 6 : Int) = cond N (cond K_ 7 0) 6) := Lib.hid (by rw [hN, hK])
  have HI := Lib.hid hI
  have HF : Hid (M = true → s.nn ≤ 65536) := Lib.hid fun h => by rw [h] at hM; exact (mayF_of hM).nn.2
  clear hM hN hK hx hI
  obtain ⟨n, hn⟩ : ∃ n, s.ts.length = n := ⟨_, rfl⟩
  have hf : fullN s = (decide (12 ≤ n) || decide (65536 ≤ s.nn)) := by unfold fullN; rw [hn]
  rw [hf] at hc
  rw [hn] at HB B1 S1 B2 ⊢
  clear hf hn
  cases M
  · obtain rfl : c = 2 := hc.symm
    clear hc hne
    go_enter Tryz.func36, Tryz.ntmps36
    go_wp2_with (first | (go_at_call 11; ((with_reducible refine (rMay_any s _ _ S1 HZ.out _ HM.out).mono ?_); rintro e' w3 ⟨rfl, bx⟩; (try clear k0 k1 k2 k3 k4 r0 r1 r2 r3 r4 t0 t1 t2 t3 t4); obtain ⟨S1, B1, B2, HB, k0, k1, k2, k3, k4, r0, r1, r2, r3, r4, t0, t1, t2, t3, t4⟩ := keepR S1 B1 B2 HB bx; clear bx)))
    have B2u := z5_blk B2
    have hb2 := z5_below HB (g := w.heap.size + 1) (by omega)
    change bodyPost _ _ _ _ _ (z5 w3 (w.heap.size + 1))
    generalize z5 w3 (w.heap.size + 1) = Wd at B2u hb2 ⊢
    apply bodyPost_ret (v := .tuple #[.agg #[.int .i64 0, .int .i64 0, .int .i64 0, .slice none 0 0, .slice none 0 0], .int .i64 0, .int .i64 2])
    · exact results_cell2 Tryz.results36 _ Wd _ 25 #[.int .i64 0, .int .i64 0, .int .i64 0, .slice none 0 0, .slice none 0 0] (0, 0) _ rfl B2u Tryz.underlying25 rfl (by kernel_rfl)
    · rfl
    · exact ⟨rfl, hb2⟩
  · by_cases hi : I < 0
    · obtain rfl : c = 4 := by simpa [hi] using hc.symm
      clear hc hne
      go_enter Tryz.func36, Tryz.ntmps36
      go_wp2_with (first | (go_at_call 11; ((with_reducible refine (rMay_any s _ _ S1 HZ.out _ HM.out).mono ?_); rintro e' w3 ⟨rfl, bx⟩; (try clear k0 k1 k2 k3 k4 r0 r1 r2 r3 r4 t0 t1 t2 t3 t4); obtain ⟨S1, B1, B2, HB, k0, k1, k2, k3, k4, r0, r1, r2, r3, r4, t0, t1, t2, t3, t4⟩ := keepR S1 B1 B2 HB bx; clear bx)) | (go_at_call 53; ((with_reducible refine (rBook_any s _ z _ S1 ⟨HZ.out.bl, HZ.out.tl⟩).mono ?_); rintro e' w4 ⟨rfl, bx⟩; rw [HI.out]; (try clear k0 k1 k2 k3 k4 r0 r1 r2 r3 r4 t0 t1 t2 t3 t4); obtain ⟨S1, B1, B2, HB, k0, k1, k2, k3, k4, r0, r1, r2, r3, r4, t0, t1, t2, t3, t4⟩ := keepR S1 B1 B2 HB bx; clear bx)))
      have B2u := z5_blk B2
      have hb2 := z5_below HB (g := w.heap.size + 1) (by omega)
      change bodyPost _ _ _ _ _ (z5 w4 (w.heap.size + 1))
      generalize z5 w4 (w.heap.size + 1) = Wd at B2u hb2 ⊢
      apply bodyPost_ret (v := .tuple #[.agg #[.int .i64 0, .int .i64 0, .int .i64 0, .slice none 0 0, .slice none 0 0], .int .i64 0, .int .i64 4])
      · exact results_cell2 Tryz.results36 _ Wd _ 25 #[.int .i64 0, .int .i64 0, .int .i64 0, .slice none 0 0, .slice none 0 0] (0, 0) _ rfl B2u Tryz.underlying25 rfl (by kernel_rfl)
      · rfl
      · exact ⟨rfl, hb2⟩
    · cases N
      · obtain rfl : c = 6 := by simpa [hi] using hc.symm
        clear hc hne
        go_enter Tryz.func36, Tryz.ntmps36
        go_wp2_with (first | (go_at_call 11; ((with_reducible refine (rMay_any s _ _ S1 HZ.out _ HM.out).mono ?_); rintro e' w3 ⟨rfl, bx⟩; (try clear k0 k1 k2 k3 k4 r0 r1 r2 r3 r4 t0 t1 t2 t3 t4); obtain ⟨S1, B1, B2, HB, k0, k1, k2, k3, k4, r0, r1, r2, r3, r4, t0, t1, t2, t3, t4⟩ := keepR S1 B1 B2 HB bx; clear bx)) | (go_at_call 53; ((with_reducible refine (rBook_any s _ z _ S1 ⟨HZ.out.bl, HZ.out.tl⟩).mono ?_); rintro e' w4 ⟨rfl, bx⟩; rw [HI.out]; (try clear k0 k1 k2 k3 k4 r0 r1 r2 r3 r4 t0 t1 t2 t3 t4); obtain ⟨S1, B1, B2, HB, k0, k1, k2, k3, k4, r0, r1, r2, r3, r4, t0, t1, t2, t3, t4⟩ := keepR S1 B1 B2 HB bx; clear bx)) | (go_at_call 70; ((with_reducible refine (rNoteName_any s _ z 0 x _ S1 ⟨HZ.out.bl, HZ.out.tl⟩ HX.out _ HK.out).mono ?_); rintro e' w5 ⟨rfl, bx⟩; (try clear k0 k1 k2 k3 k4 r0 r1 r2 r3 r4 t0 t1 t2 t3 t4); obtain ⟨S1, B1, B2, HB, k0, k1, k2, k3, k4, r0, r1, r2, r3, r4, t0, t1, t2, t3, t4⟩ := keepR S1 B1 B2 HB bx; clear bx)))
        have B2u := z5_blk B2
        have hb2 := z5_below HB (g := w.heap.size + 1) (by omega)
        change bodyPost _ _ _ _ _ (z5 w5 (w.heap.size + 1))
        generalize z5 w5 (w.heap.size + 1) = Wd at B2u hb2 ⊢
        apply bodyPost_ret (v := .tuple #[.agg #[.int .i64 0, .int .i64 0, .int .i64 0, .slice none 0 0, .slice none 0 0], .int .i64 0, .int .i64 6])
        · exact results_cell2 Tryz.results36 _ Wd _ 25 #[.int .i64 0, .int .i64 0, .int .i64 0, .slice none 0 0, .slice none 0 0] (0, 0) _ rfl B2u Tryz.underlying25 rfl (by kernel_rfl)
        · rfl
        · exact ⟨rfl, hb2⟩
      · cases K_
        · by_cases h6 : 12 ≤ n
          · obtain rfl : c = 3 := by simpa [hi, h6] using hc.symm
            have g6 : (12 : Int) ≤ (n : Int) := by omega
            clear hc hne h6
            go_enter Tryz.func36, Tryz.ntmps36
            go_wp2_with (first | (go_at_call 11; ((with_reducible refine (rMay_any s _ _ S1 HZ.out _ HM.out).mono ?_); rintro e' w3 ⟨rfl, bx⟩; (try clear k0 k1 k2 k3 k4 r0 r1 r2 r3 r4 t0 t1 t2 t3 t4); obtain ⟨S1, B1, B2, HB, k0, k1, k2, k3, k4, r0, r1, r2, r3, r4, t0, t1, t2, t3, t4⟩ := keepR S1 B1 B2 HB bx; clear bx)) | (go_at_call 53; ((with_reducible refine (rBook_any s _ z _ S1 ⟨HZ.out.bl, HZ.out.tl⟩).mono ?_); rintro e' w4 ⟨rfl, bx⟩; rw [HI.out]; (try clear k0 k1 k2 k3 k4 r0 r1 r2 r3 r4 t0 t1 t2 t3 t4); obtain ⟨S1, B1, B2, HB, k0, k1, k2, k3, k4, r0, r1, r2, r3, r4, t0, t1, t2, t3, t4⟩ := keepR S1 B1 B2 HB bx; clear bx)) | (go_at_call 70; ((with_reducible refine (rNoteName_any s _ z 0 x _ S1 ⟨HZ.out.bl, HZ.out.tl⟩ HX.out _ HK.out).mono ?_); rintro e' w5 ⟨rfl, bx⟩; (try clear k0 k1 k2 k3 k4 r0 r1 r2 r3 r4 t0 t1 t2 t3 t4); obtain ⟨S1, B1, B2, HB, k0, k1, k2, k3, k4, r0, r1, r2, r3, r4, t0, t1, t2, t3, t4⟩ := keepR S1 B1 B2 HB bx; clear bx)))
            have B2u := z5_blk B2
            have hb2 := z5_below HB (g := w.heap.size + 1) (by omega)
            change bodyPost _ _ _ _ _ (z5 w5 (w.heap.size + 1))
            generalize z5 w5 (w.heap.size + 1) = Wd at B2u hb2 ⊢
            apply bodyPost_ret (v := .tuple #[.agg #[.int .i64 0, .int .i64 0, .int .i64 0, .slice none 0 0, .slice none 0 0], .int .i64 0, .int .i64 3])
            · exact results_cell2 Tryz.results36 _ Wd _ 25 #[.int .i64 0, .int .i64 0, .int .i64 0, .slice none 0 0, .slice none 0 0] (0, 0) _ rfl B2u Tryz.underlying25 rfl (by kernel_rfl)
            · rfl
            · exact ⟨rfl, hb2⟩
          · by_cases h7 : 65536 ≤ s.nn
            · obtain rfl : c = 3 := by simpa [hi, h6, h7] using hc.symm
              have g6 : ¬ (12 : Int) ≤ (n : Int) := by omega
              have g7 : (s.nn == 65536) = true := by have := HF.out rfl; simp; omega
              clear hc hne h6 h7
              go_enter Tryz.func36, Tryz.ntmps36
              go_wp2_with (first | (go_at_call 11; ((with_reducible refine (rMay_any s _ _ S1 HZ.out _ HM.out).mono ?_); rintro e' w3 ⟨rfl, bx⟩; (try clear k0 k1 k2 k3 k4 r0 r1 r2 r3 r4 t0 t1 t2 t3 t4); obtain ⟨S1, B1, B2, HB, k0, k1, k2, k3, k4, r0, r1, r2, r3, r4, t0, t1, t2, t3, t4⟩ := keepR S1 B1 B2 HB bx; clear bx)) | (go_at_call 53; ((with_reducible refine (rBook_any s _ z _ S1 ⟨HZ.out.bl, HZ.out.tl⟩).mono ?_); rintro e' w4 ⟨rfl, bx⟩; rw [HI.out]; (try clear k0 k1 k2 k3 k4 r0 r1 r2 r3 r4 t0 t1 t2 t3 t4); obtain ⟨S1, B1, B2, HB, k0, k1, k2, k3, k4, r0, r1, r2, r3, r4, t0, t1, t2, t3, t4⟩ := keepR S1 B1 B2 HB bx; clear bx)) | (go_at_call 70; ((with_reducible refine (rNoteName_any s _ z 0 x _ S1 ⟨HZ.out.bl, HZ.out.tl⟩ HX.out _ HK.out).mono ?_); rintro e' w5 ⟨rfl, bx⟩; (try clear k0 k1 k2 k3 k4 r0 r1 r2 r3 r4 t0 t1 t2 t3 t4); obtain ⟨S1, B1, B2, HB, k0, k1, k2, k3, k4, r0, r1, r2, r3, r4, t0, t1, t2, t3, t4⟩ := keepR S1 B1 B2 HB bx; clear bx)))
              have B2u := z5_blk B2
              have hb2 := z5_below HB (g := w.heap.size + 1) (by omega)
              change bodyPost _ _ _ _ _ (z5 w5 (w.heap.size + 1))
              generalize z5 w5 (w.heap.size + 1) = Wd at B2u hb2 ⊢
              apply bodyPost_ret (v := .tuple #[.agg #[.int .i64 0, .int .i64 0, .int .i64 0, .slice none 0 0, .slice none 0 0], .int .i64 0, .int .i64 3])
              · exact results_cell2 Tryz.results36 _ Wd _ 25 #[.int .i64 0, .int .i64 0, .int .i64 0, .slice none 0 0, .slice none 0 0] (0, 0) _ rfl B2u Tryz.underlying25 rfl (by kernel_rfl)
              · rfl
              · exact ⟨rfl, hb2⟩
            · exact absurd (by simpa [hi, h6, h7] using hc.symm) hne
        · obtain rfl : c = 7 := by simpa [hi] using hc.symm
          clear hc hne
          go_enter Tryz.func36, Tryz.ntmps36
          go_wp2_with (first | (go_at_call 11; ((with_reducible refine (rMay_any s _ _ S1 HZ.out _ HM.out).mono ?_); rintro e' w3 ⟨rfl, bx⟩; (try clear k0 k1 k2 k3 k4 r0 r1 r2 r3 r4 t0 t1 t2 t3 t4); obtain ⟨S1, B1, B2, HB, k0, k1, k2, k3, k4, r0, r1, r2, r3, r4, t0, t1, t2, t3, t4⟩ := keepR S1 B1 B2 HB bx; clear bx)) | (go_at_call 53; ((with_reducible refine (rBook_any s _ z _ S1 ⟨HZ.out.bl, HZ.out.tl⟩).mono ?_); rintro e' w4 ⟨rfl, bx⟩; rw [HI.out]; (try clear k0 k1 k2 k3 k4 r0 r1 r2 r3 r4 t0 t1 t2 t3 t4); obtain ⟨S1, B1, B2, HB, k0, k1, k2, k3, k4, r0, r1, r2, r3, r4, t0, t1, t2, t3, t4⟩ := keepR S1 B1 B2 HB bx; clear bx)) | (go_at_call 70; ((with_reducible refine (rNoteName_any s _ z 0 x _ S1 ⟨HZ.out.bl, HZ.out.tl⟩ HX.out _ HK.out).mono ?_); rintro e' w5 ⟨rfl, bx⟩; (try clear k0 k1 k2 k3 k4 r0 r1 r2 r3 r4 t0 t1 t2 t3 t4); obtain ⟨S1, B1, B2, HB, k0, k1, k2, k3, k4, r0, r1, r2, r3, r4, t0, t1, t2, t3, t4⟩ := keepR S1 B1 B2 HB bx; clear bx)))
          have B2u := z5_blk B2
          have hb2 := z5_below HB (g := w.heap.size + 1) (by omega)
          change bodyPost _ _ _ _ _ (z5 w5 (w.heap.size + 1))
          generalize z5 w5 (w.heap.size + 1) = Wd at B2u hb2 ⊢
          apply bodyPost_ret (v := .tuple #[.agg #[.int .i64 0, .int .i64 0, .int .i64 0, .slice none 0 0, .slice none 0 0], .int .i64 0, .int .i64 7])
          · exact results_cell2 Tryz.results36 _ Wd _ 25 #[.int .i64 0, .int .i64 0, .int .i64 0, .slice none 0 0, .slice none 0 0] (0, 0) _ rfl B2u Tryz.underlying25 rfl (by kernel_rfl)
          · rfl
          · exact ⟨rfl, hb2⟩
theorem rret_no (s : Sf) (v : Value) (y : Int) (x : ByteArray) (w : World) (hS : ShR w w.heap.size v s) (hz : SzF s) (hx : x.size ≤ 100000) (c : Int) (hc : retC s y x = c) (hne : c ≠ 0) :
    Calls Tryz.prog 38 #[v, .int .i64 y, .string x] w fun e' w' => e' = .returned (.tuple #[.agg #[.int .i64 0, .int .i64 0, .int .i64 0, .slice none 0 0, .slice none 0 0], .int .i64 c]) ∧ Below w.heap.size w w' := by
  have hS0 := hS
  obtain ⟨Ab, cb, An, cn, rfl, hB, hN, hcb, hmb, hcn, hmn⟩ := hS.ex
  clear hS
  obtain ⟨HB, B1, B2, S1⟩ := pre2 hS0
  have HZ := Lib.hid hz
  obtain ⟨M, hM⟩ : ∃ M, mayS s = M := ⟨_, rfl⟩
  have HM : Hid (rMayB s = M) := Lib.hid ((rMay_eq s).trans hM)
  have HX := Lib.hid hx
  obtain ⟨J, hJ⟩ : ∃ J, noteAt s y = J := ⟨_, rfl⟩
  unfold retC at hc
  rw [hM, hJ] at hc
  have HJ := Lib.hid hJ
  clear hM hx
  cases M
  · obtain rfl : c = 2 := hc.symm
    clear hS0 hB hN hcb hmb hcn hmn hz
    clear hc hne hJ
    go_enter Tryz.func38, Tryz.ntmps38
    go_wp2_with (first | (go_at_call 11; ((with_reducible refine (rMay_any s _ _ S1 HZ.out _ HM.out).mono ?_); rintro e' w3 ⟨rfl, bx⟩; (try clear k0 k1 k2 k3 k4 r0 r1 r2 r3 r4 t0 t1 t2 t3 t4); obtain ⟨S1, B1, B2, HB, k0, k1, k2, k3, k4, r0, r1, r2, r3, r4, t0, t1, t2, t3, t4⟩ := keepR S1 B1 B2 HB bx; clear bx)))
    have B2u := z5_blk B2
    have hb2 := z5_below HB (g := w.heap.size + 1) (by omega)
    change bodyPost _ _ _ _ _ (z5 w3 (w.heap.size + 1))
    generalize z5 w3 (w.heap.size + 1) = Wd at B2u hb2 ⊢
    apply bodyPost_ret (v := .tuple #[.agg #[.int .i64 0, .int .i64 0, .int .i64 0, .slice none 0 0, .slice none 0 0], .int .i64 2])
    · exact results_cell1 Tryz.results38 _ Wd _ 25 #[.int .i64 0, .int .i64 0, .int .i64 0, .slice none 0 0, .slice none 0 0] (0, 0) _ rfl B2u Tryz.underlying25 rfl (by kernel_rfl)
    · rfl
    · exact ⟨rfl, hb2⟩
  · by_cases hj : J < 0
    · obtain rfl : c = 4 := by simpa [hj] using hc.symm
      clear hS0 hB hN hcb hmb hcn hmn hz
      clear hc hne hJ
      go_enter Tryz.func38, Tryz.ntmps38
      go_wp2_with (first | (go_at_call 11; ((with_reducible refine (rMay_any s _ _ S1 HZ.out _ HM.out).mono ?_); rintro e' w3 ⟨rfl, bx⟩; (try clear k0 k1 k2 k3 k4 r0 r1 r2 r3 r4 t0 t1 t2 t3 t4); obtain ⟨S1, B1, B2, HB, k0, k1, k2, k3, k4, r0, r1, r2, r3, r4, t0, t1, t2, t3, t4⟩ := keepR S1 B1 B2 HB bx; clear bx)) | (go_at_call 57; ((with_reducible refine (rNote_any s _ y _ S1 ⟨HZ.out.bl, HZ.out.tl⟩).mono ?_); rintro e' w4 ⟨rfl, bx⟩; rw [HJ.out]; (try clear k0 k1 k2 k3 k4 r0 r1 r2 r3 r4 t0 t1 t2 t3 t4); obtain ⟨S1, B1, B2, HB, k0, k1, k2, k3, k4, r0, r1, r2, r3, r4, t0, t1, t2, t3, t4⟩ := keepR S1 B1 B2 HB bx; clear bx)))
      have B2u := z5_blk B2
      have hb2 := z5_below HB (g := w.heap.size + 1) (by omega)
      change bodyPost _ _ _ _ _ (z5 w4 (w.heap.size + 1))
      generalize z5 w4 (w.heap.size + 1) = Wd at B2u hb2 ⊢
      apply bodyPost_ret (v := .tuple #[.agg #[.int .i64 0, .int .i64 0, .int .i64 0, .slice none 0 0, .slice none 0 0], .int .i64 4])
      · exact results_cell1 Tryz.results38 _ Wd _ 25 #[.int .i64 0, .int .i64 0, .int .i64 0, .slice none 0 0, .slice none 0 0] (0, 0) _ rfl B2u Tryz.underlying25 rfl (by kernel_rfl)
      · rfl
      · exact ⟨rfl, hb2⟩
    · obtain ⟨k, n, hk, hn, hid⟩ := noteAt_get (s := s) (x := y) (by omega)
      have hnm : bkOf s y = n.bk := by unfold bkOf; rw [hk]; simp [hn]
      rw [hnm] at hc
      have hK : (cond (mayN x) (cond (noteTk s n.bk x y) 7 0) 6 : Int) = c := by simpa [hj] using hc
      have hJk : J = (k : Int) := hJ.symm.trans hk
      subst hJk
      have hce : (c == 0) = false := by simpa using hne
      obtain ⟨es, hel, hse, hnt⟩ := hN.ex
      have hkl : k < s.ts.length := (List.getElem?_eq_some_iff.1 hn).1
      obtain ⟨e0, he⟩ : ∃ e, es[k]? = some e := ⟨_, List.getElem?_eq_getElem (by omega)⟩
      obtain ⟨At, ct, As, cs, rfl, -⟩ := (hnt k n e0 hn he).ex
      obtain ⟨b1, o1, rfl, l1, q1⟩ := hse.at_ (by omega)
      have y2 := q1 k _ he 1 _ rfl
      have HK := Lib.hid hK
      have i0 : (0 : Int) ≤ (k : Int) := by omega
      have i1 : (k : Int) < (s.ts.length : Int) := by omega
      have i2 : ¬ (k : Int) < 0 := by omega
      clear hS0 hB hcb hmb hcn hmn hJ hnm hid hN hel hse hnt hn he q1 hkl hk hK hz
      clear hc hne
      go_enter Tryz.func38, Tryz.ntmps38
      go_upto_region 6 with (first | (go_at_call 11; ((with_reducible refine (rMay_any s _ _ S1 HZ.out _ HM.out).mono ?_); rintro e' w3 ⟨rfl, bx⟩; (try clear k0 k1 k2 k3 k4 r0 r1 r2 r3 r4 t0 t1 t2 t3 t4); obtain ⟨S1, B1, B2, HB, k0, k1, k2, k3, k4, r0, r1, r2, r3, r4, t0, t1, t2, t3, t4⟩ := keepR S1 B1 B2 HB bx; clear bx)) | (go_at_call 57; ((with_reducible refine (rNote_any s _ y _ S1 ⟨HZ.out.bl, HZ.out.tl⟩).mono ?_); rintro e' w4 ⟨rfl, bx⟩; rw [HJ.out]; (try clear k0 k1 k2 k3 k4 r0 r1 r2 r3 r4 t0 t1 t2 t3 t4); obtain ⟨S1, B1, B2, HB, k0, k1, k2, k3, k4, r0, r1, r2, r3, r4, t0, t1, t2, t3, t4⟩ := keepR S1 B1 B2 HB bx; clear bx)))
      have z2 := (HB.cell (p := ⟨b1, o1 + k * 5 + 1, none⟩) l1).trans y2
      have SD := S1.next (below_dr w4)
      have B1d := B1.below (below_dr w4) B1.lt
      have B2d := B2.below (below_dr w4) B2.lt
      have HBd := btr HB HB.size (below_dr w4)
      go_still_tail 9, (by kernel_rfl)
      change wpList _ _ _ _ _ w4.drew
      obtain ⟨wd, hwd⟩ : ∃ V : World, V = w4.drew := ⟨_, rfl⟩
      rw [← hwd] at SD B1d B2d HBd ⊢
      clear hwd S1 B1 B2 HB z2 y2 k0 k1 k2 k3 k4 r0 r1 r2 r3 r4 t0 t1 t2 t3 t4
      have S1 := SD
      have B1 := B1d
      have B2 := B2d
      have HB := HBd
      clear B1d B2d HBd
      go_wp2_with (go_at_call 70; ((with_reducible refine (rNoteName_any s _ n.bk y x _ S1 ⟨HZ.out.bl, HZ.out.tl⟩ HX.out _ HK.out).mono ?_); rintro e' w6 ⟨rfl, bx⟩; (try clear k0 k1 k2 k3 k4 r0 r1 r2 r3 r4 t0 t1 t2 t3 t4); obtain ⟨S1, B1, B2, HB, k0, k1, k2, k3, k4, r0, r1, r2, r3, r4, t0, t1, t2, t3, t4⟩ := keepR S1 B1 B2 HB bx; clear bx))
      have B2u := z5_blk B2
      have hb2 := z5_below HB (g := w.heap.size + 1) (by omega)
      change bodyPost _ _ _ _ _ (z5 w6 (w.heap.size + 1))
      generalize z5 w6 (w.heap.size + 1) = Wd at B2u hb2 ⊢
      apply bodyPost_ret (v := .tuple #[.agg #[.int .i64 0, .int .i64 0, .int .i64 0, .slice none 0 0, .slice none 0 0], .int .i64 c])
      · exact results_cell1 Tryz.results38 _ Wd _ 25 #[.int .i64 0, .int .i64 0, .int .i64 0, .slice none 0 0, .slice none 0 0] (0, 0) _ rfl B2u Tryz.underlying25 rfl (by kernel_rfl)
      · rfl
      · exact ⟨rfl, hb2⟩
end Go.Proofs.YtokhapafpjejaaaGreatDoor
namespace Go.Proofs.YtokhapafpjejaaaGreatDoor
open Go.ChangeShapes Go.WideShapes Go.ChangeAt Go.RowKit
attribute [local go_sem ↓] Go.wp_at_zero Go.wp_at_succ
theorem rd_newN (w : World) (b : Nt) {g : Nat} (hg : g = w.heap.size) : Rd (w.alloc (.cells #[.int .i64 b.id, .int .i64 b.bk, .string b.nm, .slice none 0 0, .slice none 0 0] 46)) (some ⟨g, 0, none⟩) 1 5 (ntC b (.slice none 0 0) (.slice none 0 0)) := by
  subst hg
  refine ⟨rfl, Or.inr ⟨_, 0, rfl, fun j u hj => ?_⟩⟩
  rw [Joins.cell_of_block (heap_alloc_new w _), Nat.zero_add]
  simpa [ntC] using hj
theorem ntC_one (b : Nt) : ∀ u ∈ ntC b (.slice none 0 0) (.slice none 0 0), u.oneCell' = true := by
  intro u hu
  simp [ntC] at hu
  rcases hu with rfl | rfl | rfl | rfl <;> rfl
theorem BksW.more {w : World} {base : Nat} {v : Value} {bs : List Bk} {b : Bk} {n : Nat} (hn : bs.length = n) (h : w.ownsRow base 59 2 v (n + 1) ((bs.map bkC).flatten ++ bkC b)) : BksW w base v (bs ++ [b]) := by
  show w.ownsRow _ _ _ _ (bs ++ [b]).length ((bs ++ [b]).map bkC).flatten
  rw [bk_snoc, List.length_append, hn]
  exact h
theorem NtsW.more {w w' : World} {base n : Nat} {v v' : Value} {ts : List Nt} {b : Nt} {es : List (List Value)} (hn : ts.length = n) (hel : es.length = n) (hon : w.ownsRow base 46 5 v n es.flatten) (hnt : ∀ (k : Nat) (m : Nt) (e : List Value), ts[k]? = some m → es[k]? = some e → NtW w base m e) (hg : w.grownBy w' v.ownBlock) (h : w'.ownsRow base 46 5 v' (n + 1) (es.flatten ++ ntC b (.slice none 0 0) (.slice none 0 0))) (ht : b.tg = []) (hs : b.sh = []) : NtsW w' base v' (ts ++ [b]) := by
  refine ⟨es ++ [ntC b (.slice none 0 0) (.slice none 0 0)], by simp [hel, hn], ?_, fun k m e a c => ?_⟩
  · rw [List.flatten_append, List.length_append, hn]
    simpa using h
  · rw [List.getElem?_append] at a c
    rw [hn] at a
    rw [hel] at c
    split at a
    · rename_i hk
      rw [if_pos hk] at c
      exact (hnt k m e a c).kept hon hg (by decide) (by decide)
    · rename_i hk
      rw [if_neg hk] at c
      cases hj : k - n with
      | zero =>
        rw [hj] at a c
        cases a
        cases c
        exact ⟨_, _, rfl, by rw [ht]; exact World.ownsRow_nil _ _ _ _, by rw [hs]; exact World.ownsRow_nil _ _ _ _⟩
      | succ j =>
        rw [hj] at a
        simp at a
theorem rmake_yes (s : Sf) (v : Value) (x : ByteArray) (w : World) (hS : ShR w w.heap.size v s) (hz : SzF s) (hx : x.size ≤ 100000) (hc : makeC s x = 0) :
    Calls Tryz.prog 30 #[v, .string x] w fun e' w' => ∃ v', e' = .returned (.tuple #[v', .int .i64 s.nb, .int .i64 0]) ∧ ShW w' w.heap.size v' (makeS s x) ∧ Below w.heap.size w w' := by
  have hS0 := hS
  obtain ⟨Ab, cb, An, cn, rfl, hB, hN, hcb, hmb, hcn, hmn⟩ := hS.ex
  clear hS
  obtain ⟨HB, B1, B2, S1⟩ := pre2 hS0
  have HZ := Lib.hid hz
  have HX := Lib.hid hx
  clear hS0 hB hN hcb hmb hcn hmn hz hx
  obtain ⟨hM, hN, hK0, hF⟩ : mayS s = true ∧ mayN x = true ∧ bookTk s x 0 = false ∧ fullB s = false := by
    unfold makeC at hc
    cases h1 : mayS s <;> cases h2 : mayN x <;> cases h3 : bookTk s x 0 <;> cases h4 : fullB s <;> rw [h1] at hc <;> simp [h2, h3, h4] at hc ⊢
  have HK : Hid ((cond (mayN x) (cond (bookTk s x 0) 7 0) 6 : Int) = 0) := Lib.hid (by rw [hN, hK0]; rfl)
  clear hN hK0
  have hMF := mayF_of hM
  have hlb : s.bs.length ≤ 100000 := by have := hMF.bl; omega
  have hln : s.ts.length ≤ 100000 := by have := hMF.tl; omega
  have hlr := hMF.small
  have hnx := hMF.nb
  have HM : Hid (rMayB s = true) := Lib.hid ((rMay_eq s).trans hM)
  obtain ⟨n, hn⟩ : ∃ n, s.bs.length = n := ⟨_, rfl⟩
  have hf : (decide (6 ≤ n) || decide (65536 ≤ s.nb)) = false := by rw [← hn]; exact hF
  rw [Bool.or_eq_false_iff, decide_eq_false_iff_not, decide_eq_false_iff_not] at hf
  have g6 : ¬ (6 : Int) ≤ (n : Int) := by omega
  have HNN := Lib.hid hn
  rw [hn] at HB B1 S1 B2 ⊢
  have g7 : (s.nb == 65536) = false := by simp; omega
  have g8 : (65536 : Int) > s.nb := by omega
  have HLB := Lib.hid hlb
  have HLN := Lib.hid hln
  have HLR := Lib.hid hlr
  have HQX := Lib.hid hnx
  have hnl : n ≤ 100000 := by rw [← hn]; exact hlb
  clear hf hF hM hMF hn hc hlb hln hlr hnx
  go_enter Tryz.func30, Tryz.ntmps30
  go_upto_region 8 with (first | (go_at_call 11; ((with_reducible refine (rMay_any s _ _ S1 HZ.out _ HM.out).mono ?_); rintro e' w3 ⟨rfl, bx⟩; (try clear k0 k1 k2 k3 k4 r0 r1 r2 r3 r4 t0 t1 t2 t3 t4); obtain ⟨S1, B1, B2, HB, k0, k1, k2, k3, k4, r0, r1, r2, r3, r4, t0, t1, t2, t3, t4⟩ := keepR S1 B1 B2 HB bx; clear bx)) | (go_at_call 64; ((with_reducible refine (rBookName_any s _ 0 x _ S1 ⟨HZ.out.bl, HZ.out.tl⟩ HX.out _ HK.out).mono ?_); rintro e' w4 ⟨rfl, bx⟩; (try clear k0 k1 k2 k3 k4 r0 r1 r2 r3 r4 t0 t1 t2 t3 t4); obtain ⟨S1, B1, B2, HB, k0, k1, k2, k3, k4, r0, r1, r2, r3, r4, t0, t1, t2, t3, t4⟩ := keepR S1 B1 B2 HB bx; clear bx)))
  have hW5 : w.heap.size + 2 ≤ w4.heap.size := by have := B2.lt; omega
  go_upto_region 9 with (go_at_call 8; ((with_reducible refine (rcopy_any s _ _ S1 HLB.out HLN.out HLR.out).mono ?_); rintro e' w9 ⟨v6, rfl, hQ, b6⟩; obtain ⟨Ab6, cb6, An6, cn6, rfl, hBk, hNt, q1, q2, q3, q4⟩ := hQ.parts; rw [HNN.out] at q1 hBk ⊢; have B1 := B1.below b6 B1.lt; have B2 := B2.below b6 B2.lt; have HB := btr HB HB.size b6; have hz6 := b6.size; (try clear k0 k1 k2 k3 k4 r0 r1 r2 r3 r4 t0 t1 t2 t3 t4); have k0 := B1.cell_ 0; have t0 := B1.free 0; have k1 := B1.cell_ 1; have t1 := B1.free 1; have k2 := B1.cell_ 2; have t2 := B1.free 2; have k3 := B1.cell_ 3; have t3 := B1.free 3; have k4 := B1.cell_ 4; have t4 := B1.free 4; simp at k0 k1 k2 k3 k4; clear b6 hQ S1))
  have B1u := B1.st5_ (.int .i64 s.nb) (.int .i64 s.nn) (.int .i64 s.ns) (.slice Ab6 n cb6) (.slice An6 s.ts.length cn6)
  have hg6 := st5_grown w9 w.heap.size 0 (.int .i64 s.nb) (.int .i64 s.nn) (.int .i64 s.ns) (.slice Ab6 n cb6) (.slice An6 s.ts.length cn6)
  have B2u := B2.grown hg6 (by omega)
  have hBk2 := hBk.far hg6 (by omega)
  have hNt2 := hNt.far hg6 (by omega)
  have hb2 := below_grown HB hg6 (Nat.le_refl _) HB.size
  have hsz : w4.heap.size ≤ (st5 w9 w.heap.size 0 (.int .i64 s.nb) (.int .i64 s.nn) (.int .i64 s.ns) (.slice Ab6 n cb6) (.slice An6 s.ts.length cn6)).heap.size := by have := hz6; have := hg6.size; omega
  clear hg6
  obtain ⟨Wd, hWd⟩ : ∃ V : World, V = (st5 w9 w.heap.size 0 (.int .i64 s.nb) (.int .i64 s.nn) (.int .i64 s.ns) (.slice Ab6 n cb6) (.slice An6 s.ts.length cn6)) := ⟨_, rfl⟩
  change Code.wp _ _ _ _ (st5 w9 w.heap.size 0 (.int .i64 s.nb) (.int .i64 s.nn) (.int .i64 s.ns) (.slice Ab6 n cb6) (.slice An6 s.ts.length cn6))
  rw [← hWd] at B1u B2u hBk2 hNt2 hb2 hsz ⊢
  clear hWd B1 B2 HB hBk hNt k0 k1 k2 k3 k4 t0 t1 t2 t3 t4 hz6
  have k0 := B1u.cell_ 0
  have k1 := B1u.cell_ 1
  have k2 := B1u.cell_ 2
  have k3 := B1u.cell_ 3
  have k4 := B1u.cell_ 4
  simp at k0 k1 k2 k3 k4
  have HW5 := Lib.hid hW5
  have HSZ := Lib.hid hsz
  have hon : Wd.ownsRow w4.heap.size 59 2 (.slice Ab6 n cb6) n (s.bs.map bkC).flatten := by
    have h := hBk2
    unfold BksW at h
    rw [HNN.out] at h
    exact h
  have hrow := hon.lt
  have HROW := Lib.hid hrow
  clear hrow hsz hBk2
  go_upto_region 11 with (at_builtin; obtain ⟨ti0, hi, hz0, hz1, hz2⟩ := info_parts info_clBk; refine wpList_app _ rfl (.tmp 38) (.tmp 42) _ rfl w4.heap.size 59 ti0 _ 2 24 Tryz.underlying22 hi hz0 hz1 hz2 rfl (by decide) _ n (s.bs.map bkC).flatten rfl (hon.alloc _) _ 1 _ (bkC ⟨s.nb, x⟩) rfl (rd_newB _ ⟨s.nb, x⟩ (by simp)) (bkC_one _) (by unfold maxLen; omega) (by omega) (by have := HSZ.out; simp; omega) ?_; intro v' w7 ho' hg' hv'; clear hi hz0 hz1 hz2; have B1a := (B1u.alloc_ (.cells #[.int .i64 s.nb, .string x] 59)).grownR hg' (fun h => by have h1 := HROW.out _ h; have h2 := HW5.out; omega); have B2a := (B2u.alloc_ (.cells #[.int .i64 s.nb, .string x] 59)).grownR hg' (fun h => by have h1 := HROW.out _ h; have h2 := HW5.out; omega); have hOa := BksW.more (b := ⟨s.nb, x⟩) HNN.out ho'; have hQa := (hNt2.below ((Below.refl _ Wd).alloc (Nat.le_refl _) _)).apart (hon.alloc _) hg'; have HBa := ((hb2.alloc hb2.size _).trans (below_app (B := w.heap.size) (by have := HW5.out; omega) (by have := HSZ.out; have := HW5.out; simp; omega) (hon.alloc _) hg')); obtain ⟨A7, c7, rfl, q11, q12⟩ := own_shape ho'; (try clear k0 k1 k2 k3 k4); have k0 := B1a.cell_ 0; have k1 := B1a.cell_ 1; have k3 := B1a.cell_ 3; have t3 := B1a.free 3; simp at k0 k1 k3; clear hg' hv' ho' B1u B2u hb2 hon hNt2)
  have B1b := (B1a.set_ 3 (.slice A7 (n + 1) c7))
  simp at B1b
  have hg1 := set1_grown w7 w.heap.size 3 (.slice A7 (n + 1) c7)
  have B2b := B2a.grown hg1 (by omega)
  have hOb := hOa.far hg1 (by have := HW5.out; omega)
  have hQb := hQa.far hg1 (by have := HW5.out; omega)
  have HBb := below_grown HBa hg1 (Nat.le_refl _) HBa.size
  obtain ⟨W8, hW8⟩ : ∃ V : World, V = w7.setCell ⟨w.heap.size, 3, none⟩ (.slice A7 (n + 1) c7) := ⟨_, rfl⟩
  rw [← hW8] at B1b B2b hOb hQb HBb ⊢
  clear hW8 B1a B2a hOa hQa HBa hg1 k0 k1 k3 t3
  have k0 := B1b.cell_ 0
  have t0 := B1b.free 0
  simp at k0
  have hwr : IntKind.i64.wrap (s.nb + 1) = s.nb + 1 := wrapS _ (by have := HQX.out; omega) (by have := HQX.out; omega)
  go_upto_region 12 with fail
  have B1c := (B1b.set_ 0 (.int .i64 (s.nb + 1)))
  simp at B1c
  have hg2 := set1_grown W8 w.heap.size 0 (.int .i64 (s.nb + 1))
  have B2c := B2b.grown hg2 (by omega)
  have hOc := hOb.far hg2 (by have := HW5.out; omega)
  have hQc := hQb.far hg2 (by have := HW5.out; omega)
  have HBc := below_grown HBb hg2 (Nat.le_refl _) HBb.size
  obtain ⟨W9, hW9⟩ : ∃ V : World, V = W8.setCell ⟨w.heap.size, 0, none⟩ (.int .i64 (s.nb + 1)) := ⟨_, rfl⟩
  rw [← hW9] at B1c B2c hOc hQc HBc ⊢
  clear hW9 B1b B2b hOb hQb HBb hg2 k0 t0 hwr
  have k0 := B1c.cell_ 0
  have r0 := B2c.cell_ 0
  have t0 := B2c.free 0
  have k1 := B1c.cell_ 1
  have r1 := B2c.cell_ 1
  have t1 := B2c.free 1
  have k2 := B1c.cell_ 2
  have r2 := B2c.cell_ 2
  have t2 := B2c.free 2
  have k3 := B1c.cell_ 3
  have r3 := B2c.cell_ 3
  have t3 := B2c.free 3
  have k4 := B1c.cell_ 4
  have r4 := B2c.cell_ 4
  have t4 := B2c.free 4
  simp at k0 k1 k2 k3 k4 r0 r1 r2 r3 r4
  go_wp2_with fail
  have B2e := B2c.st5_ (.int .i64 (s.nb + 1)) (.int .i64 s.nn) (.int .i64 s.ns) (.slice A7 (n + 1) c7) (.slice An6 s.ts.length cn6)
  have hgE := st5_grown W9 (w.heap.size + 1) 0 (.int .i64 (s.nb + 1)) (.int .i64 s.nn) (.int .i64 s.ns) (.slice A7 (n + 1) c7) (.slice An6 s.ts.length cn6)
  have hOe := hOc.far hgE (by have := HW5.out; omega)
  have hQe := hQc.far hgE (by have := HW5.out; omega)
  have HBe := below_grown HBc hgE (by omega) HBc.size
  change bodyPost _ _ _ _ _ (st5 W9 (w.heap.size + 1) 0 (.int .i64 (s.nb + 1)) (.int .i64 s.nn) (.int .i64 s.ns) (.slice A7 (n + 1) c7) (.slice An6 s.ts.length cn6))
  clear hgE
  generalize st5 W9 (w.heap.size + 1) 0 (.int .i64 (s.nb + 1)) (.int .i64 s.nn) (.int .i64 s.ns) (.slice A7 (n + 1) c7) (.slice An6 s.ts.length cn6) = WF at B2e hOe hQe HBe ⊢
  apply bodyPost_ret (v := .tuple #[.agg #[.int .i64 (s.nb + 1), .int .i64 s.nn, .int .i64 s.ns, .slice A7 (n + 1) c7, .slice An6 s.ts.length cn6], .int .i64 s.nb, .int .i64 0])
  · exact results_cell2 Tryz.results30 _ WF (w.heap.size + 1) 25 _ (0, 0) _ rfl B2e Tryz.underlying25 rfl (by kernel_rfl)
  · rfl
  · exact ⟨_, rfl, ShW.base_ (B := w4.heap.size) (ShW.make (s := makeS s x) (w := WF) (base := w4.heap.size) (vb := .slice A7 (n + 1) c7) (vn := .slice An6 s.ts.length cn6) hOe hQe) (by have := HW5.out; omega), HBe⟩
theorem radd_yes (s : Sf) (v : Value) (z : Int) (x : ByteArray) (w : World) (hS : ShR w w.heap.size v s) (hz : SzF s) (hx : x.size ≤ 100000) (hc : noteC s z x = 0) :
    Calls Tryz.prog 36 #[v, .int .i64 z, .string x] w fun e' w' => ∃ v', e' = .returned (.tuple #[v', .int .i64 s.nn, .int .i64 0]) ∧ ShW w' w.heap.size v' (noteS s z x) ∧ Below w.heap.size w w' := by
  have hS0 := hS
  obtain ⟨Ab, cb, An, cn, rfl, hB, hN, hcb, hmb, hcn, hmn⟩ := hS.ex
  clear hS
  obtain ⟨HB, B1, B2, S1⟩ := pre2 hS0
  have HZ := Lib.hid hz
  have HX := Lib.hid hx
  clear hS0 hB hN hcb hmb hcn hmn hz hx
  obtain ⟨hM, hI, hN, hK0, hF⟩ : mayS s = true ∧ ¬ bookAt s z < 0 ∧ mayN x = true ∧ noteTk s z x 0 = false ∧ fullN s = false := by
    unfold noteC at hc
    cases h1 : mayS s <;> by_cases h2 : bookAt s z < 0 <;> cases h3 : mayN x <;> cases h4 : noteTk s z x 0 <;> cases h5 : fullN s <;> rw [h1] at hc <;> simp [h2, h3, h4, h5] at hc ⊢
    all_goals exact Int.not_lt.1 h2
  obtain ⟨q, hq⟩ : ∃ q : Nat, bookAt s z = (q : Int) := ⟨(bookAt s z).toNat, by omega⟩
  have HI := Lib.hid hq
  have p0 : (0 : Int) ≤ (q : Int) := by omega
  have p2 : ¬ (q : Int) < 0 := by omega
  clear hq hI
  have HK : Hid ((cond (mayN x) (cond (noteTk s z x 0) 7 0) 6 : Int) = 0) := Lib.hid (by rw [hN, hK0]; rfl)
  clear hN hK0
  have hMF := mayF_of hM
  have hlb : s.bs.length ≤ 100000 := by have := hMF.bl; omega
  have hln : s.ts.length ≤ 100000 := by have := hMF.tl; omega
  have hlr := hMF.small
  have hnx := hMF.nn
  have HM : Hid (rMayB s = true) := Lib.hid ((rMay_eq s).trans hM)
  obtain ⟨n, hn⟩ : ∃ n, s.ts.length = n := ⟨_, rfl⟩
  have hf : (decide (12 ≤ n) || decide (65536 ≤ s.nn)) = false := by rw [← hn]; exact hF
  rw [Bool.or_eq_false_iff, decide_eq_false_iff_not, decide_eq_false_iff_not] at hf
  have g6 : ¬ (12 : Int) ≤ (n : Int) := by omega
  have HNN := Lib.hid hn
  rw [hn] at HB B1 S1 B2 ⊢
  have g7 : (s.nn == 65536) = false := by simp; omega
  have g8 : (65536 : Int) > s.nn := by omega
  have HLB := Lib.hid hlb
  have HLN := Lib.hid hln
  have HLR := Lib.hid hlr
  have HQX := Lib.hid hnx
  have hnl : n ≤ 100000 := by rw [← hn]; exact hln
  clear hf hF hM hMF hn hc hlb hln hlr hnx
  go_enter Tryz.func36, Tryz.ntmps36
  go_upto_region 10 with (first | (go_at_call 11; ((with_reducible refine (rMay_any s _ _ S1 HZ.out _ HM.out).mono ?_); rintro e' w3 ⟨rfl, bx⟩; (try clear k0 k1 k2 k3 k4 r0 r1 r2 r3 r4 t0 t1 t2 t3 t4); obtain ⟨S1, B1, B2, HB, k0, k1, k2, k3, k4, r0, r1, r2, r3, r4, t0, t1, t2, t3, t4⟩ := keepR S1 B1 B2 HB bx; clear bx)) | (go_at_call 53; ((with_reducible refine (rBook_any s _ z _ S1 ⟨HZ.out.bl, HZ.out.tl⟩).mono ?_); rintro e' w4 ⟨rfl, bx⟩; rw [HI.out]; (try clear k0 k1 k2 k3 k4 r0 r1 r2 r3 r4 t0 t1 t2 t3 t4); obtain ⟨S1, B1, B2, HB, k0, k1, k2, k3, k4, r0, r1, r2, r3, r4, t0, t1, t2, t3, t4⟩ := keepR S1 B1 B2 HB bx; clear bx)) | (go_at_call 70; ((with_reducible refine (rNoteName_any s _ z 0 x _ S1 ⟨HZ.out.bl, HZ.out.tl⟩ HX.out _ HK.out).mono ?_); rintro e' w5 ⟨rfl, bx⟩; (try clear k0 k1 k2 k3 k4 r0 r1 r2 r3 r4 t0 t1 t2 t3 t4); obtain ⟨S1, B1, B2, HB, k0, k1, k2, k3, k4, r0, r1, r2, r3, r4, t0, t1, t2, t3, t4⟩ := keepR S1 B1 B2 HB bx; clear bx)))
  have hW5 : w.heap.size + 2 ≤ w5.heap.size := by have := B2.lt; omega
  go_upto_region 11 with (go_at_call 8; ((with_reducible refine (rcopy_any s _ _ S1 HLB.out HLN.out HLR.out).mono ?_); rintro e' w9 ⟨v6, rfl, hQ, b6⟩; obtain ⟨Ab6, cb6, An6, cn6, rfl, hBk, hNt, q1, q2, q3, q4⟩ := hQ.parts; rw [HNN.out] at q3 hNt ⊢; have B1 := B1.below b6 B1.lt; have B2 := B2.below b6 B2.lt; have HB := btr HB HB.size b6; have hz6 := b6.size; (try clear k0 k1 k2 k3 k4 r0 r1 r2 r3 r4 t0 t1 t2 t3 t4); have k0 := B1.cell_ 0; have t0 := B1.free 0; have k1 := B1.cell_ 1; have t1 := B1.free 1; have k2 := B1.cell_ 2; have t2 := B1.free 2; have k3 := B1.cell_ 3; have t3 := B1.free 3; have k4 := B1.cell_ 4; have t4 := B1.free 4; simp at k0 k1 k2 k3 k4; clear b6 hQ S1))
  have B1u := B1.st5_ (.int .i64 s.nb) (.int .i64 s.nn) (.int .i64 s.ns) (.slice Ab6 s.bs.length cb6) (.slice An6 n cn6)
  have hg6 := st5_grown w9 w.heap.size 0 (.int .i64 s.nb) (.int .i64 s.nn) (.int .i64 s.ns) (.slice Ab6 s.bs.length cb6) (.slice An6 n cn6)
  have B2u := B2.grown hg6 (by omega)
  have hBk2 := hBk.far hg6 (by omega)
  have hNt2 := hNt.far hg6 (by omega)
  have hb2 := below_grown HB hg6 (Nat.le_refl _) HB.size
  have hsz : w5.heap.size ≤ (st5 w9 w.heap.size 0 (.int .i64 s.nb) (.int .i64 s.nn) (.int .i64 s.ns) (.slice Ab6 s.bs.length cb6) (.slice An6 n cn6)).heap.size := by have := hz6; have := hg6.size; omega
  clear hg6
  obtain ⟨Wd, hWd⟩ : ∃ V : World, V = (st5 w9 w.heap.size 0 (.int .i64 s.nb) (.int .i64 s.nn) (.int .i64 s.ns) (.slice Ab6 s.bs.length cb6) (.slice An6 n cn6)) := ⟨_, rfl⟩
  change Code.wp _ _ _ _ (st5 w9 w.heap.size 0 (.int .i64 s.nb) (.int .i64 s.nn) (.int .i64 s.ns) (.slice Ab6 s.bs.length cb6) (.slice An6 n cn6))
  rw [← hWd] at B1u B2u hBk2 hNt2 hb2 hsz ⊢
  clear hWd B1 B2 HB hBk hNt k0 k1 k2 k3 k4 t0 t1 t2 t3 t4 hz6
  have k0 := B1u.cell_ 0
  have k1 := B1u.cell_ 1
  have k2 := B1u.cell_ 2
  have k3 := B1u.cell_ 3
  have k4 := B1u.cell_ 4
  simp at k0 k1 k2 k3 k4
  have HW5 := Lib.hid hW5
  have HSZ := Lib.hid hsz
  obtain ⟨es, hel, hon, hnt⟩ := hNt2
  rw [HNN.out] at hel hon
  have hrow := hon.lt
  have HROW := Lib.hid hrow
  clear hrow hsz 
  go_upto_region 13 with (at_builtin; obtain ⟨ti0, hi, hz0, hz1, hz2⟩ := info_parts info_clNt; refine wpList_app _ rfl (.tmp 46) (.tmp 51) _ rfl w5.heap.size 46 ti0 _ 5 80 Tryz.underlying23 hi hz0 hz1 hz2 rfl (by decide) _ n es.flatten rfl (hon.alloc _) _ 1 _ (ntC ⟨s.nn, z, x, [], []⟩ (.slice none 0 0) (.slice none 0 0)) rfl (rd_newN _ ⟨s.nn, z, x, [], []⟩ (by simp)) (ntC_one _) (by unfold maxLen; omega) (by omega) (by have := HSZ.out; simp; omega) ?_; intro v' w7 ho' hg' hv'; clear hi hz0 hz1 hz2; have B1a := (B1u.alloc_ (.cells #[.int .i64 s.nn, .int .i64 z, .string x, .slice none 0 0, .slice none 0 0] 46)).grownR hg' (fun h => by have h1 := HROW.out _ h; have h2 := HW5.out; omega); have B2a := (B2u.alloc_ (.cells #[.int .i64 s.nn, .int .i64 z, .string x, .slice none 0 0, .slice none 0 0] 46)).grownR hg' (fun h => by have h1 := HROW.out _ h; have h2 := HW5.out; omega); have hOa := NtsW.more (b := ⟨s.nn, z, x, [], []⟩) HNN.out hel (hon.alloc _) (fun k m e a c => (hnt k m e a c).below ((Below.refl _ Wd).alloc (Nat.le_refl _) _)) hg' ho' rfl rfl; have hQa := BksW.apartN (hBk2.below ((Below.refl _ Wd).alloc (Nat.le_refl _) _)) (hon.alloc _) hg'; have HBa := ((hb2.alloc hb2.size _).trans (below_app (B := w.heap.size) (by have := HW5.out; omega) (by have := HSZ.out; have := HW5.out; simp; omega) (hon.alloc _) hg')); obtain ⟨A7, c7, rfl, q11, q12⟩ := own_shape ho'; (try clear k0 k1 k2 k3 k4); have k0 := B1a.cell_ 0; have k1 := B1a.cell_ 1; have k4 := B1a.cell_ 4; have t4 := B1a.free 4; simp at k0 k1 k4; clear hg' hv' ho' B1u B2u hb2 hon hBk2 hel hnt)
  have B1b := (B1a.set_ 4 (.slice A7 (n + 1) c7))
  simp at B1b
  have hg1 := set1_grown w7 w.heap.size 4 (.slice A7 (n + 1) c7)
  have B2b := B2a.grown hg1 (by omega)
  have hOb := hOa.far hg1 (by have := HW5.out; omega)
  have hQb := hQa.far hg1 (by have := HW5.out; omega)
  have HBb := below_grown HBa hg1 (Nat.le_refl _) HBa.size
  obtain ⟨W8, hW8⟩ : ∃ V : World, V = w7.setCell ⟨w.heap.size, 4, none⟩ (.slice A7 (n + 1) c7) := ⟨_, rfl⟩
  rw [← hW8] at B1b B2b hOb hQb HBb ⊢
  clear hW8 B1a B2a hOa hQa HBa hg1 k0 k1 k4 t4
  have k1 := B1b.cell_ 1
  have t1 := B1b.free 1
  simp at k1
  have hwr : IntKind.i64.wrap (s.nn + 1) = s.nn + 1 := wrapS _ (by have := HQX.out; omega) (by have := HQX.out; omega)
  go_upto_region 14 with fail
  have B1c := (B1b.set_ 1 (.int .i64 (s.nn + 1)))
  simp at B1c
  have hg2 := set1_grown W8 w.heap.size 1 (.int .i64 (s.nn + 1))
  have B2c := B2b.grown hg2 (by omega)
  have hOc := hOb.far hg2 (by have := HW5.out; omega)
  have hQc := hQb.far hg2 (by have := HW5.out; omega)
  have HBc := below_grown HBb hg2 (Nat.le_refl _) HBb.size
  obtain ⟨W9, hW9⟩ : ∃ V : World, V = W8.setCell ⟨w.heap.size, 1, none⟩ (.int .i64 (s.nn + 1)) := ⟨_, rfl⟩
  rw [← hW9] at B1c B2c hOc hQc HBc ⊢
  clear hW9 B1b B2b hOb hQb HBb hg2 k1 t1 hwr
  have k0 := B1c.cell_ 0
  have r0 := B2c.cell_ 0
  have t0 := B2c.free 0
  have k1 := B1c.cell_ 1
  have r1 := B2c.cell_ 1
  have t1 := B2c.free 1
  have k2 := B1c.cell_ 2
  have r2 := B2c.cell_ 2
  have t2 := B2c.free 2
  have k3 := B1c.cell_ 3
  have r3 := B2c.cell_ 3
  have t3 := B2c.free 3
  have k4 := B1c.cell_ 4
  have r4 := B2c.cell_ 4
  have t4 := B2c.free 4
  simp at k0 k1 k2 k3 k4 r0 r1 r2 r3 r4
  go_wp2_with fail
  have B2e := B2c.st5_ (.int .i64 s.nb) (.int .i64 (s.nn + 1)) (.int .i64 s.ns) (.slice Ab6 s.bs.length cb6) (.slice A7 (n + 1) c7)
  have hgE := st5_grown W9 (w.heap.size + 1) 0 (.int .i64 s.nb) (.int .i64 (s.nn + 1)) (.int .i64 s.ns) (.slice Ab6 s.bs.length cb6) (.slice A7 (n + 1) c7)
  have hOe := hOc.far hgE (by have := HW5.out; omega)
  have hQe := hQc.far hgE (by have := HW5.out; omega)
  have HBe := below_grown HBc hgE (by omega) HBc.size
  change bodyPost _ _ _ _ _ (st5 W9 (w.heap.size + 1) 0 (.int .i64 s.nb) (.int .i64 (s.nn + 1)) (.int .i64 s.ns) (.slice Ab6 s.bs.length cb6) (.slice A7 (n + 1) c7))
  clear hgE
  generalize st5 W9 (w.heap.size + 1) 0 (.int .i64 s.nb) (.int .i64 (s.nn + 1)) (.int .i64 s.ns) (.slice Ab6 s.bs.length cb6) (.slice A7 (n + 1) c7) = WF at B2e hOe hQe HBe ⊢
  apply bodyPost_ret (v := .tuple #[.agg #[.int .i64 s.nb, .int .i64 (s.nn + 1), .int .i64 s.ns, .slice Ab6 s.bs.length cb6, .slice A7 (n + 1) c7], .int .i64 s.nn, .int .i64 0])
  · exact results_cell2 Tryz.results36 _ WF (w.heap.size + 1) 25 _ (0, 0) _ rfl B2e Tryz.underlying25 rfl (by kernel_rfl)
  · rfl
  · exact ⟨_, rfl, ShW.base_ (B := w5.heap.size) (ShW.make (s := noteS s z x) (w := WF) (base := w5.heap.size) (vb := .slice Ab6 s.bs.length cb6) (vn := .slice A7 (n + 1) c7) hQe hOe) (by have := HW5.out; omega), HBe⟩
theorem note_yes (s : Sf) (v : Value) (z : Int) (x : ByteArray) (w : World) (hS : ShR w w.heap.size v s) (hT : Tabs w) (hc : noteC s z x = 0) :
    Calls Tryz.prog 35 #[v, .int .i64 z, .string x] w fun e' w' => ∃ v', e' = .returned (.tuple #[v', .int .i64 s.nn, .int .i64 0]) ∧ ShW w' w.heap.size v' (noteS s z x) ∧ Below w.heap.size w w' := by
  have hS0 := hS
  obtain ⟨Ab, cb, An, cn, rfl, hB, hN, hcb, hmb, hcn, hmn⟩ := hS.ex
  clear hS
  obtain ⟨HB, B1, B2, S1⟩ := pre2 hS0
  have T1 := hT.next HB
  clear hS0 hB hN hcb hmb hcn hmn hT
  obtain ⟨hM, hI, hN, hK0, hF⟩ : mayS s = true ∧ ¬ bookAt s z < 0 ∧ mayN x = true ∧ noteTk s z x 0 = false ∧ fullN s = false := by
    unfold noteC at hc
    cases h1 : mayS s <;> by_cases h2 : bookAt s z < 0 <;> cases h3 : mayN x <;> cases h4 : noteTk s z x 0 <;> cases h5 : fullN s <;> rw [h1] at hc <;> simp [h2, h3, h4, h5] at hc ⊢
    all_goals exact Int.not_lt.1 h2
  obtain ⟨q, hq⟩ : ∃ q : Nat, bookAt s z = (q : Int) := ⟨(bookAt s z).toNat, by omega⟩
  have HI := Lib.hid hq
  have p0 : (0 : Int) ≤ (q : Int) := by omega
  have p2 : ¬ (q : Int) < 0 := by omega
  clear hq hI
  have HN : Hid (nameB x.data.toList = true) := Lib.hid hN
  have HK := Lib.hid hK0
  clear hN hK0
  have hMF := mayF_of hM
  have hlb : s.bs.length ≤ 100000 := by have := hMF.bl; omega
  have hln : s.ts.length ≤ 100000 := by have := hMF.tl; omega
  have hlr := hMF.small
  have hnx := hMF.nn
  have HM : Hid (mayS s = true) := Lib.hid hM
  obtain ⟨n, hn⟩ : ∃ n, s.ts.length = n := ⟨_, rfl⟩
  have hf : (decide (12 ≤ n) || decide (65536 ≤ s.nn)) = false := by rw [← hn]; exact hF
  rw [Bool.or_eq_false_iff, decide_eq_false_iff_not, decide_eq_false_iff_not] at hf
  have g6 : ¬ (12 : Int) ≤ (n : Int) := by omega
  have HNN := Lib.hid hn
  rw [hn] at HB B1 S1 T1 B2 ⊢
  have g7 : ¬ (65536 : Int) ≤ s.nn := hf.2
  have g8 : (65536 : Int) > s.nn := by omega
  have HLB := Lib.hid hlb
  have HLN := Lib.hid hln
  have HLR := Lib.hid hlr
  have HQX := Lib.hid hnx
  have hnl : n ≤ 100000 := by rw [← hn]; exact hln
  clear hf hF hM hMF hn hc hlb hln hlr hnx
  go_enter Tryz.func35, Tryz.ntmps35
  go_upto_region 11 with (first | (go_at_call 10; ((with_reducible refine (smay_any s _ _ S1 T1 _ HM.out).mono ?_); rintro e' w3 ⟨rfl, bx⟩; (try clear k0 k1 k2 k3 k4 r0 r1 r2 r3 r4 t0 t1 t2 t3 t4); obtain ⟨S1, T1, B1, B2, HB, k0, k1, k2, k3, k4, r0, r1, r2, r3, r4, t0, t1, t2, t3, t4⟩ := keepT S1 T1 B1 B2 HB bx; clear bx)) | (go_at_call 52; ((with_reducible refine (pBook_any s _ z _ S1).mono ?_); rintro e' w4 ⟨rfl, bx⟩; rw [HI.out]; (try clear k0 k1 k2 k3 k4 r0 r1 r2 r3 r4 t0 t1 t2 t3 t4); obtain ⟨S1, T1, B1, B2, HB, k0, k1, k2, k3, k4, r0, r1, r2, r3, r4, t0, t1, t2, t3, t4⟩ := keepT S1 T1 B1 B2 HB bx; clear bx)) | (go_at_call 61; ((with_reducible refine (nmay_any x _ _ T1 HN.out).mono ?_); rintro e' w5 ⟨rfl, bx⟩; (try clear k0 k1 k2 k3 k4 r0 r1 r2 r3 r4 t0 t1 t2 t3 t4); obtain ⟨S1, T1, B1, B2, HB, k0, k1, k2, k3, k4, r0, r1, r2, r3, r4, t0, t1, t2, t3, t4⟩ := keepT S1 T1 B1 B2 HB bx; clear bx)) | (go_at_call 69; ((with_reducible refine (nTaken_any s _ z x _ _ S1 _ HK.out).mono ?_); rintro e' w6 ⟨rfl, bx⟩; (try clear k0 k1 k2 k3 k4 r0 r1 r2 r3 r4 t0 t1 t2 t3 t4); obtain ⟨S1, T1, B1, B2, HB, k0, k1, k2, k3, k4, r0, r1, r2, r3, r4, t0, t1, t2, t3, t4⟩ := keepT S1 T1 B1 B2 HB bx; clear bx)))
  have hW5 : w.heap.size + 2 ≤ w6.heap.size := by have := B2.lt; omega
  go_upto_region 12 with (go_at_call 63; ((with_reducible refine (clone_any s _ _ S1 HLB.out HLN.out HLR.out).mono ?_); rintro e' w9 ⟨v6, rfl, hQ, b6⟩; obtain ⟨Ab6, cb6, An6, cn6, rfl, hBk, hNt, q1, q2, q3, q4⟩ := hQ.parts; rw [HNN.out] at q3 hNt ⊢; have B1 := B1.below b6 B1.lt; have B2 := B2.below b6 B2.lt; have HB := btr HB HB.size b6; have hz6 := b6.size; (try clear k0 k1 k2 k3 k4 r0 r1 r2 r3 r4 t0 t1 t2 t3 t4); have k0 := B1.cell_ 0; have t0 := B1.free 0; have k1 := B1.cell_ 1; have t1 := B1.free 1; have k2 := B1.cell_ 2; have t2 := B1.free 2; have k3 := B1.cell_ 3; have t3 := B1.free 3; have k4 := B1.cell_ 4; have t4 := B1.free 4; simp at k0 k1 k2 k3 k4; clear b6 hQ S1 T1))
  have B1u := B1.st5_ (.int .i64 s.nb) (.int .i64 s.nn) (.int .i64 s.ns) (.slice Ab6 s.bs.length cb6) (.slice An6 n cn6)
  have hg6 := st5_grown w9 w.heap.size 0 (.int .i64 s.nb) (.int .i64 s.nn) (.int .i64 s.ns) (.slice Ab6 s.bs.length cb6) (.slice An6 n cn6)
  have B2u := B2.grown hg6 (by omega)
  have hBk2 := hBk.far hg6 (by omega)
  have hNt2 := hNt.far hg6 (by omega)
  have hb2 := below_grown HB hg6 (Nat.le_refl _) HB.size
  have hsz : w6.heap.size ≤ (st5 w9 w.heap.size 0 (.int .i64 s.nb) (.int .i64 s.nn) (.int .i64 s.ns) (.slice Ab6 s.bs.length cb6) (.slice An6 n cn6)).heap.size := by have := hz6; have := hg6.size; omega
  clear hg6
  obtain ⟨Wd, hWd⟩ : ∃ V : World, V = (st5 w9 w.heap.size 0 (.int .i64 s.nb) (.int .i64 s.nn) (.int .i64 s.ns) (.slice Ab6 s.bs.length cb6) (.slice An6 n cn6)) := ⟨_, rfl⟩
  change Code.wp _ _ _ _ (st5 w9 w.heap.size 0 (.int .i64 s.nb) (.int .i64 s.nn) (.int .i64 s.ns) (.slice Ab6 s.bs.length cb6) (.slice An6 n cn6))
  rw [← hWd] at B1u B2u hBk2 hNt2 hb2 hsz ⊢
  clear hWd B1 B2 HB hBk hNt k0 k1 k2 k3 k4 t0 t1 t2 t3 t4 hz6
  have k0 := B1u.cell_ 0
  have k1 := B1u.cell_ 1
  have k2 := B1u.cell_ 2
  have k3 := B1u.cell_ 3
  have k4 := B1u.cell_ 4
  simp at k0 k1 k2 k3 k4
  have HW5 := Lib.hid hW5
  have HSZ := Lib.hid hsz
  obtain ⟨es, hel, hon, hnt⟩ := hNt2
  rw [HNN.out] at hel hon
  have hrow := hon.lt
  have HROW := Lib.hid hrow
  clear hrow hsz 
  have hlw : w.heap.size < Wd.heap.size := B1u.lt
  have hlw2 : w.heap.size ≠ Wd.heap.size := by omega
  go_upto_region 14 with (at_builtin; obtain ⟨ti0, hi, hz0, hz1, hz2⟩ := info_parts info_clNt; refine wpList_app _ rfl (.tmp 51) (.tmp 53) _ rfl w6.heap.size 46 ti0 _ 5 80 Tryz.underlying23 hi hz0 hz1 hz2 rfl (by decide) _ n es.flatten rfl ((hon.alloc _).alloc _) _ 1 _ (ntC ⟨s.nn, z, x, [], []⟩ (.slice none 0 0) (.slice none 0 0)) rfl (rd_newN _ ⟨s.nn, z, x, [], []⟩ (by simp)) (ntC_one _) (by unfold maxLen; omega) (by omega) (by have := HSZ.out; simp; omega) ?_; intro v' w7 ho' hg' hv'; clear hi hz0 hz1 hz2; have B1a := ((B1u.alloc_ (.cells #[.int .i64 s.nn, .int .i64 z, .string x, .slice none 0 0, .slice none 0 0] 46)).alloc_ (.cells #[.int .i64 s.nn, .int .i64 z, .string x, .slice none 0 0, .slice none 0 0] 46)).grownR hg' (fun h => by have h1 := HROW.out _ h; have h2 := HW5.out; omega); have B2a := ((B2u.alloc_ (.cells #[.int .i64 s.nn, .int .i64 z, .string x, .slice none 0 0, .slice none 0 0] 46)).alloc_ (.cells #[.int .i64 s.nn, .int .i64 z, .string x, .slice none 0 0, .slice none 0 0] 46)).grownR hg' (fun h => by have h1 := HROW.out _ h; have h2 := HW5.out; omega); have B3a := ((Blk.new_ Wd 46 #[.int .i64 s.nn, .int .i64 z, .string x, .slice none 0 0, .slice none 0 0]).alloc_ (.cells #[.int .i64 s.nn, .int .i64 z, .string x, .slice none 0 0, .slice none 0 0] 46)).grownR hg' (fun h => by have h1 := HROW.out _ h; omega);have hOa := NtsW.more (b := ⟨s.nn, z, x, [], []⟩) HNN.out hel ((hon.alloc _).alloc _) (fun k m e a c => (hnt k m e a c).below (((Below.refl _ Wd).alloc (Nat.le_refl _) _).alloc (by simp) _)) hg' ho' rfl rfl; have hQa := BksW.apartN (hBk2.below (((Below.refl _ Wd).alloc (Nat.le_refl _) _).alloc (by simp) _)) ((hon.alloc _).alloc _) hg'; have HBa := (((hb2.alloc hb2.size _).alloc (by have := hb2.size; simp; omega) _).trans (below_app (B := w.heap.size) (by have := HW5.out; omega) (by have := HSZ.out; have := HW5.out; simp; omega) ((hon.alloc _).alloc _) hg')); obtain ⟨A7, c7, rfl, q11, q12⟩ := own_shape ho'; (try clear k0 k1 k2 k3 k4); have k0 := B1a.cell_ 0; have k1 := B1a.cell_ 1; have k4 := B1a.cell_ 4; have t4 := B1a.free 4; simp at k0 k1 k4; clear hg' hv' ho' B1u B2u hb2 hon hBk2 hel hnt)
  have B1b := (B1a.set_ 4 (.slice A7 (n + 1) c7))
  simp at B1b
  have hg1 := set1_grown w7 w.heap.size 4 (.slice A7 (n + 1) c7)
  have B2b := B2a.grown hg1 (by omega)
  have B3b := B3a.grown hg1 (by omega)
  have hOb := hOa.far hg1 (by have := HW5.out; omega)
  have hQb := hQa.far hg1 (by have := HW5.out; omega)
  have HBb := below_grown HBa hg1 (Nat.le_refl _) HBa.size
  obtain ⟨W8, hW8⟩ : ∃ V : World, V = w7.setCell ⟨w.heap.size, 4, none⟩ (.slice A7 (n + 1) c7) := ⟨_, rfl⟩
  rw [← hW8] at B1b B2b B3b hOb hQb HBb ⊢
  clear hW8 B1a B2a B3a hOa hQa HBa hg1 k0 k1 k4 t4
  have k1 := B1b.cell_ 1
  have t1 := B1b.free 1
  simp at k1
  have hwr : IntKind.i64.wrap (s.nn + 1) = s.nn + 1 := wrapS _ (by have := HQX.out; omega) (by have := HQX.out; omega)
  go_upto_region 15 with fail
  have B1c := (B1b.set_ 1 (.int .i64 (s.nn + 1)))
  simp at B1c
  have hg2 := set1_grown W8 w.heap.size 1 (.int .i64 (s.nn + 1))
  have B2c := B2b.grown hg2 (by omega)
  have B3c := B3b.grown hg2 (by omega)
  have hOc := hOb.far hg2 (by have := HW5.out; omega)
  have hQc := hQb.far hg2 (by have := HW5.out; omega)
  have HBc := below_grown HBb hg2 (Nat.le_refl _) HBb.size
  obtain ⟨W9, hW9⟩ : ∃ V : World, V = W8.setCell ⟨w.heap.size, 1, none⟩ (.int .i64 (s.nn + 1)) := ⟨_, rfl⟩
  rw [← hW9] at B1c B2c B3c hOc hQc HBc ⊢
  clear hW9 B1b B2b B3b hOb hQb HBb hg2 k1 t1 hwr
  have q0 := B1c.cell_ 0
  have q1 := B1c.cell_ 1
  have q2 := B1c.cell_ 2
  have q3 := B1c.cell_ 3
  have q4 := B1c.cell_ 4
  have q5 := B3c.cell_ 0
  simp at q0 q1 q2 q3 q4 q5
  have QD : W9.drew.cell? ⟨w.heap.size, 0, none⟩ = some (.int .i64 s.nb) ∧ W9.drew.cell? ⟨w.heap.size, 1, none⟩ = some (.int .i64 (s.nn + 1)) ∧ W9.drew.cell? ⟨w.heap.size, 2, none⟩ = some (.int .i64 s.ns) ∧ W9.drew.cell? ⟨w.heap.size, 3, none⟩ = some (.slice Ab6 s.bs.length cb6) ∧ W9.drew.cell? ⟨w.heap.size, 4, none⟩ = some (.slice A7 (n + 1) c7) ∧ W9.drew.cell? ⟨Wd.heap.size, 0, none⟩ = some (.int .i64 s.nn) := ⟨drew_cell q0, drew_cell q1, drew_cell q2, drew_cell q3, drew_cell q4, drew_cell q5⟩
  have r0 := B2c.cell_ 0
  have t0 := B2c.free 0
  have r1 := B2c.cell_ 1
  have t1 := B2c.free 1
  have r2 := B2c.cell_ 2
  have t2 := B2c.free 2
  have r3 := B2c.cell_ 3
  have t3 := B2c.free 3
  have r4 := B2c.cell_ 4
  have t4 := B2c.free 4
  simp at r0 r1 r2 r3 r4
  have hgE := st5_grown W9 (w.heap.size + 1) 0 (.int .i64 s.nb) (.int .i64 (s.nn + 1)) (.int .i64 s.ns) (.slice Ab6 s.bs.length cb6) (.slice A7 (n + 1) c7)
  have B1e := B1c.grown hgE (by omega)
  have B3e := B3c.grown hgE (by have := HSZ.out; have := HW5.out; omega)
  have B2e := B2c.st5_ (.int .i64 s.nb) (.int .i64 (s.nn + 1)) (.int .i64 s.ns) (.slice Ab6 s.bs.length cb6) (.slice A7 (n + 1) c7)
  have hOe := hOc.far hgE (by have := HW5.out; omega)
  have hQe := hQc.far hgE (by have := HW5.out; omega)
  have HBe := below_grown HBc hgE (by omega) HBc.size
  have z0 : ((st5 W9 (w.heap.size + 1) 0 (.int .i64 s.nb) (.int .i64 (s.nn + 1)) (.int .i64 s.ns) (.slice Ab6 s.bs.length cb6) (.slice A7 (n + 1) c7)).drew).cell? ⟨w.heap.size, 0, none⟩ = some (.int .i64 s.nb) := drew_cell (B1e.cell_ 0)
  have z1 : ((st5 W9 (w.heap.size + 1) 0 (.int .i64 s.nb) (.int .i64 (s.nn + 1)) (.int .i64 s.ns) (.slice Ab6 s.bs.length cb6) (.slice A7 (n + 1) c7)).drew).cell? ⟨w.heap.size, 1, none⟩ = some (.int .i64 (s.nn + 1)) := drew_cell (B1e.cell_ 1)
  have z2 : ((st5 W9 (w.heap.size + 1) 0 (.int .i64 s.nb) (.int .i64 (s.nn + 1)) (.int .i64 s.ns) (.slice Ab6 s.bs.length cb6) (.slice A7 (n + 1) c7)).drew).cell? ⟨w.heap.size, 2, none⟩ = some (.int .i64 s.ns) := drew_cell (B1e.cell_ 2)
  have z3 : ((st5 W9 (w.heap.size + 1) 0 (.int .i64 s.nb) (.int .i64 (s.nn + 1)) (.int .i64 s.ns) (.slice Ab6 s.bs.length cb6) (.slice A7 (n + 1) c7)).drew).cell? ⟨w.heap.size, 3, none⟩ = some (.slice Ab6 s.bs.length cb6) := drew_cell (B1e.cell_ 3)
  have z4 : ((st5 W9 (w.heap.size + 1) 0 (.int .i64 s.nb) (.int .i64 (s.nn + 1)) (.int .i64 s.ns) (.slice Ab6 s.bs.length cb6) (.slice A7 (n + 1) c7)).drew).cell? ⟨w.heap.size, 4, none⟩ = some (.slice A7 (n + 1) c7) := drew_cell (B1e.cell_ 4)
  have z5 : ((st5 W9 (w.heap.size + 1) 0 (.int .i64 s.nb) (.int .i64 (s.nn + 1)) (.int .i64 s.ns) (.slice Ab6 s.bs.length cb6) (.slice A7 (n + 1) c7)).drew).cell? ⟨Wd.heap.size, 0, none⟩ = some (.int .i64 s.nn) := drew_cell (B3e.cell_ 0)
  have HALL : Hid (Blk ((st5 W9 (w.heap.size + 1) 0 (.int .i64 s.nb) (.int .i64 (s.nn + 1)) (.int .i64 s.ns) (.slice Ab6 s.bs.length cb6) (.slice A7 (n + 1) c7)).drew) (w.heap.size + 1) 25 #[.int .i64 s.nb, .int .i64 (s.nn + 1), .int .i64 s.ns, .slice Ab6 s.bs.length cb6, .slice A7 (n + 1) c7] ∧ NtsW ((st5 W9 (w.heap.size + 1) 0 (.int .i64 s.nb) (.int .i64 (s.nn + 1)) (.int .i64 s.ns) (.slice Ab6 s.bs.length cb6) (.slice A7 (n + 1) c7)).drew) w6.heap.size (.slice A7 (n + 1) c7) (s.ts ++ [⟨s.nn, z, x, [], []⟩]) ∧ BksW ((st5 W9 (w.heap.size + 1) 0 (.int .i64 s.nb) (.int .i64 (s.nn + 1)) (.int .i64 s.ns) (.slice Ab6 s.bs.length cb6) (.slice A7 (n + 1) c7)).drew) w6.heap.size (.slice Ab6 s.bs.length cb6) s.bs ∧ Below w.heap.size w ((st5 W9 (w.heap.size + 1) 0 (.int .i64 s.nb) (.int .i64 (s.nn + 1)) (.int .i64 s.ns) (.slice Ab6 s.bs.length cb6) (.slice A7 (n + 1) c7)).drew)) := Lib.hid ⟨drew_blk B2e, NtsW.drew_ hOe, drew_own hQe, drew_below HBe⟩
  clear B1c B2c B3c hOc hQc HBc hgE B1e B3e B2e hOe hQe HBe
  refine wp_region_noPanic ?_
  refine wp_region_held_drew (S := (fun w_ => w_.cell? ⟨w.heap.size, 0, none⟩ = some (.int .i64 s.nb) ∧ w_.cell? ⟨w.heap.size, 1, none⟩ = some (.int .i64 (s.nn + 1)) ∧ w_.cell? ⟨w.heap.size, 2, none⟩ = some (.int .i64 s.ns) ∧ w_.cell? ⟨w.heap.size, 3, none⟩ = some (.slice Ab6 s.bs.length cb6) ∧ w_.cell? ⟨w.heap.size, 4, none⟩ = some (.slice A7 (n + 1) c7) ∧ w_.cell? ⟨Wd.heap.size, 0, none⟩ = some (.int .i64 s.nn))) (by kernel_rfl) ?_ (fun hHeld => ?_)
  · (first | with_reducible exact ⟨q0, q1, q2, q3, q4, q5⟩ | with_reducible exact QD | exact ⟨z0, z1, z2, z3, z4, z5⟩)
  refine tk 0 ?_; try simp only [Act.put, pz1, pz2, pz3]
  refine tk 1 ?_; try simp only [Act.put, pz1, pz2, pz3]
  refine tk 2 ?_; try simp only [Act.put, pz1, pz2, pz3]
  refine wpAnyH_ready (rs := [3]) (by kernel_rfl) (by simp) ?_
  refine AllReadyH.cons (o := ⟨none, .store 25 (.tmp 6) (.tmp 60), 0, "shelf.go:99", #[⟨0, .data⟩, ⟨0, .phase⟩, { on := 1, ground := Ground.textOnly Departure.lateStores }, { on := 2, ground := Ground.textOnly Departure.lateStores }], none⟩) rfl (fun K hK => ?_) AllReadyH.nil
  go_simp
  refine hK.out _ _ ?_ (fun hNew => ?_)
  · (first | with_reducible exact ⟨q0, q1, q2, q3, q4, q5⟩ | with_reducible exact QD | exact ⟨z0, z1, z2, z3, z4, z5⟩)
  clear hK K hHeld
  have hHeld := hNew
  clear hNew
  try simp only [Act.put, pz1, pz2, pz3]
  refine tk 4 ?_; try simp only [Act.put, pz1, pz2, pz3]
  refine tk 5 ?_; try simp only [Act.put, pz1, pz2, pz3]
  refine wpAnyH_done (by kernel_rfl) ?_ _
  refine NoPanic.normal ?_
  go_wp2_with fail
  obtain ⟨B2e, hOe, hQe, HBe⟩ := HALL.out
  change bodyPost _ _ _ _ _ ((st5 W9 (w.heap.size + 1) 0 (.int .i64 s.nb) (.int .i64 (s.nn + 1)) (.int .i64 s.ns) (.slice Ab6 s.bs.length cb6) (.slice A7 (n + 1) c7)).drew)
  generalize (st5 W9 (w.heap.size + 1) 0 (.int .i64 s.nb) (.int .i64 (s.nn + 1)) (.int .i64 s.ns) (.slice Ab6 s.bs.length cb6) (.slice A7 (n + 1) c7)).drew = WF at B2e hOe hQe HBe ⊢
  clear HALL z0 z1 z2 z3 z4 z5
  apply bodyPost_ret (v := .tuple #[.agg #[.int .i64 s.nb, .int .i64 (s.nn + 1), .int .i64 s.ns, .slice Ab6 s.bs.length cb6, .slice A7 (n + 1) c7], .int .i64 s.nn, .int .i64 0])
  · exact results_cell2 Tryz.results35 _ WF (w.heap.size + 1) 25 _ (0, 0) _ rfl B2e Tryz.underlying25 rfl (by kernel_rfl)
  · rfl
  · exact ⟨_, rfl, ShW.base_ (B := w6.heap.size) (ShW.make (s := noteS s z x) (w := WF) (base := w6.heap.size) (vb := .slice Ab6 s.bs.length cb6) (vn := .slice A7 (n + 1) c7) hQe hOe) (by have := HW5.out; omega), HBe⟩
end Go.Proofs.YtokhapafpjejaaaGreatDoor
