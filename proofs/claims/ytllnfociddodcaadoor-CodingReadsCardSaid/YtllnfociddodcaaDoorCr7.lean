/- Chapter 17's own: may the shelf be? -/
import Derived.Test.YtllnfociddodcaaDoorCr6
import Derived.Test.YtllnfociddodcaaDoorCr5
import Derived.Test.YtllnfociddodcaaDoorCr2
import Derived.Test.YtllnfociddodcaaDoorCr3
import Derived.Test.YtllnfociddodcaaDoorCr1
import Derived.Deep.RegionHeld3
import Derived.Deep.DrawnRows
import Derived.Deep.DeepCutAuto
import Derived.Deep.CutBlock
import Derived.Deep.Slices
import Derived.Maps.AppendAt
import Derived.Test.YtllnfociddodcaaDoorRows
import Derived.SevenTiedAt
import Derived.LaidHandle
import Derived.Lib.LaidIn
import Derived.Lib.LaidU8T
import Derived.PinnedBridge
import Derived.ChangeMaps5
set_option linter.unusedSimpArgs false
set_option linter.unusedVariables false
set_option maxRecDepth 100000
set_option maxHeartbeats 16000000
namespace Go.Proofs.YtllnfociddodcaaDoor
open Go.ChangeShapes Go.WideShapes Go.ChangeAt Go.RowKit
attribute [local go_sem ↓] Go.wp_at_zero Go.wp_at_succ
structure SzF (s : Sf) : Prop where
  hb : ∀ b ∈ s.bs, b.nm.size ≤ 100000
  hn : ∀ b ∈ s.ts, b.nm.size ≤ 100000 ∧ ((∀ t ∈ b.tg, t.size ≤ 100000) ∧ b.tg.length ≤ 100000) ∧ b.sh.length ≤ 100000
  bl : s.bs.length ≤ 100000
  tl : s.ts.length ≤ 100000
  fl : (s.ts.flatMap Nt.sh).length ≤ 100000
def rMayB (s : Sf) : Bool := rbkB s && (rntB s && rshB s)
theorem rMay_any (s : Sf) (v : Value) (w : World) (hS : ShR w w.heap.size v s) (hz : SzF s) (T : Bool) (hT0 : rMayB s = T) :
    Calls Tryd.prog 28 #[v] w fun e' w' => e' = .returned (.bool T) ∧ Below w.heap.size w w' := by
  have hS0 := hS
  obtain ⟨Ab, cb, An, cn, rfl, hB, hN, hcb, hmb, hcn, hmn⟩ := hS.ex
  clear hS
  have HB : Below w.heap.size w (w.alloc (.cells #[.int .i64 s.nb, .int .i64 s.nn, .int .i64 s.ns, .slice Ab s.bs.length cb, .slice An s.ts.length cn] 25)) := ((Below.refl w.heap.size w).alloc (by first | (simp; done) | (simp; omega)) _)
  have B1 : Blk (w.alloc (.cells #[.int .i64 s.nb, .int .i64 s.nn, .int .i64 s.ns, .slice Ab s.bs.length cb, .slice An s.ts.length cn] 25)) w.heap.size 25 #[.int .i64 s.nb, .int .i64 s.nn, .int .i64 s.ns, .slice Ab s.bs.length cb, .slice An s.ts.length cn] := Blk.new_ w 25 #[.int .i64 s.nb, .int .i64 s.nn, .int .i64 s.ns, .slice Ab s.bs.length cb, .slice An s.ts.length cn]
  have S1 : ShR (w.alloc (.cells #[.int .i64 s.nb, .int .i64 s.nn, .int .i64 s.ns, .slice Ab s.bs.length cb, .slice An s.ts.length cn] 25)) ((w.alloc (.cells #[.int .i64 s.nb, .int .i64 s.nn, .int .i64 s.ns, .slice Ab s.bs.length cb, .slice An s.ts.length cn] 25))).heap.size (.agg #[.int .i64 s.nb, .int .i64 s.nn, .int .i64 s.ns, .slice Ab s.bs.length cb, .slice An s.ts.length cn]) s := hS0.next HB
  have HZ := Lib.hid hz
  obtain ⟨R1, h1⟩ : ∃ R, rbkB s = R := ⟨_, rfl⟩
  obtain ⟨R2, h2⟩ : ∃ R, rntB s = R := ⟨_, rfl⟩
  obtain ⟨R3, h3⟩ : ∃ R, rshB s = R := ⟨_, rfl⟩
  unfold rMayB at hT0
  rw [h1, h2, h3] at hT0
  have H0 := Lib.hid hT0
  have H1 := Lib.hid h1
  have H2 := Lib.hid h2
  have H3 := Lib.hid h3
  clear hT0 h1 h2 h3 hS0 hB hN hcb hmb hcn hmn hz
  cases R1
  · skip
    go_enter Tryd.func28, Tryd.ntmps28
    go_wp2_with (first | (go_at_call 41; ((with_reducible refine (rbooks_any s _ _ S1 HZ.out.hb HZ.out.bl _ H1.out).mono ?_); rintro e' w4 ⟨rfl, b4⟩; have S1 := S1.next b4; have B1 := B1.below b4 B1.lt; have HB := btr HB HB.size b4; (try clear k0 k1 k2 k3 k4); have k0 := B1.cell_ 0; have k1 := B1.cell_ 1; have k2 := B1.cell_ 2; have k3 := B1.cell_ 3; have k4 := B1.cell_ 4; simp at k0 k1 k2 k3 k4; clear b4)))
    go_ret
    exact ⟨by rw [← H0.out]; rfl, HB⟩
  · cases R2
    · skip
      go_enter Tryd.func28, Tryd.ntmps28
      go_wp2_with (first | (go_at_call 41; ((with_reducible refine (rbooks_any s _ _ S1 HZ.out.hb HZ.out.bl _ H1.out).mono ?_); rintro e' w4 ⟨rfl, b4⟩; have S1 := S1.next b4; have B1 := B1.below b4 B1.lt; have HB := btr HB HB.size b4; (try clear k0 k1 k2 k3 k4); have k0 := B1.cell_ 0; have k1 := B1.cell_ 1; have k2 := B1.cell_ 2; have k3 := B1.cell_ 3; have k4 := B1.cell_ 4; simp at k0 k1 k2 k3 k4; clear b4)) | (go_at_call 42; ((with_reducible refine (rnotes_any s _ _ S1 HZ.out.hn ⟨HZ.out.bl, HZ.out.tl⟩ _ H2.out).mono ?_); rintro e' w5 ⟨rfl, b5⟩; have S1 := S1.next b5; have B1 := B1.below b5 B1.lt; have HB := btr HB HB.size b5; (try clear k0 k1 k2 k3 k4); have k0 := B1.cell_ 0; have k1 := B1.cell_ 1; have k2 := B1.cell_ 2; have k3 := B1.cell_ 3; have k4 := B1.cell_ 4; simp at k0 k1 k2 k3 k4; clear b5)))
      go_ret
      exact ⟨by rw [← H0.out]; rfl, HB⟩
    · cases R3
      · skip
        go_enter Tryd.func28, Tryd.ntmps28
        go_wp2_with (first | (go_at_call 41; ((with_reducible refine (rbooks_any s _ _ S1 HZ.out.hb HZ.out.bl _ H1.out).mono ?_); rintro e' w4 ⟨rfl, b4⟩; have S1 := S1.next b4; have B1 := B1.below b4 B1.lt; have HB := btr HB HB.size b4; (try clear k0 k1 k2 k3 k4); have k0 := B1.cell_ 0; have k1 := B1.cell_ 1; have k2 := B1.cell_ 2; have k3 := B1.cell_ 3; have k4 := B1.cell_ 4; simp at k0 k1 k2 k3 k4; clear b4)) | (go_at_call 42; ((with_reducible refine (rnotes_any s _ _ S1 HZ.out.hn ⟨HZ.out.bl, HZ.out.tl⟩ _ H2.out).mono ?_); rintro e' w5 ⟨rfl, b5⟩; have S1 := S1.next b5; have B1 := B1.below b5 B1.lt; have HB := btr HB HB.size b5; (try clear k0 k1 k2 k3 k4); have k0 := B1.cell_ 0; have k1 := B1.cell_ 1; have k2 := B1.cell_ 2; have k3 := B1.cell_ 3; have k4 := B1.cell_ 4; simp at k0 k1 k2 k3 k4; clear b5)) | (go_at_call 43; ((with_reducible refine (rsheets_any s _ _ S1 HZ.out.tl HZ.out.fl _ H3.out).mono ?_); rintro e' w6 ⟨rfl, b6⟩; have S1 := S1.next b6; have B1 := B1.below b6 B1.lt; have HB := btr HB HB.size b6; (try clear k0 k1 k2 k3 k4); have k0 := B1.cell_ 0; have k1 := B1.cell_ 1; have k2 := B1.cell_ 2; have k3 := B1.cell_ 3; have k4 := B1.cell_ 4; simp at k0 k1 k2 k3 k4; clear b6)))
        go_ret
        exact ⟨by rw [← H0.out]; rfl, HB⟩
      · skip
        go_enter Tryd.func28, Tryd.ntmps28
        go_wp2_with (first | (go_at_call 41; ((with_reducible refine (rbooks_any s _ _ S1 HZ.out.hb HZ.out.bl _ H1.out).mono ?_); rintro e' w4 ⟨rfl, b4⟩; have S1 := S1.next b4; have B1 := B1.below b4 B1.lt; have HB := btr HB HB.size b4; (try clear k0 k1 k2 k3 k4); have k0 := B1.cell_ 0; have k1 := B1.cell_ 1; have k2 := B1.cell_ 2; have k3 := B1.cell_ 3; have k4 := B1.cell_ 4; simp at k0 k1 k2 k3 k4; clear b4)) | (go_at_call 42; ((with_reducible refine (rnotes_any s _ _ S1 HZ.out.hn ⟨HZ.out.bl, HZ.out.tl⟩ _ H2.out).mono ?_); rintro e' w5 ⟨rfl, b5⟩; have S1 := S1.next b5; have B1 := B1.below b5 B1.lt; have HB := btr HB HB.size b5; (try clear k0 k1 k2 k3 k4); have k0 := B1.cell_ 0; have k1 := B1.cell_ 1; have k2 := B1.cell_ 2; have k3 := B1.cell_ 3; have k4 := B1.cell_ 4; simp at k0 k1 k2 k3 k4; clear b5)) | (go_at_call 43; ((with_reducible refine (rsheets_any s _ _ S1 HZ.out.tl HZ.out.fl _ H3.out).mono ?_); rintro e' w6 ⟨rfl, b6⟩; have S1 := S1.next b6; have B1 := B1.below b6 B1.lt; have HB := btr HB HB.size b6; (try clear k0 k1 k2 k3 k4); have k0 := B1.cell_ 0; have k1 := B1.cell_ 1; have k2 := B1.cell_ 2; have k3 := B1.cell_ 3; have k4 := B1.cell_ 4; simp at k0 k1 k2 k3 k4; clear b6)))
        go_ret
        exact ⟨by rw [← H0.out]; rfl, HB⟩
end Go.Proofs.YtllnfociddodcaaDoor
namespace Go.Proofs.YtllnfociddodcaaDoor
open Go.ChangeShapes Go.WideShapes Go.ChangeAt Go.RowKit
attribute [local go_sem ↓] Go.wp_at_zero Go.wp_at_succ
theorem bkOk_iff {s : Sf} : ∀ (l pre : List Bk), bkOk s pre l = true ↔ (∀ b ∈ l, 1 ≤ b.id ∧ b.id < s.nb ∧ mayN b.nm = true) ∧ (∀ a, pre.getLast? = some a → ∀ b ∈ l, a.id < b.id) ∧ (l.Pairwise fun a b => a.id < b.id) ∧ (l.Pairwise fun a b => sameS a.nm b.nm = false) ∧ ∀ a ∈ pre, ∀ b ∈ l, sameS a.nm b.nm = false
  | [], pre => by simp [bkOk]
  | x :: l, pre => by
    have ih := bkOk_iff (s := s) l (pre ++ [x])
    have hp : prevOk pre x = true ↔ ∀ a, pre.getLast? = some a → a.id < x.id := by
      unfold prevOk
      cases pre.getLast? with
      | none => simp
      | some p => simp
    show (decide (1 ≤ x.id) && (decide (x.id < s.nb) && (prevOk pre x && (mayN x.nm && (!pre.any (fun c => sameS c.nm x.nm) && bkOk s (pre ++ [x]) l))))) = true ↔ _
    rw [Bool.and_eq_true, Bool.and_eq_true, Bool.and_eq_true, Bool.and_eq_true, Bool.and_eq_true, ih, hp, decide_eq_true_eq, decide_eq_true_eq, Bool.not_eq_true', List.any_eq_false, List.pairwise_cons, List.pairwise_cons]
    constructor
    · rintro ⟨h1, h2, h3, h4, h5, h6, h7, h8, h9, h10⟩
      have hx : ∀ b ∈ l, x.id < b.id := fun b hb => h7 x (by simp) b hb
      refine ⟨fun b hb => ?_, fun a ha b hb => ?_, ⟨hx, h8⟩, ⟨fun b hb => h10 x (by simp) b hb, h9⟩, fun a ha b hb => ?_⟩
      · rcases List.mem_cons.1 hb with rfl | hb
        · exact ⟨h1, h2, h4⟩
        · exact h6 b hb
      · have := h3 a ha
        rcases List.mem_cons.1 hb with rfl | hb
        · exact this
        · have := hx b hb
          omega
      · rcases List.mem_cons.1 hb with rfl | hb
        · simpa using h5 a ha
        · exact h10 a (by simp [ha]) b hb
    · rintro ⟨h1, h2, ⟨h3, h4⟩, ⟨h5, h6⟩, h7⟩
      refine ⟨(h1 x (by simp)).1, (h1 x (by simp)).2.1, fun a ha => h2 a ha x (by simp), (h1 x (by simp)).2.2, fun a ha => by simp [h7 a ha x (by simp)], fun b hb => h1 b (by simp [hb]), fun a ha b hb => ?_, h4, h6, fun a ha b hb => ?_⟩
      · have : x = a := by simpa using ha
        subst this
        exact h3 b hb
      · rcases List.mem_append.1 ha with ha | ha
        · exact h7 a ha b (by simp [hb])
        · have : a = x := by simpa using ha
          subst this
          exact h5 b hb
theorem pair_at {l : List Bk} {R : Bk → Bk → Prop} (h : l.Pairwise R) {a b : Bk} (ha : a ∈ l) (hb : b ∈ l) (hne : a ≠ b) : R a b ∨ R b a := by
  obtain ⟨i, hi, rfl⟩ := List.mem_iff_getElem.1 ha
  obtain ⟨j, hj, rfl⟩ := List.mem_iff_getElem.1 hb
  have := List.pairwise_iff_getElem.1 h
  rcases Nat.lt_trichotomy i j with hij | rfl | hij
  · exact Or.inl (this i j hi hj hij)
  · exact absurd rfl hne
  · exact Or.inr (this j i hj hi hij)
theorem sameS_comm {a b : ByteArray} : sameS a b = sameS b a := by
  unfold sameS
  rw [Bool.eq_iff_iff, beq_iff_eq, beq_iff_eq]
  exact eq_comm
theorem rbk_eq (s : Sf) : rbkB s = (inI s.nb 1 65536 && (decide (s.bs.length ≤ 6) && booksFrom s 0 s.bs)) := by
  unfold rbkB
  rw [Bool.eq_iff_iff, Bool.and_eq_true, Bool.and_eq_true, Bool.and_eq_true, Bool.and_eq_true, bkOk_iff]
  constructor
  · rintro ⟨h1, h2, h3, -, h4, h5, -⟩
    refine ⟨h2, h1, books_conv s.bs 0 (fun b hb => ⟨by have := h3 b hb; omega, by have := h3 b hb; omega, (h3 b hb).2.2, tkB_iff.2 fun c hc he => ?_⟩) h4⟩
    by_cases hcb : c = b
    · rw [hcb]
    · have hs : sameS c.nm b.nm = true := by simp [sameS, he]
      rcases pair_at h5 hc hb hcb with h | h
      · rw [hs] at h
        cases h
      · rw [sameS_comm, hs] at h
        cases h
  · rintro ⟨h1, h2, h3⟩
    obtain ⟨q1, q2⟩ := books_all s.bs 0 h3
    refine ⟨h2, h1, fun b hb => ⟨by have := q1 b hb; omega, by have := q1 b hb; omega, (q1 b hb).2.2.1⟩, fun a ha => by simp at ha, q2, ?_, fun a ha => by simp at ha⟩
    refine q2.imp_of_mem fun {a b} ha hb hlt => ?_
    cases hs : sameS a.nm b.nm
    · rfl
    · have := tkB_iff.1 (q1 b hb).2.2.2 a ha (by simpa [sameS] using hs)
      omega
end Go.Proofs.YtllnfociddodcaaDoor
namespace Go.Proofs.YtllnfociddodcaaDoor
open Go.ChangeShapes Go.WideShapes Go.ChangeAt Go.RowKit
attribute [local go_sem ↓] Go.wp_at_zero Go.wp_at_succ
def clash (a b : Nt) : Bool := sameS a.nm b.nm && a.bk == b.bk
theorem clash_comm {a b : Nt} : clash a b = clash b a := by
  unfold clash
  rw [sameS_comm, Bool.eq_iff_iff, Bool.and_eq_true, Bool.and_eq_true, beq_iff_eq, beq_iff_eq]
  exact and_congr Iff.rfl eq_comm
theorem ntOk_iff {s : Sf} : ∀ (l pre : List Nt), ntOk s pre l = true ↔ (∀ b ∈ l, 1 ≤ b.id ∧ b.id < s.nn ∧ mayN b.nm = true ∧ 0 ≤ bookAt s b.bk ∧ mayTg b.tg = true ∧ b.sh.length ≤ 8) ∧ (∀ a, pre.getLast? = some a → ∀ b ∈ l, a.id < b.id) ∧ (l.Pairwise fun a b => a.id < b.id) ∧ (l.Pairwise fun a b => clash a b = false) ∧ ∀ a ∈ pre, ∀ b ∈ l, clash a b = false
  | [], pre => by simp [ntOk]
  | x :: l, pre => by
    have ih := ntOk_iff (s := s) l (pre ++ [x])
    have hp : prevNk pre x = true ↔ ∀ a, pre.getLast? = some a → a.id < x.id := by
      unfold prevNk
      cases pre.getLast? with
      | none => simp
      | some p => simp
    show (decide (1 ≤ x.id) && (decide (x.id < s.nn) && (prevNk pre x && (mayN x.nm && (decide (0 ≤ bookAt s x.bk) && (mayTg x.tg && (decide (x.sh.length ≤ 8) && (!pre.any (fun c => clash c x) && ntOk s (pre ++ [x]) l)))))))) = true ↔ _
    rw [Bool.and_eq_true, Bool.and_eq_true, Bool.and_eq_true, Bool.and_eq_true, Bool.and_eq_true, Bool.and_eq_true, Bool.and_eq_true, Bool.and_eq_true, ih, hp, decide_eq_true_eq, decide_eq_true_eq, decide_eq_true_eq, decide_eq_true_eq, Bool.not_eq_true', List.any_eq_false, List.pairwise_cons, List.pairwise_cons]
    constructor
    · rintro ⟨h1, h2, h3, h4, g1, g2, g3, h5, h6, h7, h8, h9, h10⟩
      have hx : ∀ b ∈ l, x.id < b.id := fun b hb => h7 x (by simp) b hb
      refine ⟨fun b hb => ?_, fun a ha b hb => ?_, ⟨hx, h8⟩, ⟨fun b hb => h10 x (by simp) b hb, h9⟩, fun a ha b hb => ?_⟩
      · rcases List.mem_cons.1 hb with rfl | hb
        · exact ⟨h1, h2, h4, g1, g2, g3⟩
        · exact h6 b hb
      · have := h3 a ha
        rcases List.mem_cons.1 hb with rfl | hb
        · exact this
        · have := hx b hb
          omega
      · rcases List.mem_cons.1 hb with rfl | hb
        · simpa using h5 a ha
        · exact h10 a (by simp [ha]) b hb
    · rintro ⟨h1, h2, ⟨h3, h4⟩, ⟨h5, h6⟩, h7⟩
      obtain ⟨k1, k2, k3, k4, k5, k6⟩ := h1 x (by simp)
      refine ⟨k1, k2, fun a ha => h2 a ha x (by simp), k3, k4, k5, k6, fun a ha => by simp [h7 a ha x (by simp)], fun b hb => h1 b (by simp [hb]), fun a ha b hb => ?_, h4, h6, fun a ha b hb => ?_⟩
      · have : x = a := by simpa using ha
        subst this
        exact h3 b hb
      · rcases List.mem_append.1 ha with ha | ha
        · exact h7 a ha b (by simp [hb])
        · have : a = x := by simpa using ha
          subst this
          exact h5 b hb
theorem npair_at {l : List Nt} {R : Nt → Nt → Prop} (h : l.Pairwise R) {a b : Nt} (ha : a ∈ l) (hb : b ∈ l) (hne : a ≠ b) : R a b ∨ R b a := by
  obtain ⟨i, hi, rfl⟩ := List.mem_iff_getElem.1 ha
  obtain ⟨j, hj, rfl⟩ := List.mem_iff_getElem.1 hb
  have := List.pairwise_iff_getElem.1 h
  rcases Nat.lt_trichotomy i j with hij | rfl | hij
  · exact Or.inl (this i j hi hj hij)
  · exact absurd rfl hne
  · exact Or.inr (this j i hj hi hij)
theorem rtkN_iff {s : Sf} {z : Int} {x : ByteArray} {y : Int} : noteTk s z x y = false ↔ ∀ b ∈ s.ts, b.bk = z → b.nm.toList = x.toList → b.id = y := by
  unfold noteTk
  rw [List.any_eq_false]
  constructor
  · intro h b hb h1 h2
    have := h b hb
    simpa [sameS, h1, h2] using this
  · intro h b hb
    have := h b hb
    intro hh
    simp only [sameS, Bool.and_eq_true, beq_iff_eq, bne_iff_ne, ne_eq] at hh
    exact hh.2.2 (this hh.1 hh.2.1)
theorem rnt_iff (s : Sf) : rntB s = true ↔ (1 ≤ s.nn ∧ s.nn ≤ 65536) ∧ s.ts.length ≤ 12 ∧ notesFrom s 0 s.ts = true ∧ ∀ n ∈ s.ts, n.sh.length ≤ 8 := by
  unfold rntB inI
  rw [Bool.and_eq_true, Bool.and_eq_true, Bool.and_eq_true, ntOk_iff, decide_eq_true_eq, decide_eq_true_eq, decide_eq_true_eq]
  constructor
  · rintro ⟨h1, h2, h3, -, h4, h5, -⟩
    refine ⟨h2, h1, notes_conv s.ts 0 (fun b hb => ?_) h4, fun n hn => (h3 n hn).2.2.2.2.2⟩
    obtain ⟨k1, k2, k3, k4, k5, k6⟩ := h3 b hb
    refine ⟨by omega, by omega, ?_⟩
    unfold mayNt
    rw [k3, decide_eq_true k4, k5, rtkN_iff.2 fun c hc he hm => ?_]
    · rfl
    · by_cases hcb : c = b
      · rw [hcb]
      · have hs : clash c b = true := by simp [clash, sameS, he, hm]
        rcases npair_at h5 hc hb hcb with h | h
        · rw [hs] at h
          cases h
        · rw [clash_comm, hs] at h
          cases h
  · rintro ⟨h1, h2, h3, h4⟩
    obtain ⟨q1, q2⟩ := notes_all s.ts 0 h3
    have q3 : ∀ b ∈ s.ts, mayN b.nm = true ∧ 0 ≤ bookAt s b.bk ∧ noteTk s b.bk b.nm b.id = false ∧ mayTg b.tg = true := fun b hb => by
      have := (q1 b hb).2.2
      unfold mayNt at this
      simpa only [Bool.and_eq_true, decide_eq_true_eq, Bool.not_eq_true'] using this
    refine ⟨h2, h1, fun b hb => ⟨by have := q1 b hb; omega, by have := q1 b hb; omega, (q3 b hb).1, (q3 b hb).2.1, (q3 b hb).2.2.2, h4 b hb⟩, fun a ha => by simp at ha, q2, ?_, fun a ha => by simp at ha⟩
    refine q2.imp_of_mem fun {a b} ha hb hlt => ?_
    cases hs : clash a b
    · rfl
    · have hs2 : a.nm.toList = b.nm.toList ∧ a.bk = b.bk := by simpa [clash, sameS] using hs
      have := rtkN_iff.1 (q3 b hb).2.2.1 a ha hs2.2 hs2.1
      omega
theorem rMay_eq (s : Sf) : rMayB s = mayS s := by
  unfold rMayB mayS
  rw [rbk_eq]
  unfold rshB
  rw [Bool.eq_iff_iff]
  simp only [Bool.and_eq_true]
  rw [rnt_iff, sh_iff, shIn_iff]
  unfold inI
  simp only [Bool.and_eq_true, decide_eq_true_eq]
  constructor
  · rintro ⟨⟨h1, h2, h3⟩, ⟨h4, h5, h6, h7⟩, h8, h9, h10⟩
    exact ⟨h1, h4, h8, ⟨h2, h3⟩, ⟨h5, h6⟩, h7, h9, h10⟩
  · rintro ⟨h1, h4, h8, ⟨h2, h3⟩, ⟨h5, h6⟩, h7, h9, h10⟩
    exact ⟨⟨h1, h2, h3⟩, ⟨h4, h5, h6, h7⟩, h8, h9, h10⟩
end Go.Proofs.YtllnfociddodcaaDoor
namespace Go.Proofs.YtllnfociddodcaaDoor
open Go.ChangeShapes Go.WideShapes Go.ChangeAt Go.RowKit
attribute [local go_sem ↓] Go.wp_at_zero Go.wp_at_succ
theorem rnumT (v n : Nat) (base : Nat) (sv : Value) (xs : List Nat) (w : World) (hr : ByR w base sv xs) (hb : base ≤ w.heap.size) (hm : xs.length ≤ 50000) (hv : v < 4294967296) (hn1 : 1 ≤ n) (hn : n ≤ 4) :
    Calls Tryd.prog 29 #[sv, .int .i64 (v : Int), .int .i64 (n : Int)] w fun e' w' => ∃ v', e' = .returned v' ∧ ByT base w w' v' (xs ++ (beB v n)) := by
  obtain ⟨i0, hi, hz0, hz1, hz2⟩ := info_parts infoByte
  obtain ⟨m, hml⟩ : ∃ m, xs.length = m := ⟨_, rfl⟩
  have HML := Lib.hid hml
  rw [hml] at hm
  have hr1 : w.ownsRow base 5 1 sv (m + 0) ((xs ++ (beB v n).take 0).map byteV) := by
    unfold ByR at hr
    rw [hml] at hr
    simpa using hr
  clear hml hr
  go_enter Tryd.func29, Tryd.ntmps29
  go_wp2
  go_loopw [0, 7] (fun s i wr => ∃ k : Nat, k ≤ n ∧ i = .int .i64 ((n : Int) - 1 - (k : Int)) ∧ wr.ownsRow base 5 1 s (m + k) ((xs ++ (beB v n).take k).map byteV) ∧ Below base w wr ∧ KeepU w wr) (fun _ i _ => ((intOf i) + 1).toNat)
  case atStart => exact ⟨0, Nat.zero_le _, by go_num, hr1, Below.refl _ _, KeepU.refl _⟩
  case round =>
    obtain ⟨k, hk, rfl, ho, hB, hK⟩ := hrel
    by_cases hlt : k < n
    · obtain ⟨q, hq⟩ : ∃ q : Nat, n - 1 - k = q := ⟨_, rfl⟩
      have e1 : (n : Int) - 1 - (k : Int) = (q : Int) := by omega
      rw [e1]
      have hsn := beB_snoc v n k hlt
      rw [hq] at hsn
      have hq3 : q ≤ 3 := by omega
      have HQ := Lib.hid hq
      have HS := Lib.hid hsn
      have hbs := hB.size
      clear hq hsn e1
      have q0 : (0 : Int) ≤ (q : Int) := by omega
      have q1 : (q : Int) ≤ 3 := by omega
      go_wp2_with (at_builtin; refine wpList_app _ rfl (.tmp 14) (.tmp 20) _ rfl base 5 i0 _ 1 1 Tryd.underlying28 hi hz0 hz1 hz2 rfl (by decide) _ _ _ rfl (ho.alloc _) _ 1 _ [byteV (v / 2 ^ (8 * q) % 256)] rfl (Rd.one (by simp [byteV])) (by simp [byteV, Value.oneCell']) (by unfold maxLen; omega) (by omega) (by simp; omega) ?_; intro s2 w2 ho2 hg2 hv2)
      go_roundw
      case rel => exact ⟨k + 1, by omega, by have := HQ.out; congr 1; omega, by rw [HS.out]; simpa [Nat.add_assoc] using ho2, (hB.alloc (by omega) _).trans (below_app (Nat.le_refl _) (by simp; omega) (ho.alloc _) hg2), hK.trans ((KeepU.alloc_ _ _).trans (KeepU.of_grown (ho.alloc _) hg2))⟩
      case measure => simp [intOf]
    · have hkn : k = n := by omega
      have e0 : (n : Int) - 1 - (k : Int) = -1 := by omega
      rw [e0]
      clear e0
      go_wp2
      go_ret
      refine ⟨_, rfl, ?_, hB, hK⟩
      unfold ByR
      rw [List.length_append, HML.out, beB_len]
      rw [hkn, List.take_of_length_le (by rw [beB_len]; omega)] at ho
      exact ho
theorem rnum3 (v : Int) (base : Nat) (sv : Value) (xs : List Nat) (w : World) (hr : ByR w base sv xs) (hb : base ≤ w.heap.size) (hm : xs.length ≤ 50000) (h0 : 0 ≤ v) (h1 : v < 4294967296) : Calls Tryd.prog 29 #[sv, .int .i64 v, .int .i64 3] w fun e' w' => ∃ v', e' = .returned v' ∧ ByT base w w' v' (xs ++ (iL v 3)) := by
  obtain ⟨k, rfl⟩ := Int.eq_ofNat_of_zero_le h0
  exact rnumT k 3 base sv xs w hr hb hm (by omega) (by decide) (by decide)
theorem rnum2 (v : Int) (base : Nat) (sv : Value) (xs : List Nat) (w : World) (hr : ByR w base sv xs) (hb : base ≤ w.heap.size) (hm : xs.length ≤ 50000) (h0 : 0 ≤ v) (h1 : v < 4294967296) : Calls Tryd.prog 29 #[sv, .int .i64 v, .int .i64 2] w fun e' w' => ∃ v', e' = .returned v' ∧ ByT base w w' v' (xs ++ (iL v 2)) := by
  obtain ⟨k, rfl⟩ := Int.eq_ofNat_of_zero_le h0
  exact rnumT k 2 base sv xs w hr hb hm (by omega) (by decide) (by decide)
theorem beB_1 {v : Nat} (h : v < 256) : beB v 1 = [v] := by
  unfold beB
  simp [List.range_succ]
  omega
theorem rnum1 (v : Nat) (base : Nat) (sv : Value) (xs : List Nat) (w : World) (hr : ByR w base sv xs) (hb : base ≤ w.heap.size) (hm : xs.length ≤ 50000) (h1 : v < 256) : Calls Tryd.prog 29 #[sv, .int .i64 (v : Int), .int .i64 1] w fun e' w' => ∃ v', e' = .returned v' ∧ ByT base w w' v' (xs ++ ([v])) := by
  have h := rnumT v 1 base sv xs w hr hb hm (by omega) (by decide) (by decide)
  rw [beB_1 h1] at h
  exact h
theorem rtextT (x : ByteArray) (base : Nat) (sv : Value) (xs : List Nat) (w : World) (hr : ByR w base sv xs) (hb : base ≤ w.heap.size) (hm : xs.length ≤ 50000) (hx : x.size < 256) :
    Calls Tryd.prog 30 #[sv, .string x] w fun e' w' => ∃ v', e' = .returned v' ∧ ByT base w w' v' (xs ++ (nmL x)) := by
  obtain ⟨i0, hi, hz0, hz1, hz2⟩ := info_parts infoByte
  go_enter Tryd.func30, Tryd.ntmps30
  go_wp2_with (first | (go_at_call 29; ((with_reducible refine (rnum1 x.size base _ xs _ hr hb hm hx).mono ?_); rintro e' w1 ⟨v1, rfl, HN⟩; skip)) | (at_builtin; refine Lib.wpList_append_own_string _ rfl (.tmp 8) (.tmp 9) _ _ rfl base 5 i0 Tryd.underlying28 Tryd.underlying9 hi hz0 hz1 hz2 _ _ _ rfl (HN.row) x rfl (by unfold maxLen; simp; omega) (by simp; omega) ((Nat.le_trans hb HN.be.size)) ?_; intro s3 w3 ho3 hg3 hn3))
  go_ret
  refine ⟨_, rfl, ?_, HN.be.trans (below_app (Nat.le_refl _) (Nat.le_trans hb HN.be.size) HN.row hg3), HN.kp.trans (KeepU.of_grown HN.row hg3)⟩
  unfold ByR nmL
  have e : (xs ++ x.size :: bytN x).map byteV = (xs ++ [x.size]).map byteV ++ Lib.strCells x := by rw [strCells_byt]; simp
  rw [e]
  have e2 : (xs ++ x.size :: bytN x).length = (xs ++ [x.size]).length + x.size := by simp [bytN_len]; omega
  rw [e2]
  exact ho3
theorem rlay_no (s : Sf) (v : Value) (w : World) (hS : ShR w w.heap.size v s) (hz : SzF s) (hM : mayS s = false) :
    Calls Tryd.prog 11 #[v] w fun e' w' => e' = .returned (.tuple #[.slice none 0 0, .int .i64 2]) ∧ Below w.heap.size w w' := by
  have hS0 := hS
  obtain ⟨Ab, cb, An, cn, rfl, hB, hN, hcb, hmb, hcn, hmn⟩ := hS.ex
  clear hS
  have HB : Below w.heap.size w (w.alloc (.cells #[.int .i64 s.nb, .int .i64 s.nn, .int .i64 s.ns, .slice Ab s.bs.length cb, .slice An s.ts.length cn] 25)) := ((Below.refl w.heap.size w).alloc (Nat.le_refl _) _)
  have B1 : Blk (w.alloc (.cells #[.int .i64 s.nb, .int .i64 s.nn, .int .i64 s.ns, .slice Ab s.bs.length cb, .slice An s.ts.length cn] 25)) w.heap.size 25 #[.int .i64 s.nb, .int .i64 s.nn, .int .i64 s.ns, .slice Ab s.bs.length cb, .slice An s.ts.length cn] := Blk.new_ w 25 #[.int .i64 s.nb, .int .i64 s.nn, .int .i64 s.ns, .slice Ab s.bs.length cb, .slice An s.ts.length cn]
  have S1 : ShR (w.alloc (.cells #[.int .i64 s.nb, .int .i64 s.nn, .int .i64 s.ns, .slice Ab s.bs.length cb, .slice An s.ts.length cn] 25)) ((w.alloc (.cells #[.int .i64 s.nb, .int .i64 s.nn, .int .i64 s.ns, .slice Ab s.bs.length cb, .slice An s.ts.length cn] 25))).heap.size (.agg #[.int .i64 s.nb, .int .i64 s.nn, .int .i64 s.ns, .slice Ab s.bs.length cb, .slice An s.ts.length cn]) s := hS0.next HB
  have HM : Hid (rMayB s = false) := Lib.hid ((rMay_eq s).trans hM)
  have HZ := Lib.hid hz
  clear hM hS0 hz hB hN hcb hmb hcn hmn
  go_enter Tryd.func11, Tryd.ntmps11
  go_wp2_with (go_at_call 28; ((with_reducible refine (rMay_any s _ _ S1 HZ.out _ HM.out).mono ?_); rintro e' w3 ⟨rfl, bx⟩; have B1 := B1.below bx B1.lt; have HB := btr HB HB.size bx; (try clear k0 k1 k2 k3 k4); have k0 := B1.cell_ 0; have k1 := B1.cell_ 1; have k2 := B1.cell_ 2; have k3 := B1.cell_ 3; have k4 := B1.cell_ 4; simp at k0 k1 k2 k3 k4; clear bx))
  go_ret2
  exact ⟨rfl, HB⟩
theorem rlay_yes (s : Sf) (v : Value) (w : World) (hS : ShR w w.heap.size v s) (hz : SzF s) (hF : MayF s) :
    Calls Tryd.prog 11 #[v] w fun e' w' => ∃ v', e' = .returned (.tuple #[v', .int .i64 0]) ∧ ByR w' w.heap.size v' (shL s) ∧ Below w.heap.size w w' := by
  have hS0 := hS
  obtain ⟨Ab, cb, An, cn, rfl, hB, hN, hcb, hmb, hcn, hmn⟩ := hS.ex
  clear hS
  have HB : Below w.heap.size w (w.alloc (.cells #[.int .i64 s.nb, .int .i64 s.nn, .int .i64 s.ns, .slice Ab s.bs.length cb, .slice An s.ts.length cn] 25)) := ((Below.refl w.heap.size w).alloc (Nat.le_refl _) _)
  have B1 : Blk (w.alloc (.cells #[.int .i64 s.nb, .int .i64 s.nn, .int .i64 s.ns, .slice Ab s.bs.length cb, .slice An s.ts.length cn] 25)) w.heap.size 25 #[.int .i64 s.nb, .int .i64 s.nn, .int .i64 s.ns, .slice Ab s.bs.length cb, .slice An s.ts.length cn] := Blk.new_ w 25 #[.int .i64 s.nb, .int .i64 s.nn, .int .i64 s.ns, .slice Ab s.bs.length cb, .slice An s.ts.length cn]
  have S1 : ShR (w.alloc (.cells #[.int .i64 s.nb, .int .i64 s.nn, .int .i64 s.ns, .slice Ab s.bs.length cb, .slice An s.ts.length cn] 25)) ((w.alloc (.cells #[.int .i64 s.nb, .int .i64 s.nn, .int .i64 s.ns, .slice Ab s.bs.length cb, .slice An s.ts.length cn] 25))).heap.size (.agg #[.int .i64 s.nb, .int .i64 s.nn, .int .i64 s.ns, .slice Ab s.bs.length cb, .slice An s.ts.length cn]) s := hS0.next HB
  have HM : Hid (rMayB s = true) := Lib.hid ((rMay_eq s).trans (mayS_conv hF))
  have HZ := Lib.hid hz
  have HF := Lib.hid hF
  obtain ⟨es, hel, hse, hnt⟩ := hN.ex
  obtain ⟨L, hL⟩ : ∃ L, s.bs.length = L := ⟨_, rfl⟩
  obtain ⟨M, hM⟩ : ∃ M, s.ts.length = M := ⟨_, rfl⟩
  have HL := Lib.hid hL
  have HMM := Lib.hid hM
  have hL6 : L ≤ 6 := by rw [← hL]; exact hF.bl
  have hM12 : M ≤ 12 := by rw [← hM]; exact hF.tl
  have c0 := hF.nb
  have c1 := hF.nn
  have c2 := hF.ns
  clear hL hM hS0 hz hcb hmb hcn hmn hF hN
  go_enter Tryd.func11, Tryd.ntmps11
  go_upto_region 3 with (go_at_call 28; ((with_reducible refine (rMay_any s _ _ S1 HZ.out _ HM.out).mono ?_); rintro e' w3 ⟨rfl, bx⟩; have B1 := B1.below bx B1.lt; have HB := btr HB HB.size bx; (try clear k0 k1 k2 k3 k4); have k0 := B1.cell_ 0; have k1 := B1.cell_ 1; have k2 := B1.cell_ 2; have k3 := B1.cell_ 3; have k4 := B1.cell_ 4; simp at k0 k1 k2 k3 k4; clear bx))
  have HT : ByT w.heap.size w3 w3 (.slice none 0 0) [] := ByT.start (ByR.nil _ _)
  have hb3 : w.heap.size ≤ w3.heap.size := HB.size
  have HB3 := HB
  have HTd : ByT w.heap.size w3 w3.drew (.slice none 0 0) [] := ⟨ByR.nil _ _, (below_dr w3).mono hb3, fun _ _ _ _ h _ => h⟩
  rw [HL.out] at B1
  rw [HMM.out] at B1
  have QD : w3.drew.cell? ⟨w.heap.size, 0, none⟩ = some (.int .i64 s.nb) ∧ w3.drew.cell? ⟨w.heap.size, 1, none⟩ = some (.int .i64 s.nn) ∧ w3.drew.cell? ⟨w.heap.size, 2, none⟩ = some (.int .i64 s.ns) := ⟨drew_cell k0, drew_cell k1, drew_cell k2⟩
  clear HB S1 k0 k1 k2 k3 k4
  refine wp_region_noPanic ?_
  refine wp_region_held_drew (S := (fun w_ => w_.cell? ⟨w.heap.size, 0, none⟩ = some (.int .i64 s.nb) ∧ w_.cell? ⟨w.heap.size, 1, none⟩ = some (.int .i64 s.nn) ∧ w_.cell? ⟨w.heap.size, 2, none⟩ = some (.int .i64 s.ns))) (by kernel_rfl) ?_ (fun hHeld => ?_)
  · (first | with_reducible exact QD | with_reducible exact Q1 | with_reducible exact Q2 | with_reducible exact Q3)
  refine tk 0 ?_; try simp only [Act.put, pz1, pz2, pz3]
  refine tk 1 ?_; try simp only [Act.put, pz1, pz2, pz3]
  refine tk 3 ?_; try simp only [Act.put, pz1, pz2, pz3]
  refine tk 4 ?_; try simp only [Act.put, pz1, pz2, pz3]
  refine tk 6 ?_; try simp only [Act.put, pz1, pz2, pz3]
  refine tk 7 ?_; try simp only [Act.put, pz1, pz2, pz3]
  refine wpAnyH_ready (rs := [2]) (by kernel_rfl) (by simp) ?_
  refine AllReadyH.cons (o := ⟨some 15, .call { callee := .value (.func 29), args := #[.const (.slice none 0 0), .tmp 14, .const (.int .i64 3)], argTypes := #[28, 3, 3] }, 28, "ref.go:25", #[⟨1, .data⟩], none⟩) rfl (fun K hK => ?_) AllReadyH.nil
  go_simp
  (first | (go_at_call 29; ((with_reducible refine (rnum3 s.nb w.heap.size _ [] _ HTd.row (Nat.le_trans hb3 HTd.be.size) (by simp [iL_len]) (by omega) (by omega)).mono ?_); rintro e' w4 ⟨v1, rfl, HN⟩; have H1 := HTd.step HN; have B1n := B1.keepU H1.kp (by decide); have Q1 : w4.cell? ⟨w.heap.size, 0, none⟩ = some (.int .i64 s.nb) ∧ w4.cell? ⟨w.heap.size, 1, none⟩ = some (.int .i64 s.nn) ∧ w4.cell? ⟨w.heap.size, 2, none⟩ = some (.int .i64 s.ns) := (by refine ⟨?_, ?_, ?_⟩ <;> first | (have h := B1n.cell_ 0; simpa using h) | (have h := B1n.cell_ 1; simpa using h) | (have h := B1n.cell_ 2; simpa using h)); clear HN)) | (go_at_call 29; ((with_reducible refine (rnum3 s.nn w.heap.size _ ([] ++ iL s.nb 3) _ H1.row (Nat.le_trans hb3 H1.be.size) (by simp [iL_len]) (by omega) (by omega)).mono ?_); rintro e' w5 ⟨v1, rfl, HN⟩; have H2 := H1.step HN; have B2n := B1.keepU H2.kp (by decide); have Q2 : w5.cell? ⟨w.heap.size, 0, none⟩ = some (.int .i64 s.nb) ∧ w5.cell? ⟨w.heap.size, 1, none⟩ = some (.int .i64 s.nn) ∧ w5.cell? ⟨w.heap.size, 2, none⟩ = some (.int .i64 s.ns) := (by refine ⟨?_, ?_, ?_⟩ <;> first | (have h := B2n.cell_ 0; simpa using h) | (have h := B2n.cell_ 1; simpa using h) | (have h := B2n.cell_ 2; simpa using h)); clear HN)) | (go_at_call 29; ((with_reducible refine (rnum3 s.ns w.heap.size _ ([] ++ iL s.nb 3 ++ iL s.nn 3) _ H2.row (Nat.le_trans hb3 H2.be.size) (by simp [iL_len]) (by omega) (by omega)).mono ?_); rintro e' w6 ⟨v1, rfl, HN⟩; have H3 := H2.step HN; have B3n := B1.keepU H3.kp (by decide); have Q3 : w6.cell? ⟨w.heap.size, 0, none⟩ = some (.int .i64 s.nb) ∧ w6.cell? ⟨w.heap.size, 1, none⟩ = some (.int .i64 s.nn) ∧ w6.cell? ⟨w.heap.size, 2, none⟩ = some (.int .i64 s.ns) := (by refine ⟨?_, ?_, ?_⟩ <;> first | (have h := B3n.cell_ 0; simpa using h) | (have h := B3n.cell_ 1; simpa using h) | (have h := B3n.cell_ 2; simpa using h)); clear HN)))
  go_wp2_with fail
  refine hK.out _ _ ?_ (fun hNew => ?_)
  · (first | with_reducible exact QD | with_reducible exact Q1 | with_reducible exact Q2 | with_reducible exact Q3)
  clear hK K hHeld
  have hHeld := hNew
  clear hNew
  try simp only [Act.put, pz1, pz2, pz3]
  refine wpAnyH_ready (rs := [5]) (by kernel_rfl) (by simp) ?_
  refine AllReadyH.cons (o := ⟨some 18, .call { callee := .value (.func 29), args := #[.tmp 15, .tmp 17, .const (.int .i64 3)], argTypes := #[28, 3, 3] }, 28, "ref.go:25", #[⟨2, .data⟩, ⟨4, .data⟩, ⟨2, .chain⟩], none⟩) rfl (fun K hK => ?_) AllReadyH.nil
  go_simp
  (first | (go_at_call 29; ((with_reducible refine (rnum3 s.nb w.heap.size _ [] _ HTd.row (Nat.le_trans hb3 HTd.be.size) (by simp [iL_len]) (by omega) (by omega)).mono ?_); rintro e' w4 ⟨v1, rfl, HN⟩; have H1 := HTd.step HN; have B1n := B1.keepU H1.kp (by decide); have Q1 : w4.cell? ⟨w.heap.size, 0, none⟩ = some (.int .i64 s.nb) ∧ w4.cell? ⟨w.heap.size, 1, none⟩ = some (.int .i64 s.nn) ∧ w4.cell? ⟨w.heap.size, 2, none⟩ = some (.int .i64 s.ns) := (by refine ⟨?_, ?_, ?_⟩ <;> first | (have h := B1n.cell_ 0; simpa using h) | (have h := B1n.cell_ 1; simpa using h) | (have h := B1n.cell_ 2; simpa using h)); clear HN)) | (go_at_call 29; ((with_reducible refine (rnum3 s.nn w.heap.size _ ([] ++ iL s.nb 3) _ H1.row (Nat.le_trans hb3 H1.be.size) (by simp [iL_len]) (by omega) (by omega)).mono ?_); rintro e' w5 ⟨v1, rfl, HN⟩; have H2 := H1.step HN; have B2n := B1.keepU H2.kp (by decide); have Q2 : w5.cell? ⟨w.heap.size, 0, none⟩ = some (.int .i64 s.nb) ∧ w5.cell? ⟨w.heap.size, 1, none⟩ = some (.int .i64 s.nn) ∧ w5.cell? ⟨w.heap.size, 2, none⟩ = some (.int .i64 s.ns) := (by refine ⟨?_, ?_, ?_⟩ <;> first | (have h := B2n.cell_ 0; simpa using h) | (have h := B2n.cell_ 1; simpa using h) | (have h := B2n.cell_ 2; simpa using h)); clear HN)) | (go_at_call 29; ((with_reducible refine (rnum3 s.ns w.heap.size _ ([] ++ iL s.nb 3 ++ iL s.nn 3) _ H2.row (Nat.le_trans hb3 H2.be.size) (by simp [iL_len]) (by omega) (by omega)).mono ?_); rintro e' w6 ⟨v1, rfl, HN⟩; have H3 := H2.step HN; have B3n := B1.keepU H3.kp (by decide); have Q3 : w6.cell? ⟨w.heap.size, 0, none⟩ = some (.int .i64 s.nb) ∧ w6.cell? ⟨w.heap.size, 1, none⟩ = some (.int .i64 s.nn) ∧ w6.cell? ⟨w.heap.size, 2, none⟩ = some (.int .i64 s.ns) := (by refine ⟨?_, ?_, ?_⟩ <;> first | (have h := B3n.cell_ 0; simpa using h) | (have h := B3n.cell_ 1; simpa using h) | (have h := B3n.cell_ 2; simpa using h)); clear HN)))
  go_wp2_with fail
  refine hK.out _ _ ?_ (fun hNew => ?_)
  · (first | with_reducible exact QD | with_reducible exact Q1 | with_reducible exact Q2 | with_reducible exact Q3)
  clear hK K hHeld
  have hHeld := hNew
  clear hNew
  try simp only [Act.put, pz1, pz2, pz3]
  refine wpAnyH_ready (rs := [8]) (by kernel_rfl) (by simp) ?_
  refine AllReadyH.cons (o := ⟨some 21, .call { callee := .value (.func 29), args := #[.tmp 18, .tmp 20, .const (.int .i64 3)], argTypes := #[28, 3, 3] }, 28, "ref.go:25", #[⟨5, .data⟩, ⟨7, .data⟩, ⟨5, .chain⟩], none⟩) rfl (fun K hK => ?_) AllReadyH.nil
  go_simp
  (first | (go_at_call 29; ((with_reducible refine (rnum3 s.nb w.heap.size _ [] _ HTd.row (Nat.le_trans hb3 HTd.be.size) (by simp [iL_len]) (by omega) (by omega)).mono ?_); rintro e' w4 ⟨v1, rfl, HN⟩; have H1 := HTd.step HN; have B1n := B1.keepU H1.kp (by decide); have Q1 : w4.cell? ⟨w.heap.size, 0, none⟩ = some (.int .i64 s.nb) ∧ w4.cell? ⟨w.heap.size, 1, none⟩ = some (.int .i64 s.nn) ∧ w4.cell? ⟨w.heap.size, 2, none⟩ = some (.int .i64 s.ns) := (by refine ⟨?_, ?_, ?_⟩ <;> first | (have h := B1n.cell_ 0; simpa using h) | (have h := B1n.cell_ 1; simpa using h) | (have h := B1n.cell_ 2; simpa using h)); clear HN)) | (go_at_call 29; ((with_reducible refine (rnum3 s.nn w.heap.size _ ([] ++ iL s.nb 3) _ H1.row (Nat.le_trans hb3 H1.be.size) (by simp [iL_len]) (by omega) (by omega)).mono ?_); rintro e' w5 ⟨v1, rfl, HN⟩; have H2 := H1.step HN; have B2n := B1.keepU H2.kp (by decide); have Q2 : w5.cell? ⟨w.heap.size, 0, none⟩ = some (.int .i64 s.nb) ∧ w5.cell? ⟨w.heap.size, 1, none⟩ = some (.int .i64 s.nn) ∧ w5.cell? ⟨w.heap.size, 2, none⟩ = some (.int .i64 s.ns) := (by refine ⟨?_, ?_, ?_⟩ <;> first | (have h := B2n.cell_ 0; simpa using h) | (have h := B2n.cell_ 1; simpa using h) | (have h := B2n.cell_ 2; simpa using h)); clear HN)) | (go_at_call 29; ((with_reducible refine (rnum3 s.ns w.heap.size _ ([] ++ iL s.nb 3 ++ iL s.nn 3) _ H2.row (Nat.le_trans hb3 H2.be.size) (by simp [iL_len]) (by omega) (by omega)).mono ?_); rintro e' w6 ⟨v1, rfl, HN⟩; have H3 := H2.step HN; have B3n := B1.keepU H3.kp (by decide); have Q3 : w6.cell? ⟨w.heap.size, 0, none⟩ = some (.int .i64 s.nb) ∧ w6.cell? ⟨w.heap.size, 1, none⟩ = some (.int .i64 s.nn) ∧ w6.cell? ⟨w.heap.size, 2, none⟩ = some (.int .i64 s.ns) := (by refine ⟨?_, ?_, ?_⟩ <;> first | (have h := B3n.cell_ 0; simpa using h) | (have h := B3n.cell_ 1; simpa using h) | (have h := B3n.cell_ 2; simpa using h)); clear HN)))
  go_wp2_with fail
  refine hK.out _ _ ?_ (fun hNew => ?_)
  · (first | with_reducible exact QD | with_reducible exact Q1 | with_reducible exact Q2 | with_reducible exact Q3)
  clear hK K hHeld
  have hHeld := hNew
  clear hNew
  try simp only [Act.put, pz1, pz2, pz3]
  refine tk 9 ?_; try simp only [Act.put, pz1, pz2, pz3]
  refine wpAnyH_done (by kernel_rfl) ?_ _
  refine NoPanic.normal ?_
  have HT := H3
  obtain ⟨X3, hX3⟩ : ∃ X, ([] ++ iL s.nb 3 ++ iL s.nn 3 ++ iL s.ns 3) = X := ⟨_, rfl⟩
  rw [hX3] at HT
  have lX3 : X3.length ≤ 9 := by rw [← hX3]; simp [iL_len]
  have HX3 := Lib.hid hX3
  have B1 := B1.keepU HT.kp (by decide)
  clear hX3 H1 H2 H3 HTd QD Q1 Q2 Q3 B1n B2n B3n hHeld
  have k3 := B1.cell_ 3
  have k4 := B1.cell_ 4
  simp at k3 k4
  go_upto_region 5 with (go_at_call 29; ((with_reducible refine (rnum1 L w.heap.size _ X3 _ HT.row (Nat.le_trans hb3 HT.be.size) (by omega) (by omega)).mono ?_); rintro e' w7 ⟨v1, rfl, HN⟩; have B1 := B1.keepU HN.kp (by decide); have HT := HT.step HN; obtain ⟨X4, hX4⟩ : ∃ X, X3 ++ ([L]) = X := ⟨_, rfl⟩; rw [hX4] at HT; have lX4 : X4.length ≤ 10 := (by rw [← hX4, List.length_append, List.length_singleton]; omega); have HX4 := Lib.hid hX4; clear hX4 HN; clear k3 k4; have k3 := B1.cell_ 3; have k4 := B1.cell_ 4; simp at k3 k4))
  obtain ⟨wk, hwk⟩ : ∃ V : World, V = w7 := ⟨_, rfl⟩
  subst hwk
  clear k3 k4
  go_wp2_with fail
  go_loopw [4, 5] (fun sv iv wr => ∃ k : Nat, k ≤ L ∧ iv = .int .i64 (k : Int) ∧ ByT w.heap.size wk wr sv (X4 ++ (s.bs.take k).flatMap bkL)) (fun _ iv _ => L - (intOf iv).toNat)
  case atStart => exact ⟨0, Nat.zero_le _, rfl, by simpa using ByT.start HT.row⟩
  case round =>
    obtain ⟨k, hk, rfl, HR⟩ := hrel
    have B1r := B1.keepU HR.kp (by decide)
    have hbr : w.heap.size ≤ wr.heap.size := Nat.le_trans (Nat.le_trans hb3 HT.be.size) HR.be.size
    have hbw : Below w.heap.size w wr := (HB3.trans HT.be).trans HR.be
    have lR : (X4 ++ (s.bs.take k).flatMap bkL).length ≤ 200 := by
      have h1 := fm_len bkL 24 (s.bs.take k) (fun x hx => by have := may_sz (HF.out.bs x (List.mem_of_mem_take hx)).2.2.1; rw [bkL_len]; omega)
      rw [List.length_append]
      rw [List.length_take] at h1
      have h2 : 24 * min k s.bs.length ≤ 24 * L := Nat.mul_le_mul_left _ (by omega)
      omega
    have k3 := B1r.cell_ 3
    have k4 := B1r.cell_ 4
    simp at k3 k4
    by_cases hlt : k < L
    · have hkx : k < s.bs.length := by have := HL.out; omega
      obtain ⟨x, hx⟩ : ∃ x, s.bs[k]? = some x := ⟨_, List.getElem?_eq_getElem hkx⟩
      have he : (s.bs.map bkC)[k]? = some (bkC x) := by rw [List.getElem?_map, hx]; rfl
      obtain ⟨b9, o9, rfl, l9, q9⟩ := SlE.at_ hB (by rw [List.length_map]; omega)
      have y0 : wr.cell? ⟨b9, o9 + k * 2, none⟩ = some (.int .i64 x.id) := (hbw.cell (p := ⟨b9, _, none⟩) l9).trans (q9 k _ he 0 _ rfl)
      have y1 : wr.cell? ⟨b9, o9 + k * 2 + 1, none⟩ = some (.string x.nm) := (hbw.cell (p := ⟨b9, _, none⟩) l9).trans (q9 k _ he 1 _ rfl)
      have hxs : 0 ≤ x.id ∧ x.id < 16777216 := (HF.out.ok.bs x (List.mem_of_getElem? hx)).a
      have hxn : x.nm.size ≤ 20 := may_sz (HF.out.bs x (List.mem_of_getElem? hx)).2.2.1
      have hft := fm_take bkL hx
      have HFT := Lib.hid hft
      have j0 : (0 : Int) ≤ (k : Int) := by omega
      have j1 : (k : Int) < (L : Int) := by omega
      clear hft hx q9 hkx he
      obtain ⟨XX, hXX⟩ : ∃ X, X4 ++ (s.bs.take k).flatMap bkL = X := ⟨_, rfl⟩
      rw [hXX] at HR lR
      have HXX := Lib.hid hXX
      clear hXX
      have HRd : ByT w.heap.size wr wr.drew _ XX := ⟨HR.row, (below_dr wr).mono hbr, fun _ _ _ _ h _ => h⟩
      have QD : wr.drew.cell? ⟨w.heap.size, 3, none⟩ = some (.slice (some ⟨b9, o9, none⟩) L cb) ∧ wr.drew.cell? ⟨b9, o9 + k * 2, none⟩ = some (.int .i64 x.id) ∧ wr.drew.cell? ⟨b9, o9 + k * 2 + 1, none⟩ = some (.string x.nm) := ⟨drew_cell k3, drew_cell y0, drew_cell y1⟩
      have hbrd : w.heap.size ≤ wr.drew.heap.size := hbr
      go_upto_region 8 with fail
      clear k3 k4 y0 y1
      refine wp_region_noPanic ?_
      refine wp_region_held_drew (S := (fun w_ => w_.cell? ⟨w.heap.size, 3, none⟩ = some (.slice (some ⟨b9, o9, none⟩) L cb) ∧ w_.cell? ⟨b9, o9 + k * 2, none⟩ = some (.int .i64 x.id) ∧ w_.cell? ⟨b9, o9 + k * 2 + 1, none⟩ = some (.string x.nm))) (by kernel_rfl) ?_ (fun hHeld => ?_)
      · (first | with_reducible exact QD | with_reducible exact QY | with_reducible exact QZ)
      refine tk 0 ?_; try simp only [Act.put, pz1, pz2, pz3]
      refine tk 1 ?_; try simp only [Act.put, pz1, pz2, pz3]
      refine tk 2 ?_; try simp only [Act.put, pz1, pz2, pz3]
      refine tk 3 ?_; try simp only [Act.put, pz1, pz2, pz3]
      refine tk 4 ?_; try simp only [Act.put, pz1, pz2, pz3]
      refine tk 5 ?_; try simp only [Act.put, pz1, pz2, pz3]
      refine tk 6 ?_; try simp only [Act.put, pz1, pz2, pz3]
      refine tk 8 ?_; try simp only [Act.put, pz1, pz2, pz3]
      refine tk 9 ?_; try simp only [Act.put, pz1, pz2, pz3]
      refine tk 10 ?_; try simp only [Act.put, pz1, pz2, pz3]
      refine tk 11 ?_; try simp only [Act.put, pz1, pz2, pz3]
      refine tk 12 ?_; try simp only [Act.put, pz1, pz2, pz3]
      refine tk 13 ?_; try simp only [Act.put, pz1, pz2, pz3]
      refine wpAnyH_ready (rs := [7]) (by kernel_rfl) (by simp) ?_
      refine AllReadyH.cons (o := ⟨some 41, .call { callee := .value (.func 29), args := #[.tmp 34, .tmp 40, .const (.int .i64 3)], argTypes := #[28, 3, 3] }, 28, "ref.go:28", #[⟨0, .data⟩, ⟨6, .data⟩], none⟩) rfl (fun K hK => ?_) AllReadyH.nil
      go_simp
      (go_at_call 29; ((with_reducible refine (rnum3 x.id w.heap.size _ XX _ HRd.row hbrd (by omega) (by omega) (by omega)).mono ?_); rintro e' w8 ⟨v1, rfl, HN⟩; have HY := HRd.step HN; have B1n := B1r.keepU HY.kp (by decide); have l9d : b9 < w.heap.size := l9; have hYd := HN.be; have QY : w8.cell? ⟨w.heap.size, 3, none⟩ = some (.slice (some ⟨b9, o9, none⟩) L cb) ∧ w8.cell? ⟨b9, o9 + k * 2, none⟩ = some (.int .i64 x.id) ∧ w8.cell? ⟨b9, o9 + k * 2 + 1, none⟩ = some (.string x.nm) := (by refine ⟨?_, ?_, ?_⟩; (have h := B1n.cell_ 3; simpa using h); exact (hYd.cell (p := ⟨b9, _, none⟩) l9d).trans QD.2.1; exact (hYd.cell (p := ⟨b9, _, none⟩) l9d).trans QD.2.2); have hby := Nat.le_trans hbr HY.be.size; clear HN))
      go_wp2_with fail
      refine hK.out _ _ ?_ (fun hNew => ?_)
      · (first | with_reducible exact QD | with_reducible exact QY | with_reducible exact QZ)
      clear hK K hHeld
      have hHeld := hNew
      clear hNew
      try simp only [Act.put, pz1, pz2, pz3]
      refine wpAnyH_ready (rs := [14]) (by kernel_rfl) (by simp) ?_
      refine AllReadyH.cons (o := ⟨some 48, .call { callee := .value (.func 30), args := #[.tmp 41, .tmp 47], argTypes := #[28, 9] }, 28, "ref.go:28", #[⟨7, .data⟩, ⟨13, .data⟩, ⟨7, .chain⟩], none⟩) rfl (fun K hK => ?_) AllReadyH.nil
      go_simp
      (go_at_call 30; ((with_reducible refine (rtextT x.nm w.heap.size _ (XX ++ iL x.id 3) _ HY.row hby (by rw [List.length_append, iL_len]; omega) (by omega)).mono ?_); rintro e' w9 ⟨v1, rfl, HN⟩; have HW := HY.step HN; have B1m := B1n.keepU HN.kp (by decide); have hYe := HN.be; have QZ : w9.cell? ⟨w.heap.size, 3, none⟩ = some (.slice (some ⟨b9, o9, none⟩) L cb) ∧ w9.cell? ⟨b9, o9 + k * 2, none⟩ = some (.int .i64 x.id) ∧ w9.cell? ⟨b9, o9 + k * 2 + 1, none⟩ = some (.string x.nm) := (by refine ⟨?_, ?_, ?_⟩; (have h := B1m.cell_ 3; simpa using h); exact (hYe.cell (p := ⟨b9, _, none⟩) l9d).trans QY.2.1; exact (hYe.cell (p := ⟨b9, _, none⟩) l9d).trans QY.2.2); clear HN))
      go_wp2_with fail
      refine hK.out _ _ ?_ (fun hNew => ?_)
      · (first | with_reducible exact QD | with_reducible exact QY | with_reducible exact QZ)
      clear hK K hHeld
      have hHeld := hNew
      clear hNew
      try simp only [Act.put, pz1, pz2, pz3]
      refine tk 15 ?_; try simp only [Act.put, pz1, pz2, pz3]
      refine wpAnyH_done (by kernel_rfl) ?_ _
      refine NoPanic.normal ?_
      go_wp2_with fail
      go_roundw
      case rel => exact ⟨k + 1, by omega, by go_num, by rw [HFT.out, ← List.append_assoc, HXX.out]; exact (by have h := HR.step HW; rw [List.append_assoc] at h; exact h)⟩
      case measure => simp [intOf]; omega
    · obtain rfl : L = k := by omega
      rw [List.take_of_length_le (by have := HL.out; omega)] at HR lR
      clear hlt
      have HT := HT.step HR
      obtain ⟨X5, hX5⟩ : ∃ X, X4 ++ s.bs.flatMap bkL = X := ⟨_, rfl⟩
      rw [hX5] at HT lR
      have lX5 := lR
      have HX5 := Lib.hid hX5
      have B1 := B1r
      clear hX5 B1r HR lR hbr hbw
      go_upto_region 10 with (go_at_call 29; ((with_reducible refine (rnum1 M w.heap.size _ X5 _ HT.row (Nat.le_trans hb3 HT.be.size) (by omega) (by omega)).mono ?_); rintro e' w10 ⟨v1, rfl, HN⟩; have B1 := B1.keepU HN.kp (by decide); have HT := HT.step HN; obtain ⟨X6, hX6⟩ : ∃ X, X5 ++ ([M]) = X := ⟨_, rfl⟩; rw [hX6] at HT; have lX6 : X6.length ≤ 300 := (by rw [← hX6, List.length_append, List.length_singleton]; omega); have HX6 := Lib.hid hX6; clear hX6 HN; clear k4; have k4 := B1.cell_ 4; simp at k4))
      obtain ⟨wm, hwm⟩ : ∃ V : World, V = w10 := ⟨_, rfl⟩
      subst hwm
      clear k4
      go_wp2_with fail
      go_loopw [4, 6] (fun sv iv wr => ∃ k : Nat, k ≤ M ∧ iv = .int .i64 (k : Int) ∧ ByT w.heap.size wm wr sv (X6 ++ (s.ts.take k).flatMap ntL)) (fun _ iv _ => M - (intOf iv).toNat)
      case atStart => exact ⟨0, Nat.zero_le _, rfl, by simpa using ByT.start HT.row⟩
      case round =>
        obtain ⟨k, hk, rfl, HR⟩ := hrel
        have B1r := B1.keepU HR.kp (by decide)
        have hbr : w.heap.size ≤ wr.heap.size := Nat.le_trans (Nat.le_trans hb3 HT.be.size) HR.be.size
        have hbw : Below w.heap.size w wr := (HB3.trans HT.be).trans HR.be
        have lR : (X6 ++ (s.ts.take k).flatMap ntL).length ≤ 3000 := by
          have h1 := fm_len ntL 200 (s.ts.take k) (fun x hx => ntL_len (HF.out.nts (List.mem_of_mem_take hx)))
          rw [List.length_append]
          rw [List.length_take] at h1
          have h2 : 200 * min k s.ts.length ≤ 200 * M := Nat.mul_le_mul_left _ (by omega)
          omega
        have k4 := B1r.cell_ 4
        simp at k4
        by_cases hlt : k < M
        · have hkx : k < s.ts.length := by have := HMM.out; omega
          obtain ⟨x, hx⟩ : ∃ x, s.ts[k]? = some x := ⟨_, List.getElem?_eq_getElem hkx⟩
          obtain ⟨e0, he⟩ : ∃ e, es[k]? = some e := ⟨_, List.getElem?_eq_getElem (by omega)⟩
          obtain ⟨At, ct, As, cs, rfl, hAt, hAs, -⟩ := (hnt k x e0 hx he).ex
          obtain ⟨b9, o9, rfl, l9, q9⟩ := hse.at_ (by omega)
          have y0 : wr.cell? ⟨b9, o9 + k * 5, none⟩ = some (.int .i64 x.id) := (hbw.cell (p := ⟨b9, _, none⟩) l9).trans (q9 k _ he 0 _ rfl)
          have y1 : wr.cell? ⟨b9, o9 + k * 5 + 1, none⟩ = some (.int .i64 x.bk) := (hbw.cell (p := ⟨b9, _, none⟩) l9).trans (q9 k _ he 1 _ rfl)
          have y2 : wr.cell? ⟨b9, o9 + k * 5 + 2, none⟩ = some (.string x.nm) := (hbw.cell (p := ⟨b9, _, none⟩) l9).trans (q9 k _ he 2 _ rfl)
          have y3 : wr.cell? ⟨b9, o9 + k * 5 + 3, none⟩ = some (.slice At x.tg.length ct) := (hbw.cell (p := ⟨b9, _, none⟩) l9).trans (q9 k _ he 3 _ rfl)
          have y4 : wr.cell? ⟨b9, o9 + k * 5 + 4, none⟩ = some (.slice As x.sh.length cs) := (hbw.cell (p := ⟨b9, _, none⟩) l9).trans (q9 k _ he 4 _ rfl)
          have hxs := HF.out.nts (List.mem_of_getElem? hx)
          have HXS := Lib.hid hxs
          have hxa := hxs.ok.a
          have hxb := hxs.ok.b
          have hxn := hxs.nm
          have hft := fm_take ntL hx
          have HFT := Lib.hid hft
          have j0 : (0 : Int) ≤ (k : Int) := by omega
          have j1 : (k : Int) < (M : Int) := by omega
          obtain ⟨P, hP⟩ : ∃ P, x.tg.length = P := ⟨_, rfl⟩
          obtain ⟨Q, hQ⟩ : ∃ Q, x.sh.length = Q := ⟨_, rfl⟩
          have hP4 : P ≤ 4 := by rw [← hP]; exact hxs.tl
          have hQ8 : Q ≤ 8 := by rw [← hQ]; exact hxs.sl
          rw [hP] at y3
          rw [hQ] at y4
          have HP := Lib.hid hP
          have HQ := Lib.hid hQ
          clear hft hx q9 hkx he hxs hP hQ
          obtain ⟨XX, hXX⟩ : ∃ X, X6 ++ (s.ts.take k).flatMap ntL = X := ⟨_, rfl⟩
          rw [hXX] at HR lR
          have HXX := Lib.hid hXX
          clear hXX
          go_upto_region 14 with fail
          have B7 : Blk (wr.alloc (.cells #[.int .i64 x.id, .int .i64 x.bk, .string x.nm, .slice At P ct, .slice As Q cs] 52)) wr.heap.size 52 #[.int .i64 x.id, .int .i64 x.bk, .string x.nm, .slice At P ct, .slice As Q cs] := Blk.new_ wr 52 #[.int .i64 x.id, .int .i64 x.bk, .string x.nm, .slice At P ct, .slice As Q cs]
          have HU := (ByT.start HR.row).alloc hbr (.cells #[.int .i64 x.id, .int .i64 x.bk, .string x.nm, .slice At P ct, .slice As Q cs] 52)
          obtain ⟨wu, hwu⟩ : ∃ V : World, V = wr.alloc (.cells #[.int .i64 x.id, .int .i64 x.bk, .string x.nm, .slice At P ct, .slice As Q cs] 52) := ⟨_, rfl⟩
          obtain ⟨g7, hg7⟩ : ∃ g, wr.heap.size = g := ⟨_, rfl⟩
          change Code.wp _ _ _ _ (wr.alloc (.cells #[.int .i64 x.id, .int .i64 x.bk, .string x.nm, .slice At P ct, .slice As Q cs] 52))
          rw [← hwu] at B7 HU ⊢
          rw [hg7] at B7 ⊢
          have hbu : w.heap.size ≤ wu.heap.size := Nat.le_trans hbr HU.be.size
          clear hwu hg7 y0 y1 y2 y3 y4 k4
          have HRd : ByT w.heap.size wr wu.drew _ XX := ⟨HU.row, HU.be.trans ((below_dr wu).mono hbu), HU.kp.trans (fun _ _ _ _ h _ => h)⟩
          have QD : wu.drew.cell? ⟨g7, 0, none⟩ = some (.int .i64 x.id) ∧ wu.drew.cell? ⟨g7, 1, none⟩ = some (.int .i64 x.bk) ∧ wu.drew.cell? ⟨g7, 2, none⟩ = some (.string x.nm) := ⟨drew_cell (B7.cell_ 0), drew_cell (B7.cell_ 1), drew_cell (B7.cell_ 2)⟩
          have B7d : Blk wu.drew g7 52 #[.int .i64 x.id, .int .i64 x.bk, .string x.nm, .slice At P ct, .slice As Q cs] := drew_blk B7
          have hbd : w.heap.size ≤ wu.drew.heap.size := hbu
          refine wp_region_noPanic ?_
          refine wp_region_held_drew (S := (fun w_ => w_.cell? ⟨g7, 0, none⟩ = some (.int .i64 x.id) ∧ w_.cell? ⟨g7, 1, none⟩ = some (.int .i64 x.bk) ∧ w_.cell? ⟨g7, 2, none⟩ = some (.string x.nm))) (by kernel_rfl) ?_ (fun hHeld => ?_)
          · (first | with_reducible exact QD | with_reducible exact Q1 | with_reducible exact Q2 | with_reducible exact Q3)
          refine tk 0 ?_; try simp only [Act.put, pz1, pz2, pz3]
          refine tk 1 ?_; try simp only [Act.put, pz1, pz2, pz3]
          refine tk 2 ?_; try simp only [Act.put, pz1, pz2, pz3]
          refine tk 4 ?_; try simp only [Act.put, pz1, pz2, pz3]
          refine tk 5 ?_; try simp only [Act.put, pz1, pz2, pz3]
          refine tk 7 ?_; try simp only [Act.put, pz1, pz2, pz3]
          refine tk 8 ?_; try simp only [Act.put, pz1, pz2, pz3]
          refine wpAnyH_ready (rs := [3]) (by kernel_rfl) (by simp) ?_
          refine AllReadyH.cons (o := ⟨some 69, .call { callee := .value (.func 29), args := #[.tmp 66, .tmp 68, .const (.int .i64 3)], argTypes := #[28, 3, 3] }, 28, "ref.go:33", #[⟨0, .data⟩, ⟨2, .data⟩], none⟩) rfl (fun K hK => ?_) AllReadyH.nil
          go_simp
          (first | (go_at_call 29; ((with_reducible refine (rnum3 x.id w.heap.size _ XX _ HRd.row hbd (by omega) (by omega) (by omega)).mono ?_); rintro e' w11 ⟨v1, rfl, HN⟩; have H1 := HRd.step HN; have B71 := B7d.keepU HN.kp (by decide); have Q1 : w11.cell? ⟨g7, 0, none⟩ = some (.int .i64 x.id) ∧ w11.cell? ⟨g7, 1, none⟩ = some (.int .i64 x.bk) ∧ w11.cell? ⟨g7, 2, none⟩ = some (.string x.nm) := (by refine ⟨?_, ?_, ?_⟩; (have h := B71.cell_ 0; simpa using h); (have h := B71.cell_ 1; simpa using h); (have h := B71.cell_ 2; simpa using h)); have hb1 := Nat.le_trans hbd HN.be.size; clear HN)) | (go_at_call 29; ((with_reducible refine (rnum3 x.bk w.heap.size _ (XX ++ iL x.id 3) _ H1.row hb1 (by rw [List.length_append, iL_len]; omega) (by omega) (by omega)).mono ?_); rintro e' w12 ⟨v1, rfl, HN⟩; have H2 := H1.step HN; have B72 := B71.keepU HN.kp (by decide); have Q2 : w12.cell? ⟨g7, 0, none⟩ = some (.int .i64 x.id) ∧ w12.cell? ⟨g7, 1, none⟩ = some (.int .i64 x.bk) ∧ w12.cell? ⟨g7, 2, none⟩ = some (.string x.nm) := (by refine ⟨?_, ?_, ?_⟩; (have h := B72.cell_ 0; simpa using h); (have h := B72.cell_ 1; simpa using h); (have h := B72.cell_ 2; simpa using h)); have hb2 := Nat.le_trans hb1 HN.be.size; clear HN)))
          go_wp2_with fail
          refine hK.out _ _ ?_ (fun hNew => ?_)
          · (first | with_reducible exact QD | with_reducible exact Q1 | with_reducible exact Q2 | with_reducible exact Q3)
          clear hK K hHeld
          have hHeld := hNew
          clear hNew
          try simp only [Act.put, pz1, pz2, pz3]
          refine wpAnyH_ready (rs := [6]) (by kernel_rfl) (by simp) ?_
          refine AllReadyH.cons (o := ⟨some 72, .call { callee := .value (.func 29), args := #[.tmp 69, .tmp 71, .const (.int .i64 3)], argTypes := #[28, 3, 3] }, 28, "ref.go:33", #[⟨3, .data⟩, ⟨5, .data⟩, ⟨3, .chain⟩], none⟩) rfl (fun K hK => ?_) AllReadyH.nil
          go_simp
          (first | (go_at_call 29; ((with_reducible refine (rnum3 x.id w.heap.size _ XX _ HRd.row hbd (by omega) (by omega) (by omega)).mono ?_); rintro e' w11 ⟨v1, rfl, HN⟩; have H1 := HRd.step HN; have B71 := B7d.keepU HN.kp (by decide); have Q1 : w11.cell? ⟨g7, 0, none⟩ = some (.int .i64 x.id) ∧ w11.cell? ⟨g7, 1, none⟩ = some (.int .i64 x.bk) ∧ w11.cell? ⟨g7, 2, none⟩ = some (.string x.nm) := (by refine ⟨?_, ?_, ?_⟩; (have h := B71.cell_ 0; simpa using h); (have h := B71.cell_ 1; simpa using h); (have h := B71.cell_ 2; simpa using h)); have hb1 := Nat.le_trans hbd HN.be.size; clear HN)) | (go_at_call 29; ((with_reducible refine (rnum3 x.bk w.heap.size _ (XX ++ iL x.id 3) _ H1.row hb1 (by rw [List.length_append, iL_len]; omega) (by omega) (by omega)).mono ?_); rintro e' w12 ⟨v1, rfl, HN⟩; have H2 := H1.step HN; have B72 := B71.keepU HN.kp (by decide); have Q2 : w12.cell? ⟨g7, 0, none⟩ = some (.int .i64 x.id) ∧ w12.cell? ⟨g7, 1, none⟩ = some (.int .i64 x.bk) ∧ w12.cell? ⟨g7, 2, none⟩ = some (.string x.nm) := (by refine ⟨?_, ?_, ?_⟩; (have h := B72.cell_ 0; simpa using h); (have h := B72.cell_ 1; simpa using h); (have h := B72.cell_ 2; simpa using h)); have hb2 := Nat.le_trans hb1 HN.be.size; clear HN)))
          go_wp2_with fail
          refine hK.out _ _ ?_ (fun hNew => ?_)
          · (first | with_reducible exact QD | with_reducible exact Q1 | with_reducible exact Q2 | with_reducible exact Q3)
          clear hK K hHeld
          have hHeld := hNew
          clear hNew
          try simp only [Act.put, pz1, pz2, pz3]
          refine wpAnyH_ready (rs := [9]) (by kernel_rfl) (by simp) ?_
          refine AllReadyH.cons (o := ⟨some 75, .call { callee := .value (.func 30), args := #[.tmp 72, .tmp 74], argTypes := #[28, 9] }, 28, "ref.go:33", #[⟨6, .data⟩, ⟨8, .data⟩, ⟨6, .chain⟩], none⟩) rfl (fun K hK => ?_) AllReadyH.nil
          go_simp
          (go_at_call 30; ((with_reducible refine (rtextT x.nm w.heap.size _ (XX ++ iL x.id 3 ++ iL x.bk 3) _ H2.row hb2 (by rw [List.length_append, List.length_append, iL_len, iL_len]; omega) (by omega)).mono ?_); rintro e' w13 ⟨v1, rfl, HN⟩; have H3 := H2.step HN; have B73 := B72.keepU HN.kp (by decide); have Q3 : w13.cell? ⟨g7, 0, none⟩ = some (.int .i64 x.id) ∧ w13.cell? ⟨g7, 1, none⟩ = some (.int .i64 x.bk) ∧ w13.cell? ⟨g7, 2, none⟩ = some (.string x.nm) := (by refine ⟨?_, ?_, ?_⟩; (have h := B73.cell_ 0; simpa using h); (have h := B73.cell_ 1; simpa using h); (have h := B73.cell_ 2; simpa using h)); have hb3_ := Nat.le_trans hb2 HN.be.size; clear HN))
          go_wp2_with fail
          refine hK.out _ _ ?_ (fun hNew => ?_)
          · (first | with_reducible exact QD | with_reducible exact Q1 | with_reducible exact Q2 | with_reducible exact Q3)
          clear hK K hHeld
          have hHeld := hNew
          clear hNew
          try simp only [Act.put, pz1, pz2, pz3]
          refine tk 10 ?_; try simp only [Act.put, pz1, pz2, pz3]
          refine wpAnyH_done (by kernel_rfl) ?_ _
          refine NoPanic.normal ?_
          obtain ⟨Y3, hY3⟩ : ∃ X, (XX ++ iL x.id 3 ++ iL x.bk 3 ++ nmL x.nm) = X := ⟨_, rfl⟩
          rw [hY3] at H3
          have lY3 : Y3.length ≤ 3030 := by rw [← hY3]; simp only [List.length_append, iL_len, nmL_len]; omega
          have HY3 := Lib.hid hY3
          have HV := H3
          have B7 := B73
          have hbv := hb3_
          have m3 := B7.cell_ 3
          have m4 := B7.cell_ 4
          simp at m3 m4
          clear hY3 H1 H2 H3 HRd QD Q1 Q2 Q3 B71 B72 B73 B7d hHeld hb1 hb2 hb3_ hbd HU hbu
          go_upto_region 16 with (go_at_call 29; ((with_reducible refine (rnum1 P w.heap.size _ Y3 _ HV.row hbv (by omega) (by omega)).mono ?_); rintro e' w14 ⟨v1, rfl, HN⟩; have B7 := B7.keepU HN.kp (by decide); have hbv := Nat.le_trans hbv HN.be.size; have HV := HV.step HN; obtain ⟨Y4, hY4⟩ : ∃ X, Y3 ++ [P] = X := ⟨_, rfl⟩; rw [hY4] at HV; have lY4 : Y4.length ≤ 3031 := (by rw [← hY4, List.length_append, List.length_singleton]; omega); have HY4 := Lib.hid hY4; clear hY4 HN m3 m4; have m3 := B7.cell_ 3; have m4 := B7.cell_ 4; simp at m3 m4))
          obtain ⟨wt, hwt⟩ : ∃ V : World, V = w14 := ⟨_, rfl⟩
          subst hwt
          obtain ⟨wo, hwo⟩ : ∃ V : World, V = wr := ⟨_, rfl⟩
          subst hwo
          clear m3 m4
          go_wp2_with fail
          go_loopw [4, 8] (fun sv iv wr => ∃ i : Nat, i ≤ P ∧ iv = .int .i64 (i : Int) ∧ ByT w.heap.size wt wr sv (Y4 ++ (x.tg.take i).flatMap nmL)) (fun _ iv _ => P - (intOf iv).toNat)
          case atStart => exact ⟨0, Nat.zero_le _, rfl, by simpa using ByT.start HV.row⟩
          case round =>
            obtain ⟨i, hi, rfl, HI⟩ := hrel
            have B7r := B7.keepU HI.kp (by decide)
            have hbi : w.heap.size ≤ wr.heap.size := Nat.le_trans hbv HI.be.size
            have lI : (Y4 ++ (x.tg.take i).flatMap nmL).length ≤ 3200 := by
              have h1 := fm_len nmL 21 (x.tg.take i) (fun t ht => by have := HXS.out.tg t (List.mem_of_mem_take ht); rw [nmL_len]; omega)
              rw [List.length_append]
              rw [List.length_take] at h1
              have h2 : 21 * min i x.tg.length ≤ 21 * P := Nat.mul_le_mul_left _ (by omega)
              omega
            have m3 := B7r.cell_ 3
            have m4 := B7r.cell_ 4
            simp at m3 m4
            by_cases hlt2 : i < P
            · obtain ⟨tt, ht⟩ : ∃ t, x.tg[i]? = some t := ⟨_, List.getElem?_eq_getElem (by have := HP.out; omega)⟩
              obtain ⟨b8, o8, rfl, l8, q8⟩ := hAt.at_ (by rw [List.length_map]; have := HP.out; omega)
              have y9 : wr.cell? ⟨b8, o8 + i, none⟩ = some (.string tt) := (((hbw.trans HV.be).trans HI.be).cell (p := ⟨b8, o8 + i, none⟩) l8).trans (q8 i _ (by rw [List.getElem?_map, ht]; rfl))
              have hft2 := fm_take nmL ht
              have htn : tt.size ≤ 20 := HXS.out.tg tt (List.mem_of_getElem? ht)
              have HFT2 := Lib.hid hft2
              have i0 : (0 : Int) ≤ (i : Int) := by omega
              have i1 : (i : Int) < (P : Int) := by omega
              clear hft2 ht q8
              obtain ⟨YY, hYY⟩ : ∃ X, Y4 ++ (x.tg.take i).flatMap nmL = X := ⟨_, rfl⟩
              rw [hYY] at HI lI
              have HYY := Lib.hid hYY
              clear hYY
              go_wp2_with (go_at_call 30; ((with_reducible refine (rtextT tt w.heap.size _ YY _ HI.row hbi (by omega) (by omega)).mono ?_); rintro e' w16 ⟨v1, rfl, HN⟩; skip))
              go_roundw
              case rel => exact ⟨i + 1, by omega, by go_num, by rw [HFT2.out, ← List.append_assoc, HYY.out]; exact HI.step HN⟩
              case measure => simp [intOf]; omega
            · obtain rfl : P = i := by omega
              rw [List.take_of_length_le (by have := HP.out; omega)] at HI lI
              clear hlt2
              have HV := HV.step HI
              obtain ⟨Y5, hY5⟩ : ∃ X, Y4 ++ x.tg.flatMap nmL = X := ⟨_, rfl⟩
              rw [hY5] at HV lI
              have lY5 := lI
              have HY5 := Lib.hid hY5
              have B7 := B7r
              have hbv := hbi
              clear hY5 B7r HI lI hbi
              go_upto_region 21 with (go_at_call 29; ((with_reducible refine (rnum1 Q w.heap.size _ Y5 _ HV.row hbv (by omega) (by omega)).mono ?_); rintro e' w15 ⟨v1, rfl, HN⟩; have B7 := B7.keepU HN.kp (by decide); have hbv := Nat.le_trans hbv HN.be.size; have HV := HV.step HN; obtain ⟨Y6, hY6⟩ : ∃ X, Y5 ++ [Q] = X := ⟨_, rfl⟩; rw [hY6] at HV; have lY6 : Y6.length ≤ 3201 := (by rw [← hY6, List.length_append, List.length_singleton]; omega); have HY6 := Lib.hid hY6; clear hY6 HN m4; have m4 := B7.cell_ 4; simp at m4))
              obtain ⟨wz, hwz⟩ : ∃ V : World, V = w15 := ⟨_, rfl⟩
              subst hwz
              clear m4
              go_wp2_with fail
              go_loopw [4, 9] (fun sv iv wr => ∃ i : Nat, i ≤ Q ∧ iv = .int .i64 (i : Int) ∧ ByT w.heap.size wz wr sv (Y6 ++ (x.sh.take i).flatMap (fun z => iL z 2))) (fun _ iv _ => Q - (intOf iv).toNat)
              case atStart => exact ⟨0, Nat.zero_le _, rfl, by simpa using ByT.start HV.row⟩
              case round =>
                obtain ⟨i, hi, rfl, HI⟩ := hrel
                have B7r := B7.keepU HI.kp (by decide)
                have hbi : w.heap.size ≤ wr.heap.size := Nat.le_trans hbv HI.be.size
                have lI : (Y6 ++ (x.sh.take i).flatMap (fun z => iL z 2)).length ≤ 3300 := by
                  have h1 := fm_len (fun z => iL z 2) 2 (x.sh.take i) (fun t _ => by rw [iL_len]; exact Nat.le_refl _)
                  rw [List.length_append]
                  rw [List.length_take] at h1
                  have h2 : 2 * min i x.sh.length ≤ 2 * Q := Nat.mul_le_mul_left _ (by omega)
                  omega
                have m4 := B7r.cell_ 4
                simp at m4
                by_cases hlt2 : i < Q
                · obtain ⟨zz, ht⟩ : ∃ t, x.sh[i]? = some t := ⟨_, List.getElem?_eq_getElem (by have := HQ.out; omega)⟩
                  obtain ⟨b8, o8, rfl, l8, q8⟩ := hAs.at_ (by rw [List.length_map]; have := HQ.out; omega)
                  have y9 : wr.cell? ⟨b8, o8 + i, none⟩ = some (.int .i64 zz) := (((hbw.trans HV.be).trans HI.be).cell (p := ⟨b8, o8 + i, none⟩) l8).trans (q8 i _ (by rw [List.getElem?_map, ht]; rfl))
                  have hft2 := fm_take (fun z => iL z 2) ht
                  have htn : 0 ≤ zz ∧ zz < 65536 := HXS.out.ok.c zz (List.mem_of_getElem? ht)
                  have HFT2 := Lib.hid hft2
                  have i0 : (0 : Int) ≤ (i : Int) := by omega
                  have i1 : (i : Int) < (Q : Int) := by omega
                  clear hft2 ht q8
                  obtain ⟨YY, hYY⟩ : ∃ X, Y6 ++ (x.sh.take i).flatMap (fun z => iL z 2) = X := ⟨_, rfl⟩
                  rw [hYY] at HI lI
                  have HYY := Lib.hid hYY
                  clear hYY
                  go_wp2_with (go_at_call 29; ((with_reducible refine (rnum2 zz w.heap.size _ YY _ HI.row hbi (by omega) htn.1 (by omega)).mono ?_); rintro e' w17 ⟨v1, rfl, HN⟩; skip))
                  go_roundw
                  case rel => exact ⟨i + 1, by omega, by go_num, by rw [HFT2.out, ← List.append_assoc, HYY.out]; exact HI.step HN⟩
                  case measure => simp [intOf]; omega
                · obtain rfl : Q = i := by omega
                  rw [List.take_of_length_le (by have := HQ.out; omega)] at HI lI
                  clear hlt2
                  have HV := HV.step HI
                  go_wp2_with fail
                  go_roundw
                  case rel => exact ⟨k + 1, by omega, by go_num, by
                    have e : Y6 ++ x.sh.flatMap (fun z => iL z 2) = X6 ++ (s.ts.take (k + 1)).flatMap ntL := by
                      rw [HFT.out, ← List.append_assoc, HXX.out, ← HY6.out, ← HY5.out, ← HY4.out, ← HY3.out]
                      unfold ntL
                      rw [HP.out, HQ.out]
                      simp [List.append_assoc]
                    rw [← e]
                    exact HR.step HV⟩
                  case measure => simp [intOf]; omega
        · obtain rfl : M = k := by omega
          rw [List.take_of_length_le (by have := HMM.out; omega)] at HR lR
          clear hlt
          have HTn := HT.step HR
          obtain ⟨X7, hX7⟩ : ∃ X, X6 ++ s.ts.flatMap ntL = X := ⟨_, rfl⟩
          rw [hX7] at HTn
          go_wp2_with fail
          go_ret2
          refine ⟨_, rfl, ?_, hbw⟩
          have e : shL s = X7 := by
            unfold shL
            rw [← hX7, ← HX6.out, ← HX5.out, ← HX4.out, ← HX3.out, HL.out, HMM.out]
            simp [List.append_assoc]
          rw [e]
          exact HTn.row
end Go.Proofs.YtllnfociddodcaaDoor
namespace Go.Proofs.YtllnfociddodcaaDoor
open Go.ChangeShapes Go.WideShapes Go.ChangeAt Go.RowKit
attribute [local go_sem ↓] Go.wp_at_zero Go.wp_at_succ
theorem own_bs {w : World} {B B' size n : Nat} {e : TypeId} {v : Value} {xs : List Value} (h : w.ownsRow B e size v n xs) (hB : B' ≤ B) : w.ownsRow B' e size v n xs := by
  refine ⟨h.1, ?_⟩
  rcases h.2 with h2 | ⟨g, cap, cur, hv, hb, h⟩
  · exact Or.inl h2
  · exact Or.inr ⟨g, cap, cur, hv, by omega, h⟩
theorem gtr {w w1 w2 : World} {row : Option Nat} (h : w.grownBy w1 row) (h2 : w1.grownBy w2 row) : w.grownBy w2 row := ⟨by rw [h2.os, h.os], by rw [h2.tape, h.tape], by rw [h2.output, h.output], Nat.le_trans h.size h2.size, fun k hk hne => (h2.block k (Nat.lt_of_lt_of_le hk h.size) hne).trans (h.block k hk hne)⟩
theorem galloc {w w1 : World} {row : Option Nat} (h : w.grownBy w1 row) (o : Obj) : w.grownBy (w1.alloc o) row := gtr h ⟨rfl, rfl, rfl, by simp, fun k hk _ => heap_alloc_old w1 o hk⟩
theorem infoByte2 : (Tryd.prog.info? 5).map (fun i => (i.zero, i.size, i.bytes)) = some (some (.int .u8 0), 1, 1) := by kernel_rfl
theorem over_own (n g cap : Nat) (xs : List Value) (base : Nat) (w : World) (ho : w.ownsRow base 5 1 (.slice (some ⟨g, 0, none⟩) n cap) n xs) (hb : base ≤ w.heap.size) (hn : n ≤ 100000) :
    Calls Tryd.prog 16 #[.slice (some ⟨g, 0, none⟩) n cap] w fun e w' => (∃ v, e = .returned v) ∧ w.grownBy w' (some g) := by
  obtain ⟨i0, hi, hz0, hz1, hz2⟩ := info_parts infoByte2
  go_enter Tryd.func16, Tryd.ntmps16
  go_wp2
  go_loopw [2] (fun i wr => ∃ (k : Nat) (ys : List Value), k ≤ n ∧ i = .int .i64 k ∧ wr.ownsRow base 5 1 (.slice (some ⟨g, 0, none⟩) n cap) n ys ∧ w.grownBy wr (some g)) (fun i _ => n - (intOf i).toNat)
  case atStart => exact ⟨0, xs, Nat.zero_le _, rfl, ho, World.grownBy.refl w _⟩
  case round =>
    obtain ⟨k, ys, hk, rfl, hr, hB⟩ := hrel
    by_cases hlt : k < n
    · have hyl : ys.length = n := by have := hr.1; omega
      have c1 : wr.cell? ⟨g, k, none⟩ = some (ys.getD k (.bool false)) := by
        rw [hr.cellAt k (by omega)]
        simp [show k < ys.length by omega]
      have f1 : wr.frozen? ⟨g, k, none⟩ = false := hr.frozenAt k
      have i0' : (0 : Int) ≤ (k : Int) := by omega
      have i1 : (k : Int) < (n : Int) := by omega
      have hst := hr.stored k (.int .u8 238)
      clear hyl
      go_wp2
      go_roundw
      case rel => exact ⟨k + 1, ys.set k (.int .u8 238), by omega, by go_num, hst.1, grown_set hB _ _⟩
      case measure => simp [intOf]; omega
    · go_wp2_with (at_builtin; refine wpList_app _ rfl (.tmp 12) (.tmp 13) _ rfl base 5 i0 _ 1 1 Tryd.underlying28 hi hz0 hz1 hz2 rfl (by decide) _ _ _ rfl (hr.alloc _) _ 1 _ [.int .u8 238] rfl (Rd.one (by simp)) (by simp [Value.oneCell']) (by unfold maxLen; omega) (by omega) (by simp; have := hB.size; omega) ?_; intro v2 w2 ho2 hg2 hv2)
      have HF : w.grownBy w2 (some g) := gtr (galloc hB _) hg2
      exact bodyPost_end (v := .tuple #[]) (by simp [results, Tryd.results16, go_sem]) rfl ⟨⟨_, rfl⟩, HF⟩
theorem num_any (z : Int) (w : World) : Calls Tryd.prog 13 #[.int .i64 z] w fun e' w' => e' = .returned (.int .i64 z) ∧ Below w.heap.size w w' := by
  go_enter Tryd.func13, Tryd.ntmps13
  go_wp2_with fail
  go_ret
  exact ⟨rfl, Below.refl _ _⟩
theorem shL_len {s : Sf} (h : MayF s) : (shL s).length ≤ 10000 ∧ 0 < (shL s).length := by
  have h1 := fm_len bkL 100 s.bs (fun b hb => by
    have q := may_sz (h.bs b hb).2.2.1
    show (iL b.id 3 ++ nmL b.nm).length ≤ 100
    have e1 : (iL b.id 3).length = 3 := by simp [iL, beB]
    have e2 : (nmL b.nm).length = b.nm.size + 1 := by simp [nmL, bytN]
    rw [List.length_append, e1, e2]
    omega)
  have h2 := fm_len ntL 200 s.ts (fun n hn => ntL_len (h.nts hn))
  have h3 := h.bl
  have h4 := h.tl
  have e : ∀ z : Int, (iL z 3).length = 3 := fun z => by simp [iL, beB]
  have hL : (shL s).length = 11 + (s.bs.flatMap bkL).length + (s.ts.flatMap ntL).length := by
    simp only [shL, List.length_append, List.length_cons, e]
    omega
  omega
theorem rlayL (s : Sf) (v : Value) (w : World) (hS : ShR w w.heap.size v s) (hz : SzF s) (hF : MayF s) (L : Nat) (hL : (shL s).length = L) :
    Calls Tryd.prog 11 #[v] w fun e' w' => ∃ g c, e' = .returned (.tuple #[.slice (some ⟨g, 0, none⟩) L c, .int .i64 0]) ∧ w'.ownsRow w.heap.size 5 1 (.slice (some ⟨g, 0, none⟩) L c) L ((shL s).map byteV) ∧ Below w.heap.size w w' := by
  refine (rlay_yes s v w hS hz hF).mono ?_
  rintro e' w' ⟨v', rfl, hr, hb⟩
  have h0 := (shL_len hF).2
  unfold ByR at hr
  rw [hL] at hr h0
  rcases hr.2 with ⟨rfl, h1⟩ | ⟨g, cap, cur, rfl, _⟩
  · omega
  · exact ⟨g, cap, rfl, hr, hb⟩
end Go.Proofs.YtllnfociddodcaaDoor
namespace Go.Proofs.YtllnfociddodcaaDoor
open Go.ChangeShapes Go.WideShapes Go.ChangeAt Go.RowKit
attribute [local go_sem ↓] Go.wp_at_zero Go.wp_at_succ
-- once bad, always bad
theorem nmb_bad {n : Nat} {r : Rr} (h : r.2 = true) : (nmb n r).2.2 = true := by
  obtain ⟨l, b⟩ := r
  cases h
  rfl
theorem txt_bad {r : Rr} (h : r.2 = true) : (txt r).2.2 = true := by
  obtain ⟨l, b⟩ := r
  cases h
  rfl
theorem rTg_bad : ∀ (k : Nat) (acc : List ByteArray) (r : Rr), r.2 = true → (rTg k acc r).2.2 = true
  | 0, _, _, h => h
  | k + 1, acc, r, h => rTg_bad k _ _ (txt_bad h)
theorem rSh_bad : ∀ (k : Nat) (acc : List Int) (r : Rr), r.2 = true → (rSh k acc r).2.2 = true
  | 0, _, _, h => h
  | k + 1, acc, r, h => rSh_bad k _ _ (nmb_bad h)
theorem rBk_bad : ∀ (k : Nat) (acc : List Bk) (r : Rr), r.2 = true → (rBk k acc r).2.2 = true
  | 0, _, _, h => h
  | k + 1, acc, r, h => rBk_bad k _ _ (txt_bad (nmb_bad h))
theorem rNt1_bad {r : Rr} (h : r.2 = true) : (rNt1 r).2.2 = true := rSh_bad _ _ _ (nmb_bad (rTg_bad _ _ _ (nmb_bad (r := (rH1 r).2) (txt_bad (nmb_bad (nmb_bad h))))))
theorem rNt_bad : ∀ (k : Nat) (acc : List Nt) (r : Rr), r.2 = true → (rNt k acc r).2.2 = true
  | 0, _, _, h => h
  | k + 1, acc, r, h => rNt_bad k _ _ (rNt1_bad h)
theorem conN_bad {j : Nat} {s : Sf} {r : Rr} (h : r.2 = true) : (conN j s r).2.2 = true := rNt_bad _ _ _ h
theorem conB_bad {k : Nat} {s : Sf} {r : Rr} (h : r.2 = true) : (conB k s r).2.2 = true := conN_bad (nmb_bad (rBk_bad _ _ _ h))
theorem conS_bad {j : Nat} {s : Sf} {h : Nt} {k : Nat} {r : Rr} (hb : r.2 = true) : (conS j s h k r).2.2 = true := conN_bad (rSh_bad _ _ _ hb)
theorem conT_bad {j : Nat} {s : Sf} {h : Nt} {k : Nat} {r : Rr} (hb : r.2 = true) : (conT j s h k r).2.2 = true := conS_bad (nmb_bad (rTg_bad _ _ _ hb))
def Dj (F : Sf × Rr) (r : Rr) (X : Sf × Rr) : Prop := (r.2 = true ∧ F.2.2 = true) ∨ X = F
theorem Dj.step {F X X' : Sf × Rr} {r r' : Rr} (h : Dj F r X) (hr : r.2 = true → r'.2 = true) (hx : X = X') : Dj F r' X' := by
  rcases h with ⟨h1, h2⟩ | h
  · exact Or.inl ⟨hr h1, h2⟩
  · exact Or.inr (hx ▸ h)
theorem Dj.bad {F X X' : Sf × Rr} {r : Rr} (h : Dj F r X) (hr : r.2 = true) (hx : X.2.2 = true) : Dj F r X' := by
  rcases h with h | h
  · exact Or.inl h
  · exact Or.inl ⟨hr, by rw [← h]; exact hx⟩
theorem txt_sz {r : Rr} (h : Bytes8 r.1) : (txt r).1.size ≤ 255 := by
  have h1 := nmb1_lt h
  have h2 := tk_len (nmb 1 r).1 (nmb 1 r).2
  show (strN (tkR (nmb 1 r).1 (nmb 1 r).2).1).size ≤ 255
  have h3 : ∀ l : List Nat, (strN l).size = l.length := fun l => by simp [strN, ByteArray.size]
  rw [h3]
  omega
def SzN (n : Nt) : Prop := n.nm.size ≤ 255 ∧ ((∀ t ∈ n.tg, t.size ≤ 255) ∧ n.tg.length ≤ 255) ∧ n.sh.length ≤ 255
structure SzI (s : Sf) : Prop where
  hb : ∀ b ∈ s.bs, b.nm.size ≤ 255
  hn : ∀ n ∈ s.ts, SzN n
theorem fl_le {l : List Nt} (h : ∀ n ∈ l, SzN n) : (l.flatMap Nt.sh).length ≤ 255 * l.length := by
  induction l with
  | nil => simp
  | cons x l ih =>
    rw [List.flatMap_cons, List.length_append, List.length_cons]
    have h1 := (h x (by simp)).2.2
    have h2 := ih (fun n hn => h n (by simp [hn]))
    omega
theorem SzI.sz {s : Sf} (h : SzI s) (h1 : s.bs.length ≤ 255) (h2 : s.ts.length ≤ 255) : SzF s := by
  have h3 := fl_le h.hn
  refine ⟨fun b hb => Nat.le_trans (h.hb b hb) (by decide), fun n hn => ?_, by omega, by omega, by omega⟩
  obtain ⟨a1, ⟨a2, a3⟩, a4⟩ := h.hn n hn
  exact ⟨by omega, ⟨fun t ht => Nat.le_trans (a2 t ht) (by decide), by omega⟩, by omega⟩
theorem SzI.book {s : Sf} (h : SzI s) {b : Bk} (hb : b.nm.size ≤ 255) : SzI { s with bs := s.bs ++ [b] } := ⟨fun x hx => by
  rcases List.mem_append.1 hx with hx | hx
  · exact h.hb x hx
  · obtain rfl := List.mem_singleton.1 hx
    exact hb, h.hn⟩
theorem SzI.note {s : Sf} (h : SzI s) {n : Nt} (hn : SzN n) : SzI { s with ts := s.ts ++ [n] } := ⟨h.hb, fun x hx => by
  rcases List.mem_append.1 hx with hx | hx
  · exact h.hn x hx
  · obtain rfl := List.mem_singleton.1 hx
    exact hn⟩
theorem gtr2 {w w1 w2 : World} {row row2 : Option Nat} (h : w.grownBy w1 row) (h2 : w1.grownBy w2 row2) (hr : ∀ k, row2 = some k → w.heap.size ≤ k) : w.grownBy w2 row := ⟨by rw [h2.os, h.os], by rw [h2.tape, h.tape], by rw [h2.output, h.output], Nat.le_trans h.size h2.size, fun k hk hne => (h2.block k (Nat.lt_of_lt_of_le hk h.size) (fun e => by have := hr k e.symm; omega)).trans (h.block k hk hne)⟩
structure RqM (w0 wr : World) (s : Sf) (vb vn : Value) (es : List (List Value)) : Prop where
  hB : Below w0.heap.size w0 wr
  zb : Blk wr w0.heap.size 25 #[.int .i64 0, .int .i64 0, .int .i64 0, .slice none 0 0, .slice none 0 0]
  sb : Blk wr (w0.heap.size + 2) 25 #[.int .i64 s.nb, .int .i64 s.nn, .int .i64 s.ns, vb, vn]
  bk : BksW wr (w0.heap.size + 3) vb s.bs
  el : es.length = s.ts.length
  on : wr.ownsRow (w0.heap.size + 3) 52 5 vn s.ts.length es.flatten
  nt : ∀ (k : Nat) (n : Nt) (e : List Value), s.ts[k]? = some n → es[k]? = some e → NtW wr (w0.heap.size + 3) n e
theorem RqM.size {w0 wr : World} {s : Sf} {vb vn : Value} {es : List (List Value)} (h : RqM w0 wr s vb vn es) : w0.heap.size + 3 ≤ wr.heap.size := h.sb.lt
theorem RqM.cells {w0 wr : World} {s : Sf} {vb vn : Value} {es : List (List Value)} (h : RqM w0 wr s vb vn es) : ∀ e ∈ es, ∀ u ∈ e, ∀ g, u.ownBlock = some g → w0.heap.size + 3 ≤ g ∧ g < wr.heap.size := by
  intro e he
  obtain ⟨k, hk⟩ := List.getElem?_of_mem he
  have hlt : k < s.ts.length := by
    rw [← h.el]
    exact (List.getElem?_eq_some_iff.1 hk).1
  exact (h.nt k _ e (List.getElem?_eq_getElem hlt) hk).blk
theorem RqM.far {w0 wr : World} {s : Sf} {vb vn : Value} {es : List (List Value)} {g : Nat} (h : RqM w0 wr s vb vn es) (hg : g < w0.heap.size + 3) : Off es (some g) := by
  intro e he u hu
  cases hu2 : u.ownBlock with
  | none => exact Or.inl rfl
  | some k =>
    have := h.cells e he u hu k hu2
    exact Or.inr (fun hc => by cases hc; omega)
theorem RqM.call {w0 wr w' : World} {s : Sf} {vb vn : Value} {es : List (List Value)} (h : RqM w0 wr s vb vn es) (hg : wr.grownBy w' (some (w0.heap.size + 1))) : RqM w0 w' s vb vn es := by
  have hlt : w0.heap.size + 1 < w0.heap.size + 3 := by omega
  exact ⟨h.hB.grown hg (Nat.le_trans (Nat.le_add_right _ 3) h.size) (fun k e => by cases e; omega), h.zb.grownR hg (fun e => by injection e; omega), h.sb.grownR hg (fun e => by injection e; omega), h.bk.far hg hlt, h.el, World.ownsRow.kept h.on hg (own_off h.on hlt), fun k n e a c => (h.nt k n e a c).rowR hg (h.far hlt e (List.mem_of_getElem? c))⟩
theorem RqM.below {w0 wr w' : World} {s : Sf} {vb vn : Value} {es : List (List Value)} (h : RqM w0 wr s vb vn es) (hb : Below wr.heap.size wr w') : RqM w0 w' s vb vn es := h.call (grown_of _ hb)
theorem RqM.book {w0 wr w' : World} {s : Sf} {vb vn vb' : Value} {es : List (List Value)} {n : Nat} (h : RqM w0 wr s vb vn es) (b : Bk) (hn : s.bs.length = n) (ho : w'.ownsRow (w0.heap.size + 3) 48 2 vb' (n + 1) ((s.bs.map bkC).flatten ++ bkC b)) (hg : wr.grownBy w' vb.ownBlock) :
    RqM w0 (w'.setCell ⟨w0.heap.size + 2, 3, none⟩ vb') { s with bs := s.bs ++ [b] } vb' vn es := by
  have hne : ∀ k, k < w0.heap.size + 3 → vb.ownBlock ≠ some k := fun k hk e => by have := World.ownsRow.lt h.bk k e; omega
  have hg2 := set1_grown w' (w0.heap.size + 2) 3 vb'
  have hlt : w0.heap.size + 2 < w0.heap.size + 3 := by omega
  have hof : Off es vb.ownBlock := fun e he u hu => by
    obtain ⟨k, hk⟩ := List.getElem?_of_mem he
    have hlt : k < s.ts.length := by
      rw [← h.el]
      exact (List.getElem?_eq_some_iff.1 hk).1
    obtain ⟨vt, vs, rfl, h1, h2⟩ := h.nt k _ e (List.getElem?_eq_getElem hlt) hk
    simp [ntC] at hu
    rcases hu with rfl | rfl | rfl | rfl | rfl
    · exact Or.inl rfl
    · exact Or.inl rfl
    · exact Or.inl rfl
    · exact own_apart h1 h.bk (by decide)
    · exact own_apart h2 h.bk (by decide)
  have hon := World.ownsRow.kept h.on hg (own_apart h.on h.bk (by decide))
  have hsz : w0.heap.size + 3 ≤ w'.heap.size := Nat.le_trans h.size hg.size
  have hbo : BksW w' (w0.heap.size + 3) vb' (s.bs ++ [b]) := by
    show w'.ownsRow _ _ _ _ (s.bs ++ [b]).length ((s.bs ++ [b]).map bkC).flatten
    rw [bk_snoc, List.length_append, hn]
    exact ho
  have B1 := (h.sb.grownR hg (hne _ (by omega))).set_ 3 vb'
  simp at B1
  have hX : Off es (some (w0.heap.size + 2)) := h.far hlt
  exact ⟨(h.hB.grown hg (Nat.le_trans (Nat.le_add_right _ 3) h.size) (fun k e => by have := World.ownsRow.lt h.bk k e; omega)).grown hg2 (Nat.le_trans (Nat.le_add_right _ 3) hsz) (fun k e => by cases e; omega),
    (h.zb.grownR hg (hne _ (by omega))).grownR hg2 (fun e => by injection e; omega), B1,
    hbo.far hg2 hlt, h.el, World.ownsRow.kept hon hg2 (own_off hon hlt), fun k n e a c => ((h.nt k n e a c).rowR hg (hof e (List.mem_of_getElem? c))).rowR hg2 (hX e (List.mem_of_getElem? c))⟩
structure NqM (wr : World) (gn : Nat) (h : Nt) (vt vs : Value) : Prop where
  nb : Blk wr gn 52 #[.int .i64 h.id, .int .i64 h.bk, .string h.nm, vt, vs]
  tg : wr.ownsRow (gn + 1) 9 1 vt h.tg.length (h.tg.map strV)
  sh : wr.ownsRow (gn + 1) 3 1 vs h.sh.length (h.sh.map (Value.int .i64))
theorem NqM.call {wr w' : World} {gn g : Nat} {h : Nt} {vt vs : Value} (hn : NqM wr gn h vt vs) (hg : wr.grownBy w' (some g)) (hlt : g < gn) : NqM w' gn h vt vs :=
  ⟨hn.nb.grownR hg (fun e => by injection e; omega), World.ownsRow.kept hn.tg hg (own_off hn.tg (by omega)), World.ownsRow.kept hn.sh hg (own_off hn.sh (by omega))⟩
theorem NqM.below {wr w' : World} {gn : Nat} {h : Nt} {vt vs : Value} (hn : NqM wr gn h vt vs) (hb : Below wr.heap.size wr w') : NqM w' gn h vt vs := ⟨hn.nb.below hb hn.nb.lt, own_belowW hn.tg hb, own_belowW hn.sh hb⟩
theorem NqM.fresh {wr : World} {gn : Nat} {a c : Int} {x : ByteArray} (hb : Blk wr gn 52 #[.int .i64 a, .int .i64 c, .string x, .slice none 0 0, .slice none 0 0]) : NqM wr gn ⟨a, c, x, [], []⟩ (.slice none 0 0) (.slice none 0 0) := ⟨hb, World.ownsRow_nil _ _ _ _, World.ownsRow_nil _ _ _ _⟩
theorem NqM.tag {wr w' : World} {gn : Nat} {h : Nt} {vt vs vt' : Value} {n : Nat} (hN : NqM wr gn h vt vs) (x : ByteArray) (hn : h.tg.length = n) (ho : w'.ownsRow (gn + 1) 9 1 vt' (n + 1) (h.tg.map strV ++ [strV x])) (hg : wr.grownBy w' vt.ownBlock) :
    NqM (w'.setCell ⟨gn, 3, none⟩ vt') gn { h with tg := h.tg ++ [x] } vt' vs := by
  have hne : vt.ownBlock ≠ some gn := fun e => by have := World.ownsRow.lt hN.tg gn e; omega
  have hg2 := set1_grown w' gn 3 vt'
  have hlt : gn < gn + 1 := by omega
  refine ⟨(set_boxN (hN.nb.grownR hg hne)).1, ?_, World.ownsRow.kept (World.ownsRow.kept hN.sh hg (own_apart hN.sh hN.tg (by decide))) hg2 (own_off hN.sh hlt)⟩
  have ho2 := World.ownsRow.kept ho hg2 (own_off ho hlt)
  show World.ownsRow _ _ _ _ _ (h.tg ++ [x]).length ((h.tg ++ [x]).map strV)
  rw [List.length_append, hn, List.map_append]
  exact ho2
theorem NqM.sheet {wr w' : World} {gn : Nat} {h : Nt} {vt vs vs' : Value} {n : Nat} (hN : NqM wr gn h vt vs) (x : Int) (hn : h.sh.length = n) (ho : w'.ownsRow (gn + 1) 3 1 vs' (n + 1) (h.sh.map (Value.int .i64) ++ [.int .i64 x])) (hg : wr.grownBy w' vs.ownBlock) :
    NqM (w'.setCell ⟨gn, 4, none⟩ vs') gn { h with sh := h.sh ++ [x] } vt vs' := by
  have hne : vs.ownBlock ≠ some gn := fun e => by have := World.ownsRow.lt hN.sh gn e; omega
  have hg2 := set1_grown w' gn 4 vs'
  have hlt : gn < gn + 1 := by omega
  refine ⟨(set_boxN (hN.nb.grownR hg hne)).2, World.ownsRow.kept (World.ownsRow.kept hN.tg hg (own_apart hN.tg hN.sh (by decide))) hg2 (own_off hN.tg hlt), ?_⟩
  have ho2 := World.ownsRow.kept ho hg2 (own_off ho hlt)
  show World.ownsRow _ _ _ _ _ (h.sh ++ [x]).length ((h.sh ++ [x]).map (Value.int .i64))
  rw [List.length_append, hn, List.map_append]
  exact ho2
theorem NqM.toW {wr : World} {gn B : Nat} {h : Nt} {vt vs : Value} (hN : NqM wr gn h vt vs) (hB : B ≤ gn) : NtW wr B h (ntC h vt vs) := ⟨vt, vs, rfl, own_bs hN.tg (by omega), own_bs hN.sh (by omega)⟩
theorem RqM.note {w0 wr w' : World} {s : Sf} {vb vn vt vs vn' : Value} {es : List (List Value)} {h : Nt} {n : Nat} (hM : RqM w0 wr s vb vn es) (hN : NtW wr (w0.heap.size + 3) h (ntC h vt vs)) (hn : s.ts.length = n) (ho : w'.ownsRow (w0.heap.size + 3) 52 5 vn' (n + 1) (es.flatten ++ ntC h vt vs)) (hg : wr.grownBy w' vn.ownBlock) :
    RqM w0 (w'.setCell ⟨w0.heap.size + 2, 4, none⟩ vn') { s with ts := s.ts ++ [h] } vb vn' (es ++ [ntC h vt vs]) := by
  have hne : ∀ k, k < w0.heap.size + 3 → vn.ownBlock ≠ some k := fun k hk e => by have := World.ownsRow.lt hM.on k e; omega
  have hg2 := set1_grown w' (w0.heap.size + 2) 4 vn'
  have hlt : w0.heap.size + 2 < w0.heap.size + 3 := by omega
  have hsz : w0.heap.size + 3 ≤ w'.heap.size := Nat.le_trans hM.size hg.size
  have hbo := World.ownsRow.kept hM.bk hg (own_apart hM.bk hM.on (by decide))
  have hnw : ∀ (m : Nt) (e : List Value), NtW wr (w0.heap.size + 3) m e → NtW (w'.setCell ⟨w0.heap.size + 2, 4, none⟩ vn') (w0.heap.size + 3) m e := by
    rintro m e ⟨a1, a2, rfl, h1, h2⟩
    have k1 := World.ownsRow.kept h1 hg (own_apart h1 hM.on (by decide))
    have k2 := World.ownsRow.kept h2 hg (own_apart h2 hM.on (by decide))
    exact ⟨a1, a2, rfl, World.ownsRow.kept k1 hg2 (own_off k1 hlt), World.ownsRow.kept k2 hg2 (own_off k2 hlt)⟩
  refine ⟨(hM.hB.grown hg (Nat.le_trans (Nat.le_add_right _ 3) hM.size) (fun k e => by have := World.ownsRow.lt hM.on k e; omega)).grown hg2 (Nat.le_trans (Nat.le_add_right _ 3) hsz) (fun k e => by cases e; omega),
    (hM.zb.grownR hg (hne _ (by omega))).grownR hg2 (fun e => by injection e; omega), (set_boxN (hM.sb.grownR hg (hne _ (by omega)))).2,
    World.ownsRow.kept hbo hg2 (own_off hbo hlt), by simp [hM.el], ?_, fun k m e a c => ?_⟩
  · have ho2 := World.ownsRow.kept ho hg2 (own_off ho hlt)
    show World.ownsRow _ _ _ _ _ (s.ts ++ [h]).length (es ++ [ntC h vt vs]).flatten
    rw [List.flatten_append, List.length_append, hn]
    simpa using ho2
  · change (s.ts ++ [h])[k]? = some m at a
    rw [List.getElem?_append] at a c
    rw [hM.el] at c
    split at a
    · rename_i hk
      rw [if_pos hk] at c
      exact hnw m e (hM.nt k m e a c)
    · rename_i hk
      rw [if_neg hk] at c
      cases hj : k - s.ts.length with
      | zero =>
        rw [hj] at a c
        cases a
        cases c
        exact hnw h _ hN
      | succ j =>
        rw [hj] at a
        simp at a
theorem RqM.toW {w0 wr : World} {s : Sf} {vb vn : Value} {es : List (List Value)} (h : RqM w0 wr s vb vn es) : ShW wr (w0.heap.size + 3) (.agg #[.int .i64 s.nb, .int .i64 s.nn, .int .i64 s.ns, vb, vn]) s := ShW.make h.bk ⟨es, h.el, h.on, h.nt⟩
end Go.Proofs.YtllnfociddodcaaDoor
namespace Go.Proofs.YtllnfociddodcaaDoor
open Go.ChangeShapes Go.WideShapes Go.ChangeAt Go.RowKit
attribute [local go_sem ↓] Go.wp_at_zero Go.wp_at_succ
def Dec (a : Bool) (p : Prop) : Prop := a = true ↔ p
theorem ba_ne {x y : ByteArray} (h : ¬ x = y) : ¬ x.toList = y.toList := by
  intro e
  rw [ByteArray.toList_eq, ByteArray.toList_eq] at e
  exact h (ByteArray.ext (Array.toList_inj.1 e))
theorem beq_no {α : Type} [BEq α] [LawfulBEq α] {x y : α} (h : ¬ x = y) : (x == y) = false := by simpa using h
end Go.Proofs.YtllnfociddodcaaDoor
namespace Go.Proofs.YtllnfociddodcaaDoor
open Go.ChangeShapes Go.WideShapes Go.ChangeAt Go.RowKit
attribute [local go_sem ↓] Go.wp_at_zero Go.wp_at_succ
theorem RqM.start {w0 wA w1 : World} (x : Int) (hb : Below w0.heap.size w0 wA) (hsA : wA.heap.size = w0.heap.size + 2) (B0 : Blk wA w0.heap.size 25 #[.int .i64 0, .int .i64 0, .int .i64 0, .slice none 0 0, .slice none 0 0]) (hg : wA.grownBy w1 (some (w0.heap.size + 1))) (hs : w1.heap.size = wA.heap.size) :
    RqM w0 (w1.alloc (.cells #[.int .i64 x, .int .i64 0, .int .i64 0, .slice none 0 0, .slice none 0 0] 25)) ⟨x, 0, 0, [], []⟩ (.slice none 0 0) (.slice none 0 0) [] := by
  have h2 := Blk.new_ w1 25 #[.int .i64 x, .int .i64 0, .int .i64 0, .slice none 0 0, .slice none 0 0]
  rw [show w1.heap.size = w0.heap.size + 2 by omega] at h2
  exact ⟨(hb.grown hg (by omega) (fun k e => by cases e; omega)).alloc (by omega) _, (B0.grownR hg (fun e => by injection e; omega)).alloc_ _, h2, World.ownsRow_nil _ _ _ _, rfl, World.ownsRow_nil _ _ _ _, fun k n e a c => by simp at c⟩
theorem RqM.set1 {w0 wr : World} {x y z y' : Int} (h : RqM w0 wr ⟨x, y, z, [], []⟩ (.slice none 0 0) (.slice none 0 0) []) : RqM w0 (wr.setCell ⟨w0.heap.size + 2, 1, none⟩ (.int .i64 y')) ⟨x, y', z, [], []⟩ (.slice none 0 0) (.slice none 0 0) [] := by
  have hg := set1_grown wr (w0.heap.size + 2) 1 (.int .i64 y')
  have h2 := h.sb.set_ 1 (.int .i64 y')
  simp at h2
  exact ⟨h.hB.grown hg (Nat.le_trans (Nat.le_add_right _ 3) h.size) (fun k e => by cases e; omega), h.zb.grownR hg (fun e => by injection e; omega), h2, World.ownsRow_nil _ _ _ _, rfl, World.ownsRow_nil _ _ _ _, fun k n e a c => by simp at c⟩
theorem RqM.set2 {w0 wr : World} {x y z z' : Int} (h : RqM w0 wr ⟨x, y, z, [], []⟩ (.slice none 0 0) (.slice none 0 0) []) : RqM w0 (wr.setCell ⟨w0.heap.size + 2, 2, none⟩ (.int .i64 z')) ⟨x, y, z', [], []⟩ (.slice none 0 0) (.slice none 0 0) [] := by
  have hg := set1_grown wr (w0.heap.size + 2) 2 (.int .i64 z')
  have h2 := h.sb.set_ 2 (.int .i64 z')
  simp at h2
  exact ⟨h.hB.grown hg (Nat.le_trans (Nat.le_add_right _ 3) h.size) (fun k e => by cases e; omega), h.zb.grownR hg (fun e => by injection e; omega), h2, World.ownsRow_nil _ _ _ _, rfl, World.ownsRow_nil _ _ _ _, fun k n e a c => by simp at c⟩
theorem RpR.set {w0 wr : World} {A : Option Addr} {n c : Nat} {b : List Nat} {r : Rr} (h : RpR wr (w0.heap.size + 1) A n c b r) (j : Nat) (u : Value) : RpR (wr.setCell ⟨w0.heap.size + 2, j, none⟩ u) (w0.heap.size + 1) A n c b r := h.row (set1_grown _ _ _ _) (fun e => by injection e; omega)
theorem b8_rest {w : World} {g : Nat} {A : Option Addr} {n c : Nat} {b : List Nat} {r : Rr} (h : RpR w g A n c b r) (h8 : Bytes8 b) : Bytes8 r.1 := by
  obtain ⟨q, -, -, hl⟩ := h.ex
  rw [← hl]
  exact fun x hx => h8 x (List.mem_of_mem_drop hx)
theorem RpR.flag {w : World} {g : Nat} {A : Option Addr} {n c : Nat} {b : List Nat} {r : Rr} (h : RpR w g A n c b r) : w.cell? ⟨g, 2, none⟩ = some (.bool r.2) := by
  obtain ⟨q, h1, -⟩ := h.ex
  exact (cell3 h1).2.2
theorem okR_nof {b : List Nat} {F : Sf × Rr} {s : Sf} {r : Rr} (hF : rAll b = F) (hd : Dj F r (s, r)) (h : r.2 = true ∨ (mayS s = false ∨ ¬ shL s = b)) (h8 : Bytes8 b) : okR b = false := by
  subst hF
  rcases hd with ⟨_, hd⟩ | hd
  · unfold okR
    rw [hd]
    rfl
  · have e1 : (rAll b).1 = s := by rw [← hd]
    have e2 : (rAll b).2 = r := by rw [← hd]
    rcases h with h | h | h
    · unfold okR
      rw [e2, h]
      rfl
    · unfold okR
      rw [e1, h]
      simp
    · cases hq : okR b
      · rfl
      · obtain ⟨q, h1, h2, h3⟩ := (okR_iff h8).1 hq
        rw [e1] at h3
        subst h3
        exact absurd h2.symm h
theorem okR_yesf {b : List Nat} {s : Sf} (h : MayF s) (e : shL s = b) : okR b = true ∧ (rAll b).1 = s := by
  subst e
  exact okR_lay h
def RdA2 (w0 : World) (b : List Nat) (e' : Ending) (w' : World) : Prop := ∃ v, e' = .returned (.tuple #[v, .int .i64 (cond (okR b) 0 5)]) ∧ ShW w' w0.heap.size v (cond (okR b) (rAll b).1 ⟨0, 0, 0, [], []⟩)
theorem rread_any (b : List Nat) (n : Nat) (A : Option Addr) (c : Nat) (w0 : World) (hn : b.length = n) (h : Sl w0 w0.heap.size A (b.map byteV)) (h8 : Bytes8 b) (hc : n ≤ c) (hcm : c ≤ maxLen) (n1 : n ≤ 100000) (hA : A = none → c = 0) :
    Calls Tryd.prog 19 #[.slice A n c] w0 fun e' w' => RdA2 w0 b e' w' ∧ Below w0.heap.size w0 w' := by
  have HN := Lib.hid hn
  have H8 := Lib.hid h8
  have HS := Lib.hid h
  have HA := Lib.hid hA
  clear hn h8 h hA
  go_enter Tryd.func19, Tryd.ntmps19
  have HBA : Hid (Below w0.heap.size w0 ((w0.alloc (.cells #[.int .i64 0, .int .i64 0, .int .i64 0, .slice none 0 0, .slice none 0 0] 25)).alloc (.cells #[.slice A n c, .int .i64 0, .bool false] 64))) := Lib.hid (((Below.refl _ w0).alloc (Nat.le_refl _) _).alloc (by simp) _)
  have B0 := (Blk.new_ w0 25 #[.int .i64 0, .int .i64 0, .int .i64 0, .slice none 0 0, .slice none 0 0]).alloc_ (.cells #[.slice A n c, .int .i64 0, .bool false] 64)
  have B1 := Blk.new_ (w0.alloc (.cells #[.int .i64 0, .int .i64 0, .int .i64 0, .slice none 0 0, .slice none 0 0] 25)) 64 #[.slice A n c, .int .i64 0, .bool false]
  have hsA : ((w0.alloc (.cells #[.int .i64 0, .int .i64 0, .int .i64 0, .slice none 0 0, .slice none 0 0] 25)).alloc (.cells #[.slice A n c, .int .i64 0, .bool false] 64)).heap.size = w0.heap.size + 2 := by simp
  have e1 : (w0.alloc (.cells #[.int .i64 0, .int .i64 0, .int .i64 0, .slice none 0 0, .slice none 0 0] 25)).heap.size = w0.heap.size + 1 := by simp
  rw [e1] at B1
  have hP : RpR ((w0.alloc (.cells #[.int .i64 0, .int .i64 0, .int .i64 0, .slice none 0 0, .slice none 0 0] 25)).alloc (.cells #[.slice A n c, .int .i64 0, .bool false] 64)) (w0.heap.size + 1) A n c b (b, false) := ⟨0, B1, Nat.zero_le _, rfl⟩
  go_upto_region 3 with (go_at_call 33; (have TK1 : Calls Tryd.prog 33 #[.pointer (some ⟨w0.heap.size + 1, 0, none⟩), .int .i64 3] _ _ := rnm_any 3 (by decide) (by decide) b n c w0.heap.size (w0.heap.size + 1) A _ _ HN.out (HS.out.below HBA.out) (Nat.le_add_right _ _) H8.out n1 hc hcm HA.out hP); ((with_reducible refine TK1.mono ?_); rintro e' w1 ⟨rfl, hP, hg, hs⟩; (try clear TK1); have hM := RqM.start (w0 := w0) ((nmb 3 (b, false)).1 : Int) HBA.out hsA B0 hg hs; have hP := hP.below ((Below.refl _ w1).alloc (Nat.le_refl _) (.cells #[.int .i64 ((nmb 3 (b, false)).1 : Int), .int .i64 0, .int .i64 0, .slice none 0 0, .slice none 0 0] 25)); have e3 : w1.heap.size = w0.heap.size + 2 := (by omega); clear hg hs B0 B1; obtain ⟨k0, k1, k2, k3, k4⟩ := cell5 hM.sb; have f0 := hM.sb.free 0; have f1 := hM.sb.free 1; have f2 := hM.sb.free 2; have f3 := hM.sb.free 3; have f4 := hM.sb.free 4))
  (try rw [e3])
  go_upto_region 4 with (go_at_call 33; (have TK1 : Calls Tryd.prog 33 #[.pointer (some ⟨w0.heap.size + 1, 0, none⟩), .int .i64 3] _ _ := rnm_any 3 (by decide) (by decide) b n c w0.heap.size (w0.heap.size + 1) A _ _ HN.out (HS.out.below hM.hB) (Nat.le_add_right _ _) H8.out n1 hc hcm HA.out hP); ((with_reducible refine TK1.mono ?_); rintro e' w2 ⟨rfl, hP, hg, hs⟩; (try clear TK1); have hM := hM.call hg; clear hg hs; (try clear k0 k1 k2 k3 k4 f0 f1 f2 f3 f4); obtain ⟨k0, k1, k2, k3, k4⟩ := cell5 hM.sb; have f0 := hM.sb.free 0; have f1 := hM.sb.free 1; have f2 := hM.sb.free 2; have f3 := hM.sb.free 3; have f4 := hM.sb.free 4))
  replace hP := hP.set 1 (.int .i64 ((nmb 3 (nmb 3 (b, false)).2).1 : Int))
  replace hM := hM.set1 (y' := ((nmb 3 (nmb 3 (b, false)).2).1 : Int))
  (try clear k0 k1 k2 k3 k4 f0 f1 f2 f3 f4)
  obtain ⟨k0, k1, k2, k3, k4⟩ := cell5 hM.sb; have f0 := hM.sb.free 0; have f1 := hM.sb.free 1; have f2 := hM.sb.free 2; have f3 := hM.sb.free 3; have f4 := hM.sb.free 4
  go_upto_region 5 with (go_at_call 33; (have TK1 : Calls Tryd.prog 33 #[.pointer (some ⟨w0.heap.size + 1, 0, none⟩), .int .i64 3] _ _ := rnm_any 3 (by decide) (by decide) b n c w0.heap.size (w0.heap.size + 1) A _ _ HN.out (HS.out.below hM.hB) (Nat.le_add_right _ _) H8.out n1 hc hcm HA.out hP); ((with_reducible refine TK1.mono ?_); rintro e' w2 ⟨rfl, hP, hg, hs⟩; (try clear TK1); have hM := hM.call hg; clear hg hs; (try clear k0 k1 k2 k3 k4 f0 f1 f2 f3 f4); obtain ⟨k0, k1, k2, k3, k4⟩ := cell5 hM.sb; have f0 := hM.sb.free 0; have f1 := hM.sb.free 1; have f2 := hM.sb.free 2; have f3 := hM.sb.free 3; have f4 := hM.sb.free 4))
  replace hP := hP.set 2 (.int .i64 ((nmb 3 (nmb 3 (nmb 3 (b, false)).2).2).1 : Int))
  replace hM := hM.set2 (z' := ((nmb 3 (nmb 3 (nmb 3 (b, false)).2).2).1 : Int))
  (try clear k0 k1 k2 k3 k4 f0 f1 f2 f3 f4)
  obtain ⟨k0, k1, k2, k3, k4⟩ := cell5 hM.sb; have f0 := hM.sb.free 0; have f1 := hM.sb.free 1; have f2 := hM.sb.free 2; have f3 := hM.sb.free 3; have f4 := hM.sb.free 4
  obtain ⟨F, hF⟩ : ∃ F, rAll b = F := ⟨_, rfl⟩
  have hle := nmb1_lt (b8_rest hP H8.out)
  have hdj : Dj F (nmb 1 (nmb 3 (nmb 3 (nmb 3 (b, false)).2).2).2).2 (rAll b) := Or.inr hF
  rw [conB_all b] at hdj
  have HF := Lib.hid hF
  clear hF
  go_upto_region 6 with (go_at_call 33; (have TK1 : Calls Tryd.prog 33 #[.pointer (some ⟨w0.heap.size + 1, 0, none⟩), .int .i64 1] _ _ := rnm_any 1 (by decide) (by decide) b n c w0.heap.size (w0.heap.size + 1) A _ _ HN.out (HS.out.below hM.hB) (Nat.le_add_right _ _) H8.out n1 hc hcm HA.out hP); ((with_reducible refine TK1.mono ?_); rintro e' w4 ⟨rfl, hP, hg, hs⟩; (try clear TK1); have hM := hM.call hg; clear hg hs; (try clear k0 k1 k2 k3 k4 f0 f1 f2 f3 f4); obtain ⟨k0, k1, k2, k3, k4⟩ := cell5 hM.sb; have f0 := hM.sb.free 0; have f1 := hM.sb.free 1; have f2 := hM.sb.free 2; have f3 := hM.sb.free 3; have f4 := hM.sb.free 4))
  obtain ⟨N, hNN⟩ : ∃ N, (nmb 1 (nmb 3 (nmb 3 (nmb 3 (b, false)).2).2).2).1 = N := ⟨_, rfl⟩
  rw [hNN] at hle hdj ⊢
  clear hNN
  obtain ⟨ws, hws⟩ : ∃ V : World, V = w4 := ⟨_, rfl⟩
  subst hws
  clear k0 k1 k2 k3 k4 f0 f1 f2 f3 f4 hsA e3 e1
  generalize ((nmb 3 (b, false)).1 : Int) = x1 at hM hdj
  generalize ((nmb 3 (nmb 3 (b, false)).2).1 : Int) = x2 at hM hdj
  generalize ((nmb 3 (nmb 3 (nmb 3 (b, false)).2).2).1 : Int) = x3 at hM hdj
  generalize (nmb 1 (nmb 3 (nmb 3 (nmb 3 (b, false)).2).2).2).2 = r0 at hP hdj
  have hQ0 := And.intro hM (And.intro hP hdj)
  have HQ0 := Lib.hid hQ0
  clear hM hP hdj hQ0
  go_upto_block 0 with fail
  go_cut [] (fun wx => ∃ (s : Sf) (vb vn : Value) (es : List (List Value)) (r : Rr), RqM w0 wx s vb vn es ∧ RpR wx (w0.heap.size + 1) A n c b r ∧ Hid (s.bs.length ≤ 255 ∧ s.ts = [] ∧ SzI s) ∧ Hid (Dj F r (conB 0 s r)))
  case first =>
    go_wp2_with fail
    go_loopw [7] (fun s7 wr => ∃ (k : Nat) (s : Sf) (vb vn : Value) (es : List (List Value)) (r : Rr), k ≤ N ∧ s7 = .int .i64 (k : Int) ∧ RqM w0 wr s vb vn es ∧ RpR wr (w0.heap.size + 1) A n c b r ∧ s.bs.length = k ∧ Hid (s.ts = []) ∧ Hid (SzI s) ∧ Hid (Dj F r (conB (N - k) s r))) (fun s7 _ => N - (intOf s7).toNat)
    case atStart => exact ⟨0, ⟨x1, x2, x3, [], []⟩, _, _, _, r0, Nat.zero_le _, rfl, HQ0.out.1, HQ0.out.2.1, rfl, Lib.hid rfl, Lib.hid ⟨fun b hb => by simp at hb, fun b hb => by simp at hb⟩, Lib.hid HQ0.out.2.2⟩
    case round =>
      clear HQ0
      obtain ⟨k, s, vb, vn, es, r, hk, rfl, hM, hP, hbl, HT, HZ, HDJ⟩ := hrel
      have KF := hP.flag
      obtain ⟨rl, rb⟩ := r
      change wr.cell? ⟨w0.heap.size + 1, 2, none⟩ = some (.bool rb) at KF
      by_cases hlt : k < N
      · have z0 : (k : Int) < (N : Int) := by omega
        cases rb
        · obtain ⟨Ab, cb, rfl, -, -⟩ := own_shape hM.bk
          rw [hbl] at hM
          have hle2 := hle
          have HM := Lib.hid hbl
          clear hbl
          obtain ⟨k0, k1, k2, k3, k4⟩ := cell5 hM.sb; have f0 := hM.sb.free 0; have f1 := hM.sb.free 1; have f2 := hM.sb.free 2; have f3 := hM.sb.free 3; have f4 := hM.sb.free 4
          go_upto_region 11 with (first | (go_at_call 33; (have TK1 : Calls Tryd.prog 33 #[.pointer (some ⟨w0.heap.size + 1, 0, none⟩), .int .i64 3] _ _ := rnm_any 3 (by decide) (by decide) b n c w0.heap.size (w0.heap.size + 1) A _ _ HN.out (HS.out.below hM.hB) (Nat.le_add_right _ _) H8.out n1 hc hcm HA.out hP); ((with_reducible refine TK1.mono ?_); rintro e' w5 ⟨rfl, hP, hg, hs⟩; (try clear TK1); have hM5 := hM.call hg; have hbx : Below w5.heap.size w5 (w5.alloc (.cells #[.int .i64 ((nmb 3 (rl, false)).1 : Int), .string ⟨#[]⟩] 48)) := (Below.refl _ _).alloc (Nat.le_refl _) _; have BX := Blk.new_ w5 48 #[.int .i64 ((nmb 3 (rl, false)).1 : Int), .string ⟨#[]⟩]; have hM := hM5.below hbx; have hP := hP.below hbx; clear hg hs; (try clear k0 k1 k2 k3 k4 f0 f1 f2 f3 f4); obtain ⟨k0, k1, k2, k3, k4⟩ := cell5 hM.sb; have f0 := hM.sb.free 0; have f1 := hM.sb.free 1; have f2 := hM.sb.free 2; have f3 := hM.sb.free 3; have f4 := hM.sb.free 4)) | (go_at_call 34; (have TK1 : Calls Tryd.prog 34 #[.pointer (some ⟨w0.heap.size + 1, 0, none⟩)] _ _ := rtx_any b n c w0.heap.size (w0.heap.size + 1) A _ _ HN.out (HS.out.below hM.hB) (Nat.le_add_right _ _) H8.out n1 hc hcm HA.out hP); have hPp := hP; ((with_reducible refine TK1.mono ?_); rintro e' w6 ⟨rfl, hP, hg, hs⟩; (try clear TK1); have hsz := txt_sz (r := (nmb 3 (rl, false)).2) (by have h := b8_rest hPp H8.out; exact h); have hg5 := hM5.size; have hgt := gtr (grown_of (some (w0.heap.size + 1)) hbx) hg; have BX := BX.grownR hg (fun e => by injection e; omega); have hM := hM5.call hgt; have x1f := BX.free 1; have x1c := BX.cell_ 1; simp at x1c; clear hg hs hbx; (try clear k0 k1 k2 k3 k4 f0 f1 f2 f3 f4); obtain ⟨k0, k1, k2, k3, k4⟩ := cell5 hM.sb; have f0 := hM.sb.free 0; have f1 := hM.sb.free 1; have f2 := hM.sb.free 2; have f3 := hM.sb.free 3; have f4 := hM.sb.free 4)))
          have hgt2 := gtr2 hgt (set1_grown w6 w5.heap.size 1 (.string (txt (nmb 3 (rl, false)).2).1)) (fun j e => by cases e; exact Nat.le_refl _)
          have hMz := hM5.call hgt2
          have hPz := hP.row (set1_grown w6 w5.heap.size 1 (.string (txt (nmb 3 (rl, false)).2).1)) (fun e => by injection e; omega)
          have BXz := BX.set_ 1 (.string (txt (nmb 3 (rl, false)).2).1)
          simp at BXz
          have hgb : w5.heap.size < (w6.setCell ⟨w5.heap.size, 1, none⟩ (.string (txt (nmb 3 (rl, false)).2).1)).heap.size := BXz.lt
          obtain ⟨gb, hgbe⟩ : ∃ g, w5.heap.size = g := ⟨_, rfl⟩
          obtain ⟨wz, hwz⟩ : ∃ V : World, V = w6.setCell ⟨w5.heap.size, 1, none⟩ (.string (txt (nmb 3 (rl, false)).2).1) := ⟨_, rfl⟩
          rw [← hwz] at hMz hPz BXz hgb ⊢
          rw [hgbe] at BXz ⊢
          clear hwz hgt2 hgt hM5 hM hP BX hgbe hg5 x1f x1c
          (try clear k0 k1 k2 k3 k4 f0 f1 f2 f3 f4)
          obtain ⟨k0, k1, k2, k3, k4⟩ := cell5 hMz.sb; have f0 := hMz.sb.free 0; have f1 := hMz.sb.free 1; have f2 := hMz.sb.free 2; have f3 := hMz.sb.free 3; have f4 := hMz.sb.free 4
          have c0 := BXz.cell_ 0
          have c1 := BXz.cell_ 1
          simp at c0 c1
          have hMa := hMz.below ((Below.refl _ _).alloc (Nat.le_refl _) (.cells #[.int .i64 ((nmb 3 (rl, false)).1 : Int), .string (txt (nmb 3 (rl, false)).2).1] 48))
          have hPa := hPz.below ((Below.refl _ _).alloc (Nat.le_refl _) (.cells #[.int .i64 ((nmb 3 (rl, false)).1 : Int), .string (txt (nmb 3 (rl, false)).2).1] 48))
          have hon := hMa.bk
          unfold BksW at hon
          rw [HM.out] at hon
          go_wp2_with (at_builtin; obtain ⟨ti0, hi, hz0, hz1, hz2⟩ := info_parts info_clBk; refine wpList_app _ rfl (.tmp 49) (.tmp 51) _ rfl (w0.heap.size + 3) 48 ti0 _ 2 24 Tryd.underlying22 hi hz0 hz1 hz2 rfl (by decide) _ k (s.bs.map bkC).flatten rfl hon _ 1 _ (bkC (rBk1 (rl, false)).1) rfl (rd_newB _ (rBk1 (rl, false)).1 rfl) (bkC_one _) (by unfold maxLen; omega) (by omega) hMa.size ?_; intro v7 w7 ho' hg' hv'; clear hi hz0 hz1 hz2 hv'; (have hM3 := hMa.book (rBk1 (rl, false)).1 HM.out ho' hg'); (have BB := hMa.sb.grownR hg' (fun e => by have := hon.lt _ e; omega)); (have f3 := BB.free 3); (have k3 := (cell5 BB).2.2.2.1); clear BB; (have hP3 := (hPa.row hg' (fun e => by have := hon.lt _ e; omega)).set 3 v7); obtain ⟨A7, c7, rfl, -, -⟩ := own_shape ho'; clear hon ho' hg' hMz)
          go_roundw
          case rel => exact ⟨k + 1, { s with bs := s.bs ++ [(rBk1 (rl, false)).1] }, _, _, _, (rBk1 (rl, false)).2, by omega, by go_num, hM3, hP3, by simp [HM.out], HT, Lib.hid (HZ.out.book hsz), Lib.hid ((HDJ.out).step (fun h => by cases h) (by rw [show N - k = (N - (k + 1)) + 1 by omega]; rfl))⟩
          case measure => simp [intOf]; omega
        · go_wp2_with fail
          go_meet
          exact ⟨s, vb, vn, es, (rl, true), hM, hP, Lib.hid ⟨by omega, HT.out, HZ.out⟩, Lib.hid (HDJ.out.bad rfl (conB_bad rfl))⟩
      · have z0 : ¬ (k : Int) < (N : Int) := by omega
        go_wp2_with fail
        go_meet
        exact ⟨s, vb, vn, es, (rl, rb), hM, hP, Lib.hid ⟨by omega, HT.out, HZ.out⟩, Lib.hid (by have h := HDJ.out; rw [show N - k = 0 by omega] at h; exact h)⟩
  case rest =>
    clear HQ0
    obtain ⟨s, vb, vn, es, r, hM, hP, HSZ, HDJ⟩ := hcut
    clear hle
    have hle := nmb1_lt (b8_rest hP H8.out)
    go_upto_region 13 with (go_at_call 33; (have TK1 : Calls Tryd.prog 33 #[.pointer (some ⟨w0.heap.size + 1, 0, none⟩), .int .i64 1] _ _ := rnm_any 1 (by decide) (by decide) b n c w0.heap.size (w0.heap.size + 1) A _ _ HN.out (HS.out.below hM.hB) (Nat.le_add_right _ _) H8.out n1 hc hcm HA.out hP); ((with_reducible refine TK1.mono ?_); rintro e' w4 ⟨rfl, hP, hg, hs⟩; (try clear TK1); have hM := hM.call hg; clear hg hs))
    obtain ⟨N, hNN⟩ : ∃ N, (nmb 1 r).1 = N := ⟨_, rfl⟩
    have HDJ2 : Hid (Dj F (nmb 1 r).2 (conN N s (nmb 1 r).2)) := Lib.hid (HDJ.out.step (fun h => nmb_bad h) (by rw [conB_0, hNN]))
    rw [hNN] at hle ⊢
    clear hNN HDJ
    obtain ⟨r0, hr0⟩ : ∃ x, (nmb 1 r).2 = x := ⟨_, rfl⟩
    rw [hr0] at hP HDJ2
    clear hr0
    have HQ0 := Lib.hid (And.intro hM hP)
    clear hM hP
    go_upto_block 2 with fail
    go_cut [] (fun wx => ∃ (s : Sf) (vb vn : Value) (es : List (List Value)) (r : Rr), RqM w0 wx s vb vn es ∧ RpR wx (w0.heap.size + 1) A n c b r ∧ Hid (s.bs.length ≤ 255 ∧ s.ts.length ≤ 255 ∧ SzI s) ∧ Hid (Dj F r (s, r)))
    case first =>
      go_wp2_with fail
      go_loopw [9] (fun s9 wr => ∃ (k : Nat) (s : Sf) (vb vn : Value) (es : List (List Value)) (r : Rr), k ≤ N ∧ s9 = .int .i64 (k : Int) ∧ RqM w0 wr s vb vn es ∧ RpR wr (w0.heap.size + 1) A n c b r ∧ Hid (s.bs.length ≤ 255) ∧ s.ts.length = k ∧ Hid (SzI s) ∧ Hid (Dj F r (conN (N - k) s r))) (fun s9 _ => N - (intOf s9).toNat)
      case atStart => exact ⟨0, s, _, _, _, r0, Nat.zero_le _, rfl, HQ0.out.1, HQ0.out.2, Lib.hid HSZ.out.1, by rw [HSZ.out.2.1]; rfl, Lib.hid HSZ.out.2.2, HDJ2⟩
      case round =>
        clear HQ0 HSZ HDJ2
        obtain ⟨k, s, vb, vn, es, r, hk, rfl, hM, hP, HBL, htl, HZ, HDJ⟩ := hrel
        have KF := hP.flag
        obtain ⟨rl, rb⟩ := r
        change wr.cell? ⟨w0.heap.size + 1, 2, none⟩ = some (.bool rb) at KF
        by_cases hlt : k < N
        · have z0 : (k : Int) < (N : Int) := by omega
          cases rb
          · go_upto_region 17 with (go_at_call 33; (have TK1 : Calls Tryd.prog 33 #[.pointer (some ⟨w0.heap.size + 1, 0, none⟩), .int .i64 3] _ _ := rnm_any 3 (by decide) (by decide) b n c w0.heap.size (w0.heap.size + 1) A _ _ HN.out (HS.out.below hM.hB) (Nat.le_add_right _ _) H8.out n1 hc hcm HA.out hP); ((with_reducible refine TK1.mono ?_); rintro e' w5 ⟨rfl, hP, hg, hs⟩; (try clear TK1); have hMg := hM.call hg; have hg5 := hMg.size; have hbx : Below w5.heap.size w5 (w5.alloc (.cells #[.int .i64 ((nmb 3 (rl, false)).1 : Int), .int .i64 0, .string ⟨#[]⟩, .slice none 0 0, .slice none 0 0] 52)) := (Below.refl _ _).alloc (Nat.le_refl _) _; have BX := Blk.new_ w5 52 #[.int .i64 ((nmb 3 (rl, false)).1 : Int), .int .i64 0, .string ⟨#[]⟩, .slice none 0 0, .slice none 0 0]; have hgr : w5.grownBy (w5.alloc (.cells #[.int .i64 ((nmb 3 (rl, false)).1 : Int), .int .i64 0, .string ⟨#[]⟩, .slice none 0 0, .slice none 0 0] 52)) (some (w0.heap.size + 1)) := grown_of _ hbx; have hM := hMg.below hbx; have hP := hP.below hbx; clear hg hs hbx; have x1f := BX.free 1; have x1c := BX.cell_ 1; simp at x1c))
            go_upto_region 18 with (go_at_call 33; (have TK1 : Calls Tryd.prog 33 #[.pointer (some ⟨w0.heap.size + 1, 0, none⟩), .int .i64 3] _ _ := rnm_any 3 (by decide) (by decide) b n c w0.heap.size (w0.heap.size + 1) A _ _ HN.out (HS.out.below hM.hB) (Nat.le_add_right _ _) H8.out n1 hc hcm HA.out hP); ((with_reducible refine TK1.mono ?_); rintro e' w6 ⟨rfl, hP, hg, hs⟩; (try clear TK1); have hgr := gtr hgr hg; have hM := hMg.call hgr; have BX := BX.grownR hg (fun e => by injection e; omega); clear hg hs; (try clear x1f x1c); have x1f := BX.free 1; have x1c := BX.cell_ 1; simp at x1c))
            replace hgr := gtr2 hgr (set1_grown _ w5.heap.size 1 (.int .i64 ((nmb 3 (nmb 3 (rl, false)).2).1 : Int))) (fun k e => by cases e; exact Nat.le_refl _)
            replace hM := hMg.call hgr
            replace hP := hP.row (set1_grown _ w5.heap.size 1 (.int .i64 ((nmb 3 (nmb 3 (rl, false)).2).1 : Int))) (fun e => by injection e; omega)
            replace BX := BX.set_ 1 (.int .i64 ((nmb 3 (nmb 3 (rl, false)).2).1 : Int))
            clear x1f x1c
            simp at BX
            go_upto_region 19 with (go_at_call 34; (have TK1 : Calls Tryd.prog 34 #[.pointer (some ⟨w0.heap.size + 1, 0, none⟩)] _ _ := rtx_any b n c w0.heap.size (w0.heap.size + 1) A _ _ HN.out (HS.out.below hM.hB) (Nat.le_add_right _ _) H8.out n1 hc hcm HA.out hP); have hPp := hP; ((with_reducible refine TK1.mono ?_); rintro e' w7 ⟨rfl, hP, hg, hs⟩; (try clear TK1); have hsz := txt_sz (r := (nmb 3 (nmb 3 (rl, false)).2).2) (b8_rest hPp H8.out); have hgr := gtr hgr hg; have hM := hMg.call hgr; have BX := BX.grownR hg (fun e => by injection e; omega); clear hg hs; (try clear x1f x1c); have x1f := BX.free 2; have x1c := BX.cell_ 2; simp at x1c))
            replace hgr := gtr2 hgr (set1_grown _ w5.heap.size 2 (.string (txt (nmb 3 (nmb 3 (rl, false)).2).2).1)) (fun k e => by cases e; exact Nat.le_refl _)
            replace hM := hMg.call hgr
            replace hP := hP.row (set1_grown _ w5.heap.size 2 (.string (txt (nmb 3 (nmb 3 (rl, false)).2).2).1)) (fun e => by injection e; omega)
            replace BX := BX.set_ 2 (.string (txt (nmb 3 (nmb 3 (rl, false)).2).2).1)
            clear x1f x1c
            simp at BX
            have hN : NqM _ w5.heap.size (rH1 (rl, false)).1 (.slice none 0 0) (.slice none 0 0) := NqM.fresh BX
            obtain ⟨gn, hgn⟩ : ∃ g, w5.heap.size = g := ⟨_, rfl⟩
            rw [hgn] at hN hg5 hP hgr hM ⊢
            clear BX
            have hle2 : (nmb 1 (rH1 (rl, false)).2).1 ≤ 255 := nmb1_lt (b8_rest hP H8.out)
            go_upto_region 20 with (go_at_call 33; (have TK1 : Calls Tryd.prog 33 #[.pointer (some ⟨w0.heap.size + 1, 0, none⟩), .int .i64 1] _ _ := rnm_any 1 (by decide) (by decide) b n c w0.heap.size (w0.heap.size + 1) A _ _ HN.out (HS.out.below hM.hB) (Nat.le_add_right _ _) H8.out n1 hc hcm HA.out hP); ((with_reducible refine TK1.mono ?_); rintro e' w8 ⟨rfl, hP, hg, hs⟩; (try clear TK1); have hgr := gtr hgr hg; have hM := hMg.call hgr; have hN := hN.call hg (by omega); clear hg hs))
            obtain ⟨M, hMM⟩ : ∃ N, (nmb 1 (rH1 (rl, false)).2).1 = N := ⟨_, rfl⟩
            have HDT : Hid (Dj F (nmb 1 (rH1 (rl, false)).2).2 (conT (N - (k + 1)) s (rH1 (rl, false)).1 M (nmb 1 (rH1 (rl, false)).2).2)) := Lib.hid ((HDJ.out).step (fun h => by cases h) (by rw [show N - k = (N - (k + 1)) + 1 by omega, conN_1, hMM]))
            change (nmb 1 (txt (nmb 3 (nmb 3 (rl, false)).2).2).2).1 = M at hMM
            rw [hMM]
            change (nmb 1 (rH1 (rl, false)).2).1 = M at hMM
            rw [hMM] at hle2
            clear hMM HDJ
            obtain ⟨r1, hr1⟩ : ∃ x, (nmb 1 (rH1 (rl, false)).2).2 = x := ⟨_, rfl⟩
            rw [hr1] at HDT
            replace hP : RpR w8 (w0.heap.size + 1) A n c b r1 := hr1 ▸ hP
            have HSN : Hid (SzN (rH1 (rl, false)).1 ∧ (rH1 (rl, false)).1.tg.length = 0 ∧ (rH1 (rl, false)).1.sh = []) := Lib.hid ⟨⟨hsz, ⟨fun t ht => (by cases ht), Nat.zero_le _⟩, Nat.zero_le _⟩, rfl, rfl⟩
            obtain ⟨h0, hh0⟩ : ∃ x, (rH1 (rl, false)).1 = x := ⟨_, rfl⟩
            rw [hh0] at HSN HDT hN
            clear hr1 hh0 hsz
            obtain ⟨wg, hwg⟩ : ∃ V : World, V = w5 := ⟨_, rfl⟩
            rw [← hwg] at hMg hgr hgn
            clear hwg
            have HQT := Lib.hid (And.intro hN (And.intro hP hgr))
            clear hN hP hgr hM KF
            go_upto_block 4 with fail
            go_cut [] (fun wx => ∃ (h : Nt) (vt vs : Value) (r : Rr), NqM wx gn h vt vs ∧ RpR wx (w0.heap.size + 1) A n c b r ∧ wg.grownBy wx (some (w0.heap.size + 1)) ∧ Hid (SzN h ∧ h.sh = []) ∧ Hid (Dj F r (conT (N - (k + 1)) s h 0 r)))
            case first =>
              go_wp2_with fail
              go_loopw [12] (fun s12 wr => ∃ (q : Nat) (h : Nt) (vt vs : Value) (r : Rr), q ≤ M ∧ s12 = .int .i64 (q : Int) ∧ NqM wr gn h vt vs ∧ RpR wr (w0.heap.size + 1) A n c b r ∧ wg.grownBy wr (some (w0.heap.size + 1)) ∧ h.tg.length = q ∧ Hid (SzN h ∧ h.sh = []) ∧ Hid (Dj F r (conT (N - (k + 1)) s h (M - q) r))) (fun s12 _ => M - (intOf s12).toNat)
              case atStart => exact ⟨0, h0, _, _, r1, Nat.zero_le _, rfl, HQT.out.1, HQT.out.2.1, HQT.out.2.2, HSN.out.2.1, Lib.hid ⟨HSN.out.1, HSN.out.2.2⟩, HDT⟩
              case round =>
                clear HQT HSN HDT
                obtain ⟨q, h, vt, vs, r, hq, rfl, hN, hP, hgr, htg, HSN, HDJ⟩ := hrel
                have KF := hP.flag
                obtain ⟨rl, rb⟩ := r
                change wr.cell? ⟨w0.heap.size + 1, 2, none⟩ = some (.bool rb) at KF
                by_cases hlq : q < M
                · have z1 : (q : Int) < (M : Int) := by omega
                  cases rb
                  · obtain ⟨At, ct, rfl, -, -⟩ := own_shape hN.tg
                    rw [htg] at hN
                    have HM := Lib.hid htg
                    clear htg
                    have hq2 : q ≤ 255 := by omega
                    go_upto_region 23 with fail
                    replace hN := hN.below (drew_below (Below.refl _ wr))
                    replace hP := hP.below (drew_below (Below.refl _ wr))
                    replace hgr := gtr hgr (grown_of _ (drew_below (Below.refl _ wr)))
                    obtain ⟨b0, b1, b2, b3, b4⟩ := cell5 hN.nb
                    have e0 := hN.nb.free 0
                    have e1 := hN.nb.free 1
                    have e2 := hN.nb.free 2
                    have e3 := hN.nb.free 3
                    have e4 := hN.nb.free 4
                    refine wp_region_noPanic ?_
                    refine wp_region_held_drew (S := (fun _ => True)) (by kernel_rfl) ?_ (fun hHeld => ?_)
                    · exact trivial
                    refine tk 0 ?_; try simp only [Act.put, pz1, pz2, pz3]
                    refine tk 2 ?_; try simp only [Act.put, pz1, pz2, pz3]
                    refine wpAnyH_ready (rs := [1, 3]) (by kernel_rfl) (by simp) ?_
                    refine (AllReadyH.cons (o := ⟨some 92, .load 49 (.tmp 91), 49, "ref.go:97", #[⟨0, .data⟩], none⟩) rfl (fun K hK => ?_) (AllReadyH.cons (o := ⟨some 94, .call { callee := .value (.func 34), args := #[.tmp 93], argTypes := #[62] }, 9, "ref.go:97", #[⟨2, .data⟩], none⟩) rfl (fun K hK => ?_) AllReadyH.nil))
                    · go_simp
                      refine hK.out _ _ ?_ (fun hNew => ?_)
                      · exact trivial
                      clear hK K hHeld
                      have hHeld := hNew
                      clear hNew
                      try simp only [Act.put, pz1, pz2, pz3]
                      refine wpAnyH_ready (rs := [3]) (by kernel_rfl) (by simp) ?_
                      refine AllReadyH.cons (o := ⟨some 94, .call { callee := .value (.func 34), args := #[.tmp 93], argTypes := #[62] }, 9, "ref.go:97", #[⟨2, .data⟩], none⟩) rfl (fun K hK => ?_) AllReadyH.nil
                      go_simp
                      (go_at_call 34; (have TK1 : Calls Tryd.prog 34 #[.pointer (some ⟨w0.heap.size + 1, 0, none⟩)] _ _ := rtx_any b n c w0.heap.size (w0.heap.size + 1) A _ _ HN.out (HS.out.below (hMg.call hgr).hB) (Nat.le_add_right _ _) H8.out n1 hc hcm HA.out hP); have hPp := hP; ((with_reducible refine TK1.mono ?_); rintro e' w2 ⟨rfl, hP, hg, hs⟩; (try clear TK1); have hsz := txt_sz (r := (rl, false)) (b8_rest hPp H8.out); have hgr := gtr hgr hg; have hN := hN.call hg (by omega); clear hg hs; (try clear b0 b1 b2 b3 b4 e0 e1 e2 e3 e4); obtain ⟨b0, b1, b2, b3, b4⟩ := cell5 hN.nb; have e0 := hN.nb.free 0; have e1 := hN.nb.free 1; have e2 := hN.nb.free 2; have e3 := hN.nb.free 3; have e4 := hN.nb.free 4; have ba := (cell5 (hN.nb.alloc_ (.cells #[.string (txt (rl, false)).1] 9))).2.2.2.1))
                      go_wp2_with fail
                      refine hK.out _ _ ?_ (fun hNew => ?_)
                      · exact trivial
                      clear hK K hHeld
                      have hHeld := hNew
                      clear hNew
                      try simp only [Act.put, pz1, pz2, pz3]
                      refine wpAnyH_ready (rs := [4]) (by kernel_rfl) (by simp) ?_
                      refine AllReadyH.cons (o := ⟨some 95, .buildSlice 49 1 #[(0, .tmp 94)], 49, "ref.go:97", #[⟨3, .data⟩], none⟩) rfl (fun K hK => ?_) AllReadyH.nil
                      go_simp
                      refine hK.out _ _ ?_ (fun hNew => ?_)
                      · exact trivial
                      clear hK K hHeld
                      have hHeld := hNew
                      clear hNew
                      try simp only [Act.put, pz1, pz2, pz3]
                      refine wpAnyH_ready (rs := [5]) (by kernel_rfl) (by simp) ?_
                      refine AllReadyH.cons (o := ⟨some 96, .call { callee := .builtin .append, args := #[.tmp 92, .tmp 95], argTypes := #[49, 49] }, 49, "ref.go:97", #[⟨1, .data⟩, ⟨4, .data⟩, ⟨3, .chain⟩], none⟩) rfl (fun K hK => ?_) AllReadyH.nil
                      obtain ⟨ti0, hi, hz0, hz1, hz2⟩ := info_parts info_clStr
                      have hNa := hN.below ((Below.refl _ _).alloc (Nat.le_refl _) (.cells #[.string (txt (rl, false)).1] 9))
                      have hPa := hP.below ((Below.refl _ _).alloc (Nat.le_refl _) (.cells #[.string (txt (rl, false)).1] 9))
                      have hga := gtr hgr (grown_of _ ((Below.refl _ _).alloc (Nat.le_refl _) (.cells #[.string (txt (rl, false)).1] 9)))
                      have hon := hNa.tg
                      rw [HM.out] at hon
                      refine step_app _ rfl (.tmp 92) (.tmp 95) _ rfl (gn + 1) 9 ti0 _ 1 16 Tryd.underlying49 hi hz0 hz1 hz2 rfl (by decide) _ q (h.tg.map strV) rfl hon _ 1 _ [strV (txt (rl, false)).1] rfl (rd_new1 _ _ _ rfl) (oneS _) (by unfold maxLen; omega) (by omega) hNa.nb.lt ?_
                      intro v7 w7 ho' hg' hv'
                      clear hi hz0 hz1 hz2 hv'
                      have hN3 := hNa.tag (txt (rl, false)).1 HM.out ho' hg'
                      have hP3 := (hPa.row hg' (fun e => by have := hon.lt _ e; omega)).row (set1_grown w7 gn 3 v7) (fun e => by injection e; omega)
                      have hg3 := gtr2 (gtr2 hga hg' (fun j e => by have := hon.lt _ e; omega)) (set1_grown w7 gn 3 v7) (fun j e => by cases e; omega)
                      have BB := hNa.nb.grownR hg' (fun e => by have := hon.lt _ e; omega)
                      have e3 := BB.free 3
                      have b3 := (cell5 BB).2.2.2.1
                      clear BB
                      obtain ⟨A7, c7, rfl, -, -⟩ := own_shape ho'
                      clear hon ho' hg' hN hNa hP hPa hga
                      refine hK.out _ _ ?_ (fun hNew => ?_)
                      · exact trivial
                      clear hK K hHeld
                      have hHeld := hNew
                      clear hNew
                      try simp only [Act.put, pz1, pz2, pz3]
                      refine tk 6 ?_; try simp only [Act.put, pz1, pz2, pz3]
                      refine wpAnyH_ready (rs := [7]) (by kernel_rfl) (by simp) ?_
                      refine AllReadyH.cons (o := ⟨none, .store 49 (.tmp 97) (.tmp 96), 0, "ref.go:97", #[⟨6, .data⟩, ⟨5, .data⟩, ⟨5, .chain⟩, ⟨0, .phase⟩, ⟨1, .phase⟩, ⟨2, .phase⟩, ⟨3, .phase⟩, ⟨4, .phase⟩, ⟨5, .phase⟩], none⟩) rfl (fun K hK => ?_) AllReadyH.nil
                      go_simp
                      refine hK.out _ _ ?_ (fun hNew => ?_)
                      · exact trivial
                      clear hK K hHeld
                      have hHeld := hNew
                      clear hNew
                      try simp only [Act.put, pz1, pz2, pz3]
                      refine wpAnyH_done (by kernel_rfl) ?_ _
                      refine NoPanic.normal ?_
                      clear hHeld
                      go_wp2_with fail
                      go_roundw
                      case rel => exact ⟨q + 1, { h with tg := h.tg ++ [(txt (rl, false)).1] }, _, _, (txt (rl, false)).2, by omega, by go_num, hN3, hP3, hg3, by simp [HM.out], Lib.hid ⟨⟨HSN.out.1.1, ⟨fun t ht => (by rcases List.mem_append.1 ht with ht | ht; exact HSN.out.1.2.1.1 t ht; obtain rfl := List.mem_singleton.1 ht; exact hsz), by simp [HM.out]; omega⟩, HSN.out.1.2.2⟩, HSN.out.2⟩, Lib.hid ((HDJ.out).step (fun h => by cases h) (by rw [show M - q = (M - (q + 1)) + 1 by omega]; rfl))⟩
                      case measure => simp [intOf]; omega
                    · go_simp
                      (go_at_call 34; (have TK1 : Calls Tryd.prog 34 #[.pointer (some ⟨w0.heap.size + 1, 0, none⟩)] _ _ := rtx_any b n c w0.heap.size (w0.heap.size + 1) A _ _ HN.out (HS.out.below (hMg.call hgr).hB) (Nat.le_add_right _ _) H8.out n1 hc hcm HA.out hP); have hPp := hP; ((with_reducible refine TK1.mono ?_); rintro e' w2 ⟨rfl, hP, hg, hs⟩; (try clear TK1); have hsz := txt_sz (r := (rl, false)) (b8_rest hPp H8.out); have hgr := gtr hgr hg; have hN := hN.call hg (by omega); clear hg hs; (try clear b0 b1 b2 b3 b4 e0 e1 e2 e3 e4); obtain ⟨b0, b1, b2, b3, b4⟩ := cell5 hN.nb; have e0 := hN.nb.free 0; have e1 := hN.nb.free 1; have e2 := hN.nb.free 2; have e3 := hN.nb.free 3; have e4 := hN.nb.free 4; have ba := (cell5 (hN.nb.alloc_ (.cells #[.string (txt (rl, false)).1] 9))).2.2.2.1))
                      go_wp2_with fail
                      refine hK.out _ _ ?_ (fun hNew => ?_)
                      · exact trivial
                      clear hK K hHeld
                      have hHeld := hNew
                      clear hNew
                      try simp only [Act.put, pz1, pz2, pz3]
                      refine wpAnyH_ready (rs := [1, 4]) (by kernel_rfl) (by simp) ?_
                      refine (AllReadyH.cons (o := ⟨some 92, .load 49 (.tmp 91), 49, "ref.go:97", #[⟨0, .data⟩], none⟩) rfl (fun K hK => ?_) (AllReadyH.cons (o := ⟨some 95, .buildSlice 49 1 #[(0, .tmp 94)], 49, "ref.go:97", #[⟨3, .data⟩], none⟩) rfl (fun K hK => ?_) AllReadyH.nil))
                      · go_simp
                        refine hK.out _ _ ?_ (fun hNew => ?_)
                        · exact trivial
                        clear hK K hHeld
                        have hHeld := hNew
                        clear hNew
                        try simp only [Act.put, pz1, pz2, pz3]
                        refine wpAnyH_ready (rs := [4]) (by kernel_rfl) (by simp) ?_
                        refine AllReadyH.cons (o := ⟨some 95, .buildSlice 49 1 #[(0, .tmp 94)], 49, "ref.go:97", #[⟨3, .data⟩], none⟩) rfl (fun K hK => ?_) AllReadyH.nil
                        go_simp
                        refine hK.out _ _ ?_ (fun hNew => ?_)
                        · exact trivial
                        clear hK K hHeld
                        have hHeld := hNew
                        clear hNew
                        try simp only [Act.put, pz1, pz2, pz3]
                        refine wpAnyH_ready (rs := [5]) (by kernel_rfl) (by simp) ?_
                        refine AllReadyH.cons (o := ⟨some 96, .call { callee := .builtin .append, args := #[.tmp 92, .tmp 95], argTypes := #[49, 49] }, 49, "ref.go:97", #[⟨1, .data⟩, ⟨4, .data⟩, ⟨3, .chain⟩], none⟩) rfl (fun K hK => ?_) AllReadyH.nil
                        obtain ⟨ti0, hi, hz0, hz1, hz2⟩ := info_parts info_clStr
                        have hNa := hN.below ((Below.refl _ _).alloc (Nat.le_refl _) (.cells #[.string (txt (rl, false)).1] 9))
                        have hPa := hP.below ((Below.refl _ _).alloc (Nat.le_refl _) (.cells #[.string (txt (rl, false)).1] 9))
                        have hga := gtr hgr (grown_of _ ((Below.refl _ _).alloc (Nat.le_refl _) (.cells #[.string (txt (rl, false)).1] 9)))
                        have hon := hNa.tg
                        rw [HM.out] at hon
                        refine step_app _ rfl (.tmp 92) (.tmp 95) _ rfl (gn + 1) 9 ti0 _ 1 16 Tryd.underlying49 hi hz0 hz1 hz2 rfl (by decide) _ q (h.tg.map strV) rfl hon _ 1 _ [strV (txt (rl, false)).1] rfl (rd_new1 _ _ _ rfl) (oneS _) (by unfold maxLen; omega) (by omega) hNa.nb.lt ?_
                        intro v7 w7 ho' hg' hv'
                        clear hi hz0 hz1 hz2 hv'
                        have hN3 := hNa.tag (txt (rl, false)).1 HM.out ho' hg'
                        have hP3 := (hPa.row hg' (fun e => by have := hon.lt _ e; omega)).row (set1_grown w7 gn 3 v7) (fun e => by injection e; omega)
                        have hg3 := gtr2 (gtr2 hga hg' (fun j e => by have := hon.lt _ e; omega)) (set1_grown w7 gn 3 v7) (fun j e => by cases e; omega)
                        have BB := hNa.nb.grownR hg' (fun e => by have := hon.lt _ e; omega)
                        have e3 := BB.free 3
                        have b3 := (cell5 BB).2.2.2.1
                        clear BB
                        obtain ⟨A7, c7, rfl, -, -⟩ := own_shape ho'
                        clear hon ho' hg' hN hNa hP hPa hga
                        refine hK.out _ _ ?_ (fun hNew => ?_)
                        · exact trivial
                        clear hK K hHeld
                        have hHeld := hNew
                        clear hNew
                        try simp only [Act.put, pz1, pz2, pz3]
                        refine tk 6 ?_; try simp only [Act.put, pz1, pz2, pz3]
                        refine wpAnyH_ready (rs := [7]) (by kernel_rfl) (by simp) ?_
                        refine AllReadyH.cons (o := ⟨none, .store 49 (.tmp 97) (.tmp 96), 0, "ref.go:97", #[⟨6, .data⟩, ⟨5, .data⟩, ⟨5, .chain⟩, ⟨0, .phase⟩, ⟨1, .phase⟩, ⟨2, .phase⟩, ⟨3, .phase⟩, ⟨4, .phase⟩, ⟨5, .phase⟩], none⟩) rfl (fun K hK => ?_) AllReadyH.nil
                        go_simp
                        refine hK.out _ _ ?_ (fun hNew => ?_)
                        · exact trivial
                        clear hK K hHeld
                        have hHeld := hNew
                        clear hNew
                        try simp only [Act.put, pz1, pz2, pz3]
                        refine wpAnyH_done (by kernel_rfl) ?_ _
                        refine NoPanic.normal ?_
                        clear hHeld
                        go_wp2_with fail
                        go_roundw
                        case rel => exact ⟨q + 1, { h with tg := h.tg ++ [(txt (rl, false)).1] }, _, _, (txt (rl, false)).2, by omega, by go_num, hN3, hP3, hg3, by simp [HM.out], Lib.hid ⟨⟨HSN.out.1.1, ⟨fun t ht => (by rcases List.mem_append.1 ht with ht | ht; exact HSN.out.1.2.1.1 t ht; obtain rfl := List.mem_singleton.1 ht; exact hsz), by simp [HM.out]; omega⟩, HSN.out.1.2.2⟩, HSN.out.2⟩, Lib.hid ((HDJ.out).step (fun h => by cases h) (by rw [show M - q = (M - (q + 1)) + 1 by omega]; rfl))⟩
                        case measure => simp [intOf]; omega
                      · go_simp
                        refine hK.out _ _ ?_ (fun hNew => ?_)
                        · exact trivial
                        clear hK K hHeld
                        have hHeld := hNew
                        clear hNew
                        try simp only [Act.put, pz1, pz2, pz3]
                        refine wpAnyH_ready (rs := [1]) (by kernel_rfl) (by simp) ?_
                        refine AllReadyH.cons (o := ⟨some 92, .load 49 (.tmp 91), 49, "ref.go:97", #[⟨0, .data⟩], none⟩) rfl (fun K hK => ?_) AllReadyH.nil
                        go_simp
                        refine hK.out _ _ ?_ (fun hNew => ?_)
                        · exact trivial
                        clear hK K hHeld
                        have hHeld := hNew
                        clear hNew
                        try simp only [Act.put, pz1, pz2, pz3]
                        refine wpAnyH_ready (rs := [5]) (by kernel_rfl) (by simp) ?_
                        refine AllReadyH.cons (o := ⟨some 96, .call { callee := .builtin .append, args := #[.tmp 92, .tmp 95], argTypes := #[49, 49] }, 49, "ref.go:97", #[⟨1, .data⟩, ⟨4, .data⟩, ⟨3, .chain⟩], none⟩) rfl (fun K hK => ?_) AllReadyH.nil
                        obtain ⟨ti0, hi, hz0, hz1, hz2⟩ := info_parts info_clStr
                        have hNa := hN.below ((Below.refl _ _).alloc (Nat.le_refl _) (.cells #[.string (txt (rl, false)).1] 9))
                        have hPa := hP.below ((Below.refl _ _).alloc (Nat.le_refl _) (.cells #[.string (txt (rl, false)).1] 9))
                        have hga := gtr hgr (grown_of _ ((Below.refl _ _).alloc (Nat.le_refl _) (.cells #[.string (txt (rl, false)).1] 9)))
                        have hon := hNa.tg
                        rw [HM.out] at hon
                        refine step_app _ rfl (.tmp 92) (.tmp 95) _ rfl (gn + 1) 9 ti0 _ 1 16 Tryd.underlying49 hi hz0 hz1 hz2 rfl (by decide) _ q (h.tg.map strV) rfl hon _ 1 _ [strV (txt (rl, false)).1] rfl (rd_new1 _ _ _ rfl) (oneS _) (by unfold maxLen; omega) (by omega) hNa.nb.lt ?_
                        intro v7 w7 ho' hg' hv'
                        clear hi hz0 hz1 hz2 hv'
                        have hN3 := hNa.tag (txt (rl, false)).1 HM.out ho' hg'
                        have hP3 := (hPa.row hg' (fun e => by have := hon.lt _ e; omega)).row (set1_grown w7 gn 3 v7) (fun e => by injection e; omega)
                        have hg3 := gtr2 (gtr2 hga hg' (fun j e => by have := hon.lt _ e; omega)) (set1_grown w7 gn 3 v7) (fun j e => by cases e; omega)
                        have BB := hNa.nb.grownR hg' (fun e => by have := hon.lt _ e; omega)
                        have e3 := BB.free 3
                        have b3 := (cell5 BB).2.2.2.1
                        clear BB
                        obtain ⟨A7, c7, rfl, -, -⟩ := own_shape ho'
                        clear hon ho' hg' hN hNa hP hPa hga
                        refine hK.out _ _ ?_ (fun hNew => ?_)
                        · exact trivial
                        clear hK K hHeld
                        have hHeld := hNew
                        clear hNew
                        try simp only [Act.put, pz1, pz2, pz3]
                        refine tk 6 ?_; try simp only [Act.put, pz1, pz2, pz3]
                        refine wpAnyH_ready (rs := [7]) (by kernel_rfl) (by simp) ?_
                        refine AllReadyH.cons (o := ⟨none, .store 49 (.tmp 97) (.tmp 96), 0, "ref.go:97", #[⟨6, .data⟩, ⟨5, .data⟩, ⟨5, .chain⟩, ⟨0, .phase⟩, ⟨1, .phase⟩, ⟨2, .phase⟩, ⟨3, .phase⟩, ⟨4, .phase⟩, ⟨5, .phase⟩], none⟩) rfl (fun K hK => ?_) AllReadyH.nil
                        go_simp
                        refine hK.out _ _ ?_ (fun hNew => ?_)
                        · exact trivial
                        clear hK K hHeld
                        have hHeld := hNew
                        clear hNew
                        try simp only [Act.put, pz1, pz2, pz3]
                        refine wpAnyH_done (by kernel_rfl) ?_ _
                        refine NoPanic.normal ?_
                        clear hHeld
                        go_wp2_with fail
                        go_roundw
                        case rel => exact ⟨q + 1, { h with tg := h.tg ++ [(txt (rl, false)).1] }, _, _, (txt (rl, false)).2, by omega, by go_num, hN3, hP3, hg3, by simp [HM.out], Lib.hid ⟨⟨HSN.out.1.1, ⟨fun t ht => (by rcases List.mem_append.1 ht with ht | ht; exact HSN.out.1.2.1.1 t ht; obtain rfl := List.mem_singleton.1 ht; exact hsz), by simp [HM.out]; omega⟩, HSN.out.1.2.2⟩, HSN.out.2⟩, Lib.hid ((HDJ.out).step (fun h => by cases h) (by rw [show M - q = (M - (q + 1)) + 1 by omega]; rfl))⟩
                        case measure => simp [intOf]; omega
                  · go_wp2_with fail
                    go_meet
                    exact ⟨h, vt, vs, (rl, true), hN, hP, hgr, HSN, Lib.hid (HDJ.out.bad rfl (conT_bad rfl))⟩
                · have z1 : ¬ (q : Int) < (M : Int) := by omega
                  go_wp2_with fail
                  go_meet
                  exact ⟨h, vt, vs, (rl, rb), hN, hP, hgr, HSN, Lib.hid (by have h := HDJ.out; rw [show M - q = 0 by omega] at h; exact h)⟩
            case rest =>
              clear HQT HSN HDT
              obtain ⟨h, vt, vs, r, hN, hP, hgr, HSN, HDJ⟩ := hcut
              obtain ⟨wt, hwt⟩ : ∃ V : World, V = wc := ⟨_, rfl⟩
              subst hwt
              have hle3 := nmb1_lt (b8_rest hP H8.out)
              go_upto_region 25 with (go_at_call 33; (have TK1 : Calls Tryd.prog 33 #[.pointer (some ⟨w0.heap.size + 1, 0, none⟩), .int .i64 1] _ _ := rnm_any 1 (by decide) (by decide) b n c w0.heap.size (w0.heap.size + 1) A _ _ HN.out (HS.out.below (hMg.call hgr).hB) (Nat.le_add_right _ _) H8.out n1 hc hcm HA.out hP); ((with_reducible refine TK1.mono ?_); rintro e' w9 ⟨rfl, hP, hg, hs⟩; (try clear TK1); have hgr := gtr hgr hg; have hN := hN.call hg (by omega); clear hg hs))
              obtain ⟨M2, hMM⟩ : ∃ N, (nmb 1 r).1 = N := ⟨_, rfl⟩
              have HDJ2 : Hid (Dj F (nmb 1 r).2 (conS (N - (k + 1)) s h M2 (nmb 1 r).2)) := Lib.hid (HDJ.out.step (fun h => nmb_bad h) (by rw [conT_0, hMM]))
              rw [hMM] at hle3 ⊢
              clear hMM HDJ
              obtain ⟨r1, hr1⟩ : ∃ x, (nmb 1 r).2 = x := ⟨_, rfl⟩
              rw [hr1] at hP HDJ2
              clear hr1
              have HQT := Lib.hid (And.intro hN (And.intro hP hgr))
              clear hN hP hgr
              go_upto_block 6 with fail
              go_cut [] (fun wx => ∃ (h : Nt) (vt vs : Value) (r : Rr), NqM wx gn h vt vs ∧ RpR wx (w0.heap.size + 1) A n c b r ∧ wg.grownBy wx (some (w0.heap.size + 1)) ∧ Hid (SzN h) ∧ Hid (Dj F r (conS (N - (k + 1)) s h 0 r)))
              case first =>
                go_wp2_with fail
                go_loopw [13] (fun s13 wr => ∃ (q : Nat) (h : Nt) (vt vs : Value) (r : Rr), q ≤ M2 ∧ s13 = .int .i64 (q : Int) ∧ NqM wr gn h vt vs ∧ RpR wr (w0.heap.size + 1) A n c b r ∧ wg.grownBy wr (some (w0.heap.size + 1)) ∧ h.sh.length = q ∧ Hid (SzN h) ∧ Hid (Dj F r (conS (N - (k + 1)) s h (M2 - q) r))) (fun s13 _ => M2 - (intOf s13).toNat)
                case atStart => exact ⟨0, h, _, _, r1, Nat.zero_le _, rfl, HQT.out.1, HQT.out.2.1, HQT.out.2.2, by rw [HSN.out.2]; rfl, Lib.hid HSN.out.1, HDJ2⟩
                case round =>
                  clear HQT HSN HDJ2
                  obtain ⟨q, h, vt, vs, r, hq, rfl, hN, hP, hgr, hsh, HSN, HDJ⟩ := hrel
                  have KF := hP.flag
                  obtain ⟨rl, rb⟩ := r
                  change wr.cell? ⟨w0.heap.size + 1, 2, none⟩ = some (.bool rb) at KF
                  by_cases hlq : q < M2
                  · have z1 : (q : Int) < (M2 : Int) := by omega
                    cases rb
                    · obtain ⟨At, ct, rfl, -, -⟩ := own_shape hN.sh
                      rw [hsh] at hN
                      have HM := Lib.hid hsh
                      clear hsh
                      have hq2 : q ≤ 255 := by omega
                      go_upto_region 28 with fail
                      replace hN := hN.below (drew_below (Below.refl _ wr))
                      replace hP := hP.below (drew_below (Below.refl _ wr))
                      replace hgr := gtr hgr (grown_of _ (drew_below (Below.refl _ wr)))
                      obtain ⟨b0, b1, b2, b3, b4⟩ := cell5 hN.nb
                      have e0 := hN.nb.free 0
                      have e1 := hN.nb.free 1
                      have e2 := hN.nb.free 2
                      have e3 := hN.nb.free 3
                      have e4 := hN.nb.free 4
                      refine wp_region_noPanic ?_
                      refine wp_region_held_drew (S := (fun _ => True)) (by kernel_rfl) ?_ (fun hHeld => ?_)
                      · exact trivial
                      refine tk 0 ?_; try simp only [Act.put, pz1, pz2, pz3]
                      refine tk 2 ?_; try simp only [Act.put, pz1, pz2, pz3]
                      refine wpAnyH_ready (rs := [1, 3]) (by kernel_rfl) (by simp) ?_
                      refine (AllReadyH.cons (o := ⟨some 113, .load 50 (.tmp 112), 50, "ref.go:101", #[⟨0, .data⟩], none⟩) rfl (fun K hK => ?_) (AllReadyH.cons (o := ⟨some 115, .call { callee := .value (.func 33), args := #[.tmp 114, .const (.int .i64 2)], argTypes := #[62, 3] }, 3, "ref.go:101", #[⟨2, .data⟩], none⟩) rfl (fun K hK => ?_) AllReadyH.nil))
                      · go_simp
                        refine hK.out _ _ ?_ (fun hNew => ?_)
                        · exact trivial
                        clear hK K hHeld
                        have hHeld := hNew
                        clear hNew
                        try simp only [Act.put, pz1, pz2, pz3]
                        refine wpAnyH_ready (rs := [3]) (by kernel_rfl) (by simp) ?_
                        refine AllReadyH.cons (o := ⟨some 115, .call { callee := .value (.func 33), args := #[.tmp 114, .const (.int .i64 2)], argTypes := #[62, 3] }, 3, "ref.go:101", #[⟨2, .data⟩], none⟩) rfl (fun K hK => ?_) AllReadyH.nil
                        go_simp
                        (go_at_call 33; (have TK1 : Calls Tryd.prog 33 #[.pointer (some ⟨w0.heap.size + 1, 0, none⟩), .int .i64 2] _ _ := rnm_any 2 (by decide) (by decide) b n c w0.heap.size (w0.heap.size + 1) A _ _ HN.out (HS.out.below (hMg.call hgr).hB) (Nat.le_add_right _ _) H8.out n1 hc hcm HA.out hP); ((with_reducible refine TK1.mono ?_); rintro e' w2 ⟨rfl, hP, hg, hs⟩; (try clear TK1); have hgr := gtr hgr hg; have hN := hN.call hg (by omega); clear hg hs; (try clear b0 b1 b2 b3 b4 e0 e1 e2 e3 e4); obtain ⟨b0, b1, b2, b3, b4⟩ := cell5 hN.nb; have e0 := hN.nb.free 0; have e1 := hN.nb.free 1; have e2 := hN.nb.free 2; have e3 := hN.nb.free 3; have e4 := hN.nb.free 4; have ba := (cell5 (hN.nb.alloc_ (.cells #[.int .i64 ((nmb 2 (rl, false)).1 : Int)] 3))).2.2.2.2))
                        go_wp2_with fail
                        refine hK.out _ _ ?_ (fun hNew => ?_)
                        · exact trivial
                        clear hK K hHeld
                        have hHeld := hNew
                        clear hNew
                        try simp only [Act.put, pz1, pz2, pz3]
                        refine wpAnyH_ready (rs := [4]) (by kernel_rfl) (by simp) ?_
                        refine AllReadyH.cons (o := ⟨some 116, .buildSlice 50 1 #[(0, .tmp 115)], 50, "ref.go:101", #[⟨3, .data⟩], none⟩) rfl (fun K hK => ?_) AllReadyH.nil
                        go_simp
                        refine hK.out _ _ ?_ (fun hNew => ?_)
                        · exact trivial
                        clear hK K hHeld
                        have hHeld := hNew
                        clear hNew
                        try simp only [Act.put, pz1, pz2, pz3]
                        refine wpAnyH_ready (rs := [5]) (by kernel_rfl) (by simp) ?_
                        refine AllReadyH.cons (o := ⟨some 117, .call { callee := .builtin .append, args := #[.tmp 113, .tmp 116], argTypes := #[50, 50] }, 50, "ref.go:101", #[⟨1, .data⟩, ⟨4, .data⟩, ⟨3, .chain⟩], none⟩) rfl (fun K hK => ?_) AllReadyH.nil
                        obtain ⟨ti0, hi, hz0, hz1, hz2⟩ := info_parts info_clInt
                        have hNa := hN.below ((Below.refl _ _).alloc (Nat.le_refl _) (.cells #[.int .i64 ((nmb 2 (rl, false)).1 : Int)] 3))
                        have hPa := hP.below ((Below.refl _ _).alloc (Nat.le_refl _) (.cells #[.int .i64 ((nmb 2 (rl, false)).1 : Int)] 3))
                        have hga := gtr hgr (grown_of _ ((Below.refl _ _).alloc (Nat.le_refl _) (.cells #[.int .i64 ((nmb 2 (rl, false)).1 : Int)] 3)))
                        have hon := hNa.sh
                        rw [HM.out] at hon
                        refine step_app _ rfl (.tmp 113) (.tmp 116) _ rfl (gn + 1) 3 ti0 _ 1 8 Tryd.underlying50 hi hz0 hz1 hz2 rfl (by decide) _ q (h.sh.map (Value.int .i64)) rfl hon _ 1 _ [.int .i64 ((nmb 2 (rl, false)).1 : Int)] rfl (rd_new1 _ _ _ rfl) (oneI _) (by unfold maxLen; omega) (by omega) hNa.nb.lt ?_
                        intro v7 w7 ho' hg' hv'
                        clear hi hz0 hz1 hz2 hv'
                        have hN3 := hNa.sheet ((nmb 2 (rl, false)).1 : Int) HM.out ho' hg'
                        have hP3 := (hPa.row hg' (fun e => by have := hon.lt _ e; omega)).row (set1_grown w7 gn 4 v7) (fun e => by injection e; omega)
                        have hg3 := gtr2 (gtr2 hga hg' (fun j e => by have := hon.lt _ e; omega)) (set1_grown w7 gn 4 v7) (fun j e => by cases e; omega)
                        have BB := hNa.nb.grownR hg' (fun e => by have := hon.lt _ e; omega)
                        have e4 := BB.free 4
                        have b4 := (cell5 BB).2.2.2.2
                        clear BB
                        obtain ⟨A7, c7, rfl, -, -⟩ := own_shape ho'
                        clear hon ho' hg' hN hNa hP hPa hga
                        refine hK.out _ _ ?_ (fun hNew => ?_)
                        · exact trivial
                        clear hK K hHeld
                        have hHeld := hNew
                        clear hNew
                        try simp only [Act.put, pz1, pz2, pz3]
                        refine tk 6 ?_; try simp only [Act.put, pz1, pz2, pz3]
                        refine wpAnyH_ready (rs := [7]) (by kernel_rfl) (by simp) ?_
                        refine AllReadyH.cons (o := ⟨none, .store 50 (.tmp 118) (.tmp 117), 0, "ref.go:101", #[⟨6, .data⟩, ⟨5, .data⟩, ⟨5, .chain⟩, ⟨0, .phase⟩, ⟨1, .phase⟩, ⟨2, .phase⟩, ⟨3, .phase⟩, ⟨4, .phase⟩, ⟨5, .phase⟩], none⟩) rfl (fun K hK => ?_) AllReadyH.nil
                        go_simp
                        refine hK.out _ _ ?_ (fun hNew => ?_)
                        · exact trivial
                        clear hK K hHeld
                        have hHeld := hNew
                        clear hNew
                        try simp only [Act.put, pz1, pz2, pz3]
                        refine wpAnyH_done (by kernel_rfl) ?_ _
                        refine NoPanic.normal ?_
                        clear hHeld
                        go_wp2_with fail
                        go_roundw
                        case rel => exact ⟨q + 1, { h with sh := h.sh ++ [((nmb 2 (rl, false)).1 : Int)] }, _, _, (nmb 2 (rl, false)).2, by omega, by go_num, hN3, hP3, hg3, by simp [HM.out], Lib.hid ⟨HSN.out.1, HSN.out.2.1, by simp [HM.out]; omega⟩, Lib.hid ((HDJ.out).step (fun h => by cases h) (by rw [show M2 - q = (M2 - (q + 1)) + 1 by omega]; rfl))⟩
                        case measure => simp [intOf]; omega
                      · go_simp
                        (go_at_call 33; (have TK1 : Calls Tryd.prog 33 #[.pointer (some ⟨w0.heap.size + 1, 0, none⟩), .int .i64 2] _ _ := rnm_any 2 (by decide) (by decide) b n c w0.heap.size (w0.heap.size + 1) A _ _ HN.out (HS.out.below (hMg.call hgr).hB) (Nat.le_add_right _ _) H8.out n1 hc hcm HA.out hP); ((with_reducible refine TK1.mono ?_); rintro e' w2 ⟨rfl, hP, hg, hs⟩; (try clear TK1); have hgr := gtr hgr hg; have hN := hN.call hg (by omega); clear hg hs; (try clear b0 b1 b2 b3 b4 e0 e1 e2 e3 e4); obtain ⟨b0, b1, b2, b3, b4⟩ := cell5 hN.nb; have e0 := hN.nb.free 0; have e1 := hN.nb.free 1; have e2 := hN.nb.free 2; have e3 := hN.nb.free 3; have e4 := hN.nb.free 4; have ba := (cell5 (hN.nb.alloc_ (.cells #[.int .i64 ((nmb 2 (rl, false)).1 : Int)] 3))).2.2.2.2))
                        go_wp2_with fail
                        refine hK.out _ _ ?_ (fun hNew => ?_)
                        · exact trivial
                        clear hK K hHeld
                        have hHeld := hNew
                        clear hNew
                        try simp only [Act.put, pz1, pz2, pz3]
                        refine wpAnyH_ready (rs := [1, 4]) (by kernel_rfl) (by simp) ?_
                        refine (AllReadyH.cons (o := ⟨some 113, .load 50 (.tmp 112), 50, "ref.go:101", #[⟨0, .data⟩], none⟩) rfl (fun K hK => ?_) (AllReadyH.cons (o := ⟨some 116, .buildSlice 50 1 #[(0, .tmp 115)], 50, "ref.go:101", #[⟨3, .data⟩], none⟩) rfl (fun K hK => ?_) AllReadyH.nil))
                        · go_simp
                          refine hK.out _ _ ?_ (fun hNew => ?_)
                          · exact trivial
                          clear hK K hHeld
                          have hHeld := hNew
                          clear hNew
                          try simp only [Act.put, pz1, pz2, pz3]
                          refine wpAnyH_ready (rs := [4]) (by kernel_rfl) (by simp) ?_
                          refine AllReadyH.cons (o := ⟨some 116, .buildSlice 50 1 #[(0, .tmp 115)], 50, "ref.go:101", #[⟨3, .data⟩], none⟩) rfl (fun K hK => ?_) AllReadyH.nil
                          go_simp
                          refine hK.out _ _ ?_ (fun hNew => ?_)
                          · exact trivial
                          clear hK K hHeld
                          have hHeld := hNew
                          clear hNew
                          try simp only [Act.put, pz1, pz2, pz3]
                          refine wpAnyH_ready (rs := [5]) (by kernel_rfl) (by simp) ?_
                          refine AllReadyH.cons (o := ⟨some 117, .call { callee := .builtin .append, args := #[.tmp 113, .tmp 116], argTypes := #[50, 50] }, 50, "ref.go:101", #[⟨1, .data⟩, ⟨4, .data⟩, ⟨3, .chain⟩], none⟩) rfl (fun K hK => ?_) AllReadyH.nil
                          obtain ⟨ti0, hi, hz0, hz1, hz2⟩ := info_parts info_clInt
                          have hNa := hN.below ((Below.refl _ _).alloc (Nat.le_refl _) (.cells #[.int .i64 ((nmb 2 (rl, false)).1 : Int)] 3))
                          have hPa := hP.below ((Below.refl _ _).alloc (Nat.le_refl _) (.cells #[.int .i64 ((nmb 2 (rl, false)).1 : Int)] 3))
                          have hga := gtr hgr (grown_of _ ((Below.refl _ _).alloc (Nat.le_refl _) (.cells #[.int .i64 ((nmb 2 (rl, false)).1 : Int)] 3)))
                          have hon := hNa.sh
                          rw [HM.out] at hon
                          refine step_app _ rfl (.tmp 113) (.tmp 116) _ rfl (gn + 1) 3 ti0 _ 1 8 Tryd.underlying50 hi hz0 hz1 hz2 rfl (by decide) _ q (h.sh.map (Value.int .i64)) rfl hon _ 1 _ [.int .i64 ((nmb 2 (rl, false)).1 : Int)] rfl (rd_new1 _ _ _ rfl) (oneI _) (by unfold maxLen; omega) (by omega) hNa.nb.lt ?_
                          intro v7 w7 ho' hg' hv'
                          clear hi hz0 hz1 hz2 hv'
                          have hN3 := hNa.sheet ((nmb 2 (rl, false)).1 : Int) HM.out ho' hg'
                          have hP3 := (hPa.row hg' (fun e => by have := hon.lt _ e; omega)).row (set1_grown w7 gn 4 v7) (fun e => by injection e; omega)
                          have hg3 := gtr2 (gtr2 hga hg' (fun j e => by have := hon.lt _ e; omega)) (set1_grown w7 gn 4 v7) (fun j e => by cases e; omega)
                          have BB := hNa.nb.grownR hg' (fun e => by have := hon.lt _ e; omega)
                          have e4 := BB.free 4
                          have b4 := (cell5 BB).2.2.2.2
                          clear BB
                          obtain ⟨A7, c7, rfl, -, -⟩ := own_shape ho'
                          clear hon ho' hg' hN hNa hP hPa hga
                          refine hK.out _ _ ?_ (fun hNew => ?_)
                          · exact trivial
                          clear hK K hHeld
                          have hHeld := hNew
                          clear hNew
                          try simp only [Act.put, pz1, pz2, pz3]
                          refine tk 6 ?_; try simp only [Act.put, pz1, pz2, pz3]
                          refine wpAnyH_ready (rs := [7]) (by kernel_rfl) (by simp) ?_
                          refine AllReadyH.cons (o := ⟨none, .store 50 (.tmp 118) (.tmp 117), 0, "ref.go:101", #[⟨6, .data⟩, ⟨5, .data⟩, ⟨5, .chain⟩, ⟨0, .phase⟩, ⟨1, .phase⟩, ⟨2, .phase⟩, ⟨3, .phase⟩, ⟨4, .phase⟩, ⟨5, .phase⟩], none⟩) rfl (fun K hK => ?_) AllReadyH.nil
                          go_simp
                          refine hK.out _ _ ?_ (fun hNew => ?_)
                          · exact trivial
                          clear hK K hHeld
                          have hHeld := hNew
                          clear hNew
                          try simp only [Act.put, pz1, pz2, pz3]
                          refine wpAnyH_done (by kernel_rfl) ?_ _
                          refine NoPanic.normal ?_
                          clear hHeld
                          go_wp2_with fail
                          go_roundw
                          case rel => exact ⟨q + 1, { h with sh := h.sh ++ [((nmb 2 (rl, false)).1 : Int)] }, _, _, (nmb 2 (rl, false)).2, by omega, by go_num, hN3, hP3, hg3, by simp [HM.out], Lib.hid ⟨HSN.out.1, HSN.out.2.1, by simp [HM.out]; omega⟩, Lib.hid ((HDJ.out).step (fun h => by cases h) (by rw [show M2 - q = (M2 - (q + 1)) + 1 by omega]; rfl))⟩
                          case measure => simp [intOf]; omega
                        · go_simp
                          refine hK.out _ _ ?_ (fun hNew => ?_)
                          · exact trivial
                          clear hK K hHeld
                          have hHeld := hNew
                          clear hNew
                          try simp only [Act.put, pz1, pz2, pz3]
                          refine wpAnyH_ready (rs := [1]) (by kernel_rfl) (by simp) ?_
                          refine AllReadyH.cons (o := ⟨some 113, .load 50 (.tmp 112), 50, "ref.go:101", #[⟨0, .data⟩], none⟩) rfl (fun K hK => ?_) AllReadyH.nil
                          go_simp
                          refine hK.out _ _ ?_ (fun hNew => ?_)
                          · exact trivial
                          clear hK K hHeld
                          have hHeld := hNew
                          clear hNew
                          try simp only [Act.put, pz1, pz2, pz3]
                          refine wpAnyH_ready (rs := [5]) (by kernel_rfl) (by simp) ?_
                          refine AllReadyH.cons (o := ⟨some 117, .call { callee := .builtin .append, args := #[.tmp 113, .tmp 116], argTypes := #[50, 50] }, 50, "ref.go:101", #[⟨1, .data⟩, ⟨4, .data⟩, ⟨3, .chain⟩], none⟩) rfl (fun K hK => ?_) AllReadyH.nil
                          obtain ⟨ti0, hi, hz0, hz1, hz2⟩ := info_parts info_clInt
                          have hNa := hN.below ((Below.refl _ _).alloc (Nat.le_refl _) (.cells #[.int .i64 ((nmb 2 (rl, false)).1 : Int)] 3))
                          have hPa := hP.below ((Below.refl _ _).alloc (Nat.le_refl _) (.cells #[.int .i64 ((nmb 2 (rl, false)).1 : Int)] 3))
                          have hga := gtr hgr (grown_of _ ((Below.refl _ _).alloc (Nat.le_refl _) (.cells #[.int .i64 ((nmb 2 (rl, false)).1 : Int)] 3)))
                          have hon := hNa.sh
                          rw [HM.out] at hon
                          refine step_app _ rfl (.tmp 113) (.tmp 116) _ rfl (gn + 1) 3 ti0 _ 1 8 Tryd.underlying50 hi hz0 hz1 hz2 rfl (by decide) _ q (h.sh.map (Value.int .i64)) rfl hon _ 1 _ [.int .i64 ((nmb 2 (rl, false)).1 : Int)] rfl (rd_new1 _ _ _ rfl) (oneI _) (by unfold maxLen; omega) (by omega) hNa.nb.lt ?_
                          intro v7 w7 ho' hg' hv'
                          clear hi hz0 hz1 hz2 hv'
                          have hN3 := hNa.sheet ((nmb 2 (rl, false)).1 : Int) HM.out ho' hg'
                          have hP3 := (hPa.row hg' (fun e => by have := hon.lt _ e; omega)).row (set1_grown w7 gn 4 v7) (fun e => by injection e; omega)
                          have hg3 := gtr2 (gtr2 hga hg' (fun j e => by have := hon.lt _ e; omega)) (set1_grown w7 gn 4 v7) (fun j e => by cases e; omega)
                          have BB := hNa.nb.grownR hg' (fun e => by have := hon.lt _ e; omega)
                          have e4 := BB.free 4
                          have b4 := (cell5 BB).2.2.2.2
                          clear BB
                          obtain ⟨A7, c7, rfl, -, -⟩ := own_shape ho'
                          clear hon ho' hg' hN hNa hP hPa hga
                          refine hK.out _ _ ?_ (fun hNew => ?_)
                          · exact trivial
                          clear hK K hHeld
                          have hHeld := hNew
                          clear hNew
                          try simp only [Act.put, pz1, pz2, pz3]
                          refine tk 6 ?_; try simp only [Act.put, pz1, pz2, pz3]
                          refine wpAnyH_ready (rs := [7]) (by kernel_rfl) (by simp) ?_
                          refine AllReadyH.cons (o := ⟨none, .store 50 (.tmp 118) (.tmp 117), 0, "ref.go:101", #[⟨6, .data⟩, ⟨5, .data⟩, ⟨5, .chain⟩, ⟨0, .phase⟩, ⟨1, .phase⟩, ⟨2, .phase⟩, ⟨3, .phase⟩, ⟨4, .phase⟩, ⟨5, .phase⟩], none⟩) rfl (fun K hK => ?_) AllReadyH.nil
                          go_simp
                          refine hK.out _ _ ?_ (fun hNew => ?_)
                          · exact trivial
                          clear hK K hHeld
                          have hHeld := hNew
                          clear hNew
                          try simp only [Act.put, pz1, pz2, pz3]
                          refine wpAnyH_done (by kernel_rfl) ?_ _
                          refine NoPanic.normal ?_
                          clear hHeld
                          go_wp2_with fail
                          go_roundw
                          case rel => exact ⟨q + 1, { h with sh := h.sh ++ [((nmb 2 (rl, false)).1 : Int)] }, _, _, (nmb 2 (rl, false)).2, by omega, by go_num, hN3, hP3, hg3, by simp [HM.out], Lib.hid ⟨HSN.out.1, HSN.out.2.1, by simp [HM.out]; omega⟩, Lib.hid ((HDJ.out).step (fun h => by cases h) (by rw [show M2 - q = (M2 - (q + 1)) + 1 by omega]; rfl))⟩
                          case measure => simp [intOf]; omega
                    · go_wp2_with fail
                      go_meet
                      exact ⟨h, vt, vs, (rl, true), hN, hP, hgr, HSN, Lib.hid (HDJ.out.bad rfl (conS_bad rfl))⟩
                  · have z1 : ¬ (q : Int) < (M2 : Int) := by omega
                    go_wp2_with fail
                    go_meet
                    exact ⟨h, vt, vs, (rl, rb), hN, hP, hgr, HSN, Lib.hid (by have h := HDJ.out; rw [show M2 - q = 0 by omega] at h; exact h)⟩
              case rest =>
                clear HQT HSN HDJ2
                obtain ⟨h, vt, vs, r, hN, hP, hgr, HSN, HDJ⟩ := hcut
                obtain ⟨wt2, hwt2⟩ : ∃ V : World, V = wc := ⟨_, rfl⟩
                subst hwt2
                have hM := hMg.call hgr
                obtain ⟨An, cn, rfl, -, -⟩ := own_shape hM.on
                obtain ⟨At, ct, rfl, -, -⟩ := own_shape hN.tg
                obtain ⟨As, cs, rfl, -, -⟩ := own_shape hN.sh
                have HM := Lib.hid htl
                rw [htl] at hM
                obtain ⟨m1, hm1⟩ : ∃ m, h.tg.length = m := ⟨_, rfl⟩
                obtain ⟨m3, hm3⟩ : ∃ m, h.sh.length = m := ⟨_, rfl⟩
                rw [hm1, hm3] at hN
                clear hm1 hm3 htl
                obtain ⟨k0, k1, k2, k3, k4⟩ := cell5 hM.sb; have f0 := hM.sb.free 0; have f1 := hM.sb.free 1; have f2 := hM.sb.free 2; have f3 := hM.sb.free 3; have f4 := hM.sb.free 4
                obtain ⟨b0, b1, b2, b3, b4⟩ := cell5 hN.nb; have e0 := hN.nb.free 0; have e1 := hN.nb.free 1; have e2 := hN.nb.free 2; have e3 := hN.nb.free 3; have e4 := hN.nb.free 4
                have hbx := (Below.refl _ wt2).alloc (Nat.le_refl _) (.cells #[.int .i64 h.id, .int .i64 h.bk, .string h.nm, .slice At m1 ct, .slice As m3 cs] 52)
                have hMa := hM.below hbx
                have hNa := hN.below hbx
                have hPa := hP.below hbx
                have hon := hMa.on
                rw [HM.out] at hon
                go_wp2_with (at_builtin; obtain ⟨ti0, hi, hz0, hz1, hz2⟩ := info_parts info_clNt; refine wpList_app _ rfl (.tmp 120) (.tmp 122) _ rfl (w0.heap.size + 3) 52 ti0 _ 5 80 Tryd.underlying23 hi hz0 hz1 hz2 rfl (by decide) _ k es.flatten rfl hon _ 1 _ (ntC h (.slice At m1 ct) (.slice As m3 cs)) rfl (rd_newNt _ h _ _ rfl) (oneN _ _ _ _ _ _ _) (by unfold maxLen; omega) (by omega) hMa.size ?_; intro v7 w7 ho' hg' hv'; clear hi hz0 hz1 hz2 hv'; (have hM3 := hMa.note (hNa.toW hg5) HM.out ho' hg'); (have hP3 := (hPa.row hg' (fun e => by have := hon.lt _ e; omega)).set 4 v7); (have BB := hMa.sb.grownR hg' (fun e => by have := hon.lt _ e; omega)); (have f4 := BB.free 4); (have k4 := (cell5 BB).2.2.2.2); clear BB; obtain ⟨A7, c7, rfl, -, -⟩ := own_shape ho'; clear hon ho' hg' hM hN hNa)
                go_roundw
                case rel => exact ⟨k + 1, { s with ts := s.ts ++ [h] }, _, _, _, r, by omega, by go_num, hM3, hP3, HBL, by simp [HM.out], Lib.hid (HZ.out.note HSN.out), Lib.hid (HDJ.out.step (fun h => h) rfl)⟩
                case measure => simp [intOf]; omega
          · go_wp2_with fail
            go_meet
            exact ⟨s, vb, vn, es, (rl, true), hM, hP, Lib.hid ⟨HBL.out, by omega, HZ.out⟩, Lib.hid (HDJ.out.bad rfl (conN_bad rfl))⟩
        · have z0 : ¬ (k : Int) < (N : Int) := by omega
          go_wp2_with fail
          go_meet
          exact ⟨s, vb, vn, es, (rl, rb), hM, hP, Lib.hid ⟨HBL.out, by omega, HZ.out⟩, Lib.hid (by have h := HDJ.out; rw [show N - k = 0 by omega] at h; exact h)⟩
    case rest =>
      clear HQ0 HSZ HDJ2
      obtain ⟨s, vb, vn, es, r, hM, hP, HSZ, HDJ⟩ := hcut
      obtain ⟨Ab, cb, rfl, -, -⟩ := own_shape hM.bk
      obtain ⟨An, cn, rfl, -, -⟩ := own_shape hM.on
      obtain ⟨l1, hl1⟩ : ∃ m, s.bs.length = m := ⟨_, rfl⟩
      obtain ⟨l2, hl2⟩ : ∃ m, s.ts.length = m := ⟨_, rfl⟩
      rw [hl1, hl2] at hM
      clear hl1 hl2
      have KF := hP.flag
      obtain ⟨rl, rb⟩ := r
      change wc.cell? ⟨w0.heap.size + 1, 2, none⟩ = some (.bool rb) at KF
      have HSF := Lib.hid (HSZ.out.2.2.sz HSZ.out.1 HSZ.out.2.1)
      obtain ⟨k0, k1, k2, k3, k4⟩ := cell5 hM.sb; have f0 := hM.sb.free 0; have f1 := hM.sb.free 1; have f2 := hM.sb.free 2; have f3 := hM.sb.free 3; have f4 := hM.sb.free 4
      obtain ⟨q0, q1, q2, q3, q4⟩ := cell5 hM.zb; have y0 := hM.zb.free 0; have y1 := hM.zb.free 1; have y2 := hM.zb.free 2; have y3 := hM.zb.free 3; have y4 := hM.zb.free 4
      rcases (by cases hq : mayS s <;> simp : mayS s = true ∨ mayS s = false) with hm | hm
      · have HFM := Lib.hid (mayF_of hm)
        obtain ⟨L, hL⟩ : ∃ L, (shL s).length = L := ⟨_, rfl⟩
        have HL := Lib.hid hL
        clear hm hL
        cases rb
        · by_cases heq : shL s = b
          · have HEQ := Lib.hid heq
            obtain ⟨S1, hS1⟩ : ∃ S, strN b = S := ⟨_, rfl⟩
            have HS1 := Lib.hid hS1
            clear heq hS1
            go_wp2_with (go_at_call 11; ((with_reducible refine (rlayL s _ _ hM.toW.toR HSF.out HFM.out L HL.out).mono ?_); rintro e' w5 ⟨g1, c1, rfl, hr1, bx⟩; (have hM := hM.below bx); have hP := hP.below bx; have KF := hP.flag; have hcv1 := conv_str (shL s) L _ c1 _ w5 HL.out (Sl.of_own hr1); have hcv2 := conv_str b n A c w0.heap.size w5 HN.out (HS.out.below hM.hB); rw [HEQ.out, HS1.out] at hcv1; rw [HS1.out] at hcv2; clear bx hr1; (try clear k0 k1 k2 k3 k4 f0 f1 f2 f3 f4); (try clear q0 q1 q2 q3 q4 y0 y1 y2 y3 y4); obtain ⟨k0, k1, k2, k3, k4⟩ := cell5 hM.sb; have f0 := hM.sb.free 0; have f1 := hM.sb.free 1; have f2 := hM.sb.free 2; have f3 := hM.sb.free 3; have f4 := hM.sb.free 4; obtain ⟨q0, q1, q2, q3, q4⟩ := cell5 hM.zb; have y0 := hM.zb.free 0; have y1 := hM.zb.free 1; have y2 := hM.zb.free 2; have y3 := hM.zb.free 3; have y4 := hM.zb.free 4))
            have B2u := hM.zb.st5_ (.int .i64 s.nb) (.int .i64 s.nn) (.int .i64 s.ns) (.slice Ab l1 cb) (.slice An l2 cn)
            have hg2 := st5_grown w5 w0.heap.size 0 (.int .i64 s.nb) (.int .i64 s.nn) (.int .i64 s.ns) (.slice Ab l1 cb) (.slice An l2 cn)
            have hb2 := below_grown hM.hB hg2 (Nat.le_refl _) hM.hB.size
            have hbk := hM.bk.far hg2 (by omega)
            have hnt := NtsW.far ⟨es, hM.el, hM.on, hM.nt⟩ hg2 (by omega)
            change bodyPost _ _ _ _ _ (st5 w5 w0.heap.size 0 (.int .i64 s.nb) (.int .i64 s.nn) (.int .i64 s.ns) (.slice Ab l1 cb) (.slice An l2 cn))
            generalize st5 w5 w0.heap.size 0 (.int .i64 s.nb) (.int .i64 s.nn) (.int .i64 s.ns) (.slice Ab l1 cb) (.slice An l2 cn) = Wd at B2u hb2 hbk hnt ⊢
            apply bodyPost_ret (v := .tuple #[.agg #[.int .i64 s.nb, .int .i64 s.nn, .int .i64 s.ns, .slice Ab l1 cb, .slice An l2 cn], .int .i64 0])
            · exact results_cell1 Tryd.results19 _ Wd w0.heap.size 25 _ (0, 0) _ rfl B2u Tryd.underlying25 rfl (by kernel_rfl)
            · rfl
            · have HOK := okR_yesf HFM.out HEQ.out
              exact ⟨⟨_, by rw [HOK.1]; rfl, by rw [HOK.1]; show ShW _ _ _ (rAll b).1; rw [HOK.2]; exact (ShW.make hbk hnt).base_ (Nat.le_add_right _ 3)⟩, hb2⟩
          · have HEQ := Lib.hid heq
            obtain ⟨S1, hS1⟩ : ∃ S, strN (shL s) = S := ⟨_, rfl⟩
            obtain ⟨S2, hS2⟩ : ∃ S, strN b = S := ⟨_, rfl⟩
            have hne : ¬ S1 = S2 := by
              rw [← hS1, ← hS2]
              intro e
              have e2 := congrArg bytN e
              rw [bytN_strN (shL_8 HFM.out), bytN_strN H8.out] at e2
              exact heq e2
            have hne2 : (S1.toList == S2.toList) = false := beq_no (ba_ne hne)
            have HS1 := Lib.hid hS1
            have HS2 := Lib.hid hS2
            clear heq hS1 hS2 hne
            go_wp2_with (go_at_call 11; ((with_reducible refine (rlayL s _ _ hM.toW.toR HSF.out HFM.out L HL.out).mono ?_); rintro e' w5 ⟨g1, c1, rfl, hr1, bx⟩; (have hM := hM.below bx); have hP := hP.below bx; have KF := hP.flag; have hcv1 := conv_str (shL s) L _ c1 _ w5 HL.out (Sl.of_own hr1); have hcv2 := conv_str b n A c w0.heap.size w5 HN.out (HS.out.below hM.hB); rw [HS1.out] at hcv1; rw [HS2.out] at hcv2; clear bx hr1; (try clear k0 k1 k2 k3 k4 f0 f1 f2 f3 f4); (try clear q0 q1 q2 q3 q4 y0 y1 y2 y3 y4); obtain ⟨k0, k1, k2, k3, k4⟩ := cell5 hM.sb; have f0 := hM.sb.free 0; have f1 := hM.sb.free 1; have f2 := hM.sb.free 2; have f3 := hM.sb.free 3; have f4 := hM.sb.free 4; obtain ⟨q0, q1, q2, q3, q4⟩ := cell5 hM.zb; have y0 := hM.zb.free 0; have y1 := hM.zb.free 1; have y2 := hM.zb.free 2; have y3 := hM.zb.free 3; have y4 := hM.zb.free 4))
            have B2u := hM.zb.st5_ (.int .i64 0) (.int .i64 0) (.int .i64 0) (.slice none 0 0) (.slice none 0 0)
            have hb2 := below_grown hM.hB (st5_grown _ w0.heap.size 0 (.int .i64 0) (.int .i64 0) (.int .i64 0) (.slice none 0 0) (.slice none 0 0)) (Nat.le_refl _) hM.hB.size
            change bodyPost _ _ _ _ _ (st5 w5 w0.heap.size 0 (.int .i64 0) (.int .i64 0) (.int .i64 0) (.slice none 0 0) (.slice none 0 0))
            generalize st5 w5 w0.heap.size 0 (.int .i64 0) (.int .i64 0) (.int .i64 0) (.slice none 0 0) (.slice none 0 0) = Wd at B2u hb2 ⊢
            apply bodyPost_ret (v := .tuple #[.agg #[.int .i64 0, .int .i64 0, .int .i64 0, .slice none 0 0, .slice none 0 0], .int .i64 5])
            · exact results_cell1 Tryd.results19 _ Wd w0.heap.size 25 #[.int .i64 0, .int .i64 0, .int .i64 0, .slice none 0 0, .slice none 0 0] (0, 0) _ rfl B2u Tryd.underlying25 rfl (by kernel_rfl)
            · rfl
            · have HOK : okR b = false := okR_nof HF.out HDJ.out (Or.inr (Or.inr HEQ.out)) H8.out
              exact ⟨⟨_, by rw [HOK]; rfl, by rw [HOK]; exact ShW.make (s := ⟨0, 0, 0, [], []⟩) (World.ownsRow_nil _ _ _ _) ⟨[], rfl, World.ownsRow_nil _ _ _ _, fun k n e a c => by simp at c⟩⟩, hb2⟩
        · obtain ⟨S1, hS1⟩ : ∃ S, strN (shL s) = S := ⟨_, rfl⟩
          obtain ⟨S2, hS2⟩ : ∃ S, strN b = S := ⟨_, rfl⟩
          have HS1 := Lib.hid hS1
          have HS2 := Lib.hid hS2
          clear hS1 hS2
          go_wp2_with (go_at_call 11; ((with_reducible refine (rlayL s _ _ hM.toW.toR HSF.out HFM.out L HL.out).mono ?_); rintro e' w5 ⟨g1, c1, rfl, hr1, bx⟩; (have hM := hM.below bx); have hP := hP.below bx; have KF := hP.flag; have hcv1 := conv_str (shL s) L _ c1 _ w5 HL.out (Sl.of_own hr1); have hcv2 := conv_str b n A c w0.heap.size w5 HN.out (HS.out.below hM.hB); rw [HS1.out] at hcv1; rw [HS2.out] at hcv2; clear bx hr1; (try clear k0 k1 k2 k3 k4 f0 f1 f2 f3 f4); (try clear q0 q1 q2 q3 q4 y0 y1 y2 y3 y4); obtain ⟨k0, k1, k2, k3, k4⟩ := cell5 hM.sb; have f0 := hM.sb.free 0; have f1 := hM.sb.free 1; have f2 := hM.sb.free 2; have f3 := hM.sb.free 3; have f4 := hM.sb.free 4; obtain ⟨q0, q1, q2, q3, q4⟩ := cell5 hM.zb; have y0 := hM.zb.free 0; have y1 := hM.zb.free 1; have y2 := hM.zb.free 2; have y3 := hM.zb.free 3; have y4 := hM.zb.free 4))
          have B2u := hM.zb.st5_ (.int .i64 0) (.int .i64 0) (.int .i64 0) (.slice none 0 0) (.slice none 0 0)
          have hb2 := below_grown hM.hB (st5_grown _ w0.heap.size 0 (.int .i64 0) (.int .i64 0) (.int .i64 0) (.slice none 0 0) (.slice none 0 0)) (Nat.le_refl _) hM.hB.size
          change bodyPost _ _ _ _ _ (st5 w5 w0.heap.size 0 (.int .i64 0) (.int .i64 0) (.int .i64 0) (.slice none 0 0) (.slice none 0 0))
          generalize st5 w5 w0.heap.size 0 (.int .i64 0) (.int .i64 0) (.int .i64 0) (.slice none 0 0) (.slice none 0 0) = Wd at B2u hb2 ⊢
          apply bodyPost_ret (v := .tuple #[.agg #[.int .i64 0, .int .i64 0, .int .i64 0, .slice none 0 0, .slice none 0 0], .int .i64 5])
          · exact results_cell1 Tryd.results19 _ Wd w0.heap.size 25 #[.int .i64 0, .int .i64 0, .int .i64 0, .slice none 0 0, .slice none 0 0] (0, 0) _ rfl B2u Tryd.underlying25 rfl (by kernel_rfl)
          · rfl
          · have HOK : okR b = false := okR_nof HF.out HDJ.out (Or.inl rfl) H8.out
            exact ⟨⟨_, by rw [HOK]; rfl, by rw [HOK]; exact ShW.make (s := ⟨0, 0, 0, [], []⟩) (World.ownsRow_nil _ _ _ _) ⟨[], rfl, World.ownsRow_nil _ _ _ _, fun k n e a c => by simp at c⟩⟩, hb2⟩
      · have HMN := Lib.hid hm
        clear hm
        cases rb
        · go_wp2_with (go_at_call 11; ((with_reducible refine (rlay_no s _ _ hM.toW.toR HSF.out HMN.out).mono ?_); rintro e' w5 ⟨rfl, bx⟩; (have hM := hM.below bx); have hP := hP.below bx; have KF := hP.flag; clear bx; (try clear k0 k1 k2 k3 k4 f0 f1 f2 f3 f4); (try clear q0 q1 q2 q3 q4 y0 y1 y2 y3 y4); obtain ⟨k0, k1, k2, k3, k4⟩ := cell5 hM.sb; have f0 := hM.sb.free 0; have f1 := hM.sb.free 1; have f2 := hM.sb.free 2; have f3 := hM.sb.free 3; have f4 := hM.sb.free 4; obtain ⟨q0, q1, q2, q3, q4⟩ := cell5 hM.zb; have y0 := hM.zb.free 0; have y1 := hM.zb.free 1; have y2 := hM.zb.free 2; have y3 := hM.zb.free 3; have y4 := hM.zb.free 4))
          have B2u := hM.zb.st5_ (.int .i64 0) (.int .i64 0) (.int .i64 0) (.slice none 0 0) (.slice none 0 0)
          have hb2 := below_grown hM.hB (st5_grown _ w0.heap.size 0 (.int .i64 0) (.int .i64 0) (.int .i64 0) (.slice none 0 0) (.slice none 0 0)) (Nat.le_refl _) hM.hB.size
          change bodyPost _ _ _ _ _ (st5 w5 w0.heap.size 0 (.int .i64 0) (.int .i64 0) (.int .i64 0) (.slice none 0 0) (.slice none 0 0))
          generalize st5 w5 w0.heap.size 0 (.int .i64 0) (.int .i64 0) (.int .i64 0) (.slice none 0 0) (.slice none 0 0) = Wd at B2u hb2 ⊢
          apply bodyPost_ret (v := .tuple #[.agg #[.int .i64 0, .int .i64 0, .int .i64 0, .slice none 0 0, .slice none 0 0], .int .i64 5])
          · exact results_cell1 Tryd.results19 _ Wd w0.heap.size 25 #[.int .i64 0, .int .i64 0, .int .i64 0, .slice none 0 0, .slice none 0 0] (0, 0) _ rfl B2u Tryd.underlying25 rfl (by kernel_rfl)
          · rfl
          · have HOK : okR b = false := okR_nof HF.out HDJ.out (Or.inr (Or.inl HMN.out)) H8.out
            exact ⟨⟨_, by rw [HOK]; rfl, by rw [HOK]; exact ShW.make (s := ⟨0, 0, 0, [], []⟩) (World.ownsRow_nil _ _ _ _) ⟨[], rfl, World.ownsRow_nil _ _ _ _, fun k n e a c => by simp at c⟩⟩, hb2⟩
        · go_wp2_with (go_at_call 11; ((with_reducible refine (rlay_no s _ _ hM.toW.toR HSF.out HMN.out).mono ?_); rintro e' w5 ⟨rfl, bx⟩; (have hM := hM.below bx); have hP := hP.below bx; have KF := hP.flag; clear bx; (try clear k0 k1 k2 k3 k4 f0 f1 f2 f3 f4); (try clear q0 q1 q2 q3 q4 y0 y1 y2 y3 y4); obtain ⟨k0, k1, k2, k3, k4⟩ := cell5 hM.sb; have f0 := hM.sb.free 0; have f1 := hM.sb.free 1; have f2 := hM.sb.free 2; have f3 := hM.sb.free 3; have f4 := hM.sb.free 4; obtain ⟨q0, q1, q2, q3, q4⟩ := cell5 hM.zb; have y0 := hM.zb.free 0; have y1 := hM.zb.free 1; have y2 := hM.zb.free 2; have y3 := hM.zb.free 3; have y4 := hM.zb.free 4))
          have B2u := hM.zb.st5_ (.int .i64 0) (.int .i64 0) (.int .i64 0) (.slice none 0 0) (.slice none 0 0)
          have hb2 := below_grown hM.hB (st5_grown _ w0.heap.size 0 (.int .i64 0) (.int .i64 0) (.int .i64 0) (.slice none 0 0) (.slice none 0 0)) (Nat.le_refl _) hM.hB.size
          change bodyPost _ _ _ _ _ (st5 w5 w0.heap.size 0 (.int .i64 0) (.int .i64 0) (.int .i64 0) (.slice none 0 0) (.slice none 0 0))
          generalize st5 w5 w0.heap.size 0 (.int .i64 0) (.int .i64 0) (.int .i64 0) (.slice none 0 0) (.slice none 0 0) = Wd at B2u hb2 ⊢
          apply bodyPost_ret (v := .tuple #[.agg #[.int .i64 0, .int .i64 0, .int .i64 0, .slice none 0 0, .slice none 0 0], .int .i64 5])
          · exact results_cell1 Tryd.results19 _ Wd w0.heap.size 25 #[.int .i64 0, .int .i64 0, .int .i64 0, .slice none 0 0, .slice none 0 0] (0, 0) _ rfl B2u Tryd.underlying25 rfl (by kernel_rfl)
          · rfl
          · have HOK : okR b = false := okR_nof HF.out HDJ.out (Or.inl rfl) H8.out
            exact ⟨⟨_, by rw [HOK]; rfl, by rw [HOK]; exact ShW.make (s := ⟨0, 0, 0, [], []⟩) (World.ownsRow_nil _ _ _ _) ⟨[], rfl, World.ownsRow_nil _ _ _ _, fun k n e a c => by simp at c⟩⟩, hb2⟩
end Go.Proofs.YtllnfociddodcaaDoor
namespace Go.Proofs.YtllnfociddodcaaDoor
open Go.ChangeShapes Go.WideShapes Go.ChangeAt Go.RowKit Go.Deep
def SlA (w : World) (A : Option Addr) (n c : Nat) (vs : List Value) : Prop := n = vs.length ∧ Sl w w.heap.size A vs ∧ n ≤ c ∧ c ≤ maxLen ∧ (A = none → n = 0 ∧ c = 0)
section
variable {H : Type} {enc : TypeId × Value → H} {P : Program} {w : World} {base : Nat} {spare : Nat → Bool} {held : Bool}
theorem slice_value2 {r : Reach} {b0 : Nat} {t e : TypeId} {v : Value} {d : DataW H} {p : List MemPlace} (ht : P.underlying t = some (.slice e)) (hC : P.cellsOf e = 1)
    (hv : Value.okWide P w r b0 t v) (h : DataW.Trod enc P w base spare held t v d p) :
    ∃ (A : Option Addr) (n c : Nat) (vs : List Value), v = .slice A n c ∧ SlA w A n c vs ∧ ∀ u ∈ vs, ∃ (k : Nat) (y : DataW H × List MemPlace), DataW.trod enc P w base spare held k e [u] = some y := by
  obtain ⟨a0, len, cap, rfl⟩ := okWide_slice ht hv
  obtain ⟨fuel, hf⟩ := h
  rcases open_slice ht hf with ⟨hcs, _⟩ | ⟨a, len', cap', m, k, D, Pl, hcs, _, hl, hml, hm, _, hi⟩
  · simp [Value.cells] at hcs
    obtain ⟨rfl, rfl, rfl⟩ := hcs
    exact ⟨none, 0, 0, [], rfl, ⟨rfl, Or.inl rfl, by omega, by unfold maxLen; omega, fun _ => ⟨rfl, rfl⟩⟩, by simp⟩
  · simp [Value.cells] at hcs
    obtain ⟨rfl, rfl, rfl⟩ := hcs
    have hlm : len ≤ m := by rw [hm]; split <;> omega
    have key : ∀ i, i < len → ∃ u y, w.cell? (a.add i) = some u ∧ DataW.trod enc P w base spare held k e [u] = some y := by
      intro i hlt
      obtain ⟨cs', hc, hy⟩ := hi i (by omega)
      rw [hC, Nat.mul_one] at hc
      obtain ⟨_, hl1, hat⟩ := World.cells?_some hc
      match cs', hl1 with
      | [u], _ =>
        have h0 := hat 0 (by omega)
        have e0 : (a.add i).add 0 = a.add i := by simp [Addr.add]
        rw [e0] at h0
        exact ⟨u, _, by simpa using h0, hy⟩
    rcases Nat.eq_zero_or_pos len with h0 | h0
    · subst h0
      exact ⟨some a, 0, cap, [], rfl, ⟨rfl, Or.inl rfl, hl, hml, by simp⟩, by simp⟩
    · obtain ⟨b, off, spot⟩ := a
      obtain ⟨u0, _, hu0, _⟩ := key 0 h0
      have hsp : spot = none := by simpa [Addr.add] using World.cell?_spot hu0
      subst hsp
      have hb : b < w.heap.size := by simpa [Addr.add] using World.block_lt_of_cell? _ _ hu0
      refine ⟨some ⟨b, off, none⟩, len, cap, (List.range len).map fun i => (w.cell? (Addr.add ⟨b, off, none⟩ i)).getD default, rfl, ⟨by simp, ?_, hl, hml, by simp⟩, ?_⟩
      · right
        refine ⟨b, off, rfl, hb, fun i v hv => ?_⟩
        obtain ⟨hlt, rfl⟩ := List.getElem?_eq_some_iff.1 hv
        have hlt' : i < len := by simpa using hlt
        obtain ⟨u, _, hu, _⟩ := key i hlt'
        rw [add_plain] at hu
        simp [add_plain, hu]
      · intro u hu
        obtain ⟨i, hi', rfl⟩ := List.mem_map.1 hu
        obtain ⟨u, y, hc, hy⟩ := key i (by simpa using hi')
        rw [hc]
        exact ⟨k, y, hy⟩
theorem nat_of_wf {k : IntKind} {z : Int} (hk : k.signed = false) (h : (Lit.int k z).wf = true) : 0 ≤ z ∧ z < 2 ^ k.bits := by
  simp only [Lit.wf, Bool.and_eq_true, decide_eq_true_eq] at h
  cases k <;> simp_all [IntKind.min, IntKind.max, IntKind.signed, IntKind.bits] <;> omega
theorem nats_value {k : IntKind} (hk : k.signed = false) {r : Reach} {b0 : Nat} {t e : TypeId} {v : Value} {d : DataW H} {p : List MemPlace} (ht : P.underlying t = some (.slice e)) (he : P.underlying e = some (.int k)) (hC : P.cellsOf e = 1)
    (hv : Value.okWide P w r b0 t v) (h : DataW.Trod enc P w base spare held t v d p) :
    ∃ (A : Option Addr) (n c : Nat) (zs : List Nat), v = .slice A n c ∧ SlA w A n c (zs.map fun (z : Nat) => Value.int k (z : Int)) ∧ ∀ z ∈ zs, z < 2 ^ k.bits := by
  obtain ⟨A, n, c, vs, rfl, hs, hu⟩ := slice_value2 ht hC hv h
  have key : ∀ u ∈ vs, ∃ z : Nat, u = .int k (z : Int) ∧ z < 2 ^ k.bits := by
    intro u hmem
    obtain ⟨f, y, hy⟩ := hu u hmem
    obtain ⟨z, hz, _, hw⟩ := DataW.trod_int he hy
    simp only [List.cons.injEq, and_true] at hz
    subst hz
    obtain ⟨h0, h1⟩ := nat_of_wf hk hw
    refine ⟨z.toNat, by rw [Int.toNat_of_nonneg h0], ?_⟩
    have : ((z.toNat : Nat) : Int) < 2 ^ k.bits := by rw [Int.toNat_of_nonneg h0]; exact h1
    exact_mod_cast this
  have hm : vs = (vs.map fun v => match v with | .int _ z => z.toNat | _ => 0).map (fun (z : Nat) => Value.int k (z : Int)) := by
    rw [List.map_map]
    refine (List.map_congr_left fun u hmem => ?_).trans (List.map_id vs) |>.symm
    obtain ⟨z, rfl, _⟩ := key u hmem
    simp
  refine ⟨A, n, c, vs.map fun v => match v with | .int _ z => z.toNat | _ => 0, rfl, by rw [← hm]; exact hs, ?_⟩
  intro z hz
  obtain ⟨u, hmem, rfl⟩ := List.mem_map.1 hz
  obtain ⟨z, rfl, hlt⟩ := key u hmem
  simpa using hlt
end
end Go.Proofs.YtllnfociddodcaaDoor
namespace Go.Proofs.YtllnfociddodcaaDoor
open Go.ChangeShapes Go.WideShapes Go.ChangeAt Go.RowKit
attribute [local go_sem ↓] Go.wp_at_zero Go.wp_at_succ
theorem lendB_own (bs : List Nat) (A : Option Addr) (c : Nat) (w : World) (h1 : Sl w w.heap.size A (bs.map byteV)) (n1 : bs.length ≤ 1000000) (hA : A = none → bs.length = 0 ∧ c = 0) :
    Calls Tryd.prog 17 #[.slice A bs.length c] w fun e w' =>
      ∃ g, e = .returned (.slice (some ⟨g, 0, none⟩) bs.length (bs.length + 3)) ∧ w.heap.size ≤ g ∧ LentB w' g (bs.map byteV) ∧ w'.ownsRow w.heap.size 5 1 (.slice (some ⟨g, 0, none⟩) bs.length (bs.length + 3)) bs.length (bs.map byteV) ∧ Below w.heap.size w w' := by
  obtain ⟨i0, hi, hz0, hz1, hz2⟩ := info_parts infoByte
  have H1 := Lib.hid h1
  clear h1
  go_enter Tryd.func17, Tryd.ntmps17
  go_wp2_with (first
    | (at_make; refine wpList_make_own _ rfl _ _ 28 rfl w.heap.size 5 i0 (.int .u8 0) 1 Tryd.underlying28 hi hz0 hz1 _ _ _ (bs.length + 3) rfl rfl (by go_num) (by rw [hz2]; omega) (by unfold maxLen; omega) (Nat.le_refl _) ?_; intro w1 hown1 hgrow1)
    | (at_builtin; refine wpList_append_fits_any _ rfl _ _ 28 rfl w.heap.size 5 i0 1 Tryd.underlying28 hi hz1 w.heap.size 0 (bs.length + 3) [] rfl hown1 A bs.length c (bs.map byteV) rfl (by simp) hA (Sl.cells_ (H1.out.below ((Below.refl _ _).grown hgrow1 (Nat.le_refl _) (fun j hj => by cases hj)))) (oneB bs) (by omega) ?_; intro w2 hown2 hgrow2))
  have e3 : bs.length + 3 - bs.length = 3 := by omega
  rw [e3]
  have hB2 : Below w.heap.size w w2 := ((Below.refl _ _).grown hgrow1 (Nat.le_refl _) (fun j hj => by cases hj)).grown hgrow2 hgrow1.size (fun j hj => by obtain rfl := Option.some.inj hj; exact Nat.le_refl _)
  have hl : (bs.map byteV).length = bs.length := by simp
  obtain ⟨cur, hblk, hsz, hpre⟩ : ∃ cur : Array Value, Blk w2 w.heap.size 5 cur ∧ cur.size = bs.length + 3 ∧ ∀ (j : Nat) (u : Value), (bs.map byteV)[j]? = some u → cur[j]? = some u := by
    rcases hown2.2 with ⟨h, _⟩ | ⟨g', cap', cur, h, _, hg, _, _, hcs, htake⟩
    · simp at h
    · simp only [Value.slice.injEq, Option.some.injEq, Addr.mk.injEq, and_true, true_and] at h
      obtain ⟨rfl, rfl⟩ := h
      refine ⟨cur, hg, by omega, fun j u hu => ?_⟩
      have hj := (List.getElem?_eq_some_iff.1 hu).1
      rw [List.nil_append] at htake
      rw [← htake, List.getElem?_take_of_lt (by omega)] at hu
      simpa using hu
  clear hown2 hown1 hgrow1 hgrow2
  go_loopw [5] (fun i wr => ∃ k : Nat, k ≤ 3 ∧ i = .int .i64 k ∧ (∃ cur : Array Value, Blk wr w.heap.size 5 cur ∧ cur.size = bs.length + 3 ∧ (∀ (j : Nat) (u : Value), (bs.map byteV)[j]? = some u → cur[j]? = some u) ∧ ∀ i : Nat, i < k → cur[bs.length + i]? = some (.int .u8 119)) ∧ Below w.heap.size w wr) (fun i _ => 3 - (intOf i).toNat)
  case atStart => exact ⟨0, by omega, rfl, ⟨cur, hblk, hsz, hpre, fun i hi => by omega⟩, hB2⟩
  case round =>
    obtain ⟨k, hk, rfl, ⟨cur, hblk, hsz, hpre, hdone⟩, hB⟩ := hrel
    by_cases hlt : k < 3
    · obtain ⟨x0, hx0⟩ : ∃ x, cur[bs.length + k]? = some x := ⟨_, Array.getElem?_eq_getElem (by omega)⟩
      have ck : wr.cell? ⟨w.heap.size, bs.length + k, none⟩ = some x0 := by rw [hblk.cell_]; exact hx0
      clear hx0
      have fz := hblk.free (bs.length + k)
      have i1 : (0 : Int) ≤ (k : Int) := by omega
      have i2 : (k : Int) < 3 := by omega
      have Hpre := Lib.hid hpre
      have Hdone := Lib.hid hdone
      have Hsz := Lib.hid hsz
      clear hpre hdone hsz
      go_wp2
      refine ⟨⟨k + 1, by omega, by go_num, ⟨_, hblk.set_ _ _, by rw [Array.size_setIfInBounds]; exact Hsz.out, fun j u hu => ?_, fun i hi => ?_⟩, hB.setCell (Nat.le_refl _) _⟩, by simp [intOf]; omega⟩
      · have hj := (List.getElem?_eq_some_iff.1 hu).1
        rw [Array.getElem?_setIfInBounds_ne (by omega)]
        exact Hpre.out j u hu
      · by_cases hik : i = k
        · subst hik
          rw [Array.getElem?_setIfInBounds_self_of_lt (by have := Hsz.out; omega)]
        · rw [Array.getElem?_setIfInBounds_ne (by omega)]
          exact Hdone.out i (by omega)
    · have : k = 3 := by omega
      subst this
      go_wp2
      go_ret
      refine ⟨_, rfl, Nat.le_refl _, ⟨cur, hblk, hpre, fun i hi => by rw [hl]; exact hdone i hi⟩, ⟨by simp, Or.inr ⟨w.heap.size, bs.length + 3, cur, rfl, Nat.le_refl _, hblk, by omega, by unfold maxLen; omega, by omega, ?_⟩⟩, hB⟩
      apply List.ext_getElem?
      intro j
      rw [List.getElem?_take]
      split
      · have hj : j < (bs.map byteV).length := by rw [hl]; omega
        have := hpre j _ (List.getElem?_eq_getElem hj)
        rw [List.getElem?_eq_getElem hj]
        simpa using this
      · rw [List.getElem?_eq_none (by rw [hl]; omega)]
theorem ShW.farG {w w' : World} {base g : Nat} {v : Value} {s : Sf} (h : ShW w base v s) (hg : w.grownBy w' (some g)) (hlt : g < base) : ShW w' base v s := by
  obtain ⟨vb, vn, es, rfl, h1, h2, h3, h4⟩ := h
  exact ShW.make (BksW.far h1 hg hlt) (NtsW.far ⟨es, h2, h3, h4⟩ hg hlt)
theorem lendN (bs : List Nat) (n : Nat) (hn : bs.length = n) (A : Option Addr) (c : Nat) (w : World) (h1 : Sl w w.heap.size A (bs.map byteV)) (n1 : n ≤ 1000000) (hA : A = none → n = 0 ∧ c = 0) :
    Calls Tryd.prog 17 #[.slice A n c] w fun e w' => ∃ g, e = .returned (.slice (some ⟨g, 0, none⟩) n (n + 3)) ∧ w.heap.size ≤ g ∧ LentB w' g (bs.map byteV) ∧ w'.ownsRow w.heap.size 5 1 (.slice (some ⟨g, 0, none⟩) n (n + 3)) n (bs.map byteV) ∧ Below w.heap.size w w' := by
  subst hn
  exact lendB_own bs A c w h1 n1 hA
theorem keptN (bs : List Nat) (n : Nat) (hn : bs.length = n) (g : Nat) (B : Option Addr) (d : Nat) (w : World) (h1 : LentB w g (bs.map byteV)) (h2 : Sl w w.heap.size B (bs.map byteV)) (n1 : n ≤ 1000000) :
    Calls Tryd.prog 20 #[.slice (some ⟨g, 0, none⟩) n (n + 3), .slice B n d] w fun e w' => e = .returned (.bool true) ∧ Below w.heap.size w w' := by
  subst hn
  have h := keptB_any bs bs g B d w h1 h2 n1 n1
  rw [decide_eq_true rfl] at h
  exact h
def sfN : Sf := ⟨0, 0, 0, [], []⟩
theorem sz_bd (b : List Nat) (h8 : Bytes8 b) : ∀ S, cond (okR b) (rAll b).1 sfN = S → S.bs.length ≤ 100000 ∧ S.ts.length ≤ 100000 ∧ ∀ n ∈ S.ts, n.tg.length ≤ 100000 ∧ n.sh.length ≤ 100000 := by
  rintro S rfl
  cases hq : okR b
  · exact ⟨Nat.zero_le _, Nat.zero_le _, fun n hn => by cases hn⟩
  · obtain ⟨s, h, _, h3⟩ := (okR_iff h8).1 hq
    show (rAll b).1.bs.length ≤ 100000 ∧ (rAll b).1.ts.length ≤ 100000 ∧ ∀ n ∈ (rAll b).1.ts, n.tg.length ≤ 100000 ∧ n.sh.length ≤ 100000
    rw [h3]
    have h1 := h.bl
    have h2 := h.tl
    refine ⟨by omega, by omega, fun n hn => ?_⟩
    have q1 := (h.nts hn).tl
    have q2 := (h.nts hn).sl
    omega
theorem readX (b : List Nat) (S : Sf) (E : Int) (hS : cond (okR b) (rAll b).1 sfN = S) (hE : cond (okR b) 0 5 = E) (n : Nat) (A : Option Addr) (c : Nat) (w : World) (hn : b.length = n) (h : Sl w w.heap.size A (b.map byteV)) (h8 : Bytes8 b) (hc : n ≤ c) (hcm : c ≤ maxLen) (n1 : n ≤ 100000) (hA : A = none → c = 0) (hT : Tabs w) :
    Calls Tryd.prog 18 #[.slice A n c] w fun e' w' => ∃ Ab1 cb1 An1 cn1, e' = .returned (.tuple #[.agg #[.int .i64 S.nb, .int .i64 S.nn, .int .i64 S.ns, .slice Ab1 S.bs.length cb1, .slice An1 S.ts.length cn1], .int .i64 E]) ∧ ShW w' w.heap.size (.agg #[.int .i64 S.nb, .int .i64 S.nn, .int .i64 S.ns, .slice Ab1 S.bs.length cb1, .slice An1 S.ts.length cn1]) S ∧ Below w.heap.size w w' := by
  refine (read_any b n A c w hn h h8 hc hcm n1 hA hT).mono ?_
  rintro e' w' ⟨⟨v', rfl, hS'⟩, hb⟩
  change ShW _ _ _ (cond (okR b) (rAll b).1 sfN) at hS'
  rw [hS] at hS'
  rw [hE]
  have hW := hS'
  obtain ⟨Ab, cb, An, cn, rfl, -⟩ := hS'.parts
  exact ⟨Ab, cb, An, cn, rfl, hW, hb⟩
theorem rreadX (b : List Nat) (S : Sf) (E : Int) (hS : cond (okR b) (rAll b).1 sfN = S) (hE : cond (okR b) 0 5 = E) (n : Nat) (A : Option Addr) (c : Nat) (w : World) (hn : b.length = n) (h : Sl w w.heap.size A (b.map byteV)) (h8 : Bytes8 b) (hc : n ≤ c) (hcm : c ≤ maxLen) (n1 : n ≤ 100000) (hA : A = none → c = 0) :
    Calls Tryd.prog 19 #[.slice A n c] w fun e' w' => ∃ Ab2 cb2 An2 cn2, e' = .returned (.tuple #[.agg #[.int .i64 S.nb, .int .i64 S.nn, .int .i64 S.ns, .slice Ab2 S.bs.length cb2, .slice An2 S.ts.length cn2], .int .i64 E]) ∧ ShW w' w.heap.size (.agg #[.int .i64 S.nb, .int .i64 S.nn, .int .i64 S.ns, .slice Ab2 S.bs.length cb2, .slice An2 S.ts.length cn2]) S ∧ Below w.heap.size w w' := by
  refine (rread_any b n A c w hn h h8 hc hcm n1 hA).mono ?_
  rintro e' w' ⟨⟨v', rfl, hS'⟩, hb⟩
  change ShW _ _ _ (cond (okR b) (rAll b).1 sfN) at hS'
  rw [hS] at hS'
  rw [hE]
  have hW := hS'
  obtain ⟨Ab, cb, An, cn, rfl, -⟩ := hS'.parts
  exact ⟨Ab, cb, An, cn, rfl, hW, hb⟩
theorem reads_walk (A1 : Option Addr) (n1 c1 : Nat) (bs : List Nat) (w : World) (r1 : SlA w A1 n1 c1 (bs.map byteV)) (h8 : Bytes8 bs) (hT : Tabs w) :
    Calls Tryd.prog 4 #[.slice A1 n1 c1] w fun e' w' => e' = .returned (.bool true) ∧ Below w.heap.size w w' := by
  have hT0 := hT
  obtain ⟨hn0, h1, j1, j2, j30⟩ := r1
  have HA3 : Hid (A1 = none → c1 = 0) := Lib.hid (fun h => (j30 h).2)
  have HA2 : Hid (A1 = none → n1 = 0 ∧ c1 = 0) := Lib.hid j30
  have hn : bs.length = n1 := by rw [hn0, List.length_map]
  have HN := Lib.hid hn
  have H8 := Lib.hid h8
  have HSL := Lib.hid h1
  have HB : Below w.heap.size w w := Below.refl _ _
  obtain ⟨S, hS⟩ : ∃ S, cond (okR bs) (rAll bs).1 sfN = S := ⟨_, rfl⟩
  obtain ⟨E, hE⟩ : ∃ E : Int, cond (okR bs) 0 5 = E := ⟨_, rfl⟩
  have HSB := Lib.hid (sz_bd bs h8 S hS)
  have HSS := Lib.hid hS
  have HSE := Lib.hid hE
  clear hn0 j30 hn h8 h1 hT hS hE
  by_cases hbig : 1500 < n1
  · have i0 : (1500 : Int) < (n1 : Int) := by omega
    go_enter Tryd.func4, Tryd.ntmps4
    go_wp2_with (go_at_call 9; ((with_reducible refine (awakeC_any _ (Tabs.next hT0 HB)).mono ?_); rintro e' wN ⟨rfl, bx⟩; have HB := btr HB HB.size bx; clear bx))
    go_ret
    exact ⟨rfl, HB⟩
  · have i0 : ¬ (1500 : Int) < (n1 : Int) := by omega
    have i1 : n1 ≤ 1500 := by omega
    clear hbig
    go_enter Tryd.func4, Tryd.ntmps4
    go_wp2_with (first | (go_at_call 17; ((with_reducible refine (lendN bs n1 HN.out A1 c1 _ ((HSL.out.below HB).mono HB.size) (by omega) HA2.out).mono ?_); rintro e' wN ⟨gL, rfl, hgL, HLB, LOK, bx⟩; have hgw := HLB.lt; have LOK := own_bs LOK HB.size; have hgL := Nat.le_trans HB.size hgL; have HB := btr HB HB.size bx; clear bx)) | (go_at_call 18; ((with_reducible refine (readX bs S E HSS.out HSE.out n1 (some ⟨gL, 0, none⟩) (n1 + 3) _ HN.out (Sl.of_own LOK) H8.out (by omega) (by unfold maxLen; omega) (by omega) (fun h => by cases h) (Tabs.next hT0 HB)).mono ?_); rintro e' wN ⟨Ab1, cb1, An1, cn1, rfl, Q4, bx⟩; have hl4 := HLB.lt; have HB := btr HB HB.size bx; have HLB := HLB.below bx HLB.lt; have LOK := own_belowW LOK bx; clear bx; have bx : Below wN.heap.size wN (wN.alloc (.cells #[.int .i64 S.nb, .int .i64 S.nn, .int .i64 S.ns, .slice Ab1 S.bs.length cb1, .slice An1 S.ts.length cn1] 25)) := (Below.refl _ _).alloc (Nat.le_refl _) _; have B4 : Blk (wN.alloc (.cells #[.int .i64 S.nb, .int .i64 S.nn, .int .i64 S.ns, .slice Ab1 S.bs.length cb1, .slice An1 S.ts.length cn1] 25)) wN.heap.size 25 #[.int .i64 S.nb, .int .i64 S.nn, .int .i64 S.ns, .slice Ab1 S.bs.length cb1, .slice An1 S.ts.length cn1] := Blk.new_ _ _ _; have h4 : gL < wN.heap.size := HLB.lt; have Q4 := Q4.below bx; have HB := btr HB HB.size bx; have HLB := HLB.below bx HLB.lt; have LOK := own_belowW LOK bx; clear bx; (try clear k0 k1 k2 k3 k4); obtain ⟨k0, k1, k2, k3, k4⟩ := cell5 B4)) | (go_at_call 19; ((with_reducible refine (rreadX bs S E HSS.out HSE.out n1 A1 c1 _ HN.out ((HSL.out.below HB).mono HB.size) H8.out j1 j2 (by omega) HA3.out).mono ?_); rintro e' wN ⟨Ab2, cb2, An2, cn2, rfl, Q6, bx⟩; have hl6 := HLB.lt; have HB := btr HB HB.size bx; have HLB := HLB.below bx HLB.lt; have LOK := own_belowW LOK bx; have Q4 := Q4.below bx; have B4 := B4.below bx B4.lt; clear bx; have bx : Below wN.heap.size wN (wN.alloc (.cells #[.int .i64 S.nb, .int .i64 S.nn, .int .i64 S.ns, .slice Ab2 S.bs.length cb2, .slice An2 S.ts.length cn2] 25)) := (Below.refl _ _).alloc (Nat.le_refl _) _; have B6 : Blk (wN.alloc (.cells #[.int .i64 S.nb, .int .i64 S.nn, .int .i64 S.ns, .slice Ab2 S.bs.length cb2, .slice An2 S.ts.length cn2] 25)) wN.heap.size 25 #[.int .i64 S.nb, .int .i64 S.nn, .int .i64 S.ns, .slice Ab2 S.bs.length cb2, .slice An2 S.ts.length cn2] := Blk.new_ _ _ _; have h6 : gL < wN.heap.size := HLB.lt; have Q6 := Q6.below bx; have HB := btr HB HB.size bx; have HLB := HLB.below bx HLB.lt; have LOK := own_belowW LOK bx; have Q4 := Q4.below bx; have B4 := B4.below bx B4.lt; clear bx; (try clear k0 k1 k2 k3 k4); obtain ⟨k0, k1, k2, k3, k4⟩ := cell5 B4; (try clear q0 q1 q2 q3 q4); obtain ⟨q0, q1, q2, q3, q4⟩ := cell5 B6)) | (go_at_call 20; ((with_reducible refine (keptN bs n1 HN.out gL A1 c1 _ HLB ((HSL.out.below HB).mono HB.size) (by omega)).mono ?_); rintro e' wN ⟨rfl, bx⟩; have HB := btr HB HB.size bx; have HLB := HLB.below bx HLB.lt; have LOK := own_belowW LOK bx; have Q4 := Q4.below bx; have B4 := B4.below bx B4.lt; have Q6 := Q6.below bx; have B6 := B6.below bx B6.lt; clear bx; (try clear k0 k1 k2 k3 k4); obtain ⟨k0, k1, k2, k3, k4⟩ := cell5 B4; (try clear q0 q1 q2 q3 q4); obtain ⟨q0, q1, q2, q3, q4⟩ := cell5 B6)) | (go_at_call 16; ((with_reducible refine (over_own n1 gL (n1 + 3) _ w.heap.size _ LOK HB.size (by omega)).mono ?_); rintro e' wN ⟨⟨vx, rfl⟩, hg⟩; have HB := below_grown HB hg hgL HB.size; have Q4 := Q4.farG hg hl4; have B4 := B4.grownR hg (fun e => by injection e; omega); have Q6 := Q6.farG hg hl6; have B6 := B6.grownR hg (fun e => by injection e; omega); clear LOK HLB hg; (try clear k0 k1 k2 k3 k4); obtain ⟨k0, k1, k2, k3, k4⟩ := cell5 B4; (try clear q0 q1 q2 q3 q4); obtain ⟨q0, q1, q2, q3, q4⟩ := cell5 B6)) | (go_at_call 21; ((with_reducible refine (sameShelf_yes S _ _ _ Q4.toR Q6.toR (HSB.out).1 (HSB.out).2.1 (HSB.out).2.2).mono ?_); rintro e' wN ⟨rfl, bx⟩; have HB := btr HB HB.size bx; clear bx)) | (go_at_call 13; ((with_reducible refine (num_any _ _).mono ?_); rintro e' wN ⟨rfl, bx⟩; have HB := btr HB HB.size bx; clear bx)) | (go_at_call 9; ((with_reducible refine (awakeC_any _ (Tabs.next hT0 HB)).mono ?_); rintro e' wN ⟨rfl, bx⟩; have HB := btr HB HB.size bx; clear bx)))
    go_ret
    exact ⟨rfl, HB⟩
end Go.Proofs.YtllnfociddodcaaDoor
namespace Go.Proofs.YtllnfociddodcaaDoor
open Go.ChangeShapes Go.WideShapes Go.ChangeAt Go.RowKit
theorem acc_eq : Rows.laid_unicode_utf8_acceptRanges = Lib.acceptData := by kernel_rfl
theorem first_eq : Rows.laid_unicode_utf8_first = Lib.firstData := Pinned.utf8First_eq
def laidTabs : List (String × DataW Unit) := [("unicode/utf8.acceptRanges", Lib.acceptData), ("unicode/utf8.first", Lib.firstData)]
theorem laid_eq : [("unicode/utf8.acceptRanges", Rows.laid_unicode_utf8_acceptRanges), ("unicode/utf8.first", Rows.laid_unicode_utf8_first)] = laidTabs := by rw [acc_eq, first_eq]; rfl
noncomputable def laidWorld (os : Os) : World :=
  let w0 := World.holding Tryd.prog os ⟨#[], #[], []⟩
  let put (h : Array Obj) (g : Nat) (cs : Array Value) : Array Obj := h.modify g fun
    | .cells _ t frozen => .cells cs t frozen
    | o => o
  let h1 := put w0.heap 0 (Lib.firstTab.map fun z => Value.int .u8 z).toArray
  let h2 := put h1 1 ((List.range 16).flatMap fun i => [Value.int .u8 (Lib.accLo i), Value.int .u8 (Lib.accHi i)]).toArray
  { w0 with heap := h2 }
theorem noHandle (w : World) : laidMetH Tryd.prog laidTabs w ↔ laidMet Tryd.prog laidTabs w := by
  have e : (laidTabs.filter fun x => x.2.handleName?.isSome) = [] := by kernel_rfl
  unfold laidMetH
  rw [e]
theorem laid_met (os : Os) (args : Array Value) : laidMetH Tryd.prog [("unicode/utf8.acceptRanges", Rows.laid_unicode_utf8_acceptRanges), ("unicode/utf8.first", Rows.laid_unicode_utf8_first)] ((laidWorld os).forCall (fun _ _ => 0) ⟨#[], args, []⟩).memory := by
  rw [laid_eq, noHandle]
  exact (LaidIn.of_run (l := laidTabs) [0, 1] 8 (by kernel_rfl) (by kernel_rfl) (by kernel_rfl) (by kernel_rfl)).met
theorem tabs_of {W : World} (h : laidMetH Tryd.prog [("unicode/utf8.acceptRanges", Rows.laid_unicode_utf8_acceptRanges), ("unicode/utf8.first", Rows.laid_unicode_utf8_first)] W) : Tabs W := by
  rw [laid_eq, noHandle] at h
  exact utf8Tabs_of_readsT (U8Types.of196 Tryd.laysValid) ⟨by kernel_rfl, by kernel_rfl, by kernel_rfl, by kernel_rfl, by kernel_rfl, by kernel_rfl, by kernel_rfl⟩ (Lib.laidMet.reads h (.tail _ (.head _))) (Lib.laidMet.reads h (.head _))
end Go.Proofs.YtllnfociddodcaaDoor
