/- Chapter 17's own: may the shelf be? -/
import Derived.Test.YtllnfociddodcaaDoorCy5
import Derived.Test.YtllnfociddodcaaDoorCy4
import Derived.Test.YtllnfociddodcaaDoorCy2
import Derived.Test.YtllnfociddodcaaDoorCy3
import Derived.Test.YtllnfociddodcaaDoorCy1
import Derived.Test.YtllnfociddodcaaDoorRows
import Derived.SevenTiedAt
import Derived.LaidHandle
import Derived.Lib.LaidIn
import Derived.Lib.LaidU8T
import Derived.PinnedBridge
import Derived.ChangeMaps5
set_option linter.unusedSimpArgs false
set_option linter.unusedVariables false
set_option maxRecDepth 100000
set_option maxHeartbeats 16000000
namespace Go.Proofs.YtllnfociddodcaaDoor
open Go.ChangeShapes Go.WideShapes Go.ChangeAt Go.RowKit
attribute [local go_sem ↓] Go.wp_at_zero Go.wp_at_succ
structure SzF (s : Sf) : Prop where
  hb : ∀ b ∈ s.bs, b.nm.size ≤ 100000
  hn : ∀ b ∈ s.ts, b.nm.size ≤ 100000 ∧ ((∀ t ∈ b.tg, t.size ≤ 100000) ∧ b.tg.length ≤ 100000) ∧ b.sh.length ≤ 100000
  bl : s.bs.length ≤ 100000
  tl : s.ts.length ≤ 100000
  fl : (s.ts.flatMap Nt.sh).length ≤ 100000
def rMayB (s : Sf) : Bool := rbkB s && (rntB s && rshB s)
theorem rMay_any (s : Sf) (v : Value) (w : World) (hS : ShR w w.heap.size v s) (hz : SzF s) (T : Bool) (hT0 : rMayB s = T) :
    Calls Tryd.prog 28 #[v] w fun e' w' => e' = .returned (.bool T) ∧ Below w.heap.size w w' := by
  have hS0 := hS
  obtain ⟨Ab, cb, An, cn, rfl, hB, hN, hcb, hmb, hcn, hmn⟩ := hS.ex
  clear hS
  have HB : Below w.heap.size w (w.alloc (.cells #[.int .i64 s.nb, .int .i64 s.nn, .int .i64 s.ns, .slice Ab s.bs.length cb, .slice An s.ts.length cn] 25)) := ((Below.refl w.heap.size w).alloc (by first | (simp; done) | (simp; omega)) _)
  have B1 : Blk (w.alloc (.cells #[.int .i64 s.nb, .int .i64 s.nn, .int .i64 s.ns, .slice Ab s.bs.length cb, .slice An s.ts.length cn] 25)) w.heap.size 25 #[.int .i64 s.nb, .int .i64 s.nn, .int .i64 s.ns, .slice Ab s.bs.length cb, .slice An s.ts.length cn] := Blk.new_ w 25 #[.int .i64 s.nb, .int .i64 s.nn, .int .i64 s.ns, .slice Ab s.bs.length cb, .slice An s.ts.length cn]
  have S1 : ShR (w.alloc (.cells #[.int .i64 s.nb, .int .i64 s.nn, .int .i64 s.ns, .slice Ab s.bs.length cb, .slice An s.ts.length cn] 25)) ((w.alloc (.cells #[.int .i64 s.nb, .int .i64 s.nn, .int .i64 s.ns, .slice Ab s.bs.length cb, .slice An s.ts.length cn] 25))).heap.size (.agg #[.int .i64 s.nb, .int .i64 s.nn, .int .i64 s.ns, .slice Ab s.bs.length cb, .slice An s.ts.length cn]) s := hS0.next HB
  have HZ := Lib.hid hz
  obtain ⟨R1, h1⟩ : ∃ R, rbkB s = R := ⟨_, rfl⟩
  obtain ⟨R2, h2⟩ : ∃ R, rntB s = R := ⟨_, rfl⟩
  obtain ⟨R3, h3⟩ : ∃ R, rshB s = R := ⟨_, rfl⟩
  unfold rMayB at hT0
  rw [h1, h2, h3] at hT0
  have H0 := Lib.hid hT0
  have H1 := Lib.hid h1
  have H2 := Lib.hid h2
  have H3 := Lib.hid h3
  clear hT0 h1 h2 h3 hS0 hB hN hcb hmb hcn hmn hz
  cases R1
  · skip
    go_enter Tryd.func28, Tryd.ntmps28
    go_wp2_with (first | (go_at_call 41; ((with_reducible refine (rbooks_any s _ _ S1 HZ.out.hb HZ.out.bl _ H1.out).mono ?_); rintro e' w4 ⟨rfl, b4⟩; have S1 := S1.next b4; have B1 := B1.below b4 B1.lt; have HB := btr HB HB.size b4; (try clear k0 k1 k2 k3 k4); have k0 := B1.cell_ 0; have k1 := B1.cell_ 1; have k2 := B1.cell_ 2; have k3 := B1.cell_ 3; have k4 := B1.cell_ 4; simp at k0 k1 k2 k3 k4; clear b4)))
    go_ret
    exact ⟨by rw [← H0.out]; rfl, HB⟩
  · cases R2
    · skip
      go_enter Tryd.func28, Tryd.ntmps28
      go_wp2_with (first | (go_at_call 41; ((with_reducible refine (rbooks_any s _ _ S1 HZ.out.hb HZ.out.bl _ H1.out).mono ?_); rintro e' w4 ⟨rfl, b4⟩; have S1 := S1.next b4; have B1 := B1.below b4 B1.lt; have HB := btr HB HB.size b4; (try clear k0 k1 k2 k3 k4); have k0 := B1.cell_ 0; have k1 := B1.cell_ 1; have k2 := B1.cell_ 2; have k3 := B1.cell_ 3; have k4 := B1.cell_ 4; simp at k0 k1 k2 k3 k4; clear b4)) | (go_at_call 42; ((with_reducible refine (rnotes_any s _ _ S1 HZ.out.hn ⟨HZ.out.bl, HZ.out.tl⟩ _ H2.out).mono ?_); rintro e' w5 ⟨rfl, b5⟩; have S1 := S1.next b5; have B1 := B1.below b5 B1.lt; have HB := btr HB HB.size b5; (try clear k0 k1 k2 k3 k4); have k0 := B1.cell_ 0; have k1 := B1.cell_ 1; have k2 := B1.cell_ 2; have k3 := B1.cell_ 3; have k4 := B1.cell_ 4; simp at k0 k1 k2 k3 k4; clear b5)))
      go_ret
      exact ⟨by rw [← H0.out]; rfl, HB⟩
    · cases R3
      · skip
        go_enter Tryd.func28, Tryd.ntmps28
        go_wp2_with (first | (go_at_call 41; ((with_reducible refine (rbooks_any s _ _ S1 HZ.out.hb HZ.out.bl _ H1.out).mono ?_); rintro e' w4 ⟨rfl, b4⟩; have S1 := S1.next b4; have B1 := B1.below b4 B1.lt; have HB := btr HB HB.size b4; (try clear k0 k1 k2 k3 k4); have k0 := B1.cell_ 0; have k1 := B1.cell_ 1; have k2 := B1.cell_ 2; have k3 := B1.cell_ 3; have k4 := B1.cell_ 4; simp at k0 k1 k2 k3 k4; clear b4)) | (go_at_call 42; ((with_reducible refine (rnotes_any s _ _ S1 HZ.out.hn ⟨HZ.out.bl, HZ.out.tl⟩ _ H2.out).mono ?_); rintro e' w5 ⟨rfl, b5⟩; have S1 := S1.next b5; have B1 := B1.below b5 B1.lt; have HB := btr HB HB.size b5; (try clear k0 k1 k2 k3 k4); have k0 := B1.cell_ 0; have k1 := B1.cell_ 1; have k2 := B1.cell_ 2; have k3 := B1.cell_ 3; have k4 := B1.cell_ 4; simp at k0 k1 k2 k3 k4; clear b5)) | (go_at_call 43; ((with_reducible refine (rsheets_any s _ _ S1 HZ.out.tl HZ.out.fl _ H3.out).mono ?_); rintro e' w6 ⟨rfl, b6⟩; have S1 := S1.next b6; have B1 := B1.below b6 B1.lt; have HB := btr HB HB.size b6; (try clear k0 k1 k2 k3 k4); have k0 := B1.cell_ 0; have k1 := B1.cell_ 1; have k2 := B1.cell_ 2; have k3 := B1.cell_ 3; have k4 := B1.cell_ 4; simp at k0 k1 k2 k3 k4; clear b6)))
        go_ret
        exact ⟨by rw [← H0.out]; rfl, HB⟩
      · skip
        go_enter Tryd.func28, Tryd.ntmps28
        go_wp2_with (first | (go_at_call 41; ((with_reducible refine (rbooks_any s _ _ S1 HZ.out.hb HZ.out.bl _ H1.out).mono ?_); rintro e' w4 ⟨rfl, b4⟩; have S1 := S1.next b4; have B1 := B1.below b4 B1.lt; have HB := btr HB HB.size b4; (try clear k0 k1 k2 k3 k4); have k0 := B1.cell_ 0; have k1 := B1.cell_ 1; have k2 := B1.cell_ 2; have k3 := B1.cell_ 3; have k4 := B1.cell_ 4; simp at k0 k1 k2 k3 k4; clear b4)) | (go_at_call 42; ((with_reducible refine (rnotes_any s _ _ S1 HZ.out.hn ⟨HZ.out.bl, HZ.out.tl⟩ _ H2.out).mono ?_); rintro e' w5 ⟨rfl, b5⟩; have S1 := S1.next b5; have B1 := B1.below b5 B1.lt; have HB := btr HB HB.size b5; (try clear k0 k1 k2 k3 k4); have k0 := B1.cell_ 0; have k1 := B1.cell_ 1; have k2 := B1.cell_ 2; have k3 := B1.cell_ 3; have k4 := B1.cell_ 4; simp at k0 k1 k2 k3 k4; clear b5)) | (go_at_call 43; ((with_reducible refine (rsheets_any s _ _ S1 HZ.out.tl HZ.out.fl _ H3.out).mono ?_); rintro e' w6 ⟨rfl, b6⟩; have S1 := S1.next b6; have B1 := B1.below b6 B1.lt; have HB := btr HB HB.size b6; (try clear k0 k1 k2 k3 k4); have k0 := B1.cell_ 0; have k1 := B1.cell_ 1; have k2 := B1.cell_ 2; have k3 := B1.cell_ 3; have k4 := B1.cell_ 4; simp at k0 k1 k2 k3 k4; clear b6)))
        go_ret
        exact ⟨by rw [← H0.out]; rfl, HB⟩
end Go.Proofs.YtllnfociddodcaaDoor
namespace Go.Proofs.YtllnfociddodcaaDoor
open Go.ChangeShapes Go.WideShapes Go.ChangeAt Go.RowKit
attribute [local go_sem ↓] Go.wp_at_zero Go.wp_at_succ
theorem bkOk_iff {s : Sf} : ∀ (l pre : List Bk), bkOk s pre l = true ↔ (∀ b ∈ l, 1 ≤ b.id ∧ b.id < s.nb ∧ mayN b.nm = true) ∧ (∀ a, pre.getLast? = some a → ∀ b ∈ l, a.id < b.id) ∧ (l.Pairwise fun a b => a.id < b.id) ∧ (l.Pairwise fun a b => sameS a.nm b.nm = false) ∧ ∀ a ∈ pre, ∀ b ∈ l, sameS a.nm b.nm = false
  | [], pre => by simp [bkOk]
  | x :: l, pre => by
    have ih := bkOk_iff (s := s) l (pre ++ [x])
    have hp : prevOk pre x = true ↔ ∀ a, pre.getLast? = some a → a.id < x.id := by
      unfold prevOk
      cases pre.getLast? with
      | none => simp
      | some p => simp
    show (decide (1 ≤ x.id) && (decide (x.id < s.nb) && (prevOk pre x && (mayN x.nm && (!pre.any (fun c => sameS c.nm x.nm) && bkOk s (pre ++ [x]) l))))) = true ↔ _
    rw [Bool.and_eq_true, Bool.and_eq_true, Bool.and_eq_true, Bool.and_eq_true, Bool.and_eq_true, ih, hp, decide_eq_true_eq, decide_eq_true_eq, Bool.not_eq_true', List.any_eq_false, List.pairwise_cons, List.pairwise_cons]
    constructor
    · rintro ⟨h1, h2, h3, h4, h5, h6, h7, h8, h9, h10⟩
      have hx : ∀ b ∈ l, x.id < b.id := fun b hb => h7 x (by simp) b hb
      refine ⟨fun b hb => ?_, fun a ha b hb => ?_, ⟨hx, h8⟩, ⟨fun b hb => h10 x (by simp) b hb, h9⟩, fun a ha b hb => ?_⟩
      · rcases List.mem_cons.1 hb with rfl | hb
        · exact ⟨h1, h2, h4⟩
        · exact h6 b hb
      · have := h3 a ha
        rcases List.mem_cons.1 hb with rfl | hb
        · exact this
        · have := hx b hb
          omega
      · rcases List.mem_cons.1 hb with rfl | hb
        · simpa using h5 a ha
        · exact h10 a (by simp [ha]) b hb
    · rintro ⟨h1, h2, ⟨h3, h4⟩, ⟨h5, h6⟩, h7⟩
      refine ⟨(h1 x (by simp)).1, (h1 x (by simp)).2.1, fun a ha => h2 a ha x (by simp), (h1 x (by simp)).2.2, fun a ha => by simp [h7 a ha x (by simp)], fun b hb => h1 b (by simp [hb]), fun a ha b hb => ?_, h4, h6, fun a ha b hb => ?_⟩
      · have : x = a := by simpa using ha
        subst this
        exact h3 b hb
      · rcases List.mem_append.1 ha with ha | ha
        · exact h7 a ha b (by simp [hb])
        · have : a = x := by simpa using ha
          subst this
          exact h5 b hb
theorem pair_at {l : List Bk} {R : Bk → Bk → Prop} (h : l.Pairwise R) {a b : Bk} (ha : a ∈ l) (hb : b ∈ l) (hne : a ≠ b) : R a b ∨ R b a := by
  obtain ⟨i, hi, rfl⟩ := List.mem_iff_getElem.1 ha
  obtain ⟨j, hj, rfl⟩ := List.mem_iff_getElem.1 hb
  have := List.pairwise_iff_getElem.1 h
  rcases Nat.lt_trichotomy i j with hij | rfl | hij
  · exact Or.inl (this i j hi hj hij)
  · exact absurd rfl hne
  · exact Or.inr (this j i hj hi hij)
theorem sameS_comm {a b : ByteArray} : sameS a b = sameS b a := by
  unfold sameS
  rw [Bool.eq_iff_iff, beq_iff_eq, beq_iff_eq]
  exact eq_comm
theorem rbk_eq (s : Sf) : rbkB s = (inI s.nb 1 65536 && (decide (s.bs.length ≤ 6) && booksFrom s 0 s.bs)) := by
  unfold rbkB
  rw [Bool.eq_iff_iff, Bool.and_eq_true, Bool.and_eq_true, Bool.and_eq_true, Bool.and_eq_true, bkOk_iff]
  constructor
  · rintro ⟨h1, h2, h3, -, h4, h5, -⟩
    refine ⟨h2, h1, books_conv s.bs 0 (fun b hb => ⟨by have := h3 b hb; omega, by have := h3 b hb; omega, (h3 b hb).2.2, tkB_iff.2 fun c hc he => ?_⟩) h4⟩
    by_cases hcb : c = b
    · rw [hcb]
    · have hs : sameS c.nm b.nm = true := by simp [sameS, he]
      rcases pair_at h5 hc hb hcb with h | h
      · rw [hs] at h
        cases h
      · rw [sameS_comm, hs] at h
        cases h
  · rintro ⟨h1, h2, h3⟩
    obtain ⟨q1, q2⟩ := books_all s.bs 0 h3
    refine ⟨h2, h1, fun b hb => ⟨by have := q1 b hb; omega, by have := q1 b hb; omega, (q1 b hb).2.2.1⟩, fun a ha => by simp at ha, q2, ?_, fun a ha => by simp at ha⟩
    refine q2.imp_of_mem fun {a b} ha hb hlt => ?_
    cases hs : sameS a.nm b.nm
    · rfl
    · have := tkB_iff.1 (q1 b hb).2.2.2 a ha (by simpa [sameS] using hs)
      omega
end Go.Proofs.YtllnfociddodcaaDoor
namespace Go.Proofs.YtllnfociddodcaaDoor
open Go.ChangeShapes Go.WideShapes Go.ChangeAt Go.RowKit
attribute [local go_sem ↓] Go.wp_at_zero Go.wp_at_succ
def clash (a b : Nt) : Bool := sameS a.nm b.nm && a.bk == b.bk
theorem clash_comm {a b : Nt} : clash a b = clash b a := by
  unfold clash
  rw [sameS_comm, Bool.eq_iff_iff, Bool.and_eq_true, Bool.and_eq_true, beq_iff_eq, beq_iff_eq]
  exact and_congr Iff.rfl eq_comm
theorem ntOk_iff {s : Sf} : ∀ (l pre : List Nt), ntOk s pre l = true ↔ (∀ b ∈ l, 1 ≤ b.id ∧ b.id < s.nn ∧ mayN b.nm = true ∧ 0 ≤ bookAt s b.bk ∧ mayTg b.tg = true ∧ b.sh.length ≤ 8) ∧ (∀ a, pre.getLast? = some a → ∀ b ∈ l, a.id < b.id) ∧ (l.Pairwise fun a b => a.id < b.id) ∧ (l.Pairwise fun a b => clash a b = false) ∧ ∀ a ∈ pre, ∀ b ∈ l, clash a b = false
  | [], pre => by simp [ntOk]
  | x :: l, pre => by
    have ih := ntOk_iff (s := s) l (pre ++ [x])
    have hp : prevNk pre x = true ↔ ∀ a, pre.getLast? = some a → a.id < x.id := by
      unfold prevNk
      cases pre.getLast? with
      | none => simp
      | some p => simp
    show (decide (1 ≤ x.id) && (decide (x.id < s.nn) && (prevNk pre x && (mayN x.nm && (decide (0 ≤ bookAt s x.bk) && (mayTg x.tg && (decide (x.sh.length ≤ 8) && (!pre.any (fun c => clash c x) && ntOk s (pre ++ [x]) l)))))))) = true ↔ _
    rw [Bool.and_eq_true, Bool.and_eq_true, Bool.and_eq_true, Bool.and_eq_true, Bool.and_eq_true, Bool.and_eq_true, Bool.and_eq_true, Bool.and_eq_true, ih, hp, decide_eq_true_eq, decide_eq_true_eq, decide_eq_true_eq, decide_eq_true_eq, Bool.not_eq_true', List.any_eq_false, List.pairwise_cons, List.pairwise_cons]
    constructor
    · rintro ⟨h1, h2, h3, h4, g1, g2, g3, h5, h6, h7, h8, h9, h10⟩
      have hx : ∀ b ∈ l, x.id < b.id := fun b hb => h7 x (by simp) b hb
      refine ⟨fun b hb => ?_, fun a ha b hb => ?_, ⟨hx, h8⟩, ⟨fun b hb => h10 x (by simp) b hb, h9⟩, fun a ha b hb => ?_⟩
      · rcases List.mem_cons.1 hb with rfl | hb
        · exact ⟨h1, h2, h4, g1, g2, g3⟩
        · exact h6 b hb
      · have := h3 a ha
        rcases List.mem_cons.1 hb with rfl | hb
        · exact this
        · have := hx b hb
          omega
      · rcases List.mem_cons.1 hb with rfl | hb
        · simpa using h5 a ha
        · exact h10 a (by simp [ha]) b hb
    · rintro ⟨h1, h2, ⟨h3, h4⟩, ⟨h5, h6⟩, h7⟩
      obtain ⟨k1, k2, k3, k4, k5, k6⟩ := h1 x (by simp)
      refine ⟨k1, k2, fun a ha => h2 a ha x (by simp), k3, k4, k5, k6, fun a ha => by simp [h7 a ha x (by simp)], fun b hb => h1 b (by simp [hb]), fun a ha b hb => ?_, h4, h6, fun a ha b hb => ?_⟩
      · have : x = a := by simpa using ha
        subst this
        exact h3 b hb
      · rcases List.mem_append.1 ha with ha | ha
        · exact h7 a ha b (by simp [hb])
        · have : a = x := by simpa using ha
          subst this
          exact h5 b hb
theorem npair_at {l : List Nt} {R : Nt → Nt → Prop} (h : l.Pairwise R) {a b : Nt} (ha : a ∈ l) (hb : b ∈ l) (hne : a ≠ b) : R a b ∨ R b a := by
  obtain ⟨i, hi, rfl⟩ := List.mem_iff_getElem.1 ha
  obtain ⟨j, hj, rfl⟩ := List.mem_iff_getElem.1 hb
  have := List.pairwise_iff_getElem.1 h
  rcases Nat.lt_trichotomy i j with hij | rfl | hij
  · exact Or.inl (this i j hi hj hij)
  · exact absurd rfl hne
  · exact Or.inr (this j i hj hi hij)
theorem rtkN_iff {s : Sf} {z : Int} {x : ByteArray} {y : Int} : noteTk s z x y = false ↔ ∀ b ∈ s.ts, b.bk = z → b.nm.toList = x.toList → b.id = y := by
  unfold noteTk
  rw [List.any_eq_false]
  constructor
  · intro h b hb h1 h2
    have := h b hb
    simpa [sameS, h1, h2] using this
  · intro h b hb
    have := h b hb
    intro hh
    simp only [sameS, Bool.and_eq_true, beq_iff_eq, bne_iff_ne, ne_eq] at hh
    exact hh.2.2 (this hh.1 hh.2.1)
theorem rnt_iff (s : Sf) : rntB s = true ↔ (1 ≤ s.nn ∧ s.nn ≤ 65536) ∧ s.ts.length ≤ 12 ∧ notesFrom s 0 s.ts = true ∧ ∀ n ∈ s.ts, n.sh.length ≤ 8 := by
  unfold rntB inI
  rw [Bool.and_eq_true, Bool.and_eq_true, Bool.and_eq_true, ntOk_iff, decide_eq_true_eq, decide_eq_true_eq, decide_eq_true_eq]
  constructor
  · rintro ⟨h1, h2, h3, -, h4, h5, -⟩
    refine ⟨h2, h1, notes_conv s.ts 0 (fun b hb => ?_) h4, fun n hn => (h3 n hn).2.2.2.2.2⟩
    obtain ⟨k1, k2, k3, k4, k5, k6⟩ := h3 b hb
    refine ⟨by omega, by omega, ?_⟩
    unfold mayNt
    rw [k3, decide_eq_true k4, k5, rtkN_iff.2 fun c hc he hm => ?_]
    · rfl
    · by_cases hcb : c = b
      · rw [hcb]
      · have hs : clash c b = true := by simp [clash, sameS, he, hm]
        rcases npair_at h5 hc hb hcb with h | h
        · rw [hs] at h
          cases h
        · rw [clash_comm, hs] at h
          cases h
  · rintro ⟨h1, h2, h3, h4⟩
    obtain ⟨q1, q2⟩ := notes_all s.ts 0 h3
    have q3 : ∀ b ∈ s.ts, mayN b.nm = true ∧ 0 ≤ bookAt s b.bk ∧ noteTk s b.bk b.nm b.id = false ∧ mayTg b.tg = true := fun b hb => by
      have := (q1 b hb).2.2
      unfold mayNt at this
      simpa only [Bool.and_eq_true, decide_eq_true_eq, Bool.not_eq_true'] using this
    refine ⟨h2, h1, fun b hb => ⟨by have := q1 b hb; omega, by have := q1 b hb; omega, (q3 b hb).1, (q3 b hb).2.1, (q3 b hb).2.2.2, h4 b hb⟩, fun a ha => by simp at ha, q2, ?_, fun a ha => by simp at ha⟩
    refine q2.imp_of_mem fun {a b} ha hb hlt => ?_
    cases hs : clash a b
    · rfl
    · have hs2 : a.nm.toList = b.nm.toList ∧ a.bk = b.bk := by simpa [clash, sameS] using hs
      have := rtkN_iff.1 (q3 b hb).2.2.1 a ha hs2.2 hs2.1
      omega
theorem rMay_eq (s : Sf) : rMayB s = mayS s := by
  unfold rMayB mayS
  rw [rbk_eq]
  unfold rshB
  rw [Bool.eq_iff_iff]
  simp only [Bool.and_eq_true]
  rw [rnt_iff, sh_iff, shIn_iff]
  unfold inI
  simp only [Bool.and_eq_true, decide_eq_true_eq]
  constructor
  · rintro ⟨⟨h1, h2, h3⟩, ⟨h4, h5, h6, h7⟩, h8, h9, h10⟩
    exact ⟨h1, h4, h8, ⟨h2, h3⟩, ⟨h5, h6⟩, h7, h9, h10⟩
  · rintro ⟨h1, h4, h8, ⟨h2, h3⟩, ⟨h5, h6⟩, h7, h9, h10⟩
    exact ⟨⟨h1, h2, h3⟩, ⟨h4, h5, h6, h7⟩, h8, h9, h10⟩
end Go.Proofs.YtllnfociddodcaaDoor
namespace Go.Proofs.YtllnfociddodcaaDoor
open Go.ChangeShapes Go.WideShapes Go.ChangeAt Go.RowKit
attribute [local go_sem ↓] Go.wp_at_zero Go.wp_at_succ
theorem rnumT (v n : Nat) (base : Nat) (sv : Value) (xs : List Nat) (w : World) (hr : ByR w base sv xs) (hb : base ≤ w.heap.size) (hm : xs.length ≤ 50000) (hv : v < 4294967296) (hn1 : 1 ≤ n) (hn : n ≤ 4) :
    Calls Tryd.prog 29 #[sv, .int .i64 (v : Int), .int .i64 (n : Int)] w fun e' w' => ∃ v', e' = .returned v' ∧ ByT base w w' v' (xs ++ (beB v n)) := by
  obtain ⟨i0, hi, hz0, hz1, hz2⟩ := info_parts infoByte
  obtain ⟨m, hml⟩ : ∃ m, xs.length = m := ⟨_, rfl⟩
  have HML := Lib.hid hml
  rw [hml] at hm
  have hr1 : w.ownsRow base 5 1 sv (m + 0) ((xs ++ (beB v n).take 0).map byteV) := by
    unfold ByR at hr
    rw [hml] at hr
    simpa using hr
  clear hml hr
  go_enter Tryd.func29, Tryd.ntmps29
  go_wp2
  go_loopw [0, 7] (fun s i wr => ∃ k : Nat, k ≤ n ∧ i = .int .i64 ((n : Int) - 1 - (k : Int)) ∧ wr.ownsRow base 5 1 s (m + k) ((xs ++ (beB v n).take k).map byteV) ∧ Below base w wr ∧ KeepU w wr) (fun _ i _ => ((intOf i) + 1).toNat)
  case atStart => exact ⟨0, Nat.zero_le _, by go_num, hr1, Below.refl _ _, KeepU.refl _⟩
  case round =>
    obtain ⟨k, hk, rfl, ho, hB, hK⟩ := hrel
    by_cases hlt : k < n
    · obtain ⟨q, hq⟩ : ∃ q : Nat, n - 1 - k = q := ⟨_, rfl⟩
      have e1 : (n : Int) - 1 - (k : Int) = (q : Int) := by omega
      rw [e1]
      have hsn := beB_snoc v n k hlt
      rw [hq] at hsn
      have hq3 : q ≤ 3 := by omega
      have HQ := Lib.hid hq
      have HS := Lib.hid hsn
      have hbs := hB.size
      clear hq hsn e1
      have q0 : (0 : Int) ≤ (q : Int) := by omega
      have q1 : (q : Int) ≤ 3 := by omega
      go_wp2_with (at_builtin; refine wpList_app _ rfl (.tmp 14) (.tmp 20) _ rfl base 5 i0 _ 1 1 Tryd.underlying28 hi hz0 hz1 hz2 rfl (by decide) _ _ _ rfl (ho.alloc _) _ 1 _ [byteV (v / 2 ^ (8 * q) % 256)] rfl (Rd.one (by simp [byteV])) (by simp [byteV, Value.oneCell']) (by unfold maxLen; omega) (by omega) (by simp; omega) ?_; intro s2 w2 ho2 hg2 hv2)
      go_roundw
      case rel => exact ⟨k + 1, by omega, by have := HQ.out; congr 1; omega, by rw [HS.out]; simpa [Nat.add_assoc] using ho2, (hB.alloc (by omega) _).trans (below_app (Nat.le_refl _) (by simp; omega) (ho.alloc _) hg2), hK.trans ((KeepU.alloc_ _ _).trans (KeepU.of_grown (ho.alloc _) hg2))⟩
      case measure => simp [intOf]
    · have hkn : k = n := by omega
      have e0 : (n : Int) - 1 - (k : Int) = -1 := by omega
      rw [e0]
      clear e0
      go_wp2
      go_ret
      refine ⟨_, rfl, ?_, hB, hK⟩
      unfold ByR
      rw [List.length_append, HML.out, beB_len]
      rw [hkn, List.take_of_length_le (by rw [beB_len]; omega)] at ho
      exact ho
theorem rnum3 (v : Int) (base : Nat) (sv : Value) (xs : List Nat) (w : World) (hr : ByR w base sv xs) (hb : base ≤ w.heap.size) (hm : xs.length ≤ 50000) (h0 : 0 ≤ v) (h1 : v < 4294967296) : Calls Tryd.prog 29 #[sv, .int .i64 v, .int .i64 3] w fun e' w' => ∃ v', e' = .returned v' ∧ ByT base w w' v' (xs ++ (iL v 3)) := by
  obtain ⟨k, rfl⟩ := Int.eq_ofNat_of_zero_le h0
  exact rnumT k 3 base sv xs w hr hb hm (by omega) (by decide) (by decide)
theorem rnum2 (v : Int) (base : Nat) (sv : Value) (xs : List Nat) (w : World) (hr : ByR w base sv xs) (hb : base ≤ w.heap.size) (hm : xs.length ≤ 50000) (h0 : 0 ≤ v) (h1 : v < 4294967296) : Calls Tryd.prog 29 #[sv, .int .i64 v, .int .i64 2] w fun e' w' => ∃ v', e' = .returned v' ∧ ByT base w w' v' (xs ++ (iL v 2)) := by
  obtain ⟨k, rfl⟩ := Int.eq_ofNat_of_zero_le h0
  exact rnumT k 2 base sv xs w hr hb hm (by omega) (by decide) (by decide)
theorem beB_1 {v : Nat} (h : v < 256) : beB v 1 = [v] := by
  unfold beB
  simp [List.range_succ]
  omega
theorem rnum1 (v : Nat) (base : Nat) (sv : Value) (xs : List Nat) (w : World) (hr : ByR w base sv xs) (hb : base ≤ w.heap.size) (hm : xs.length ≤ 50000) (h1 : v < 256) : Calls Tryd.prog 29 #[sv, .int .i64 (v : Int), .int .i64 1] w fun e' w' => ∃ v', e' = .returned v' ∧ ByT base w w' v' (xs ++ ([v])) := by
  have h := rnumT v 1 base sv xs w hr hb hm (by omega) (by decide) (by decide)
  rw [beB_1 h1] at h
  exact h
theorem rtextT (x : ByteArray) (base : Nat) (sv : Value) (xs : List Nat) (w : World) (hr : ByR w base sv xs) (hb : base ≤ w.heap.size) (hm : xs.length ≤ 50000) (hx : x.size < 256) :
    Calls Tryd.prog 30 #[sv, .string x] w fun e' w' => ∃ v', e' = .returned v' ∧ ByT base w w' v' (xs ++ (nmL x)) := by
  obtain ⟨i0, hi, hz0, hz1, hz2⟩ := info_parts infoByte
  go_enter Tryd.func30, Tryd.ntmps30
  go_wp2_with (first | (go_at_call 29; ((with_reducible refine (rnum1 x.size base _ xs _ hr hb hm hx).mono ?_); rintro e' w1 ⟨v1, rfl, HN⟩; skip)) | (at_builtin; refine Lib.wpList_append_own_string _ rfl (.tmp 8) (.tmp 9) _ _ rfl base 5 i0 Tryd.underlying28 Tryd.underlying9 hi hz0 hz1 hz2 _ _ _ rfl (HN.row) x rfl (by unfold maxLen; simp; omega) (by simp; omega) ((Nat.le_trans hb HN.be.size)) ?_; intro s3 w3 ho3 hg3 hn3))
  go_ret
  refine ⟨_, rfl, ?_, HN.be.trans (below_app (Nat.le_refl _) (Nat.le_trans hb HN.be.size) HN.row hg3), HN.kp.trans (KeepU.of_grown HN.row hg3)⟩
  unfold ByR nmL
  have e : (xs ++ x.size :: bytN x).map byteV = (xs ++ [x.size]).map byteV ++ Lib.strCells x := by rw [strCells_byt]; simp
  rw [e]
  have e2 : (xs ++ x.size :: bytN x).length = (xs ++ [x.size]).length + x.size := by simp [bytN_len]; omega
  rw [e2]
  exact ho3
theorem rlay_no (s : Sf) (v : Value) (w : World) (hS : ShR w w.heap.size v s) (hz : SzF s) (hM : mayS s = false) :
    Calls Tryd.prog 11 #[v] w fun e' w' => e' = .returned (.tuple #[.slice none 0 0, .int .i64 2]) ∧ Below w.heap.size w w' := by
  have hS0 := hS
  obtain ⟨Ab, cb, An, cn, rfl, hB, hN, hcb, hmb, hcn, hmn⟩ := hS.ex
  clear hS
  have HB : Below w.heap.size w (w.alloc (.cells #[.int .i64 s.nb, .int .i64 s.nn, .int .i64 s.ns, .slice Ab s.bs.length cb, .slice An s.ts.length cn] 25)) := ((Below.refl w.heap.size w).alloc (Nat.le_refl _) _)
  have B1 : Blk (w.alloc (.cells #[.int .i64 s.nb, .int .i64 s.nn, .int .i64 s.ns, .slice Ab s.bs.length cb, .slice An s.ts.length cn] 25)) w.heap.size 25 #[.int .i64 s.nb, .int .i64 s.nn, .int .i64 s.ns, .slice Ab s.bs.length cb, .slice An s.ts.length cn] := Blk.new_ w 25 #[.int .i64 s.nb, .int .i64 s.nn, .int .i64 s.ns, .slice Ab s.bs.length cb, .slice An s.ts.length cn]
  have S1 : ShR (w.alloc (.cells #[.int .i64 s.nb, .int .i64 s.nn, .int .i64 s.ns, .slice Ab s.bs.length cb, .slice An s.ts.length cn] 25)) ((w.alloc (.cells #[.int .i64 s.nb, .int .i64 s.nn, .int .i64 s.ns, .slice Ab s.bs.length cb, .slice An s.ts.length cn] 25))).heap.size (.agg #[.int .i64 s.nb, .int .i64 s.nn, .int .i64 s.ns, .slice Ab s.bs.length cb, .slice An s.ts.length cn]) s := hS0.next HB
  have HM : Hid (rMayB s = false) := Lib.hid ((rMay_eq s).trans hM)
  have HZ := Lib.hid hz
  clear hM hS0 hz hB hN hcb hmb hcn hmn
  go_enter Tryd.func11, Tryd.ntmps11
  go_wp2_with (go_at_call 28; ((with_reducible refine (rMay_any s _ _ S1 HZ.out _ HM.out).mono ?_); rintro e' w3 ⟨rfl, bx⟩; have B1 := B1.below bx B1.lt; have HB := btr HB HB.size bx; (try clear k0 k1 k2 k3 k4); have k0 := B1.cell_ 0; have k1 := B1.cell_ 1; have k2 := B1.cell_ 2; have k3 := B1.cell_ 3; have k4 := B1.cell_ 4; simp at k0 k1 k2 k3 k4; clear bx))
  go_ret2
  exact ⟨rfl, HB⟩
theorem rlay_yes (s : Sf) (v : Value) (w : World) (hS : ShR w w.heap.size v s) (hz : SzF s) (hF : MayF s) :
    Calls Tryd.prog 11 #[v] w fun e' w' => ∃ v', e' = .returned (.tuple #[v', .int .i64 0]) ∧ ByR w' w.heap.size v' (shL s) ∧ Below w.heap.size w w' := by
  have hS0 := hS
  obtain ⟨Ab, cb, An, cn, rfl, hB, hN, hcb, hmb, hcn, hmn⟩ := hS.ex
  clear hS
  have HB : Below w.heap.size w (w.alloc (.cells #[.int .i64 s.nb, .int .i64 s.nn, .int .i64 s.ns, .slice Ab s.bs.length cb, .slice An s.ts.length cn] 25)) := ((Below.refl w.heap.size w).alloc (Nat.le_refl _) _)
  have B1 : Blk (w.alloc (.cells #[.int .i64 s.nb, .int .i64 s.nn, .int .i64 s.ns, .slice Ab s.bs.length cb, .slice An s.ts.length cn] 25)) w.heap.size 25 #[.int .i64 s.nb, .int .i64 s.nn, .int .i64 s.ns, .slice Ab s.bs.length cb, .slice An s.ts.length cn] := Blk.new_ w 25 #[.int .i64 s.nb, .int .i64 s.nn, .int .i64 s.ns, .slice Ab s.bs.length cb, .slice An s.ts.length cn]
  have S1 : ShR (w.alloc (.cells #[.int .i64 s.nb, .int .i64 s.nn, .int .i64 s.ns, .slice Ab s.bs.length cb, .slice An s.ts.length cn] 25)) ((w.alloc (.cells #[.int .i64 s.nb, .int .i64 s.nn, .int .i64 s.ns, .slice Ab s.bs.length cb, .slice An s.ts.length cn] 25))).heap.size (.agg #[.int .i64 s.nb, .int .i64 s.nn, .int .i64 s.ns, .slice Ab s.bs.length cb, .slice An s.ts.length cn]) s := hS0.next HB
  have HM : Hid (rMayB s = true) := Lib.hid ((rMay_eq s).trans (mayS_conv hF))
  have HZ := Lib.hid hz
  have HF := Lib.hid hF
  obtain ⟨es, hel, hse, hnt⟩ := hN.ex
  obtain ⟨L, hL⟩ : ∃ L, s.bs.length = L := ⟨_, rfl⟩
  obtain ⟨M, hM⟩ : ∃ M, s.ts.length = M := ⟨_, rfl⟩
  have HL := Lib.hid hL
  have HMM := Lib.hid hM
  have hL6 : L ≤ 6 := by rw [← hL]; exact hF.bl
  have hM12 : M ≤ 12 := by rw [← hM]; exact hF.tl
  have c0 := hF.nb
  have c1 := hF.nn
  have c2 := hF.ns
  clear hL hM hS0 hz hcb hmb hcn hmn hF hN
  go_enter Tryd.func11, Tryd.ntmps11
  go_upto_region 3 with (go_at_call 28; ((with_reducible refine (rMay_any s _ _ S1 HZ.out _ HM.out).mono ?_); rintro e' w3 ⟨rfl, bx⟩; have B1 := B1.below bx B1.lt; have HB := btr HB HB.size bx; (try clear k0 k1 k2 k3 k4); have k0 := B1.cell_ 0; have k1 := B1.cell_ 1; have k2 := B1.cell_ 2; have k3 := B1.cell_ 3; have k4 := B1.cell_ 4; simp at k0 k1 k2 k3 k4; clear bx))
  have HT : ByT w.heap.size w3 w3 (.slice none 0 0) [] := ByT.start (ByR.nil _ _)
  have hb3 : w.heap.size ≤ w3.heap.size := HB.size
  have HB3 := HB
  have HTd : ByT w.heap.size w3 w3.drew (.slice none 0 0) [] := ⟨ByR.nil _ _, (below_dr w3).mono hb3, fun _ _ _ _ h _ => h⟩
  rw [HL.out] at B1
  rw [HMM.out] at B1
  have QD : w3.drew.cell? ⟨w.heap.size, 0, none⟩ = some (.int .i64 s.nb) ∧ w3.drew.cell? ⟨w.heap.size, 1, none⟩ = some (.int .i64 s.nn) ∧ w3.drew.cell? ⟨w.heap.size, 2, none⟩ = some (.int .i64 s.ns) := ⟨drew_cell k0, drew_cell k1, drew_cell k2⟩
  clear HB S1 k0 k1 k2 k3 k4
  refine wp_region_noPanic ?_
  refine wp_region_held_drew (S := (fun w_ => w_.cell? ⟨w.heap.size, 0, none⟩ = some (.int .i64 s.nb) ∧ w_.cell? ⟨w.heap.size, 1, none⟩ = some (.int .i64 s.nn) ∧ w_.cell? ⟨w.heap.size, 2, none⟩ = some (.int .i64 s.ns))) (by kernel_rfl) ?_ (fun hHeld => ?_)
  · (first | with_reducible exact QD | with_reducible exact Q1 | with_reducible exact Q2 | with_reducible exact Q3)
  refine tk 0 ?_; try simp only [Act.put, pz1, pz2, pz3]
  refine tk 1 ?_; try simp only [Act.put, pz1, pz2, pz3]
  refine tk 3 ?_; try simp only [Act.put, pz1, pz2, pz3]
  refine tk 4 ?_; try simp only [Act.put, pz1, pz2, pz3]
  refine tk 6 ?_; try simp only [Act.put, pz1, pz2, pz3]
  refine tk 7 ?_; try simp only [Act.put, pz1, pz2, pz3]
  refine wpAnyH_ready (rs := [2]) (by kernel_rfl) (by simp) ?_
  refine AllReadyH.cons (o := ⟨some 15, .call { callee := .value (.func 29), args := #[.const (.slice none 0 0), .tmp 14, .const (.int .i64 3)], argTypes := #[28, 3, 3] }, 28, "ref.go:25", #[⟨1, .data⟩], none⟩) rfl (fun K hK => ?_) AllReadyH.nil
  go_simp
  (first | (go_at_call 29; ((with_reducible refine (rnum3 s.nb w.heap.size _ [] _ HTd.row (Nat.le_trans hb3 HTd.be.size) (by simp [iL_len]) (by omega) (by omega)).mono ?_); rintro e' w4 ⟨v1, rfl, HN⟩; have H1 := HTd.step HN; have B1n := B1.keepU H1.kp (by decide); have Q1 : w4.cell? ⟨w.heap.size, 0, none⟩ = some (.int .i64 s.nb) ∧ w4.cell? ⟨w.heap.size, 1, none⟩ = some (.int .i64 s.nn) ∧ w4.cell? ⟨w.heap.size, 2, none⟩ = some (.int .i64 s.ns) := (by refine ⟨?_, ?_, ?_⟩ <;> first | (have h := B1n.cell_ 0; simpa using h) | (have h := B1n.cell_ 1; simpa using h) | (have h := B1n.cell_ 2; simpa using h)); clear HN)) | (go_at_call 29; ((with_reducible refine (rnum3 s.nn w.heap.size _ ([] ++ iL s.nb 3) _ H1.row (Nat.le_trans hb3 H1.be.size) (by simp [iL_len]) (by omega) (by omega)).mono ?_); rintro e' w5 ⟨v1, rfl, HN⟩; have H2 := H1.step HN; have B2n := B1.keepU H2.kp (by decide); have Q2 : w5.cell? ⟨w.heap.size, 0, none⟩ = some (.int .i64 s.nb) ∧ w5.cell? ⟨w.heap.size, 1, none⟩ = some (.int .i64 s.nn) ∧ w5.cell? ⟨w.heap.size, 2, none⟩ = some (.int .i64 s.ns) := (by refine ⟨?_, ?_, ?_⟩ <;> first | (have h := B2n.cell_ 0; simpa using h) | (have h := B2n.cell_ 1; simpa using h) | (have h := B2n.cell_ 2; simpa using h)); clear HN)) | (go_at_call 29; ((with_reducible refine (rnum3 s.ns w.heap.size _ ([] ++ iL s.nb 3 ++ iL s.nn 3) _ H2.row (Nat.le_trans hb3 H2.be.size) (by simp [iL_len]) (by omega) (by omega)).mono ?_); rintro e' w6 ⟨v1, rfl, HN⟩; have H3 := H2.step HN; have B3n := B1.keepU H3.kp (by decide); have Q3 : w6.cell? ⟨w.heap.size, 0, none⟩ = some (.int .i64 s.nb) ∧ w6.cell? ⟨w.heap.size, 1, none⟩ = some (.int .i64 s.nn) ∧ w6.cell? ⟨w.heap.size, 2, none⟩ = some (.int .i64 s.ns) := (by refine ⟨?_, ?_, ?_⟩ <;> first | (have h := B3n.cell_ 0; simpa using h) | (have h := B3n.cell_ 1; simpa using h) | (have h := B3n.cell_ 2; simpa using h)); clear HN)))
  go_wp2_with fail
  refine hK.out _ _ ?_ (fun hNew => ?_)
  · (first | with_reducible exact QD | with_reducible exact Q1 | with_reducible exact Q2 | with_reducible exact Q3)
  clear hK K hHeld
  have hHeld := hNew
  clear hNew
  try simp only [Act.put, pz1, pz2, pz3]
  refine wpAnyH_ready (rs := [5]) (by kernel_rfl) (by simp) ?_
  refine AllReadyH.cons (o := ⟨some 18, .call { callee := .value (.func 29), args := #[.tmp 15, .tmp 17, .const (.int .i64 3)], argTypes := #[28, 3, 3] }, 28, "ref.go:25", #[⟨2, .data⟩, ⟨4, .data⟩, ⟨2, .chain⟩], none⟩) rfl (fun K hK => ?_) AllReadyH.nil
  go_simp
  (first | (go_at_call 29; ((with_reducible refine (rnum3 s.nb w.heap.size _ [] _ HTd.row (Nat.le_trans hb3 HTd.be.size) (by simp [iL_len]) (by omega) (by omega)).mono ?_); rintro e' w4 ⟨v1, rfl, HN⟩; have H1 := HTd.step HN; have B1n := B1.keepU H1.kp (by decide); have Q1 : w4.cell? ⟨w.heap.size, 0, none⟩ = some (.int .i64 s.nb) ∧ w4.cell? ⟨w.heap.size, 1, none⟩ = some (.int .i64 s.nn) ∧ w4.cell? ⟨w.heap.size, 2, none⟩ = some (.int .i64 s.ns) := (by refine ⟨?_, ?_, ?_⟩ <;> first | (have h := B1n.cell_ 0; simpa using h) | (have h := B1n.cell_ 1; simpa using h) | (have h := B1n.cell_ 2; simpa using h)); clear HN)) | (go_at_call 29; ((with_reducible refine (rnum3 s.nn w.heap.size _ ([] ++ iL s.nb 3) _ H1.row (Nat.le_trans hb3 H1.be.size) (by simp [iL_len]) (by omega) (by omega)).mono ?_); rintro e' w5 ⟨v1, rfl, HN⟩; have H2 := H1.step HN; have B2n := B1.keepU H2.kp (by decide); have Q2 : w5.cell? ⟨w.heap.size, 0, none⟩ = some (.int .i64 s.nb) ∧ w5.cell? ⟨w.heap.size, 1, none⟩ = some (.int .i64 s.nn) ∧ w5.cell? ⟨w.heap.size, 2, none⟩ = some (.int .i64 s.ns) := (by refine ⟨?_, ?_, ?_⟩ <;> first | (have h := B2n.cell_ 0; simpa using h) | (have h := B2n.cell_ 1; simpa using h) | (have h := B2n.cell_ 2; simpa using h)); clear HN)) | (go_at_call 29; ((with_reducible refine (rnum3 s.ns w.heap.size _ ([] ++ iL s.nb 3 ++ iL s.nn 3) _ H2.row (Nat.le_trans hb3 H2.be.size) (by simp [iL_len]) (by omega) (by omega)).mono ?_); rintro e' w6 ⟨v1, rfl, HN⟩; have H3 := H2.step HN; have B3n := B1.keepU H3.kp (by decide); have Q3 : w6.cell? ⟨w.heap.size, 0, none⟩ = some (.int .i64 s.nb) ∧ w6.cell? ⟨w.heap.size, 1, none⟩ = some (.int .i64 s.nn) ∧ w6.cell? ⟨w.heap.size, 2, none⟩ = some (.int .i64 s.ns) := (by refine ⟨?_, ?_, ?_⟩ <;> first | (have h := B3n.cell_ 0; simpa using h) | (have h := B3n.cell_ 1; simpa using h) | (have h := B3n.cell_ 2; simpa using h)); clear HN)))
  go_wp2_with fail
  refine hK.out _ _ ?_ (fun hNew => ?_)
  · (first | with_reducible exact QD | with_reducible exact Q1 | with_reducible exact Q2 | with_reducible exact Q3)
  clear hK K hHeld
  have hHeld := hNew
  clear hNew
  try simp only [Act.put, pz1, pz2, pz3]
  refine wpAnyH_ready (rs := [8]) (by kernel_rfl) (by simp) ?_
  refine AllReadyH.cons (o := ⟨some 21, .call { callee := .value (.func 29), args := #[.tmp 18, .tmp 20, .const (.int .i64 3)], argTypes := #[28, 3, 3] }, 28, "ref.go:25", #[⟨5, .data⟩, ⟨7, .data⟩, ⟨5, .chain⟩], none⟩) rfl (fun K hK => ?_) AllReadyH.nil
  go_simp
  (first | (go_at_call 29; ((with_reducible refine (rnum3 s.nb w.heap.size _ [] _ HTd.row (Nat.le_trans hb3 HTd.be.size) (by simp [iL_len]) (by omega) (by omega)).mono ?_); rintro e' w4 ⟨v1, rfl, HN⟩; have H1 := HTd.step HN; have B1n := B1.keepU H1.kp (by decide); have Q1 : w4.cell? ⟨w.heap.size, 0, none⟩ = some (.int .i64 s.nb) ∧ w4.cell? ⟨w.heap.size, 1, none⟩ = some (.int .i64 s.nn) ∧ w4.cell? ⟨w.heap.size, 2, none⟩ = some (.int .i64 s.ns) := (by refine ⟨?_, ?_, ?_⟩ <;> first | (have h := B1n.cell_ 0; simpa using h) | (have h := B1n.cell_ 1; simpa using h) | (have h := B1n.cell_ 2; simpa using h)); clear HN)) | (go_at_call 29; ((with_reducible refine (rnum3 s.nn w.heap.size _ ([] ++ iL s.nb 3) _ H1.row (Nat.le_trans hb3 H1.be.size) (by simp [iL_len]) (by omega) (by omega)).mono ?_); rintro e' w5 ⟨v1, rfl, HN⟩; have H2 := H1.step HN; have B2n := B1.keepU H2.kp (by decide); have Q2 : w5.cell? ⟨w.heap.size, 0, none⟩ = some (.int .i64 s.nb) ∧ w5.cell? ⟨w.heap.size, 1, none⟩ = some (.int .i64 s.nn) ∧ w5.cell? ⟨w.heap.size, 2, none⟩ = some (.int .i64 s.ns) := (by refine ⟨?_, ?_, ?_⟩ <;> first | (have h := B2n.cell_ 0; simpa using h) | (have h := B2n.cell_ 1; simpa using h) | (have h := B2n.cell_ 2; simpa using h)); clear HN)) | (go_at_call 29; ((with_reducible refine (rnum3 s.ns w.heap.size _ ([] ++ iL s.nb 3 ++ iL s.nn 3) _ H2.row (Nat.le_trans hb3 H2.be.size) (by simp [iL_len]) (by omega) (by omega)).mono ?_); rintro e' w6 ⟨v1, rfl, HN⟩; have H3 := H2.step HN; have B3n := B1.keepU H3.kp (by decide); have Q3 : w6.cell? ⟨w.heap.size, 0, none⟩ = some (.int .i64 s.nb) ∧ w6.cell? ⟨w.heap.size, 1, none⟩ = some (.int .i64 s.nn) ∧ w6.cell? ⟨w.heap.size, 2, none⟩ = some (.int .i64 s.ns) := (by refine ⟨?_, ?_, ?_⟩ <;> first | (have h := B3n.cell_ 0; simpa using h) | (have h := B3n.cell_ 1; simpa using h) | (have h := B3n.cell_ 2; simpa using h)); clear HN)))
  go_wp2_with fail
  refine hK.out _ _ ?_ (fun hNew => ?_)
  · (first | with_reducible exact QD | with_reducible exact Q1 | with_reducible exact Q2 | with_reducible exact Q3)
  clear hK K hHeld
  have hHeld := hNew
  clear hNew
  try simp only [Act.put, pz1, pz2, pz3]
  refine tk 9 ?_; try simp only [Act.put, pz1, pz2, pz3]
  refine wpAnyH_done (by kernel_rfl) ?_ _
  refine NoPanic.normal ?_
  have HT := H3
  obtain ⟨X3, hX3⟩ : ∃ X, ([] ++ iL s.nb 3 ++ iL s.nn 3 ++ iL s.ns 3) = X := ⟨_, rfl⟩
  rw [hX3] at HT
  have lX3 : X3.length ≤ 9 := by rw [← hX3]; simp [iL_len]
  have HX3 := Lib.hid hX3
  have B1 := B1.keepU HT.kp (by decide)
  clear hX3 H1 H2 H3 HTd QD Q1 Q2 Q3 B1n B2n B3n hHeld
  have k3 := B1.cell_ 3
  have k4 := B1.cell_ 4
  simp at k3 k4
  go_upto_region 5 with (go_at_call 29; ((with_reducible refine (rnum1 L w.heap.size _ X3 _ HT.row (Nat.le_trans hb3 HT.be.size) (by omega) (by omega)).mono ?_); rintro e' w7 ⟨v1, rfl, HN⟩; have B1 := B1.keepU HN.kp (by decide); have HT := HT.step HN; obtain ⟨X4, hX4⟩ : ∃ X, X3 ++ ([L]) = X := ⟨_, rfl⟩; rw [hX4] at HT; have lX4 : X4.length ≤ 10 := (by rw [← hX4, List.length_append, List.length_singleton]; omega); have HX4 := Lib.hid hX4; clear hX4 HN; clear k3 k4; have k3 := B1.cell_ 3; have k4 := B1.cell_ 4; simp at k3 k4))
  obtain ⟨wk, hwk⟩ : ∃ V : World, V = w7 := ⟨_, rfl⟩
  subst hwk
  clear k3 k4
  go_wp2_with fail
  go_loopw [4, 5] (fun sv iv wr => ∃ k : Nat, k ≤ L ∧ iv = .int .i64 (k : Int) ∧ ByT w.heap.size wk wr sv (X4 ++ (s.bs.take k).flatMap bkL)) (fun _ iv _ => L - (intOf iv).toNat)
  case atStart => exact ⟨0, Nat.zero_le _, rfl, by simpa using ByT.start HT.row⟩
  case round =>
    obtain ⟨k, hk, rfl, HR⟩ := hrel
    have B1r := B1.keepU HR.kp (by decide)
    have hbr : w.heap.size ≤ wr.heap.size := Nat.le_trans (Nat.le_trans hb3 HT.be.size) HR.be.size
    have hbw : Below w.heap.size w wr := (HB3.trans HT.be).trans HR.be
    have lR : (X4 ++ (s.bs.take k).flatMap bkL).length ≤ 200 := by
      have h1 := fm_len bkL 24 (s.bs.take k) (fun x hx => by have := may_sz (HF.out.bs x (List.mem_of_mem_take hx)).2.2.1; rw [bkL_len]; omega)
      rw [List.length_append]
      rw [List.length_take] at h1
      have h2 : 24 * min k s.bs.length ≤ 24 * L := Nat.mul_le_mul_left _ (by omega)
      omega
    have k3 := B1r.cell_ 3
    have k4 := B1r.cell_ 4
    simp at k3 k4
    by_cases hlt : k < L
    · have hkx : k < s.bs.length := by have := HL.out; omega
      obtain ⟨x, hx⟩ : ∃ x, s.bs[k]? = some x := ⟨_, List.getElem?_eq_getElem hkx⟩
      have he : (s.bs.map bkC)[k]? = some (bkC x) := by rw [List.getElem?_map, hx]; rfl
      obtain ⟨b9, o9, rfl, l9, q9⟩ := SlE.at_ hB (by rw [List.length_map]; omega)
      have y0 : wr.cell? ⟨b9, o9 + k * 2, none⟩ = some (.int .i64 x.id) := (hbw.cell (p := ⟨b9, _, none⟩) l9).trans (q9 k _ he 0 _ rfl)
      have y1 : wr.cell? ⟨b9, o9 + k * 2 + 1, none⟩ = some (.string x.nm) := (hbw.cell (p := ⟨b9, _, none⟩) l9).trans (q9 k _ he 1 _ rfl)
      have hxs : 0 ≤ x.id ∧ x.id < 16777216 := (HF.out.ok.bs x (List.mem_of_getElem? hx)).a
      have hxn : x.nm.size ≤ 20 := may_sz (HF.out.bs x (List.mem_of_getElem? hx)).2.2.1
      have hft := fm_take bkL hx
      have HFT := Lib.hid hft
      have j0 : (0 : Int) ≤ (k : Int) := by omega
      have j1 : (k : Int) < (L : Int) := by omega
      clear hft hx q9 hkx he
      obtain ⟨XX, hXX⟩ : ∃ X, X4 ++ (s.bs.take k).flatMap bkL = X := ⟨_, rfl⟩
      rw [hXX] at HR lR
      have HXX := Lib.hid hXX
      clear hXX
      have HRd : ByT w.heap.size wr wr.drew _ XX := ⟨HR.row, (below_dr wr).mono hbr, fun _ _ _ _ h _ => h⟩
      have QD : wr.drew.cell? ⟨w.heap.size, 3, none⟩ = some (.slice (some ⟨b9, o9, none⟩) L cb) ∧ wr.drew.cell? ⟨b9, o9 + k * 2, none⟩ = some (.int .i64 x.id) ∧ wr.drew.cell? ⟨b9, o9 + k * 2 + 1, none⟩ = some (.string x.nm) := ⟨drew_cell k3, drew_cell y0, drew_cell y1⟩
      have hbrd : w.heap.size ≤ wr.drew.heap.size := hbr
      go_upto_region 8 with fail
      clear k3 k4 y0 y1
      refine wp_region_noPanic ?_
      refine wp_region_held_drew (S := (fun w_ => w_.cell? ⟨w.heap.size, 3, none⟩ = some (.slice (some ⟨b9, o9, none⟩) L cb) ∧ w_.cell? ⟨b9, o9 + k * 2, none⟩ = some (.int .i64 x.id) ∧ w_.cell? ⟨b9, o9 + k * 2 + 1, none⟩ = some (.string x.nm))) (by kernel_rfl) ?_ (fun hHeld => ?_)
      · (first | with_reducible exact QD | with_reducible exact QY | with_reducible exact QZ)
      refine tk 0 ?_; try simp only [Act.put, pz1, pz2, pz3]
      refine tk 1 ?_; try simp only [Act.put, pz1, pz2, pz3]
      refine tk 2 ?_; try simp only [Act.put, pz1, pz2, pz3]
      refine tk 3 ?_; try simp only [Act.put, pz1, pz2, pz3]
      refine tk 4 ?_; try simp only [Act.put, pz1, pz2, pz3]
      refine tk 5 ?_; try simp only [Act.put, pz1, pz2, pz3]
      refine tk 6 ?_; try simp only [Act.put, pz1, pz2, pz3]
      refine tk 8 ?_; try simp only [Act.put, pz1, pz2, pz3]
      refine tk 9 ?_; try simp only [Act.put, pz1, pz2, pz3]
      refine tk 10 ?_; try simp only [Act.put, pz1, pz2, pz3]
      refine tk 11 ?_; try simp only [Act.put, pz1, pz2, pz3]
      refine tk 12 ?_; try simp only [Act.put, pz1, pz2, pz3]
      refine tk 13 ?_; try simp only [Act.put, pz1, pz2, pz3]
      refine wpAnyH_ready (rs := [7]) (by kernel_rfl) (by simp) ?_
      refine AllReadyH.cons (o := ⟨some 41, .call { callee := .value (.func 29), args := #[.tmp 34, .tmp 40, .const (.int .i64 3)], argTypes := #[28, 3, 3] }, 28, "ref.go:28", #[⟨0, .data⟩, ⟨6, .data⟩], none⟩) rfl (fun K hK => ?_) AllReadyH.nil
      go_simp
      (go_at_call 29; ((with_reducible refine (rnum3 x.id w.heap.size _ XX _ HRd.row hbrd (by omega) (by omega) (by omega)).mono ?_); rintro e' w8 ⟨v1, rfl, HN⟩; have HY := HRd.step HN; have B1n := B1r.keepU HY.kp (by decide); have l9d : b9 < w.heap.size := l9; have hYd := HN.be; have QY : w8.cell? ⟨w.heap.size, 3, none⟩ = some (.slice (some ⟨b9, o9, none⟩) L cb) ∧ w8.cell? ⟨b9, o9 + k * 2, none⟩ = some (.int .i64 x.id) ∧ w8.cell? ⟨b9, o9 + k * 2 + 1, none⟩ = some (.string x.nm) := (by refine ⟨?_, ?_, ?_⟩; (have h := B1n.cell_ 3; simpa using h); exact (hYd.cell (p := ⟨b9, _, none⟩) l9d).trans QD.2.1; exact (hYd.cell (p := ⟨b9, _, none⟩) l9d).trans QD.2.2); have hby := Nat.le_trans hbr HY.be.size; clear HN))
      go_wp2_with fail
      refine hK.out _ _ ?_ (fun hNew => ?_)
      · (first | with_reducible exact QD | with_reducible exact QY | with_reducible exact QZ)
      clear hK K hHeld
      have hHeld := hNew
      clear hNew
      try simp only [Act.put, pz1, pz2, pz3]
      refine wpAnyH_ready (rs := [14]) (by kernel_rfl) (by simp) ?_
      refine AllReadyH.cons (o := ⟨some 48, .call { callee := .value (.func 30), args := #[.tmp 41, .tmp 47], argTypes := #[28, 9] }, 28, "ref.go:28", #[⟨7, .data⟩, ⟨13, .data⟩, ⟨7, .chain⟩], none⟩) rfl (fun K hK => ?_) AllReadyH.nil
      go_simp
      (go_at_call 30; ((with_reducible refine (rtextT x.nm w.heap.size _ (XX ++ iL x.id 3) _ HY.row hby (by rw [List.length_append, iL_len]; omega) (by omega)).mono ?_); rintro e' w9 ⟨v1, rfl, HN⟩; have HW := HY.step HN; have B1m := B1n.keepU HN.kp (by decide); have hYe := HN.be; have QZ : w9.cell? ⟨w.heap.size, 3, none⟩ = some (.slice (some ⟨b9, o9, none⟩) L cb) ∧ w9.cell? ⟨b9, o9 + k * 2, none⟩ = some (.int .i64 x.id) ∧ w9.cell? ⟨b9, o9 + k * 2 + 1, none⟩ = some (.string x.nm) := (by refine ⟨?_, ?_, ?_⟩; (have h := B1m.cell_ 3; simpa using h); exact (hYe.cell (p := ⟨b9, _, none⟩) l9d).trans QY.2.1; exact (hYe.cell (p := ⟨b9, _, none⟩) l9d).trans QY.2.2); clear HN))
      go_wp2_with fail
      refine hK.out _ _ ?_ (fun hNew => ?_)
      · (first | with_reducible exact QD | with_reducible exact QY | with_reducible exact QZ)
      clear hK K hHeld
      have hHeld := hNew
      clear hNew
      try simp only [Act.put, pz1, pz2, pz3]
      refine tk 15 ?_; try simp only [Act.put, pz1, pz2, pz3]
      refine wpAnyH_done (by kernel_rfl) ?_ _
      refine NoPanic.normal ?_
      go_wp2_with fail
      go_roundw
      case rel => exact ⟨k + 1, by omega, by go_num, by rw [HFT.out, ← List.append_assoc, HXX.out]; exact (by have h := HR.step HW; rw [List.append_assoc] at h; exact h)⟩
      case measure => simp [intOf]; omega
    · obtain rfl : L = k := by omega
      rw [List.take_of_length_le (by have := HL.out; omega)] at HR lR
      clear hlt
      have HT := HT.step HR
      obtain ⟨X5, hX5⟩ : ∃ X, X4 ++ s.bs.flatMap bkL = X := ⟨_, rfl⟩
      rw [hX5] at HT lR
      have lX5 := lR
      have HX5 := Lib.hid hX5
      have B1 := B1r
      clear hX5 B1r HR lR hbr hbw
      go_upto_region 10 with (go_at_call 29; ((with_reducible refine (rnum1 M w.heap.size _ X5 _ HT.row (Nat.le_trans hb3 HT.be.size) (by omega) (by omega)).mono ?_); rintro e' w10 ⟨v1, rfl, HN⟩; have B1 := B1.keepU HN.kp (by decide); have HT := HT.step HN; obtain ⟨X6, hX6⟩ : ∃ X, X5 ++ ([M]) = X := ⟨_, rfl⟩; rw [hX6] at HT; have lX6 : X6.length ≤ 300 := (by rw [← hX6, List.length_append, List.length_singleton]; omega); have HX6 := Lib.hid hX6; clear hX6 HN; clear k4; have k4 := B1.cell_ 4; simp at k4))
      obtain ⟨wm, hwm⟩ : ∃ V : World, V = w10 := ⟨_, rfl⟩
      subst hwm
      clear k4
      go_wp2_with fail
      go_loopw [4, 6] (fun sv iv wr => ∃ k : Nat, k ≤ M ∧ iv = .int .i64 (k : Int) ∧ ByT w.heap.size wm wr sv (X6 ++ (s.ts.take k).flatMap ntL)) (fun _ iv _ => M - (intOf iv).toNat)
      case atStart => exact ⟨0, Nat.zero_le _, rfl, by simpa using ByT.start HT.row⟩
      case round =>
        obtain ⟨k, hk, rfl, HR⟩ := hrel
        have B1r := B1.keepU HR.kp (by decide)
        have hbr : w.heap.size ≤ wr.heap.size := Nat.le_trans (Nat.le_trans hb3 HT.be.size) HR.be.size
        have hbw : Below w.heap.size w wr := (HB3.trans HT.be).trans HR.be
        have lR : (X6 ++ (s.ts.take k).flatMap ntL).length ≤ 3000 := by
          have h1 := fm_len ntL 200 (s.ts.take k) (fun x hx => ntL_len (HF.out.nts (List.mem_of_mem_take hx)))
          rw [List.length_append]
          rw [List.length_take] at h1
          have h2 : 200 * min k s.ts.length ≤ 200 * M := Nat.mul_le_mul_left _ (by omega)
          omega
        have k4 := B1r.cell_ 4
        simp at k4
        by_cases hlt : k < M
        · have hkx : k < s.ts.length := by have := HMM.out; omega
          obtain ⟨x, hx⟩ : ∃ x, s.ts[k]? = some x := ⟨_, List.getElem?_eq_getElem hkx⟩
          obtain ⟨e0, he⟩ : ∃ e, es[k]? = some e := ⟨_, List.getElem?_eq_getElem (by omega)⟩
          obtain ⟨At, ct, As, cs, rfl, hAt, hAs, -⟩ := (hnt k x e0 hx he).ex
          obtain ⟨b9, o9, rfl, l9, q9⟩ := hse.at_ (by omega)
          have y0 : wr.cell? ⟨b9, o9 + k * 5, none⟩ = some (.int .i64 x.id) := (hbw.cell (p := ⟨b9, _, none⟩) l9).trans (q9 k _ he 0 _ rfl)
          have y1 : wr.cell? ⟨b9, o9 + k * 5 + 1, none⟩ = some (.int .i64 x.bk) := (hbw.cell (p := ⟨b9, _, none⟩) l9).trans (q9 k _ he 1 _ rfl)
          have y2 : wr.cell? ⟨b9, o9 + k * 5 + 2, none⟩ = some (.string x.nm) := (hbw.cell (p := ⟨b9, _, none⟩) l9).trans (q9 k _ he 2 _ rfl)
          have y3 : wr.cell? ⟨b9, o9 + k * 5 + 3, none⟩ = some (.slice At x.tg.length ct) := (hbw.cell (p := ⟨b9, _, none⟩) l9).trans (q9 k _ he 3 _ rfl)
          have y4 : wr.cell? ⟨b9, o9 + k * 5 + 4, none⟩ = some (.slice As x.sh.length cs) := (hbw.cell (p := ⟨b9, _, none⟩) l9).trans (q9 k _ he 4 _ rfl)
          have hxs := HF.out.nts (List.mem_of_getElem? hx)
          have HXS := Lib.hid hxs
          have hxa := hxs.ok.a
          have hxb := hxs.ok.b
          have hxn := hxs.nm
          have hft := fm_take ntL hx
          have HFT := Lib.hid hft
          have j0 : (0 : Int) ≤ (k : Int) := by omega
          have j1 : (k : Int) < (M : Int) := by omega
          obtain ⟨P, hP⟩ : ∃ P, x.tg.length = P := ⟨_, rfl⟩
          obtain ⟨Q, hQ⟩ : ∃ Q, x.sh.length = Q := ⟨_, rfl⟩
          have hP4 : P ≤ 4 := by rw [← hP]; exact hxs.tl
          have hQ8 : Q ≤ 8 := by rw [← hQ]; exact hxs.sl
          rw [hP] at y3
          rw [hQ] at y4
          have HP := Lib.hid hP
          have HQ := Lib.hid hQ
          clear hft hx q9 hkx he hxs hP hQ
          obtain ⟨XX, hXX⟩ : ∃ X, X6 ++ (s.ts.take k).flatMap ntL = X := ⟨_, rfl⟩
          rw [hXX] at HR lR
          have HXX := Lib.hid hXX
          clear hXX
          go_upto_region 14 with fail
          have B7 : Blk (wr.alloc (.cells #[.int .i64 x.id, .int .i64 x.bk, .string x.nm, .slice At P ct, .slice As Q cs] 52)) wr.heap.size 52 #[.int .i64 x.id, .int .i64 x.bk, .string x.nm, .slice At P ct, .slice As Q cs] := Blk.new_ wr 52 #[.int .i64 x.id, .int .i64 x.bk, .string x.nm, .slice At P ct, .slice As Q cs]
          have HU := (ByT.start HR.row).alloc hbr (.cells #[.int .i64 x.id, .int .i64 x.bk, .string x.nm, .slice At P ct, .slice As Q cs] 52)
          obtain ⟨wu, hwu⟩ : ∃ V : World, V = wr.alloc (.cells #[.int .i64 x.id, .int .i64 x.bk, .string x.nm, .slice At P ct, .slice As Q cs] 52) := ⟨_, rfl⟩
          obtain ⟨g7, hg7⟩ : ∃ g, wr.heap.size = g := ⟨_, rfl⟩
          change Code.wp _ _ _ _ (wr.alloc (.cells #[.int .i64 x.id, .int .i64 x.bk, .string x.nm, .slice At P ct, .slice As Q cs] 52))
          rw [← hwu] at B7 HU ⊢
          rw [hg7] at B7 ⊢
          have hbu : w.heap.size ≤ wu.heap.size := Nat.le_trans hbr HU.be.size
          clear hwu hg7 y0 y1 y2 y3 y4 k4
          have HRd : ByT w.heap.size wr wu.drew _ XX := ⟨HU.row, HU.be.trans ((below_dr wu).mono hbu), HU.kp.trans (fun _ _ _ _ h _ => h)⟩
          have QD : wu.drew.cell? ⟨g7, 0, none⟩ = some (.int .i64 x.id) ∧ wu.drew.cell? ⟨g7, 1, none⟩ = some (.int .i64 x.bk) ∧ wu.drew.cell? ⟨g7, 2, none⟩ = some (.string x.nm) := ⟨drew_cell (B7.cell_ 0), drew_cell (B7.cell_ 1), drew_cell (B7.cell_ 2)⟩
          have B7d : Blk wu.drew g7 52 #[.int .i64 x.id, .int .i64 x.bk, .string x.nm, .slice At P ct, .slice As Q cs] := drew_blk B7
          have hbd : w.heap.size ≤ wu.drew.heap.size := hbu
          refine wp_region_noPanic ?_
          refine wp_region_held_drew (S := (fun w_ => w_.cell? ⟨g7, 0, none⟩ = some (.int .i64 x.id) ∧ w_.cell? ⟨g7, 1, none⟩ = some (.int .i64 x.bk) ∧ w_.cell? ⟨g7, 2, none⟩ = some (.string x.nm))) (by kernel_rfl) ?_ (fun hHeld => ?_)
          · (first | with_reducible exact QD | with_reducible exact Q1 | with_reducible exact Q2 | with_reducible exact Q3)
          refine tk 0 ?_; try simp only [Act.put, pz1, pz2, pz3]
          refine tk 1 ?_; try simp only [Act.put, pz1, pz2, pz3]
          refine tk 2 ?_; try simp only [Act.put, pz1, pz2, pz3]
          refine tk 4 ?_; try simp only [Act.put, pz1, pz2, pz3]
          refine tk 5 ?_; try simp only [Act.put, pz1, pz2, pz3]
          refine tk 7 ?_; try simp only [Act.put, pz1, pz2, pz3]
          refine tk 8 ?_; try simp only [Act.put, pz1, pz2, pz3]
          refine wpAnyH_ready (rs := [3]) (by kernel_rfl) (by simp) ?_
          refine AllReadyH.cons (o := ⟨some 69, .call { callee := .value (.func 29), args := #[.tmp 66, .tmp 68, .const (.int .i64 3)], argTypes := #[28, 3, 3] }, 28, "ref.go:33", #[⟨0, .data⟩, ⟨2, .data⟩], none⟩) rfl (fun K hK => ?_) AllReadyH.nil
          go_simp
          (first | (go_at_call 29; ((with_reducible refine (rnum3 x.id w.heap.size _ XX _ HRd.row hbd (by omega) (by omega) (by omega)).mono ?_); rintro e' w11 ⟨v1, rfl, HN⟩; have H1 := HRd.step HN; have B71 := B7d.keepU HN.kp (by decide); have Q1 : w11.cell? ⟨g7, 0, none⟩ = some (.int .i64 x.id) ∧ w11.cell? ⟨g7, 1, none⟩ = some (.int .i64 x.bk) ∧ w11.cell? ⟨g7, 2, none⟩ = some (.string x.nm) := (by refine ⟨?_, ?_, ?_⟩; (have h := B71.cell_ 0; simpa using h); (have h := B71.cell_ 1; simpa using h); (have h := B71.cell_ 2; simpa using h)); have hb1 := Nat.le_trans hbd HN.be.size; clear HN)) | (go_at_call 29; ((with_reducible refine (rnum3 x.bk w.heap.size _ (XX ++ iL x.id 3) _ H1.row hb1 (by rw [List.length_append, iL_len]; omega) (by omega) (by omega)).mono ?_); rintro e' w12 ⟨v1, rfl, HN⟩; have H2 := H1.step HN; have B72 := B71.keepU HN.kp (by decide); have Q2 : w12.cell? ⟨g7, 0, none⟩ = some (.int .i64 x.id) ∧ w12.cell? ⟨g7, 1, none⟩ = some (.int .i64 x.bk) ∧ w12.cell? ⟨g7, 2, none⟩ = some (.string x.nm) := (by refine ⟨?_, ?_, ?_⟩; (have h := B72.cell_ 0; simpa using h); (have h := B72.cell_ 1; simpa using h); (have h := B72.cell_ 2; simpa using h)); have hb2 := Nat.le_trans hb1 HN.be.size; clear HN)))
          go_wp2_with fail
          refine hK.out _ _ ?_ (fun hNew => ?_)
          · (first | with_reducible exact QD | with_reducible exact Q1 | with_reducible exact Q2 | with_reducible exact Q3)
          clear hK K hHeld
          have hHeld := hNew
          clear hNew
          try simp only [Act.put, pz1, pz2, pz3]
          refine wpAnyH_ready (rs := [6]) (by kernel_rfl) (by simp) ?_
          refine AllReadyH.cons (o := ⟨some 72, .call { callee := .value (.func 29), args := #[.tmp 69, .tmp 71, .const (.int .i64 3)], argTypes := #[28, 3, 3] }, 28, "ref.go:33", #[⟨3, .data⟩, ⟨5, .data⟩, ⟨3, .chain⟩], none⟩) rfl (fun K hK => ?_) AllReadyH.nil
          go_simp
          (first | (go_at_call 29; ((with_reducible refine (rnum3 x.id w.heap.size _ XX _ HRd.row hbd (by omega) (by omega) (by omega)).mono ?_); rintro e' w11 ⟨v1, rfl, HN⟩; have H1 := HRd.step HN; have B71 := B7d.keepU HN.kp (by decide); have Q1 : w11.cell? ⟨g7, 0, none⟩ = some (.int .i64 x.id) ∧ w11.cell? ⟨g7, 1, none⟩ = some (.int .i64 x.bk) ∧ w11.cell? ⟨g7, 2, none⟩ = some (.string x.nm) := (by refine ⟨?_, ?_, ?_⟩; (have h := B71.cell_ 0; simpa using h); (have h := B71.cell_ 1; simpa using h); (have h := B71.cell_ 2; simpa using h)); have hb1 := Nat.le_trans hbd HN.be.size; clear HN)) | (go_at_call 29; ((with_reducible refine (rnum3 x.bk w.heap.size _ (XX ++ iL x.id 3) _ H1.row hb1 (by rw [List.length_append, iL_len]; omega) (by omega) (by omega)).mono ?_); rintro e' w12 ⟨v1, rfl, HN⟩; have H2 := H1.step HN; have B72 := B71.keepU HN.kp (by decide); have Q2 : w12.cell? ⟨g7, 0, none⟩ = some (.int .i64 x.id) ∧ w12.cell? ⟨g7, 1, none⟩ = some (.int .i64 x.bk) ∧ w12.cell? ⟨g7, 2, none⟩ = some (.string x.nm) := (by refine ⟨?_, ?_, ?_⟩; (have h := B72.cell_ 0; simpa using h); (have h := B72.cell_ 1; simpa using h); (have h := B72.cell_ 2; simpa using h)); have hb2 := Nat.le_trans hb1 HN.be.size; clear HN)))
          go_wp2_with fail
          refine hK.out _ _ ?_ (fun hNew => ?_)
          · (first | with_reducible exact QD | with_reducible exact Q1 | with_reducible exact Q2 | with_reducible exact Q3)
          clear hK K hHeld
          have hHeld := hNew
          clear hNew
          try simp only [Act.put, pz1, pz2, pz3]
          refine wpAnyH_ready (rs := [9]) (by kernel_rfl) (by simp) ?_
          refine AllReadyH.cons (o := ⟨some 75, .call { callee := .value (.func 30), args := #[.tmp 72, .tmp 74], argTypes := #[28, 9] }, 28, "ref.go:33", #[⟨6, .data⟩, ⟨8, .data⟩, ⟨6, .chain⟩], none⟩) rfl (fun K hK => ?_) AllReadyH.nil
          go_simp
          (go_at_call 30; ((with_reducible refine (rtextT x.nm w.heap.size _ (XX ++ iL x.id 3 ++ iL x.bk 3) _ H2.row hb2 (by rw [List.length_append, List.length_append, iL_len, iL_len]; omega) (by omega)).mono ?_); rintro e' w13 ⟨v1, rfl, HN⟩; have H3 := H2.step HN; have B73 := B72.keepU HN.kp (by decide); have Q3 : w13.cell? ⟨g7, 0, none⟩ = some (.int .i64 x.id) ∧ w13.cell? ⟨g7, 1, none⟩ = some (.int .i64 x.bk) ∧ w13.cell? ⟨g7, 2, none⟩ = some (.string x.nm) := (by refine ⟨?_, ?_, ?_⟩; (have h := B73.cell_ 0; simpa using h); (have h := B73.cell_ 1; simpa using h); (have h := B73.cell_ 2; simpa using h)); have hb3_ := Nat.le_trans hb2 HN.be.size; clear HN))
          go_wp2_with fail
          refine hK.out _ _ ?_ (fun hNew => ?_)
          · (first | with_reducible exact QD | with_reducible exact Q1 | with_reducible exact Q2 | with_reducible exact Q3)
          clear hK K hHeld
          have hHeld := hNew
          clear hNew
          try simp only [Act.put, pz1, pz2, pz3]
          refine tk 10 ?_; try simp only [Act.put, pz1, pz2, pz3]
          refine wpAnyH_done (by kernel_rfl) ?_ _
          refine NoPanic.normal ?_
          obtain ⟨Y3, hY3⟩ : ∃ X, (XX ++ iL x.id 3 ++ iL x.bk 3 ++ nmL x.nm) = X := ⟨_, rfl⟩
          rw [hY3] at H3
          have lY3 : Y3.length ≤ 3030 := by rw [← hY3]; simp only [List.length_append, iL_len, nmL_len]; omega
          have HY3 := Lib.hid hY3
          have HV := H3
          have B7 := B73
          have hbv := hb3_
          have m3 := B7.cell_ 3
          have m4 := B7.cell_ 4
          simp at m3 m4
          clear hY3 H1 H2 H3 HRd QD Q1 Q2 Q3 B71 B72 B73 B7d hHeld hb1 hb2 hb3_ hbd HU hbu
          go_upto_region 16 with (go_at_call 29; ((with_reducible refine (rnum1 P w.heap.size _ Y3 _ HV.row hbv (by omega) (by omega)).mono ?_); rintro e' w14 ⟨v1, rfl, HN⟩; have B7 := B7.keepU HN.kp (by decide); have hbv := Nat.le_trans hbv HN.be.size; have HV := HV.step HN; obtain ⟨Y4, hY4⟩ : ∃ X, Y3 ++ [P] = X := ⟨_, rfl⟩; rw [hY4] at HV; have lY4 : Y4.length ≤ 3031 := (by rw [← hY4, List.length_append, List.length_singleton]; omega); have HY4 := Lib.hid hY4; clear hY4 HN m3 m4; have m3 := B7.cell_ 3; have m4 := B7.cell_ 4; simp at m3 m4))
          obtain ⟨wt, hwt⟩ : ∃ V : World, V = w14 := ⟨_, rfl⟩
          subst hwt
          obtain ⟨wo, hwo⟩ : ∃ V : World, V = wr := ⟨_, rfl⟩
          subst hwo
          clear m3 m4
          go_wp2_with fail
          go_loopw [4, 8] (fun sv iv wr => ∃ i : Nat, i ≤ P ∧ iv = .int .i64 (i : Int) ∧ ByT w.heap.size wt wr sv (Y4 ++ (x.tg.take i).flatMap nmL)) (fun _ iv _ => P - (intOf iv).toNat)
          case atStart => exact ⟨0, Nat.zero_le _, rfl, by simpa using ByT.start HV.row⟩
          case round =>
            obtain ⟨i, hi, rfl, HI⟩ := hrel
            have B7r := B7.keepU HI.kp (by decide)
            have hbi : w.heap.size ≤ wr.heap.size := Nat.le_trans hbv HI.be.size
            have lI : (Y4 ++ (x.tg.take i).flatMap nmL).length ≤ 3200 := by
              have h1 := fm_len nmL 21 (x.tg.take i) (fun t ht => by have := HXS.out.tg t (List.mem_of_mem_take ht); rw [nmL_len]; omega)
              rw [List.length_append]
              rw [List.length_take] at h1
              have h2 : 21 * min i x.tg.length ≤ 21 * P := Nat.mul_le_mul_left _ (by omega)
              omega
            have m3 := B7r.cell_ 3
            have m4 := B7r.cell_ 4
            simp at m3 m4
            by_cases hlt2 : i < P
            · obtain ⟨tt, ht⟩ : ∃ t, x.tg[i]? = some t := ⟨_, List.getElem?_eq_getElem (by have := HP.out; omega)⟩
              obtain ⟨b8, o8, rfl, l8, q8⟩ := hAt.at_ (by rw [List.length_map]; have := HP.out; omega)
              have y9 : wr.cell? ⟨b8, o8 + i, none⟩ = some (.string tt) := (((hbw.trans HV.be).trans HI.be).cell (p := ⟨b8, o8 + i, none⟩) l8).trans (q8 i _ (by rw [List.getElem?_map, ht]; rfl))
              have hft2 := fm_take nmL ht
              have htn : tt.size ≤ 20 := HXS.out.tg tt (List.mem_of_getElem? ht)
              have HFT2 := Lib.hid hft2
              have i0 : (0 : Int) ≤ (i : Int) := by omega
              have i1 : (i : Int) < (P : Int) := by omega
              clear hft2 ht q8
              obtain ⟨YY, hYY⟩ : ∃ X, Y4 ++ (x.tg.take i).flatMap nmL = X := ⟨_, rfl⟩
              rw [hYY] at HI lI
              have HYY := Lib.hid hYY
              clear hYY
              go_wp2_with (go_at_call 30; ((with_reducible refine (rtextT tt w.heap.size _ YY _ HI.row hbi (by omega) (by omega)).mono ?_); rintro e' w16 ⟨v1, rfl, HN⟩; skip))
              go_roundw
              case rel => exact ⟨i + 1, by omega, by go_num, by rw [HFT2.out, ← List.append_assoc, HYY.out]; exact HI.step HN⟩
              case measure => simp [intOf]; omega
            · obtain rfl : P = i := by omega
              rw [List.take_of_length_le (by have := HP.out; omega)] at HI lI
              clear hlt2
              have HV := HV.step HI
              obtain ⟨Y5, hY5⟩ : ∃ X, Y4 ++ x.tg.flatMap nmL = X := ⟨_, rfl⟩
              rw [hY5] at HV lI
              have lY5 := lI
              have HY5 := Lib.hid hY5
              have B7 := B7r
              have hbv := hbi
              clear hY5 B7r HI lI hbi
              go_upto_region 21 with (go_at_call 29; ((with_reducible refine (rnum1 Q w.heap.size _ Y5 _ HV.row hbv (by omega) (by omega)).mono ?_); rintro e' w15 ⟨v1, rfl, HN⟩; have B7 := B7.keepU HN.kp (by decide); have hbv := Nat.le_trans hbv HN.be.size; have HV := HV.step HN; obtain ⟨Y6, hY6⟩ : ∃ X, Y5 ++ [Q] = X := ⟨_, rfl⟩; rw [hY6] at HV; have lY6 : Y6.length ≤ 3201 := (by rw [← hY6, List.length_append, List.length_singleton]; omega); have HY6 := Lib.hid hY6; clear hY6 HN m4; have m4 := B7.cell_ 4; simp at m4))
              obtain ⟨wz, hwz⟩ : ∃ V : World, V = w15 := ⟨_, rfl⟩
              subst hwz
              clear m4
              go_wp2_with fail
              go_loopw [4, 9] (fun sv iv wr => ∃ i : Nat, i ≤ Q ∧ iv = .int .i64 (i : Int) ∧ ByT w.heap.size wz wr sv (Y6 ++ (x.sh.take i).flatMap (fun z => iL z 2))) (fun _ iv _ => Q - (intOf iv).toNat)
              case atStart => exact ⟨0, Nat.zero_le _, rfl, by simpa using ByT.start HV.row⟩
              case round =>
                obtain ⟨i, hi, rfl, HI⟩ := hrel
                have B7r := B7.keepU HI.kp (by decide)
                have hbi : w.heap.size ≤ wr.heap.size := Nat.le_trans hbv HI.be.size
                have lI : (Y6 ++ (x.sh.take i).flatMap (fun z => iL z 2)).length ≤ 3300 := by
                  have h1 := fm_len (fun z => iL z 2) 2 (x.sh.take i) (fun t _ => by rw [iL_len]; exact Nat.le_refl _)
                  rw [List.length_append]
                  rw [List.length_take] at h1
                  have h2 : 2 * min i x.sh.length ≤ 2 * Q := Nat.mul_le_mul_left _ (by omega)
                  omega
                have m4 := B7r.cell_ 4
                simp at m4
                by_cases hlt2 : i < Q
                · obtain ⟨zz, ht⟩ : ∃ t, x.sh[i]? = some t := ⟨_, List.getElem?_eq_getElem (by have := HQ.out; omega)⟩
                  obtain ⟨b8, o8, rfl, l8, q8⟩ := hAs.at_ (by rw [List.length_map]; have := HQ.out; omega)
                  have y9 : wr.cell? ⟨b8, o8 + i, none⟩ = some (.int .i64 zz) := (((hbw.trans HV.be).trans HI.be).cell (p := ⟨b8, o8 + i, none⟩) l8).trans (q8 i _ (by rw [List.getElem?_map, ht]; rfl))
                  have hft2 := fm_take (fun z => iL z 2) ht
                  have htn : 0 ≤ zz ∧ zz < 65536 := HXS.out.ok.c zz (List.mem_of_getElem? ht)
                  have HFT2 := Lib.hid hft2
                  have i0 : (0 : Int) ≤ (i : Int) := by omega
                  have i1 : (i : Int) < (Q : Int) := by omega
                  clear hft2 ht q8
                  obtain ⟨YY, hYY⟩ : ∃ X, Y6 ++ (x.sh.take i).flatMap (fun z => iL z 2) = X := ⟨_, rfl⟩
                  rw [hYY] at HI lI
                  have HYY := Lib.hid hYY
                  clear hYY
                  go_wp2_with (go_at_call 29; ((with_reducible refine (rnum2 zz w.heap.size _ YY _ HI.row hbi (by omega) htn.1 (by omega)).mono ?_); rintro e' w17 ⟨v1, rfl, HN⟩; skip))
                  go_roundw
                  case rel => exact ⟨i + 1, by omega, by go_num, by rw [HFT2.out, ← List.append_assoc, HYY.out]; exact HI.step HN⟩
                  case measure => simp [intOf]; omega
                · obtain rfl : Q = i := by omega
                  rw [List.take_of_length_le (by have := HQ.out; omega)] at HI lI
                  clear hlt2
                  have HV := HV.step HI
                  go_wp2_with fail
                  go_roundw
                  case rel => exact ⟨k + 1, by omega, by go_num, by
                    have e : Y6 ++ x.sh.flatMap (fun z => iL z 2) = X6 ++ (s.ts.take (k + 1)).flatMap ntL := by
                      rw [HFT.out, ← List.append_assoc, HXX.out, ← HY6.out, ← HY5.out, ← HY4.out, ← HY3.out]
                      unfold ntL
                      rw [HP.out, HQ.out]
                      simp [List.append_assoc]
                    rw [← e]
                    exact HR.step HV⟩
                  case measure => simp [intOf]; omega
        · obtain rfl : M = k := by omega
          rw [List.take_of_length_le (by have := HMM.out; omega)] at HR lR
          clear hlt
          have HTn := HT.step HR
          obtain ⟨X7, hX7⟩ : ∃ X, X6 ++ s.ts.flatMap ntL = X := ⟨_, rfl⟩
          rw [hX7] at HTn
          go_wp2_with fail
          go_ret2
          refine ⟨_, rfl, ?_, hbw⟩
          have e : shL s = X7 := by
            unfold shL
            rw [← hX7, ← HX6.out, ← HX5.out, ← HX4.out, ← HX3.out, HL.out, HMM.out]
            simp [List.append_assoc]
          rw [e]
          exact HTn.row
theorem rsize_any (s : Sf) (v : Value) (w : World) (hS : ShR w w.heap.size v s) (hz : SzF s) (N : Nat) (hN0 : (cond (mayS s) (shL s) []).length = N) :
    Calls Tryd.prog 15 #[v] w fun e' w' => e' = .returned (.int .i64 (N : Int)) ∧ Below w.heap.size w w' := by
  obtain ⟨M, hM⟩ : ∃ M, mayS s = M := ⟨_, rfl⟩
  rw [hM] at hN0
  have hS0 := hS
  obtain ⟨Ab, cb, An, cn, rfl, hB, hN, hcb, hmb, hcn, hmn⟩ := hS.ex
  clear hS
  have HB : Below w.heap.size w (w.alloc (.cells #[.int .i64 s.nb, .int .i64 s.nn, .int .i64 s.ns, .slice Ab s.bs.length cb, .slice An s.ts.length cn] 25)) := ((Below.refl w.heap.size w).alloc (Nat.le_refl _) _)
  have B1 : Blk (w.alloc (.cells #[.int .i64 s.nb, .int .i64 s.nn, .int .i64 s.ns, .slice Ab s.bs.length cb, .slice An s.ts.length cn] 25)) w.heap.size 25 #[.int .i64 s.nb, .int .i64 s.nn, .int .i64 s.ns, .slice Ab s.bs.length cb, .slice An s.ts.length cn] := Blk.new_ w 25 #[.int .i64 s.nb, .int .i64 s.nn, .int .i64 s.ns, .slice Ab s.bs.length cb, .slice An s.ts.length cn]
  have S1 : ShR (w.alloc (.cells #[.int .i64 s.nb, .int .i64 s.nn, .int .i64 s.ns, .slice Ab s.bs.length cb, .slice An s.ts.length cn] 25)) ((w.alloc (.cells #[.int .i64 s.nb, .int .i64 s.nn, .int .i64 s.ns, .slice Ab s.bs.length cb, .slice An s.ts.length cn] 25))).heap.size (.agg #[.int .i64 s.nb, .int .i64 s.nn, .int .i64 s.ns, .slice Ab s.bs.length cb, .slice An s.ts.length cn]) s := hS0.next HB
  have HZ := Lib.hid hz
  cases M
  · have HM := Lib.hid hM
    have hn : N = 0 := hN0.symm
    subst hn
    clear hM hN0 hS0 hz hB hN hcb hmb hcn hmn
    go_enter Tryd.func15, Tryd.ntmps15
    go_wp2_with (go_at_call 11; ((with_reducible refine (rlay_no s _ _ S1 HZ.out HM.out).mono ?_); rintro e' w3 ⟨rfl, bx⟩; have HB := btr HB HB.size bx))
    go_ret
    exact ⟨rfl, HB⟩
  · have HF := Lib.hid (mayF_of hM)
    have HN := Lib.hid hN0
    clear hM hN0 hS0 hz hB hN hcb hmb hcn hmn
    go_enter Tryd.func15, Tryd.ntmps15
    go_wp2_with (go_at_call 11; ((with_reducible refine (rlay_yes s _ _ S1 HZ.out HF.out).mono ?_); rintro e' w3 ⟨v1, rfl, hr, bx⟩; (obtain ⟨A, c, rfl, -, -⟩ := own_shape hr); rw [show (shL s).length = N from HN.out]; have HB := btr HB HB.size bx; clear hr))
    go_ret
    exact ⟨rfl, HB⟩
end Go.Proofs.YtllnfociddodcaaDoor
namespace Go.Proofs.YtllnfociddodcaaDoor
open Go.ChangeShapes Go.WideShapes Go.ChangeAt Go.RowKit
attribute [local go_sem ↓] Go.wp_at_zero Go.wp_at_succ
theorem sz_of_great {s : Sf} (h : greatS s = false) : SzF s := by
  have h1 : s.bs.length ≤ 10 := by
    rcases Nat.lt_or_ge 10 s.bs.length with h2 | h2
    · rw [gS_1 h2] at h; cases h
    · exact h2
  have h2 : s.ts.length ≤ 16 := by
    rcases Nat.lt_or_ge 16 s.ts.length with h3 | h3
    · rw [gS_2 h3] at h; cases h
    · exact h3
  have h3 : s.bs.any bigB = false := by
    cases h4 : s.bs.any bigB
    · rfl
    · rw [gS_b h1 h4] at h; cases h
  have h4 : s.ts.any bigN = false := by
    cases h5 : s.ts.any bigN
    · rfl
    · rw [gS_n h2 h5] at h; cases h
  have h5 : ∀ n ∈ s.ts, n.nm.size ≤ 60 ∧ n.tg.length ≤ 8 ∧ (∀ t ∈ n.tg, t.size ≤ 60) ∧ n.sh.length ≤ 12 := by
    intro n hn
    have h6 := List.any_eq_false.1 h4 n hn
    unfold bigN greatT at h6
    simp only [Bool.or_eq_true, decide_eq_true_eq, not_or, Bool.not_eq_true] at h6
    refine ⟨by omega, by omega, fun t ht => ?_, by omega⟩
    have h7 := List.any_eq_false.1 h6.2.1.2 t ht
    unfold bigS at h7
    have h8 : ¬ 60 < t.size := by simpa using h7
    omega
  have h6 : ∀ l : List Nt, (∀ n ∈ l, n.sh.length ≤ 12) → (l.flatMap Nt.sh).length ≤ 12 * l.length := by
    intro l
    induction l with
    | nil => intro _; simp
    | cons n l ih =>
      intro hl
      rw [List.flatMap_cons, List.length_append, List.length_cons]
      have q1 := hl n (by simp)
      have q2 := ih (fun m hm => hl m (by simp [hm]))
      omega
  refine ⟨fun b hb => ?_, fun n hn => ?_, by omega, by omega, ?_⟩
  · have h7 := List.any_eq_false.1 h3 b hb
    unfold bigB at h7
    have h8 : ¬ 60 < b.nm.size := by simpa using h7
    omega
  · obtain ⟨q1, q2, q3, q4⟩ := h5 n hn
    exact ⟨by omega, ⟨fun t ht => by have := q3 t ht; omega, by omega⟩, by omega⟩
  · have := h6 s.ts (fun n hn => (h5 n hn).2.2.2)
    omega
theorem own_bs {w : World} {B B' size n : Nat} {e : TypeId} {v : Value} {xs : List Value} (h : w.ownsRow B e size v n xs) (hB : B' ≤ B) : w.ownsRow B' e size v n xs := by
  refine ⟨h.1, ?_⟩
  rcases h.2 with h2 | ⟨g, cap, cur, hv, hb, h⟩
  · exact Or.inl h2
  · exact Or.inr ⟨g, cap, cur, hv, by omega, h⟩
theorem gtr {w w1 w2 : World} {row : Option Nat} (h : w.grownBy w1 row) (h2 : w1.grownBy w2 row) : w.grownBy w2 row := ⟨by rw [h2.os, h.os], by rw [h2.tape, h.tape], by rw [h2.output, h.output], Nat.le_trans h.size h2.size, fun k hk hne => (h2.block k (Nat.lt_of_lt_of_le hk h.size) hne).trans (h.block k hk hne)⟩
theorem galloc {w w1 : World} {row : Option Nat} (h : w.grownBy w1 row) (o : Obj) : w.grownBy (w1.alloc o) row := gtr h ⟨rfl, rfl, rfl, by simp, fun k hk _ => heap_alloc_old w1 o hk⟩
theorem infoByte2 : (Tryd.prog.info? 5).map (fun i => (i.zero, i.size, i.bytes)) = some (some (.int .u8 0), 1, 1) := by kernel_rfl
theorem over_own (n g cap : Nat) (xs : List Value) (base : Nat) (w : World) (ho : w.ownsRow base 5 1 (.slice (some ⟨g, 0, none⟩) n cap) n xs) (hb : base ≤ w.heap.size) (hn : n ≤ 100000) :
    Calls Tryd.prog 16 #[.slice (some ⟨g, 0, none⟩) n cap] w fun e w' => (∃ v, e = .returned v) ∧ w.grownBy w' (some g) := by
  obtain ⟨i0, hi, hz0, hz1, hz2⟩ := info_parts infoByte2
  go_enter Tryd.func16, Tryd.ntmps16
  go_wp2
  go_loopw [2] (fun i wr => ∃ (k : Nat) (ys : List Value), k ≤ n ∧ i = .int .i64 k ∧ wr.ownsRow base 5 1 (.slice (some ⟨g, 0, none⟩) n cap) n ys ∧ w.grownBy wr (some g)) (fun i _ => n - (intOf i).toNat)
  case atStart => exact ⟨0, xs, Nat.zero_le _, rfl, ho, World.grownBy.refl w _⟩
  case round =>
    obtain ⟨k, ys, hk, rfl, hr, hB⟩ := hrel
    by_cases hlt : k < n
    · have hyl : ys.length = n := by have := hr.1; omega
      have c1 : wr.cell? ⟨g, k, none⟩ = some (ys.getD k (.bool false)) := by
        rw [hr.cellAt k (by omega)]
        simp [show k < ys.length by omega]
      have f1 : wr.frozen? ⟨g, k, none⟩ = false := hr.frozenAt k
      have i0' : (0 : Int) ≤ (k : Int) := by omega
      have i1 : (k : Int) < (n : Int) := by omega
      have hst := hr.stored k (.int .u8 238)
      clear hyl
      go_wp2
      go_roundw
      case rel => exact ⟨k + 1, ys.set k (.int .u8 238), by omega, by go_num, hst.1, grown_set hB _ _⟩
      case measure => simp [intOf]; omega
    · go_wp2_with (at_builtin; refine wpList_app _ rfl (.tmp 12) (.tmp 13) _ rfl base 5 i0 _ 1 1 Tryd.underlying28 hi hz0 hz1 hz2 rfl (by decide) _ _ _ rfl (hr.alloc _) _ 1 _ [.int .u8 238] rfl (Rd.one (by simp)) (by simp [Value.oneCell']) (by unfold maxLen; omega) (by omega) (by simp; have := hB.size; omega) ?_; intro v2 w2 ho2 hg2 hv2)
      have HF : w.grownBy w2 (some g) := gtr (galloc hB _) hg2
      exact bodyPost_end (v := .tuple #[]) (by simp [results, Tryd.results16, go_sem]) rfl ⟨⟨_, rfl⟩, HF⟩
theorem over_nil (w : World) : Calls Tryd.prog 16 #[.slice none 0 0] w fun e w' => (∃ v, e = .returned v) ∧ Below w.heap.size w w' := by
  obtain ⟨i0, hi, hz0, hz1, hz2⟩ := info_parts infoByte2
  have hr : w.ownsRow w.heap.size 5 1 (.slice none 0 0) 0 [] := World.ownsRow_nil _ _ _ _
  go_enter Tryd.func16, Tryd.ntmps16
  go_wp2
  go_loop [2] (fun i => i = .int .i64 0) (fun i => 0)
  case atStart => rfl
  case round =>
    obtain rfl := hrel
    go_wp2_with (at_builtin; refine wpList_app _ rfl (.tmp 12) (.tmp 13) _ rfl w.heap.size 5 i0 _ 1 1 Tryd.underlying28 hi hz0 hz1 hz2 rfl (by decide) _ _ _ rfl (hr.alloc _) _ 1 _ [.int .u8 238] rfl (Rd.one (by simp)) (by simp [Value.oneCell']) (by unfold maxLen; omega) (by omega) (by simp) ?_; intro v2 w2 ho2 hg2 hv2)
    have HF : Below w.heap.size w w2 := ((Below.refl _ w).alloc (Nat.le_refl _) _).trans (below_app (Nat.le_refl _) (by simp) (hr.alloc _) hg2)
    exact bodyPost_end (v := .tuple #[]) (by simp [results, Tryd.results16, go_sem]) rfl ⟨⟨_, rfl⟩, HF⟩
theorem num_any (z : Int) (w : World) : Calls Tryd.prog 13 #[.int .i64 z] w fun e' w' => e' = .returned (.int .i64 z) ∧ Below w.heap.size w w' := by
  go_enter Tryd.func13, Tryd.ntmps13
  go_wp2_with fail
  go_ret
  exact ⟨rfl, Below.refl _ _⟩
theorem shL_len {s : Sf} (h : MayF s) : (shL s).length ≤ 10000 ∧ 0 < (shL s).length := by
  have h1 := fm_len bkL 100 s.bs (fun b hb => by
    have q := may_sz (h.bs b hb).2.2.1
    show (iL b.id 3 ++ nmL b.nm).length ≤ 100
    have e1 : (iL b.id 3).length = 3 := by simp [iL, beB]
    have e2 : (nmL b.nm).length = b.nm.size + 1 := by simp [nmL, bytN]
    rw [List.length_append, e1, e2]
    omega)
  have h2 := fm_len ntL 200 s.ts (fun n hn => ntL_len (h.nts hn))
  have h3 := h.bl
  have h4 := h.tl
  have e : ∀ z : Int, (iL z 3).length = 3 := fun z => by simp [iL, beB]
  have hL : (shL s).length = 11 + (s.bs.flatMap bkL).length + (s.ts.flatMap ntL).length := by
    simp only [shL, List.length_append, List.length_cons, e]
    omega
  omega
theorem layL (s : Sf) (v : Value) (w : World) (hS : ShR w w.heap.size v s) (hT : Tabs w) (hF : MayF s) (L : Nat) (hL : (shL s).length = L) :
    Calls Tryd.prog 10 #[v] w fun e' w' => ∃ g c, e' = .returned (.tuple #[.slice (some ⟨g, 0, none⟩) L c, .int .i64 0]) ∧ w'.ownsRow w.heap.size 5 1 (.slice (some ⟨g, 0, none⟩) L c) L ((shL s).map byteV) ∧ Below w.heap.size w w' := by
  refine (lay_yes s v w hS hT hF).mono ?_
  rintro e' w' ⟨v', rfl, hr, hb⟩
  have h0 := (shL_len hF).2
  unfold ByR at hr
  rw [hL] at hr h0
  rcases hr.2 with ⟨rfl, h1⟩ | ⟨g, cap, cur, rfl, _⟩
  · omega
  · exact ⟨g, cap, rfl, hr, hb⟩
theorem rlayL (s : Sf) (v : Value) (w : World) (hS : ShR w w.heap.size v s) (hz : SzF s) (hF : MayF s) (L : Nat) (hL : (shL s).length = L) :
    Calls Tryd.prog 11 #[v] w fun e' w' => ∃ g c, e' = .returned (.tuple #[.slice (some ⟨g, 0, none⟩) L c, .int .i64 0]) ∧ w'.ownsRow w.heap.size 5 1 (.slice (some ⟨g, 0, none⟩) L c) L ((shL s).map byteV) ∧ Below w.heap.size w w' := by
  refine (rlay_yes s v w hS hz hF).mono ?_
  rintro e' w' ⟨v', rfl, hr, hb⟩
  have h0 := (shL_len hF).2
  unfold ByR at hr
  rw [hL] at hr h0
  rcases hr.2 with ⟨rfl, h1⟩ | ⟨g, cap, cur, rfl, _⟩
  · omega
  · exact ⟨g, cap, rfl, hr, hb⟩
theorem lays_walk (s : Sf) (v : Value) (w : World) (hS : ShR w w.heap.size v s) (hT : Tabs w) :
    Calls Tryd.prog 3 #[v] w fun e' w' => e' = .returned (.bool true) ∧ Below w.heap.size w w' := by
  have hS0 := hS
  have hT0 := hT
  obtain ⟨Ab, cb, An, cn, rfl, -, -, -, -, -, -⟩ := hS.ex
  have HB : Below w.heap.size w (w.alloc (.cells #[.int .i64 s.nb, .int .i64 s.nn, .int .i64 s.ns, .slice Ab s.bs.length cb, .slice An s.ts.length cn] 25)) := (Below.refl w.heap.size w).alloc (Nat.le_refl _) _
  have B1 : Blk (w.alloc (.cells #[.int .i64 s.nb, .int .i64 s.nn, .int .i64 s.ns, .slice Ab s.bs.length cb, .slice An s.ts.length cn] 25)) w.heap.size 25 #[.int .i64 s.nb, .int .i64 s.nn, .int .i64 s.ns, .slice Ab s.bs.length cb, .slice An s.ts.length cn] := Blk.new_ w 25 #[.int .i64 s.nb, .int .i64 s.nn, .int .i64 s.ns, .slice Ab s.bs.length cb, .slice An s.ts.length cn]
  obtain ⟨k0, k1, k2, k3, k4⟩ := cell5 B1
  clear hS hT
  rcases (by cases hq : greatS s <;> simp : greatS s = true ∨ greatS s = false) with hg | hg
  · have HG := Lib.hid hg
    clear hg
    go_enter Tryd.func3, Tryd.ntmps3
    go_wp2_with (first | (go_at_call 8; ((with_reducible refine (greatShelf_any s _ _ ((hS0.below HB).mono HB.size) _ HG.out).mono ?_); rintro e' wN ⟨rfl, bx⟩; have HB := btr HB HB.size bx; have B1 := B1.below bx B1.lt; clear bx; (try clear k0 k1 k2 k3 k4); obtain ⟨k0, k1, k2, k3, k4⟩ := cell5 B1)) | (go_at_call 9; ((with_reducible refine (awakeC_any _ (Tabs.next hT0 HB)).mono ?_); rintro e' wN ⟨rfl, bx⟩; have HB := btr HB HB.size bx; clear bx)))
    go_ret
    exact ⟨rfl, HB⟩
  · have HG := Lib.hid hg
    have HZ := Lib.hid (sz_of_great hg)
    clear hg
    rcases (by cases hq : mayS s <;> simp : mayS s = true ∨ mayS s = false) with hm | hm
    · have hF := mayF_of hm
      obtain ⟨L, hL⟩ : ∃ L, (shL s).length = L := ⟨_, rfl⟩
      have h6 : L ≤ 1000000 := by have := (shL_len hF).1; omega
      have h7 : L ≤ 100000 := by have := (shL_len hF).1; omega
      have HLS : Hid ((cond (mayS s) (shL s) []).length = L) := Lib.hid (by rw [hm]; exact hL)
      have HF := Lib.hid hF
      have HL := Lib.hid hL
      clear hm hF hL
      go_enter Tryd.func3, Tryd.ntmps3
      go_upto_region 4 with (first | (go_at_call 8; ((with_reducible refine (greatShelf_any s _ _ ((hS0.below HB).mono HB.size) _ HG.out).mono ?_); rintro e' wN ⟨rfl, bx⟩; have HB := btr HB HB.size bx; have B1 := B1.below bx B1.lt; clear bx; (try clear k0 k1 k2 k3 k4); obtain ⟨k0, k1, k2, k3, k4⟩ := cell5 B1)) | (go_at_call 10; ((with_reducible refine (layL s _ _ ((hS0.below HB).mono HB.size) (Tabs.next hT0 HB) HF.out L HL.out).mono ?_); rintro e' wN ⟨g1, c1, rfl, hr1, bx⟩; have hq1 := hr1.lt g1 rfl; have hb1 := B1.lt; have hr1 := own_bs hr1 HB.size; have HB := btr HB HB.size bx; have B1 := B1.below bx B1.lt; clear bx; (try clear k0 k1 k2 k3 k4); obtain ⟨k0, k1, k2, k3, k4⟩ := cell5 B1)))
      have HS1 := HB.size
      go_upto_region 5 with (go_at_call 11; ((with_reducible refine (rlayL s _ _ ((hS0.below HB).mono HB.size) HZ.out HF.out L HL.out).mono ?_); rintro e' wN ⟨g2, c2, rfl, hr2, bx⟩; have HB := btr HB HB.size bx; have B1 := B1.below bx B1.lt; have hr1 := own_belowW hr1 bx; have hq2 := hr2.lt g2 rfl; have hne : g2 ≠ g1 := (by omega); clear bx; (try clear k0 k1 k2 k3 k4); obtain ⟨k0, k1, k2, k3, k4⟩ := cell5 B1))
      replace hr1 := drew_own hr1
      replace hr2 := drew_own hr2
      replace HB := drew_below HB
      replace B1 := drew_blk B1
      clear k0 k1 k2 k3 k4
      obtain ⟨k0, k1, k2, k3, k4⟩ := cell5 B1
      refine wp_region_noPanic ?_
      refine wp_region_held_drew (S := (fun _ => True)) (by kernel_rfl) ?_ (fun hHeld => ?_)
      · exact trivial
      refine tk 0 ?_; try simp only [Act.put, pz1, pz2, pz3]
      refine tk 1 ?_; try simp only [Act.put, pz1, pz2, pz3]
      refine wpAnyH_ready (rs := [2]) (by kernel_rfl) (by simp) ?_
      refine AllReadyH.cons (o := ⟨some 23, .call { callee := .value (.func 12), args := #[.tmp 21, .tmp 22], argTypes := #[28, 28] }, 4, "law.go:28", #[⟨0, .data⟩, ⟨1, .data⟩], none⟩) rfl (fun K hK => ?_) AllReadyH.nil
      go_simp
      (go_at_call 12; ((with_reducible refine (sameB_b true _ _ L L (by rw [HL.out]) (by rw [HL.out]) (by simp) _ _ _ _ _ (Sl.of_own hr1) (Sl.of_own hr2) h6 h6).mono ?_); rintro e' wN ⟨rfl, bx⟩; have HB := btr HB HB.size bx; have B1 := B1.below bx B1.lt; have hr1 := own_belowW hr1 bx; have hr2 := own_belowW hr2 bx; clear bx; (try clear k0 k1 k2 k3 k4); obtain ⟨k0, k1, k2, k3, k4⟩ := cell5 B1))
      go_wp2_with fail
      refine hK.out _ _ ?_ (fun hNew => ?_)
      · exact trivial
      clear hK K hHeld
      have hHeld := hNew
      clear hNew
      try simp only [Act.put, pz1, pz2, pz3]
      refine tk 3 ?_; try simp only [Act.put, pz1, pz2, pz3]
      refine tk 4 ?_; try simp only [Act.put, pz1, pz2, pz3]
      refine tk 6 ?_; try simp only [Act.put, pz1, pz2, pz3]
      refine wpAnyH_ready (rs := [5]) (by kernel_rfl) (by simp) ?_
      refine AllReadyH.cons (o := ⟨some 26, .call { callee := .value (.func 13), args := #[.tmp 25], argTypes := #[29] }, 3, "law.go:28", #[⟨4, .data⟩, ⟨3, .chain⟩, ⟨3, .guard⟩], some (3, true)⟩) rfl (fun K hK => ?_) AllReadyH.nil
      go_simp
      (go_at_call 13; ((with_reducible refine (num_any _ _).mono ?_); rintro e' wN ⟨rfl, bx⟩; have HB := btr HB HB.size bx; have B1 := B1.below bx B1.lt; have hr1 := own_belowW hr1 bx; have hr2 := own_belowW hr2 bx; clear bx; (try clear k0 k1 k2 k3 k4); obtain ⟨k0, k1, k2, k3, k4⟩ := cell5 B1))
      go_wp2_with fail
      refine hK.out _ _ ?_ (fun hNew => ?_)
      · exact trivial
      clear hK K hHeld
      have hHeld := hNew
      clear hNew
      try simp only [Act.put, pz1, pz2, pz3]
      refine tk 7 ?_; try simp only [Act.put, pz1, pz2, pz3]
      refine tk 8 ?_; try simp only [Act.put, pz1, pz2, pz3]
      refine tk 9 ?_; try simp only [Act.put, pz1, pz2, pz3]
      refine wpAnyH_ready (rs := [10, 12]) (by kernel_rfl) (by simp) ?_
      refine (AllReadyH.cons (o := ⟨some 31, .load 25 (.tmp 1), 25, "law.go:28", #[⟨9, .guard⟩], some (9, true)⟩) rfl (fun K hK => ?_) (AllReadyH.cons (o := ⟨some 33, .load 25 (.tmp 1), 25, "law.go:28", #[⟨9, .guard⟩], some (9, true)⟩) rfl (fun K hK => ?_) AllReadyH.nil))
      · go_simp
        refine hK.out _ _ ?_ (fun hNew => ?_)
        · exact trivial
        clear hK K hHeld
        have hHeld := hNew
        clear hNew
        try simp only [Act.put, pz1, pz2, pz3]
        refine wpAnyH_ready (rs := [11, 12]) (by kernel_rfl) (by simp) ?_
        refine (AllReadyH.cons (o := ⟨some 32, .call { callee := .value (.func 14), args := #[.tmp 31], argTypes := #[25] }, 3, "law.go:28", #[⟨10, .data⟩, ⟨9, .chain⟩, ⟨9, .guard⟩], some (9, true)⟩) rfl (fun K hK => ?_) (AllReadyH.cons (o := ⟨some 33, .load 25 (.tmp 1), 25, "law.go:28", #[⟨9, .guard⟩], some (9, true)⟩) rfl (fun K hK => ?_) AllReadyH.nil))
        · go_simp
          (first | (go_at_call 12; ((with_reducible refine (sameB_b true _ _ L L (by rw [HL.out]) (by rw [HL.out]) (by simp) _ _ _ _ _ (Sl.of_own hr1) (Sl.of_own hr2) h6 h6).mono ?_); rintro e' wN ⟨rfl, bx⟩; have HB := btr HB HB.size bx; have B1 := B1.below bx B1.lt; have hr1 := own_belowW hr1 bx; have hr2 := own_belowW hr2 bx; clear bx; (try clear k0 k1 k2 k3 k4); obtain ⟨k0, k1, k2, k3, k4⟩ := cell5 B1)) | (go_at_call 13; ((with_reducible refine (num_any _ _).mono ?_); rintro e' wN ⟨rfl, bx⟩; have HB := btr HB HB.size bx; have B1 := B1.below bx B1.lt; have hr1 := own_belowW hr1 bx; have hr2 := own_belowW hr2 bx; clear bx; (try clear k0 k1 k2 k3 k4); obtain ⟨k0, k1, k2, k3, k4⟩ := cell5 B1)) | (go_at_call 14; ((with_reducible refine (size_any s _ _ ((hS0.below HB).mono HB.size) (Tabs.next hT0 HB) L HLS.out).mono ?_); rintro e' wN ⟨rfl, bx⟩; have HB := btr HB HB.size bx; have B1 := B1.below bx B1.lt; have hr1 := own_belowW hr1 bx; have hr2 := own_belowW hr2 bx; clear bx; (try clear k0 k1 k2 k3 k4); obtain ⟨k0, k1, k2, k3, k4⟩ := cell5 B1)) | (go_at_call 15; ((with_reducible refine (rsize_any s _ _ ((hS0.below HB).mono HB.size) HZ.out L HLS.out).mono ?_); rintro e' wN ⟨rfl, bx⟩; have HB := btr HB HB.size bx; have B1 := B1.below bx B1.lt; have hr1 := own_belowW hr1 bx; have hr2 := own_belowW hr2 bx; clear bx; (try clear k0 k1 k2 k3 k4); obtain ⟨k0, k1, k2, k3, k4⟩ := cell5 B1)))
          go_wp2_with fail
          refine hK.out _ _ ?_ (fun hNew => ?_)
          · exact trivial
          clear hK K hHeld
          have hHeld := hNew
          clear hNew
          try simp only [Act.put, pz1, pz2, pz3]
          refine wpAnyH_ready (rs := [12]) (by kernel_rfl) (by simp) ?_
          refine AllReadyH.cons (o := ⟨some 33, .load 25 (.tmp 1), 25, "law.go:28", #[⟨9, .guard⟩], some (9, true)⟩) rfl (fun K hK => ?_) AllReadyH.nil
          go_simp
          refine hK.out _ _ ?_ (fun hNew => ?_)
          · exact trivial
          clear hK K hHeld
          have hHeld := hNew
          clear hNew
          try simp only [Act.put, pz1, pz2, pz3]
          refine wpAnyH_ready (rs := [13]) (by kernel_rfl) (by simp) ?_
          refine AllReadyH.cons (o := ⟨some 34, .call { callee := .value (.func 15), args := #[.tmp 33], argTypes := #[25] }, 3, "law.go:28", #[⟨12, .data⟩, ⟨11, .chain⟩, ⟨9, .guard⟩], some (9, true)⟩) rfl (fun K hK => ?_) AllReadyH.nil
          go_simp
          (go_at_call 15; ((with_reducible refine (rsize_any s _ _ ((hS0.below HB).mono HB.size) HZ.out L HLS.out).mono ?_); rintro e' wN ⟨rfl, bx⟩; have HB := btr HB HB.size bx; have B1 := B1.below bx B1.lt; have hr1 := own_belowW hr1 bx; have hr2 := own_belowW hr2 bx; clear bx; (try clear k0 k1 k2 k3 k4); obtain ⟨k0, k1, k2, k3, k4⟩ := cell5 B1))
          go_wp2_with fail
          refine hK.out _ _ ?_ (fun hNew => ?_)
          · exact trivial
          clear hK K hHeld
          have hHeld := hNew
          clear hNew
          try simp only [Act.put, pz1, pz2, pz3]
          refine tk 14 ?_; try simp only [Act.put, pz1, pz2, pz3]
          refine tk 15 ?_; try simp only [Act.put, pz1, pz2, pz3]
          refine tk 16 ?_; try simp only [Act.put, pz1, pz2, pz3]
          refine wpAnyH_done (by kernel_rfl) ?_ _
          refine NoPanic.normal ?_
          clear hHeld
          go_upto_region 7 with (go_at_call 16; ((with_reducible refine (over_own L g1 c1 _ _ _ hr1 HB.size h7).mono ?_); rintro e' wN ⟨⟨vx, rfl⟩, hgx⟩; have hr2 := hr2.kept hgx (Or.inr (fun e => hne (by injection e))); have HB := below_grown HB hgx (by omega) HB.size; have B1 := B1.grown hgx (by omega); clear hgx hr1; (try clear k0 k1 k2 k3 k4); obtain ⟨k0, k1, k2, k3, k4⟩ := cell5 B1))
          go_wp2_with (first | (go_at_call 10; ((with_reducible refine (layL s _ _ ((hS0.below HB).mono HB.size) (Tabs.next hT0 HB) HF.out L HL.out).mono ?_); rintro e' wN ⟨g3, c3, rfl, hr3, bx⟩; have HB := btr HB HB.size bx; have B1 := B1.below bx B1.lt; have hr2 := own_belowW hr2 bx; clear bx; (try clear k0 k1 k2 k3 k4); obtain ⟨k0, k1, k2, k3, k4⟩ := cell5 B1)) | (go_at_call 12; ((with_reducible refine (sameB_b true _ _ L L (by rw [HL.out]) (by rw [HL.out]) (by simp) _ _ _ _ _ (Sl.of_own hr3) (Sl.of_own hr2) h6 h6).mono ?_); rintro e' wN ⟨rfl, bx⟩; have HB := btr HB HB.size bx; have B1 := B1.below bx B1.lt; have hr2 := own_belowW hr2 bx; clear bx; (try clear k0 k1 k2 k3 k4); obtain ⟨k0, k1, k2, k3, k4⟩ := cell5 B1)) | (go_at_call 9; ((with_reducible refine (awakeC_any _ (Tabs.next hT0 HB)).mono ?_); rintro e' wN ⟨rfl, bx⟩; have HB := btr HB HB.size bx; clear bx)))
          go_ret
          exact ⟨rfl, HB⟩
        · go_simp
          refine hK.out _ _ ?_ (fun hNew => ?_)
          · exact trivial
          clear hK K hHeld
          have hHeld := hNew
          clear hNew
          try simp only [Act.put, pz1, pz2, pz3]
          refine wpAnyH_ready (rs := [11]) (by kernel_rfl) (by simp) ?_
          refine AllReadyH.cons (o := ⟨some 32, .call { callee := .value (.func 14), args := #[.tmp 31], argTypes := #[25] }, 3, "law.go:28", #[⟨10, .data⟩, ⟨9, .chain⟩, ⟨9, .guard⟩], some (9, true)⟩) rfl (fun K hK => ?_) AllReadyH.nil
          go_simp
          (go_at_call 14; ((with_reducible refine (size_any s _ _ ((hS0.below HB).mono HB.size) (Tabs.next hT0 HB) L HLS.out).mono ?_); rintro e' wN ⟨rfl, bx⟩; have HB := btr HB HB.size bx; have B1 := B1.below bx B1.lt; have hr1 := own_belowW hr1 bx; have hr2 := own_belowW hr2 bx; clear bx; (try clear k0 k1 k2 k3 k4); obtain ⟨k0, k1, k2, k3, k4⟩ := cell5 B1))
          go_wp2_with fail
          refine hK.out _ _ ?_ (fun hNew => ?_)
          · exact trivial
          clear hK K hHeld
          have hHeld := hNew
          clear hNew
          try simp only [Act.put, pz1, pz2, pz3]
          refine wpAnyH_ready (rs := [13]) (by kernel_rfl) (by simp) ?_
          refine AllReadyH.cons (o := ⟨some 34, .call { callee := .value (.func 15), args := #[.tmp 33], argTypes := #[25] }, 3, "law.go:28", #[⟨12, .data⟩, ⟨11, .chain⟩, ⟨9, .guard⟩], some (9, true)⟩) rfl (fun K hK => ?_) AllReadyH.nil
          go_simp
          (go_at_call 15; ((with_reducible refine (rsize_any s _ _ ((hS0.below HB).mono HB.size) HZ.out L HLS.out).mono ?_); rintro e' wN ⟨rfl, bx⟩; have HB := btr HB HB.size bx; have B1 := B1.below bx B1.lt; have hr1 := own_belowW hr1 bx; have hr2 := own_belowW hr2 bx; clear bx; (try clear k0 k1 k2 k3 k4); obtain ⟨k0, k1, k2, k3, k4⟩ := cell5 B1))
          go_wp2_with fail
          refine hK.out _ _ ?_ (fun hNew => ?_)
          · exact trivial
          clear hK K hHeld
          have hHeld := hNew
          clear hNew
          try simp only [Act.put, pz1, pz2, pz3]
          refine tk 14 ?_; try simp only [Act.put, pz1, pz2, pz3]
          refine tk 15 ?_; try simp only [Act.put, pz1, pz2, pz3]
          refine tk 16 ?_; try simp only [Act.put, pz1, pz2, pz3]
          refine wpAnyH_done (by kernel_rfl) ?_ _
          refine NoPanic.normal ?_
          clear hHeld
          go_upto_region 7 with (go_at_call 16; ((with_reducible refine (over_own L g1 c1 _ _ _ hr1 HB.size h7).mono ?_); rintro e' wN ⟨⟨vx, rfl⟩, hgx⟩; have hr2 := hr2.kept hgx (Or.inr (fun e => hne (by injection e))); have HB := below_grown HB hgx (by omega) HB.size; have B1 := B1.grown hgx (by omega); clear hgx hr1; (try clear k0 k1 k2 k3 k4); obtain ⟨k0, k1, k2, k3, k4⟩ := cell5 B1))
          go_wp2_with (first | (go_at_call 10; ((with_reducible refine (layL s _ _ ((hS0.below HB).mono HB.size) (Tabs.next hT0 HB) HF.out L HL.out).mono ?_); rintro e' wN ⟨g3, c3, rfl, hr3, bx⟩; have HB := btr HB HB.size bx; have B1 := B1.below bx B1.lt; have hr2 := own_belowW hr2 bx; clear bx; (try clear k0 k1 k2 k3 k4); obtain ⟨k0, k1, k2, k3, k4⟩ := cell5 B1)) | (go_at_call 12; ((with_reducible refine (sameB_b true _ _ L L (by rw [HL.out]) (by rw [HL.out]) (by simp) _ _ _ _ _ (Sl.of_own hr3) (Sl.of_own hr2) h6 h6).mono ?_); rintro e' wN ⟨rfl, bx⟩; have HB := btr HB HB.size bx; have B1 := B1.below bx B1.lt; have hr2 := own_belowW hr2 bx; clear bx; (try clear k0 k1 k2 k3 k4); obtain ⟨k0, k1, k2, k3, k4⟩ := cell5 B1)) | (go_at_call 9; ((with_reducible refine (awakeC_any _ (Tabs.next hT0 HB)).mono ?_); rintro e' wN ⟨rfl, bx⟩; have HB := btr HB HB.size bx; clear bx)))
          go_ret
          exact ⟨rfl, HB⟩
      · go_simp
        refine hK.out _ _ ?_ (fun hNew => ?_)
        · exact trivial
        clear hK K hHeld
        have hHeld := hNew
        clear hNew
        try simp only [Act.put, pz1, pz2, pz3]
        refine wpAnyH_ready (rs := [10]) (by kernel_rfl) (by simp) ?_
        refine AllReadyH.cons (o := ⟨some 31, .load 25 (.tmp 1), 25, "law.go:28", #[⟨9, .guard⟩], some (9, true)⟩) rfl (fun K hK => ?_) AllReadyH.nil
        go_simp
        refine hK.out _ _ ?_ (fun hNew => ?_)
        · exact trivial
        clear hK K hHeld
        have hHeld := hNew
        clear hNew
        try simp only [Act.put, pz1, pz2, pz3]
        refine wpAnyH_ready (rs := [11]) (by kernel_rfl) (by simp) ?_
        refine AllReadyH.cons (o := ⟨some 32, .call { callee := .value (.func 14), args := #[.tmp 31], argTypes := #[25] }, 3, "law.go:28", #[⟨10, .data⟩, ⟨9, .chain⟩, ⟨9, .guard⟩], some (9, true)⟩) rfl (fun K hK => ?_) AllReadyH.nil
        go_simp
        (go_at_call 14; ((with_reducible refine (size_any s _ _ ((hS0.below HB).mono HB.size) (Tabs.next hT0 HB) L HLS.out).mono ?_); rintro e' wN ⟨rfl, bx⟩; have HB := btr HB HB.size bx; have B1 := B1.below bx B1.lt; have hr1 := own_belowW hr1 bx; have hr2 := own_belowW hr2 bx; clear bx; (try clear k0 k1 k2 k3 k4); obtain ⟨k0, k1, k2, k3, k4⟩ := cell5 B1))
        go_wp2_with fail
        refine hK.out _ _ ?_ (fun hNew => ?_)
        · exact trivial
        clear hK K hHeld
        have hHeld := hNew
        clear hNew
        try simp only [Act.put, pz1, pz2, pz3]
        refine wpAnyH_ready (rs := [13]) (by kernel_rfl) (by simp) ?_
        refine AllReadyH.cons (o := ⟨some 34, .call { callee := .value (.func 15), args := #[.tmp 33], argTypes := #[25] }, 3, "law.go:28", #[⟨12, .data⟩, ⟨11, .chain⟩, ⟨9, .guard⟩], some (9, true)⟩) rfl (fun K hK => ?_) AllReadyH.nil
        go_simp
        (go_at_call 15; ((with_reducible refine (rsize_any s _ _ ((hS0.below HB).mono HB.size) HZ.out L HLS.out).mono ?_); rintro e' wN ⟨rfl, bx⟩; have HB := btr HB HB.size bx; have B1 := B1.below bx B1.lt; have hr1 := own_belowW hr1 bx; have hr2 := own_belowW hr2 bx; clear bx; (try clear k0 k1 k2 k3 k4); obtain ⟨k0, k1, k2, k3, k4⟩ := cell5 B1))
        go_wp2_with fail
        refine hK.out _ _ ?_ (fun hNew => ?_)
        · exact trivial
        clear hK K hHeld
        have hHeld := hNew
        clear hNew
        try simp only [Act.put, pz1, pz2, pz3]
        refine tk 14 ?_; try simp only [Act.put, pz1, pz2, pz3]
        refine tk 15 ?_; try simp only [Act.put, pz1, pz2, pz3]
        refine tk 16 ?_; try simp only [Act.put, pz1, pz2, pz3]
        refine wpAnyH_done (by kernel_rfl) ?_ _
        refine NoPanic.normal ?_
        clear hHeld
        go_upto_region 7 with (go_at_call 16; ((with_reducible refine (over_own L g1 c1 _ _ _ hr1 HB.size h7).mono ?_); rintro e' wN ⟨⟨vx, rfl⟩, hgx⟩; have hr2 := hr2.kept hgx (Or.inr (fun e => hne (by injection e))); have HB := below_grown HB hgx (by omega) HB.size; have B1 := B1.grown hgx (by omega); clear hgx hr1; (try clear k0 k1 k2 k3 k4); obtain ⟨k0, k1, k2, k3, k4⟩ := cell5 B1))
        go_wp2_with (first | (go_at_call 10; ((with_reducible refine (layL s _ _ ((hS0.below HB).mono HB.size) (Tabs.next hT0 HB) HF.out L HL.out).mono ?_); rintro e' wN ⟨g3, c3, rfl, hr3, bx⟩; have HB := btr HB HB.size bx; have B1 := B1.below bx B1.lt; have hr2 := own_belowW hr2 bx; clear bx; (try clear k0 k1 k2 k3 k4); obtain ⟨k0, k1, k2, k3, k4⟩ := cell5 B1)) | (go_at_call 12; ((with_reducible refine (sameB_b true _ _ L L (by rw [HL.out]) (by rw [HL.out]) (by simp) _ _ _ _ _ (Sl.of_own hr3) (Sl.of_own hr2) h6 h6).mono ?_); rintro e' wN ⟨rfl, bx⟩; have HB := btr HB HB.size bx; have B1 := B1.below bx B1.lt; have hr2 := own_belowW hr2 bx; clear bx; (try clear k0 k1 k2 k3 k4); obtain ⟨k0, k1, k2, k3, k4⟩ := cell5 B1)) | (go_at_call 9; ((with_reducible refine (awakeC_any _ (Tabs.next hT0 HB)).mono ?_); rintro e' wN ⟨rfl, bx⟩; have HB := btr HB HB.size bx; clear bx)))
        go_ret
        exact ⟨rfl, HB⟩
    · have HMN := Lib.hid hm
      have HLS : Hid ((cond (mayS s) (shL s) []).length = 0) := Lib.hid (by rw [hm]; rfl)
      clear hm
      go_enter Tryd.func3, Tryd.ntmps3
      go_upto_region 5 with (first | (go_at_call 8; ((with_reducible refine (greatShelf_any s _ _ ((hS0.below HB).mono HB.size) _ HG.out).mono ?_); rintro e' wN ⟨rfl, bx⟩; have HB := btr HB HB.size bx; have B1 := B1.below bx B1.lt; clear bx; (try clear k0 k1 k2 k3 k4); obtain ⟨k0, k1, k2, k3, k4⟩ := cell5 B1)) | (go_at_call 10; ((with_reducible refine (lay_no s _ _ ((hS0.below HB).mono HB.size) (Tabs.next hT0 HB) HMN.out).mono ?_); rintro e' wN ⟨rfl, bx⟩; have HB := btr HB HB.size bx; have B1 := B1.below bx B1.lt; clear bx; (try clear k0 k1 k2 k3 k4); obtain ⟨k0, k1, k2, k3, k4⟩ := cell5 B1)) | (go_at_call 11; ((with_reducible refine (rlay_no s _ _ ((hS0.below HB).mono HB.size) HZ.out HMN.out).mono ?_); rintro e' wN ⟨rfl, bx⟩; have HB := btr HB HB.size bx; have B1 := B1.below bx B1.lt; clear bx; (try clear k0 k1 k2 k3 k4); obtain ⟨k0, k1, k2, k3, k4⟩ := cell5 B1)))
      replace HB := drew_below HB
      replace B1 := drew_blk B1
      clear k0 k1 k2 k3 k4
      obtain ⟨k0, k1, k2, k3, k4⟩ := cell5 B1
      refine wp_region_noPanic ?_
      refine wp_region_held_drew (S := (fun _ => True)) (by kernel_rfl) ?_ (fun hHeld => ?_)
      · exact trivial
      refine tk 0 ?_; try simp only [Act.put, pz1, pz2, pz3]
      refine tk 1 ?_; try simp only [Act.put, pz1, pz2, pz3]
      refine wpAnyH_ready (rs := [2]) (by kernel_rfl) (by simp) ?_
      refine AllReadyH.cons (o := ⟨some 23, .call { callee := .value (.func 12), args := #[.tmp 21, .tmp 22], argTypes := #[28, 28] }, 4, "law.go:28", #[⟨0, .data⟩, ⟨1, .data⟩], none⟩) rfl (fun K hK => ?_) AllReadyH.nil
      go_simp
      (go_at_call 12; ((with_reducible refine (sameB_b true [] [] 0 0 rfl rfl rfl none none 0 0 _ Sl.nil_ Sl.nil_ (by decide) (by decide)).mono ?_); rintro e' wN ⟨rfl, bx⟩; have HB := btr HB HB.size bx; have B1 := B1.below bx B1.lt; clear bx; (try clear k0 k1 k2 k3 k4); obtain ⟨k0, k1, k2, k3, k4⟩ := cell5 B1))
      go_wp2_with fail
      refine hK.out _ _ ?_ (fun hNew => ?_)
      · exact trivial
      clear hK K hHeld
      have hHeld := hNew
      clear hNew
      try simp only [Act.put, pz1, pz2, pz3]
      refine tk 3 ?_; try simp only [Act.put, pz1, pz2, pz3]
      refine tk 4 ?_; try simp only [Act.put, pz1, pz2, pz3]
      refine tk 6 ?_; try simp only [Act.put, pz1, pz2, pz3]
      refine wpAnyH_ready (rs := [5]) (by kernel_rfl) (by simp) ?_
      refine AllReadyH.cons (o := ⟨some 26, .call { callee := .value (.func 13), args := #[.tmp 25], argTypes := #[29] }, 3, "law.go:28", #[⟨4, .data⟩, ⟨3, .chain⟩, ⟨3, .guard⟩], some (3, true)⟩) rfl (fun K hK => ?_) AllReadyH.nil
      go_simp
      (go_at_call 13; ((with_reducible refine (num_any _ _).mono ?_); rintro e' wN ⟨rfl, bx⟩; have HB := btr HB HB.size bx; have B1 := B1.below bx B1.lt; clear bx; (try clear k0 k1 k2 k3 k4); obtain ⟨k0, k1, k2, k3, k4⟩ := cell5 B1))
      go_wp2_with fail
      refine hK.out _ _ ?_ (fun hNew => ?_)
      · exact trivial
      clear hK K hHeld
      have hHeld := hNew
      clear hNew
      try simp only [Act.put, pz1, pz2, pz3]
      refine tk 7 ?_; try simp only [Act.put, pz1, pz2, pz3]
      refine tk 8 ?_; try simp only [Act.put, pz1, pz2, pz3]
      refine tk 9 ?_; try simp only [Act.put, pz1, pz2, pz3]
      refine wpAnyH_ready (rs := [10, 12]) (by kernel_rfl) (by simp) ?_
      refine (AllReadyH.cons (o := ⟨some 31, .load 25 (.tmp 1), 25, "law.go:28", #[⟨9, .guard⟩], some (9, true)⟩) rfl (fun K hK => ?_) (AllReadyH.cons (o := ⟨some 33, .load 25 (.tmp 1), 25, "law.go:28", #[⟨9, .guard⟩], some (9, true)⟩) rfl (fun K hK => ?_) AllReadyH.nil))
      · go_simp
        refine hK.out _ _ ?_ (fun hNew => ?_)
        · exact trivial
        clear hK K hHeld
        have hHeld := hNew
        clear hNew
        try simp only [Act.put, pz1, pz2, pz3]
        refine wpAnyH_ready (rs := [11, 12]) (by kernel_rfl) (by simp) ?_
        refine (AllReadyH.cons (o := ⟨some 32, .call { callee := .value (.func 14), args := #[.tmp 31], argTypes := #[25] }, 3, "law.go:28", #[⟨10, .data⟩, ⟨9, .chain⟩, ⟨9, .guard⟩], some (9, true)⟩) rfl (fun K hK => ?_) (AllReadyH.cons (o := ⟨some 33, .load 25 (.tmp 1), 25, "law.go:28", #[⟨9, .guard⟩], some (9, true)⟩) rfl (fun K hK => ?_) AllReadyH.nil))
        · go_simp
          (first | (go_at_call 12; ((with_reducible refine (sameB_b true [] [] 0 0 rfl rfl rfl none none 0 0 _ Sl.nil_ Sl.nil_ (by decide) (by decide)).mono ?_); rintro e' wN ⟨rfl, bx⟩; have HB := btr HB HB.size bx; have B1 := B1.below bx B1.lt; clear bx; (try clear k0 k1 k2 k3 k4); obtain ⟨k0, k1, k2, k3, k4⟩ := cell5 B1)) | (go_at_call 13; ((with_reducible refine (num_any _ _).mono ?_); rintro e' wN ⟨rfl, bx⟩; have HB := btr HB HB.size bx; have B1 := B1.below bx B1.lt; clear bx; (try clear k0 k1 k2 k3 k4); obtain ⟨k0, k1, k2, k3, k4⟩ := cell5 B1)) | (go_at_call 14; ((with_reducible refine (size_any s _ _ ((hS0.below HB).mono HB.size) (Tabs.next hT0 HB) 0 HLS.out).mono ?_); rintro e' wN ⟨rfl, bx⟩; have HB := btr HB HB.size bx; have B1 := B1.below bx B1.lt; clear bx; (try clear k0 k1 k2 k3 k4); obtain ⟨k0, k1, k2, k3, k4⟩ := cell5 B1)) | (go_at_call 15; ((with_reducible refine (rsize_any s _ _ ((hS0.below HB).mono HB.size) HZ.out 0 HLS.out).mono ?_); rintro e' wN ⟨rfl, bx⟩; have HB := btr HB HB.size bx; have B1 := B1.below bx B1.lt; clear bx; (try clear k0 k1 k2 k3 k4); obtain ⟨k0, k1, k2, k3, k4⟩ := cell5 B1)))
          go_wp2_with fail
          refine hK.out _ _ ?_ (fun hNew => ?_)
          · exact trivial
          clear hK K hHeld
          have hHeld := hNew
          clear hNew
          try simp only [Act.put, pz1, pz2, pz3]
          refine wpAnyH_ready (rs := [12]) (by kernel_rfl) (by simp) ?_
          refine AllReadyH.cons (o := ⟨some 33, .load 25 (.tmp 1), 25, "law.go:28", #[⟨9, .guard⟩], some (9, true)⟩) rfl (fun K hK => ?_) AllReadyH.nil
          go_simp
          refine hK.out _ _ ?_ (fun hNew => ?_)
          · exact trivial
          clear hK K hHeld
          have hHeld := hNew
          clear hNew
          try simp only [Act.put, pz1, pz2, pz3]
          refine wpAnyH_ready (rs := [13]) (by kernel_rfl) (by simp) ?_
          refine AllReadyH.cons (o := ⟨some 34, .call { callee := .value (.func 15), args := #[.tmp 33], argTypes := #[25] }, 3, "law.go:28", #[⟨12, .data⟩, ⟨11, .chain⟩, ⟨9, .guard⟩], some (9, true)⟩) rfl (fun K hK => ?_) AllReadyH.nil
          go_simp
          (go_at_call 15; ((with_reducible refine (rsize_any s _ _ ((hS0.below HB).mono HB.size) HZ.out 0 HLS.out).mono ?_); rintro e' wN ⟨rfl, bx⟩; have HB := btr HB HB.size bx; have B1 := B1.below bx B1.lt; clear bx; (try clear k0 k1 k2 k3 k4); obtain ⟨k0, k1, k2, k3, k4⟩ := cell5 B1))
          go_wp2_with fail
          refine hK.out _ _ ?_ (fun hNew => ?_)
          · exact trivial
          clear hK K hHeld
          have hHeld := hNew
          clear hNew
          try simp only [Act.put, pz1, pz2, pz3]
          refine tk 14 ?_; try simp only [Act.put, pz1, pz2, pz3]
          refine tk 15 ?_; try simp only [Act.put, pz1, pz2, pz3]
          refine tk 16 ?_; try simp only [Act.put, pz1, pz2, pz3]
          refine wpAnyH_done (by kernel_rfl) ?_ _
          refine NoPanic.normal ?_
          clear hHeld
          go_wp2_with (first | (go_at_call 16; ((with_reducible refine (over_nil _).mono ?_); rintro e' wN ⟨⟨vx, rfl⟩, bx⟩; have HB := btr HB HB.size bx; have B1 := B1.below bx B1.lt; clear bx; (try clear k0 k1 k2 k3 k4); obtain ⟨k0, k1, k2, k3, k4⟩ := cell5 B1)) | (go_at_call 10; ((with_reducible refine (lay_no s _ _ ((hS0.below HB).mono HB.size) (Tabs.next hT0 HB) HMN.out).mono ?_); rintro e' wN ⟨rfl, bx⟩; have HB := btr HB HB.size bx; have B1 := B1.below bx B1.lt; clear bx; (try clear k0 k1 k2 k3 k4); obtain ⟨k0, k1, k2, k3, k4⟩ := cell5 B1)) | (go_at_call 12; ((with_reducible refine (sameB_b true [] [] 0 0 rfl rfl rfl none none 0 0 _ Sl.nil_ Sl.nil_ (by decide) (by decide)).mono ?_); rintro e' wN ⟨rfl, bx⟩; have HB := btr HB HB.size bx; have B1 := B1.below bx B1.lt; clear bx; (try clear k0 k1 k2 k3 k4); obtain ⟨k0, k1, k2, k3, k4⟩ := cell5 B1)) | (go_at_call 9; ((with_reducible refine (awakeC_any _ (Tabs.next hT0 HB)).mono ?_); rintro e' wN ⟨rfl, bx⟩; have HB := btr HB HB.size bx; clear bx)))
          go_ret
          exact ⟨rfl, HB⟩
        · go_simp
          refine hK.out _ _ ?_ (fun hNew => ?_)
          · exact trivial
          clear hK K hHeld
          have hHeld := hNew
          clear hNew
          try simp only [Act.put, pz1, pz2, pz3]
          refine wpAnyH_ready (rs := [11]) (by kernel_rfl) (by simp) ?_
          refine AllReadyH.cons (o := ⟨some 32, .call { callee := .value (.func 14), args := #[.tmp 31], argTypes := #[25] }, 3, "law.go:28", #[⟨10, .data⟩, ⟨9, .chain⟩, ⟨9, .guard⟩], some (9, true)⟩) rfl (fun K hK => ?_) AllReadyH.nil
          go_simp
          (go_at_call 14; ((with_reducible refine (size_any s _ _ ((hS0.below HB).mono HB.size) (Tabs.next hT0 HB) 0 HLS.out).mono ?_); rintro e' wN ⟨rfl, bx⟩; have HB := btr HB HB.size bx; have B1 := B1.below bx B1.lt; clear bx; (try clear k0 k1 k2 k3 k4); obtain ⟨k0, k1, k2, k3, k4⟩ := cell5 B1))
          go_wp2_with fail
          refine hK.out _ _ ?_ (fun hNew => ?_)
          · exact trivial
          clear hK K hHeld
          have hHeld := hNew
          clear hNew
          try simp only [Act.put, pz1, pz2, pz3]
          refine wpAnyH_ready (rs := [13]) (by kernel_rfl) (by simp) ?_
          refine AllReadyH.cons (o := ⟨some 34, .call { callee := .value (.func 15), args := #[.tmp 33], argTypes := #[25] }, 3, "law.go:28", #[⟨12, .data⟩, ⟨11, .chain⟩, ⟨9, .guard⟩], some (9, true)⟩) rfl (fun K hK => ?_) AllReadyH.nil
          go_simp
          (go_at_call 15; ((with_reducible refine (rsize_any s _ _ ((hS0.below HB).mono HB.size) HZ.out 0 HLS.out).mono ?_); rintro e' wN ⟨rfl, bx⟩; have HB := btr HB HB.size bx; have B1 := B1.below bx B1.lt; clear bx; (try clear k0 k1 k2 k3 k4); obtain ⟨k0, k1, k2, k3, k4⟩ := cell5 B1))
          go_wp2_with fail
          refine hK.out _ _ ?_ (fun hNew => ?_)
          · exact trivial
          clear hK K hHeld
          have hHeld := hNew
          clear hNew
          try simp only [Act.put, pz1, pz2, pz3]
          refine tk 14 ?_; try simp only [Act.put, pz1, pz2, pz3]
          refine tk 15 ?_; try simp only [Act.put, pz1, pz2, pz3]
          refine tk 16 ?_; try simp only [Act.put, pz1, pz2, pz3]
          refine wpAnyH_done (by kernel_rfl) ?_ _
          refine NoPanic.normal ?_
          clear hHeld
          go_wp2_with (first | (go_at_call 16; ((with_reducible refine (over_nil _).mono ?_); rintro e' wN ⟨⟨vx, rfl⟩, bx⟩; have HB := btr HB HB.size bx; have B1 := B1.below bx B1.lt; clear bx; (try clear k0 k1 k2 k3 k4); obtain ⟨k0, k1, k2, k3, k4⟩ := cell5 B1)) | (go_at_call 10; ((with_reducible refine (lay_no s _ _ ((hS0.below HB).mono HB.size) (Tabs.next hT0 HB) HMN.out).mono ?_); rintro e' wN ⟨rfl, bx⟩; have HB := btr HB HB.size bx; have B1 := B1.below bx B1.lt; clear bx; (try clear k0 k1 k2 k3 k4); obtain ⟨k0, k1, k2, k3, k4⟩ := cell5 B1)) | (go_at_call 12; ((with_reducible refine (sameB_b true [] [] 0 0 rfl rfl rfl none none 0 0 _ Sl.nil_ Sl.nil_ (by decide) (by decide)).mono ?_); rintro e' wN ⟨rfl, bx⟩; have HB := btr HB HB.size bx; have B1 := B1.below bx B1.lt; clear bx; (try clear k0 k1 k2 k3 k4); obtain ⟨k0, k1, k2, k3, k4⟩ := cell5 B1)) | (go_at_call 9; ((with_reducible refine (awakeC_any _ (Tabs.next hT0 HB)).mono ?_); rintro e' wN ⟨rfl, bx⟩; have HB := btr HB HB.size bx; clear bx)))
          go_ret
          exact ⟨rfl, HB⟩
      · go_simp
        refine hK.out _ _ ?_ (fun hNew => ?_)
        · exact trivial
        clear hK K hHeld
        have hHeld := hNew
        clear hNew
        try simp only [Act.put, pz1, pz2, pz3]
        refine wpAnyH_ready (rs := [10]) (by kernel_rfl) (by simp) ?_
        refine AllReadyH.cons (o := ⟨some 31, .load 25 (.tmp 1), 25, "law.go:28", #[⟨9, .guard⟩], some (9, true)⟩) rfl (fun K hK => ?_) AllReadyH.nil
        go_simp
        refine hK.out _ _ ?_ (fun hNew => ?_)
        · exact trivial
        clear hK K hHeld
        have hHeld := hNew
        clear hNew
        try simp only [Act.put, pz1, pz2, pz3]
        refine wpAnyH_ready (rs := [11]) (by kernel_rfl) (by simp) ?_
        refine AllReadyH.cons (o := ⟨some 32, .call { callee := .value (.func 14), args := #[.tmp 31], argTypes := #[25] }, 3, "law.go:28", #[⟨10, .data⟩, ⟨9, .chain⟩, ⟨9, .guard⟩], some (9, true)⟩) rfl (fun K hK => ?_) AllReadyH.nil
        go_simp
        (go_at_call 14; ((with_reducible refine (size_any s _ _ ((hS0.below HB).mono HB.size) (Tabs.next hT0 HB) 0 HLS.out).mono ?_); rintro e' wN ⟨rfl, bx⟩; have HB := btr HB HB.size bx; have B1 := B1.below bx B1.lt; clear bx; (try clear k0 k1 k2 k3 k4); obtain ⟨k0, k1, k2, k3, k4⟩ := cell5 B1))
        go_wp2_with fail
        refine hK.out _ _ ?_ (fun hNew => ?_)
        · exact trivial
        clear hK K hHeld
        have hHeld := hNew
        clear hNew
        try simp only [Act.put, pz1, pz2, pz3]
        refine wpAnyH_ready (rs := [13]) (by kernel_rfl) (by simp) ?_
        refine AllReadyH.cons (o := ⟨some 34, .call { callee := .value (.func 15), args := #[.tmp 33], argTypes := #[25] }, 3, "law.go:28", #[⟨12, .data⟩, ⟨11, .chain⟩, ⟨9, .guard⟩], some (9, true)⟩) rfl (fun K hK => ?_) AllReadyH.nil
        go_simp
        (go_at_call 15; ((with_reducible refine (rsize_any s _ _ ((hS0.below HB).mono HB.size) HZ.out 0 HLS.out).mono ?_); rintro e' wN ⟨rfl, bx⟩; have HB := btr HB HB.size bx; have B1 := B1.below bx B1.lt; clear bx; (try clear k0 k1 k2 k3 k4); obtain ⟨k0, k1, k2, k3, k4⟩ := cell5 B1))
        go_wp2_with fail
        refine hK.out _ _ ?_ (fun hNew => ?_)
        · exact trivial
        clear hK K hHeld
        have hHeld := hNew
        clear hNew
        try simp only [Act.put, pz1, pz2, pz3]
        refine tk 14 ?_; try simp only [Act.put, pz1, pz2, pz3]
        refine tk 15 ?_; try simp only [Act.put, pz1, pz2, pz3]
        refine tk 16 ?_; try simp only [Act.put, pz1, pz2, pz3]
        refine wpAnyH_done (by kernel_rfl) ?_ _
        refine NoPanic.normal ?_
        clear hHeld
        go_wp2_with (first | (go_at_call 16; ((with_reducible refine (over_nil _).mono ?_); rintro e' wN ⟨⟨vx, rfl⟩, bx⟩; have HB := btr HB HB.size bx; have B1 := B1.below bx B1.lt; clear bx; (try clear k0 k1 k2 k3 k4); obtain ⟨k0, k1, k2, k3, k4⟩ := cell5 B1)) | (go_at_call 10; ((with_reducible refine (lay_no s _ _ ((hS0.below HB).mono HB.size) (Tabs.next hT0 HB) HMN.out).mono ?_); rintro e' wN ⟨rfl, bx⟩; have HB := btr HB HB.size bx; have B1 := B1.below bx B1.lt; clear bx; (try clear k0 k1 k2 k3 k4); obtain ⟨k0, k1, k2, k3, k4⟩ := cell5 B1)) | (go_at_call 12; ((with_reducible refine (sameB_b true [] [] 0 0 rfl rfl rfl none none 0 0 _ Sl.nil_ Sl.nil_ (by decide) (by decide)).mono ?_); rintro e' wN ⟨rfl, bx⟩; have HB := btr HB HB.size bx; have B1 := B1.below bx B1.lt; clear bx; (try clear k0 k1 k2 k3 k4); obtain ⟨k0, k1, k2, k3, k4⟩ := cell5 B1)) | (go_at_call 9; ((with_reducible refine (awakeC_any _ (Tabs.next hT0 HB)).mono ?_); rintro e' wN ⟨rfl, bx⟩; have HB := btr HB HB.size bx; clear bx)))
        go_ret
        exact ⟨rfl, HB⟩
end Go.Proofs.YtllnfociddodcaaDoor
namespace Go.Proofs.YtllnfociddodcaaDoor
open Go.ChangeShapes Go.WideShapes Go.ChangeAt Go.RowKit
theorem acc_eq : Rows.laid_unicode_utf8_acceptRanges = Lib.acceptData := by kernel_rfl
theorem first_eq : Rows.laid_unicode_utf8_first = Lib.firstData := Pinned.utf8First_eq
def laidTabs : List (String × DataW Unit) := [("unicode/utf8.acceptRanges", Lib.acceptData), ("unicode/utf8.first", Lib.firstData)]
theorem laid_eq : [("unicode/utf8.acceptRanges", Rows.laid_unicode_utf8_acceptRanges), ("unicode/utf8.first", Rows.laid_unicode_utf8_first)] = laidTabs := by rw [acc_eq, first_eq]; rfl
noncomputable def laidWorld (os : Os) : World :=
  let w0 := World.holding Tryd.prog os ⟨#[], #[], []⟩
  let put (h : Array Obj) (g : Nat) (cs : Array Value) : Array Obj := h.modify g fun
    | .cells _ t frozen => .cells cs t frozen
    | o => o
  let h1 := put w0.heap 0 (Lib.firstTab.map fun z => Value.int .u8 z).toArray
  let h2 := put h1 1 ((List.range 16).flatMap fun i => [Value.int .u8 (Lib.accLo i), Value.int .u8 (Lib.accHi i)]).toArray
  { w0 with heap := h2 }
theorem noHandle (w : World) : laidMetH Tryd.prog laidTabs w ↔ laidMet Tryd.prog laidTabs w := by
  have e : (laidTabs.filter fun x => x.2.handleName?.isSome) = [] := by kernel_rfl
  unfold laidMetH
  rw [e]
theorem laid_met (os : Os) (args : Array Value) : laidMetH Tryd.prog [("unicode/utf8.acceptRanges", Rows.laid_unicode_utf8_acceptRanges), ("unicode/utf8.first", Rows.laid_unicode_utf8_first)] ((laidWorld os).forCall (fun _ _ => 0) ⟨#[], args, []⟩).memory := by
  rw [laid_eq, noHandle]
  exact (LaidIn.of_run (l := laidTabs) [0, 1] 8 (by kernel_rfl) (by kernel_rfl) (by kernel_rfl) (by kernel_rfl)).met
theorem tabs_of {W : World} (h : laidMetH Tryd.prog [("unicode/utf8.acceptRanges", Rows.laid_unicode_utf8_acceptRanges), ("unicode/utf8.first", Rows.laid_unicode_utf8_first)] W) : Tabs W := by
  rw [laid_eq, noHandle] at h
  exact utf8Tabs_of_readsT (U8Types.of196 Tryd.laysValid) ⟨by kernel_rfl, by kernel_rfl, by kernel_rfl, by kernel_rfl, by kernel_rfl, by kernel_rfl, by kernel_rfl⟩ (Lib.laidMet.reads h (.tail _ (.head _))) (Lib.laidMet.reads h (.head _))
end Go.Proofs.YtllnfociddodcaaDoor
