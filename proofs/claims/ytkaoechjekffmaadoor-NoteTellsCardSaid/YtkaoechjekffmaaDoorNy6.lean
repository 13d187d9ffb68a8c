/- Chapter 17's own: may the shelf be? -/
import Derived.Test.YtkaoechjekffmaaDoorNy5
import Derived.Test.YtkaoechjekffmaaDoorNy4
import Derived.Test.YtkaoechjekffmaaDoorNy2
import Derived.Test.YtkaoechjekffmaaDoorNy3
set_option linter.unusedSimpArgs false
set_option linter.unusedVariables false
set_option maxRecDepth 100000
set_option maxHeartbeats 16000000
namespace Go.Proofs.YtkaoechjekffmaaDoor
open Go.ChangeShapes Go.WideShapes Go.ChangeAt Go.RowKit
attribute [local go_sem ↓] Go.wp_at_zero Go.wp_at_succ
structure SzF (s : Sf) : Prop where
  hb : ∀ b ∈ s.bs, b.nm.size ≤ 100000
  hn : ∀ b ∈ s.ts, b.nm.size ≤ 100000 ∧ ((∀ t ∈ b.tg, t.size ≤ 100000) ∧ b.tg.length ≤ 100000) ∧ b.sh.length ≤ 100000
  bl : s.bs.length ≤ 100000
  tl : s.ts.length ≤ 100000
  fl : (s.ts.flatMap Nt.sh).length ≤ 100000
def rMayB (s : Sf) : Bool := rbkB s && (rntB s && rshB s)
theorem rMay_any (s : Sf) (v : Value) (w : World) (hS : ShR w w.heap.size v s) (hz : SzF s) (T : Bool) (hT0 : rMayB s = T) :
    Calls Tryd.prog 57 #[v] w fun e' w' => e' = .returned (.bool T) ∧ Below w.heap.size w w' := by
  have hS0 := hS
  obtain ⟨Ab, cb, An, cn, rfl, hB, hN, hcb, hmb, hcn, hmn⟩ := hS.ex
  clear hS
  have HB : Below w.heap.size w (w.alloc (.cells #[.int .i64 s.nb, .int .i64 s.nn, .int .i64 s.ns, .slice Ab s.bs.length cb, .slice An s.ts.length cn] 25)) := ((Below.refl w.heap.size w).alloc (by first | (simp; done) | (simp; omega)) _)
  have B1 : Blk (w.alloc (.cells #[.int .i64 s.nb, .int .i64 s.nn, .int .i64 s.ns, .slice Ab s.bs.length cb, .slice An s.ts.length cn] 25)) w.heap.size 25 #[.int .i64 s.nb, .int .i64 s.nn, .int .i64 s.ns, .slice Ab s.bs.length cb, .slice An s.ts.length cn] := Blk.new_ w 25 #[.int .i64 s.nb, .int .i64 s.nn, .int .i64 s.ns, .slice Ab s.bs.length cb, .slice An s.ts.length cn]
  have S1 : ShR (w.alloc (.cells #[.int .i64 s.nb, .int .i64 s.nn, .int .i64 s.ns, .slice Ab s.bs.length cb, .slice An s.ts.length cn] 25)) ((w.alloc (.cells #[.int .i64 s.nb, .int .i64 s.nn, .int .i64 s.ns, .slice Ab s.bs.length cb, .slice An s.ts.length cn] 25))).heap.size (.agg #[.int .i64 s.nb, .int .i64 s.nn, .int .i64 s.ns, .slice Ab s.bs.length cb, .slice An s.ts.length cn]) s := hS0.next HB
  have HZ := Lib.hid hz
  obtain ⟨R1, h1⟩ : ∃ R, rbkB s = R := ⟨_, rfl⟩
  obtain ⟨R2, h2⟩ : ∃ R, rntB s = R := ⟨_, rfl⟩
  obtain ⟨R3, h3⟩ : ∃ R, rshB s = R := ⟨_, rfl⟩
  unfold rMayB at hT0
  rw [h1, h2, h3] at hT0
  have H0 := Lib.hid hT0
  have H1 := Lib.hid h1
  have H2 := Lib.hid h2
  have H3 := Lib.hid h3
  clear hT0 h1 h2 h3 hS0 hB hN hcb hmb hcn hmn hz
  cases R1
  · skip
    go_enter Tryd.func57, Tryd.ntmps57
    go_wp2_with (first | (go_at_call 76; ((with_reducible refine (rbooks_any s _ _ S1 HZ.out.hb HZ.out.bl _ H1.out).mono ?_); rintro e' w4 ⟨rfl, b4⟩; have S1 := S1.next b4; have B1 := B1.below b4 B1.lt; have HB := btr HB HB.size b4; (try clear k0 k1 k2 k3 k4); have k0 := B1.cell_ 0; have k1 := B1.cell_ 1; have k2 := B1.cell_ 2; have k3 := B1.cell_ 3; have k4 := B1.cell_ 4; simp at k0 k1 k2 k3 k4; clear b4)))
    go_ret
    exact ⟨by rw [← H0.out]; rfl, HB⟩
  · cases R2
    · skip
      go_enter Tryd.func57, Tryd.ntmps57
      go_wp2_with (first | (go_at_call 76; ((with_reducible refine (rbooks_any s _ _ S1 HZ.out.hb HZ.out.bl _ H1.out).mono ?_); rintro e' w4 ⟨rfl, b4⟩; have S1 := S1.next b4; have B1 := B1.below b4 B1.lt; have HB := btr HB HB.size b4; (try clear k0 k1 k2 k3 k4); have k0 := B1.cell_ 0; have k1 := B1.cell_ 1; have k2 := B1.cell_ 2; have k3 := B1.cell_ 3; have k4 := B1.cell_ 4; simp at k0 k1 k2 k3 k4; clear b4)) | (go_at_call 77; ((with_reducible refine (rnotes_any s _ _ S1 HZ.out.hn ⟨HZ.out.bl, HZ.out.tl⟩ _ H2.out).mono ?_); rintro e' w5 ⟨rfl, b5⟩; have S1 := S1.next b5; have B1 := B1.below b5 B1.lt; have HB := btr HB HB.size b5; (try clear k0 k1 k2 k3 k4); have k0 := B1.cell_ 0; have k1 := B1.cell_ 1; have k2 := B1.cell_ 2; have k3 := B1.cell_ 3; have k4 := B1.cell_ 4; simp at k0 k1 k2 k3 k4; clear b5)))
      go_ret
      exact ⟨by rw [← H0.out]; rfl, HB⟩
    · cases R3
      · skip
        go_enter Tryd.func57, Tryd.ntmps57
        go_wp2_with (first | (go_at_call 76; ((with_reducible refine (rbooks_any s _ _ S1 HZ.out.hb HZ.out.bl _ H1.out).mono ?_); rintro e' w4 ⟨rfl, b4⟩; have S1 := S1.next b4; have B1 := B1.below b4 B1.lt; have HB := btr HB HB.size b4; (try clear k0 k1 k2 k3 k4); have k0 := B1.cell_ 0; have k1 := B1.cell_ 1; have k2 := B1.cell_ 2; have k3 := B1.cell_ 3; have k4 := B1.cell_ 4; simp at k0 k1 k2 k3 k4; clear b4)) | (go_at_call 77; ((with_reducible refine (rnotes_any s _ _ S1 HZ.out.hn ⟨HZ.out.bl, HZ.out.tl⟩ _ H2.out).mono ?_); rintro e' w5 ⟨rfl, b5⟩; have S1 := S1.next b5; have B1 := B1.below b5 B1.lt; have HB := btr HB HB.size b5; (try clear k0 k1 k2 k3 k4); have k0 := B1.cell_ 0; have k1 := B1.cell_ 1; have k2 := B1.cell_ 2; have k3 := B1.cell_ 3; have k4 := B1.cell_ 4; simp at k0 k1 k2 k3 k4; clear b5)) | (go_at_call 78; ((with_reducible refine (rsheets_any s _ _ S1 HZ.out.tl HZ.out.fl _ H3.out).mono ?_); rintro e' w6 ⟨rfl, b6⟩; have S1 := S1.next b6; have B1 := B1.below b6 B1.lt; have HB := btr HB HB.size b6; (try clear k0 k1 k2 k3 k4); have k0 := B1.cell_ 0; have k1 := B1.cell_ 1; have k2 := B1.cell_ 2; have k3 := B1.cell_ 3; have k4 := B1.cell_ 4; simp at k0 k1 k2 k3 k4; clear b6)))
        go_ret
        exact ⟨by rw [← H0.out]; rfl, HB⟩
      · skip
        go_enter Tryd.func57, Tryd.ntmps57
        go_wp2_with (first | (go_at_call 76; ((with_reducible refine (rbooks_any s _ _ S1 HZ.out.hb HZ.out.bl _ H1.out).mono ?_); rintro e' w4 ⟨rfl, b4⟩; have S1 := S1.next b4; have B1 := B1.below b4 B1.lt; have HB := btr HB HB.size b4; (try clear k0 k1 k2 k3 k4); have k0 := B1.cell_ 0; have k1 := B1.cell_ 1; have k2 := B1.cell_ 2; have k3 := B1.cell_ 3; have k4 := B1.cell_ 4; simp at k0 k1 k2 k3 k4; clear b4)) | (go_at_call 77; ((with_reducible refine (rnotes_any s _ _ S1 HZ.out.hn ⟨HZ.out.bl, HZ.out.tl⟩ _ H2.out).mono ?_); rintro e' w5 ⟨rfl, b5⟩; have S1 := S1.next b5; have B1 := B1.below b5 B1.lt; have HB := btr HB HB.size b5; (try clear k0 k1 k2 k3 k4); have k0 := B1.cell_ 0; have k1 := B1.cell_ 1; have k2 := B1.cell_ 2; have k3 := B1.cell_ 3; have k4 := B1.cell_ 4; simp at k0 k1 k2 k3 k4; clear b5)) | (go_at_call 78; ((with_reducible refine (rsheets_any s _ _ S1 HZ.out.tl HZ.out.fl _ H3.out).mono ?_); rintro e' w6 ⟨rfl, b6⟩; have S1 := S1.next b6; have B1 := B1.below b6 B1.lt; have HB := btr HB HB.size b6; (try clear k0 k1 k2 k3 k4); have k0 := B1.cell_ 0; have k1 := B1.cell_ 1; have k2 := B1.cell_ 2; have k3 := B1.cell_ 3; have k4 := B1.cell_ 4; simp at k0 k1 k2 k3 k4; clear b6)))
        go_ret
        exact ⟨by rw [← H0.out]; rfl, HB⟩
end Go.Proofs.YtkaoechjekffmaaDoor
namespace Go.Proofs.YtkaoechjekffmaaDoor
open Go.ChangeShapes Go.WideShapes Go.ChangeAt Go.RowKit
attribute [local go_sem ↓] Go.wp_at_zero Go.wp_at_succ
theorem bkOk_iff {s : Sf} : ∀ (l pre : List Bk), bkOk s pre l = true ↔ (∀ b ∈ l, 1 ≤ b.id ∧ b.id < s.nb ∧ mayN b.nm = true) ∧ (∀ a, pre.getLast? = some a → ∀ b ∈ l, a.id < b.id) ∧ (l.Pairwise fun a b => a.id < b.id) ∧ (l.Pairwise fun a b => sameS a.nm b.nm = false) ∧ ∀ a ∈ pre, ∀ b ∈ l, sameS a.nm b.nm = false
  | [], pre => by simp [bkOk]
  | x :: l, pre => by
    have ih := bkOk_iff (s := s) l (pre ++ [x])
    have hp : prevOk pre x = true ↔ ∀ a, pre.getLast? = some a → a.id < x.id := by
      unfold prevOk
      cases pre.getLast? with
      | none => simp
      | some p => simp
    show (decide (1 ≤ x.id) && (decide (x.id < s.nb) && (prevOk pre x && (mayN x.nm && (!pre.any (fun c => sameS c.nm x.nm) && bkOk s (pre ++ [x]) l))))) = true ↔ _
    rw [Bool.and_eq_true, Bool.and_eq_true, Bool.and_eq_true, Bool.and_eq_true, Bool.and_eq_true, ih, hp, decide_eq_true_eq, decide_eq_true_eq, Bool.not_eq_true', List.any_eq_false, List.pairwise_cons, List.pairwise_cons]
    constructor
    · rintro ⟨h1, h2, h3, h4, h5, h6, h7, h8, h9, h10⟩
      have hx : ∀ b ∈ l, x.id < b.id := fun b hb => h7 x (by simp) b hb
      refine ⟨fun b hb => ?_, fun a ha b hb => ?_, ⟨hx, h8⟩, ⟨fun b hb => h10 x (by simp) b hb, h9⟩, fun a ha b hb => ?_⟩
      · rcases List.mem_cons.1 hb with rfl | hb
        · exact ⟨h1, h2, h4⟩
        · exact h6 b hb
      · have := h3 a ha
        rcases List.mem_cons.1 hb with rfl | hb
        · exact this
        · have := hx b hb
          omega
      · rcases List.mem_cons.1 hb with rfl | hb
        · simpa using h5 a ha
        · exact h10 a (by simp [ha]) b hb
    · rintro ⟨h1, h2, ⟨h3, h4⟩, ⟨h5, h6⟩, h7⟩
      refine ⟨(h1 x (by simp)).1, (h1 x (by simp)).2.1, fun a ha => h2 a ha x (by simp), (h1 x (by simp)).2.2, fun a ha => by simp [h7 a ha x (by simp)], fun b hb => h1 b (by simp [hb]), fun a ha b hb => ?_, h4, h6, fun a ha b hb => ?_⟩
      · have : x = a := by simpa using ha
        subst this
        exact h3 b hb
      · rcases List.mem_append.1 ha with ha | ha
        · exact h7 a ha b (by simp [hb])
        · have : a = x := by simpa using ha
          subst this
          exact h5 b hb
theorem pair_at {l : List Bk} {R : Bk → Bk → Prop} (h : l.Pairwise R) {a b : Bk} (ha : a ∈ l) (hb : b ∈ l) (hne : a ≠ b) : R a b ∨ R b a := by
  obtain ⟨i, hi, rfl⟩ := List.mem_iff_getElem.1 ha
  obtain ⟨j, hj, rfl⟩ := List.mem_iff_getElem.1 hb
  have := List.pairwise_iff_getElem.1 h
  rcases Nat.lt_trichotomy i j with hij | rfl | hij
  · exact Or.inl (this i j hi hj hij)
  · exact absurd rfl hne
  · exact Or.inr (this j i hj hi hij)
theorem sameS_comm {a b : ByteArray} : sameS a b = sameS b a := by
  unfold sameS
  rw [Bool.eq_iff_iff, beq_iff_eq, beq_iff_eq]
  exact eq_comm
theorem rbk_eq (s : Sf) : rbkB s = (inI s.nb 1 65536 && (decide (s.bs.length ≤ 6) && booksFrom s 0 s.bs)) := by
  unfold rbkB
  rw [Bool.eq_iff_iff, Bool.and_eq_true, Bool.and_eq_true, Bool.and_eq_true, Bool.and_eq_true, bkOk_iff]
  constructor
  · rintro ⟨h1, h2, h3, -, h4, h5, -⟩
    refine ⟨h2, h1, books_conv s.bs 0 (fun b hb => ⟨by have := h3 b hb; omega, by have := h3 b hb; omega, (h3 b hb).2.2, tkB_iff.2 fun c hc he => ?_⟩) h4⟩
    by_cases hcb : c = b
    · rw [hcb]
    · have hs : sameS c.nm b.nm = true := by simp [sameS, he]
      rcases pair_at h5 hc hb hcb with h | h
      · rw [hs] at h
        cases h
      · rw [sameS_comm, hs] at h
        cases h
  · rintro ⟨h1, h2, h3⟩
    obtain ⟨q1, q2⟩ := books_all s.bs 0 h3
    refine ⟨h2, h1, fun b hb => ⟨by have := q1 b hb; omega, by have := q1 b hb; omega, (q1 b hb).2.2.1⟩, fun a ha => by simp at ha, q2, ?_, fun a ha => by simp at ha⟩
    refine q2.imp_of_mem fun {a b} ha hb hlt => ?_
    cases hs : sameS a.nm b.nm
    · rfl
    · have := tkB_iff.1 (q1 b hb).2.2.2 a ha (by simpa [sameS] using hs)
      omega
end Go.Proofs.YtkaoechjekffmaaDoor
namespace Go.Proofs.YtkaoechjekffmaaDoor
open Go.ChangeShapes Go.WideShapes Go.ChangeAt Go.RowKit
attribute [local go_sem ↓] Go.wp_at_zero Go.wp_at_succ
def clash (a b : Nt) : Bool := sameS a.nm b.nm && a.bk == b.bk
theorem clash_comm {a b : Nt} : clash a b = clash b a := by
  unfold clash
  rw [sameS_comm, Bool.eq_iff_iff, Bool.and_eq_true, Bool.and_eq_true, beq_iff_eq, beq_iff_eq]
  exact and_congr Iff.rfl eq_comm
theorem ntOk_iff {s : Sf} : ∀ (l pre : List Nt), ntOk s pre l = true ↔ (∀ b ∈ l, 1 ≤ b.id ∧ b.id < s.nn ∧ mayN b.nm = true ∧ 0 ≤ bookAt s b.bk ∧ mayTg b.tg = true ∧ b.sh.length ≤ 8) ∧ (∀ a, pre.getLast? = some a → ∀ b ∈ l, a.id < b.id) ∧ (l.Pairwise fun a b => a.id < b.id) ∧ (l.Pairwise fun a b => clash a b = false) ∧ ∀ a ∈ pre, ∀ b ∈ l, clash a b = false
  | [], pre => by simp [ntOk]
  | x :: l, pre => by
    have ih := ntOk_iff (s := s) l (pre ++ [x])
    have hp : prevNk pre x = true ↔ ∀ a, pre.getLast? = some a → a.id < x.id := by
      unfold prevNk
      cases pre.getLast? with
      | none => simp
      | some p => simp
    show (decide (1 ≤ x.id) && (decide (x.id < s.nn) && (prevNk pre x && (mayN x.nm && (decide (0 ≤ bookAt s x.bk) && (mayTg x.tg && (decide (x.sh.length ≤ 8) && (!pre.any (fun c => clash c x) && ntOk s (pre ++ [x]) l)))))))) = true ↔ _
    rw [Bool.and_eq_true, Bool.and_eq_true, Bool.and_eq_true, Bool.and_eq_true, Bool.and_eq_true, Bool.and_eq_true, Bool.and_eq_true, Bool.and_eq_true, ih, hp, decide_eq_true_eq, decide_eq_true_eq, decide_eq_true_eq, decide_eq_true_eq, Bool.not_eq_true', List.any_eq_false, List.pairwise_cons, List.pairwise_cons]
    constructor
    · rintro ⟨h1, h2, h3, h4, g1, g2, g3, h5, h6, h7, h8, h9, h10⟩
      have hx : ∀ b ∈ l, x.id < b.id := fun b hb => h7 x (by simp) b hb
      refine ⟨fun b hb => ?_, fun a ha b hb => ?_, ⟨hx, h8⟩, ⟨fun b hb => h10 x (by simp) b hb, h9⟩, fun a ha b hb => ?_⟩
      · rcases List.mem_cons.1 hb with rfl | hb
        · exact ⟨h1, h2, h4, g1, g2, g3⟩
        · exact h6 b hb
      · have := h3 a ha
        rcases List.mem_cons.1 hb with rfl | hb
        · exact this
        · have := hx b hb
          omega
      · rcases List.mem_cons.1 hb with rfl | hb
        · simpa using h5 a ha
        · exact h10 a (by simp [ha]) b hb
    · rintro ⟨h1, h2, ⟨h3, h4⟩, ⟨h5, h6⟩, h7⟩
      obtain ⟨k1, k2, k3, k4, k5, k6⟩ := h1 x (by simp)
      refine ⟨k1, k2, fun a ha => h2 a ha x (by simp), k3, k4, k5, k6, fun a ha => by simp [h7 a ha x (by simp)], fun b hb => h1 b (by simp [hb]), fun a ha b hb => ?_, h4, h6, fun a ha b hb => ?_⟩
      · have : x = a := by simpa using ha
        subst this
        exact h3 b hb
      · rcases List.mem_append.1 ha with ha | ha
        · exact h7 a ha b (by simp [hb])
        · have : a = x := by simpa using ha
          subst this
          exact h5 b hb
theorem npair_at {l : List Nt} {R : Nt → Nt → Prop} (h : l.Pairwise R) {a b : Nt} (ha : a ∈ l) (hb : b ∈ l) (hne : a ≠ b) : R a b ∨ R b a := by
  obtain ⟨i, hi, rfl⟩ := List.mem_iff_getElem.1 ha
  obtain ⟨j, hj, rfl⟩ := List.mem_iff_getElem.1 hb
  have := List.pairwise_iff_getElem.1 h
  rcases Nat.lt_trichotomy i j with hij | rfl | hij
  · exact Or.inl (this i j hi hj hij)
  · exact absurd rfl hne
  · exact Or.inr (this j i hj hi hij)
theorem rtkN_iff {s : Sf} {z : Int} {x : ByteArray} {y : Int} : noteTk s z x y = false ↔ ∀ b ∈ s.ts, b.bk = z → b.nm.toList = x.toList → b.id = y := by
  unfold noteTk
  rw [List.any_eq_false]
  constructor
  · intro h b hb h1 h2
    have := h b hb
    simpa [sameS, h1, h2] using this
  · intro h b hb
    have := h b hb
    intro hh
    simp only [sameS, Bool.and_eq_true, beq_iff_eq, bne_iff_ne, ne_eq] at hh
    exact hh.2.2 (this hh.1 hh.2.1)
theorem rnt_iff (s : Sf) : rntB s = true ↔ (1 ≤ s.nn ∧ s.nn ≤ 65536) ∧ s.ts.length ≤ 12 ∧ notesFrom s 0 s.ts = true ∧ ∀ n ∈ s.ts, n.sh.length ≤ 8 := by
  unfold rntB inI
  rw [Bool.and_eq_true, Bool.and_eq_true, Bool.and_eq_true, ntOk_iff, decide_eq_true_eq, decide_eq_true_eq, decide_eq_true_eq]
  constructor
  · rintro ⟨h1, h2, h3, -, h4, h5, -⟩
    refine ⟨h2, h1, notes_conv s.ts 0 (fun b hb => ?_) h4, fun n hn => (h3 n hn).2.2.2.2.2⟩
    obtain ⟨k1, k2, k3, k4, k5, k6⟩ := h3 b hb
    refine ⟨by omega, by omega, ?_⟩
    unfold mayNt
    rw [k3, decide_eq_true k4, k5, rtkN_iff.2 fun c hc he hm => ?_]
    · rfl
    · by_cases hcb : c = b
      · rw [hcb]
      · have hs : clash c b = true := by simp [clash, sameS, he, hm]
        rcases npair_at h5 hc hb hcb with h | h
        · rw [hs] at h
          cases h
        · rw [clash_comm, hs] at h
          cases h
  · rintro ⟨h1, h2, h3, h4⟩
    obtain ⟨q1, q2⟩ := notes_all s.ts 0 h3
    have q3 : ∀ b ∈ s.ts, mayN b.nm = true ∧ 0 ≤ bookAt s b.bk ∧ noteTk s b.bk b.nm b.id = false ∧ mayTg b.tg = true := fun b hb => by
      have := (q1 b hb).2.2
      unfold mayNt at this
      simpa only [Bool.and_eq_true, decide_eq_true_eq, Bool.not_eq_true'] using this
    refine ⟨h2, h1, fun b hb => ⟨by have := q1 b hb; omega, by have := q1 b hb; omega, (q3 b hb).1, (q3 b hb).2.1, (q3 b hb).2.2.2, h4 b hb⟩, fun a ha => by simp at ha, q2, ?_, fun a ha => by simp at ha⟩
    refine q2.imp_of_mem fun {a b} ha hb hlt => ?_
    cases hs : clash a b
    · rfl
    · have hs2 : a.nm.toList = b.nm.toList ∧ a.bk = b.bk := by simpa [clash, sameS] using hs
      have := rtkN_iff.1 (q3 b hb).2.2.1 a ha hs2.2 hs2.1
      omega
theorem rMay_eq (s : Sf) : rMayB s = mayS s := by
  unfold rMayB mayS
  rw [rbk_eq]
  unfold rshB
  rw [Bool.eq_iff_iff]
  simp only [Bool.and_eq_true]
  rw [rnt_iff, sh_iff, shIn_iff]
  unfold inI
  simp only [Bool.and_eq_true, decide_eq_true_eq]
  constructor
  · rintro ⟨⟨h1, h2, h3⟩, ⟨h4, h5, h6, h7⟩, h8, h9, h10⟩
    exact ⟨h1, h4, h8, ⟨h2, h3⟩, ⟨h5, h6⟩, h7, h9, h10⟩
  · rintro ⟨h1, h4, h8, ⟨h2, h3⟩, ⟨h5, h6⟩, h7, h9, h10⟩
    exact ⟨⟨h1, h2, h3⟩, ⟨h4, h5, h6, h7⟩, h8, h9, h10⟩
end Go.Proofs.YtkaoechjekffmaaDoor
namespace Go.Proofs.YtkaoechjekffmaaDoor
open Go.ChangeShapes Go.WideShapes Go.ChangeAt Go.RowKit
attribute [local go_sem ↓] Go.wp_at_zero Go.wp_at_succ
theorem ShA.base_ {w : World} {B B' : Nat} {v : Value} {s : Sf} (h : ShA w B v s) (hB : B' ≤ B) : ShA w B' v s := by
  obtain ⟨vb, vn, rfl, h1, es, h2, h3, h4, h5⟩ := h
  refine ⟨vb, vn, rfl, own_base h1 hB, es, h2, own_base h3 hB, fun k n e a b => ?_, h5⟩
  obtain ⟨vt, vs, r, q1, q2⟩ := h4 k n e a b
  exact ⟨vt, vs, r, own_base q1 hB, own_base q2 hB⟩
theorem ShA.make {w : World} {base : Nat} {s : Sf} {vb vn : Value} (h1 : BksW w base vb s.bs) (h2 : NtsA w base vn s.ts) : ShA w base (.agg #[.int .i64 s.nb, .int .i64 s.nn, .int .i64 s.ns, vb, vn]) s := ⟨vb, vn, rfl, h1, h2⟩
theorem MayF.lens3 {s : Sf} (h : MayF s) : s.bs.length ≤ 100000 ∧ s.ts.length ≤ 100000 ∧ ∀ n ∈ s.ts, n.tg.length ≤ 100000 ∧ n.sh.length ≤ 100000 := ⟨by have := h.bl; omega, by have := h.tl; omega, h.small⟩
theorem rat_no (s : Sf) (v : Value) (y : Int) (w : World) (hS : ShR w w.heap.size v s) (hz : SzF s) (c : Int) (hc : findC s y = c) (hne : c ≠ 0) :
    Calls Tryd.prog 35 #[v, .int .i64 y] w fun e' w' => e' = .returned (.tuple #[.agg #[.int .i64 0, .int .i64 0, .int .i64 0, .slice none 0 0, .slice none 0 0], .int .i64 0, .int .i64 c]) ∧ Below w.heap.size w w' := by
  have hS0 := hS
  obtain ⟨Ab, cb, An, cn, rfl, hB, hN, hcb, hmb, hcn, hmn⟩ := hS.ex
  clear hS
  obtain ⟨HB, B1, B2, S1⟩ := pre2 hS0
  have HZ := Lib.hid hz
  clear hS0 hB hN hcb hmb hcn hmn hz
  obtain ⟨M, hM⟩ : ∃ M, mayS s = M := ⟨_, rfl⟩
  obtain ⟨I, hI⟩ : ∃ I, noteAt s y = I := ⟨_, rfl⟩
  unfold findC at hc
  rw [hM, hI] at hc
  have HM : Hid (rMayB s = M) := Lib.hid ((rMay_eq s).trans hM)
  have HI := Lib.hid hI
  clear hM hI
  cases M
  · obtain rfl : c = 2 := hc.symm
    clear hc hne
    go_enter Tryd.func35, Tryd.ntmps35
    go_wp2_with (first | (go_at_call 57; ((with_reducible refine (rMay_any s _ _ S1 HZ.out _ HM.out).mono ?_); rintro e' w3 ⟨rfl, bx⟩; (try clear k0 k1 k2 k3 k4 r0 r1 r2 r3 r4 t0 t1 t2 t3 t4); obtain ⟨S1, B1, B2, HB, k0, k1, k2, k3, k4, r0, r1, r2, r3, r4, t0, t1, t2, t3, t4⟩ := keepR S1 B1 B2 HB bx; clear bx)))
    have B2u := z5_blk B2
    have hb2 := z5_below HB (g := w.heap.size + 1) (by omega)
    change bodyPost _ _ _ _ _ (z5 w3 (w.heap.size + 1))
    generalize z5 w3 (w.heap.size + 1) = Wd at B2u hb2 ⊢
    apply bodyPost_ret (v := .tuple #[.agg #[.int .i64 0, .int .i64 0, .int .i64 0, .slice none 0 0, .slice none 0 0], .int .i64 0, .int .i64 2])
    · exact results_cell2 Tryd.results35 _ Wd _ 25 #[.int .i64 0, .int .i64 0, .int .i64 0, .slice none 0 0, .slice none 0 0] (0, 0) _ rfl B2u Tryd.underlying25 rfl (by kernel_rfl)
    · rfl
    · exact ⟨rfl, hb2⟩
  · by_cases hi : I < 0
    · obtain rfl : c = 4 := by simpa [hi] using hc.symm
      clear hc hne
      go_enter Tryd.func35, Tryd.ntmps35
      go_wp2_with (first | (go_at_call 57; ((with_reducible refine (rMay_any s _ _ S1 HZ.out _ HM.out).mono ?_); rintro e' w3 ⟨rfl, bx⟩; (try clear k0 k1 k2 k3 k4 r0 r1 r2 r3 r4 t0 t1 t2 t3 t4); obtain ⟨S1, B1, B2, HB, k0, k1, k2, k3, k4, r0, r1, r2, r3, r4, t0, t1, t2, t3, t4⟩ := keepR S1 B1 B2 HB bx; clear bx)) | (go_at_call 58; ((with_reducible refine (rNote_any s _ y _ S1 ⟨HZ.out.bl, HZ.out.tl⟩).mono ?_); rintro e' w4 ⟨rfl, bx⟩; rw [HI.out]; (try clear k0 k1 k2 k3 k4 r0 r1 r2 r3 r4 t0 t1 t2 t3 t4); obtain ⟨S1, B1, B2, HB, k0, k1, k2, k3, k4, r0, r1, r2, r3, r4, t0, t1, t2, t3, t4⟩ := keepR S1 B1 B2 HB bx; clear bx)))
      have B2u := z5_blk B2
      have hb2 := z5_below HB (g := w.heap.size + 1) (by omega)
      change bodyPost _ _ _ _ _ (z5 w4 (w.heap.size + 1))
      generalize z5 w4 (w.heap.size + 1) = Wd at B2u hb2 ⊢
      apply bodyPost_ret (v := .tuple #[.agg #[.int .i64 0, .int .i64 0, .int .i64 0, .slice none 0 0, .slice none 0 0], .int .i64 0, .int .i64 4])
      · exact results_cell2 Tryd.results35 _ Wd _ 25 #[.int .i64 0, .int .i64 0, .int .i64 0, .slice none 0 0, .slice none 0 0] (0, 0) _ rfl B2u Tryd.underlying25 rfl (by kernel_rfl)
      · rfl
      · exact ⟨rfl, hb2⟩
    · exact absurd (by simpa [hi] using hc.symm) hne
theorem rat_yes (s : Sf) (v : Value) (y : Int) (w : World) (hS : ShR w w.heap.size v s) (hz : SzF s) (k : Nat) (n : Nt) (h : FdF s y k n) :
    Calls Tryd.prog 35 #[v, .int .i64 y] w fun e' w' => ∃ v', e' = .returned (.tuple #[v', .int .i64 (k : Int), .int .i64 0]) ∧ ShA w' w.heap.size v' s ∧ Below w.heap.size w w' := by
  have hS0 := hS
  obtain ⟨Ab, cb, An, cn, rfl, hB, hN, hcb, hmb, hcn, hmn⟩ := hS.ex
  clear hS
  obtain ⟨HB, B1, B2, S1⟩ := pre2 hS0
  have HZ := Lib.hid hz
  clear hS0 hB hN hcb hmb hcn hmn hz
  have HM : Hid (rMayB s = true) := Lib.hid ((rMay_eq s).trans (mayS_conv h.may))
  have HI := Lib.hid h.at_
  have hMF := h.may
  have HLB := Lib.hid hMF.lens3.1
  have HLN := Lib.hid hMF.lens3.2.1
  have HLR := Lib.hid hMF.lens3.2.2
  have i0 : ¬ (k : Int) < 0 := by omega
  clear h hMF
  go_enter Tryd.func35, Tryd.ntmps35
  go_wp2_with (first | (go_at_call 57; ((with_reducible refine (rMay_any s _ _ S1 HZ.out _ HM.out).mono ?_); rintro e' w3 ⟨rfl, bx⟩; (try clear k0 k1 k2 k3 k4 r0 r1 r2 r3 r4 t0 t1 t2 t3 t4); obtain ⟨S1, B1, B2, HB, k0, k1, k2, k3, k4, r0, r1, r2, r3, r4, t0, t1, t2, t3, t4⟩ := keepR S1 B1 B2 HB bx; clear bx)) | (go_at_call 58; ((with_reducible refine (rNote_any s _ y _ S1 ⟨HZ.out.bl, HZ.out.tl⟩).mono ?_); rintro e' w4 ⟨rfl, bx⟩; rw [HI.out]; (try clear k0 k1 k2 k3 k4 r0 r1 r2 r3 r4 t0 t1 t2 t3 t4); obtain ⟨S1, B1, B2, HB, k0, k1, k2, k3, k4, r0, r1, r2, r3, r4, t0, t1, t2, t3, t4⟩ := keepR S1 B1 B2 HB bx; clear bx)) | (go_at_call 10; ((with_reducible refine (rcopy_ap s _ _ S1 HLB.out HLN.out HLR.out).mono ?_); rintro e' w9 ⟨v6, rfl, hQ, b6⟩; obtain ⟨Ab6, cb6, An6, cn6, rfl, hBk, hNt, q1, q2, q3, q4⟩ := ShA.parts hQ; clear hQ; have hz5 := B2.lt; have hz6 := b6.size; (try clear k0 k1 k2 k3 k4 r0 r1 r2 r3 r4 t0 t1 t2 t3 t4); obtain ⟨S1, B1, B2, HB, k0, k1, k2, k3, k4, r0, r1, r2, r3, r4, t0, t1, t2, t3, t4⟩ := keepR S1 B1 B2 HB b6; clear b6)))
  have B2e := B2.st5_ (.int .i64 s.nb) (.int .i64 s.nn) (.int .i64 s.ns) (.slice Ab6 s.bs.length cb6) (.slice An6 s.ts.length cn6)
  have hgE := st5_grown w9 (w.heap.size + 1) 0 (.int .i64 s.nb) (.int .i64 s.nn) (.int .i64 s.ns) (.slice Ab6 s.bs.length cb6) (.slice An6 s.ts.length cn6)
  have hBe := hBk.far hgE (by omega)
  have hNe := hNt.far hgE (by omega)
  have hbe := below_grown HB hgE (by omega) HB.size
  change bodyPost _ _ _ _ _ (st5 w9 (w.heap.size + 1) 0 (.int .i64 s.nb) (.int .i64 s.nn) (.int .i64 s.ns) (.slice Ab6 s.bs.length cb6) (.slice An6 s.ts.length cn6))
  clear hgE
  generalize st5 w9 (w.heap.size + 1) 0 (.int .i64 s.nb) (.int .i64 s.nn) (.int .i64 s.ns) (.slice Ab6 s.bs.length cb6) (.slice An6 s.ts.length cn6) = WF at B2e hBe hNe hbe ⊢
  apply bodyPost_ret (v := .tuple #[.agg #[.int .i64 s.nb, .int .i64 s.nn, .int .i64 s.ns, .slice Ab6 s.bs.length cb6, .slice An6 s.ts.length cn6], .int .i64 (k : Int), .int .i64 0])
  · exact results_cell2 Tryd.results35 _ WF (w.heap.size + 1) 25 _ (0, 0) _ rfl B2e Tryd.underlying25 rfl (by kernel_rfl)
  · rfl
  · exact ⟨_, rfl, ShA.base_ (ShA.make hBe hNe) (by omega), hbe⟩
theorem rhas_any (n : Nt) (At As : Option Addr) (ct cs : Nat) (x : ByteArray) (w : World) (h : Sl w w.heap.size At (n.tg.map strV)) (hl : n.tg.length ≤ 100000) :
    Calls Tryd.prog 56 #[.agg #[.int .i64 n.id, .int .i64 n.bk, .string n.nm, .slice At n.tg.length ct, .slice As n.sh.length cs], .string x] w fun e' w' => e' = .returned (.int .i64 (tgAt n.tg x)) ∧ Below w.heap.size w w' := by
  have HB : Below w.heap.size w (w.alloc (.cells #[.int .i64 n.id, .int .i64 n.bk, .string n.nm, .slice At n.tg.length ct, .slice As n.sh.length cs] 49)) := (Below.refl w.heap.size w).alloc (Nat.le_refl _) _
  have B1 : Blk (w.alloc (.cells #[.int .i64 n.id, .int .i64 n.bk, .string n.nm, .slice At n.tg.length ct, .slice As n.sh.length cs] 49)) w.heap.size 49 #[.int .i64 n.id, .int .i64 n.bk, .string n.nm, .slice At n.tg.length ct, .slice As n.sh.length cs] := Blk.new_ w 49 #[.int .i64 n.id, .int .i64 n.bk, .string n.nm, .slice At n.tg.length ct, .slice As n.sh.length cs]
  obtain ⟨L, hL⟩ : ∃ L, n.tg.length = L := ⟨_, rfl⟩
  rw [hL] at HB B1 hl ⊢
  have HN := Lib.hid hL
  have H0 : Hid ((n.tg.take 0).any (fun t : ByteArray => sameS t x) = false) := Lib.hid rfl
  have H1 := Lib.hid h
  clear hL h
  go_enter Tryd.func56, Tryd.ntmps56
  go_wp2_with fail
  go_loop [5] (fun i => ∃ k : Nat, k ≤ L ∧ i = .int .i64 k ∧ Hid ((n.tg.take k).any (fun t : ByteArray => sameS t x) = false)) (fun i => L - (intOf i).toNat)
  case atStart => exact ⟨0, by omega, rfl, H0⟩
  case round =>
    obtain ⟨k, hk, rfl, HK⟩ := hrel
    clear H0
    by_cases hlt : k < L
    · have hlx : k < n.tg.length := by have := HN.out; omega
      have i0 : (0 : Int) ≤ (k : Int) := by omega
      have i1 : (k : Int) < (L : Int) := by omega
      obtain ⟨y, hx⟩ : ∃ y, n.tg[k]? = some y := ⟨_, List.getElem?_eq_getElem hlx⟩
      obtain ⟨b1, o1, rfl, l1, q1⟩ := H1.out.at_ (by rw [List.length_map]; omega)
      have y0 : World.cell? ((w.alloc (.cells #[.int .i64 n.id, .int .i64 n.bk, .string n.nm, .slice (some ⟨b1, o1, none⟩) L ct, .slice As n.sh.length cs] 49))) ⟨b1, o1 + k, none⟩ = some (.string y) := (HB.cell (p := ⟨b1, _, none⟩) l1).trans (q1 k _ (by rw [List.getElem?_map, hx]; rfl))
      have HX := Lib.hid hx
      clear hx q1 hlx
      rcases (by cases hq : (y.toList == x.toList) <;> simp : (y.toList == x.toList) = true ∨ (y.toList == x.toList) = false) with hp | hp
      · have HP : Hid (sameS y x = true) := Lib.hid (by simp [sameS, hp])
        go_wp2_with fail
        go_ret
        exact ⟨by rw [show tgAt n.tg x = (k : Int) from idxP_at HK.out HX.out HP.out]; rfl, HB⟩
      · have HP : Hid (sameS y x = false) := Lib.hid (by simp [sameS, hp])
        go_wp2_with fail
        go_round
        case rel => exact ⟨k + 1, by omega, by go_num, Lib.hid (any_next HK.out HX.out HP.out)⟩
        case measure => simp [intOf]; omega
    · have hjn : k = L := by omega
      subst hjn
      go_wp2_with fail
      go_ret
      refine ⟨?_, HB⟩
      have := HK.out
      rw [List.take_of_length_le (by rw [HN.out]; exact Nat.le_refl _)] at this
      rw [show tgAt n.tg x = -1 from idxP_no this]
      rfl
theorem pre1 {s : Sf} {w : World} {Ab : Option Addr} {cb : Nat} {An : Option Addr} {cn : Nat} (hS0 : ShR w w.heap.size (.agg #[.int .i64 s.nb, .int .i64 s.nn, .int .i64 s.ns, .slice Ab s.bs.length cb, .slice An s.ts.length cn]) s) : Below w.heap.size w (w.alloc (.cells #[.int .i64 s.nb, .int .i64 s.nn, .int .i64 s.ns, .slice Ab s.bs.length cb, .slice An s.ts.length cn] 25)) ∧ Blk (w.alloc (.cells #[.int .i64 s.nb, .int .i64 s.nn, .int .i64 s.ns, .slice Ab s.bs.length cb, .slice An s.ts.length cn] 25)) w.heap.size 25 #[.int .i64 s.nb, .int .i64 s.nn, .int .i64 s.ns, .slice Ab s.bs.length cb, .slice An s.ts.length cn] ∧ ShR (w.alloc (.cells #[.int .i64 s.nb, .int .i64 s.nn, .int .i64 s.ns, .slice Ab s.bs.length cb, .slice An s.ts.length cn] 25)) ((w.alloc (.cells #[.int .i64 s.nb, .int .i64 s.nn, .int .i64 s.ns, .slice Ab s.bs.length cb, .slice An s.ts.length cn] 25))).heap.size (.agg #[.int .i64 s.nb, .int .i64 s.nn, .int .i64 s.ns, .slice Ab s.bs.length cb, .slice An s.ts.length cn]) s := by
  have HB : Below w.heap.size w (w.alloc (.cells #[.int .i64 s.nb, .int .i64 s.nn, .int .i64 s.ns, .slice Ab s.bs.length cb, .slice An s.ts.length cn] 25)) := (Below.refl w.heap.size w).alloc (Nat.le_refl _) _
  exact ⟨HB, Blk.new_ w 25 #[.int .i64 s.nb, .int .i64 s.nn, .int .i64 s.ns, .slice Ab s.bs.length cb, .slice An s.ts.length cn], hS0.next HB⟩
theorem rsheet_no (s : Sf) (v : Value) (y : Int) (i : Int) (w : World) (hS : ShR w w.heap.size v s) (hz : SzF s) (c : Int) (hc : shtC s y i = c) (hne : c ≠ 0) :
    Calls Tryd.prog 13 #[v, .int .i64 y, .int .i64 i] w fun e' w' => e' = .returned (.tuple #[.int .i64 0, .int .i64 c]) ∧ Below w.heap.size w w' := by
  have hS0 := hS
  obtain ⟨Ab, cb, An, cn, rfl, hB, hN, hcb, hmb, hcn, hmn⟩ := hS.ex
  clear hS
  obtain ⟨HB, B1, S1⟩ := pre1 hS0
  have HZ := Lib.hid hz
  by_cases hf : findC s y = 0
  · obtain ⟨k, n, h⟩ := fdF_of hf
    have HF := Lib.hid h
    have HNN := Lib.hid h.nt
    have HKL : Hid (k < s.ts.length) := Lib.hid (List.getElem?_eq_some_iff.1 h.nt).1
    obtain ⟨L, hL⟩ : ∃ L, n.sh.length = L := ⟨_, rfl⟩
    obtain ⟨T, hTe⟩ : ∃ T, s.ts.length = T := ⟨_, rfl⟩
    have HLL := Lib.hid hL
    have HTT := Lib.hid hTe
    have i0 : (0 : Int) ≤ (k : Int) := by omega
    have i1 : (k : Int) < (T : Int) := by have := HKL.out; omega
    have hL8 : L ≤ 100000 := by rw [← hL]; exact (h.may.small n (List.mem_of_getElem? h.nt)).2
    unfold shtC at hc
    rw [hf, h.of_, hL] at hc
    clear h hL hTe hf
    clear hS0 hB hN hcb hmb hcn hmn hz
    go_enter Tryd.func13, Tryd.ntmps13
    go_upto_region 1 with fail
    obtain ⟨w3, hw3⟩ : ∃ V : World, V = (w.alloc (.cells #[.int .i64 s.nb, .int .i64 s.nn, .int .i64 s.ns, .slice Ab s.bs.length cb, .slice An s.ts.length cn] 25)) := ⟨_, rfl⟩
    rw [← hw3] at HB B1 S1 ⊢
    clear hw3
    have k0 := B1.cell_ 0
    have k1 := B1.cell_ 1
    have k2 := B1.cell_ 2
    have k3 := B1.cell_ 3
    have k4 := B1.cell_ 4
    simp at k0 k1 k2 k3 k4
    have hW5 : w.heap.size + 1 ≤ w3.heap.size := by have := B1.lt; omega
    go_upto_region 2 with (go_at_call 35; ((with_reducible refine (rat_yes s _ y _ S1 HZ.out k n HF.out).mono ?_); rintro e' w9 ⟨v6, rfl, hQ, b6⟩; obtain ⟨Ab6, cb6, An6, cn6, rfl, hBk, hNt, q1, q2, q3, q4⟩ := ShA.parts hQ; have B1 := B1.below b6 B1.lt; have HB := btr HB HB.size b6; have hz6 := b6.size; (try clear k0 k1 k2 k3 k4 t0 t1 t2 t3 t4); have k0 := B1.cell_ 0; have t0 := B1.free 0; have k1 := B1.cell_ 1; have t1 := B1.free 1; have k2 := B1.cell_ 2; have t2 := B1.free 2; have k3 := B1.cell_ 3; have t3 := B1.free 3; have k4 := B1.cell_ 4; have t4 := B1.free 4; simp at k0 k1 k2 k3 k4; clear b6 hQ S1))
    have B1u := B1.st5_ (.int .i64 s.nb) (.int .i64 s.nn) (.int .i64 s.ns) (.slice Ab6 s.bs.length cb6) (.slice An6 s.ts.length cn6)
    have hg6 := st5_grown w9 w.heap.size 0 (.int .i64 s.nb) (.int .i64 s.nn) (.int .i64 s.ns) (.slice Ab6 s.bs.length cb6) (.slice An6 s.ts.length cn6)
    have hBk2 := hBk.far hg6 (by omega)
    have hNt2 := hNt.far hg6 (by omega)
    have hb2 := below_grown HB hg6 (Nat.le_refl _) HB.size
    have HSZ : Hid (w3.heap.size ≤ (st5 w9 w.heap.size 0 (.int .i64 s.nb) (.int .i64 s.nn) (.int .i64 s.ns) (.slice Ab6 s.bs.length cb6) (.slice An6 s.ts.length cn6)).heap.size) := Lib.hid (by have := hz6; have := hg6.size; omega)
    clear hg6
    obtain ⟨Wd, hWd⟩ : ∃ V : World, V = (st5 w9 w.heap.size 0 (.int .i64 s.nb) (.int .i64 s.nn) (.int .i64 s.ns) (.slice Ab6 s.bs.length cb6) (.slice An6 s.ts.length cn6)) := ⟨_, rfl⟩
    change Code.wp _ _ _ _ (st5 w9 w.heap.size 0 (.int .i64 s.nb) (.int .i64 s.nn) (.int .i64 s.ns) (.slice Ab6 s.bs.length cb6) (.slice An6 s.ts.length cn6))
    rw [← hWd] at B1u hBk2 hNt2 hb2 HSZ ⊢
    clear hWd B1 HB hBk hNt k0 k1 k2 k3 k4 t0 t1 t2 t3 t4 hz6
    have HW5 := Lib.hid hW5
    obtain ⟨es, hel, hon, hnt, hap⟩ := hNt2
    have hkT := (List.getElem?_eq_some_iff.1 HNN.out).1
    obtain ⟨e0, he⟩ : ∃ e, es[k]? = some e := ⟨_, List.getElem?_eq_getElem (by omega)⟩
    obtain ⟨vt, vs, rfl, q1, q2⟩ := hnt k n e0 HNN.out he
    obtain ⟨At9, ct9, rfl, ht1, ht2⟩ := own_shape q1
    obtain ⟨As9, cs9, rfl, hs1, hs2⟩ := own_shape q2
    obtain ⟨gn, hgn, hgn2⟩ : ∃ gn, An6 = some ⟨gn, 0, none⟩ ∧ w3.heap.size ≤ gn := by
      rcases hon.2 with ⟨h, h0⟩ | ⟨g, c, cu, h, hb, _⟩
      · omega
      · injection h with h1 h2 h3
        exact ⟨g, h1, hb⟩
    subst hgn
    have h5 := es_five hel hnt
    have hga : gn ≠ Wd.heap.size := by
      have := (hon.lt gn rfl).2
      omega
    have HE := Lib.hid he
    have HEL := Lib.hid hel
    have HON := Lib.hid hon
    rw [HLL.out] at he q2
    rw [HTT.out] at hon hel
    have k0 := B1u.cell_ 0
    have k1 := B1u.cell_ 1
    have k2 := B1u.cell_ 2
    have k3 := B1u.cell_ 3
    have k4 := B1u.cell_ 4
    simp at k0 k1 k2 k3 k4
    rw [HTT.out] at k4
    have x4 := own_cellE hon h5 he (j := 4) rfl
    clear HE HEL HON
    by_cases g0 : i < 0
    · obtain rfl : c = 2 := by simpa [g0] using hc.symm
      clear hc hne
      go_wp2_with fail
      go_ret2
      exact ⟨rfl, hb2⟩
    · by_cases g1 : (L : Int) ≤ i
      · obtain rfl : c = 2 := by simpa [g0, g1] using hc.symm
        clear hc hne
        go_wp2_with fail
        go_ret2
        exact ⟨rfl, hb2⟩
      · exact absurd (by simpa [g0, g1] using hc.symm) hne
  · have hcf : findC s y = c := by
      unfold shtC at hc
      have : (findC s y == 0) = false := by simpa using hf
      rw [this] at hc
      exact hc
    have HC := Lib.hid hcf
    have HE := Lib.hid hne
    have he0 : ¬ c = 0 := hne
    clear hf hcf hc hne
    clear hS0 hB hN hcb hmb hcn hmn hz
    go_enter Tryd.func13, Tryd.ntmps13
    go_upto_region 1 with fail
    obtain ⟨w3, hw3⟩ : ∃ V : World, V = (w.alloc (.cells #[.int .i64 s.nb, .int .i64 s.nn, .int .i64 s.ns, .slice Ab s.bs.length cb, .slice An s.ts.length cn] 25)) := ⟨_, rfl⟩
    rw [← hw3] at HB B1 S1 ⊢
    clear hw3
    have k0 := B1.cell_ 0
    have k1 := B1.cell_ 1
    have k2 := B1.cell_ 2
    have k3 := B1.cell_ 3
    have k4 := B1.cell_ 4
    simp at k0 k1 k2 k3 k4
    have hW5 : w.heap.size + 1 ≤ w3.heap.size := by have := B1.lt; omega
    go_wp2_with (go_at_call 35; ((with_reducible refine (rat_no s _ y _ S1 HZ.out c HC.out HE.out).mono ?_); rintro e' w9 ⟨rfl, b6⟩; have B1 := B1.below b6 B1.lt; have HB := btr HB HB.size b6; (try clear k0 k1 k2 k3 k4 t0 t1 t2 t3 t4); have k0 := B1.cell_ 0; have t0 := B1.free 0; have k1 := B1.cell_ 1; have t1 := B1.free 1; have k2 := B1.cell_ 2; have t2 := B1.free 2; have k3 := B1.cell_ 3; have t3 := B1.free 3; have k4 := B1.cell_ 4; have t4 := B1.free 4; simp at k0 k1 k2 k3 k4; clear b6 S1))
    go_ret2
    exact ⟨rfl, z5_below HB (Nat.le_refl _)⟩
theorem rsheet_yes (s : Sf) (v : Value) (y : Int) (w : World) (hS : ShR w w.heap.size v s) (hz : SzF s) (k : Nat) (n : Nt) (h : FdF s y k n) (i : Nat) (x : Int) (hx : n.sh[i]? = some x) :
    Calls Tryd.prog 13 #[v, .int .i64 y, .int .i64 (i : Int)] w fun e' w' => e' = .returned (.tuple #[.int .i64 x, .int .i64 0]) ∧ Below w.heap.size w w' := by
  have hS0 := hS
  obtain ⟨Ab, cb, An, cn, rfl, hB, hN, hcb, hmb, hcn, hmn⟩ := hS.ex
  clear hS
  obtain ⟨HB, B1, S1⟩ := pre1 hS0
  have HZ := Lib.hid hz
  have HF := Lib.hid h
  have HNN := Lib.hid h.nt
  have HKL : Hid (k < s.ts.length) := Lib.hid (List.getElem?_eq_some_iff.1 h.nt).1
  obtain ⟨L, hL⟩ : ∃ L, n.sh.length = L := ⟨_, rfl⟩
  obtain ⟨T, hTe⟩ : ∃ T, s.ts.length = T := ⟨_, rfl⟩
  have HLL := Lib.hid hL
  have HTT := Lib.hid hTe
  have i0 : (0 : Int) ≤ (k : Int) := by omega
  have i1 : (k : Int) < (T : Int) := by have := HKL.out; omega
  have hL8 : L ≤ 100000 := by rw [← hL]; exact (h.may.small n (List.mem_of_getElem? h.nt)).2
  have hil : i < L := by rw [← hL]; exact (List.getElem?_eq_some_iff.1 hx).1
  have HXX := Lib.hid hx
  have j0 : (0 : Int) ≤ (i : Int) := by omega
  have j1 : (i : Int) < (L : Int) := by omega
  clear h hL hTe hx
  clear hS0 hB hN hcb hmb hcn hmn hz
  go_enter Tryd.func13, Tryd.ntmps13
  go_upto_region 1 with fail
  obtain ⟨w3, hw3⟩ : ∃ V : World, V = (w.alloc (.cells #[.int .i64 s.nb, .int .i64 s.nn, .int .i64 s.ns, .slice Ab s.bs.length cb, .slice An s.ts.length cn] 25)) := ⟨_, rfl⟩
  rw [← hw3] at HB B1 S1 ⊢
  clear hw3
  have k0 := B1.cell_ 0
  have k1 := B1.cell_ 1
  have k2 := B1.cell_ 2
  have k3 := B1.cell_ 3
  have k4 := B1.cell_ 4
  simp at k0 k1 k2 k3 k4
  have hW5 : w.heap.size + 1 ≤ w3.heap.size := by have := B1.lt; omega
  go_upto_region 2 with (go_at_call 35; ((with_reducible refine (rat_yes s _ y _ S1 HZ.out k n HF.out).mono ?_); rintro e' w9 ⟨v6, rfl, hQ, b6⟩; obtain ⟨Ab6, cb6, An6, cn6, rfl, hBk, hNt, q1, q2, q3, q4⟩ := ShA.parts hQ; have B1 := B1.below b6 B1.lt; have HB := btr HB HB.size b6; have hz6 := b6.size; (try clear k0 k1 k2 k3 k4 t0 t1 t2 t3 t4); have k0 := B1.cell_ 0; have t0 := B1.free 0; have k1 := B1.cell_ 1; have t1 := B1.free 1; have k2 := B1.cell_ 2; have t2 := B1.free 2; have k3 := B1.cell_ 3; have t3 := B1.free 3; have k4 := B1.cell_ 4; have t4 := B1.free 4; simp at k0 k1 k2 k3 k4; clear b6 hQ S1))
  have B1u := B1.st5_ (.int .i64 s.nb) (.int .i64 s.nn) (.int .i64 s.ns) (.slice Ab6 s.bs.length cb6) (.slice An6 s.ts.length cn6)
  have hg6 := st5_grown w9 w.heap.size 0 (.int .i64 s.nb) (.int .i64 s.nn) (.int .i64 s.ns) (.slice Ab6 s.bs.length cb6) (.slice An6 s.ts.length cn6)
  have hBk2 := hBk.far hg6 (by omega)
  have hNt2 := hNt.far hg6 (by omega)
  have hb2 := below_grown HB hg6 (Nat.le_refl _) HB.size
  have HSZ : Hid (w3.heap.size ≤ (st5 w9 w.heap.size 0 (.int .i64 s.nb) (.int .i64 s.nn) (.int .i64 s.ns) (.slice Ab6 s.bs.length cb6) (.slice An6 s.ts.length cn6)).heap.size) := Lib.hid (by have := hz6; have := hg6.size; omega)
  clear hg6
  obtain ⟨Wd, hWd⟩ : ∃ V : World, V = (st5 w9 w.heap.size 0 (.int .i64 s.nb) (.int .i64 s.nn) (.int .i64 s.ns) (.slice Ab6 s.bs.length cb6) (.slice An6 s.ts.length cn6)) := ⟨_, rfl⟩
  change Code.wp _ _ _ _ (st5 w9 w.heap.size 0 (.int .i64 s.nb) (.int .i64 s.nn) (.int .i64 s.ns) (.slice Ab6 s.bs.length cb6) (.slice An6 s.ts.length cn6))
  rw [← hWd] at B1u hBk2 hNt2 hb2 HSZ ⊢
  clear hWd B1 HB hBk hNt k0 k1 k2 k3 k4 t0 t1 t2 t3 t4 hz6
  have HW5 := Lib.hid hW5
  obtain ⟨es, hel, hon, hnt, hap⟩ := hNt2
  have hkT := (List.getElem?_eq_some_iff.1 HNN.out).1
  obtain ⟨e0, he⟩ : ∃ e, es[k]? = some e := ⟨_, List.getElem?_eq_getElem (by omega)⟩
  obtain ⟨vt, vs, rfl, q1, q2⟩ := hnt k n e0 HNN.out he
  obtain ⟨At9, ct9, rfl, ht1, ht2⟩ := own_shape q1
  obtain ⟨As9, cs9, rfl, hs1, hs2⟩ := own_shape q2
  obtain ⟨gn, hgn, hgn2⟩ : ∃ gn, An6 = some ⟨gn, 0, none⟩ ∧ w3.heap.size ≤ gn := by
    rcases hon.2 with ⟨h, h0⟩ | ⟨g, c, cu, h, hb, _⟩
    · omega
    · injection h with h1 h2 h3
      exact ⟨g, h1, hb⟩
  subst hgn
  have h5 := es_five hel hnt
  have hga : gn ≠ Wd.heap.size := by
    have := (hon.lt gn rfl).2
    omega
  have HE := Lib.hid he
  have HEL := Lib.hid hel
  have HON := Lib.hid hon
  rw [HLL.out] at he q2
  rw [HTT.out] at hon hel
  have k0 := B1u.cell_ 0
  have k1 := B1u.cell_ 1
  have k2 := B1u.cell_ 2
  have k3 := B1u.cell_ 3
  have k4 := B1u.cell_ 4
  simp at k0 k1 k2 k3 k4
  rw [HTT.out] at k4
  have x4 := own_cellE hon h5 he (j := 4) rfl
  obtain ⟨gs, hgs⟩ : ∃ gs, As9 = some ⟨gs, 0, none⟩ := by
    rcases q2.2 with ⟨h, h0⟩ | ⟨g, c, cu, h, hb, _⟩
    · omega
    · injection h with h1 h2 h3
      exact ⟨g, h1⟩
  subst hgs
  have x5 : Wd.cell? ⟨gs, i, none⟩ = some (.int .i64 x) := by
    rw [World.ownsRow.cellAt q2 i (by omega), List.getElem?_map, HXX.out]
    rfl
  clear HE HEL HON
  go_wp2_with fail
  go_ret2
  exact ⟨rfl, hb2⟩
theorem rrepl_no (s : Sf) (v : Value) (y : Int) (i : Int) (w : World) (hS : ShR w w.heap.size v s) (hz : SzF s) (c : Int) (hc : shtC s y i = c) (hne : c ≠ 0) :
    Calls Tryd.prog 32 #[v, .int .i64 y, .int .i64 i] w fun e' w' => e' = .returned (.tuple #[.agg #[.int .i64 0, .int .i64 0, .int .i64 0, .slice none 0 0, .slice none 0 0], .int .i64 0, .int .i64 c]) ∧ Below w.heap.size w w' := by
  have hS0 := hS
  obtain ⟨Ab, cb, An, cn, rfl, hB, hN, hcb, hmb, hcn, hmn⟩ := hS.ex
  clear hS
  obtain ⟨HB, B1, B2, S1⟩ := pre2 hS0
  have HZ := Lib.hid hz
  have HC := Lib.hid hc
  have HE := Lib.hid hne
  have he0 : ¬ c = 0 := hne
  clear hc hne
  clear hS0 hB hN hcb hmb hcn hmn hz
  go_enter Tryd.func32, Tryd.ntmps32
  go_wp2_with (first | (go_at_call 13; ((with_reducible refine (rsheet_no s _ y i _ S1 HZ.out c HC.out HE.out).mono ?_); rintro e' w3 ⟨rfl, bx⟩; (try clear k0 k1 k2 k3 k4 r0 r1 r2 r3 r4 t0 t1 t2 t3 t4); obtain ⟨S1, B1, B2, HB, k0, k1, k2, k3, k4, r0, r1, r2, r3, r4, t0, t1, t2, t3, t4⟩ := keepR S1 B1 B2 HB bx; clear bx)))
  have B2u := z5_blk B2
  have hb2 := z5_below HB (g := w.heap.size + 1) (by omega)
  change bodyPost _ _ _ _ _ (z5 w3 (w.heap.size + 1))
  generalize z5 w3 (w.heap.size + 1) = Wd at B2u hb2 ⊢
  apply bodyPost_ret (v := .tuple #[.agg #[.int .i64 0, .int .i64 0, .int .i64 0, .slice none 0 0, .slice none 0 0], .int .i64 0, .int .i64 c])
  · exact results_cell2 Tryd.results32 _ Wd _ 25 #[.int .i64 0, .int .i64 0, .int .i64 0, .slice none 0 0, .slice none 0 0] (0, 0) _ rfl B2u Tryd.underlying25 rfl (by kernel_rfl)
  · rfl
  · exact ⟨rfl, hb2⟩
theorem rrepl_yes (s : Sf) (v : Value) (y : Int) (w : World) (hS : ShR w w.heap.size v s) (hz : SzF s) (k : Nat) (n : Nt) (h : FdF s y k n) (i : Nat) (x : Int) (hx : n.sh[i]? = some x) :
    Calls Tryd.prog 32 #[v, .int .i64 y, .int .i64 (i : Int)] w fun e' w' => ∃ v', e' = .returned (.tuple #[v', .int .i64 x, .int .i64 0]) ∧ ShA w' w.heap.size v' s ∧ Below w.heap.size w w' := by
  have hS0 := hS
  obtain ⟨Ab, cb, An, cn, rfl, hB, hN, hcb, hmb, hcn, hmn⟩ := hS.ex
  clear hS
  obtain ⟨HB, B1, B2, S1⟩ := pre2 hS0
  have HZ := Lib.hid hz
  have HF := Lib.hid h
  have HXX := Lib.hid hx
  have hMF := h.may
  have HLB := Lib.hid hMF.lens3.1
  have HLN := Lib.hid hMF.lens3.2.1
  have HLR := Lib.hid hMF.lens3.2.2
  clear h hx hMF
  clear hS0 hB hN hcb hmb hcn hmn hz
  go_enter Tryd.func32, Tryd.ntmps32
  go_wp2_with (first | (go_at_call 13; ((with_reducible refine (rsheet_yes s _ y _ S1 HZ.out k n HF.out i x HXX.out).mono ?_); rintro e' w3 ⟨rfl, bx⟩; (try clear k0 k1 k2 k3 k4 r0 r1 r2 r3 r4 t0 t1 t2 t3 t4); obtain ⟨S1, B1, B2, HB, k0, k1, k2, k3, k4, r0, r1, r2, r3, r4, t0, t1, t2, t3, t4⟩ := keepR S1 B1 B2 HB bx; clear bx)) | (go_at_call 10; ((with_reducible refine (rcopy_ap s _ _ S1 HLB.out HLN.out HLR.out).mono ?_); rintro e' w9 ⟨v6, rfl, hQ, b6⟩; obtain ⟨Ab6, cb6, An6, cn6, rfl, hBk, hNt, q1, q2, q3, q4⟩ := ShA.parts hQ; clear hQ; have hz5 := B2.lt; have hz6 := b6.size; (try clear k0 k1 k2 k3 k4 r0 r1 r2 r3 r4 t0 t1 t2 t3 t4); obtain ⟨S1, B1, B2, HB, k0, k1, k2, k3, k4, r0, r1, r2, r3, r4, t0, t1, t2, t3, t4⟩ := keepR S1 B1 B2 HB b6; clear b6)))
  have B2e := B2.st5_ (.int .i64 s.nb) (.int .i64 s.nn) (.int .i64 s.ns) (.slice Ab6 s.bs.length cb6) (.slice An6 s.ts.length cn6)
  have hgE := st5_grown w9 (w.heap.size + 1) 0 (.int .i64 s.nb) (.int .i64 s.nn) (.int .i64 s.ns) (.slice Ab6 s.bs.length cb6) (.slice An6 s.ts.length cn6)
  have hBe := hBk.far hgE (by omega)
  have hNe := hNt.far hgE (by omega)
  have hbe := below_grown HB hgE (by omega) HB.size
  change bodyPost _ _ _ _ _ (st5 w9 (w.heap.size + 1) 0 (.int .i64 s.nb) (.int .i64 s.nn) (.int .i64 s.ns) (.slice Ab6 s.bs.length cb6) (.slice An6 s.ts.length cn6))
  clear hgE
  generalize st5 w9 (w.heap.size + 1) 0 (.int .i64 s.nb) (.int .i64 s.nn) (.int .i64 s.ns) (.slice Ab6 s.bs.length cb6) (.slice An6 s.ts.length cn6) = WF at B2e hBe hNe hbe ⊢
  apply bodyPost_ret (v := .tuple #[.agg #[.int .i64 s.nb, .int .i64 s.nn, .int .i64 s.ns, .slice Ab6 s.bs.length cb6, .slice An6 s.ts.length cn6], .int .i64 x, .int .i64 0])
  · exact results_cell2 Tryd.results32 _ WF (w.heap.size + 1) 25 _ (0, 0) _ rfl B2e Tryd.underlying25 rfl (by kernel_rfl)
  · rfl
  · exact ⟨_, rfl, ShA.base_ (ShA.make hBe hNe) (by omega), hbe⟩
theorem keepB_7 {w w_ : World} {B b0 o0 b1 o1 b2 o2 b3 o3 b4 o4 b5 o5 b6 o6 : Nat} {u0 u1 u2 u3 u4 u5 u6 : Value} (h : w.cell? ⟨b0, o0, none⟩ = some u0 ∧ w.cell? ⟨b1, o1, none⟩ = some u1 ∧ w.cell? ⟨b2, o2, none⟩ = some u2 ∧ w.cell? ⟨b3, o3, none⟩ = some u3 ∧ w.cell? ⟨b4, o4, none⟩ = some u4 ∧ w.cell? ⟨b5, o5, none⟩ = some u5 ∧ w.cell? ⟨b6, o6, none⟩ = some u6) (hb : Below B w w_) (l0 : b0 < B) (l1 : b1 < B) (l2 : b2 < B) (l3 : b3 < B) (l4 : b4 < B) (l5 : b5 < B) (l6 : b6 < B) : w_.cell? ⟨b0, o0, none⟩ = some u0 ∧ w_.cell? ⟨b1, o1, none⟩ = some u1 ∧ w_.cell? ⟨b2, o2, none⟩ = some u2 ∧ w_.cell? ⟨b3, o3, none⟩ = some u3 ∧ w_.cell? ⟨b4, o4, none⟩ = some u4 ∧ w_.cell? ⟨b5, o5, none⟩ = some u5 ∧ w_.cell? ⟨b6, o6, none⟩ = some u6 := by
  obtain ⟨h0, h1, h2, h3, h4, h5, h6⟩ := h
  exact ⟨(hb.cell (p := ⟨b0, o0, none⟩) l0).trans h0, (hb.cell (p := ⟨b1, o1, none⟩) l1).trans h1, (hb.cell (p := ⟨b2, o2, none⟩) l2).trans h2, (hb.cell (p := ⟨b3, o3, none⟩) l3).trans h3, (hb.cell (p := ⟨b4, o4, none⟩) l4).trans h4, (hb.cell (p := ⟨b5, o5, none⟩) l5).trans h5, (hb.cell (p := ⟨b6, o6, none⟩) l6).trans h6⟩
theorem nrepl_no (s : Sf) (v : Value) (y : Int) (i : Int) (w : World) (hS : ShR w w.heap.size v s) (hT : Tabs w) (c : Int) (hc : shtC s y i = c) (hne : c ≠ 0) :
    Calls Tryd.prog 31 #[v, .int .i64 y, .int .i64 i] w fun e' w' => e' = .returned (.tuple #[.agg #[.int .i64 0, .int .i64 0, .int .i64 0, .slice none 0 0, .slice none 0 0], .int .i64 0, .int .i64 c]) ∧ Below w.heap.size w w' := by
  have hS0 := hS
  obtain ⟨Ab, cb, An, cn, rfl, hB, hN, hcb, hmb, hcn, hmn⟩ := hS.ex
  clear hS
  obtain ⟨HB, B1, B2, S1⟩ := pre2 hS0
  have T1 := hT.next HB
  have HC := Lib.hid hc
  have HE := Lib.hid hne
  have he0 : ¬ c = 0 := hne
  clear hc hne hS0 hT hB hN hcb hmb hcn hmn
  go_enter Tryd.func31, Tryd.ntmps31
  go_wp2_with (first | (go_at_call 34; ((with_reducible refine (nfs_no s _ y i _ S1 T1 c HC.out HE.out).mono ?_); rintro e' w3 ⟨rfl, bx⟩; (try clear k0 k1 k2 k3 k4 r0 r1 r2 r3 r4 t0 t1 t2 t3 t4); obtain ⟨S1, T1, B1, B2, HB, k0, k1, k2, k3, k4, r0, r1, r2, r3, r4, t0, t1, t2, t3, t4⟩ := keepT S1 T1 B1 B2 HB bx; clear bx)))
  have B2u := z5_blk B2
  have hb2 := z5_below HB (g := w.heap.size + 1) (by omega)
  change bodyPost _ _ _ _ _ (z5 w3 (w.heap.size + 1))
  generalize z5 w3 (w.heap.size + 1) = Wd at B2u hb2 ⊢
  apply bodyPost_ret (v := .tuple #[.agg #[.int .i64 0, .int .i64 0, .int .i64 0, .slice none 0 0, .slice none 0 0], .int .i64 0, .int .i64 c])
  · exact results_cell2 Tryd.results31 _ Wd _ 25 #[.int .i64 0, .int .i64 0, .int .i64 0, .slice none 0 0, .slice none 0 0] (0, 0) _ rfl B2u Tryd.underlying25 rfl (by kernel_rfl)
  · rfl
  · exact ⟨rfl, hb2⟩
theorem nrepl_yes (s : Sf) (v : Value) (y : Int) (w : World) (hS : ShR w w.heap.size v s) (hT : Tabs w) (k : Nat) (n : Nt) (h : FdF s y k n) (i : Nat) (x : Int) (hx : n.sh[i]? = some x) :
    Calls Tryd.prog 31 #[v, .int .i64 y, .int .i64 (i : Int)] w fun e' w' => ∃ v', e' = .returned (.tuple #[v', .int .i64 x, .int .i64 0]) ∧ ShA w' w.heap.size v' s ∧ Below w.heap.size w w' := by
  have hS0 := hS
  obtain ⟨Ab, cb, An, cn, rfl, hB, hN, hcb, hmb, hcn, hmn⟩ := hS.ex
  clear hS
  obtain ⟨HB, B1, B2, S1⟩ := pre2 hS0
  have T1 := hT.next HB
  obtain ⟨es, hel, hse, hnt⟩ := hN.ex
  have hkl : k < s.ts.length := (List.getElem?_eq_some_iff.1 h.nt).1
  obtain ⟨e0, he⟩ : ∃ e, es[k]? = some e := ⟨_, List.getElem?_eq_getElem (by omega)⟩
  obtain ⟨At, ct, As, cs, rfl, -, hAs, -⟩ := (hnt k n e0 h.nt he).ex
  obtain ⟨b1, o1, rfl, l1, q1⟩ := hse.at_ (by omega)
  have y4 := q1 k _ he 4 _ rfl
  have i0 : (0 : Int) ≤ (k : Int) := by omega
  have i1 : (k : Int) < (s.ts.length : Int) := by omega
  have i2 : ¬ (k : Int) < 0 := by omega
  have hil := (List.getElem?_eq_some_iff.1 hx).1
  obtain ⟨b2, o2, rfl, l2, q2⟩ := hAs.at_ (by rw [List.length_map]; omega)
  have y5 := q2 i _ (by rw [List.getElem?_map, hx]; rfl)
  have HF := Lib.hid h
  have hMF := h.may
  have HLB := Lib.hid hMF.lens3.1
  have HLN := Lib.hid hMF.lens3.2.1
  have HLR := Lib.hid hMF.lens3.2.2
  have HG0 : Hid (¬ (i : Int) < 0) := Lib.hid (by omega)
  have HG1 : Hid (¬ (n.sh.length : Int) ≤ (i : Int)) := Lib.hid (by omega)
  obtain ⟨L, hL⟩ : ∃ L, n.sh.length = L := ⟨_, rfl⟩
  have j0 : (0 : Int) ≤ (i : Int) := by omega
  have j1 : (i : Int) < (L : Int) := by omega
  rw [hL] at y4
  clear h hL hkl he q1 hse hel hnt hN hAs hB hS0 hT hcb hmb hcn hmn hil q2 hx hMF
  go_enter Tryd.func31, Tryd.ntmps31
  go_upto_region 4 with (first | (go_at_call 34; ((with_reducible refine (nfs_yes s _ y _ _ S1 T1 k n HF.out HG0.out HG1.out).mono ?_); rintro e' w3 ⟨rfl, bx⟩; (try clear k0 k1 k2 k3 k4 r0 r1 r2 r3 r4 t0 t1 t2 t3 t4); obtain ⟨S1, T1, B1, B2, HB, k0, k1, k2, k3, k4, r0, r1, r2, r3, r4, t0, t1, t2, t3, t4⟩ := keepT S1 T1 B1 B2 HB bx; clear bx)))
  have z4 := (HB.cell (p := ⟨b1, o1 + k * 5 + 4, none⟩) l1).trans y4
  have z5 := (HB.cell (p := ⟨b2, o2 + i, none⟩) l2).trans y5
  have QP : w3.cell? ⟨w.heap.size, 0, none⟩ = some (.int .i64 s.nb) ∧ w3.cell? ⟨w.heap.size, 1, none⟩ = some (.int .i64 s.nn) ∧ w3.cell? ⟨w.heap.size, 2, none⟩ = some (.int .i64 s.ns) ∧ w3.cell? ⟨w.heap.size, 3, none⟩ = some (.slice Ab s.bs.length cb) ∧ w3.cell? ⟨w.heap.size, 4, none⟩ = some (.slice (some ⟨b1, o1, none⟩) s.ts.length cn) ∧ w3.cell? ⟨b1, o1 + k * 5 + 4, none⟩ = some (.slice (some ⟨b2, o2, none⟩) L cs) ∧ w3.cell? ⟨b2, o2 + i, none⟩ = some (.int .i64 x) := ⟨k0, k1, k2, k3, k4, z4, z5⟩
  have hbD := below_dr w3
  have lq : w.heap.size + 1 < w3.heap.size := B2.lt
  have QD := keepB_7 QP hbD (by omega) (by omega) (by omega) (by omega) (by omega) (by have := HB.size; omega) (by have := HB.size; omega)
  have SD := S1.next hbD
  have BD := B2.below hbD B2.lt
  clear y4 y5 z4 z5 k0 k1 k2 k3 k4 QP S1 T1 B1
  refine wp_region_noPanic ?_
  refine wp_region_held_drew (S := (fun w_ => w_.cell? ⟨w.heap.size, 0, none⟩ = some (.int .i64 s.nb) ∧ w_.cell? ⟨w.heap.size, 1, none⟩ = some (.int .i64 s.nn) ∧ w_.cell? ⟨w.heap.size, 2, none⟩ = some (.int .i64 s.ns) ∧ w_.cell? ⟨w.heap.size, 3, none⟩ = some (.slice Ab s.bs.length cb) ∧ w_.cell? ⟨w.heap.size, 4, none⟩ = some (.slice (some ⟨b1, o1, none⟩) s.ts.length cn) ∧ w_.cell? ⟨b1, o1 + k * 5 + 4, none⟩ = some (.slice (some ⟨b2, o2, none⟩) L cs) ∧ w_.cell? ⟨b2, o2 + i, none⟩ = some (.int .i64 x))) (by kernel_rfl) ?_ (fun hHeld => ?_)
  · (first | with_reducible exact QD | with_reducible exact QE | exact QF)
  refine tk 0 ?_; try simp only [Act.put, pz1, pz2, pz3]
  refine tk 2 ?_; try simp only [Act.put, pz1, pz2, pz3]
  refine tk 3 ?_; try simp only [Act.put, pz1, pz2, pz3]
  refine tk 4 ?_; try simp only [Act.put, pz1, pz2, pz3]
  refine tk 5 ?_; try simp only [Act.put, pz1, pz2, pz3]
  refine tk 6 ?_; try simp only [Act.put, pz1, pz2, pz3]
  refine tk 7 ?_; try simp only [Act.put, pz1, pz2, pz3]
  refine tk 8 ?_; try simp only [Act.put, pz1, pz2, pz3]
  refine tk 9 ?_; try simp only [Act.put, pz1, pz2, pz3]
  refine tk 10 ?_; try simp only [Act.put, pz1, pz2, pz3]
  refine wpAnyH_ready (rs := [1]) (by kernel_rfl) (by simp) ?_
  refine AllReadyH.cons (o := ⟨some 23, .call { callee := .value (.func 47), args := #[.tmp 22], argTypes := #[25] }, 25, "note.go:95", #[⟨0, .data⟩], none⟩) rfl (fun K hK => ?_) AllReadyH.nil
  go_simp
  (go_at_call 47; ((with_reducible refine (clone_ap s _ _ SD HLB.out HLN.out HLR.out).mono ?_); rintro e' w9 ⟨v6, rfl, hQ, b6⟩))
  obtain ⟨Ab6, cb6, An6, cn6, rfl, hBk, hNt, -, -, -, -⟩ := ShA.parts hQ
  clear hQ
  have QE := keepB_7 QD b6 (by simp only [World.drew]; omega) (by simp only [World.drew]; omega) (by simp only [World.drew]; omega) (by simp only [World.drew]; omega) (by simp only [World.drew]; omega) (by simp only [World.drew]; have := HB.size; omega) (by simp only [World.drew]; have := HB.size; omega)
  have BE := BD.below b6 BD.lt
  have r0 := BE.cell_ 0
  have r1 := BE.cell_ 1
  have r2 := BE.cell_ 2
  have r3 := BE.cell_ 3
  have r4 := BE.cell_ 4
  simp at r0 r1 r2 r3 r4
  have t0 := BE.free 0
  have t1 := BE.free 1
  have t2 := BE.free 2
  have t3 := BE.free 3
  have t4 := BE.free 4
  have QF := keepB_7 QE (below_grown (Below.refl (w.heap.size + 1) w9) (st5_grown w9 (w.heap.size + 1) 0 (.int .i64 s.nb) (.int .i64 s.nn) (.int .i64 s.ns) (.slice Ab6 s.bs.length cb6) (.slice An6 s.ts.length cn6)) (Nat.le_refl _) (by have := b6.size; simp only [World.drew] at this; omega)) (by omega) (by omega) (by omega) (by omega) (by omega) (by omega) (by omega)
  go_wp2_with fail
  refine hK.out _ _ ?_ (fun hNew => ?_)
  · (first | with_reducible exact QD | with_reducible exact QE | exact QF)
  clear hK K hHeld
  have hHeld := hNew
  clear hNew
  try simp only [Act.put, pz1, pz2, pz3]
  refine wpAnyH_ready (rs := [11]) (by kernel_rfl) (by simp) ?_
  refine AllReadyH.cons (o := ⟨none, .store 25 (.tmp 6) (.tmp 23), 0, "note.go:95", #[⟨1, .data⟩, ⟨1, .chain⟩, ⟨0, .phase⟩, ⟨1, .phase⟩, { on := 2, ground := Ground.textOnly Departure.lateStores }, { on := 3, ground := Ground.textOnly Departure.lateStores }, { on := 4, ground := Ground.textOnly Departure.lateStores }, { on := 5, ground := Ground.textOnly Departure.lateStores }, { on := 6, ground := Ground.textOnly Departure.lateStores }, { on := 7, ground := Ground.textOnly Departure.lateStores }, { on := 8, ground := Ground.textOnly Departure.lateStores }, { on := 9, ground := Ground.textOnly Departure.lateStores }, { on := 10, ground := Ground.textOnly Departure.lateStores }], none⟩) rfl (fun K hK => ?_) AllReadyH.nil
  go_simp
  refine hK.out _ _ ?_ (fun hNew => ?_)
  · (first | with_reducible exact QD | with_reducible exact QE | exact QF)
  clear hK K hHeld
  have hHeld := hNew
  clear hNew
  try simp only [Act.put, pz1, pz2, pz3]
  refine tk 12 ?_; try simp only [Act.put, pz1, pz2, pz3]
  refine tk 13 ?_; try simp only [Act.put, pz1, pz2, pz3]
  refine wpAnyH_done (by kernel_rfl) ?_ _
  refine NoPanic.normal ?_
  have hg7 : w.heap.size + 1 < w3.drew.heap.size := lq
  have B2 := BE
  have HB := btr HB HB.size (btr hbD hbD.size b6)
  go_wp2_with fail
  have B2e := B2.st5_ (.int .i64 s.nb) (.int .i64 s.nn) (.int .i64 s.ns) (.slice Ab6 s.bs.length cb6) (.slice An6 s.ts.length cn6)
  have hgE := st5_grown w9 (w.heap.size + 1) 0 (.int .i64 s.nb) (.int .i64 s.nn) (.int .i64 s.ns) (.slice Ab6 s.bs.length cb6) (.slice An6 s.ts.length cn6)
  have hBe := hBk.far hgE (by omega)
  have hNe := hNt.far hgE (by omega)
  have hbe := below_grown HB hgE (by omega) HB.size
  change bodyPost _ _ _ _ _ (st5 w9 (w.heap.size + 1) 0 (.int .i64 s.nb) (.int .i64 s.nn) (.int .i64 s.ns) (.slice Ab6 s.bs.length cb6) (.slice An6 s.ts.length cn6))
  clear hgE
  generalize st5 w9 (w.heap.size + 1) 0 (.int .i64 s.nb) (.int .i64 s.nn) (.int .i64 s.ns) (.slice Ab6 s.bs.length cb6) (.slice An6 s.ts.length cn6) = WF at B2e hBe hNe hbe ⊢
  apply bodyPost_ret (v := .tuple #[.agg #[.int .i64 s.nb, .int .i64 s.nn, .int .i64 s.ns, .slice Ab6 s.bs.length cb6, .slice An6 s.ts.length cn6], .int .i64 x, .int .i64 0])
  · exact results_cell2 Tryd.results31 _ WF (w.heap.size + 1) 25 _ (0, 0) _ rfl B2e Tryd.underlying25 rfl (by kernel_rfl)
  · rfl
  · exact ⟨_, rfl, ShA.base_ (ShA.make hBe hNe) (by omega), hbe⟩
end Go.Proofs.YtkaoechjekffmaaDoor
namespace Go.Proofs.YtkaoechjekffmaaDoor
open Go.ChangeShapes Go.WideShapes Go.ChangeAt Go.RowKit
attribute [local go_sem ↓] Go.wp_at_zero Go.wp_at_succ
theorem rd_tail1 {w : World} {base n c g k : Nat} {e : TypeId} {xs : List Value} (h : w.ownsRow base e 1 (.slice (some ⟨g, 0, none⟩) n c) n xs) (hk : k + 1 ≤ n) : Rd w (if c = k + 1 then some ⟨g, 0, none⟩ else some ⟨g, k + 1, none⟩) (n - (k + 1)) 1 (xs.drop (k + 1)) := by
  have hl := h.1
  have hc : n ≤ c := by
    obtain ⟨A, c', he, h1, h2⟩ := own_shape h
    cases he
    exact h1
  refine ⟨by rw [List.length_drop, hl, Nat.mul_one, Nat.mul_one], ?_⟩
  by_cases hcc : c = k + 1
  · left
    omega
  · right
    rw [if_neg hcc]
    refine ⟨g, k + 1, rfl, fun j u hj => ?_⟩
    rw [List.getElem?_drop] at hj
    have hlt := (List.getElem?_eq_some_iff.1 hj).1
    rw [h.cellAt _ (by omega)]
    exact hj
theorem rapp_no (s : Sf) (v : Value) (y : Int) (w : World) (hS : ShR w w.heap.size v s) (hz : SzF s) (c : Int) (hc : appC s y = c) (hne : c ≠ 0) :
    Calls Tryd.prog 30 #[v, .int .i64 y] w fun e' w' => e' = .returned (.tuple #[.agg #[.int .i64 0, .int .i64 0, .int .i64 0, .slice none 0 0, .slice none 0 0], .int .i64 0, .int .i64 c]) ∧ Below w.heap.size w w' := by
  have hS0 := hS
  obtain ⟨Ab, cb, An, cn, rfl, hB, hN, hcb, hmb, hcn, hmn⟩ := hS.ex
  clear hS
  obtain ⟨HB, B1, B2, S1⟩ := pre2 hS0
  have HZ := Lib.hid hz
  by_cases hf : findC s y = 0
  · obtain ⟨k, n, h⟩ := fdF_of hf
    have HF := Lib.hid h
    have HNN := Lib.hid h.nt
    have HKL : Hid (k < s.ts.length) := Lib.hid (List.getElem?_eq_some_iff.1 h.nt).1
    obtain ⟨L, hL⟩ : ∃ L, n.sh.length = L := ⟨_, rfl⟩
    obtain ⟨T, hTe⟩ : ∃ T, s.ts.length = T := ⟨_, rfl⟩
    have HLL := Lib.hid hL
    have HTT := Lib.hid hTe
    have i0 : (0 : Int) ≤ (k : Int) := by omega
    have i1 : (k : Int) < (T : Int) := by have := HKL.out; omega
    have hL8 : L ≤ 100000 := by rw [← hL]; exact (h.may.small n (List.mem_of_getElem? h.nt)).2
    unfold appC at hc
    rw [hf, h.of_, hL] at hc
    clear h hL hTe hf
    clear hS0 hB hN hcb hmb hcn hmn hz
    go_enter Tryd.func30, Tryd.ntmps30
    go_upto_region 1 with fail
    obtain ⟨w3, hw3⟩ : ∃ V : World, V = ((w.alloc (.cells #[.int .i64 s.nb, .int .i64 s.nn, .int .i64 s.ns, .slice Ab s.bs.length cb, .slice An s.ts.length cn] 25)).alloc (.cells #[.int .i64 0, .int .i64 0, .int .i64 0, .slice none 0 0, .slice none 0 0] 25)) := ⟨_, rfl⟩
    rw [← hw3] at HB B1 B2 S1 ⊢
    clear hw3
    have k0 := B1.cell_ 0
    have k1 := B1.cell_ 1
    have k2 := B1.cell_ 2
    have k3 := B1.cell_ 3
    have k4 := B1.cell_ 4
    simp at k0 k1 k2 k3 k4
    have hW5 : w.heap.size + 2 ≤ w3.heap.size := by have := B2.lt; omega
    go_upto_region 2 with (go_at_call 35; ((with_reducible refine (rat_yes s _ y _ S1 HZ.out k n HF.out).mono ?_); rintro e' w9 ⟨v6, rfl, hQ, b6⟩; obtain ⟨Ab6, cb6, An6, cn6, rfl, hBk, hNt, q1, q2, q3, q4⟩ := ShA.parts hQ; have B1 := B1.below b6 B1.lt; have B2 := B2.below b6 B2.lt; have HB := btr HB HB.size b6; have hz6 := b6.size; (try clear k0 k1 k2 k3 k4 r0 r1 r2 r3 r4 t0 t1 t2 t3 t4); have k0 := B1.cell_ 0; have t0 := B1.free 0; have k1 := B1.cell_ 1; have t1 := B1.free 1; have k2 := B1.cell_ 2; have t2 := B1.free 2; have k3 := B1.cell_ 3; have t3 := B1.free 3; have k4 := B1.cell_ 4; have t4 := B1.free 4; simp at k0 k1 k2 k3 k4; clear b6 hQ S1))
    have B1u := B1.st5_ (.int .i64 s.nb) (.int .i64 s.nn) (.int .i64 s.ns) (.slice Ab6 s.bs.length cb6) (.slice An6 s.ts.length cn6)
    have hg6 := st5_grown w9 w.heap.size 0 (.int .i64 s.nb) (.int .i64 s.nn) (.int .i64 s.ns) (.slice Ab6 s.bs.length cb6) (.slice An6 s.ts.length cn6)
    have B2u := B2.grown hg6 (by omega)
    have hBk2 := hBk.far hg6 (by omega)
    have hNt2 := hNt.far hg6 (by omega)
    have hb2 := below_grown HB hg6 (Nat.le_refl _) HB.size
    have HSZ : Hid (w3.heap.size ≤ (st5 w9 w.heap.size 0 (.int .i64 s.nb) (.int .i64 s.nn) (.int .i64 s.ns) (.slice Ab6 s.bs.length cb6) (.slice An6 s.ts.length cn6)).heap.size) := Lib.hid (by have := hz6; have := hg6.size; omega)
    clear hg6
    obtain ⟨Wd, hWd⟩ : ∃ V : World, V = (st5 w9 w.heap.size 0 (.int .i64 s.nb) (.int .i64 s.nn) (.int .i64 s.ns) (.slice Ab6 s.bs.length cb6) (.slice An6 s.ts.length cn6)) := ⟨_, rfl⟩
    change Code.wp _ _ _ _ (st5 w9 w.heap.size 0 (.int .i64 s.nb) (.int .i64 s.nn) (.int .i64 s.ns) (.slice Ab6 s.bs.length cb6) (.slice An6 s.ts.length cn6))
    rw [← hWd] at B1u B2u hBk2 hNt2 hb2 HSZ ⊢
    clear hWd B1 B2 HB hBk hNt k0 k1 k2 k3 k4 t0 t1 t2 t3 t4 hz6
    have HW5 := Lib.hid hW5
    obtain ⟨es, hel, hon, hnt, hap⟩ := hNt2
    have hkT := (List.getElem?_eq_some_iff.1 HNN.out).1
    obtain ⟨e0, he⟩ : ∃ e, es[k]? = some e := ⟨_, List.getElem?_eq_getElem (by omega)⟩
    obtain ⟨vt, vs, rfl, q1, q2⟩ := hnt k n e0 HNN.out he
    obtain ⟨At9, ct9, rfl, ht1, ht2⟩ := own_shape q1
    obtain ⟨As9, cs9, rfl, hs1, hs2⟩ := own_shape q2
    obtain ⟨gn, hgn, hgn2⟩ : ∃ gn, An6 = some ⟨gn, 0, none⟩ ∧ w3.heap.size ≤ gn := by
      rcases hon.2 with ⟨h, h0⟩ | ⟨g, c, cu, h, hb, _⟩
      · omega
      · injection h with h1 h2 h3
        exact ⟨g, h1, hb⟩
    subst hgn
    have h5 := es_five hel hnt
    have hga : gn ≠ Wd.heap.size := by
      have := (hon.lt gn rfl).2
      omega
    have HE := Lib.hid he
    have HEL := Lib.hid hel
    have HON := Lib.hid hon
    rw [HLL.out] at he q2
    rw [HTT.out] at hon hel
    have k0 := B1u.cell_ 0
    have k1 := B1u.cell_ 1
    have k2 := B1u.cell_ 2
    have k3 := B1u.cell_ 3
    have k4 := B1u.cell_ 4
    simp at k0 k1 k2 k3 k4
    rw [HTT.out] at k4
    have x4 := own_cellE hon h5 he (j := 4) rfl
    have r0 := B2u.cell_ 0
    have t0 := B2u.free 0
    have r1 := B2u.cell_ 1
    have t1 := B2u.free 1
    have r2 := B2u.cell_ 2
    have t2 := B2u.free 2
    have r3 := B2u.cell_ 3
    have t3 := B2u.free 3
    have r4 := B2u.cell_ 4
    have t4 := B2u.free 4
    simp at r0 r1 r2 r3 r4
    clear HE HEL HON
    by_cases g0 : 8 ≤ L
    · obtain rfl : c = 3 := by simpa [g0] using hc.symm
      have g2 : (8 : Int) ≤ (L : Int) := by omega
      clear hc hne
      go_wp2_with fail
      have B2v := z5_blk B2u
      have hbv := z5_below hb2 (g := w.heap.size + 1) (by omega)
      change bodyPost _ _ _ _ _ (z5 Wd (w.heap.size + 1))
      generalize z5 Wd (w.heap.size + 1) = We at B2v hbv ⊢
      apply bodyPost_ret (v := .tuple #[.agg #[.int .i64 0, .int .i64 0, .int .i64 0, .slice none 0 0, .slice none 0 0], .int .i64 0, .int .i64 3])
      · exact results_cell2 Tryd.results30 _ We _ 25 #[.int .i64 0, .int .i64 0, .int .i64 0, .slice none 0 0, .slice none 0 0] (0, 0) _ rfl B2v Tryd.underlying25 rfl (by kernel_rfl)
      · rfl
      · exact ⟨rfl, hbv⟩
    · by_cases g1 : 4096 ≤ s.ns
      · obtain rfl : c = 3 := by simpa [g0, g1] using hc.symm
        have g2 : ¬ (8 : Int) ≤ (L : Int) := by omega
        have g3 : (4095 : Int) < s.ns := by omega
        clear hc hne
        go_wp2_with fail
        have B2v := z5_blk B2u
        have hbv := z5_below hb2 (g := w.heap.size + 1) (by omega)
        change bodyPost _ _ _ _ _ (z5 Wd (w.heap.size + 1))
        generalize z5 Wd (w.heap.size + 1) = We at B2v hbv ⊢
        apply bodyPost_ret (v := .tuple #[.agg #[.int .i64 0, .int .i64 0, .int .i64 0, .slice none 0 0, .slice none 0 0], .int .i64 0, .int .i64 3])
        · exact results_cell2 Tryd.results30 _ We _ 25 #[.int .i64 0, .int .i64 0, .int .i64 0, .slice none 0 0, .slice none 0 0] (0, 0) _ rfl B2v Tryd.underlying25 rfl (by kernel_rfl)
        · rfl
        · exact ⟨rfl, hbv⟩
      · exact absurd (by simpa [g0, g1] using hc.symm) hne
  · have hcf : findC s y = c := by
      unfold appC at hc
      have : (findC s y == 0) = false := by simpa using hf
      rw [this] at hc
      exact hc
    have HC := Lib.hid hcf
    have HE := Lib.hid hne
    have he0 : ¬ c = 0 := hne
    clear hf hcf hc hne
    clear hS0 hB hN hcb hmb hcn hmn hz
    go_enter Tryd.func30, Tryd.ntmps30
    go_upto_region 1 with fail
    obtain ⟨w3, hw3⟩ : ∃ V : World, V = ((w.alloc (.cells #[.int .i64 s.nb, .int .i64 s.nn, .int .i64 s.ns, .slice Ab s.bs.length cb, .slice An s.ts.length cn] 25)).alloc (.cells #[.int .i64 0, .int .i64 0, .int .i64 0, .slice none 0 0, .slice none 0 0] 25)) := ⟨_, rfl⟩
    rw [← hw3] at HB B1 B2 S1 ⊢
    clear hw3
    have k0 := B1.cell_ 0
    have k1 := B1.cell_ 1
    have k2 := B1.cell_ 2
    have k3 := B1.cell_ 3
    have k4 := B1.cell_ 4
    simp at k0 k1 k2 k3 k4
    have hW5 : w.heap.size + 2 ≤ w3.heap.size := by have := B2.lt; omega
    go_upto_region 2 with (go_at_call 35; ((with_reducible refine (rat_no s _ y _ S1 HZ.out c HC.out HE.out).mono ?_); rintro e' w9 ⟨rfl, b6⟩; (try clear k0 k1 k2 k3 k4 r0 r1 r2 r3 r4 t0 t1 t2 t3 t4); obtain ⟨S1, B1, B2, HB, k0, k1, k2, k3, k4, r0, r1, r2, r3, r4, t0, t1, t2, t3, t4⟩ := keepR S1 B1 B2 HB b6; clear b6; have t0' := B1.free 0; have t1' := B1.free 1; have t2' := B1.free 2; have t3' := B1.free 3; have t4' := B1.free 4))
    have B1z := z5_blk B1
    have hgz := st5_grown w9 w.heap.size 0 (.int .i64 0) (.int .i64 0) (.int .i64 0) (.slice none 0 0) (.slice none 0 0)
    have B2z : Blk (z5 w9 w.heap.size) (w.heap.size + 1) 25 #[.int .i64 0, .int .i64 0, .int .i64 0, .slice none 0 0, .slice none 0 0] := B2.grown hgz (by omega)
    have hbz := z5_below HB (g := w.heap.size) (Nat.le_refl _)
    change Code.wp _ _ _ _ (z5 w9 w.heap.size)
    obtain ⟨Wz, hWz⟩ : ∃ V : World, V = z5 w9 w.heap.size := ⟨_, rfl⟩
    rw [← hWz] at B1z B2z hbz ⊢
    clear hgz hWz B1 B2 HB S1 k0 k1 k2 k3 k4 r0 r1 r2 r3 r4 t0 t1 t2 t3 t4 t0' t1' t2' t3' t4'
    have r0 := B2z.cell_ 0
    have r1 := B2z.cell_ 1
    have r2 := B2z.cell_ 2
    have r3 := B2z.cell_ 3
    have r4 := B2z.cell_ 4
    simp at r0 r1 r2 r3 r4
    have t0 := B2z.free 0
    have t1 := B2z.free 1
    have t2 := B2z.free 2
    have t3 := B2z.free 3
    have t4 := B2z.free 4
    go_wp2_with fail
    have B2u := z5_blk B2z
    have hb2 := z5_below hbz (g := w.heap.size + 1) (by omega)
    change bodyPost _ _ _ _ _ (z5 Wz (w.heap.size + 1))
    generalize z5 Wz (w.heap.size + 1) = Wd at B2u hb2 ⊢
    apply bodyPost_ret (v := .tuple #[.agg #[.int .i64 0, .int .i64 0, .int .i64 0, .slice none 0 0, .slice none 0 0], .int .i64 0, .int .i64 c])
    · exact results_cell2 Tryd.results30 _ Wd _ 25 #[.int .i64 0, .int .i64 0, .int .i64 0, .slice none 0 0, .slice none 0 0] (0, 0) _ rfl B2u Tryd.underlying25 rfl (by kernel_rfl)
    · rfl
    · exact ⟨rfl, hb2⟩
theorem rapp_yes (s : Sf) (v : Value) (y : Int) (w : World) (hS : ShR w w.heap.size v s) (hz : SzF s) (hc : appC s y = 0) :
    Calls Tryd.prog 30 #[v, .int .i64 y] w fun e' w' => ∃ v', e' = .returned (.tuple #[v', .int .i64 s.ns, .int .i64 0]) ∧ ShW w' w.heap.size v' (appS s y) ∧ Below w.heap.size w w' := by
  have hS0 := hS
  obtain ⟨Ab, cb, An, cn, rfl, hB, hN, hcb, hmb, hcn, hmn⟩ := hS.ex
  clear hS
  obtain ⟨HB, B1, B2, S1⟩ := pre2 hS0
  have HZ := Lib.hid hz
  obtain ⟨hf, hg1, hg2⟩ := appC_cases hc
  obtain ⟨k, n, h⟩ := fdF_of hf
  rw [h.of_] at hg1
  have HF := Lib.hid h
  have HNN := Lib.hid h.nt
  have HKL : Hid (k < s.ts.length) := Lib.hid (List.getElem?_eq_some_iff.1 h.nt).1
  obtain ⟨L, hL⟩ : ∃ L, n.sh.length = L := ⟨_, rfl⟩
  obtain ⟨T, hTe⟩ : ∃ T, s.ts.length = T := ⟨_, rfl⟩
  have HLL := Lib.hid hL
  have HTT := Lib.hid hTe
  have i0 : (0 : Int) ≤ (k : Int) := by omega
  have i1 : (k : Int) < (T : Int) := by have := HKL.out; omega
  have hL8 : L ≤ 100000 := by rw [← hL]; exact (h.may.small n (List.mem_of_getElem? h.nt)).2
  have HRS : Hid (appS s y = { s with ns := s.ns + 1, ts := s.ts.set k { n with sh := n.sh ++ [s.ns] } }) := Lib.hid (by unfold appS; rw [h.of_, h.put])
  have HQX := Lib.hid h.may.ns
  rw [hL] at hg1
  have g2 : ¬ (8 : Int) ≤ (L : Int) := by omega
  have g3 : ¬ (4095 : Int) < s.ns := by omega
  clear h hL hTe hf hg1 hg2 hc
  clear hS0 hB hN hcb hmb hcn hmn hz
  go_enter Tryd.func30, Tryd.ntmps30
  go_upto_region 1 with fail
  obtain ⟨w3, hw3⟩ : ∃ V : World, V = ((w.alloc (.cells #[.int .i64 s.nb, .int .i64 s.nn, .int .i64 s.ns, .slice Ab s.bs.length cb, .slice An s.ts.length cn] 25)).alloc (.cells #[.int .i64 0, .int .i64 0, .int .i64 0, .slice none 0 0, .slice none 0 0] 25)) := ⟨_, rfl⟩
  rw [← hw3] at HB B1 B2 S1 ⊢
  clear hw3
  have k0 := B1.cell_ 0
  have k1 := B1.cell_ 1
  have k2 := B1.cell_ 2
  have k3 := B1.cell_ 3
  have k4 := B1.cell_ 4
  simp at k0 k1 k2 k3 k4
  have hW5 : w.heap.size + 2 ≤ w3.heap.size := by have := B2.lt; omega
  go_upto_region 2 with (go_at_call 35; ((with_reducible refine (rat_yes s _ y _ S1 HZ.out k n HF.out).mono ?_); rintro e' w9 ⟨v6, rfl, hQ, b6⟩; obtain ⟨Ab6, cb6, An6, cn6, rfl, hBk, hNt, q1, q2, q3, q4⟩ := ShA.parts hQ; have B1 := B1.below b6 B1.lt; have B2 := B2.below b6 B2.lt; have HB := btr HB HB.size b6; have hz6 := b6.size; (try clear k0 k1 k2 k3 k4 r0 r1 r2 r3 r4 t0 t1 t2 t3 t4); have k0 := B1.cell_ 0; have t0 := B1.free 0; have k1 := B1.cell_ 1; have t1 := B1.free 1; have k2 := B1.cell_ 2; have t2 := B1.free 2; have k3 := B1.cell_ 3; have t3 := B1.free 3; have k4 := B1.cell_ 4; have t4 := B1.free 4; simp at k0 k1 k2 k3 k4; clear b6 hQ S1))
  have B1u := B1.st5_ (.int .i64 s.nb) (.int .i64 s.nn) (.int .i64 s.ns) (.slice Ab6 s.bs.length cb6) (.slice An6 s.ts.length cn6)
  have hg6 := st5_grown w9 w.heap.size 0 (.int .i64 s.nb) (.int .i64 s.nn) (.int .i64 s.ns) (.slice Ab6 s.bs.length cb6) (.slice An6 s.ts.length cn6)
  have B2u := B2.grown hg6 (by omega)
  have hBk2 := hBk.far hg6 (by omega)
  have hNt2 := hNt.far hg6 (by omega)
  have hb2 := below_grown HB hg6 (Nat.le_refl _) HB.size
  have HSZ : Hid (w3.heap.size ≤ (st5 w9 w.heap.size 0 (.int .i64 s.nb) (.int .i64 s.nn) (.int .i64 s.ns) (.slice Ab6 s.bs.length cb6) (.slice An6 s.ts.length cn6)).heap.size) := Lib.hid (by have := hz6; have := hg6.size; omega)
  clear hg6
  obtain ⟨Wd, hWd⟩ : ∃ V : World, V = (st5 w9 w.heap.size 0 (.int .i64 s.nb) (.int .i64 s.nn) (.int .i64 s.ns) (.slice Ab6 s.bs.length cb6) (.slice An6 s.ts.length cn6)) := ⟨_, rfl⟩
  change Code.wp _ _ _ _ (st5 w9 w.heap.size 0 (.int .i64 s.nb) (.int .i64 s.nn) (.int .i64 s.ns) (.slice Ab6 s.bs.length cb6) (.slice An6 s.ts.length cn6))
  rw [← hWd] at B1u B2u hBk2 hNt2 hb2 HSZ ⊢
  clear hWd B1 B2 HB hBk hNt k0 k1 k2 k3 k4 t0 t1 t2 t3 t4 hz6
  have HW5 := Lib.hid hW5
  obtain ⟨es, hel, hon, hnt, hap⟩ := hNt2
  have hkT := (List.getElem?_eq_some_iff.1 HNN.out).1
  obtain ⟨e0, he⟩ : ∃ e, es[k]? = some e := ⟨_, List.getElem?_eq_getElem (by omega)⟩
  obtain ⟨vt, vs, rfl, q1, q2⟩ := hnt k n e0 HNN.out he
  obtain ⟨At9, ct9, rfl, ht1, ht2⟩ := own_shape q1
  obtain ⟨As9, cs9, rfl, hs1, hs2⟩ := own_shape q2
  obtain ⟨gn, hgn, hgn2⟩ : ∃ gn, An6 = some ⟨gn, 0, none⟩ ∧ w3.heap.size ≤ gn := by
    rcases hon.2 with ⟨h, h0⟩ | ⟨g, c, cu, h, hb, _⟩
    · omega
    · injection h with h1 h2 h3
      exact ⟨g, h1, hb⟩
  subst hgn
  have h5 := es_five hel hnt
  have hga : gn ≠ Wd.heap.size := by
    have := (hon.lt gn rfl).2
    omega
  have HE := Lib.hid he
  have HEL := Lib.hid hel
  have HON := Lib.hid hon
  rw [HLL.out] at he q2
  rw [HTT.out] at hon hel
  have k0 := B1u.cell_ 0
  have k1 := B1u.cell_ 1
  have k2 := B1u.cell_ 2
  have k3 := B1u.cell_ 3
  have k4 := B1u.cell_ 4
  simp at k0 k1 k2 k3 k4
  rw [HTT.out] at k4
  have x4 := own_cellE hon h5 he (j := 4) rfl
  go_upto_region 7 with fail
  have kd : Wd.drew.cell? ⟨w.heap.size, 4, none⟩ = some (.slice (some ⟨gn, 0, none⟩) T cn6) := drew_cell k4
  have ka : (Wd.alloc (.cells #[.int .i64 s.ns] 3)).drew.cell? ⟨w.heap.size, 4, none⟩ = some (.slice (some ⟨gn, 0, none⟩) T cn6) := by
    rw [← HTT.out]
    exact drew_cell ((B1u.alloc_ _).cell_ 4)
  have xd : Wd.drew.cell? ⟨gn, k * 5 + 4, none⟩ = some (.slice As9 L cs9) := drew_cell (own_cellE hon h5 he (j := 4) rfl)
  have xa : (Wd.alloc (.cells #[.int .i64 s.ns] 3)).drew.cell? ⟨gn, k * 5 + 4, none⟩ = some (.slice As9 L cs9) := own_cellE (drew_own (hon.alloc _)) h5 he (j := 4) rfl
  have hqb : ∀ g, (Value.slice As9 L cs9).ownBlock = some g → w3.heap.size ≤ g := fun g hg => (q2.lt g hg).1
  have hqs : ∀ u ∈ [Value.int .i64 s.ns], u.oneCell' = true := fun u hu => by
    simp at hu
    subst hu
    rfl
  clear k0 k1 k2 k3 k4 x4
  refine wp_region_noPanic ?_
  refine wp_region_held_drew (S := (fun w_ => w_.cell? ⟨w.heap.size, 4, none⟩ = some (.slice (some ⟨gn, 0, none⟩) T cn6))) (by kernel_rfl) ?_ (fun hHeld => ?_)
  · (first | with_reducible exact kd | with_reducible exact ka | with_reducible exact k4' | with_reducible exact kb)
  refine tk 0 ?_; try simp only [Act.put, pz1, pz2, pz3]
  refine tk 1 ?_; try simp only [Act.put, pz1, pz2, pz3]
  refine tk 2 ?_; try simp only [Act.put, pz1, pz2, pz3]
  refine tk 3 ?_; try simp only [Act.put, pz1, pz2, pz3]
  refine tk 4 ?_; try simp only [Act.put, pz1, pz2, pz3]
  refine tk 5 ?_; try simp only [Act.put, pz1, pz2, pz3]
  refine tk 6 ?_; try simp only [Act.put, pz1, pz2, pz3]
  refine tk 7 ?_; try simp only [Act.put, pz1, pz2, pz3]
  refine tk 9 ?_; try simp only [Act.put, pz1, pz2, pz3]
  refine wpAnyH_ready (rs := [8, 10]) (by kernel_rfl) (by simp) ?_
  refine (AllReadyH.cons (o := ⟨some 47, .load 47 (.tmp 46), 47, "ref.go:78", #[⟨7, .data⟩], none⟩) rfl (fun K hK => ?_) (AllReadyH.cons (o := ⟨some 49, .buildSlice 47 1 #[(0, .tmp 48)], 47, "ref.go:78", #[⟨9, .data⟩], none⟩) rfl (fun K hK => ?_) AllReadyH.nil))
  · go_simp
    refine hK.out _ _ ?_ (fun hNew => ?_)
    · (first | with_reducible exact kd | with_reducible exact ka | with_reducible exact k4' | with_reducible exact kb)
    clear hK K hHeld
    have hHeld := hNew
    clear hNew
    try simp only [Act.put, pz1, pz2, pz3]
    refine wpAnyH_ready (rs := [10]) (by kernel_rfl) (by simp) ?_
    refine AllReadyH.cons (o := ⟨some 49, .buildSlice 47 1 #[(0, .tmp 48)], 47, "ref.go:78", #[⟨9, .data⟩], none⟩) rfl (fun K hK => ?_) AllReadyH.nil
    go_simp
    refine hK.out _ _ ?_ (fun hNew => ?_)
    · (first | with_reducible exact kd | with_reducible exact ka | with_reducible exact k4' | with_reducible exact kb)
    clear hK K hHeld
    have hHeld := hNew
    clear hNew
    try simp only [Act.put, pz1, pz2, pz3]
    refine wpAnyH_ready (rs := [11]) (by kernel_rfl) (by simp) ?_
    refine AllReadyH.cons (o := ⟨some 50, .call { callee := .builtin .append, args := #[.tmp 47, .tmp 49], argTypes := #[47, 47] }, 47, "ref.go:78", #[⟨8, .data⟩, ⟨10, .data⟩], none⟩) rfl (fun K hK => ?_) AllReadyH.nil
    obtain ⟨ti0, hi, hz0, hz1, hz2⟩ := info_parts info_clInt
    refine step_app _ rfl (.tmp 47) (.tmp 49) _ rfl w3.heap.size 3 ti0 _ 1 8 Tryd.underlying47 hi hz0 hz1 hz2 rfl (by decide) _ L (n.sh.map (Value.int .i64)) rfl (drew_own (q2.alloc _)) _ 1 _ [.int .i64 s.ns] rfl (rd_newV Wd _ _ rfl) hqs (by unfold maxLen; omega) (by omega) (by have := HSZ.out; show w3.heap.size ≤ (Wd.alloc (.cells #[.int .i64 s.ns] 3)).heap.size; simp; omega) ?_
    intro v' w7 ho' hg' hv'
    clear hi hz0 hz1 hz2 hv'
    replace hg' : (Wd.alloc (.cells #[.int .i64 s.ns] 3)).drew.grownBy w7 (Value.slice As9 L cs9).ownBlock := hg'
    have hof : ∀ j, j < w3.heap.size → (Value.slice As9 L cs9).ownBlock ≠ some j := fun j hj h => by have := hqb j h; omega
    have B1a := (drew_blk (B1u.alloc_ (.cells #[.int .i64 s.ns] 3))).grownR hg' (hof _ (by have := HW5.out; omega))
    have B2a := (drew_blk (B2u.alloc_ (.cells #[.int .i64 s.ns] 3))).grownR hg' (hof _ (by have := HW5.out; omega))
    have HBa := (drew_below (hb2.alloc hb2.size _)).trans (below_app (B := w.heap.size) (by have := HW5.out; omega) (by have := HSZ.out; show w3.heap.size ≤ (Wd.alloc (.cells #[.int .i64 s.ns] 3)).heap.size; simp; omega) (drew_own (q2.alloc _)) hg')
    have hon7 := (drew_own (hon.alloc (.cells #[.int .i64 s.ns] 3))).kept hg' (own_apart (drew_own (hon.alloc (.cells #[.int .i64 s.ns] 3))) (drew_own (q2.alloc (.cells #[.int .i64 s.ns] 3))) (by decide))
    have k4' := B1a.cell_ 4
    simp at k4'
    rw [HTT.out] at k4'
    obtain ⟨A7, c7, rfl, q21, q22⟩ := own_shape ho'
    have x7 := own_cellE hon7 h5 he (j := 4) rfl
    have f7 := World.ownsRow.frozenAt hon7 (k * 5 + 4)
    have kb : (w7.setCell ⟨gn, k * 5 + 4, none⟩ (.slice A7 (L + 1) c7)).cell? ⟨w.heap.size, 4, none⟩ = some (.slice (some ⟨gn, 0, none⟩) T cn6) := by
      have := (B1a.grown (set1_grown w7 gn (k * 5 + 4) (.slice A7 (L + 1) c7)) (by have := HW5.out; omega)).cell_ 4
      simp at this
      rw [HTT.out] at this
      exact this
    refine hK.out _ _ ?_ (fun hNew => ?_)
    · (first | with_reducible exact kd | with_reducible exact ka | with_reducible exact k4' | with_reducible exact kb)
    clear hK K hHeld
    have hHeld := hNew
    clear hNew
    try simp only [Act.put, pz1, pz2, pz3]
    refine tk 12 ?_; try simp only [Act.put, pz1, pz2, pz3]
    refine tk 13 ?_; try simp only [Act.put, pz1, pz2, pz3]
    refine wpAnyH_ready (rs := [14]) (by kernel_rfl) (by simp) ?_
    refine AllReadyH.cons (o := ⟨none, .store 47 (.tmp 52) (.tmp 50), 0, "ref.go:78", #[⟨13, .data⟩, ⟨11, .data⟩, ⟨11, .chain⟩, ⟨0, .phase⟩, ⟨1, .phase⟩, ⟨2, .phase⟩, ⟨3, .phase⟩, ⟨4, .phase⟩, ⟨5, .phase⟩, ⟨6, .phase⟩, ⟨7, .phase⟩, ⟨8, .phase⟩, ⟨9, .phase⟩, ⟨10, .phase⟩, ⟨11, .phase⟩], none⟩) rfl (fun K hK => ?_) AllReadyH.nil
    go_simp
    refine hK.out _ _ ?_ (fun hNew => ?_)
    · (first | with_reducible exact kd | with_reducible exact ka | with_reducible exact k4' | with_reducible exact kb)
    clear hK K hHeld
    have hHeld := hNew
    clear hNew
    try simp only [Act.put, pz1, pz2, pz3]
    refine wpAnyH_done (by kernel_rfl) ?_ _
    refine NoPanic.normal ?_
    have hb0 : Below Wd.heap.size Wd (Wd.alloc (.cells #[.int .i64 s.ns] 3)).drew := drew_below ((Below.refl _ Wd).alloc (Nat.le_refl _) _)
    have hl9 : (n.sh ++ [s.ns]).length = L + 1 := by rw [List.length_append, HLL.out]; rfl
    obtain ⟨hNw, hgw⟩ := nt_sheets (xs := n.sh ++ [s.ns]) HEL.out (drew_own (HON.out.alloc (.cells #[.int .i64 s.ns] 3))) (fun k n e a b => (hnt k n e a b).below hb0) hap HNN.out HE.out (by rw [HLL.out]; exact hg') (by rw [hl9, List.map_append]; exact ho')
    have B1w := B1a.grown hgw (by have := HW5.out; omega)
    have B2w := B2a.grown hgw (by have := HW5.out; omega)
    have hB7 : BksW w7 w3.heap.size (.slice Ab6 s.bs.length cb6) s.bs := World.ownsRow.kept (own_belowW hBk2 hb0) hg' (own_apart (own_belowW hBk2 hb0) (drew_own (q2.alloc (.cells #[.int .i64 s.ns] 3))) (by decide))
    have hBw := BksW.apartN hB7 hon7 hgw
    have hbw := below_grown HBa hgw (by have := HW5.out; omega) HBa.size
    obtain ⟨Wx, hWx⟩ : ∃ V : World, V = w7.setCell ⟨gn, k * 5 + 4, none⟩ (.slice A7 (L + 1) c7) := ⟨_, rfl⟩
    rw [← hWx] at hNw B1w B2w hBw hbw ⊢
    clear hWx hgw hB7 hb0 hl9 B1a B2a HBa ho' hg' hon7 k4' x7 f7 kb hof
    have k2 := B1w.cell_ 2
    have t2 := B1w.free 2
    simp at k2
    have hwr : IntKind.i64.wrap (s.ns + 1) = s.ns + 1 := wrapS _ (by have := HQX.out; omega) (by have := HQX.out; omega)
    go_upto_region 9 with fail
    have B1c := B1w.set_ 2 (.int .i64 (s.ns + 1))
    simp at B1c
    have hg2 := set1_grown Wx w.heap.size 2 (.int .i64 (s.ns + 1))
    have B2c := B2w.grown hg2 (by omega)
    have hNc := hNw.far hg2 (by have := HW5.out; omega)
    have hBc := hBw.far hg2 (by have := HW5.out; omega)
    have hbc := below_grown hbw hg2 (Nat.le_refl _) hbw.size
    obtain ⟨W9, hW9⟩ : ∃ V : World, V = Wx.setCell ⟨w.heap.size, 2, none⟩ (.int .i64 (s.ns + 1)) := ⟨_, rfl⟩
    rw [← hW9] at B1c B2c hNc hBc hbc ⊢
    clear hW9 B1w B2w hNw hBw hbw hg2 k2 t2 hwr
    have k0 := B1c.cell_ 0
    have r0 := B2c.cell_ 0
    have t0 := B2c.free 0
    have k1 := B1c.cell_ 1
    have r1 := B2c.cell_ 1
    have t1 := B2c.free 1
    have k2 := B1c.cell_ 2
    have r2 := B2c.cell_ 2
    have t2 := B2c.free 2
    have k3 := B1c.cell_ 3
    have r3 := B2c.cell_ 3
    have t3 := B2c.free 3
    have k4 := B1c.cell_ 4
    have r4 := B2c.cell_ 4
    have t4 := B2c.free 4
    simp at k0 k1 k2 k3 k4 r0 r1 r2 r3 r4
    go_wp2_with fail
    have B2e := B2c.st5_ (.int .i64 s.nb) (.int .i64 s.nn) (.int .i64 (s.ns + 1)) (.slice Ab6 s.bs.length cb6) (.slice (some ⟨gn, 0, none⟩) s.ts.length cn6)
    have hgE := st5_grown W9 (w.heap.size + 1) 0 (.int .i64 s.nb) (.int .i64 s.nn) (.int .i64 (s.ns + 1)) (.slice Ab6 s.bs.length cb6) (.slice (some ⟨gn, 0, none⟩) s.ts.length cn6)
    have hBe := hBc.far hgE (by have := HW5.out; omega)
    have hNe := hNc.far hgE (by have := HW5.out; omega)
    have hbe := below_grown hbc hgE (by omega) hbc.size
    change bodyPost _ _ _ _ _ (st5 W9 (w.heap.size + 1) 0 (.int .i64 s.nb) (.int .i64 s.nn) (.int .i64 (s.ns + 1)) (.slice Ab6 s.bs.length cb6) (.slice (some ⟨gn, 0, none⟩) s.ts.length cn6))
    clear hgE
    generalize st5 W9 (w.heap.size + 1) 0 (.int .i64 s.nb) (.int .i64 s.nn) (.int .i64 (s.ns + 1)) (.slice Ab6 s.bs.length cb6) (.slice (some ⟨gn, 0, none⟩) s.ts.length cn6) = WF at B2e hBe hNe hbe ⊢
    apply bodyPost_ret (v := .tuple #[.agg #[.int .i64 s.nb, .int .i64 s.nn, .int .i64 (s.ns + 1), .slice Ab6 s.bs.length cb6, .slice (some ⟨gn, 0, none⟩) s.ts.length cn6], .int .i64 s.ns, .int .i64 0])
    · exact results_cell2 Tryd.results30 _ WF (w.heap.size + 1) 25 _ (0, 0) _ rfl B2e Tryd.underlying25 rfl (by kernel_rfl)
    · rfl
    · refine ⟨_, rfl, ?_, hbe⟩
      rw [HRS.out]
      exact ShW.base_ (ShW.make (s := { s with ns := s.ns + 1, ts := s.ts.set k { n with sh := n.sh ++ [s.ns] } }) (w := WF) (base := w3.heap.size) (vb := .slice Ab6 s.bs.length cb6) (vn := .slice (some ⟨gn, 0, none⟩) s.ts.length cn6) hBe hNe) (by have := HW5.out; omega)
  · go_simp
    refine hK.out _ _ ?_ (fun hNew => ?_)
    · (first | with_reducible exact kd | with_reducible exact ka | with_reducible exact k4' | with_reducible exact kb)
    clear hK K hHeld
    have hHeld := hNew
    clear hNew
    try simp only [Act.put, pz1, pz2, pz3]
    refine wpAnyH_ready (rs := [8]) (by kernel_rfl) (by simp) ?_
    refine AllReadyH.cons (o := ⟨some 47, .load 47 (.tmp 46), 47, "ref.go:78", #[⟨7, .data⟩], none⟩) rfl (fun K hK => ?_) AllReadyH.nil
    go_simp
    refine hK.out _ _ ?_ (fun hNew => ?_)
    · (first | with_reducible exact kd | with_reducible exact ka | with_reducible exact k4' | with_reducible exact kb)
    clear hK K hHeld
    have hHeld := hNew
    clear hNew
    try simp only [Act.put, pz1, pz2, pz3]
    refine wpAnyH_ready (rs := [11]) (by kernel_rfl) (by simp) ?_
    refine AllReadyH.cons (o := ⟨some 50, .call { callee := .builtin .append, args := #[.tmp 47, .tmp 49], argTypes := #[47, 47] }, 47, "ref.go:78", #[⟨8, .data⟩, ⟨10, .data⟩], none⟩) rfl (fun K hK => ?_) AllReadyH.nil
    obtain ⟨ti0, hi, hz0, hz1, hz2⟩ := info_parts info_clInt
    refine step_app _ rfl (.tmp 47) (.tmp 49) _ rfl w3.heap.size 3 ti0 _ 1 8 Tryd.underlying47 hi hz0 hz1 hz2 rfl (by decide) _ L (n.sh.map (Value.int .i64)) rfl (drew_own (q2.alloc _)) _ 1 _ [.int .i64 s.ns] rfl (rd_newV Wd _ _ rfl) hqs (by unfold maxLen; omega) (by omega) (by have := HSZ.out; show w3.heap.size ≤ (Wd.alloc (.cells #[.int .i64 s.ns] 3)).heap.size; simp; omega) ?_
    intro v' w7 ho' hg' hv'
    clear hi hz0 hz1 hz2 hv'
    replace hg' : (Wd.alloc (.cells #[.int .i64 s.ns] 3)).drew.grownBy w7 (Value.slice As9 L cs9).ownBlock := hg'
    have hof : ∀ j, j < w3.heap.size → (Value.slice As9 L cs9).ownBlock ≠ some j := fun j hj h => by have := hqb j h; omega
    have B1a := (drew_blk (B1u.alloc_ (.cells #[.int .i64 s.ns] 3))).grownR hg' (hof _ (by have := HW5.out; omega))
    have B2a := (drew_blk (B2u.alloc_ (.cells #[.int .i64 s.ns] 3))).grownR hg' (hof _ (by have := HW5.out; omega))
    have HBa := (drew_below (hb2.alloc hb2.size _)).trans (below_app (B := w.heap.size) (by have := HW5.out; omega) (by have := HSZ.out; show w3.heap.size ≤ (Wd.alloc (.cells #[.int .i64 s.ns] 3)).heap.size; simp; omega) (drew_own (q2.alloc _)) hg')
    have hon7 := (drew_own (hon.alloc (.cells #[.int .i64 s.ns] 3))).kept hg' (own_apart (drew_own (hon.alloc (.cells #[.int .i64 s.ns] 3))) (drew_own (q2.alloc (.cells #[.int .i64 s.ns] 3))) (by decide))
    have k4' := B1a.cell_ 4
    simp at k4'
    rw [HTT.out] at k4'
    obtain ⟨A7, c7, rfl, q21, q22⟩ := own_shape ho'
    have x7 := own_cellE hon7 h5 he (j := 4) rfl
    have f7 := World.ownsRow.frozenAt hon7 (k * 5 + 4)
    have kb : (w7.setCell ⟨gn, k * 5 + 4, none⟩ (.slice A7 (L + 1) c7)).cell? ⟨w.heap.size, 4, none⟩ = some (.slice (some ⟨gn, 0, none⟩) T cn6) := by
      have := (B1a.grown (set1_grown w7 gn (k * 5 + 4) (.slice A7 (L + 1) c7)) (by have := HW5.out; omega)).cell_ 4
      simp at this
      rw [HTT.out] at this
      exact this
    refine hK.out _ _ ?_ (fun hNew => ?_)
    · (first | with_reducible exact kd | with_reducible exact ka | with_reducible exact k4' | with_reducible exact kb)
    clear hK K hHeld
    have hHeld := hNew
    clear hNew
    try simp only [Act.put, pz1, pz2, pz3]
    refine tk 12 ?_; try simp only [Act.put, pz1, pz2, pz3]
    refine tk 13 ?_; try simp only [Act.put, pz1, pz2, pz3]
    refine wpAnyH_ready (rs := [14]) (by kernel_rfl) (by simp) ?_
    refine AllReadyH.cons (o := ⟨none, .store 47 (.tmp 52) (.tmp 50), 0, "ref.go:78", #[⟨13, .data⟩, ⟨11, .data⟩, ⟨11, .chain⟩, ⟨0, .phase⟩, ⟨1, .phase⟩, ⟨2, .phase⟩, ⟨3, .phase⟩, ⟨4, .phase⟩, ⟨5, .phase⟩, ⟨6, .phase⟩, ⟨7, .phase⟩, ⟨8, .phase⟩, ⟨9, .phase⟩, ⟨10, .phase⟩, ⟨11, .phase⟩], none⟩) rfl (fun K hK => ?_) AllReadyH.nil
    go_simp
    refine hK.out _ _ ?_ (fun hNew => ?_)
    · (first | with_reducible exact kd | with_reducible exact ka | with_reducible exact k4' | with_reducible exact kb)
    clear hK K hHeld
    have hHeld := hNew
    clear hNew
    try simp only [Act.put, pz1, pz2, pz3]
    refine wpAnyH_done (by kernel_rfl) ?_ _
    refine NoPanic.normal ?_
    have hb0 : Below Wd.heap.size Wd (Wd.alloc (.cells #[.int .i64 s.ns] 3)).drew := drew_below ((Below.refl _ Wd).alloc (Nat.le_refl _) _)
    have hl9 : (n.sh ++ [s.ns]).length = L + 1 := by rw [List.length_append, HLL.out]; rfl
    obtain ⟨hNw, hgw⟩ := nt_sheets (xs := n.sh ++ [s.ns]) HEL.out (drew_own (HON.out.alloc (.cells #[.int .i64 s.ns] 3))) (fun k n e a b => (hnt k n e a b).below hb0) hap HNN.out HE.out (by rw [HLL.out]; exact hg') (by rw [hl9, List.map_append]; exact ho')
    have B1w := B1a.grown hgw (by have := HW5.out; omega)
    have B2w := B2a.grown hgw (by have := HW5.out; omega)
    have hB7 : BksW w7 w3.heap.size (.slice Ab6 s.bs.length cb6) s.bs := World.ownsRow.kept (own_belowW hBk2 hb0) hg' (own_apart (own_belowW hBk2 hb0) (drew_own (q2.alloc (.cells #[.int .i64 s.ns] 3))) (by decide))
    have hBw := BksW.apartN hB7 hon7 hgw
    have hbw := below_grown HBa hgw (by have := HW5.out; omega) HBa.size
    obtain ⟨Wx, hWx⟩ : ∃ V : World, V = w7.setCell ⟨gn, k * 5 + 4, none⟩ (.slice A7 (L + 1) c7) := ⟨_, rfl⟩
    rw [← hWx] at hNw B1w B2w hBw hbw ⊢
    clear hWx hgw hB7 hb0 hl9 B1a B2a HBa ho' hg' hon7 k4' x7 f7 kb hof
    have k2 := B1w.cell_ 2
    have t2 := B1w.free 2
    simp at k2
    have hwr : IntKind.i64.wrap (s.ns + 1) = s.ns + 1 := wrapS _ (by have := HQX.out; omega) (by have := HQX.out; omega)
    go_upto_region 9 with fail
    have B1c := B1w.set_ 2 (.int .i64 (s.ns + 1))
    simp at B1c
    have hg2 := set1_grown Wx w.heap.size 2 (.int .i64 (s.ns + 1))
    have B2c := B2w.grown hg2 (by omega)
    have hNc := hNw.far hg2 (by have := HW5.out; omega)
    have hBc := hBw.far hg2 (by have := HW5.out; omega)
    have hbc := below_grown hbw hg2 (Nat.le_refl _) hbw.size
    obtain ⟨W9, hW9⟩ : ∃ V : World, V = Wx.setCell ⟨w.heap.size, 2, none⟩ (.int .i64 (s.ns + 1)) := ⟨_, rfl⟩
    rw [← hW9] at B1c B2c hNc hBc hbc ⊢
    clear hW9 B1w B2w hNw hBw hbw hg2 k2 t2 hwr
    have k0 := B1c.cell_ 0
    have r0 := B2c.cell_ 0
    have t0 := B2c.free 0
    have k1 := B1c.cell_ 1
    have r1 := B2c.cell_ 1
    have t1 := B2c.free 1
    have k2 := B1c.cell_ 2
    have r2 := B2c.cell_ 2
    have t2 := B2c.free 2
    have k3 := B1c.cell_ 3
    have r3 := B2c.cell_ 3
    have t3 := B2c.free 3
    have k4 := B1c.cell_ 4
    have r4 := B2c.cell_ 4
    have t4 := B2c.free 4
    simp at k0 k1 k2 k3 k4 r0 r1 r2 r3 r4
    go_wp2_with fail
    have B2e := B2c.st5_ (.int .i64 s.nb) (.int .i64 s.nn) (.int .i64 (s.ns + 1)) (.slice Ab6 s.bs.length cb6) (.slice (some ⟨gn, 0, none⟩) s.ts.length cn6)
    have hgE := st5_grown W9 (w.heap.size + 1) 0 (.int .i64 s.nb) (.int .i64 s.nn) (.int .i64 (s.ns + 1)) (.slice Ab6 s.bs.length cb6) (.slice (some ⟨gn, 0, none⟩) s.ts.length cn6)
    have hBe := hBc.far hgE (by have := HW5.out; omega)
    have hNe := hNc.far hgE (by have := HW5.out; omega)
    have hbe := below_grown hbc hgE (by omega) hbc.size
    change bodyPost _ _ _ _ _ (st5 W9 (w.heap.size + 1) 0 (.int .i64 s.nb) (.int .i64 s.nn) (.int .i64 (s.ns + 1)) (.slice Ab6 s.bs.length cb6) (.slice (some ⟨gn, 0, none⟩) s.ts.length cn6))
    clear hgE
    generalize st5 W9 (w.heap.size + 1) 0 (.int .i64 s.nb) (.int .i64 s.nn) (.int .i64 (s.ns + 1)) (.slice Ab6 s.bs.length cb6) (.slice (some ⟨gn, 0, none⟩) s.ts.length cn6) = WF at B2e hBe hNe hbe ⊢
    apply bodyPost_ret (v := .tuple #[.agg #[.int .i64 s.nb, .int .i64 s.nn, .int .i64 (s.ns + 1), .slice Ab6 s.bs.length cb6, .slice (some ⟨gn, 0, none⟩) s.ts.length cn6], .int .i64 s.ns, .int .i64 0])
    · exact results_cell2 Tryd.results30 _ WF (w.heap.size + 1) 25 _ (0, 0) _ rfl B2e Tryd.underlying25 rfl (by kernel_rfl)
    · rfl
    · refine ⟨_, rfl, ?_, hbe⟩
      rw [HRS.out]
      exact ShW.base_ (ShW.make (s := { s with ns := s.ns + 1, ts := s.ts.set k { n with sh := n.sh ++ [s.ns] } }) (w := WF) (base := w3.heap.size) (vb := .slice Ab6 s.bs.length cb6) (vn := .slice (some ⟨gn, 0, none⟩) s.ts.length cn6) hBe hNe) (by have := HW5.out; omega)
theorem rrem_no (s : Sf) (v : Value) (y : Int) (i : Int) (w : World) (hS : ShR w w.heap.size v s) (hz : SzF s) (c : Int) (hc : shtC s y i = c) (hne : c ≠ 0) :
    Calls Tryd.prog 33 #[v, .int .i64 y, .int .i64 i] w fun e' w' => e' = .returned (.tuple #[.agg #[.int .i64 0, .int .i64 0, .int .i64 0, .slice none 0 0, .slice none 0 0], .int .i64 0, .int .i64 c]) ∧ Below w.heap.size w w' := by
  have hS0 := hS
  obtain ⟨Ab, cb, An, cn, rfl, hB, hN, hcb, hmb, hcn, hmn⟩ := hS.ex
  clear hS
  obtain ⟨HB, B1, B2, S1⟩ := pre2 hS0
  have HZ := Lib.hid hz
  have HC := Lib.hid hc
  have HE := Lib.hid hne
  have he0 : ¬ c = 0 := hne
  clear hc hne
  clear hS0 hB hN hcb hmb hcn hmn hz
  go_enter Tryd.func33, Tryd.ntmps33
  go_wp2_with (first | (go_at_call 13; ((with_reducible refine (rsheet_no s _ y i _ S1 HZ.out c HC.out HE.out).mono ?_); rintro e' w3 ⟨rfl, bx⟩; (try clear k0 k1 k2 k3 k4 r0 r1 r2 r3 r4 t0 t1 t2 t3 t4); obtain ⟨S1, B1, B2, HB, k0, k1, k2, k3, k4, r0, r1, r2, r3, r4, t0, t1, t2, t3, t4⟩ := keepR S1 B1 B2 HB bx; clear bx)))
  have B2u := z5_blk B2
  have hb2 := z5_below HB (g := w.heap.size + 1) (by omega)
  change bodyPost _ _ _ _ _ (z5 w3 (w.heap.size + 1))
  generalize z5 w3 (w.heap.size + 1) = Wd at B2u hb2 ⊢
  apply bodyPost_ret (v := .tuple #[.agg #[.int .i64 0, .int .i64 0, .int .i64 0, .slice none 0 0, .slice none 0 0], .int .i64 0, .int .i64 c])
  · exact results_cell2 Tryd.results33 _ Wd _ 25 #[.int .i64 0, .int .i64 0, .int .i64 0, .slice none 0 0, .slice none 0 0] (0, 0) _ rfl B2u Tryd.underlying25 rfl (by kernel_rfl)
  · rfl
  · exact ⟨rfl, hb2⟩
theorem rrem_yes (s : Sf) (v : Value) (y : Int) (w : World) (hS : ShR w w.heap.size v s) (hz : SzF s) (k : Nat) (n : Nt) (h : FdF s y k n) (i : Nat) (x : Int) (hx : n.sh[i]? = some x) :
    Calls Tryd.prog 33 #[v, .int .i64 y, .int .i64 (i : Int)] w fun e' w' => ∃ v', e' = .returned (.tuple #[v', .int .i64 x, .int .i64 0]) ∧ ShW w' w.heap.size v' (remS s y (i : Int)) ∧ Below w.heap.size w w' := by
  have hS0 := hS
  obtain ⟨Ab, cb, An, cn, rfl, hB, hN, hcb, hmb, hcn, hmn⟩ := hS.ex
  clear hS
  obtain ⟨HB, B1, B2, S1⟩ := pre2 hS0
  have HZ := Lib.hid hz
  have HF := Lib.hid h
  have HNN := Lib.hid h.nt
  have HKL : Hid (k < s.ts.length) := Lib.hid (List.getElem?_eq_some_iff.1 h.nt).1
  obtain ⟨L, hL⟩ : ∃ L, n.sh.length = L := ⟨_, rfl⟩
  obtain ⟨T, hTe⟩ : ∃ T, s.ts.length = T := ⟨_, rfl⟩
  have HLL := Lib.hid hL
  have HTT := Lib.hid hTe
  have i0 : (0 : Int) ≤ (k : Int) := by omega
  have i1 : (k : Int) < (T : Int) := by have := HKL.out; omega
  have hL8 : L ≤ 100000 := by rw [← hL]; exact (h.may.small n (List.mem_of_getElem? h.nt)).2
  have HRS : Hid (remS s y (i : Int) = { s with ts := s.ts.set k { n with sh := n.sh.eraseIdx i } }) := Lib.hid (remS_eq h)
  have hiL : i < L := by rw [← hL]; exact (List.getElem?_eq_some_iff.1 hx).1
  have HXX := Lib.hid hx
  have j0 : (0 : Int) ≤ (i : Int) := by omega
  have j1 : (i : Int) < (L : Int) := by omega
  have j3 : IntKind.i64.wrap ((i : Int) + 1) = (i : Int) + 1 := wrapS _ (by omega) (by omega)
  clear h hL hTe hx
  clear hS0 hB hN hcb hmb hcn hmn hz
  go_enter Tryd.func33, Tryd.ntmps33
  go_upto_region 4 with (go_at_call 13; ((with_reducible refine (rsheet_yes s _ y _ S1 HZ.out k n HF.out i x HXX.out).mono ?_); rintro e' w3 ⟨rfl, bx⟩; (try clear k0 k1 k2 k3 k4 r0 r1 r2 r3 r4 t0 t1 t2 t3 t4); obtain ⟨S1, B1, B2, HB, k0, k1, k2, k3, k4, r0, r1, r2, r3, r4, t0, t1, t2, t3, t4⟩ := keepR S1 B1 B2 HB bx; clear bx))
  have hW5 : w.heap.size + 2 ≤ w3.heap.size := by have := B2.lt; omega
  go_upto_region 5 with (go_at_call 35; ((with_reducible refine (rat_yes s _ y _ S1 HZ.out k n HF.out).mono ?_); rintro e' w9 ⟨v6, rfl, hQ, b6⟩; obtain ⟨Ab6, cb6, An6, cn6, rfl, hBk, hNt, q1, q2, q3, q4⟩ := ShA.parts hQ; have B1 := B1.below b6 B1.lt; have B2 := B2.below b6 B2.lt; have HB := btr HB HB.size b6; have hz6 := b6.size; (try clear k0 k1 k2 k3 k4 r0 r1 r2 r3 r4 t0 t1 t2 t3 t4); have k0 := B1.cell_ 0; have t0 := B1.free 0; have k1 := B1.cell_ 1; have t1 := B1.free 1; have k2 := B1.cell_ 2; have t2 := B1.free 2; have k3 := B1.cell_ 3; have t3 := B1.free 3; have k4 := B1.cell_ 4; have t4 := B1.free 4; simp at k0 k1 k2 k3 k4; clear b6 hQ S1))
  have B1u := B1.st5_ (.int .i64 s.nb) (.int .i64 s.nn) (.int .i64 s.ns) (.slice Ab6 s.bs.length cb6) (.slice An6 s.ts.length cn6)
  have hg6 := st5_grown w9 w.heap.size 0 (.int .i64 s.nb) (.int .i64 s.nn) (.int .i64 s.ns) (.slice Ab6 s.bs.length cb6) (.slice An6 s.ts.length cn6)
  have B2u := B2.grown hg6 (by omega)
  have hBk2 := hBk.far hg6 (by omega)
  have hNt2 := hNt.far hg6 (by omega)
  have hb2 := below_grown HB hg6 (Nat.le_refl _) HB.size
  have HSZ : Hid (w3.heap.size ≤ (st5 w9 w.heap.size 0 (.int .i64 s.nb) (.int .i64 s.nn) (.int .i64 s.ns) (.slice Ab6 s.bs.length cb6) (.slice An6 s.ts.length cn6)).heap.size) := Lib.hid (by have := hz6; have := hg6.size; omega)
  clear hg6
  obtain ⟨Wd, hWd⟩ : ∃ V : World, V = (st5 w9 w.heap.size 0 (.int .i64 s.nb) (.int .i64 s.nn) (.int .i64 s.ns) (.slice Ab6 s.bs.length cb6) (.slice An6 s.ts.length cn6)) := ⟨_, rfl⟩
  change Code.wp _ _ _ _ (st5 w9 w.heap.size 0 (.int .i64 s.nb) (.int .i64 s.nn) (.int .i64 s.ns) (.slice Ab6 s.bs.length cb6) (.slice An6 s.ts.length cn6))
  rw [← hWd] at B1u B2u hBk2 hNt2 hb2 HSZ ⊢
  clear hWd B1 B2 HB hBk hNt k0 k1 k2 k3 k4 t0 t1 t2 t3 t4 hz6
  have HW5 := Lib.hid hW5
  obtain ⟨es, hel, hon, hnt, hap⟩ := hNt2
  have hkT := (List.getElem?_eq_some_iff.1 HNN.out).1
  obtain ⟨e0, he⟩ : ∃ e, es[k]? = some e := ⟨_, List.getElem?_eq_getElem (by omega)⟩
  obtain ⟨vt, vs, rfl, q1, q2⟩ := hnt k n e0 HNN.out he
  obtain ⟨At9, ct9, rfl, ht1, ht2⟩ := own_shape q1
  obtain ⟨As9, cs9, rfl, hs1, hs2⟩ := own_shape q2
  obtain ⟨gn, hgn, hgn2⟩ : ∃ gn, An6 = some ⟨gn, 0, none⟩ ∧ w3.heap.size ≤ gn := by
    rcases hon.2 with ⟨h, h0⟩ | ⟨g, c, cu, h, hb, _⟩
    · omega
    · injection h with h1 h2 h3
      exact ⟨g, h1, hb⟩
  subst hgn
  have h5 := es_five hel hnt
  have hga : gn ≠ Wd.heap.size := by
    have := (hon.lt gn rfl).2
    omega
  have HE := Lib.hid he
  have HEL := Lib.hid hel
  have HON := Lib.hid hon
  rw [HLL.out] at he q2
  rw [HTT.out] at hon hel
  have k0 := B1u.cell_ 0
  have k1 := B1u.cell_ 1
  have k2 := B1u.cell_ 2
  have k3 := B1u.cell_ 3
  have k4 := B1u.cell_ 4
  simp at k0 k1 k2 k3 k4
  rw [HTT.out] at k4
  have x4 := own_cellE hon h5 he (j := 4) rfl
  obtain ⟨gs, hgs, hgs2⟩ : ∃ gs, As9 = some ⟨gs, 0, none⟩ ∧ w3.heap.size ≤ gs := by
    rcases q2.2 with ⟨h, h0⟩ | ⟨g, c, cu, h, hb, _⟩
    · omega
    · injection h with h1 h2 h3
      exact ⟨g, h1, hb⟩
  subst hgs
  have hiL1 : i + 1 ≤ L := hiL
  have hcL : L ≤ cs9 := by
    obtain ⟨A, c', he9, h1, h2⟩ := own_shape q2
    cases he9
    exact h1
  have j2 : ((i : Int) + 1).toNat = i + 1 := by omega
  have j4 : (i : Int) ≤ (cs9 : Int) := by omega
  have j5 : ¬ cs9 = 0 := by omega
  have j6 : (0 : Int) ≤ (i : Int) + 1 := by omega
  have j7 : (i : Int) + 1 ≤ (L : Int) := by omega
  have honc := drew_own (own_cut (i := i) q2 (by simp) (by omega))
  have honr := rd_tail1 (drew_own q2) hiL1
  have hone : ∀ u ∈ (n.sh.map (Value.int .i64)).drop (i + 1), u.oneCell' = true := fun u hu => by
    obtain ⟨x, _, rfl⟩ := List.mem_map.1 (List.mem_of_mem_drop hu)
    rfl
  have kd : Wd.drew.cell? ⟨w.heap.size, 4, none⟩ = some (.slice (some ⟨gn, 0, none⟩) T cn6) := drew_cell k4
  have xd : Wd.drew.cell? ⟨gn, k * 5 + 4, none⟩ = some (.slice (some ⟨gs, 0, none⟩) L cs9) := drew_cell x4
  have hqb : ∀ g, (Value.slice (some ⟨gs, 0, none⟩) L cs9).ownBlock = some g → w3.heap.size ≤ g := fun g hg => (q2.lt g hg).1
  clear k0 k1 k2 k3 k4 x4
  refine wp_region_noPanic ?_
  refine wp_region_held_drew (S := (fun w_ => w_.cell? ⟨w.heap.size, 4, none⟩ = some (.slice (some ⟨gn, 0, none⟩) T cn6))) (by kernel_rfl) ?_ (fun hHeld => ?_)
  · (first | with_reducible exact kd | with_reducible exact k4' | with_reducible exact kb)
  refine tk 0 ?_; try simp only [Act.put, pz1, pz2, pz3]
  refine tk 1 ?_; try simp only [Act.put, pz1, pz2, pz3]
  refine tk 2 ?_; try simp only [Act.put, pz1, pz2, pz3]
  refine tk 3 ?_; try simp only [Act.put, pz1, pz2, pz3]
  refine tk 4 ?_; try simp only [Act.put, pz1, pz2, pz3]
  refine tk 5 ?_; try simp only [Act.put, pz1, pz2, pz3]
  refine tk 6 ?_; try simp only [Act.put, pz1, pz2, pz3]
  refine tk 7 ?_; try simp only [Act.put, pz1, pz2, pz3]
  refine tk 9 ?_; try simp only [Act.put, pz1, pz2, pz3]
  refine tk 11 ?_; try simp only [Act.put, pz1, pz2, pz3]
  refine tk 12 ?_; try simp only [Act.put, pz1, pz2, pz3]
  refine tk 13 ?_; try simp only [Act.put, pz1, pz2, pz3]
  refine tk 14 ?_; try simp only [Act.put, pz1, pz2, pz3]
  refine tk 15 ?_; try simp only [Act.put, pz1, pz2, pz3]
  refine tk 17 ?_; try simp only [Act.put, pz1, pz2, pz3]
  refine tk 18 ?_; try simp only [Act.put, pz1, pz2, pz3]
  refine wpAnyH_ready (rs := [8, 16]) (by kernel_rfl) (by simp) ?_
  refine (AllReadyH.cons (o := ⟨some 39, .load 47 (.tmp 38), 47, "ref.go:111", #[⟨7, .data⟩], none⟩) rfl (fun K hK => ?_) (AllReadyH.cons (o := ⟨some 47, .load 47 (.tmp 46), 47, "ref.go:111", #[⟨15, .data⟩], none⟩) rfl (fun K hK => ?_) AllReadyH.nil))
  · go_simp
    refine hK.out _ _ ?_ (fun hNew => ?_)
    · (first | with_reducible exact kd | with_reducible exact k4' | with_reducible exact kb)
    clear hK K hHeld
    have hHeld := hNew
    clear hNew
    try simp only [Act.put, pz1, pz2, pz3]
    refine tk 10 ?_; try simp only [Act.put, pz1, pz2, pz3]
    refine wpAnyH_ready (rs := [16]) (by kernel_rfl) (by simp) ?_
    refine AllReadyH.cons (o := ⟨some 47, .load 47 (.tmp 46), 47, "ref.go:111", #[⟨15, .data⟩], none⟩) rfl (fun K hK => ?_) AllReadyH.nil
    go_simp
    refine hK.out _ _ ?_ (fun hNew => ?_)
    · (first | with_reducible exact kd | with_reducible exact k4' | with_reducible exact kb)
    clear hK K hHeld
    have hHeld := hNew
    clear hNew
    try simp only [Act.put, pz1, pz2, pz3]
    refine tk 19 ?_; try simp only [Act.put, pz1, pz2, pz3]
    refine wpAnyH_ready (rs := [20]) (by kernel_rfl) (by simp) ?_
    refine AllReadyH.cons (o := ⟨some 51, .call { callee := .builtin .append, args := #[.tmp 41, .tmp 50], argTypes := #[47, 47] }, 47, "ref.go:111", #[⟨10, .data⟩, ⟨19, .data⟩], none⟩) rfl (fun K hK => ?_) AllReadyH.nil
    obtain ⟨ti0, hi, hz0, hz1, hz2⟩ := info_parts info_clInt
    refine step_app _ rfl (.tmp 41) (.tmp 50) _ rfl w3.heap.size 3 ti0 _ 1 8 Tryd.underlying47 hi hz0 hz1 hz2 rfl (by decide) _ i ((n.sh.map (Value.int .i64)).take (i * 1)) rfl honc _ (L - (i + 1)) _ ((n.sh.map (Value.int .i64)).drop (i + 1)) rfl honr hone (by unfold maxLen; omega) (by omega) HSZ.out ?_
    intro v7 w7 ho' hg' hv'
    clear hi hz0 hz1 hz2 hv'
    generalize (if cs9 = i + 1 then some (⟨gs, 0, none⟩ : Addr) else some ⟨gs, i + 1, none⟩) = A22
    replace hg' : Wd.drew.grownBy w7 (Value.slice (some ⟨gs, 0, none⟩) L cs9).ownBlock := hg'
    obtain ⟨A7, c7, rfl, -, -⟩ := own_shape ho'
    have hof : ∀ j, j < w3.heap.size → (Value.slice (some ⟨gs, 0, none⟩) L cs9).ownBlock ≠ some j := fun j hj h => by have := hqb j h; omega
    have B1a := (drew_blk B1u).grownR hg' (hof _ (by have := HW5.out; omega))
    have B2a := (drew_blk B2u).grownR hg' (hof _ (by have := HW5.out; omega))
    have HBa := (drew_below hb2).trans (below_app (B := w.heap.size) (by have := HW5.out; omega) HSZ.out (drew_own q2) hg')
    have hon7 := (drew_own hon).kept hg' (own_apart (drew_own hon) (drew_own q2) (by decide))
    have k4' := B1a.cell_ 4
    simp at k4'
    rw [HTT.out] at k4'
    have x7 := own_cellE hon7 h5 he (j := 4) rfl
    have f7 := World.ownsRow.frozenAt hon7 (k * 5 + 4)
    have kb : (w7.setCell ⟨gn, k * 5 + 4, none⟩ (.slice A7 (i + (L - (i + 1))) c7)).cell? ⟨w.heap.size, 4, none⟩ = some (.slice (some ⟨gn, 0, none⟩) T cn6) := by
      have := (B1a.grown (set1_grown w7 gn (k * 5 + 4) (.slice A7 (i + (L - (i + 1))) c7)) (by have := HW5.out; omega)).cell_ 4
      simp at this
      rw [HTT.out] at this
      exact this
    refine hK.out _ _ ?_ (fun hNew => ?_)
    · (first | with_reducible exact kd | with_reducible exact k4' | with_reducible exact kb)
    clear hK K hHeld
    have hHeld := hNew
    clear hNew
    try simp only [Act.put, pz1, pz2, pz3]
    refine tk 21 ?_; try simp only [Act.put, pz1, pz2, pz3]
    refine tk 22 ?_; try simp only [Act.put, pz1, pz2, pz3]
    refine wpAnyH_ready (rs := [23]) (by kernel_rfl) (by simp) ?_
    refine AllReadyH.cons (o := ⟨none, .store 47 (.tmp 53) (.tmp 51), 0, "ref.go:111", #[⟨22, .data⟩, ⟨20, .data⟩, ⟨20, .chain⟩, ⟨0, .phase⟩, ⟨1, .phase⟩, ⟨2, .phase⟩, ⟨3, .phase⟩, ⟨4, .phase⟩, ⟨5, .phase⟩, ⟨6, .phase⟩, ⟨7, .phase⟩, ⟨8, .phase⟩, ⟨9, .phase⟩, ⟨10, .phase⟩, ⟨11, .phase⟩, ⟨12, .phase⟩, ⟨13, .phase⟩, ⟨14, .phase⟩, ⟨15, .phase⟩, ⟨16, .phase⟩, ⟨17, .phase⟩, ⟨18, .phase⟩, ⟨19, .phase⟩, ⟨20, .phase⟩], none⟩) rfl (fun K hK => ?_) AllReadyH.nil
    go_simp
    refine hK.out _ _ ?_ (fun hNew => ?_)
    · (first | with_reducible exact kd | with_reducible exact k4' | with_reducible exact kb)
    clear hK K hHeld
    have hHeld := hNew
    clear hNew
    try simp only [Act.put, pz1, pz2, pz3]
    refine wpAnyH_done (by kernel_rfl) ?_ _
    refine NoPanic.normal ?_
    replace ho' : w7.ownsRow w3.heap.size 3 1 (.slice A7 (i + (L - (i + 1))) c7) (i + (L - (i + 1))) ((n.sh.eraseIdx i).map (Value.int .i64)) := by
      have h := ho'
      rw [Nat.mul_one, ← List.map_take, ← List.map_drop, ← List.map_append, ← List.eraseIdx_eq_take_drop_succ] at h
      exact h
    have hb0 : Below Wd.heap.size Wd Wd.drew := below_dr Wd
    have hl9 : (n.sh.eraseIdx i).length = i + (L - (i + 1)) := by have := HLL.out; rw [List.length_eraseIdx, if_pos (by omega), this]; omega
    obtain ⟨hNw, hgw⟩ := nt_sheets (xs := n.sh.eraseIdx i) HEL.out (drew_own HON.out) (fun k n e a b => (hnt k n e a b).below hb0) hap HNN.out HE.out (by rw [HLL.out]; exact hg') (by rw [hl9]; exact ho')
    have B1w := B1a.grown hgw (by have := HW5.out; omega)
    have B2w := B2a.grown hgw (by have := HW5.out; omega)
    have hB7 : BksW w7 w3.heap.size (.slice Ab6 s.bs.length cb6) s.bs := World.ownsRow.kept (own_belowW hBk2 hb0) hg' (own_apart (own_belowW hBk2 hb0) (drew_own q2) (by decide))
    have hBw := BksW.apartN hB7 hon7 hgw
    have hbw := below_grown HBa hgw (by have := HW5.out; omega) HBa.size
    obtain ⟨Wx, hWx⟩ : ∃ V : World, V = w7.setCell ⟨gn, k * 5 + 4, none⟩ (.slice A7 (i + (L - (i + 1))) c7) := ⟨_, rfl⟩
    rw [← hWx] at hNw B1w B2w hBw hbw ⊢
    clear hWx hgw hB7 hb0 hl9 B1a B2a HBa ho' hg' hon7 k4' x7 f7 kb hof
    have k0 := B1w.cell_ 0
    have r0 := B2w.cell_ 0
    have t0 := B2w.free 0
    have k1 := B1w.cell_ 1
    have r1 := B2w.cell_ 1
    have t1 := B2w.free 1
    have k2 := B1w.cell_ 2
    have r2 := B2w.cell_ 2
    have t2 := B2w.free 2
    have k3 := B1w.cell_ 3
    have r3 := B2w.cell_ 3
    have t3 := B2w.free 3
    have k4 := B1w.cell_ 4
    have r4 := B2w.cell_ 4
    have t4 := B2w.free 4
    simp at k0 k1 k2 k3 k4 r0 r1 r2 r3 r4
    go_wp2_with fail
    have B2e := B2w.st5_ (.int .i64 s.nb) (.int .i64 s.nn) (.int .i64 s.ns) (.slice Ab6 s.bs.length cb6) (.slice (some ⟨gn, 0, none⟩) s.ts.length cn6)
    have hgE := st5_grown Wx (w.heap.size + 1) 0 (.int .i64 s.nb) (.int .i64 s.nn) (.int .i64 s.ns) (.slice Ab6 s.bs.length cb6) (.slice (some ⟨gn, 0, none⟩) s.ts.length cn6)
    have hBe := hBw.far hgE (by have := HW5.out; omega)
    have hNe := hNw.far hgE (by have := HW5.out; omega)
    have hbe := below_grown hbw hgE (by omega) hbw.size
    change bodyPost _ _ _ _ _ (st5 Wx (w.heap.size + 1) 0 (.int .i64 s.nb) (.int .i64 s.nn) (.int .i64 s.ns) (.slice Ab6 s.bs.length cb6) (.slice (some ⟨gn, 0, none⟩) s.ts.length cn6))
    clear hgE
    generalize st5 Wx (w.heap.size + 1) 0 (.int .i64 s.nb) (.int .i64 s.nn) (.int .i64 s.ns) (.slice Ab6 s.bs.length cb6) (.slice (some ⟨gn, 0, none⟩) s.ts.length cn6) = WF at B2e hBe hNe hbe ⊢
    apply bodyPost_ret (v := .tuple #[.agg #[.int .i64 s.nb, .int .i64 s.nn, .int .i64 s.ns, .slice Ab6 s.bs.length cb6, .slice (some ⟨gn, 0, none⟩) s.ts.length cn6], .int .i64 x, .int .i64 0])
    · exact results_cell2 Tryd.results33 _ WF (w.heap.size + 1) 25 _ (0, 0) _ rfl B2e Tryd.underlying25 rfl (by kernel_rfl)
    · rfl
    · refine ⟨_, rfl, ?_, hbe⟩
      rw [HRS.out]
      exact ShW.base_ (ShW.make (s := { s with ts := s.ts.set k { n with sh := n.sh.eraseIdx i } }) (w := WF) (base := w3.heap.size) (vb := .slice Ab6 s.bs.length cb6) (vn := .slice (some ⟨gn, 0, none⟩) s.ts.length cn6) hBe hNe) (by have := HW5.out; omega)
  · go_simp
    refine hK.out _ _ ?_ (fun hNew => ?_)
    · (first | with_reducible exact kd | with_reducible exact k4' | with_reducible exact kb)
    clear hK K hHeld
    have hHeld := hNew
    clear hNew
    try simp only [Act.put, pz1, pz2, pz3]
    refine tk 19 ?_; try simp only [Act.put, pz1, pz2, pz3]
    refine wpAnyH_ready (rs := [8]) (by kernel_rfl) (by simp) ?_
    refine AllReadyH.cons (o := ⟨some 39, .load 47 (.tmp 38), 47, "ref.go:111", #[⟨7, .data⟩], none⟩) rfl (fun K hK => ?_) AllReadyH.nil
    go_simp
    refine hK.out _ _ ?_ (fun hNew => ?_)
    · (first | with_reducible exact kd | with_reducible exact k4' | with_reducible exact kb)
    clear hK K hHeld
    have hHeld := hNew
    clear hNew
    try simp only [Act.put, pz1, pz2, pz3]
    refine tk 10 ?_; try simp only [Act.put, pz1, pz2, pz3]
    refine wpAnyH_ready (rs := [20]) (by kernel_rfl) (by simp) ?_
    refine AllReadyH.cons (o := ⟨some 51, .call { callee := .builtin .append, args := #[.tmp 41, .tmp 50], argTypes := #[47, 47] }, 47, "ref.go:111", #[⟨10, .data⟩, ⟨19, .data⟩], none⟩) rfl (fun K hK => ?_) AllReadyH.nil
    obtain ⟨ti0, hi, hz0, hz1, hz2⟩ := info_parts info_clInt
    refine step_app _ rfl (.tmp 41) (.tmp 50) _ rfl w3.heap.size 3 ti0 _ 1 8 Tryd.underlying47 hi hz0 hz1 hz2 rfl (by decide) _ i ((n.sh.map (Value.int .i64)).take (i * 1)) rfl honc _ (L - (i + 1)) _ ((n.sh.map (Value.int .i64)).drop (i + 1)) rfl honr hone (by unfold maxLen; omega) (by omega) HSZ.out ?_
    intro v7 w7 ho' hg' hv'
    clear hi hz0 hz1 hz2 hv'
    generalize (if cs9 = i + 1 then some (⟨gs, 0, none⟩ : Addr) else some ⟨gs, i + 1, none⟩) = A22
    replace hg' : Wd.drew.grownBy w7 (Value.slice (some ⟨gs, 0, none⟩) L cs9).ownBlock := hg'
    obtain ⟨A7, c7, rfl, -, -⟩ := own_shape ho'
    have hof : ∀ j, j < w3.heap.size → (Value.slice (some ⟨gs, 0, none⟩) L cs9).ownBlock ≠ some j := fun j hj h => by have := hqb j h; omega
    have B1a := (drew_blk B1u).grownR hg' (hof _ (by have := HW5.out; omega))
    have B2a := (drew_blk B2u).grownR hg' (hof _ (by have := HW5.out; omega))
    have HBa := (drew_below hb2).trans (below_app (B := w.heap.size) (by have := HW5.out; omega) HSZ.out (drew_own q2) hg')
    have hon7 := (drew_own hon).kept hg' (own_apart (drew_own hon) (drew_own q2) (by decide))
    have k4' := B1a.cell_ 4
    simp at k4'
    rw [HTT.out] at k4'
    have x7 := own_cellE hon7 h5 he (j := 4) rfl
    have f7 := World.ownsRow.frozenAt hon7 (k * 5 + 4)
    have kb : (w7.setCell ⟨gn, k * 5 + 4, none⟩ (.slice A7 (i + (L - (i + 1))) c7)).cell? ⟨w.heap.size, 4, none⟩ = some (.slice (some ⟨gn, 0, none⟩) T cn6) := by
      have := (B1a.grown (set1_grown w7 gn (k * 5 + 4) (.slice A7 (i + (L - (i + 1))) c7)) (by have := HW5.out; omega)).cell_ 4
      simp at this
      rw [HTT.out] at this
      exact this
    refine hK.out _ _ ?_ (fun hNew => ?_)
    · (first | with_reducible exact kd | with_reducible exact k4' | with_reducible exact kb)
    clear hK K hHeld
    have hHeld := hNew
    clear hNew
    try simp only [Act.put, pz1, pz2, pz3]
    refine tk 21 ?_; try simp only [Act.put, pz1, pz2, pz3]
    refine tk 22 ?_; try simp only [Act.put, pz1, pz2, pz3]
    refine wpAnyH_ready (rs := [23]) (by kernel_rfl) (by simp) ?_
    refine AllReadyH.cons (o := ⟨none, .store 47 (.tmp 53) (.tmp 51), 0, "ref.go:111", #[⟨22, .data⟩, ⟨20, .data⟩, ⟨20, .chain⟩, ⟨0, .phase⟩, ⟨1, .phase⟩, ⟨2, .phase⟩, ⟨3, .phase⟩, ⟨4, .phase⟩, ⟨5, .phase⟩, ⟨6, .phase⟩, ⟨7, .phase⟩, ⟨8, .phase⟩, ⟨9, .phase⟩, ⟨10, .phase⟩, ⟨11, .phase⟩, ⟨12, .phase⟩, ⟨13, .phase⟩, ⟨14, .phase⟩, ⟨15, .phase⟩, ⟨16, .phase⟩, ⟨17, .phase⟩, ⟨18, .phase⟩, ⟨19, .phase⟩, ⟨20, .phase⟩], none⟩) rfl (fun K hK => ?_) AllReadyH.nil
    go_simp
    refine hK.out _ _ ?_ (fun hNew => ?_)
    · (first | with_reducible exact kd | with_reducible exact k4' | with_reducible exact kb)
    clear hK K hHeld
    have hHeld := hNew
    clear hNew
    try simp only [Act.put, pz1, pz2, pz3]
    refine wpAnyH_done (by kernel_rfl) ?_ _
    refine NoPanic.normal ?_
    replace ho' : w7.ownsRow w3.heap.size 3 1 (.slice A7 (i + (L - (i + 1))) c7) (i + (L - (i + 1))) ((n.sh.eraseIdx i).map (Value.int .i64)) := by
      have h := ho'
      rw [Nat.mul_one, ← List.map_take, ← List.map_drop, ← List.map_append, ← List.eraseIdx_eq_take_drop_succ] at h
      exact h
    have hb0 : Below Wd.heap.size Wd Wd.drew := below_dr Wd
    have hl9 : (n.sh.eraseIdx i).length = i + (L - (i + 1)) := by have := HLL.out; rw [List.length_eraseIdx, if_pos (by omega), this]; omega
    obtain ⟨hNw, hgw⟩ := nt_sheets (xs := n.sh.eraseIdx i) HEL.out (drew_own HON.out) (fun k n e a b => (hnt k n e a b).below hb0) hap HNN.out HE.out (by rw [HLL.out]; exact hg') (by rw [hl9]; exact ho')
    have B1w := B1a.grown hgw (by have := HW5.out; omega)
    have B2w := B2a.grown hgw (by have := HW5.out; omega)
    have hB7 : BksW w7 w3.heap.size (.slice Ab6 s.bs.length cb6) s.bs := World.ownsRow.kept (own_belowW hBk2 hb0) hg' (own_apart (own_belowW hBk2 hb0) (drew_own q2) (by decide))
    have hBw := BksW.apartN hB7 hon7 hgw
    have hbw := below_grown HBa hgw (by have := HW5.out; omega) HBa.size
    obtain ⟨Wx, hWx⟩ : ∃ V : World, V = w7.setCell ⟨gn, k * 5 + 4, none⟩ (.slice A7 (i + (L - (i + 1))) c7) := ⟨_, rfl⟩
    rw [← hWx] at hNw B1w B2w hBw hbw ⊢
    clear hWx hgw hB7 hb0 hl9 B1a B2a HBa ho' hg' hon7 k4' x7 f7 kb hof
    have k0 := B1w.cell_ 0
    have r0 := B2w.cell_ 0
    have t0 := B2w.free 0
    have k1 := B1w.cell_ 1
    have r1 := B2w.cell_ 1
    have t1 := B2w.free 1
    have k2 := B1w.cell_ 2
    have r2 := B2w.cell_ 2
    have t2 := B2w.free 2
    have k3 := B1w.cell_ 3
    have r3 := B2w.cell_ 3
    have t3 := B2w.free 3
    have k4 := B1w.cell_ 4
    have r4 := B2w.cell_ 4
    have t4 := B2w.free 4
    simp at k0 k1 k2 k3 k4 r0 r1 r2 r3 r4
    go_wp2_with fail
    have B2e := B2w.st5_ (.int .i64 s.nb) (.int .i64 s.nn) (.int .i64 s.ns) (.slice Ab6 s.bs.length cb6) (.slice (some ⟨gn, 0, none⟩) s.ts.length cn6)
    have hgE := st5_grown Wx (w.heap.size + 1) 0 (.int .i64 s.nb) (.int .i64 s.nn) (.int .i64 s.ns) (.slice Ab6 s.bs.length cb6) (.slice (some ⟨gn, 0, none⟩) s.ts.length cn6)
    have hBe := hBw.far hgE (by have := HW5.out; omega)
    have hNe := hNw.far hgE (by have := HW5.out; omega)
    have hbe := below_grown hbw hgE (by omega) hbw.size
    change bodyPost _ _ _ _ _ (st5 Wx (w.heap.size + 1) 0 (.int .i64 s.nb) (.int .i64 s.nn) (.int .i64 s.ns) (.slice Ab6 s.bs.length cb6) (.slice (some ⟨gn, 0, none⟩) s.ts.length cn6))
    clear hgE
    generalize st5 Wx (w.heap.size + 1) 0 (.int .i64 s.nb) (.int .i64 s.nn) (.int .i64 s.ns) (.slice Ab6 s.bs.length cb6) (.slice (some ⟨gn, 0, none⟩) s.ts.length cn6) = WF at B2e hBe hNe hbe ⊢
    apply bodyPost_ret (v := .tuple #[.agg #[.int .i64 s.nb, .int .i64 s.nn, .int .i64 s.ns, .slice Ab6 s.bs.length cb6, .slice (some ⟨gn, 0, none⟩) s.ts.length cn6], .int .i64 x, .int .i64 0])
    · exact results_cell2 Tryd.results33 _ WF (w.heap.size + 1) 25 _ (0, 0) _ rfl B2e Tryd.underlying25 rfl (by kernel_rfl)
    · rfl
    · refine ⟨_, rfl, ?_, hbe⟩
      rw [HRS.out]
      exact ShW.base_ (ShW.make (s := { s with ts := s.ts.set k { n with sh := n.sh.eraseIdx i } }) (w := WF) (base := w3.heap.size) (vb := .slice Ab6 s.bs.length cb6) (vn := .slice (some ⟨gn, 0, none⟩) s.ts.length cn6) hBe hNe) (by have := HW5.out; omega)
end Go.Proofs.YtkaoechjekffmaaDoor
