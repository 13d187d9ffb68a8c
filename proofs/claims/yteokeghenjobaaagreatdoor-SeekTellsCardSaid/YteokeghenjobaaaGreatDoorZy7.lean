/- Chapter 17's own: may the shelf be? -/
import Derived.Test.YteokeghenjobaaaGreatDoorZy6
import Derived.Test.YteokeghenjobaaaGreatDoorZy5
import Derived.Test.YteokeghenjobaaaGreatDoorZy4
set_option linter.unusedSimpArgs false
set_option linter.unusedVariables false
set_option maxRecDepth 100000
set_option maxHeartbeats 16000000
namespace Go.Proofs.YteokeghenjobaaaGreatDoor
open Go.ChangeShapes Go.WideShapes Go.ChangeAt Go.RowKit
attribute [local go_sem ↓] Go.wp_at_zero Go.wp_at_succ
structure SzF (s : Sf) : Prop where
  hb : ∀ b ∈ s.bs, b.nm.size ≤ 100000
  hn : ∀ b ∈ s.ts, b.nm.size ≤ 100000 ∧ ((∀ t ∈ b.tg, t.size ≤ 100000) ∧ b.tg.length ≤ 100000) ∧ b.sh.length ≤ 100000
  bl : s.bs.length ≤ 100000
  tl : s.ts.length ≤ 100000
  fl : (s.ts.flatMap Nt.sh).length ≤ 100000
def rMayB (s : Sf) : Bool := rbkB s && (rntB s && rshB s)
theorem rMay_any (s : Sf) (v : Value) (w : World) (hS : ShR w w.heap.size v s) (hz : SzF s) (T : Bool) (hT0 : rMayB s = T) :
    Calls Tryz.prog 45 #[v] w fun e' w' => e' = .returned (.bool T) ∧ Below w.heap.size w w' := by
  have hS0 := hS
  obtain ⟨Ab, cb, An, cn, rfl, hB, hN, hcb, hmb, hcn, hmn⟩ := hS.ex
  clear hS
  have HB : Below w.heap.size w (w.alloc (.cells #[.int .i64 s.nb, .int .i64 s.nn, .int .i64 s.ns, .slice Ab s.bs.length cb, .slice An s.ts.length cn] 25)) := ((Below.refl w.heap.size w).alloc (by first | (simp; done) | (simp; omega)) _)
  have B1 : Blk (w.alloc (.cells #[.int .i64 s.nb, .int .i64 s.nn, .int .i64 s.ns, .slice Ab s.bs.length cb, .slice An s.ts.length cn] 25)) w.heap.size 25 #[.int .i64 s.nb, .int .i64 s.nn, .int .i64 s.ns, .slice Ab s.bs.length cb, .slice An s.ts.length cn] := Blk.new_ w 25 #[.int .i64 s.nb, .int .i64 s.nn, .int .i64 s.ns, .slice Ab s.bs.length cb, .slice An s.ts.length cn]
  have S1 : ShR (w.alloc (.cells #[.int .i64 s.nb, .int .i64 s.nn, .int .i64 s.ns, .slice Ab s.bs.length cb, .slice An s.ts.length cn] 25)) ((w.alloc (.cells #[.int .i64 s.nb, .int .i64 s.nn, .int .i64 s.ns, .slice Ab s.bs.length cb, .slice An s.ts.length cn] 25))).heap.size (.agg #[.int .i64 s.nb, .int .i64 s.nn, .int .i64 s.ns, .slice Ab s.bs.length cb, .slice An s.ts.length cn]) s := hS0.next HB
  have HZ := Lib.hid hz
  obtain ⟨R1, h1⟩ : ∃ R, rbkB s = R := ⟨_, rfl⟩
  obtain ⟨R2, h2⟩ : ∃ R, rntB s = R := ⟨_, rfl⟩
  obtain ⟨R3, h3⟩ : ∃ R, rshB s = R := ⟨_, rfl⟩
  unfold rMayB at hT0
  rw [h1, h2, h3] at hT0
  have H0 := Lib.hid hT0
  have H1 := Lib.hid h1
  have H2 := Lib.hid h2
  have H3 := Lib.hid h3
  clear hT0 h1 h2 h3 hS0 hB hN hcb hmb hcn hmn hz
  cases R1
  · skip
    go_enter Tryz.func45, Tryz.ntmps45
    go_wp2_with (first | (go_at_call 79; ((with_reducible refine (rbooks_any s _ _ S1 HZ.out.hb HZ.out.bl _ H1.out).mono ?_); rintro e' w4 ⟨rfl, b4⟩; have S1 := S1.next b4; have B1 := B1.below b4 B1.lt; have HB := btr HB HB.size b4; (try clear k0 k1 k2 k3 k4); have k0 := B1.cell_ 0; have k1 := B1.cell_ 1; have k2 := B1.cell_ 2; have k3 := B1.cell_ 3; have k4 := B1.cell_ 4; simp at k0 k1 k2 k3 k4; clear b4)))
    go_ret
    exact ⟨by rw [← H0.out]; rfl, HB⟩
  · cases R2
    · skip
      go_enter Tryz.func45, Tryz.ntmps45
      go_wp2_with (first | (go_at_call 79; ((with_reducible refine (rbooks_any s _ _ S1 HZ.out.hb HZ.out.bl _ H1.out).mono ?_); rintro e' w4 ⟨rfl, b4⟩; have S1 := S1.next b4; have B1 := B1.below b4 B1.lt; have HB := btr HB HB.size b4; (try clear k0 k1 k2 k3 k4); have k0 := B1.cell_ 0; have k1 := B1.cell_ 1; have k2 := B1.cell_ 2; have k3 := B1.cell_ 3; have k4 := B1.cell_ 4; simp at k0 k1 k2 k3 k4; clear b4)) | (go_at_call 80; ((with_reducible refine (rnotes_any s _ _ S1 HZ.out.hn ⟨HZ.out.bl, HZ.out.tl⟩ _ H2.out).mono ?_); rintro e' w5 ⟨rfl, b5⟩; have S1 := S1.next b5; have B1 := B1.below b5 B1.lt; have HB := btr HB HB.size b5; (try clear k0 k1 k2 k3 k4); have k0 := B1.cell_ 0; have k1 := B1.cell_ 1; have k2 := B1.cell_ 2; have k3 := B1.cell_ 3; have k4 := B1.cell_ 4; simp at k0 k1 k2 k3 k4; clear b5)))
      go_ret
      exact ⟨by rw [← H0.out]; rfl, HB⟩
    · cases R3
      · skip
        go_enter Tryz.func45, Tryz.ntmps45
        go_wp2_with (first | (go_at_call 79; ((with_reducible refine (rbooks_any s _ _ S1 HZ.out.hb HZ.out.bl _ H1.out).mono ?_); rintro e' w4 ⟨rfl, b4⟩; have S1 := S1.next b4; have B1 := B1.below b4 B1.lt; have HB := btr HB HB.size b4; (try clear k0 k1 k2 k3 k4); have k0 := B1.cell_ 0; have k1 := B1.cell_ 1; have k2 := B1.cell_ 2; have k3 := B1.cell_ 3; have k4 := B1.cell_ 4; simp at k0 k1 k2 k3 k4; clear b4)) | (go_at_call 80; ((with_reducible refine (rnotes_any s _ _ S1 HZ.out.hn ⟨HZ.out.bl, HZ.out.tl⟩ _ H2.out).mono ?_); rintro e' w5 ⟨rfl, b5⟩; have S1 := S1.next b5; have B1 := B1.below b5 B1.lt; have HB := btr HB HB.size b5; (try clear k0 k1 k2 k3 k4); have k0 := B1.cell_ 0; have k1 := B1.cell_ 1; have k2 := B1.cell_ 2; have k3 := B1.cell_ 3; have k4 := B1.cell_ 4; simp at k0 k1 k2 k3 k4; clear b5)) | (go_at_call 81; ((with_reducible refine (rsheets_any s _ _ S1 HZ.out.tl HZ.out.fl _ H3.out).mono ?_); rintro e' w6 ⟨rfl, b6⟩; have S1 := S1.next b6; have B1 := B1.below b6 B1.lt; have HB := btr HB HB.size b6; (try clear k0 k1 k2 k3 k4); have k0 := B1.cell_ 0; have k1 := B1.cell_ 1; have k2 := B1.cell_ 2; have k3 := B1.cell_ 3; have k4 := B1.cell_ 4; simp at k0 k1 k2 k3 k4; clear b6)))
        go_ret
        exact ⟨by rw [← H0.out]; rfl, HB⟩
      · skip
        go_enter Tryz.func45, Tryz.ntmps45
        go_wp2_with (first | (go_at_call 79; ((with_reducible refine (rbooks_any s _ _ S1 HZ.out.hb HZ.out.bl _ H1.out).mono ?_); rintro e' w4 ⟨rfl, b4⟩; have S1 := S1.next b4; have B1 := B1.below b4 B1.lt; have HB := btr HB HB.size b4; (try clear k0 k1 k2 k3 k4); have k0 := B1.cell_ 0; have k1 := B1.cell_ 1; have k2 := B1.cell_ 2; have k3 := B1.cell_ 3; have k4 := B1.cell_ 4; simp at k0 k1 k2 k3 k4; clear b4)) | (go_at_call 80; ((with_reducible refine (rnotes_any s _ _ S1 HZ.out.hn ⟨HZ.out.bl, HZ.out.tl⟩ _ H2.out).mono ?_); rintro e' w5 ⟨rfl, b5⟩; have S1 := S1.next b5; have B1 := B1.below b5 B1.lt; have HB := btr HB HB.size b5; (try clear k0 k1 k2 k3 k4); have k0 := B1.cell_ 0; have k1 := B1.cell_ 1; have k2 := B1.cell_ 2; have k3 := B1.cell_ 3; have k4 := B1.cell_ 4; simp at k0 k1 k2 k3 k4; clear b5)) | (go_at_call 81; ((with_reducible refine (rsheets_any s _ _ S1 HZ.out.tl HZ.out.fl _ H3.out).mono ?_); rintro e' w6 ⟨rfl, b6⟩; have S1 := S1.next b6; have B1 := B1.below b6 B1.lt; have HB := btr HB HB.size b6; (try clear k0 k1 k2 k3 k4); have k0 := B1.cell_ 0; have k1 := B1.cell_ 1; have k2 := B1.cell_ 2; have k3 := B1.cell_ 3; have k4 := B1.cell_ 4; simp at k0 k1 k2 k3 k4; clear b6)))
        go_ret
        exact ⟨by rw [← H0.out]; rfl, HB⟩
end Go.Proofs.YteokeghenjobaaaGreatDoor
namespace Go.Proofs.YteokeghenjobaaaGreatDoor
open Go.ChangeShapes Go.WideShapes Go.ChangeAt Go.RowKit
attribute [local go_sem ↓] Go.wp_at_zero Go.wp_at_succ
def clash (a b : Nt) : Bool := sameS a.nm b.nm && a.bk == b.bk
theorem clash_comm {a b : Nt} : clash a b = clash b a := by
  unfold clash
  rw [sameS_comm, Bool.eq_iff_iff, Bool.and_eq_true, Bool.and_eq_true, beq_iff_eq, beq_iff_eq]
  exact and_congr Iff.rfl eq_comm
theorem ntOk_iff {s : Sf} : ∀ (l pre : List Nt), ntOk s pre l = true ↔ (∀ b ∈ l, 1 ≤ b.id ∧ b.id < s.nn ∧ mayN b.nm = true ∧ 0 ≤ bookAt s b.bk ∧ mayTg b.tg = true ∧ b.sh.length ≤ 8) ∧ (∀ a, pre.getLast? = some a → ∀ b ∈ l, a.id < b.id) ∧ (l.Pairwise fun a b => a.id < b.id) ∧ (l.Pairwise fun a b => clash a b = false) ∧ ∀ a ∈ pre, ∀ b ∈ l, clash a b = false
  | [], pre => by simp [ntOk]
  | x :: l, pre => by
    have ih := ntOk_iff (s := s) l (pre ++ [x])
    have hp : prevNk pre x = true ↔ ∀ a, pre.getLast? = some a → a.id < x.id := by
      unfold prevNk
      cases pre.getLast? with
      | none => simp
      | some p => simp
    show (decide (1 ≤ x.id) && (decide (x.id < s.nn) && (prevNk pre x && (mayN x.nm && (decide (0 ≤ bookAt s x.bk) && (mayTg x.tg && (decide (x.sh.length ≤ 8) && (!pre.any (fun c => clash c x) && ntOk s (pre ++ [x]) l)))))))) = true ↔ _
    rw [Bool.and_eq_true, Bool.and_eq_true, Bool.and_eq_true, Bool.and_eq_true, Bool.and_eq_true, Bool.and_eq_true, Bool.and_eq_true, Bool.and_eq_true, ih, hp, decide_eq_true_eq, decide_eq_true_eq, decide_eq_true_eq, decide_eq_true_eq, Bool.not_eq_true', List.any_eq_false, List.pairwise_cons, List.pairwise_cons]
    constructor
    · rintro ⟨h1, h2, h3, h4, g1, g2, g3, h5, h6, h7, h8, h9, h10⟩
      have hx : ∀ b ∈ l, x.id < b.id := fun b hb => h7 x (by simp) b hb
      refine ⟨fun b hb => ?_, fun a ha b hb => ?_, ⟨hx, h8⟩, ⟨fun b hb => h10 x (by simp) b hb, h9⟩, fun a ha b hb => ?_⟩
      · rcases List.mem_cons.1 hb with rfl | hb
        · exact ⟨h1, h2, h4, g1, g2, g3⟩
        · exact h6 b hb
      · have := h3 a ha
        rcases List.mem_cons.1 hb with rfl | hb
        · exact this
        · have := hx b hb
          omega
      · rcases List.mem_cons.1 hb with rfl | hb
        · simpa using h5 a ha
        · exact h10 a (by simp [ha]) b hb
    · rintro ⟨h1, h2, ⟨h3, h4⟩, ⟨h5, h6⟩, h7⟩
      obtain ⟨k1, k2, k3, k4, k5, k6⟩ := h1 x (by simp)
      refine ⟨k1, k2, fun a ha => h2 a ha x (by simp), k3, k4, k5, k6, fun a ha => by simp [h7 a ha x (by simp)], fun b hb => h1 b (by simp [hb]), fun a ha b hb => ?_, h4, h6, fun a ha b hb => ?_⟩
      · have : x = a := by simpa using ha
        subst this
        exact h3 b hb
      · rcases List.mem_append.1 ha with ha | ha
        · exact h7 a ha b (by simp [hb])
        · have : a = x := by simpa using ha
          subst this
          exact h5 b hb
theorem npair_at {l : List Nt} {R : Nt → Nt → Prop} (h : l.Pairwise R) {a b : Nt} (ha : a ∈ l) (hb : b ∈ l) (hne : a ≠ b) : R a b ∨ R b a := by
  obtain ⟨i, hi, rfl⟩ := List.mem_iff_getElem.1 ha
  obtain ⟨j, hj, rfl⟩ := List.mem_iff_getElem.1 hb
  have := List.pairwise_iff_getElem.1 h
  rcases Nat.lt_trichotomy i j with hij | rfl | hij
  · exact Or.inl (this i j hi hj hij)
  · exact absurd rfl hne
  · exact Or.inr (this j i hj hi hij)
theorem rtkN_iff {s : Sf} {z : Int} {x : ByteArray} {y : Int} : noteTk s z x y = false ↔ ∀ b ∈ s.ts, b.bk = z → b.nm.toList = x.toList → b.id = y := by
  unfold noteTk
  rw [List.any_eq_false]
  constructor
  · intro h b hb h1 h2
    have := h b hb
    simpa [sameS, h1, h2] using this
  · intro h b hb
    have := h b hb
    intro hh
    simp only [sameS, Bool.and_eq_true, beq_iff_eq, bne_iff_ne, ne_eq] at hh
    exact hh.2.2 (this hh.1 hh.2.1)
theorem rnt_iff (s : Sf) : rntB s = true ↔ (1 ≤ s.nn ∧ s.nn ≤ 65536) ∧ s.ts.length ≤ 12 ∧ notesFrom s 0 s.ts = true ∧ ∀ n ∈ s.ts, n.sh.length ≤ 8 := by
  unfold rntB inI
  rw [Bool.and_eq_true, Bool.and_eq_true, Bool.and_eq_true, ntOk_iff, decide_eq_true_eq, decide_eq_true_eq, decide_eq_true_eq]
  constructor
  · rintro ⟨h1, h2, h3, -, h4, h5, -⟩
    refine ⟨h2, h1, notes_conv s.ts 0 (fun b hb => ?_) h4, fun n hn => (h3 n hn).2.2.2.2.2⟩
    obtain ⟨k1, k2, k3, k4, k5, k6⟩ := h3 b hb
    refine ⟨by omega, by omega, ?_⟩
    unfold mayNt
    rw [k3, decide_eq_true k4, k5, rtkN_iff.2 fun c hc he hm => ?_]
    · rfl
    · by_cases hcb : c = b
      · rw [hcb]
      · have hs : clash c b = true := by simp [clash, sameS, he, hm]
        rcases npair_at h5 hc hb hcb with h | h
        · rw [hs] at h
          cases h
        · rw [clash_comm, hs] at h
          cases h
  · rintro ⟨h1, h2, h3, h4⟩
    obtain ⟨q1, q2⟩ := notes_all s.ts 0 h3
    have q3 : ∀ b ∈ s.ts, mayN b.nm = true ∧ 0 ≤ bookAt s b.bk ∧ noteTk s b.bk b.nm b.id = false ∧ mayTg b.tg = true := fun b hb => by
      have := (q1 b hb).2.2
      unfold mayNt at this
      simpa only [Bool.and_eq_true, decide_eq_true_eq, Bool.not_eq_true'] using this
    refine ⟨h2, h1, fun b hb => ⟨by have := q1 b hb; omega, by have := q1 b hb; omega, (q3 b hb).1, (q3 b hb).2.1, (q3 b hb).2.2.2, h4 b hb⟩, fun a ha => by simp at ha, q2, ?_, fun a ha => by simp at ha⟩
    refine q2.imp_of_mem fun {a b} ha hb hlt => ?_
    cases hs : clash a b
    · rfl
    · have hs2 : a.nm.toList = b.nm.toList ∧ a.bk = b.bk := by simpa [clash, sameS] using hs
      have := rtkN_iff.1 (q3 b hb).2.2.1 a ha hs2.2 hs2.1
      omega
theorem rMay_eq (s : Sf) : rMayB s = mayS s := by
  unfold rMayB mayS
  rw [rbk_eq]
  unfold rshB
  rw [Bool.eq_iff_iff]
  simp only [Bool.and_eq_true]
  rw [rnt_iff, sh_iff, shIn_iff]
  unfold inI
  simp only [Bool.and_eq_true, decide_eq_true_eq]
  constructor
  · rintro ⟨⟨h1, h2, h3⟩, ⟨h4, h5, h6, h7⟩, h8, h9, h10⟩
    exact ⟨h1, h4, h8, ⟨h2, h3⟩, ⟨h5, h6⟩, h7, h9, h10⟩
  · rintro ⟨h1, h4, h8, ⟨h2, h3⟩, ⟨h5, h6⟩, h7, h9, h10⟩
    exact ⟨⟨h1, h2, h3⟩, ⟨h4, h5, h6, h7⟩, h8, h9, h10⟩
end Go.Proofs.YteokeghenjobaaaGreatDoor
namespace Go.Proofs.YteokeghenjobaaaGreatDoor
open Go.ChangeShapes Go.WideShapes Go.ChangeAt Go.RowKit
attribute [local go_sem ↓] Go.wp_at_zero Go.wp_at_succ
attribute [local go_sem] Oper.semAt_some
theorem rdE_take {w : World} {B b o k n : Nat} {es : List (List Value)} (h : SlE 2 w B (some ⟨b, o, none⟩) es) (hC : ∀ e ∈ es, e.length = 2) (hl : es.length = n) (hk : k ≤ n) : Rd w (some ⟨b, o, none⟩) k 2 (es.take k).flatten := by
  have hC2 : ∀ e ∈ es.take k, e.length = 2 := fun e he => hC e (List.mem_of_mem_take he)
  refine ⟨by rw [flat_lenE _ hC2, List.length_take]; rw [Nat.min_eq_left (by omega)], ?_⟩
  rcases h with h | ⟨b2, o2, he, _, hc⟩
  · left
    have : n = 0 := by rw [← hl, h]; rfl
    omega
  · right
    cases he
    refine ⟨b, o, rfl, fun j u hj => ?_⟩
    obtain ⟨k', i, x, rfl, hx, hi⟩ := flat_getE _ hC2 j u hj
    have hk' : k' < k := by
      have := (List.getElem?_eq_some_iff.1 hx).1
      rw [List.length_take] at this
      omega
    rw [List.getElem?_take_of_lt hk'] at hx
    rw [show o + (k' * 2 + i) = o + k' * 2 + i by omega]
    exact hc k' x hx i u hi
theorem rdE_drop {w : World} {B b o k n c : Nat} {es : List (List Value)} (h : SlE 2 w B (some ⟨b, o, none⟩) es) (hC : ∀ e ∈ es, e.length = 2) (hl : es.length = n) (hk : k ≤ n) (hcn : n ≤ c) : Rd w (if c = k then some ⟨b, o, none⟩ else some ⟨b, o + k * 2, none⟩) (n - k) 2 (es.drop k).flatten := by
  have hC2 : ∀ e ∈ es.drop k, e.length = 2 := fun e he => hC e (List.mem_of_mem_drop he)
  refine ⟨by rw [flat_lenE _ hC2, List.length_drop, hl], ?_⟩
  by_cases hcc : c = k
  · left
    omega
  · rcases h with h | ⟨b2, o2, he, _, hc⟩
    · left
      have : n = 0 := by rw [← hl, h]; rfl
      omega
    · right
      cases he
      rw [if_neg hcc]
      refine ⟨b, o + k * 2, rfl, fun j u hj => ?_⟩
      obtain ⟨k', i, x, rfl, hx, hi⟩ := flat_getE _ hC2 j u hj
      rw [List.getElem?_drop] at hx
      rw [show o + k * 2 + (k' * 2 + i) = o + (k + k') * 2 + i by omega]
      exact hc (k + k') x hx i u hi
theorem keep_c {w w_ : World} {g o : Nat} {v : Value} (h : w.cell? ⟨g, o, none⟩ = some v) (hb : Below w.heap.size w w_) (hg : g < w.heap.size) : w_.cell? ⟨g, o, none⟩ = some v := (hb.cell (p := ⟨g, o, none⟩) hg).trans h
theorem rd_keep2 {w w5 : World} {g : Nat} {u1 u2 : Value} (h1 : w.cell? ⟨g, 0, none⟩ = some u1) (h2 : w.cell? ⟨g, 1, none⟩ = some u2) (hl : g < w.heap.size) (hg : w.grownBy w5 (Value.slice none 0 0).ownBlock) : Rd w5 (some ⟨g, 0, none⟩) 1 2 [u1, u2] := by
  have hb := ch_nil (Below.refl w.heap.size w) hg
  refine ⟨rfl, Or.inr ⟨g, 0, rfl, fun j u hj => ?_⟩⟩
  match j, hj with
  | 0, hj => cases hj; exact (hb.cell (p := ⟨g, 0, none⟩) hl).trans h1
  | 1, hj => cases hj; exact (hb.cell (p := ⟨g, 1, none⟩) hl).trans h2
  | j + 2, hj => simp at hj
theorem take_leq {L : List It} {k : Nat} {y : It} {x : ByteArray} (h : ∀ z ∈ L.take k, leqS z.nm x = true) (hy : L[k]? = some y) (hp : leqS y.nm x = true) : ∀ z ∈ L.take (k + 1), leqS z.nm x = true := by
  intro z hz
  rw [List.take_add_one, hy, List.mem_append] at hz
  rcases hz with hz | hz
  · exact h z hz
  · simp at hz
    rw [hz]
    exact hp
theorem itC_len (L : List It) : ∀ e ∈ L.map itC, e.length = 2 := fun e he => by obtain ⟨x, _, rfl⟩ := List.mem_map.1 he; rfl
theorem rfindr_arg (s : Sf) (v : Value) (q : List UInt8) (w : World) (hS : ShR w w.heap.size v s) (hz : SzF s) (hM : mayS s = false) :
    Calls Tryz.prog 13 #[v, .string (bOf q)] w fun e' w' => e' = .returned (.tuple #[.slice none 0 0, .int .i64 2]) ∧ Below w.heap.size w w' := by
  have hS0 := hS
  obtain ⟨Ab, cb, An, cn, rfl, hB, hN, hcb, hmb, hcn, hmn⟩ := hS.ex
  clear hS
  have HB : Below w.heap.size w (w.alloc (.cells #[.int .i64 s.nb, .int .i64 s.nn, .int .i64 s.ns, .slice Ab s.bs.length cb, .slice An s.ts.length cn] 25)) := ((Below.refl w.heap.size w).alloc (by first | (simp; done) | (simp; omega)) _)
  have B1 : Blk (w.alloc (.cells #[.int .i64 s.nb, .int .i64 s.nn, .int .i64 s.ns, .slice Ab s.bs.length cb, .slice An s.ts.length cn] 25)) w.heap.size 25 #[.int .i64 s.nb, .int .i64 s.nn, .int .i64 s.ns, .slice Ab s.bs.length cb, .slice An s.ts.length cn] := Blk.new_ w 25 #[.int .i64 s.nb, .int .i64 s.nn, .int .i64 s.ns, .slice Ab s.bs.length cb, .slice An s.ts.length cn]
  have S1 : ShR (w.alloc (.cells #[.int .i64 s.nb, .int .i64 s.nn, .int .i64 s.ns, .slice Ab s.bs.length cb, .slice An s.ts.length cn] 25)) ((w.alloc (.cells #[.int .i64 s.nb, .int .i64 s.nn, .int .i64 s.ns, .slice Ab s.bs.length cb, .slice An s.ts.length cn] 25))).heap.size (.agg #[.int .i64 s.nb, .int .i64 s.nn, .int .i64 s.ns, .slice Ab s.bs.length cb, .slice An s.ts.length cn]) s := hS0.next HB
  have HM : Hid (rMayB s = false) := Lib.hid ((rMay_eq s).trans hM)
  have HZ := Lib.hid hz
  clear hM hS0 hB hN hz
  go_enter Tryz.func13, Tryz.ntmps13
  go_wp2_with (go_at_call 45; ((with_reducible refine (rMay_any s _ _ S1 HZ.out _ HM.out).mono ?_); rintro e' wm ⟨rfl, b4⟩; have S1 := S1.next b4; have B1 := B1.below b4 B1.lt; have HB := btr HB HB.size b4; (try clear k0 k1 k2 k3 k4); have k0 := B1.cell_ 0; have k1 := B1.cell_ 1; have k2 := B1.cell_ 2; have k3 := B1.cell_ 3; have k4 := B1.cell_ 4; simp at k0 k1 k2 k3 k4; clear b4))
  go_ret2
  exact ⟨rfl, HB⟩
theorem rfindr_form (s : Sf) (v : Value) (q : List UInt8) (w : World) (hS : ShR w w.heap.size v s) (hz : SzF s) (hM : mayS s = true) (hl : q.length ≤ 100000) (hq : readL q = none) :
    Calls Tryz.prog 13 #[v, .string (bOf q)] w fun e' w' => e' = .returned (.tuple #[.slice none 0 0, .int .i64 5]) ∧ Below w.heap.size w w' := by
  have hS0 := hS
  obtain ⟨Ab, cb, An, cn, rfl, hB, hN, hcb, hmb, hcn, hmn⟩ := hS.ex
  clear hS
  have HB : Below w.heap.size w (w.alloc (.cells #[.int .i64 s.nb, .int .i64 s.nn, .int .i64 s.ns, .slice Ab s.bs.length cb, .slice An s.ts.length cn] 25)) := ((Below.refl w.heap.size w).alloc (by first | (simp; done) | (simp; omega)) _)
  have B1 : Blk (w.alloc (.cells #[.int .i64 s.nb, .int .i64 s.nn, .int .i64 s.ns, .slice Ab s.bs.length cb, .slice An s.ts.length cn] 25)) w.heap.size 25 #[.int .i64 s.nb, .int .i64 s.nn, .int .i64 s.ns, .slice Ab s.bs.length cb, .slice An s.ts.length cn] := Blk.new_ w 25 #[.int .i64 s.nb, .int .i64 s.nn, .int .i64 s.ns, .slice Ab s.bs.length cb, .slice An s.ts.length cn]
  have S1 : ShR (w.alloc (.cells #[.int .i64 s.nb, .int .i64 s.nn, .int .i64 s.ns, .slice Ab s.bs.length cb, .slice An s.ts.length cn] 25)) ((w.alloc (.cells #[.int .i64 s.nb, .int .i64 s.nn, .int .i64 s.ns, .slice Ab s.bs.length cb, .slice An s.ts.length cn] 25))).heap.size (.agg #[.int .i64 s.nb, .int .i64 s.nn, .int .i64 s.ns, .slice Ab s.bs.length cb, .slice An s.ts.length cn]) s := hS0.next HB
  have HM : Hid (rMayB s = true) := Lib.hid ((rMay_eq s).trans hM)
  have HZ := Lib.hid hz
  have HQL := Lib.hid hl
  have HMQ : Hid (mayQ q = false) := Lib.hid (by unfold mayQ; rw [hq]; rfl)
  clear hM hS0 hB hN hz hl hq
  go_enter Tryz.func13, Tryz.ntmps13
  go_wp2_with (first | (go_at_call 45; ((with_reducible refine (rMay_any s _ _ S1 HZ.out _ HM.out).mono ?_); rintro e' wm ⟨rfl, b4⟩; have S1 := S1.next b4; have B1 := B1.below b4 B1.lt; have HB := btr HB HB.size b4; (try clear k0 k1 k2 k3 k4); have k0 := B1.cell_ 0; have k1 := B1.cell_ 1; have k2 := B1.cell_ 2; have k3 := B1.cell_ 3; have k4 := B1.cell_ 4; simp at k0 k1 k2 k3 k4; clear b4)) | (go_at_call 24; ((with_reducible refine (rmayq_any q HQL.out _ HMQ.out _).mono ?_); rintro e' wq ⟨rfl, b5⟩; have S1 := S1.next b5; have B1 := B1.below b5 B1.lt; have HB := btr HB HB.size b5; (try clear k0 k1 k2 k3 k4); have k0 := B1.cell_ 0; have k1 := B1.cell_ 1; have k2 := B1.cell_ 2; have k3 := B1.cell_ 3; have k4 := B1.cell_ 4; simp at k0 k1 k2 k3 k4; clear b5)))
  go_ret2
  exact ⟨rfl, HB⟩
theorem rfindr_any (s : Sf) (v : Value) (q : List UInt8) (w : World) (hS : ShR w w.heap.size v s) (hz : SzF s) (hM : mayS s = true) (ts : List Trm) (hq : readL q = some ts) :
    Calls Tryz.prog 13 #[v, .string (bOf q)] w fun e' w' => ∃ (A : Option Addr) (c n : Nat), e' = .returned (.tuple #[.slice A n c, .int .i64 0]) ∧ n = (findL s ts).length ∧ SlE 2 w' w'.heap.size A ((findL s ts).map itC) ∧ Below w.heap.size w w' := by
  have hF := mayF_of hM
  have hS0 := hS
  obtain ⟨Ab, cb, An, cn, rfl, hB, hN, hcb, hmb, hcn, hmn⟩ := hS.ex
  clear hS
  obtain ⟨n, hn⟩ : ∃ n, s.ts.length = n := ⟨_, rfl⟩
  obtain ⟨bn, hbn⟩ : ∃ n, s.bs.length = n := ⟨_, rfl⟩
  have HB : Below w.heap.size w (w.alloc (.cells #[.int .i64 s.nb, .int .i64 s.nn, .int .i64 s.ns, .slice Ab s.bs.length cb, .slice An s.ts.length cn] 25)) := ((Below.refl w.heap.size w).alloc (by first | (simp; done) | (simp; omega)) _)
  have B1 : Blk (w.alloc (.cells #[.int .i64 s.nb, .int .i64 s.nn, .int .i64 s.ns, .slice Ab s.bs.length cb, .slice An s.ts.length cn] 25)) w.heap.size 25 #[.int .i64 s.nb, .int .i64 s.nn, .int .i64 s.ns, .slice Ab s.bs.length cb, .slice An s.ts.length cn] := Blk.new_ w 25 #[.int .i64 s.nb, .int .i64 s.nn, .int .i64 s.ns, .slice Ab s.bs.length cb, .slice An s.ts.length cn]
  have S1 : ShR (w.alloc (.cells #[.int .i64 s.nb, .int .i64 s.nn, .int .i64 s.ns, .slice Ab s.bs.length cb, .slice An s.ts.length cn] 25)) ((w.alloc (.cells #[.int .i64 s.nb, .int .i64 s.nn, .int .i64 s.ns, .slice Ab s.bs.length cb, .slice An s.ts.length cn] 25))).heap.size (.agg #[.int .i64 s.nb, .int .i64 s.nn, .int .i64 s.ns, .slice Ab s.bs.length cb, .slice An s.ts.length cn]) s := hS0.next HB
  obtain ⟨es, hel, hse, hnt⟩ := hN.ex
  simp only [hn, hbn] at HB B1 S1 hel ⊢
  have hn12 : n ≤ 12 := by have := hF.tl; omega
  have hb6 : bn ≤ 6 := by have := hF.bl; omega
  have HEL := Lib.hid hel
  have HN := Lib.hid hn
  have HBN := Lib.hid hbn
  have HM : Hid (rMayB s = true) := Lib.hid ((rMay_eq s).trans hM)
  have HZ := Lib.hid hz
  have HRQ := Lib.hid hq
  have hq200 := read_len hq
  have HQL : Hid (q.length ≤ 100000) := Lib.hid (by omega)
  have HMQ : Hid (mayQ q = true) := Lib.hid (by unfold mayQ; rw [hq]; rfl)
  have HFF := Lib.hid hF
  obtain ⟨nt, hnt2⟩ : ∃ n, (trmsP q).length = n := ⟨_, rfl⟩
  have HNT := Lib.hid hnt2
  have hnt201 : nt ≤ 201 := by rw [← hnt2]; have := trmsP_len q; omega
  have HSM : Hid (s.bs.length ≤ 100000 ∧ s.ts.length ≤ 100000) := Lib.hid (by omega)
  clear hM hn hbn hS0 hel hB hF hz hq hnt2 hN hcb hmb hcn hmn
  go_enter Tryz.func13, Tryz.ntmps13
  go_upto_region 7 with (first | (go_at_call 45; ((with_reducible refine (rMay_any s _ _ S1 HZ.out _ HM.out).mono ?_); rintro e' wm ⟨rfl, b4⟩; have S1 := S1.next b4; have B1 := B1.below b4 B1.lt; have HB := btr HB HB.size b4; (try clear k0 k1 k2 k3 k4); have k0 := B1.cell_ 0; have k1 := B1.cell_ 1; have k2 := B1.cell_ 2; have k3 := B1.cell_ 3; have k4 := B1.cell_ 4; simp at k0 k1 k2 k3 k4; clear b4)) | (go_at_call 24; ((with_reducible refine (rmayq_any q HQL.out _ HMQ.out _).mono ?_); rintro e' wq ⟨rfl, b5⟩; have S1 := S1.next b5; have B1 := B1.below b5 B1.lt; have HB := btr HB HB.size b5; (try clear k0 k1 k2 k3 k4); have k0 := B1.cell_ 0; have k1 := B1.cell_ 1; have k2 := B1.cell_ 2; have k3 := B1.cell_ 3; have k4 := B1.cell_ 4; simp at k0 k1 k2 k3 k4; clear b5)) | (go_at_call 46; ((with_reducible refine (terms_any q HQL.out nt HNT.out _).mono ?_); rintro e' wt ⟨A6, c6, rfl, hs6, b6⟩; have S1 := S1.next b6; have B1 := B1.below b6 B1.lt; have HB := btr HB HB.size b6; (try clear k0 k1 k2 k3 k4); have k0 := B1.cell_ 0; have k1 := B1.cell_ 1; have k2 := B1.cell_ 2; have k3 := B1.cell_ 3; have k4 := B1.cell_ 4; simp at k0 k1 k2 k3 k4; clear b6)))
  have ST := S1
  have BT := B1
  have HBT := HB
  clear S1 B1 HB k0 k1 k2 k3 k4
  go_wp2_with fail
  go_loopw [7, 8] (fun sv i wr => ∃ (k m c : Nat) (A : Option Addr), k ≤ n ∧ i = .int .i64 k ∧ sv = .slice A m c ∧ Hid (m = (fndTo s ts k).length) ∧ m ≤ k ∧ m ≤ c ∧ c ≤ maxLen ∧ (m = 0 → A = none ∧ c = 0) ∧ SlE 2 wr wr.heap.size A ((fndTo s ts k).map itC) ∧ Below wt.heap.size wt wr) (fun _ i _ => n - (intOf i).toNat)
  case atStart => exact ⟨0, 0, 0, none, by omega, rfl, rfl, Lib.hid rfl, by omega, by omega, by unfold maxLen; omega, fun _ => ⟨rfl, rfl⟩, Or.inl rfl, Below.refl _ _⟩
  case round =>
    obtain ⟨k, m, c, A, hk, rfl, rfl, HMM, hmk, hmc, hcm, h0, hL, HBr⟩ := hrel
    obtain ⟨k0, k1, k2, k3, k4⟩ := cell5 (BT.below HBr BT.lt)
    by_cases hlt : k < n
    · have hlx : k < s.ts.length := by have := HN.out; omega
      have i0 : (0 : Int) ≤ (k : Int) := by omega
      have i1 : (k : Int) < (n : Int) := by omega
      obtain ⟨y, hx⟩ : ∃ y, s.ts[k]? = some y := ⟨_, List.getElem?_eq_getElem hlx⟩
      have hmem : y ∈ s.ts := List.mem_of_getElem? hx
      obtain ⟨I, bb, hI, hbI, hbnm⟩ := HFF.out.bookIx hmem
      have hsm := HFF.out.note hmem
      obtain ⟨e0, he⟩ : ∃ e, es[k]? = some e := ⟨_, List.getElem?_eq_getElem (by have := HEL.out; omega)⟩
      obtain ⟨At, ct, As, cs, rfl, hyg, -⟩ := (hnt k y e0 hx he).ex
      obtain ⟨b1, o1, rfl, l1, q1⟩ := hse.at_ (by have := HEL.out; omega)
      have HBw := btr HBT HBT.size HBr
      obtain ⟨yt, hyt⟩ : ∃ n, y.tg.length = n := ⟨_, rfl⟩
      obtain ⟨ys, hys⟩ : ∃ n, y.sh.length = n := ⟨_, rfl⟩
      have y0 : wr.cell? ⟨b1, o1 + k * 5 + 0, none⟩ = some (.int .i64 y.id) := by first | (rw [← hyt]; exact (HBw.cell (p := ⟨b1, _, none⟩) l1).trans (q1 k _ he 0 _ rfl)) | (rw [← hys]; exact (HBw.cell (p := ⟨b1, _, none⟩) l1).trans (q1 k _ he 0 _ rfl)) | exact (HBw.cell (p := ⟨b1, _, none⟩) l1).trans (q1 k _ he 0 _ rfl)
      have y1 : wr.cell? ⟨b1, o1 + k * 5 + 1, none⟩ = some (.int .i64 y.bk) := by first | (rw [← hyt]; exact (HBw.cell (p := ⟨b1, _, none⟩) l1).trans (q1 k _ he 1 _ rfl)) | (rw [← hys]; exact (HBw.cell (p := ⟨b1, _, none⟩) l1).trans (q1 k _ he 1 _ rfl)) | exact (HBw.cell (p := ⟨b1, _, none⟩) l1).trans (q1 k _ he 1 _ rfl)
      have y2 : wr.cell? ⟨b1, o1 + k * 5 + 2, none⟩ = some (.string y.nm) := by first | (rw [← hyt]; exact (HBw.cell (p := ⟨b1, _, none⟩) l1).trans (q1 k _ he 2 _ rfl)) | (rw [← hys]; exact (HBw.cell (p := ⟨b1, _, none⟩) l1).trans (q1 k _ he 2 _ rfl)) | exact (HBw.cell (p := ⟨b1, _, none⟩) l1).trans (q1 k _ he 2 _ rfl)
      have y3 : wr.cell? ⟨b1, o1 + k * 5 + 3, none⟩ = some (.slice At yt ct) := by first | (rw [← hyt]; exact (HBw.cell (p := ⟨b1, _, none⟩) l1).trans (q1 k _ he 3 _ rfl)) | (rw [← hys]; exact (HBw.cell (p := ⟨b1, _, none⟩) l1).trans (q1 k _ he 3 _ rfl)) | exact (HBw.cell (p := ⟨b1, _, none⟩) l1).trans (q1 k _ he 3 _ rfl)
      have y4 : wr.cell? ⟨b1, o1 + k * 5 + 4, none⟩ = some (.slice As ys cs) := by first | (rw [← hyt]; exact (HBw.cell (p := ⟨b1, _, none⟩) l1).trans (q1 k _ he 4 _ rfl)) | (rw [← hys]; exact (HBw.cell (p := ⟨b1, _, none⟩) l1).trans (q1 k _ he 4 _ rfl)) | exact (HBw.cell (p := ⟨b1, _, none⟩) l1).trans (q1 k _ he 4 _ rfl)
      simp only [Nat.add_zero] at y0
      have HX := Lib.hid hx
      have HYT := Lib.hid hyt
      have hyt4 : yt ≤ 4 := by rw [← hyt]; exact hsm.1
      have HNM : Hid (y.nm.size ≤ 1000) := Lib.hid (by have := hsm.2; omega)
      have HII := Lib.hid (And.intro hI hbI)
      have HBM := Lib.hid hbnm
      clear hx he q1 hmem hI hbI hbnm hsm hyt hys hlx
      go_upto_region 11 with fail
      obtain ⟨W, hW⟩ : ∃ V, V = wr.alloc (.cells #[.int .i64 y.id, .int .i64 y.bk, .string y.nm, .slice At yt ct, .slice As ys cs] 54) := ⟨_, rfl⟩
      have hal : Below wr.heap.size wr W := by rw [hW]; exact (Below.refl _ wr).alloc (Nat.le_refl _) _
      have BX : Blk W wr.heap.size 54 #[.int .i64 y.id, .int .i64 y.bk, .string y.nm, .slice At yt ct, .slice As ys cs] := by rw [hW]; exact Blk.new_ wr 54 #[.int .i64 y.id, .int .i64 y.bk, .string y.nm, .slice At yt ct, .slice As ys cs]
      rw [← hW]
      obtain ⟨g, hg⟩ : ∃ g, wr.heap.size = g := ⟨_, rfl⟩
      rw [hg] at BX ⊢
      have hLW := SlE.next hL hal
      have HBW := HBr.trans (hal.mono HBr.size)
      have HW0 := btr HBT HBT.size HBW
      clear hW hg y0 y1 y2 y3 y4 k0 k1 k2 k3 k4 HBw HBr hL hal
      have HHOLD : Hid (∀ (p : List UInt8) (w_ : World), Below W.heap.size W w_ → Calls Tryz.prog 47 #[.agg #[.int .i64 s.nb, .int .i64 s.nn, .int .i64 s.ns, .slice Ab bn cb, .slice (some ⟨b1, o1, none⟩) n cn], .agg #[.int .i64 y.id, .int .i64 y.bk, .string y.nm, .slice At yt ct, .slice As ys cs], .string (bOf p)] w_ fun e' w' => e' = .returned (.bool (soB (trmOf p) y (bkNm s y.bk))) ∧ Below w_.heap.size w_ w') := Lib.hid (fun p w_ h => by
        have hz1 := btr HBW HBW.size h
        have hz2 := btr HBT HBT.size hz1
        have h9 := rholds_any s y p Ab (some ⟨b1, o1, none⟩) At As bn cb n cn yt ct ys cs w_ (ST.next hz1) HSM.out HBN.out HYT.out ((hyg.below hz2).mono_ hz2.size) (by omega) HNM.out I bb HII.out.1 HII.out.2
        rw [HBM.out]
        exact h9)
      go_wp2_with fail
      go_loopw [10, 11] (fun av i wx => ∃ j : Nat, ∃ al : Bool, j ≤ nt ∧ i = .int .i64 j ∧ av = .bool al ∧ Hid (allTo s q y j = al) ∧ Below W.heap.size W wx) (fun _ i _ => nt - (intOf i).toNat)
      case atStart => exact ⟨0, true, by omega, rfl, rfl, Lib.hid rfl, Below.refl _ _⟩
      case round =>
        obtain ⟨j, al, hj, rfl, rfl, HAL, HBx⟩ := hrel
        by_cases hlt2 : j < nt
        · have hlx : j < (trmsP q).length := by have := HNT.out; omega
          have j0 : (0 : Int) ≤ (j : Int) := by omega
          have j1 : (j : Int) < (nt : Int) := by omega
          obtain ⟨p, hp⟩ : ∃ p, (trmsP q)[j]? = some p := ⟨_, List.getElem?_eq_getElem hlx⟩
          obtain ⟨b3, o3, rfl, l3, q3⟩ := hs6.at_ (by rw [List.length_map, List.length_map]; omega)
          have HCP : Hid (∀ w_, Below W.heap.size W w_ → w_.cell? ⟨w.heap.size, 0, none⟩ = some (.int .i64 s.nb) ∧ w_.cell? ⟨w.heap.size, 1, none⟩ = some (.int .i64 s.nn) ∧ w_.cell? ⟨w.heap.size, 2, none⟩ = some (.int .i64 s.ns) ∧ w_.cell? ⟨w.heap.size, 3, none⟩ = some (.slice Ab bn cb) ∧ w_.cell? ⟨w.heap.size, 4, none⟩ = some (.slice (some ⟨b1, o1, none⟩) n cn) ∧ w_.cell? ⟨g, 0, none⟩ = some (.int .i64 y.id) ∧ w_.cell? ⟨g, 1, none⟩ = some (.int .i64 y.bk) ∧ w_.cell? ⟨g, 2, none⟩ = some (.string y.nm) ∧ w_.cell? ⟨g, 3, none⟩ = some (.slice At yt ct) ∧ w_.cell? ⟨g, 4, none⟩ = some (.slice As ys cs) ∧ w_.cell? ⟨b3, o3 + j, none⟩ = some (.string (bOf p))) := Lib.hid (fun w_ h => by
            obtain ⟨a0, a1, a2, a3, a4⟩ := cell5 (BT.below (btr HBW HBW.size h) BT.lt)
            obtain ⟨d0, d1, d2, d3, d4⟩ := cell5 (BX.below h BX.lt)
            exact ⟨a0, a1, a2, a3, a4, d0, d1, d2, d3, d4, ((btr HBW HBW.size h).cell (p := ⟨b3, _, none⟩) l3).trans (q3 j _ (by rw [List.getElem?_map, List.getElem?_map, hp]; rfl))⟩)
          have HNX : Hid (allTo s q y (j + 1) = (al && soB (trmOf p) y (bkNm s y.bk))) := Lib.hid (by rw [allTo_next hp, HAL.out])
          have HC9 := Lib.hid (fun w_ h => HHOLD.out p w_ h)
          have HE := drew_below HBx
          have QD : (Below W.heap.size W wr.drew ∧ wr.drew.cell? ⟨w.heap.size, 0, none⟩ = some (.int .i64 s.nb) ∧ wr.drew.cell? ⟨w.heap.size, 1, none⟩ = some (.int .i64 s.nn) ∧ wr.drew.cell? ⟨w.heap.size, 2, none⟩ = some (.int .i64 s.ns) ∧ wr.drew.cell? ⟨w.heap.size, 3, none⟩ = some (.slice Ab bn cb) ∧ wr.drew.cell? ⟨w.heap.size, 4, none⟩ = some (.slice (some ⟨b1, o1, none⟩) n cn) ∧ wr.drew.cell? ⟨g, 0, none⟩ = some (.int .i64 y.id) ∧ wr.drew.cell? ⟨g, 1, none⟩ = some (.int .i64 y.bk) ∧ wr.drew.cell? ⟨g, 2, none⟩ = some (.string y.nm) ∧ wr.drew.cell? ⟨g, 3, none⟩ = some (.slice At yt ct) ∧ wr.drew.cell? ⟨g, 4, none⟩ = some (.slice As ys cs) ∧ wr.drew.cell? ⟨b3, o3 + j, none⟩ = some (.string (bOf p))) := ⟨HE, HCP.out _ HE⟩
          clear hp q3 hlx
          go_upto_region 15 with fail
          cases al
          · skip
            refine wp_region_noPanic ?_
            refine wp_region_held_drew (S := (fun w_ => Below W.heap.size W w_ ∧ w_.cell? ⟨w.heap.size, 0, none⟩ = some (.int .i64 s.nb) ∧ w_.cell? ⟨w.heap.size, 1, none⟩ = some (.int .i64 s.nn) ∧ w_.cell? ⟨w.heap.size, 2, none⟩ = some (.int .i64 s.ns) ∧ w_.cell? ⟨w.heap.size, 3, none⟩ = some (.slice Ab bn cb) ∧ w_.cell? ⟨w.heap.size, 4, none⟩ = some (.slice (some ⟨b1, o1, none⟩) n cn) ∧ w_.cell? ⟨g, 0, none⟩ = some (.int .i64 y.id) ∧ w_.cell? ⟨g, 1, none⟩ = some (.int .i64 y.bk) ∧ w_.cell? ⟨g, 2, none⟩ = some (.string y.nm) ∧ w_.cell? ⟨g, 3, none⟩ = some (.slice At yt ct) ∧ w_.cell? ⟨g, 4, none⟩ = some (.slice As ys cs) ∧ w_.cell? ⟨b3, o3 + j, none⟩ = some (.string (bOf p)))) (by kernel_rfl) ?_ (fun hHeld => ?_)
            · (first | with_reducible exact QD | with_reducible exact hNext | assumption)
            refine tk 0 ?_; try simp only [Act.put, pz1, pz2, pz3]
            refine tk 1 ?_; try simp only [Act.put, pz1, pz2, pz3]
            refine tu 2 ?_
            try simp only [Act.put, pz1, pz2, pz3]
            refine tu 3 ?_
            try simp only [Act.put, pz1, pz2, pz3]
            refine tu 4 ?_
            try simp only [Act.put, pz1, pz2, pz3]
            refine tu 5 ?_
            try simp only [Act.put, pz1, pz2, pz3]
            refine tu 6 ?_
            try simp only [Act.put, pz1, pz2, pz3]
            refine tu 7 ?_
            try simp only [Act.put, pz1, pz2, pz3]
            refine tu 8 ?_
            try simp only [Act.put, pz1, pz2, pz3]
            refine tk 9 ?_; try simp only [Act.put, pz1, pz2, pz3]
            refine tk 10 ?_; try simp only [Act.put, pz1, pz2, pz3]
            refine wpAnyH_done (by kernel_rfl) ?_ _
            refine NoPanic.normal ?_
            go_wp2_with fail
            go_roundw
            case rel => exact ⟨j + 1, _, by omega, by go_num, rfl, HNX, hHeld.1⟩
            case measure => simp [intOf]; omega
          · skip
            refine wp_region_noPanic ?_
            refine wp_region_held_drew (S := (fun w_ => Below W.heap.size W w_ ∧ w_.cell? ⟨w.heap.size, 0, none⟩ = some (.int .i64 s.nb) ∧ w_.cell? ⟨w.heap.size, 1, none⟩ = some (.int .i64 s.nn) ∧ w_.cell? ⟨w.heap.size, 2, none⟩ = some (.int .i64 s.ns) ∧ w_.cell? ⟨w.heap.size, 3, none⟩ = some (.slice Ab bn cb) ∧ w_.cell? ⟨w.heap.size, 4, none⟩ = some (.slice (some ⟨b1, o1, none⟩) n cn) ∧ w_.cell? ⟨g, 0, none⟩ = some (.int .i64 y.id) ∧ w_.cell? ⟨g, 1, none⟩ = some (.int .i64 y.bk) ∧ w_.cell? ⟨g, 2, none⟩ = some (.string y.nm) ∧ w_.cell? ⟨g, 3, none⟩ = some (.slice At yt ct) ∧ w_.cell? ⟨g, 4, none⟩ = some (.slice As ys cs) ∧ w_.cell? ⟨b3, o3 + j, none⟩ = some (.string (bOf p)))) (by kernel_rfl) ?_ (fun hHeld => ?_)
            · (first | with_reducible exact QD | with_reducible exact hNext | assumption)
            refine tk 0 ?_; try simp only [Act.put, pz1, pz2, pz3]
            refine tk 1 ?_; try simp only [Act.put, pz1, pz2, pz3]
            refine tk 2 ?_; try simp only [Act.put, pz1, pz2, pz3]
            refine tk 3 ?_; try simp only [Act.put, pz1, pz2, pz3]
            refine tk 4 ?_; try simp only [Act.put, pz1, pz2, pz3]
            refine tk 5 ?_; try simp only [Act.put, pz1, pz2, pz3]
            refine tk 6 ?_; try simp only [Act.put, pz1, pz2, pz3]
            refine tk 7 ?_; try simp only [Act.put, pz1, pz2, pz3]
            refine wpAnyH_ready (rs := [8]) (by kernel_rfl) (by simp) ?_
            refine AllReadyH.cons (o := ⟨some 47, .call { callee := .value (.func 47), args := #[.tmp 41, .tmp 42, .tmp 46], argTypes := #[25, 54, 9] }, 4, "ref.go:134", #[⟨2, .data⟩, ⟨3, .data⟩, ⟨7, .data⟩, ⟨1, .chain⟩, ⟨1, .guard⟩], some (1, true)⟩) rfl (fun K hK => ?_) AllReadyH.nil
            go_simp
            (go_at_call 47; ((with_reducible refine (HC9.out _ hHeld.1).mono ?_); rintro e' w6 ⟨rfl, b6⟩; have HZ9 := btr hHeld.1 hHeld.1.size b6; have hNext : (Below W.heap.size W w6 ∧ w6.cell? ⟨w.heap.size, 0, none⟩ = some (.int .i64 s.nb) ∧ w6.cell? ⟨w.heap.size, 1, none⟩ = some (.int .i64 s.nn) ∧ w6.cell? ⟨w.heap.size, 2, none⟩ = some (.int .i64 s.ns) ∧ w6.cell? ⟨w.heap.size, 3, none⟩ = some (.slice Ab bn cb) ∧ w6.cell? ⟨w.heap.size, 4, none⟩ = some (.slice (some ⟨b1, o1, none⟩) n cn) ∧ w6.cell? ⟨g, 0, none⟩ = some (.int .i64 y.id) ∧ w6.cell? ⟨g, 1, none⟩ = some (.int .i64 y.bk) ∧ w6.cell? ⟨g, 2, none⟩ = some (.string y.nm) ∧ w6.cell? ⟨g, 3, none⟩ = some (.slice At yt ct) ∧ w6.cell? ⟨g, 4, none⟩ = some (.slice As ys cs) ∧ w6.cell? ⟨b3, o3 + j, none⟩ = some (.string (bOf p))) := ⟨HZ9, HCP.out _ HZ9⟩))
            go_wp2_with fail
            refine hK.out _ _ ?_ (fun hNew => ?_)
            · (first | with_reducible exact QD | with_reducible exact hNext | assumption)
            clear hK K hHeld
            have hHeld := hNew
            clear hNew
            try simp only [Act.put, pz1, pz2, pz3]
            refine tk 9 ?_; try simp only [Act.put, pz1, pz2, pz3]
            refine tk 10 ?_; try simp only [Act.put, pz1, pz2, pz3]
            refine wpAnyH_done (by kernel_rfl) ?_ _
            refine NoPanic.normal ?_
            go_wp2_with fail
            go_roundw
            case rel => exact ⟨j + 1, _, by omega, by go_num, rfl, HNX, hHeld.1⟩
            case measure => simp [intOf]; omega
        · obtain rfl : nt = j := by omega
          have HHIT : Hid (hitB s ts y = al) := Lib.hid (by rw [← allTo_all HRQ.out, HNT.out]; exact HAL.out)
          clear hlt2 HHOLD
          cases al
          · have HML2 : Hid (fndTo s ts (k + 1) = fndTo s ts k) := Lib.hid (fndTo_miss HX.out HHIT.out)
            go_wp2_with fail
            go_roundw
            case rel => exact ⟨k + 1, m, c, A, by omega, by go_num, rfl, Lib.hid (by rw [HML2.out]; exact HMM.out), by omega, hmc, hcm, h0, (by rw [HML2.out]; exact SlE.next hLW HBx), btr HBW HBW.size HBx⟩
            case measure => simp [intOf]; omega
          · have hMX := fndTo_hit HX.out HHIT.out
            obtain ⟨L, hLL⟩ : ∃ L, fndTo s ts k = L := ⟨_, rfl⟩
            have hML0 : L.length = m := by rw [← hLL]; exact HMM.out.symm
            rw [hLL] at hMX hLW
            have HML := Lib.hid hML0
            have HMX := Lib.hid hMX
            clear hMX hLL hML0 HMM
            rcases Nat.eq_zero_or_pos m with hz | hz
            · obtain ⟨rfl, rfl⟩ := h0 hz
              subst hz
              have HIN : Hid (insI L (ntIt y) = L.take 0 ++ ntIt y :: L.drop 0) := Lib.hid (by rw [List.eq_nil_of_length_eq_zero HML.out]; rfl)
              have HCQ : Hid (∀ w_, Below W.heap.size W w_ → w_.cell? ⟨g, 2, none⟩ = some (.string y.nm)) := Lib.hid (fun w_ h => by
                obtain ⟨d0, d1, d2, d3, d4⟩ := cell5 (BX.below h BX.lt)
                exact d2)
              clear h0
              go_wp2_with fail
              go_loopw [12] (fun i wq => i = .int .i64 0 ∧ Below W.heap.size W wq) (fun _ _ => 0)
              case atStart => exact ⟨rfl, HBx⟩
              case round =>
                obtain ⟨rfl, HBq⟩ := hrel
                have HE := drew_below HBq
                have QD : (Below W.heap.size W wr.drew ∧ wr.drew.cell? ⟨g, 2, none⟩ = some (.string y.nm)) := ⟨HE, HCQ.out _ HE⟩
                go_upto_region 18 with fail
                go_cut [64] (fun v wx => v = .bool false ∧ Below W.heap.size W wx)
                case first =>
                  refine wp_region_noPanic ?_
                  refine wp_region_held_drew (S := (fun w_ => Below W.heap.size W w_ ∧ w_.cell? ⟨g, 2, none⟩ = some (.string y.nm))) (by kernel_rfl) ?_ (fun hHeld => ?_)
                  · exact QD
                  refine tk 0 ?_; try simp only [Act.put, pz1, pz2, pz3]
                  refine tk 1 ?_; try simp only [Act.put, pz1, pz2, pz3]
                  refine tk 2 ?_; try simp only [Act.put, pz1, pz2, pz3]
                  refine tk 3 ?_; try simp only [Act.put, pz1, pz2, pz3]
                  refine tk 4 ?_; try simp only [Act.put, pz1, pz2, pz3]
                  refine tu 5 ?_
                  try simp only [Act.put, pz1, pz2, pz3]
                  refine tu 6 ?_
                  try simp only [Act.put, pz1, pz2, pz3]
                  refine tu 7 ?_
                  try simp only [Act.put, pz1, pz2, pz3]
                  refine tu 8 ?_
                  try simp only [Act.put, pz1, pz2, pz3]
                  refine tu 9 ?_
                  try simp only [Act.put, pz1, pz2, pz3]
                  refine tu 10 ?_
                  try simp only [Act.put, pz1, pz2, pz3]
                  refine tu 11 ?_
                  try simp only [Act.put, pz1, pz2, pz3]
                  refine tu 12 ?_
                  try simp only [Act.put, pz1, pz2, pz3]
                  refine tk 13 ?_; try simp only [Act.put, pz1, pz2, pz3]
                  refine wpAnyH_done (by kernel_rfl) ?_ _
                  refine NoPanic.normal ?_
                  go_wp2_with fail
                  go_meet
                  exact ⟨rfl, hHeld.1⟩
                case rest =>
                  obtain ⟨rfl, HBc⟩ := hcut
                  clear QD HE HBq
                  obtain ⟨d0, d1, d2, d3, d4⟩ := cell5 (BX.below HBc BX.lt)
                  have hSL := SlE.next hLW HBc
                  have gl : g < wc.heap.size := by have h1 := BX.lt; have h2 := HBc.size; omega
                  clear d1 d3 d4
                  have bAL : Below wc.heap.size wc (wc.alloc (.cells #[.int .i64 y.id, .string y.nm] 50)).drew := drew_below ((Below.refl _ _).alloc (Nat.le_refl _) _)
                  have cx0 : (wc.alloc (.cells #[.int .i64 y.id, .string y.nm] 50)).drew.cell? ⟨wc.heap.size, 0, none⟩ = some (.int .i64 y.id) := by
                    show (wc.alloc (.cells #[.int .i64 y.id, .string y.nm] 50)).cell? ⟨wc.heap.size, 0, none⟩ = some (.int .i64 y.id)
                    rw [Joins.cell_of_block (heap_alloc_new wc _)]
                    rfl
                  have cx1 : (wc.alloc (.cells #[.int .i64 y.id, .string y.nm] 50)).drew.cell? ⟨wc.heap.size, 1, none⟩ = some (.string y.nm) := by
                    show (wc.alloc (.cells #[.int .i64 y.id, .string y.nm] 50)).cell? ⟨wc.heap.size, 1, none⟩ = some (.string y.nm)
                    rw [Joins.cell_of_block (heap_alloc_new wc _)]
                    rfl
                  have hE : ((L.map itC).take 0).flatten ++ itC (ntIt y) ++ ((L.map itC).drop 0).flatten = ((insI L (ntIt y)).map itC).flatten := by
                    rw [HIN.out]
                    simp [List.map_take, List.map_drop]
                  have oneTk : ∀ u ∈ ((L.map itC).take 0).flatten, u.oneCell' = true := fun u hu => by
                    obtain ⟨l, hl, hul⟩ := List.mem_flatten.1 hu
                    obtain ⟨x, _, rfl⟩ := List.mem_map.1 (List.mem_of_mem_take hl)
                    exact one1I x u hul
                  have oneDp : ∀ u ∈ ((L.map itC).drop 0).flatten, u.oneCell' = true := fun u hu => by
                    obtain ⟨l, hl, hul⟩ := List.mem_flatten.1 hu
                    obtain ⟨x, _, rfl⟩ := List.mem_map.1 (List.mem_of_mem_drop hl)
                    exact one1I x u hul
                  have HCN : ∀ w_, Below wc.heap.size wc w_ → w_.cell? ⟨g, 0, none⟩ = some (.int .i64 y.id) ∧ w_.cell? ⟨g, 2, none⟩ = some (.string y.nm) := fun w_ h => ⟨keep_c d0 h gl, keep_c d2 h gl⟩
                  have rdN1 : ∀ w : World, Rd w none 0 2 ((L.map itC).take 0).flatten := fun w => ⟨by simp, Or.inl rfl⟩
                  have rdN2 : ∀ w : World, Rd w none 0 2 ((L.map itC).drop 0).flatten := fun w => ⟨by rw [List.eq_nil_of_length_eq_zero HML.out]; rfl, Or.inl rfl⟩
                  go_upto_region 20 with fail
                  refine wp_region_noPanic ?_
                  refine wp_region_held_drew (S := (fun w_ => w_.cell? ⟨g, 0, none⟩ = some (.int .i64 y.id) ∧ w_.cell? ⟨g, 2, none⟩ = some (.string y.nm))) (by kernel_rfl) ?_ (fun hHeld => ?_)
                  · exact HCN _ (by first | exact below_dr wc | exact b8 | exact b7 | exact b5 | exact bAL | exact b5.alloc b5.size _ | exact drew_below b8 | exact drew_below b7 | exact drew_below b5 | exact drew_below (b5.alloc b5.size _))
                  refine tk 0 ?_; try simp only [Act.put, pz1, pz2, pz3]
                  refine tk 1 ?_; try simp only [Act.put, pz1, pz2, pz3]
                  refine tk 2 ?_; try simp only [Act.put, pz1, pz2, pz3]
                  refine tk 4 ?_; try simp only [Act.put, pz1, pz2, pz3]
                  refine tk 5 ?_; try simp only [Act.put, pz1, pz2, pz3]
                  refine tk 6 ?_; try simp only [Act.put, pz1, pz2, pz3]
                  refine tk 7 ?_; try simp only [Act.put, pz1, pz2, pz3]
                  refine tk 8 ?_; try simp only [Act.put, pz1, pz2, pz3]
                  refine tk 11 ?_; try simp only [Act.put, pz1, pz2, pz3]
                  refine tk 12 ?_; try simp only [Act.put, pz1, pz2, pz3]
                  refine tk 13 ?_; try simp only [Act.put, pz1, pz2, pz3]
                  refine wpAnyH_ready (rs := [3, 9]) (by kernel_rfl) (by simp) ?_
                  refine (AllReadyH.cons (o := ⟨some 70, .call { callee := .builtin .append, args := #[.const (.slice none 0 0), .tmp 69], argTypes := #[29, 29] }, 29, "ref.go:143", #[⟨2, .data⟩], none⟩) rfl (fun K hK => ?_) (AllReadyH.cons (o := ⟨some 76, .buildSlice 29 1 #[(0, .tmp 75)], 29, "ref.go:143", #[⟨8, .data⟩], none⟩) rfl (fun K hK => ?_) AllReadyH.nil))
                  · obtain ⟨ti0, hi, hz0, hz1, hz2⟩ := info_parts infoIt
                    refine step_app _ rfl (.const (.slice none 0 0)) (.tmp 69) _ rfl wc.heap.size 50 ti0 _ 2 24 Tryz.underlying29 hi hz0 hz1 hz2 rfl (by decide) (.slice none 0 0) 0 ([]) rfl (World.ownsRow_nil _ _ _ _) _ 0 _ (((L.map itC).take 0).flatten) rfl (rdN1 _) oneTk (by unfold maxLen; omega) (by omega) (by first | exact Nat.le_refl _ | (simp; done) | (simp; omega)) ?_
                    intro v5 w5 ho5 hg5 hv5
                    clear hi hz0 hz1 hz2
                    rw [Nat.zero_add, List.nil_append] at ho5
                    have b5 : Below wc.heap.size wc w5 := (by first | exact ch_nil (below_dr wc) hg5 | exact ch_nil bAL hg5)
                    (try have RxB := rd_keep2 cx0 cx1 (by simp) hg5)
                    refine hK.out _ _ ?_ (fun hNew => ?_)
                    · exact HCN _ (by first | exact below_dr wc | exact b8 | exact b7 | exact b5 | exact bAL | exact b5.alloc b5.size _ | exact drew_below b8 | exact drew_below b7 | exact drew_below b5 | exact drew_below (b5.alloc b5.size _))
                    clear hK K hHeld
                    have hHeld := hNew
                    clear hNew
                    try simp only [Act.put, pz1, pz2, pz3]
                    refine wpAnyH_ready (rs := [9]) (by kernel_rfl) (by simp) ?_
                    refine AllReadyH.cons (o := ⟨some 76, .buildSlice 29 1 #[(0, .tmp 75)], 29, "ref.go:143", #[⟨8, .data⟩], none⟩) rfl (fun K hK => ?_) AllReadyH.nil
                    go_simp
                    refine hK.out _ _ ?_ (fun hNew => ?_)
                    · exact HCN _ (by first | exact below_dr wc | exact b8 | exact b7 | exact b5 | exact bAL | exact b5.alloc b5.size _ | exact drew_below b8 | exact drew_below b7 | exact drew_below b5 | exact drew_below (b5.alloc b5.size _))
                    clear hK K hHeld
                    have hHeld := hNew
                    clear hNew
                    try simp only [Act.put, pz1, pz2, pz3]
                    refine wpAnyH_ready (rs := [10]) (by kernel_rfl) (by simp) ?_
                    refine AllReadyH.cons (o := ⟨some 77, .call { callee := .builtin .append, args := #[.tmp 70, .tmp 76], argTypes := #[29, 29] }, 29, "ref.go:143", #[⟨3, .data⟩, ⟨9, .data⟩, ⟨3, .chain⟩], none⟩) rfl (fun K hK => ?_) AllReadyH.nil
                    obtain ⟨ti0, hi, hz0, hz1, hz2⟩ := info_parts infoIt
                    refine step_app _ rfl (.tmp 70) (.tmp 76) _ rfl wc.heap.size 50 ti0 _ 2 24 Tryz.underlying29 hi hz0 hz1 hz2 rfl (by decide) (v5) 0 (((L.map itC).take 0).flatten) rfl (by first | exact ho5 | exact ho5.alloc _) _ 1 _ ((itC (ntIt y))) rfl (by first | exact rd_newI w5 (ntIt y) rfl | exact RxB) (one1I _) (by unfold maxLen; omega) (by omega) (by first | exact b5.size | (have := b5.size; simp; omega)) ?_
                    intro v7 w7 ho7 hg7 hv7
                    clear hi hz0 hz1 hz2
                    have b7 : Below wc.heap.size wc w7 := (by first | exact b5.trans (below_app (Nat.le_refl _) b5.size ho5 hg7) | exact (b5.alloc b5.size _).trans (below_app (Nat.le_refl _) (by have := b5.size; simp; omega) (ho5.alloc _) hg7))
                    refine hK.out _ _ ?_ (fun hNew => ?_)
                    · exact HCN _ (by first | exact below_dr wc | exact b8 | exact b7 | exact b5 | exact bAL | exact b5.alloc b5.size _ | exact drew_below b8 | exact drew_below b7 | exact drew_below b5 | exact drew_below (b5.alloc b5.size _))
                    clear hK K hHeld
                    have hHeld := hNew
                    clear hNew
                    try simp only [Act.put, pz1, pz2, pz3]
                    refine wpAnyH_ready (rs := [14]) (by kernel_rfl) (by simp) ?_
                    refine AllReadyH.cons (o := ⟨some 81, .call { callee := .builtin .append, args := #[.tmp 77, .tmp 80], argTypes := #[29, 29] }, 29, "ref.go:143", #[⟨10, .data⟩, ⟨13, .data⟩, ⟨10, .chain⟩], none⟩) rfl (fun K hK => ?_) AllReadyH.nil
                    obtain ⟨ti0, hi, hz0, hz1, hz2⟩ := info_parts infoIt
                    refine step_app _ rfl (.tmp 77) (.tmp 80) _ rfl wc.heap.size 50 ti0 _ 2 24 Tryz.underlying29 hi hz0 hz1 hz2 rfl (by decide) (v7) (0 + 1) (((L.map itC).take 0).flatten ++ itC (ntIt y)) rfl ho7 _ 0 _ (((L.map itC).drop 0).flatten) rfl (rdN2 _) oneDp (by unfold maxLen; omega) (by omega) b7.size ?_
                    intro v8 w8 ho8 hg8 hv8
                    clear hi hz0 hz1 hz2
                    (try generalize (if c = 0 then (some ⟨b8, o8, none⟩ : Option Addr) else some ⟨b8, o8 + 0 * 2, none⟩) = A22)
                    have b8 := b7.trans (below_app (Nat.le_refl _) b7.size ho7 hg8)
                    obtain ⟨A8, c8, rfl, hc8, hm8⟩ := own_shape ho8
                    refine hK.out _ _ ?_ (fun hNew => ?_)
                    · exact HCN _ (by first | exact below_dr wc | exact b8 | exact b7 | exact b5 | exact bAL | exact b5.alloc b5.size _ | exact drew_below b8 | exact drew_below b7 | exact drew_below b5 | exact drew_below (b5.alloc b5.size _))
                    clear hK K hHeld
                    have hHeld := hNew
                    clear hNew
                    try simp only [Act.put, pz1, pz2, pz3]
                    refine tk 15 ?_; try simp only [Act.put, pz1, pz2, pz3]
                    refine wpAnyH_done (by kernel_rfl) ?_ _
                    refine NoPanic.normal ?_
                    rw [hE] at ho8
                    have hL8 := sle_of_own ho8 (itC_len _) (by decide)
                    have hN8 : Hid (0 + 1 + 0 = (fndTo s ts (k + 1)).length) := Lib.hid (by rw [HMX.out, HIN.out]; have := HML.out; simp only [List.length_append, List.length_take, List.length_drop, List.length_cons]; omega)
                    clear ho8 hE
                    go_wp2_with fail
                    go_roundw
                    case rel => exact ⟨k + 1, _, c8, A8, by omega, by go_num, rfl, hN8, by omega, hc8, hm8, fun h => by omega, (by rw [HMX.out]; first | exact hL8 | exact SlE.next hL8 (below_dr _)), btr HBW HBW.size (btr HBc HBc.size (by first | exact b8 | exact drew_below b8))⟩
                    case measure => simp [intOf]; omega
                  · go_simp
                    refine hK.out _ _ ?_ (fun hNew => ?_)
                    · exact HCN _ (by first | exact below_dr wc | exact b8 | exact b7 | exact b5 | exact bAL | exact b5.alloc b5.size _ | exact drew_below b8 | exact drew_below b7 | exact drew_below b5 | exact drew_below (b5.alloc b5.size _))
                    clear hK K hHeld
                    have hHeld := hNew
                    clear hNew
                    try simp only [Act.put, pz1, pz2, pz3]
                    refine wpAnyH_ready (rs := [3]) (by kernel_rfl) (by simp) ?_
                    refine AllReadyH.cons (o := ⟨some 70, .call { callee := .builtin .append, args := #[.const (.slice none 0 0), .tmp 69], argTypes := #[29, 29] }, 29, "ref.go:143", #[⟨2, .data⟩], none⟩) rfl (fun K hK => ?_) AllReadyH.nil
                    obtain ⟨ti0, hi, hz0, hz1, hz2⟩ := info_parts infoIt
                    refine step_app _ rfl (.const (.slice none 0 0)) (.tmp 69) _ rfl wc.heap.size 50 ti0 _ 2 24 Tryz.underlying29 hi hz0 hz1 hz2 rfl (by decide) (.slice none 0 0) 0 ([]) rfl (World.ownsRow_nil _ _ _ _) _ 0 _ (((L.map itC).take 0).flatten) rfl (rdN1 _) oneTk (by unfold maxLen; omega) (by omega) (by first | exact Nat.le_refl _ | (simp; done) | (simp; omega)) ?_
                    intro v5 w5 ho5 hg5 hv5
                    clear hi hz0 hz1 hz2
                    rw [Nat.zero_add, List.nil_append] at ho5
                    have b5 : Below wc.heap.size wc w5 := (by first | exact ch_nil (below_dr wc) hg5 | exact ch_nil bAL hg5)
                    (try have RxB := rd_keep2 cx0 cx1 (by simp) hg5)
                    refine hK.out _ _ ?_ (fun hNew => ?_)
                    · exact HCN _ (by first | exact below_dr wc | exact b8 | exact b7 | exact b5 | exact bAL | exact b5.alloc b5.size _ | exact drew_below b8 | exact drew_below b7 | exact drew_below b5 | exact drew_below (b5.alloc b5.size _))
                    clear hK K hHeld
                    have hHeld := hNew
                    clear hNew
                    try simp only [Act.put, pz1, pz2, pz3]
                    refine wpAnyH_ready (rs := [10]) (by kernel_rfl) (by simp) ?_
                    refine AllReadyH.cons (o := ⟨some 77, .call { callee := .builtin .append, args := #[.tmp 70, .tmp 76], argTypes := #[29, 29] }, 29, "ref.go:143", #[⟨3, .data⟩, ⟨9, .data⟩, ⟨3, .chain⟩], none⟩) rfl (fun K hK => ?_) AllReadyH.nil
                    obtain ⟨ti0, hi, hz0, hz1, hz2⟩ := info_parts infoIt
                    refine step_app _ rfl (.tmp 70) (.tmp 76) _ rfl wc.heap.size 50 ti0 _ 2 24 Tryz.underlying29 hi hz0 hz1 hz2 rfl (by decide) (v5) 0 (((L.map itC).take 0).flatten) rfl (by first | exact ho5 | exact ho5.alloc _) _ 1 _ ((itC (ntIt y))) rfl (by first | exact rd_newI w5 (ntIt y) rfl | exact RxB) (one1I _) (by unfold maxLen; omega) (by omega) (by first | exact b5.size | (have := b5.size; simp; omega)) ?_
                    intro v7 w7 ho7 hg7 hv7
                    clear hi hz0 hz1 hz2
                    have b7 : Below wc.heap.size wc w7 := (by first | exact b5.trans (below_app (Nat.le_refl _) b5.size ho5 hg7) | exact (b5.alloc b5.size _).trans (below_app (Nat.le_refl _) (by have := b5.size; simp; omega) (ho5.alloc _) hg7))
                    refine hK.out _ _ ?_ (fun hNew => ?_)
                    · exact HCN _ (by first | exact below_dr wc | exact b8 | exact b7 | exact b5 | exact bAL | exact b5.alloc b5.size _ | exact drew_below b8 | exact drew_below b7 | exact drew_below b5 | exact drew_below (b5.alloc b5.size _))
                    clear hK K hHeld
                    have hHeld := hNew
                    clear hNew
                    try simp only [Act.put, pz1, pz2, pz3]
                    refine wpAnyH_ready (rs := [14]) (by kernel_rfl) (by simp) ?_
                    refine AllReadyH.cons (o := ⟨some 81, .call { callee := .builtin .append, args := #[.tmp 77, .tmp 80], argTypes := #[29, 29] }, 29, "ref.go:143", #[⟨10, .data⟩, ⟨13, .data⟩, ⟨10, .chain⟩], none⟩) rfl (fun K hK => ?_) AllReadyH.nil
                    obtain ⟨ti0, hi, hz0, hz1, hz2⟩ := info_parts infoIt
                    refine step_app _ rfl (.tmp 77) (.tmp 80) _ rfl wc.heap.size 50 ti0 _ 2 24 Tryz.underlying29 hi hz0 hz1 hz2 rfl (by decide) (v7) (0 + 1) (((L.map itC).take 0).flatten ++ itC (ntIt y)) rfl ho7 _ 0 _ (((L.map itC).drop 0).flatten) rfl (rdN2 _) oneDp (by unfold maxLen; omega) (by omega) b7.size ?_
                    intro v8 w8 ho8 hg8 hv8
                    clear hi hz0 hz1 hz2
                    (try generalize (if c = 0 then (some ⟨b8, o8, none⟩ : Option Addr) else some ⟨b8, o8 + 0 * 2, none⟩) = A22)
                    have b8 := b7.trans (below_app (Nat.le_refl _) b7.size ho7 hg8)
                    obtain ⟨A8, c8, rfl, hc8, hm8⟩ := own_shape ho8
                    refine hK.out _ _ ?_ (fun hNew => ?_)
                    · exact HCN _ (by first | exact below_dr wc | exact b8 | exact b7 | exact b5 | exact bAL | exact b5.alloc b5.size _ | exact drew_below b8 | exact drew_below b7 | exact drew_below b5 | exact drew_below (b5.alloc b5.size _))
                    clear hK K hHeld
                    have hHeld := hNew
                    clear hNew
                    try simp only [Act.put, pz1, pz2, pz3]
                    refine tk 15 ?_; try simp only [Act.put, pz1, pz2, pz3]
                    refine wpAnyH_done (by kernel_rfl) ?_ _
                    refine NoPanic.normal ?_
                    rw [hE] at ho8
                    have hL8 := sle_of_own ho8 (itC_len _) (by decide)
                    have hN8 : Hid (0 + 1 + 0 = (fndTo s ts (k + 1)).length) := Lib.hid (by rw [HMX.out, HIN.out]; have := HML.out; simp only [List.length_append, List.length_take, List.length_drop, List.length_cons]; omega)
                    clear ho8 hE
                    go_wp2_with fail
                    go_roundw
                    case rel => exact ⟨k + 1, _, c8, A8, by omega, by go_num, rfl, hN8, by omega, hc8, hm8, fun h => by omega, (by rw [HMX.out]; first | exact hL8 | exact SlE.next hL8 (below_dr _)), btr HBW HBW.size (btr HBc HBc.size (by first | exact b8 | exact drew_below b8))⟩
                    case measure => simp [intOf]; omega
            · have hML : (L.map itC).length = m := by rw [List.length_map, HML.out]
              have hSL0 := hLW
              obtain ⟨b8, o8, rfl, l8, q8⟩ := hSL0.at_ (by rw [hML]; exact hz)
              clear hSL0 h0
              have HCQ : Hid (∀ w_, Below W.heap.size W w_ → w_.cell? ⟨g, 2, none⟩ = some (.string y.nm)) := Lib.hid (fun w_ h => by
                obtain ⟨d0, d1, d2, d3, d4⟩ := cell5 (BX.below h BX.lt)
                exact d2)
              go_wp2_with fail
              go_loopw [12] (fun i wq => ∃ t : Nat, t ≤ m ∧ i = .int .i64 t ∧ Hid (∀ x ∈ L.take t, leqS x.nm y.nm = true) ∧ Below W.heap.size W wq) (fun i _ => m - (intOf i).toNat)
              case atStart => exact ⟨0, by omega, rfl, Lib.hid (fun y hy => by simp at hy), HBx⟩
              case round =>
                obtain ⟨t, HT9, rfl, HT, HBq⟩ := hrel
                have t0 : (0 : Int) ≤ (t : Int) := by omega
                by_cases hlt3 : t < m
                · have t1 : (t : Int) < (m : Int) := by omega
                  obtain ⟨x, hx⟩ : ∃ x, L[t]? = some x := ⟨_, List.getElem?_eq_getElem (by have := HML.out; omega)⟩
                  have HCX : Hid (∀ w_, Below W.heap.size W w_ → w_.cell? ⟨b8, o8 + t * 2 + 1, none⟩ = some (.string x.nm)) := Lib.hid (fun w_ h => (h.cell (p := ⟨b8, _, none⟩) l8).trans (q8 t _ (by rw [List.getElem?_map, hx]; rfl) 1 _ rfl))
                  have HX8 := Lib.hid hx
                  clear hx
                  rcases (by cases hq : Op.bytesLess x.nm.toList y.nm.toList <;> simp : Op.bytesLess x.nm.toList y.nm.toList = true ∨ Op.bytesLess x.nm.toList y.nm.toList = false) with hp | hp
                  · have HT2 : Hid (∀ z ∈ L.take (t + 1), leqS z.nm y.nm = true) := Lib.hid (take_leq HT.out HX8.out (by unfold leqS; rw [hp]; rfl))
                    clear q8 hLW
                    have HE := drew_below HBq
                    have QD : (Below W.heap.size W wr.drew ∧ wr.drew.cell? ⟨g, 2, none⟩ = some (.string y.nm) ∧ wr.drew.cell? ⟨b8, o8 + t * 2 + 1, none⟩ = some (.string x.nm)) := ⟨HE, HCQ.out _ HE, HCX.out _ HE⟩
                    go_upto_region 18 with fail
                    go_cut [64] (fun v wx => v = .bool true ∧ Below W.heap.size W wx)
                    case first =>
                      refine wp_region_noPanic ?_
                      refine wp_region_held_drew (S := (fun w_ => Below W.heap.size W w_ ∧ w_.cell? ⟨g, 2, none⟩ = some (.string y.nm) ∧ w_.cell? ⟨b8, o8 + t * 2 + 1, none⟩ = some (.string x.nm))) (by kernel_rfl) ?_ (fun hHeld => ?_)
                      · exact QD
                      refine tk 0 ?_; try simp only [Act.put, pz1, pz2, pz3]
                      refine tk 1 ?_; try simp only [Act.put, pz1, pz2, pz3]
                      refine tk 2 ?_; try simp only [Act.put, pz1, pz2, pz3]
                      refine tk 3 ?_; try simp only [Act.put, pz1, pz2, pz3]
                      refine tk 4 ?_; try simp only [Act.put, pz1, pz2, pz3]
                      refine tk 5 ?_; try simp only [Act.put, pz1, pz2, pz3]
                      refine tk 6 ?_; try simp only [Act.put, pz1, pz2, pz3]
                      refine tk 7 ?_; try simp only [Act.put, pz1, pz2, pz3]
                      refine tk 8 ?_; try simp only [Act.put, pz1, pz2, pz3]
                      refine tk 9 ?_; try simp only [Act.put, pz1, pz2, pz3]
                      refine tk 10 ?_; try simp only [Act.put, pz1, pz2, pz3]
                      refine tk 11 ?_; try simp only [Act.put, pz1, pz2, pz3]
                      refine tk 12 ?_; try simp only [Act.put, pz1, pz2, pz3]
                      refine tk 13 ?_; try simp only [Act.put, pz1, pz2, pz3]
                      refine wpAnyH_done (by kernel_rfl) ?_ _
                      refine NoPanic.normal ?_
                      go_wp2_with fail
                      go_meet
                      exact ⟨rfl, hHeld.1⟩
                    case rest =>
                      obtain ⟨rfl, HBc⟩ := hcut
                      clear QD HE HBq
                      go_wp2_with fail
                      go_roundw
                      case rel => exact ⟨t + 1, by omega, by go_num, HT2, HBc⟩
                      case measure => simp [intOf]; omega
                  · rcases (by cases hq : (x.nm.toList == y.nm.toList) <;> simp : (x.nm.toList == y.nm.toList) = true ∨ (x.nm.toList == y.nm.toList) = false) with hr | hr
                    · have HT2 : Hid (∀ z ∈ L.take (t + 1), leqS z.nm y.nm = true) := Lib.hid (take_leq HT.out HX8.out (by unfold leqS; rw [hp, hr]; rfl))
                      clear q8 hLW
                      have HE := drew_below HBq
                      have QD : (Below W.heap.size W wr.drew ∧ wr.drew.cell? ⟨g, 2, none⟩ = some (.string y.nm) ∧ wr.drew.cell? ⟨b8, o8 + t * 2 + 1, none⟩ = some (.string x.nm)) := ⟨HE, HCQ.out _ HE, HCX.out _ HE⟩
                      go_upto_region 18 with fail
                      go_cut [64] (fun v wx => v = .bool true ∧ Below W.heap.size W wx)
                      case first =>
                        refine wp_region_noPanic ?_
                        refine wp_region_held_drew (S := (fun w_ => Below W.heap.size W w_ ∧ w_.cell? ⟨g, 2, none⟩ = some (.string y.nm) ∧ w_.cell? ⟨b8, o8 + t * 2 + 1, none⟩ = some (.string x.nm))) (by kernel_rfl) ?_ (fun hHeld => ?_)
                        · exact QD
                        refine tk 0 ?_; try simp only [Act.put, pz1, pz2, pz3]
                        refine tk 1 ?_; try simp only [Act.put, pz1, pz2, pz3]
                        refine tk 2 ?_; try simp only [Act.put, pz1, pz2, pz3]
                        refine tk 3 ?_; try simp only [Act.put, pz1, pz2, pz3]
                        refine tk 4 ?_; try simp only [Act.put, pz1, pz2, pz3]
                        refine tk 5 ?_; try simp only [Act.put, pz1, pz2, pz3]
                        refine tk 6 ?_; try simp only [Act.put, pz1, pz2, pz3]
                        refine tk 7 ?_; try simp only [Act.put, pz1, pz2, pz3]
                        refine tk 8 ?_; try simp only [Act.put, pz1, pz2, pz3]
                        refine tk 9 ?_; try simp only [Act.put, pz1, pz2, pz3]
                        refine tk 10 ?_; try simp only [Act.put, pz1, pz2, pz3]
                        refine tk 11 ?_; try simp only [Act.put, pz1, pz2, pz3]
                        refine tk 12 ?_; try simp only [Act.put, pz1, pz2, pz3]
                        refine tk 13 ?_; try simp only [Act.put, pz1, pz2, pz3]
                        refine wpAnyH_done (by kernel_rfl) ?_ _
                        refine NoPanic.normal ?_
                        go_wp2_with fail
                        go_meet
                        exact ⟨rfl, hHeld.1⟩
                      case rest =>
                        obtain ⟨rfl, HBc⟩ := hcut
                        clear QD HE HBq
                        go_wp2_with fail
                        go_roundw
                        case rel => exact ⟨t + 1, by omega, by go_num, HT2, HBc⟩
                        case measure => simp [intOf]; omega
                    · have HIN : Hid (insI L (ntIt y) = L.take t ++ ntIt y :: L.drop t) := Lib.hid (insI_at L (ntIt y) t HT.out (by have := HML.out; omega) (fun z hz2 => by rw [HX8.out] at hz2; cases hz2; show (Op.bytesLess x.nm.toList y.nm.toList || (x.nm.toList == y.nm.toList)) = false; rw [hp, hr]; rfl))
                      have htc : t ≤ c := by omega
                      clear q8
                      have HE := drew_below HBq
                      have QD : (Below W.heap.size W wr.drew ∧ wr.drew.cell? ⟨g, 2, none⟩ = some (.string y.nm) ∧ wr.drew.cell? ⟨b8, o8 + t * 2 + 1, none⟩ = some (.string x.nm)) := ⟨HE, HCQ.out _ HE, HCX.out _ HE⟩
                      go_upto_region 18 with fail
                      go_cut [64] (fun v wx => v = .bool false ∧ Below W.heap.size W wx)
                      case first =>
                        refine wp_region_noPanic ?_
                        refine wp_region_held_drew (S := (fun w_ => Below W.heap.size W w_ ∧ w_.cell? ⟨g, 2, none⟩ = some (.string y.nm) ∧ w_.cell? ⟨b8, o8 + t * 2 + 1, none⟩ = some (.string x.nm))) (by kernel_rfl) ?_ (fun hHeld => ?_)
                        · exact QD
                        refine tk 0 ?_; try simp only [Act.put, pz1, pz2, pz3]
                        refine tk 1 ?_; try simp only [Act.put, pz1, pz2, pz3]
                        refine tk 2 ?_; try simp only [Act.put, pz1, pz2, pz3]
                        refine tk 3 ?_; try simp only [Act.put, pz1, pz2, pz3]
                        refine tk 4 ?_; try simp only [Act.put, pz1, pz2, pz3]
                        refine tk 5 ?_; try simp only [Act.put, pz1, pz2, pz3]
                        refine tk 6 ?_; try simp only [Act.put, pz1, pz2, pz3]
                        refine tk 7 ?_; try simp only [Act.put, pz1, pz2, pz3]
                        refine tk 8 ?_; try simp only [Act.put, pz1, pz2, pz3]
                        refine tk 9 ?_; try simp only [Act.put, pz1, pz2, pz3]
                        refine tk 10 ?_; try simp only [Act.put, pz1, pz2, pz3]
                        refine tk 11 ?_; try simp only [Act.put, pz1, pz2, pz3]
                        refine tk 12 ?_; try simp only [Act.put, pz1, pz2, pz3]
                        refine tk 13 ?_; try simp only [Act.put, pz1, pz2, pz3]
                        refine wpAnyH_done (by kernel_rfl) ?_ _
                        refine NoPanic.normal ?_
                        go_wp2_with fail
                        go_meet
                        exact ⟨rfl, hHeld.1⟩
                      case rest =>
                        obtain ⟨rfl, HBc⟩ := hcut
                        clear QD HE HBq
                        obtain ⟨d0, d1, d2, d3, d4⟩ := cell5 (BX.below HBc BX.lt)
                        have hSL := SlE.next hLW HBc
                        have gl : g < wc.heap.size := by have h1 := BX.lt; have h2 := HBc.size; omega
                        clear d1 d3 d4
                        have bAL : Below wc.heap.size wc (wc.alloc (.cells #[.int .i64 y.id, .string y.nm] 50)).drew := drew_below ((Below.refl _ _).alloc (Nat.le_refl _) _)
                        have cx0 : (wc.alloc (.cells #[.int .i64 y.id, .string y.nm] 50)).drew.cell? ⟨wc.heap.size, 0, none⟩ = some (.int .i64 y.id) := by
                          show (wc.alloc (.cells #[.int .i64 y.id, .string y.nm] 50)).cell? ⟨wc.heap.size, 0, none⟩ = some (.int .i64 y.id)
                          rw [Joins.cell_of_block (heap_alloc_new wc _)]
                          rfl
                        have cx1 : (wc.alloc (.cells #[.int .i64 y.id, .string y.nm] 50)).drew.cell? ⟨wc.heap.size, 1, none⟩ = some (.string y.nm) := by
                          show (wc.alloc (.cells #[.int .i64 y.id, .string y.nm] 50)).cell? ⟨wc.heap.size, 1, none⟩ = some (.string y.nm)
                          rw [Joins.cell_of_block (heap_alloc_new wc _)]
                          rfl
                        have hE : ((L.map itC).take t).flatten ++ itC (ntIt y) ++ ((L.map itC).drop t).flatten = ((insI L (ntIt y)).map itC).flatten := by
                          rw [HIN.out]
                          simp [List.map_take, List.map_drop]
                        have oneTk : ∀ u ∈ ((L.map itC).take t).flatten, u.oneCell' = true := fun u hu => by
                          obtain ⟨l, hl, hul⟩ := List.mem_flatten.1 hu
                          obtain ⟨x, _, rfl⟩ := List.mem_map.1 (List.mem_of_mem_take hl)
                          exact one1I x u hul
                        have oneDp : ∀ u ∈ ((L.map itC).drop t).flatten, u.oneCell' = true := fun u hu => by
                          obtain ⟨l, hl, hul⟩ := List.mem_flatten.1 hu
                          obtain ⟨x, _, rfl⟩ := List.mem_map.1 (List.mem_of_mem_drop hl)
                          exact one1I x u hul
                        have HCN : ∀ w_, Below wc.heap.size wc w_ → w_.cell? ⟨g, 0, none⟩ = some (.int .i64 y.id) ∧ w_.cell? ⟨g, 2, none⟩ = some (.string y.nm) := fun w_ h => ⟨keep_c d0 h gl, keep_c d2 h gl⟩
                        go_upto_region 20 with fail
                        refine wp_region_noPanic ?_
                        refine wp_region_held_drew (S := (fun w_ => w_.cell? ⟨g, 0, none⟩ = some (.int .i64 y.id) ∧ w_.cell? ⟨g, 2, none⟩ = some (.string y.nm))) (by kernel_rfl) ?_ (fun hHeld => ?_)
                        · exact HCN _ (by first | exact below_dr wc | exact b8 | exact b7 | exact b5 | exact bAL | exact b5.alloc b5.size _ | exact drew_below b8 | exact drew_below b7 | exact drew_below b5 | exact drew_below (b5.alloc b5.size _))
                        refine tk 0 ?_; try simp only [Act.put, pz1, pz2, pz3]
                        refine tk 1 ?_; try simp only [Act.put, pz1, pz2, pz3]
                        refine tk 2 ?_; try simp only [Act.put, pz1, pz2, pz3]
                        refine tk 4 ?_; try simp only [Act.put, pz1, pz2, pz3]
                        refine tk 5 ?_; try simp only [Act.put, pz1, pz2, pz3]
                        refine tk 6 ?_; try simp only [Act.put, pz1, pz2, pz3]
                        refine tk 7 ?_; try simp only [Act.put, pz1, pz2, pz3]
                        refine tk 8 ?_; try simp only [Act.put, pz1, pz2, pz3]
                        refine tk 11 ?_; try simp only [Act.put, pz1, pz2, pz3]
                        refine tk 12 ?_; try simp only [Act.put, pz1, pz2, pz3]
                        refine tk 13 ?_; try simp only [Act.put, pz1, pz2, pz3]
                        refine wpAnyH_ready (rs := [3, 9]) (by kernel_rfl) (by simp) ?_
                        refine (AllReadyH.cons (o := ⟨some 70, .call { callee := .builtin .append, args := #[.const (.slice none 0 0), .tmp 69], argTypes := #[29, 29] }, 29, "ref.go:143", #[⟨2, .data⟩], none⟩) rfl (fun K hK => ?_) (AllReadyH.cons (o := ⟨some 76, .buildSlice 29 1 #[(0, .tmp 75)], 29, "ref.go:143", #[⟨8, .data⟩], none⟩) rfl (fun K hK => ?_) AllReadyH.nil))
                        · obtain ⟨ti0, hi, hz0, hz1, hz2⟩ := info_parts infoIt
                          refine step_app _ rfl (.const (.slice none 0 0)) (.tmp 69) _ rfl wc.heap.size 50 ti0 _ 2 24 Tryz.underlying29 hi hz0 hz1 hz2 rfl (by decide) (.slice none 0 0) 0 ([]) rfl (World.ownsRow_nil _ _ _ _) _ t _ (((L.map itC).take t).flatten) rfl (by first | exact rdE_take (SlE.next hSL (below_dr wc)) (itC_len L) hML HT9 | exact rdE_take (SlE.next hSL bAL) (itC_len L) hML HT9) oneTk (by unfold maxLen; omega) (by omega) (by first | exact Nat.le_refl _ | (simp; done) | (simp; omega)) ?_
                          intro v5 w5 ho5 hg5 hv5
                          clear hi hz0 hz1 hz2
                          rw [Nat.zero_add, List.nil_append] at ho5
                          have b5 : Below wc.heap.size wc w5 := (by first | exact ch_nil (below_dr wc) hg5 | exact ch_nil bAL hg5)
                          (try have RxB := rd_keep2 cx0 cx1 (by simp) hg5)
                          refine hK.out _ _ ?_ (fun hNew => ?_)
                          · exact HCN _ (by first | exact below_dr wc | exact b8 | exact b7 | exact b5 | exact bAL | exact b5.alloc b5.size _ | exact drew_below b8 | exact drew_below b7 | exact drew_below b5 | exact drew_below (b5.alloc b5.size _))
                          clear hK K hHeld
                          have hHeld := hNew
                          clear hNew
                          try simp only [Act.put, pz1, pz2, pz3]
                          refine wpAnyH_ready (rs := [9]) (by kernel_rfl) (by simp) ?_
                          refine AllReadyH.cons (o := ⟨some 76, .buildSlice 29 1 #[(0, .tmp 75)], 29, "ref.go:143", #[⟨8, .data⟩], none⟩) rfl (fun K hK => ?_) AllReadyH.nil
                          go_simp
                          refine hK.out _ _ ?_ (fun hNew => ?_)
                          · exact HCN _ (by first | exact below_dr wc | exact b8 | exact b7 | exact b5 | exact bAL | exact b5.alloc b5.size _ | exact drew_below b8 | exact drew_below b7 | exact drew_below b5 | exact drew_below (b5.alloc b5.size _))
                          clear hK K hHeld
                          have hHeld := hNew
                          clear hNew
                          try simp only [Act.put, pz1, pz2, pz3]
                          refine wpAnyH_ready (rs := [10]) (by kernel_rfl) (by simp) ?_
                          refine AllReadyH.cons (o := ⟨some 77, .call { callee := .builtin .append, args := #[.tmp 70, .tmp 76], argTypes := #[29, 29] }, 29, "ref.go:143", #[⟨3, .data⟩, ⟨9, .data⟩, ⟨3, .chain⟩], none⟩) rfl (fun K hK => ?_) AllReadyH.nil
                          obtain ⟨ti0, hi, hz0, hz1, hz2⟩ := info_parts infoIt
                          refine step_app _ rfl (.tmp 70) (.tmp 76) _ rfl wc.heap.size 50 ti0 _ 2 24 Tryz.underlying29 hi hz0 hz1 hz2 rfl (by decide) (v5) t (((L.map itC).take t).flatten) rfl (by first | exact ho5 | exact ho5.alloc _) _ 1 _ ((itC (ntIt y))) rfl (by first | exact rd_newI w5 (ntIt y) rfl | exact RxB) (one1I _) (by unfold maxLen; omega) (by omega) (by first | exact b5.size | (have := b5.size; simp; omega)) ?_
                          intro v7 w7 ho7 hg7 hv7
                          clear hi hz0 hz1 hz2
                          have b7 : Below wc.heap.size wc w7 := (by first | exact b5.trans (below_app (Nat.le_refl _) b5.size ho5 hg7) | exact (b5.alloc b5.size _).trans (below_app (Nat.le_refl _) (by have := b5.size; simp; omega) (ho5.alloc _) hg7))
                          refine hK.out _ _ ?_ (fun hNew => ?_)
                          · exact HCN _ (by first | exact below_dr wc | exact b8 | exact b7 | exact b5 | exact bAL | exact b5.alloc b5.size _ | exact drew_below b8 | exact drew_below b7 | exact drew_below b5 | exact drew_below (b5.alloc b5.size _))
                          clear hK K hHeld
                          have hHeld := hNew
                          clear hNew
                          try simp only [Act.put, pz1, pz2, pz3]
                          refine wpAnyH_ready (rs := [14]) (by kernel_rfl) (by simp) ?_
                          refine AllReadyH.cons (o := ⟨some 81, .call { callee := .builtin .append, args := #[.tmp 77, .tmp 80], argTypes := #[29, 29] }, 29, "ref.go:143", #[⟨10, .data⟩, ⟨13, .data⟩, ⟨10, .chain⟩], none⟩) rfl (fun K hK => ?_) AllReadyH.nil
                          obtain ⟨ti0, hi, hz0, hz1, hz2⟩ := info_parts infoIt
                          refine step_app _ rfl (.tmp 77) (.tmp 80) _ rfl wc.heap.size 50 ti0 _ 2 24 Tryz.underlying29 hi hz0 hz1 hz2 rfl (by decide) (v7) (t + 1) (((L.map itC).take t).flatten ++ itC (ntIt y)) rfl ho7 _ (m - t) _ (((L.map itC).drop t).flatten) rfl (rdE_drop (SlE.next hSL b7) (itC_len L) hML HT9 hmc) oneDp (by unfold maxLen; omega) (by omega) b7.size ?_
                          intro v8 w8 ho8 hg8 hv8
                          clear hi hz0 hz1 hz2
                          (try generalize (if c = t then (some ⟨b8, o8, none⟩ : Option Addr) else some ⟨b8, o8 + t * 2, none⟩) = A22)
                          have b8 := b7.trans (below_app (Nat.le_refl _) b7.size ho7 hg8)
                          obtain ⟨A8, c8, rfl, hc8, hm8⟩ := own_shape ho8
                          refine hK.out _ _ ?_ (fun hNew => ?_)
                          · exact HCN _ (by first | exact below_dr wc | exact b8 | exact b7 | exact b5 | exact bAL | exact b5.alloc b5.size _ | exact drew_below b8 | exact drew_below b7 | exact drew_below b5 | exact drew_below (b5.alloc b5.size _))
                          clear hK K hHeld
                          have hHeld := hNew
                          clear hNew
                          try simp only [Act.put, pz1, pz2, pz3]
                          refine tk 15 ?_; try simp only [Act.put, pz1, pz2, pz3]
                          refine wpAnyH_done (by kernel_rfl) ?_ _
                          refine NoPanic.normal ?_
                          rw [hE] at ho8
                          have hL8 := sle_of_own ho8 (itC_len _) (by decide)
                          have hN8 : Hid (t + 1 + (m - t) = (fndTo s ts (k + 1)).length) := Lib.hid (by rw [HMX.out, HIN.out]; have := HML.out; simp only [List.length_append, List.length_take, List.length_drop, List.length_cons]; omega)
                          clear ho8 hE
                          go_wp2_with fail
                          go_roundw
                          case rel => exact ⟨k + 1, _, c8, A8, by omega, by go_num, rfl, hN8, by omega, hc8, hm8, fun h => by omega, (by rw [HMX.out]; first | exact hL8 | exact SlE.next hL8 (below_dr _)), btr HBW HBW.size (btr HBc HBc.size (by first | exact b8 | exact drew_below b8))⟩
                          case measure => simp [intOf]; omega
                        · go_simp
                          refine hK.out _ _ ?_ (fun hNew => ?_)
                          · exact HCN _ (by first | exact below_dr wc | exact b8 | exact b7 | exact b5 | exact bAL | exact b5.alloc b5.size _ | exact drew_below b8 | exact drew_below b7 | exact drew_below b5 | exact drew_below (b5.alloc b5.size _))
                          clear hK K hHeld
                          have hHeld := hNew
                          clear hNew
                          try simp only [Act.put, pz1, pz2, pz3]
                          refine wpAnyH_ready (rs := [3]) (by kernel_rfl) (by simp) ?_
                          refine AllReadyH.cons (o := ⟨some 70, .call { callee := .builtin .append, args := #[.const (.slice none 0 0), .tmp 69], argTypes := #[29, 29] }, 29, "ref.go:143", #[⟨2, .data⟩], none⟩) rfl (fun K hK => ?_) AllReadyH.nil
                          obtain ⟨ti0, hi, hz0, hz1, hz2⟩ := info_parts infoIt
                          refine step_app _ rfl (.const (.slice none 0 0)) (.tmp 69) _ rfl wc.heap.size 50 ti0 _ 2 24 Tryz.underlying29 hi hz0 hz1 hz2 rfl (by decide) (.slice none 0 0) 0 ([]) rfl (World.ownsRow_nil _ _ _ _) _ t _ (((L.map itC).take t).flatten) rfl (by first | exact rdE_take (SlE.next hSL (below_dr wc)) (itC_len L) hML HT9 | exact rdE_take (SlE.next hSL bAL) (itC_len L) hML HT9) oneTk (by unfold maxLen; omega) (by omega) (by first | exact Nat.le_refl _ | (simp; done) | (simp; omega)) ?_
                          intro v5 w5 ho5 hg5 hv5
                          clear hi hz0 hz1 hz2
                          rw [Nat.zero_add, List.nil_append] at ho5
                          have b5 : Below wc.heap.size wc w5 := (by first | exact ch_nil (below_dr wc) hg5 | exact ch_nil bAL hg5)
                          (try have RxB := rd_keep2 cx0 cx1 (by simp) hg5)
                          refine hK.out _ _ ?_ (fun hNew => ?_)
                          · exact HCN _ (by first | exact below_dr wc | exact b8 | exact b7 | exact b5 | exact bAL | exact b5.alloc b5.size _ | exact drew_below b8 | exact drew_below b7 | exact drew_below b5 | exact drew_below (b5.alloc b5.size _))
                          clear hK K hHeld
                          have hHeld := hNew
                          clear hNew
                          try simp only [Act.put, pz1, pz2, pz3]
                          refine wpAnyH_ready (rs := [10]) (by kernel_rfl) (by simp) ?_
                          refine AllReadyH.cons (o := ⟨some 77, .call { callee := .builtin .append, args := #[.tmp 70, .tmp 76], argTypes := #[29, 29] }, 29, "ref.go:143", #[⟨3, .data⟩, ⟨9, .data⟩, ⟨3, .chain⟩], none⟩) rfl (fun K hK => ?_) AllReadyH.nil
                          obtain ⟨ti0, hi, hz0, hz1, hz2⟩ := info_parts infoIt
                          refine step_app _ rfl (.tmp 70) (.tmp 76) _ rfl wc.heap.size 50 ti0 _ 2 24 Tryz.underlying29 hi hz0 hz1 hz2 rfl (by decide) (v5) t (((L.map itC).take t).flatten) rfl (by first | exact ho5 | exact ho5.alloc _) _ 1 _ ((itC (ntIt y))) rfl (by first | exact rd_newI w5 (ntIt y) rfl | exact RxB) (one1I _) (by unfold maxLen; omega) (by omega) (by first | exact b5.size | (have := b5.size; simp; omega)) ?_
                          intro v7 w7 ho7 hg7 hv7
                          clear hi hz0 hz1 hz2
                          have b7 : Below wc.heap.size wc w7 := (by first | exact b5.trans (below_app (Nat.le_refl _) b5.size ho5 hg7) | exact (b5.alloc b5.size _).trans (below_app (Nat.le_refl _) (by have := b5.size; simp; omega) (ho5.alloc _) hg7))
                          refine hK.out _ _ ?_ (fun hNew => ?_)
                          · exact HCN _ (by first | exact below_dr wc | exact b8 | exact b7 | exact b5 | exact bAL | exact b5.alloc b5.size _ | exact drew_below b8 | exact drew_below b7 | exact drew_below b5 | exact drew_below (b5.alloc b5.size _))
                          clear hK K hHeld
                          have hHeld := hNew
                          clear hNew
                          try simp only [Act.put, pz1, pz2, pz3]
                          refine wpAnyH_ready (rs := [14]) (by kernel_rfl) (by simp) ?_
                          refine AllReadyH.cons (o := ⟨some 81, .call { callee := .builtin .append, args := #[.tmp 77, .tmp 80], argTypes := #[29, 29] }, 29, "ref.go:143", #[⟨10, .data⟩, ⟨13, .data⟩, ⟨10, .chain⟩], none⟩) rfl (fun K hK => ?_) AllReadyH.nil
                          obtain ⟨ti0, hi, hz0, hz1, hz2⟩ := info_parts infoIt
                          refine step_app _ rfl (.tmp 77) (.tmp 80) _ rfl wc.heap.size 50 ti0 _ 2 24 Tryz.underlying29 hi hz0 hz1 hz2 rfl (by decide) (v7) (t + 1) (((L.map itC).take t).flatten ++ itC (ntIt y)) rfl ho7 _ (m - t) _ (((L.map itC).drop t).flatten) rfl (rdE_drop (SlE.next hSL b7) (itC_len L) hML HT9 hmc) oneDp (by unfold maxLen; omega) (by omega) b7.size ?_
                          intro v8 w8 ho8 hg8 hv8
                          clear hi hz0 hz1 hz2
                          (try generalize (if c = t then (some ⟨b8, o8, none⟩ : Option Addr) else some ⟨b8, o8 + t * 2, none⟩) = A22)
                          have b8 := b7.trans (below_app (Nat.le_refl _) b7.size ho7 hg8)
                          obtain ⟨A8, c8, rfl, hc8, hm8⟩ := own_shape ho8
                          refine hK.out _ _ ?_ (fun hNew => ?_)
                          · exact HCN _ (by first | exact below_dr wc | exact b8 | exact b7 | exact b5 | exact bAL | exact b5.alloc b5.size _ | exact drew_below b8 | exact drew_below b7 | exact drew_below b5 | exact drew_below (b5.alloc b5.size _))
                          clear hK K hHeld
                          have hHeld := hNew
                          clear hNew
                          try simp only [Act.put, pz1, pz2, pz3]
                          refine tk 15 ?_; try simp only [Act.put, pz1, pz2, pz3]
                          refine wpAnyH_done (by kernel_rfl) ?_ _
                          refine NoPanic.normal ?_
                          rw [hE] at ho8
                          have hL8 := sle_of_own ho8 (itC_len _) (by decide)
                          have hN8 : Hid (t + 1 + (m - t) = (fndTo s ts (k + 1)).length) := Lib.hid (by rw [HMX.out, HIN.out]; have := HML.out; simp only [List.length_append, List.length_take, List.length_drop, List.length_cons]; omega)
                          clear ho8 hE
                          go_wp2_with fail
                          go_roundw
                          case rel => exact ⟨k + 1, _, c8, A8, by omega, by go_num, rfl, hN8, by omega, hc8, hm8, fun h => by omega, (by rw [HMX.out]; first | exact hL8 | exact SlE.next hL8 (below_dr _)), btr HBW HBW.size (btr HBc HBc.size (by first | exact b8 | exact drew_below b8))⟩
                          case measure => simp [intOf]; omega
                · obtain rfl : m = t := by omega
                  have HIN : Hid (insI L (ntIt y) = L.take m ++ ntIt y :: L.drop m) := Lib.hid (insI_at L (ntIt y) m HT.out (by have := HML.out; omega) (fun z hz2 => by rw [List.getElem?_eq_none (by have := HML.out; omega)] at hz2; cases hz2))
                  clear q8
                  have HE := drew_below HBq
                  have QD : (Below W.heap.size W wr.drew ∧ wr.drew.cell? ⟨g, 2, none⟩ = some (.string y.nm)) := ⟨HE, HCQ.out _ HE⟩
                  go_upto_region 18 with fail
                  go_cut [64] (fun v wx => v = .bool false ∧ Below W.heap.size W wx)
                  case first =>
                    refine wp_region_noPanic ?_
                    refine wp_region_held_drew (S := (fun w_ => Below W.heap.size W w_ ∧ w_.cell? ⟨g, 2, none⟩ = some (.string y.nm))) (by kernel_rfl) ?_ (fun hHeld => ?_)
                    · exact QD
                    refine tk 0 ?_; try simp only [Act.put, pz1, pz2, pz3]
                    refine tk 1 ?_; try simp only [Act.put, pz1, pz2, pz3]
                    refine tk 2 ?_; try simp only [Act.put, pz1, pz2, pz3]
                    refine tk 3 ?_; try simp only [Act.put, pz1, pz2, pz3]
                    refine tk 4 ?_; try simp only [Act.put, pz1, pz2, pz3]
                    refine tu 5 ?_
                    try simp only [Act.put, pz1, pz2, pz3]
                    refine tu 6 ?_
                    try simp only [Act.put, pz1, pz2, pz3]
                    refine tu 7 ?_
                    try simp only [Act.put, pz1, pz2, pz3]
                    refine tu 8 ?_
                    try simp only [Act.put, pz1, pz2, pz3]
                    refine tu 9 ?_
                    try simp only [Act.put, pz1, pz2, pz3]
                    refine tu 10 ?_
                    try simp only [Act.put, pz1, pz2, pz3]
                    refine tu 11 ?_
                    try simp only [Act.put, pz1, pz2, pz3]
                    refine tu 12 ?_
                    try simp only [Act.put, pz1, pz2, pz3]
                    refine tk 13 ?_; try simp only [Act.put, pz1, pz2, pz3]
                    refine wpAnyH_done (by kernel_rfl) ?_ _
                    refine NoPanic.normal ?_
                    go_wp2_with fail
                    go_meet
                    exact ⟨rfl, hHeld.1⟩
                  case rest =>
                    obtain ⟨rfl, HBc⟩ := hcut
                    clear QD HE HBq
                    obtain ⟨d0, d1, d2, d3, d4⟩ := cell5 (BX.below HBc BX.lt)
                    have hSL := SlE.next hLW HBc
                    have gl : g < wc.heap.size := by have h1 := BX.lt; have h2 := HBc.size; omega
                    clear d1 d3 d4
                    have bAL : Below wc.heap.size wc (wc.alloc (.cells #[.int .i64 y.id, .string y.nm] 50)).drew := drew_below ((Below.refl _ _).alloc (Nat.le_refl _) _)
                    have cx0 : (wc.alloc (.cells #[.int .i64 y.id, .string y.nm] 50)).drew.cell? ⟨wc.heap.size, 0, none⟩ = some (.int .i64 y.id) := by
                      show (wc.alloc (.cells #[.int .i64 y.id, .string y.nm] 50)).cell? ⟨wc.heap.size, 0, none⟩ = some (.int .i64 y.id)
                      rw [Joins.cell_of_block (heap_alloc_new wc _)]
                      rfl
                    have cx1 : (wc.alloc (.cells #[.int .i64 y.id, .string y.nm] 50)).drew.cell? ⟨wc.heap.size, 1, none⟩ = some (.string y.nm) := by
                      show (wc.alloc (.cells #[.int .i64 y.id, .string y.nm] 50)).cell? ⟨wc.heap.size, 1, none⟩ = some (.string y.nm)
                      rw [Joins.cell_of_block (heap_alloc_new wc _)]
                      rfl
                    have hE : ((L.map itC).take m).flatten ++ itC (ntIt y) ++ ((L.map itC).drop m).flatten = ((insI L (ntIt y)).map itC).flatten := by
                      rw [HIN.out]
                      simp [List.map_take, List.map_drop]
                    have oneTk : ∀ u ∈ ((L.map itC).take m).flatten, u.oneCell' = true := fun u hu => by
                      obtain ⟨l, hl, hul⟩ := List.mem_flatten.1 hu
                      obtain ⟨x, _, rfl⟩ := List.mem_map.1 (List.mem_of_mem_take hl)
                      exact one1I x u hul
                    have oneDp : ∀ u ∈ ((L.map itC).drop m).flatten, u.oneCell' = true := fun u hu => by
                      obtain ⟨l, hl, hul⟩ := List.mem_flatten.1 hu
                      obtain ⟨x, _, rfl⟩ := List.mem_map.1 (List.mem_of_mem_drop hl)
                      exact one1I x u hul
                    have HCN : ∀ w_, Below wc.heap.size wc w_ → w_.cell? ⟨g, 0, none⟩ = some (.int .i64 y.id) ∧ w_.cell? ⟨g, 2, none⟩ = some (.string y.nm) := fun w_ h => ⟨keep_c d0 h gl, keep_c d2 h gl⟩
                    go_upto_region 20 with fail
                    refine wp_region_noPanic ?_
                    refine wp_region_held_drew (S := (fun w_ => w_.cell? ⟨g, 0, none⟩ = some (.int .i64 y.id) ∧ w_.cell? ⟨g, 2, none⟩ = some (.string y.nm))) (by kernel_rfl) ?_ (fun hHeld => ?_)
                    · exact HCN _ (by first | exact below_dr wc | exact b8 | exact b7 | exact b5 | exact bAL | exact b5.alloc b5.size _ | exact drew_below b8 | exact drew_below b7 | exact drew_below b5 | exact drew_below (b5.alloc b5.size _))
                    refine tk 0 ?_; try simp only [Act.put, pz1, pz2, pz3]
                    refine tk 1 ?_; try simp only [Act.put, pz1, pz2, pz3]
                    refine tk 2 ?_; try simp only [Act.put, pz1, pz2, pz3]
                    refine tk 4 ?_; try simp only [Act.put, pz1, pz2, pz3]
                    refine tk 5 ?_; try simp only [Act.put, pz1, pz2, pz3]
                    refine tk 6 ?_; try simp only [Act.put, pz1, pz2, pz3]
                    refine tk 7 ?_; try simp only [Act.put, pz1, pz2, pz3]
                    refine tk 8 ?_; try simp only [Act.put, pz1, pz2, pz3]
                    refine tk 11 ?_; try simp only [Act.put, pz1, pz2, pz3]
                    refine tk 12 ?_; try simp only [Act.put, pz1, pz2, pz3]
                    refine tk 13 ?_; try simp only [Act.put, pz1, pz2, pz3]
                    refine wpAnyH_ready (rs := [3, 9]) (by kernel_rfl) (by simp) ?_
                    refine (AllReadyH.cons (o := ⟨some 70, .call { callee := .builtin .append, args := #[.const (.slice none 0 0), .tmp 69], argTypes := #[29, 29] }, 29, "ref.go:143", #[⟨2, .data⟩], none⟩) rfl (fun K hK => ?_) (AllReadyH.cons (o := ⟨some 76, .buildSlice 29 1 #[(0, .tmp 75)], 29, "ref.go:143", #[⟨8, .data⟩], none⟩) rfl (fun K hK => ?_) AllReadyH.nil))
                    · obtain ⟨ti0, hi, hz0, hz1, hz2⟩ := info_parts infoIt
                      refine step_app _ rfl (.const (.slice none 0 0)) (.tmp 69) _ rfl wc.heap.size 50 ti0 _ 2 24 Tryz.underlying29 hi hz0 hz1 hz2 rfl (by decide) (.slice none 0 0) 0 ([]) rfl (World.ownsRow_nil _ _ _ _) _ m _ (((L.map itC).take m).flatten) rfl (by first | exact rdE_take (SlE.next hSL (below_dr wc)) (itC_len L) hML HT9 | exact rdE_take (SlE.next hSL bAL) (itC_len L) hML HT9) oneTk (by unfold maxLen; omega) (by omega) (by first | exact Nat.le_refl _ | (simp; done) | (simp; omega)) ?_
                      intro v5 w5 ho5 hg5 hv5
                      clear hi hz0 hz1 hz2
                      rw [Nat.zero_add, List.nil_append] at ho5
                      have b5 : Below wc.heap.size wc w5 := (by first | exact ch_nil (below_dr wc) hg5 | exact ch_nil bAL hg5)
                      (try have RxB := rd_keep2 cx0 cx1 (by simp) hg5)
                      refine hK.out _ _ ?_ (fun hNew => ?_)
                      · exact HCN _ (by first | exact below_dr wc | exact b8 | exact b7 | exact b5 | exact bAL | exact b5.alloc b5.size _ | exact drew_below b8 | exact drew_below b7 | exact drew_below b5 | exact drew_below (b5.alloc b5.size _))
                      clear hK K hHeld
                      have hHeld := hNew
                      clear hNew
                      try simp only [Act.put, pz1, pz2, pz3]
                      refine wpAnyH_ready (rs := [9]) (by kernel_rfl) (by simp) ?_
                      refine AllReadyH.cons (o := ⟨some 76, .buildSlice 29 1 #[(0, .tmp 75)], 29, "ref.go:143", #[⟨8, .data⟩], none⟩) rfl (fun K hK => ?_) AllReadyH.nil
                      go_simp
                      refine hK.out _ _ ?_ (fun hNew => ?_)
                      · exact HCN _ (by first | exact below_dr wc | exact b8 | exact b7 | exact b5 | exact bAL | exact b5.alloc b5.size _ | exact drew_below b8 | exact drew_below b7 | exact drew_below b5 | exact drew_below (b5.alloc b5.size _))
                      clear hK K hHeld
                      have hHeld := hNew
                      clear hNew
                      try simp only [Act.put, pz1, pz2, pz3]
                      refine wpAnyH_ready (rs := [10]) (by kernel_rfl) (by simp) ?_
                      refine AllReadyH.cons (o := ⟨some 77, .call { callee := .builtin .append, args := #[.tmp 70, .tmp 76], argTypes := #[29, 29] }, 29, "ref.go:143", #[⟨3, .data⟩, ⟨9, .data⟩, ⟨3, .chain⟩], none⟩) rfl (fun K hK => ?_) AllReadyH.nil
                      obtain ⟨ti0, hi, hz0, hz1, hz2⟩ := info_parts infoIt
                      refine step_app _ rfl (.tmp 70) (.tmp 76) _ rfl wc.heap.size 50 ti0 _ 2 24 Tryz.underlying29 hi hz0 hz1 hz2 rfl (by decide) (v5) m (((L.map itC).take m).flatten) rfl (by first | exact ho5 | exact ho5.alloc _) _ 1 _ ((itC (ntIt y))) rfl (by first | exact rd_newI w5 (ntIt y) rfl | exact RxB) (one1I _) (by unfold maxLen; omega) (by omega) (by first | exact b5.size | (have := b5.size; simp; omega)) ?_
                      intro v7 w7 ho7 hg7 hv7
                      clear hi hz0 hz1 hz2
                      have b7 : Below wc.heap.size wc w7 := (by first | exact b5.trans (below_app (Nat.le_refl _) b5.size ho5 hg7) | exact (b5.alloc b5.size _).trans (below_app (Nat.le_refl _) (by have := b5.size; simp; omega) (ho5.alloc _) hg7))
                      refine hK.out _ _ ?_ (fun hNew => ?_)
                      · exact HCN _ (by first | exact below_dr wc | exact b8 | exact b7 | exact b5 | exact bAL | exact b5.alloc b5.size _ | exact drew_below b8 | exact drew_below b7 | exact drew_below b5 | exact drew_below (b5.alloc b5.size _))
                      clear hK K hHeld
                      have hHeld := hNew
                      clear hNew
                      try simp only [Act.put, pz1, pz2, pz3]
                      refine wpAnyH_ready (rs := [14]) (by kernel_rfl) (by simp) ?_
                      refine AllReadyH.cons (o := ⟨some 81, .call { callee := .builtin .append, args := #[.tmp 77, .tmp 80], argTypes := #[29, 29] }, 29, "ref.go:143", #[⟨10, .data⟩, ⟨13, .data⟩, ⟨10, .chain⟩], none⟩) rfl (fun K hK => ?_) AllReadyH.nil
                      obtain ⟨ti0, hi, hz0, hz1, hz2⟩ := info_parts infoIt
                      refine step_app _ rfl (.tmp 77) (.tmp 80) _ rfl wc.heap.size 50 ti0 _ 2 24 Tryz.underlying29 hi hz0 hz1 hz2 rfl (by decide) (v7) (m + 1) (((L.map itC).take m).flatten ++ itC (ntIt y)) rfl ho7 _ 0 _ (((L.map itC).drop m).flatten) rfl (by have h9 := rdE_drop (SlE.next hSL b7) (itC_len L) hML (Nat.le_refl m) hmc; rwa [Nat.sub_self] at h9) oneDp (by unfold maxLen; omega) (by omega) b7.size ?_
                      intro v8 w8 ho8 hg8 hv8
                      clear hi hz0 hz1 hz2
                      (try generalize (if c = m then (some ⟨b8, o8, none⟩ : Option Addr) else some ⟨b8, o8 + m * 2, none⟩) = A22)
                      have b8 := b7.trans (below_app (Nat.le_refl _) b7.size ho7 hg8)
                      obtain ⟨A8, c8, rfl, hc8, hm8⟩ := own_shape ho8
                      refine hK.out _ _ ?_ (fun hNew => ?_)
                      · exact HCN _ (by first | exact below_dr wc | exact b8 | exact b7 | exact b5 | exact bAL | exact b5.alloc b5.size _ | exact drew_below b8 | exact drew_below b7 | exact drew_below b5 | exact drew_below (b5.alloc b5.size _))
                      clear hK K hHeld
                      have hHeld := hNew
                      clear hNew
                      try simp only [Act.put, pz1, pz2, pz3]
                      refine tk 15 ?_; try simp only [Act.put, pz1, pz2, pz3]
                      refine wpAnyH_done (by kernel_rfl) ?_ _
                      refine NoPanic.normal ?_
                      rw [hE] at ho8
                      have hL8 := sle_of_own ho8 (itC_len _) (by decide)
                      have hN8 : Hid (m + 1 + 0 = (fndTo s ts (k + 1)).length) := Lib.hid (by rw [HMX.out, HIN.out]; have := HML.out; simp only [List.length_append, List.length_take, List.length_drop, List.length_cons]; omega)
                      clear ho8 hE
                      go_wp2_with fail
                      go_roundw
                      case rel => exact ⟨k + 1, _, c8, A8, by omega, by go_num, rfl, hN8, by omega, hc8, hm8, fun h => by omega, (by rw [HMX.out]; first | exact hL8 | exact SlE.next hL8 (below_dr _)), btr HBW HBW.size (btr HBc HBc.size (by first | exact b8 | exact drew_below b8))⟩
                      case measure => simp [intOf]; omega
                    · go_simp
                      refine hK.out _ _ ?_ (fun hNew => ?_)
                      · exact HCN _ (by first | exact below_dr wc | exact b8 | exact b7 | exact b5 | exact bAL | exact b5.alloc b5.size _ | exact drew_below b8 | exact drew_below b7 | exact drew_below b5 | exact drew_below (b5.alloc b5.size _))
                      clear hK K hHeld
                      have hHeld := hNew
                      clear hNew
                      try simp only [Act.put, pz1, pz2, pz3]
                      refine wpAnyH_ready (rs := [3]) (by kernel_rfl) (by simp) ?_
                      refine AllReadyH.cons (o := ⟨some 70, .call { callee := .builtin .append, args := #[.const (.slice none 0 0), .tmp 69], argTypes := #[29, 29] }, 29, "ref.go:143", #[⟨2, .data⟩], none⟩) rfl (fun K hK => ?_) AllReadyH.nil
                      obtain ⟨ti0, hi, hz0, hz1, hz2⟩ := info_parts infoIt
                      refine step_app _ rfl (.const (.slice none 0 0)) (.tmp 69) _ rfl wc.heap.size 50 ti0 _ 2 24 Tryz.underlying29 hi hz0 hz1 hz2 rfl (by decide) (.slice none 0 0) 0 ([]) rfl (World.ownsRow_nil _ _ _ _) _ m _ (((L.map itC).take m).flatten) rfl (by first | exact rdE_take (SlE.next hSL (below_dr wc)) (itC_len L) hML HT9 | exact rdE_take (SlE.next hSL bAL) (itC_len L) hML HT9) oneTk (by unfold maxLen; omega) (by omega) (by first | exact Nat.le_refl _ | (simp; done) | (simp; omega)) ?_
                      intro v5 w5 ho5 hg5 hv5
                      clear hi hz0 hz1 hz2
                      rw [Nat.zero_add, List.nil_append] at ho5
                      have b5 : Below wc.heap.size wc w5 := (by first | exact ch_nil (below_dr wc) hg5 | exact ch_nil bAL hg5)
                      (try have RxB := rd_keep2 cx0 cx1 (by simp) hg5)
                      refine hK.out _ _ ?_ (fun hNew => ?_)
                      · exact HCN _ (by first | exact below_dr wc | exact b8 | exact b7 | exact b5 | exact bAL | exact b5.alloc b5.size _ | exact drew_below b8 | exact drew_below b7 | exact drew_below b5 | exact drew_below (b5.alloc b5.size _))
                      clear hK K hHeld
                      have hHeld := hNew
                      clear hNew
                      try simp only [Act.put, pz1, pz2, pz3]
                      refine wpAnyH_ready (rs := [10]) (by kernel_rfl) (by simp) ?_
                      refine AllReadyH.cons (o := ⟨some 77, .call { callee := .builtin .append, args := #[.tmp 70, .tmp 76], argTypes := #[29, 29] }, 29, "ref.go:143", #[⟨3, .data⟩, ⟨9, .data⟩, ⟨3, .chain⟩], none⟩) rfl (fun K hK => ?_) AllReadyH.nil
                      obtain ⟨ti0, hi, hz0, hz1, hz2⟩ := info_parts infoIt
                      refine step_app _ rfl (.tmp 70) (.tmp 76) _ rfl wc.heap.size 50 ti0 _ 2 24 Tryz.underlying29 hi hz0 hz1 hz2 rfl (by decide) (v5) m (((L.map itC).take m).flatten) rfl (by first | exact ho5 | exact ho5.alloc _) _ 1 _ ((itC (ntIt y))) rfl (by first | exact rd_newI w5 (ntIt y) rfl | exact RxB) (one1I _) (by unfold maxLen; omega) (by omega) (by first | exact b5.size | (have := b5.size; simp; omega)) ?_
                      intro v7 w7 ho7 hg7 hv7
                      clear hi hz0 hz1 hz2
                      have b7 : Below wc.heap.size wc w7 := (by first | exact b5.trans (below_app (Nat.le_refl _) b5.size ho5 hg7) | exact (b5.alloc b5.size _).trans (below_app (Nat.le_refl _) (by have := b5.size; simp; omega) (ho5.alloc _) hg7))
                      refine hK.out _ _ ?_ (fun hNew => ?_)
                      · exact HCN _ (by first | exact below_dr wc | exact b8 | exact b7 | exact b5 | exact bAL | exact b5.alloc b5.size _ | exact drew_below b8 | exact drew_below b7 | exact drew_below b5 | exact drew_below (b5.alloc b5.size _))
                      clear hK K hHeld
                      have hHeld := hNew
                      clear hNew
                      try simp only [Act.put, pz1, pz2, pz3]
                      refine wpAnyH_ready (rs := [14]) (by kernel_rfl) (by simp) ?_
                      refine AllReadyH.cons (o := ⟨some 81, .call { callee := .builtin .append, args := #[.tmp 77, .tmp 80], argTypes := #[29, 29] }, 29, "ref.go:143", #[⟨10, .data⟩, ⟨13, .data⟩, ⟨10, .chain⟩], none⟩) rfl (fun K hK => ?_) AllReadyH.nil
                      obtain ⟨ti0, hi, hz0, hz1, hz2⟩ := info_parts infoIt
                      refine step_app _ rfl (.tmp 77) (.tmp 80) _ rfl wc.heap.size 50 ti0 _ 2 24 Tryz.underlying29 hi hz0 hz1 hz2 rfl (by decide) (v7) (m + 1) (((L.map itC).take m).flatten ++ itC (ntIt y)) rfl ho7 _ 0 _ (((L.map itC).drop m).flatten) rfl (by have h9 := rdE_drop (SlE.next hSL b7) (itC_len L) hML (Nat.le_refl m) hmc; rwa [Nat.sub_self] at h9) oneDp (by unfold maxLen; omega) (by omega) b7.size ?_
                      intro v8 w8 ho8 hg8 hv8
                      clear hi hz0 hz1 hz2
                      (try generalize (if c = m then (some ⟨b8, o8, none⟩ : Option Addr) else some ⟨b8, o8 + m * 2, none⟩) = A22)
                      have b8 := b7.trans (below_app (Nat.le_refl _) b7.size ho7 hg8)
                      obtain ⟨A8, c8, rfl, hc8, hm8⟩ := own_shape ho8
                      refine hK.out _ _ ?_ (fun hNew => ?_)
                      · exact HCN _ (by first | exact below_dr wc | exact b8 | exact b7 | exact b5 | exact bAL | exact b5.alloc b5.size _ | exact drew_below b8 | exact drew_below b7 | exact drew_below b5 | exact drew_below (b5.alloc b5.size _))
                      clear hK K hHeld
                      have hHeld := hNew
                      clear hNew
                      try simp only [Act.put, pz1, pz2, pz3]
                      refine tk 15 ?_; try simp only [Act.put, pz1, pz2, pz3]
                      refine wpAnyH_done (by kernel_rfl) ?_ _
                      refine NoPanic.normal ?_
                      rw [hE] at ho8
                      have hL8 := sle_of_own ho8 (itC_len _) (by decide)
                      have hN8 : Hid (m + 1 + 0 = (fndTo s ts (k + 1)).length) := Lib.hid (by rw [HMX.out, HIN.out]; have := HML.out; simp only [List.length_append, List.length_take, List.length_drop, List.length_cons]; omega)
                      clear ho8 hE
                      go_wp2_with fail
                      go_roundw
                      case rel => exact ⟨k + 1, _, c8, A8, by omega, by go_num, rfl, hN8, by omega, hc8, hm8, fun h => by omega, (by rw [HMX.out]; first | exact hL8 | exact SlE.next hL8 (below_dr _)), btr HBW HBW.size (btr HBc HBc.size (by first | exact b8 | exact drew_below b8))⟩
                      case measure => simp [intOf]; omega
    · obtain rfl : n = k := by omega
      clear hlt
      go_wp2_with fail
      go_ret2
      have hall : fndTo s ts n = findL s ts := by rw [← HN.out]; exact fndTo_all HFF.out ts
      rw [hall] at hL
      exact ⟨A, c, m, rfl, by rw [HMM.out, hall], hL, btr HBT HBT.size HBr⟩
end Go.Proofs.YteokeghenjobaaaGreatDoor
namespace Go.Proofs.YteokeghenjobaaaGreatDoor
open Go.ChangeShapes Go.WideShapes Go.ChangeAt Go.RowKit
attribute [local go_sem ↓] Go.wp_at_zero Go.wp_at_succ
def nmsTo (s : Sf) (k : Nat) : List ByteArray := ((s.ts.take k).flatMap fun n => n.tg).foldl insL []
def nmIn (L l : List ByteArray) (j : Nat) : List ByteArray := (l.take j).foldl insL L
theorem nmIn_next {L l : List ByteArray} {j : Nat} {y : ByteArray} (h : l[j]? = some y) : nmIn L l (j + 1) = insL (nmIn L l j) y := by
  unfold nmIn
  rw [List.take_add_one, h, List.foldl_append]
  rfl
theorem nmsTo_next {s : Sf} {k : Nat} {n : Nt} (h : s.ts[k]? = some n) : nmIn (nmsTo s k) n.tg n.tg.length = nmsTo s (k + 1) := by
  unfold nmIn nmsTo
  rw [List.take_length, List.take_add_one, h, List.flatMap_append, List.foldl_append]
  simp
theorem ins_fold : ∀ (l L : List ByteArray), (L.Pairwise fun a b => a.data.toList < b.data.toList) → ((l.foldl insL L).Pairwise fun a b => a.data.toList < b.data.toList) ∧ (∀ y, y ∈ l.foldl insL L ↔ y ∈ L ∨ y ∈ l) ∧ (l.foldl insL L).length ≤ L.length + l.length
  | [], L, h => ⟨h, by simp, by simp⟩
  | x :: l, L, h => by
    obtain ⟨h1, h2, h3⟩ := ins_fold l (insL L x) (insL_rise L x h)
    refine ⟨h1, fun y => ?_, ?_⟩
    · rw [List.foldl_cons, h2, insL_mem, List.mem_cons, or_assoc]
    · have := insL_len L x
      rw [List.foldl_cons, List.length_cons]
      omega
theorem nmsTo_keys {s : Sf} {ks : List (List UInt8)} (h1 : ks.Pairwise (· < ·)) (h2 : ∀ p, p ∈ ks ↔ bOf p ∈ tagsA s) : (nmsTo s s.ts.length) = ks.map bOf := by
  obtain ⟨g1, g2, -⟩ := ins_fold (tagsA s) [] List.Pairwise.nil
  have e : nmsTo s s.ts.length = (tagsA s).foldl insL [] := by
    unfold nmsTo tagsA
    rw [List.take_length]
  rw [e]
  have r1 : (((tagsA s).foldl insL []).map fun y => y.data.toList).Pairwise (· < ·) := List.pairwise_map.2 g1
  have r2 := rise_uniq r1 h1 (fun x => by
    rw [h2, List.mem_map]
    constructor
    · rintro ⟨y, hy, rfl⟩
      have hb : bOf y.data.toList = y := data_inj (by rw [bOf_l])
      rw [hb]
      simpa using (g2 y).1 hy
    · intro hx
      exact ⟨_, (g2 _).2 (Or.inr hx), bOf_l x⟩)
  rw [← r2, List.map_map]
  have gen : ∀ l : List ByteArray, l = l.map (bOf ∘ fun y => y.data.toList) := by
    intro l
    induction l with
    | nil => rfl
    | cons y l ih =>
      rw [List.map_cons, ← ih]
      exact congrArg (· :: l) (data_inj (by show y.data.toList = (bOf y.data.toList).data.toList; rw [bOf_l]))
  exact gen _
theorem tags_rise : ∀ (l pr : List ByteArray), tagsFrom pr l = true → (∀ p, pr.head? = some p → ∀ y ∈ l, p.data.toList < y.data.toList) ∧ l.Pairwise fun a b => a.data.toList < b.data.toList
  | [], pr, _ => ⟨fun _ _ y hy => by simp at hy, List.Pairwise.nil⟩
  | t :: l, pr, h => by
    unfold tagsFrom at h
    simp only [Bool.and_eq_true] at h
    obtain ⟨h1, h2⟩ := tags_rise l [t] h.2.2
    have h3 := h1 t rfl
    refine ⟨fun p hp y hy => ?_, List.pairwise_cons.2 ⟨h3, h2⟩⟩
    cases pr with
    | nil => simp at hp
    | cons q pr =>
      cases hp
      have h4 := h.2.1
      have h5 : lessS p t = true := h4
      rw [lessS_lt] at h5
      have h6 := of_decide_eq_true h5
      rcases List.mem_cons.1 hy with rfl | hy
      · exact h6
      · exact List.lt_trans h6 (h3 y hy)
theorem tg_rise {s : Sf} (h : MayF s) {n : Nt} (hn : n ∈ s.ts) : n.tg.Pairwise fun a b => a.data.toList < b.data.toList := by
  have := (h.ts n hn).2.2
  unfold mayNt at this
  simp only [Bool.and_eq_true] at this
  have h2 := this.2.2.2
  unfold mayTg at h2
  simp only [Bool.and_eq_true] at h2
  exact (tags_rise _ _ h2.2).2
theorem cnt_one : ∀ (l : List ByteArray) (x : ByteArray), (l.Pairwise fun a b => a.data.toList < b.data.toList) → cntT l x.data.toList = if hasB l x then 1 else 0
  | [], x, _ => by
    have : hasB [] x = false := by
      cases h : hasB [] x
      · rfl
      · have := (hasB_iff _ _).1 h
        simp at this
    rw [this]
    rfl
  | y :: l, x, h => by
    rw [List.pairwise_cons] at h
    have ih := cnt_one l x h.2
    unfold cntT at ih ⊢
    rw [List.countP_cons, ih]
    by_cases e : y = x
    · subst e
      have n1 : hasB l y = false := by
        cases hh : hasB l y
        · rfl
        · exact absurd (h.1 y ((hasB_iff _ _).1 hh)) (lt_irr _)
      have n2 : hasB (y :: l) y = true := (hasB_iff _ _).2 (by simp)
      rw [n1, n2]
      simp
    · have n0 : ¬ y.data.toList = x.data.toList := fun e2 => e (data_inj e2)
      have n2 : hasB (y :: l) x = hasB l x := by
        rw [Bool.eq_iff_iff, hasB_iff, hasB_iff, List.mem_cons]
        exact ⟨fun hh => hh.resolve_left (fun e2 => e e2.symm), Or.inr⟩
      rw [n2]
      simp [n0]
def hvTo (s : Sf) (x : ByteArray) (k : Nat) : Nat := (s.ts.take k).countP fun n => hasB n.tg x
theorem hvTo_next {s : Sf} {x : ByteArray} {k : Nat} {n : Nt} (h : s.ts[k]? = some n) : hvTo s x (k + 1) = hvTo s x k + if hasB n.tg x then 1 else 0 := by
  unfold hvTo
  rw [List.take_add_one, h, List.countP_append]
  simp [List.countP_cons]
theorem hvTo_all {s : Sf} (hF : MayF s) (x : ByteArray) : hvTo s x s.ts.length = cntT (tagsA s) x.data.toList := by
  have gen : ∀ l : List Nt, (∀ n ∈ l, n ∈ s.ts) → (l.countP fun n => hasB n.tg x) = cntT (l.flatMap fun n => n.tg) x.data.toList := by
    intro l
    induction l with
    | nil => intro _; rfl
    | cons n l ih =>
      intro hl
      have i1 := ih (fun m hm => hl m (by simp [hm]))
      have i2 := cnt_one n.tg x (tg_rise hF (hl n (by simp)))
      rw [List.countP_cons, i1, List.flatMap_cons]
      unfold cntT at i2 ⊢
      rw [List.countP_append, i2]
      omega
  unfold hvTo
  rw [List.take_length]
  exact gen _ (fun n hn => hn)
end Go.Proofs.YteokeghenjobaaaGreatDoor
namespace Go.Proofs.YteokeghenjobaaaGreatDoor
open Go.ChangeShapes Go.WideShapes Go.ChangeAt Go.RowKit
attribute [local go_sem ↓] Go.wp_at_zero Go.wp_at_succ
theorem comN_sym {a b : List ByteArray} (ha : a.Nodup) (hb : b.Nodup) : comN a b = comN b a := by
  unfold comN
  have h : (a.filter fun x => hasB b x).Perm (b.filter fun x => hasB a x) := by
    rw [List.perm_ext_iff_of_nodup (List.Pairwise.filter _ ha) (List.Pairwise.filter _ hb)]
    intro x
    rw [List.mem_filter, List.mem_filter, hasB_iff, hasB_iff]
    exact And.comm
  exact h.length_eq
theorem tg_nodup {s : Sf} (h : MayF s) {n : Nt} (hn : n ∈ s.ts) : n.tg.Nodup :=
  (tg_rise h hn).imp (fun {a b} h e => by subst e; exact lt_irr _ h)
def knB (of : Nt) (m : Nat) (n : Nt) : Bool := n.id != of.id && comN n.tg of.tg == m
def knRow (s : Sf) (of : Nt) (m k : Nat) : List It := ((s.ts.take k).filter (knB of m)).map ntIt
def knUp (s : Sf) (of : Nt) (j : Nat) : List It := (List.range j).flatMap fun t => knRow s of (4 - t) s.ts.length
def knN (s : Sf) (of : Nt) (j k : Nat) : List It := knUp s of j ++ knRow s of (4 - j) k
theorem knN_zero (s : Sf) (of : Nt) (j : Nat) : knN s of j 0 = knUp s of j := by
  unfold knN knRow
  simp
theorem knN_all (s : Sf) (of : Nt) (j : Nat) : knN s of j s.ts.length = knUp s of (j + 1) := by
  unfold knN knUp
  rw [List.range_succ, List.flatMap_append]
  simp
theorem knN_hit {s : Sf} {of y : Nt} {j k : Nat} (h : s.ts[k]? = some y) (hb : knB of (4 - j) y = true) : knN s of j (k + 1) = knN s of j k ++ [ntIt y] := by
  unfold knN knRow
  rw [List.take_add_one, h, List.filter_append, List.map_append, List.append_assoc]
  simp [hb]
theorem knN_miss {s : Sf} {of y : Nt} {j k : Nat} (h : s.ts[k]? = some y) (hb : knB of (4 - j) y = false) : knN s of j (k + 1) = knN s of j k := by
  unfold knN knRow
  rw [List.take_add_one, h, List.filter_append, List.map_append]
  simp [hb]
theorem knUp_len (s : Sf) (of : Nt) : ∀ j, (knUp s of j).length ≤ j * s.ts.length
  | 0 => by simp [knUp]
  | j + 1 => by
    have h1 := knUp_len s of j
    rw [← knN_all, Nat.succ_mul]
    unfold knN knRow
    rw [List.length_append, List.length_map]
    have h2 := List.length_filter_le (knB of (4 - j)) (s.ts.take s.ts.length)
    rw [List.length_take] at h2
    omega
theorem knN_len (s : Sf) (of : Nt) (j k : Nat) : (knN s of j k).length ≤ j * s.ts.length + k := by
  have h1 := knUp_len s of j
  unfold knN knRow
  rw [List.length_append, List.length_map]
  have h2 := List.length_filter_le (knB of (4 - j)) (s.ts.take k)
  rw [List.length_take] at h2
  omega
def knK (s : Sf) (of : Nt) : List Kn := (List.range 4).flatMap fun t => (s.ts.filter (knB of (4 - t))).map (kinIt of)
theorem knK_it (s : Sf) (of : Nt) : (knK s of).map knIt = knUp s of 4 := by
  unfold knK knUp knRow
  rw [List.map_flatMap]
  refine congrArg (fun f => (List.range 4).flatMap f) ?_
  funext t
  rw [List.take_length, List.map_map]
  rfl
theorem comN_le4 {s : Sf} (hF : MayF s) {of : Nt} (hof : of ∈ s.ts) (b : List ByteArray) : comN of.tg b ≤ 4 := by
  unfold comN
  exact Nat.le_trans (List.length_filter_le _ _) (hF.note hof).1
theorem knB_of {s : Sf} (hF : MayF s) {of n : Nt} (hof : of ∈ s.ts) (hn : n ∈ s.ts) {m : Nat} (h : knB of m n = true) : n.id ≠ of.id ∧ comN of.tg n.tg = m := by
  unfold knB at h
  rw [Bool.and_eq_true] at h
  rw [comN_sym (tg_nodup hF hof) (tg_nodup hF hn)]
  exact ⟨by simpa using h.1, by simpa using h.2⟩
def ltK (a b : Kn) : Prop := b.cm < a.cm ∨ (a.cm = b.cm ∧ a.id < b.id)
theorem knK_rise {s : Sf} (hF : MayF s) {of : Nt} (hof : of ∈ s.ts) : (knK s of).Pairwise ltK := by
  unfold knK
  rw [List.pairwise_flatMap]
  refine ⟨fun t _ => ?_, ?_⟩
  · rw [List.pairwise_map]
    refine List.Pairwise.imp_of_mem ?_ (hF.tord.filter _)
    intro a b ha hb hab
    rw [List.mem_filter] at ha hb
    have h1 := (knB_of hF hof ha.1 ha.2).2
    have h2 := (knB_of hF hof hb.1 hb.2).2
    refine Or.inr ⟨?_, hab⟩
    show ((comN of.tg a.tg : Nat) : Int) = ((comN of.tg b.tg : Nat) : Int)
    rw [h1, h2]
  · refine List.Pairwise.imp_of_mem ?_ List.pairwise_lt_range
    intro t u ht hu htu x hx y hy
    rw [List.mem_range] at ht hu
    obtain ⟨a, ha, rfl⟩ := List.mem_map.1 hx
    obtain ⟨b, hb, rfl⟩ := List.mem_map.1 hy
    rw [List.mem_filter] at ha hb
    have h1 := (knB_of hF hof ha.1 ha.2).2
    have h2 := (knB_of hF hof hb.1 hb.2).2
    left
    show ((comN of.tg b.tg : Nat) : Int) < ((comN of.tg a.tg : Nat) : Int)
    rw [h1, h2]
    omega
theorem knK_perm {s : Sf} (hF : MayF s) {of : Nt} (hof : of ∈ s.ts) : (knK s of).Perm (kinsL s of of.id) := by
  have n1 : (knK s of).Nodup := (knK_rise hF hof).imp (fun {a b} h e => by subst e; rcases h with h | h <;> omega)
  have n2 : (kinsL s of of.id).Nodup := by
    unfold kinsL
    refine List.pairwise_map.2 ((hF.tord.filter _).imp ?_)
    intro a b h e
    have : a.id = b.id := congrArg Kn.id e
    omega
  rw [List.perm_ext_iff_of_nodup n1 n2]
  intro x
  unfold knK kinsL
  rw [List.mem_flatMap, List.mem_map]
  constructor
  · rintro ⟨t, ht, hx⟩
    rw [List.mem_range] at ht
    obtain ⟨a, ha, rfl⟩ := List.mem_map.1 hx
    rw [List.mem_filter] at ha
    obtain ⟨h1, h2⟩ := knB_of hF hof ha.1 ha.2
    refine ⟨a, List.mem_filter.2 ⟨ha.1, ?_⟩, rfl⟩
    unfold kinB
    rw [Bool.and_eq_true]
    exact ⟨decide_eq_true (by omega), by simpa using h1⟩
  · rintro ⟨a, ha, rfl⟩
    rw [List.mem_filter] at ha
    have h0 := ha.2
    unfold kinB at h0
    rw [Bool.and_eq_true] at h0
    have h1 := of_decide_eq_true h0.1
    have h4 := comN_le4 hF hof a.tg
    refine ⟨4 - comN of.tg a.tg, List.mem_range.2 (by omega), List.mem_map.2 ⟨a, List.mem_filter.2 ⟨ha.1, ?_⟩, rfl⟩⟩
    unfold knB
    rw [Bool.and_eq_true]
    refine ⟨h0.2, ?_⟩
    rw [comN_sym (tg_nodup hF ha.1) (tg_nodup hF hof), beq_iff_eq]
    omega
theorem ltK_ord {a b : Kn} (h : ltK a b) : cmpK b a < 0 → False := by
  intro h2
  rw [cmpK_neg] at h2
  rcases h with h | h <;> omega
theorem kin_same {s : Sf} (hF : MayF s) {of : Nt} (hof : of ∈ s.ts) {ks : List Kn} (h1 : ks.Perm (kinsL s of of.id)) (h2 : OrdK ks) : ks.map knIt = knUp s of 4 := by
  rw [← knK_it, uniqK (kinsL_inj hF of of.id) h1 h2 (knK_perm hF hof) ((knK_rise hF hof).imp ltK_ord)]
theorem id_ne {s : Sf} (hF : MayF s) {k ki : Nat} {y of : Nt} (h1 : s.ts[k]? = some y) (h2 : s.ts[ki]? = some of) : (y.id != of.id) = !decide (k = ki) := by
  obtain ⟨l1, e1⟩ := List.getElem?_eq_some_iff.1 h1
  obtain ⟨l2, e2⟩ := List.getElem?_eq_some_iff.1 h2
  have hp := List.pairwise_iff_getElem.1 hF.tord
  rcases Nat.lt_trichotomy k ki with h | h | h
  · have := hp k ki l1 l2 h
    rw [e1, e2] at this
    have a : y.id ≠ of.id := by omega
    have b : ¬ k = ki := by omega
    simp [a, b]
  · subst h
    rw [e1] at e2
    subst e2
    simp
  · have := hp ki k l2 l1 h
    rw [e1, e2] at this
    have a : y.id ≠ of.id := by omega
    have b : ¬ k = ki := by omega
    simp [a, b]
end Go.Proofs.YteokeghenjobaaaGreatDoor
namespace Go.Proofs.YteokeghenjobaaaGreatDoor
open Go.ChangeShapes Go.WideShapes Go.ChangeAt Go.RowKit
attribute [local go_sem ↓] Go.wp_at_zero Go.wp_at_succ
attribute [local go_sem] Oper.semAt_some
theorem rnote_go (s : Sf) (v : Value) (x T : Int) (w : World) (hS : ShR w w.heap.size v s) (hsm : s.bs.length ≤ 100000 ∧ s.ts.length ≤ 100000) (hT : noteAt s x = T) :
    Calls Tryz.prog 52 #[v, .int .i64 x] w fun e' w' => e' = .returned (.int .i64 T) ∧ Below w.heap.size w w' := hT ▸ rNote_any s v x w hS hsm
theorem rkin_arg (s : Sf) (v : Value) (x : Int) (w : World) (hS : ShR w w.heap.size v s) (hz : SzF s) (hM : mayS s = false) :
    Calls Tryz.prog 15 #[v, .int .i64 x] w fun e' w' => e' = .returned (.tuple #[.slice none 0 0, .int .i64 2]) ∧ Below w.heap.size w w' := by
  have hS0 := hS
  obtain ⟨Ab, cb, An, cn, rfl, hB, hN, hcb, hmb, hcn, hmn⟩ := hS.ex
  clear hS
  have HB : Below w.heap.size w (w.alloc (.cells #[.int .i64 s.nb, .int .i64 s.nn, .int .i64 s.ns, .slice Ab s.bs.length cb, .slice An s.ts.length cn] 25)) := ((Below.refl w.heap.size w).alloc (by first | (simp; done) | (simp; omega)) _)
  have B1 : Blk (w.alloc (.cells #[.int .i64 s.nb, .int .i64 s.nn, .int .i64 s.ns, .slice Ab s.bs.length cb, .slice An s.ts.length cn] 25)) w.heap.size 25 #[.int .i64 s.nb, .int .i64 s.nn, .int .i64 s.ns, .slice Ab s.bs.length cb, .slice An s.ts.length cn] := Blk.new_ w 25 #[.int .i64 s.nb, .int .i64 s.nn, .int .i64 s.ns, .slice Ab s.bs.length cb, .slice An s.ts.length cn]
  have S1 : ShR (w.alloc (.cells #[.int .i64 s.nb, .int .i64 s.nn, .int .i64 s.ns, .slice Ab s.bs.length cb, .slice An s.ts.length cn] 25)) ((w.alloc (.cells #[.int .i64 s.nb, .int .i64 s.nn, .int .i64 s.ns, .slice Ab s.bs.length cb, .slice An s.ts.length cn] 25))).heap.size (.agg #[.int .i64 s.nb, .int .i64 s.nn, .int .i64 s.ns, .slice Ab s.bs.length cb, .slice An s.ts.length cn]) s := hS0.next HB
  have HM : Hid (rMayB s = false) := Lib.hid ((rMay_eq s).trans hM)
  have HZ := Lib.hid hz
  clear hM hS0 hB hN hz
  go_enter Tryz.func15, Tryz.ntmps15
  go_wp2_with (go_at_call 45; ((with_reducible refine (rMay_any s _ _ S1 HZ.out _ HM.out).mono ?_); rintro e' wm ⟨rfl, b4⟩; have S1 := S1.next b4; have B1 := B1.below b4 B1.lt; have HB := btr HB HB.size b4; (try clear k0 k1 k2 k3 k4); have k0 := B1.cell_ 0; have k1 := B1.cell_ 1; have k2 := B1.cell_ 2; have k3 := B1.cell_ 3; have k4 := B1.cell_ 4; simp at k0 k1 k2 k3 k4; clear b4))
  go_ret2
  exact ⟨rfl, HB⟩
theorem rkin_none (s : Sf) (v : Value) (x : Int) (w : World) (hS : ShR w w.heap.size v s) (hz : SzF s) (hM : mayS s = true) (hI : noteAt s x < 0) :
    Calls Tryz.prog 15 #[v, .int .i64 x] w fun e' w' => e' = .returned (.tuple #[.slice none 0 0, .int .i64 4]) ∧ Below w.heap.size w w' := by
  have hS0 := hS
  obtain ⟨Ab, cb, An, cn, rfl, hB, hN, hcb, hmb, hcn, hmn⟩ := hS.ex
  clear hS
  have HB : Below w.heap.size w (w.alloc (.cells #[.int .i64 s.nb, .int .i64 s.nn, .int .i64 s.ns, .slice Ab s.bs.length cb, .slice An s.ts.length cn] 25)) := ((Below.refl w.heap.size w).alloc (by first | (simp; done) | (simp; omega)) _)
  have B1 : Blk (w.alloc (.cells #[.int .i64 s.nb, .int .i64 s.nn, .int .i64 s.ns, .slice Ab s.bs.length cb, .slice An s.ts.length cn] 25)) w.heap.size 25 #[.int .i64 s.nb, .int .i64 s.nn, .int .i64 s.ns, .slice Ab s.bs.length cb, .slice An s.ts.length cn] := Blk.new_ w 25 #[.int .i64 s.nb, .int .i64 s.nn, .int .i64 s.ns, .slice Ab s.bs.length cb, .slice An s.ts.length cn]
  have S1 : ShR (w.alloc (.cells #[.int .i64 s.nb, .int .i64 s.nn, .int .i64 s.ns, .slice Ab s.bs.length cb, .slice An s.ts.length cn] 25)) ((w.alloc (.cells #[.int .i64 s.nb, .int .i64 s.nn, .int .i64 s.ns, .slice Ab s.bs.length cb, .slice An s.ts.length cn] 25))).heap.size (.agg #[.int .i64 s.nb, .int .i64 s.nn, .int .i64 s.ns, .slice Ab s.bs.length cb, .slice An s.ts.length cn]) s := hS0.next HB
  have HM : Hid (rMayB s = true) := Lib.hid ((rMay_eq s).trans hM)
  have HSM : Hid (s.bs.length ≤ 100000 ∧ s.ts.length ≤ 100000) := Lib.hid ⟨hz.bl, hz.tl⟩
  have HZ := Lib.hid hz
  obtain ⟨ni, hni⟩ : ∃ i, noteAt s x = i := ⟨_, rfl⟩
  rw [hni] at hI
  have HNI := Lib.hid hni
  clear hM hS0 hB hN hz hni
  go_enter Tryz.func15, Tryz.ntmps15
  go_wp2_with (first | (go_at_call 45; ((with_reducible refine (rMay_any s _ _ S1 HZ.out _ HM.out).mono ?_); rintro e' wm ⟨rfl, b4⟩; have S1 := S1.next b4; have B1 := B1.below b4 B1.lt; have HB := btr HB HB.size b4; (try clear k0 k1 k2 k3 k4); have k0 := B1.cell_ 0; have k1 := B1.cell_ 1; have k2 := B1.cell_ 2; have k3 := B1.cell_ 3; have k4 := B1.cell_ 4; simp at k0 k1 k2 k3 k4; clear b4)) | (go_at_call 52; ((with_reducible refine (rnote_go s _ x _ _ S1 HSM.out HNI.out).mono ?_); rintro e' wn ⟨rfl, b5⟩; have S1 := S1.next b5; have B1 := B1.below b5 B1.lt; have HB := btr HB HB.size b5; (try clear k0 k1 k2 k3 k4); have k0 := B1.cell_ 0; have k1 := B1.cell_ 1; have k2 := B1.cell_ 2; have k3 := B1.cell_ 3; have k4 := B1.cell_ 4; simp at k0 k1 k2 k3 k4; clear b5)))
  go_ret2
  exact ⟨rfl, HB⟩
theorem rkin_any (s : Sf) (v : Value) (x : Int) (w : World) (hS : ShR w w.heap.size v s) (hz : SzF s) (hM : mayS s = true) (ki : Nat) (of : Nt) (hI : noteAt s x = (ki : Int)) (hof : s.ts[ki]? = some of) :
    Calls Tryz.prog 15 #[v, .int .i64 x] w fun e' w' => ∃ (A : Option Addr) (c n : Nat), e' = .returned (.tuple #[.slice A n c, .int .i64 0]) ∧ n = (knUp s of 4).length ∧ SlE 2 w' w'.heap.size A ((knUp s of 4).map itC) ∧ Below w.heap.size w w' := by
  have hF := mayF_of hM
  have hS0 := hS
  obtain ⟨Ab, cb, An, cn, rfl, hB, hN, hcb, hmb, hcn, hmn⟩ := hS.ex
  clear hS
  obtain ⟨n, hn⟩ : ∃ n, s.ts.length = n := ⟨_, rfl⟩
  obtain ⟨bn, hbn⟩ : ∃ n, s.bs.length = n := ⟨_, rfl⟩
  have HB : Below w.heap.size w (w.alloc (.cells #[.int .i64 s.nb, .int .i64 s.nn, .int .i64 s.ns, .slice Ab s.bs.length cb, .slice An s.ts.length cn] 25)) := ((Below.refl w.heap.size w).alloc (by first | (simp; done) | (simp; omega)) _)
  have B1 : Blk (w.alloc (.cells #[.int .i64 s.nb, .int .i64 s.nn, .int .i64 s.ns, .slice Ab s.bs.length cb, .slice An s.ts.length cn] 25)) w.heap.size 25 #[.int .i64 s.nb, .int .i64 s.nn, .int .i64 s.ns, .slice Ab s.bs.length cb, .slice An s.ts.length cn] := Blk.new_ w 25 #[.int .i64 s.nb, .int .i64 s.nn, .int .i64 s.ns, .slice Ab s.bs.length cb, .slice An s.ts.length cn]
  have S1 : ShR (w.alloc (.cells #[.int .i64 s.nb, .int .i64 s.nn, .int .i64 s.ns, .slice Ab s.bs.length cb, .slice An s.ts.length cn] 25)) ((w.alloc (.cells #[.int .i64 s.nb, .int .i64 s.nn, .int .i64 s.ns, .slice Ab s.bs.length cb, .slice An s.ts.length cn] 25))).heap.size (.agg #[.int .i64 s.nb, .int .i64 s.nn, .int .i64 s.ns, .slice Ab s.bs.length cb, .slice An s.ts.length cn]) s := hS0.next HB
  obtain ⟨es, hel, hse, hnt⟩ := hN.ex
  simp only [hn, hbn] at HB B1 S1 hel ⊢
  have hn12 : n ≤ 12 := by have := hF.tl; omega
  have hkn : ki < n := by have := (List.getElem?_eq_some_iff.1 hof).1; omega
  have HSM : Hid (s.bs.length ≤ 100000 ∧ s.ts.length ≤ 100000) := Lib.hid ⟨hz.bl, hz.tl⟩
  have HNI := Lib.hid hI
  obtain ⟨eo, heo⟩ : ∃ e, es[ki]? = some e := ⟨_, List.getElem?_eq_getElem (by omega)⟩
  obtain ⟨Ao, co, Ap, cp, rfl, hog, -⟩ := (hnt ki of eo hof heo).ex
  obtain ⟨b1, o1, rfl, l1, q1⟩ := hse.at_ (by omega)
  obtain ⟨yo, hyo⟩ : ∃ n, of.tg.length = n := ⟨_, rfl⟩
  obtain ⟨yp, hyp⟩ : ∃ n, of.sh.length = n := ⟨_, rfl⟩
  have hO : Hid (∀ w_, Below w.heap.size w w_ → w_.cell? ⟨b1, o1 + ki * 5, none⟩ = some (.int .i64 of.id) ∧ w_.cell? ⟨b1, o1 + ki * 5 + 1, none⟩ = some (.int .i64 of.bk) ∧ w_.cell? ⟨b1, o1 + ki * 5 + 2, none⟩ = some (.string of.nm) ∧ w_.cell? ⟨b1, o1 + ki * 5 + 3, none⟩ = some (.slice Ao yo co) ∧ w_.cell? ⟨b1, o1 + ki * 5 + 4, none⟩ = some (.slice Ap yp cp)) := Lib.hid (fun w_ h => by
    rw [← hyo, ← hyp]
    exact ⟨(h.cell (p := ⟨b1, _, none⟩) l1).trans (q1 ki _ heo 0 _ rfl), (h.cell (p := ⟨b1, _, none⟩) l1).trans (q1 ki _ heo 1 _ rfl), (h.cell (p := ⟨b1, _, none⟩) l1).trans (q1 ki _ heo 2 _ rfl), (h.cell (p := ⟨b1, _, none⟩) l1).trans (q1 ki _ heo 3 _ rfl), (h.cell (p := ⟨b1, _, none⟩) l1).trans (q1 ki _ heo 4 _ rfl)⟩)
  have hyo4 : yo ≤ 4 := by rw [← hyo]; exact (hF.note (List.mem_of_getElem? hof)).1
  have HYO := Lib.hid hyo
  have HOF := Lib.hid hof
  have HEL := Lib.hid hel
  have HN := Lib.hid hn
  have HM : Hid (rMayB s = true) := Lib.hid ((rMay_eq s).trans hM)
  have HZ := Lib.hid hz
  have HFF := Lib.hid hF
  have hki0 : (0 : Int) ≤ (ki : Int) := by omega
  have hki1 : (ki : Int) < (n : Int) := by omega
  clear hM hn hbn hS0 hel hB hF hz hN hcb hmb hcn hmn hyo hyp hI hof heo
  go_enter Tryz.func15, Tryz.ntmps15
  go_upto_region 7 with (first | (go_at_call 45; ((with_reducible refine (rMay_any s _ _ S1 HZ.out _ HM.out).mono ?_); rintro e' wm ⟨rfl, b4⟩; have S1 := S1.next b4; have B1 := B1.below b4 B1.lt; have HB := btr HB HB.size b4; (try clear k0 k1 k2 k3 k4); have k0 := B1.cell_ 0; have k1 := B1.cell_ 1; have k2 := B1.cell_ 2; have k3 := B1.cell_ 3; have k4 := B1.cell_ 4; simp at k0 k1 k2 k3 k4; clear b4)) | (go_at_call 52; ((with_reducible refine (rnote_go s _ x _ _ S1 HSM.out HNI.out).mono ?_); rintro e' wn ⟨rfl, b5⟩; have S1 := S1.next b5; have B1 := B1.below b5 B1.lt; have HB := btr HB HB.size b5; (try clear k0 k1 k2 k3 k4); have k0 := B1.cell_ 0; have k1 := B1.cell_ 1; have k2 := B1.cell_ 2; have k3 := B1.cell_ 3; have k4 := B1.cell_ 4; simp at k0 k1 k2 k3 k4; clear b5)))
  have BT := B1
  have HBT := HB
  clear S1 B1 HB k0 k1 k2 k3 k4
  go_wp2_with fail
  go_loopw [7, 8] (fun ov i wr => ∃ m j : Nat, m + j = 4 ∧ i = .int .i64 m ∧ Hid (RowI wr wn.heap.size ov (knUp s of j)) ∧ Below wn.heap.size wn wr) (fun _ i _ => (intOf i).toNat)
  case atStart => exact ⟨4, 0, by omega, by go_num, Lib.hid (World.ownsRow_nil _ _ _ _), Below.refl _ _⟩
  case round =>
    obtain ⟨m, j, hmj, rfl, HR, HBr⟩ := hrel
    by_cases hlt : 0 < m
    · have hm0 : (0 : Int) < (m : Int) := by omega
      have HM4 : Hid (4 - j = m) := Lib.hid (by omega)
      have HR0 : Hid (RowI wr wn.heap.size _ (knN s of j 0)) := Lib.hid (by rw [knN_zero]; exact HR.out)
      go_wp2_with fail
      go_loopw [7, 9] (fun ov i wq => ∃ k : Nat, k ≤ n ∧ i = .int .i64 k ∧ Hid (RowI wq wn.heap.size ov (knN s of j k)) ∧ Below wn.heap.size wn wq) (fun _ i _ => n - (intOf i).toNat)
      case atStart => exact ⟨0, by omega, rfl, HR0, HBr⟩
      case round =>
        clear HR HR0 HBr
        obtain ⟨k, hk, rfl, HR, HBr⟩ := hrel
        have HBw := btr HBT HBT.size HBr
        obtain ⟨k0, k1, k2, k3, k4⟩ := cell5 (BT.below HBr BT.lt)
        by_cases hlt2 : k < n
        · have hlx : k < s.ts.length := by have := HN.out; omega
          have i0 : (0 : Int) ≤ (k : Int) := by omega
          have i1 : (k : Int) < (n : Int) := by omega
          obtain ⟨y, hx⟩ : ∃ y, s.ts[k]? = some y := ⟨_, List.getElem?_eq_getElem hlx⟩
          have hsm := HFF.out.note (List.mem_of_getElem? hx)
          obtain ⟨e0, he⟩ : ∃ e, es[k]? = some e := ⟨_, List.getElem?_eq_getElem (by have := HEL.out; omega)⟩
          obtain ⟨At, ct, As, cs, rfl, hyg, -⟩ := (hnt k y e0 hx he).ex
          obtain ⟨yt, hyt⟩ : ∃ n, y.tg.length = n := ⟨_, rfl⟩
          obtain ⟨ys, hys⟩ : ∃ n, y.sh.length = n := ⟨_, rfl⟩
          have HCY : Hid (∀ w_, Below wr.heap.size wr w_ → w_.cell? ⟨w.heap.size, 4, none⟩ = some (.slice (some ⟨b1, o1, none⟩) n cn) ∧ (w_.cell? ⟨b1, o1 + k * 5, none⟩ = some (.int .i64 y.id) ∧ w_.cell? ⟨b1, o1 + k * 5 + 1, none⟩ = some (.int .i64 y.bk) ∧ w_.cell? ⟨b1, o1 + k * 5 + 2, none⟩ = some (.string y.nm) ∧ w_.cell? ⟨b1, o1 + k * 5 + 3, none⟩ = some (.slice At yt ct) ∧ w_.cell? ⟨b1, o1 + k * 5 + 4, none⟩ = some (.slice As ys cs)) ∧ (w_.cell? ⟨b1, o1 + ki * 5, none⟩ = some (.int .i64 of.id) ∧ w_.cell? ⟨b1, o1 + ki * 5 + 1, none⟩ = some (.int .i64 of.bk) ∧ w_.cell? ⟨b1, o1 + ki * 5 + 2, none⟩ = some (.string of.nm) ∧ w_.cell? ⟨b1, o1 + ki * 5 + 3, none⟩ = some (.slice Ao yo co) ∧ w_.cell? ⟨b1, o1 + ki * 5 + 4, none⟩ = some (.slice Ap yp cp))) := Lib.hid (fun w_ h' => by
            have h := btr HBr HBr.size h'
            have hz9 := btr HBT HBT.size h
            obtain ⟨d0, d1, d2, d3, d4⟩ := cell5 (BT.below h BT.lt)
            rw [← hyt, ← hys]
            exact ⟨d4, ⟨(hz9.cell (p := ⟨b1, _, none⟩) l1).trans (q1 k _ he 0 _ rfl), (hz9.cell (p := ⟨b1, _, none⟩) l1).trans (q1 k _ he 1 _ rfl), (hz9.cell (p := ⟨b1, _, none⟩) l1).trans (q1 k _ he 2 _ rfl), (hz9.cell (p := ⟨b1, _, none⟩) l1).trans (q1 k _ he 3 _ rfl), (hz9.cell (p := ⟨b1, _, none⟩) l1).trans (q1 k _ he 4 _ rfl)⟩, hO.out _ hz9⟩)
          have HGO : Hid (∀ w_, Below wr.heap.size wr w_ → Calls Tryz.prog 53 #[.agg #[.int .i64 y.id, .int .i64 y.bk, .string y.nm, .slice At yt ct, .slice As ys cs], .agg #[.int .i64 of.id, .int .i64 of.bk, .string of.nm, .slice Ao yo co, .slice Ap yp cp]] w_ fun e' w' => e' = .returned (.int .i64 (comN y.tg of.tg : Int)) ∧ Below w_.heap.size w_ w') := Lib.hid (fun w_ h' => by
            have h := btr HBr HBr.size h'
            have hz9 := btr HBT HBT.size h
            exact rcommon_any y of At As Ao Ap yt ct ys cs yo co yp cp w_ hyt HYO.out ((hyg.below hz9).mono_ hz9.size) ((hog.below hz9).mono_ hz9.size) (by have := hsm.1; omega) (by omega))
          have HCX : Hid (∀ w_, Below wn.heap.size wn w_ → w_.cell? ⟨w.heap.size, 4, none⟩ = some (.slice (some ⟨b1, o1, none⟩) n cn) ∧ (w_.cell? ⟨b1, o1 + k * 5, none⟩ = some (.int .i64 y.id) ∧ w_.cell? ⟨b1, o1 + k * 5 + 1, none⟩ = some (.int .i64 y.bk) ∧ w_.cell? ⟨b1, o1 + k * 5 + 2, none⟩ = some (.string y.nm) ∧ w_.cell? ⟨b1, o1 + k * 5 + 3, none⟩ = some (.slice At yt ct) ∧ w_.cell? ⟨b1, o1 + k * 5 + 4, none⟩ = some (.slice As ys cs)) ∧ (w_.cell? ⟨b1, o1 + ki * 5, none⟩ = some (.int .i64 of.id) ∧ w_.cell? ⟨b1, o1 + ki * 5 + 1, none⟩ = some (.int .i64 of.bk) ∧ w_.cell? ⟨b1, o1 + ki * 5 + 2, none⟩ = some (.string of.nm) ∧ w_.cell? ⟨b1, o1 + ki * 5 + 3, none⟩ = some (.slice Ao yo co) ∧ w_.cell? ⟨b1, o1 + ki * 5 + 4, none⟩ = some (.slice Ap yp cp))) := Lib.hid (fun w_ h => by
            have hz9 := btr HBT HBT.size h
            obtain ⟨d0, d1, d2, d3, d4⟩ := cell5 (BT.below h BT.lt)
            rw [← hyt, ← hys]
            exact ⟨d4, ⟨(hz9.cell (p := ⟨b1, _, none⟩) l1).trans (q1 k _ he 0 _ rfl), (hz9.cell (p := ⟨b1, _, none⟩) l1).trans (q1 k _ he 1 _ rfl), (hz9.cell (p := ⟨b1, _, none⟩) l1).trans (q1 k _ he 2 _ rfl), (hz9.cell (p := ⟨b1, _, none⟩) l1).trans (q1 k _ he 3 _ rfl), (hz9.cell (p := ⟨b1, _, none⟩) l1).trans (q1 k _ he 4 _ rfl)⟩, hO.out _ hz9⟩)
          have HX := Lib.hid hx
          have HNE : Hid ((y.id != of.id) = !decide (k = ki)) := Lib.hid (id_ne HFF.out hx HOF.out)
          obtain ⟨CM, hCM⟩ : ∃ c, comN y.tg of.tg = c := ⟨_, rfl⟩
          have HCM := Lib.hid hCM
          rw [hCM] at HGO
          have HLE : Hid ((knN s of j k).length ≤ 60) := Lib.hid (by
            have h1 := knN_len s of j k
            rw [HN.out] at h1
            have h2 : j * n ≤ 3 * 12 := Nat.mul_le_mul (by omega) hn12
            omega)
          have HE := below_dr wr
          have QD : (Below wr.heap.size wr wr.drew ∧ wr.drew.cell? ⟨w.heap.size, 4, none⟩ = some (.slice (some ⟨b1, o1, none⟩) n cn) ∧ (wr.drew.cell? ⟨b1, o1 + k * 5, none⟩ = some (.int .i64 y.id) ∧ wr.drew.cell? ⟨b1, o1 + k * 5 + 1, none⟩ = some (.int .i64 y.bk) ∧ wr.drew.cell? ⟨b1, o1 + k * 5 + 2, none⟩ = some (.string y.nm) ∧ wr.drew.cell? ⟨b1, o1 + k * 5 + 3, none⟩ = some (.slice At yt ct) ∧ wr.drew.cell? ⟨b1, o1 + k * 5 + 4, none⟩ = some (.slice As ys cs)) ∧ (wr.drew.cell? ⟨b1, o1 + ki * 5, none⟩ = some (.int .i64 of.id) ∧ wr.drew.cell? ⟨b1, o1 + ki * 5 + 1, none⟩ = some (.int .i64 of.bk) ∧ wr.drew.cell? ⟨b1, o1 + ki * 5 + 2, none⟩ = some (.string of.nm) ∧ wr.drew.cell? ⟨b1, o1 + ki * 5 + 3, none⟩ = some (.slice Ao yo co) ∧ wr.drew.cell? ⟨b1, o1 + ki * 5 + 4, none⟩ = some (.slice Ap yp cp))) := ⟨HE, HCY.out _ HE⟩
          clear hx he hsm hyt hys hlx hCM
          obtain ⟨T, hT⟩ : ∃ T, knB of m y = T := ⟨_, rfl⟩
          have HT := Lib.hid hT
          clear hT
          go_upto_region 13 with fail
          go_cut [46] (fun v wx => v = .bool T ∧ Below wr.heap.size wr wx)
          case first =>
            by_cases hkk : k = ki
            · have HTF : Hid (T = false) := Lib.hid (by rw [← HT.out]; unfold knB; rw [HNE.out]; simp [hkk])
              have n1 : ((k : Int) != (ki : Int)) = false := by simp; omega
              have n2 : ((k : Int) == (ki : Int)) = true := by simp; omega
              have hTF := HTF.out
              subst hTF
              clear HT HNE HTF hkk
              skip
              refine wp_region_noPanic ?_
              refine wp_region_held_drew (S := (fun w_ => Below wr.heap.size wr w_ ∧ w_.cell? ⟨w.heap.size, 4, none⟩ = some (.slice (some ⟨b1, o1, none⟩) n cn) ∧ (w_.cell? ⟨b1, o1 + k * 5, none⟩ = some (.int .i64 y.id) ∧ w_.cell? ⟨b1, o1 + k * 5 + 1, none⟩ = some (.int .i64 y.bk) ∧ w_.cell? ⟨b1, o1 + k * 5 + 2, none⟩ = some (.string y.nm) ∧ w_.cell? ⟨b1, o1 + k * 5 + 3, none⟩ = some (.slice At yt ct) ∧ w_.cell? ⟨b1, o1 + k * 5 + 4, none⟩ = some (.slice As ys cs)) ∧ (w_.cell? ⟨b1, o1 + ki * 5, none⟩ = some (.int .i64 of.id) ∧ w_.cell? ⟨b1, o1 + ki * 5 + 1, none⟩ = some (.int .i64 of.bk) ∧ w_.cell? ⟨b1, o1 + ki * 5 + 2, none⟩ = some (.string of.nm) ∧ w_.cell? ⟨b1, o1 + ki * 5 + 3, none⟩ = some (.slice Ao yo co) ∧ w_.cell? ⟨b1, o1 + ki * 5 + 4, none⟩ = some (.slice Ap yp cp)))) (by kernel_rfl) ?_ (fun hHeld => ?_)
              · (first | with_reducible exact QD | with_reducible exact hNext | exact hHeld | assumption)
              refine tk 0 ?_; try simp only [Act.put, pz1, pz2, pz3]
              refine tk 1 ?_; try simp only [Act.put, pz1, pz2, pz3]
              refine tk 2 ?_; try simp only [Act.put, pz1, pz2, pz3]
              refine tk 3 ?_; try simp only [Act.put, pz1, pz2, pz3]
              refine tu 4 ?_
              try simp only [Act.put, pz1, pz2, pz3]
              refine tu 5 ?_
              try simp only [Act.put, pz1, pz2, pz3]
              refine tu 6 ?_
              try simp only [Act.put, pz1, pz2, pz3]
              refine tu 7 ?_
              try simp only [Act.put, pz1, pz2, pz3]
              refine tu 8 ?_
              try simp only [Act.put, pz1, pz2, pz3]
              refine tu 9 ?_
              try simp only [Act.put, pz1, pz2, pz3]
              refine tu 10 ?_
              try simp only [Act.put, pz1, pz2, pz3]
              refine tu 11 ?_
              try simp only [Act.put, pz1, pz2, pz3]
              refine tu 12 ?_
              try simp only [Act.put, pz1, pz2, pz3]
              refine tu 13 ?_
              try simp only [Act.put, pz1, pz2, pz3]
              refine tu 14 ?_
              try simp only [Act.put, pz1, pz2, pz3]
              refine tu 15 ?_
              try simp only [Act.put, pz1, pz2, pz3]
              refine tu 16 ?_
              try simp only [Act.put, pz1, pz2, pz3]
              refine tk 17 ?_; try simp only [Act.put, pz1, pz2, pz3]
              refine wpAnyH_done (by kernel_rfl) ?_ _
              refine NoPanic.normal ?_
              go_wp2_with fail
              go_meet
              exact ⟨rfl, hHeld.1⟩
            · have n1 : ((k : Int) != (ki : Int)) = true := by simp; omega
              have n2 : ((k : Int) == (ki : Int)) = false := by simp; omega
              have HTT : Hid (((CM : Int) == (m : Int)) = T) := Lib.hid (by
                rw [← HT.out]
                unfold knB
                rw [HNE.out, HCM.out]
                simp [hkk]
                rw [Bool.eq_iff_iff, beq_iff_eq, beq_iff_eq]
                omega)
              have HTN : Hid ((CM == m) = T) := Lib.hid (by rw [← HT.out]; unfold knB; rw [HNE.out, HCM.out]; simp [hkk])
              clear HT HNE
              skip
              refine wp_region_noPanic ?_
              refine wp_region_held_drew (S := (fun w_ => Below wr.heap.size wr w_ ∧ w_.cell? ⟨w.heap.size, 4, none⟩ = some (.slice (some ⟨b1, o1, none⟩) n cn) ∧ (w_.cell? ⟨b1, o1 + k * 5, none⟩ = some (.int .i64 y.id) ∧ w_.cell? ⟨b1, o1 + k * 5 + 1, none⟩ = some (.int .i64 y.bk) ∧ w_.cell? ⟨b1, o1 + k * 5 + 2, none⟩ = some (.string y.nm) ∧ w_.cell? ⟨b1, o1 + k * 5 + 3, none⟩ = some (.slice At yt ct) ∧ w_.cell? ⟨b1, o1 + k * 5 + 4, none⟩ = some (.slice As ys cs)) ∧ (w_.cell? ⟨b1, o1 + ki * 5, none⟩ = some (.int .i64 of.id) ∧ w_.cell? ⟨b1, o1 + ki * 5 + 1, none⟩ = some (.int .i64 of.bk) ∧ w_.cell? ⟨b1, o1 + ki * 5 + 2, none⟩ = some (.string of.nm) ∧ w_.cell? ⟨b1, o1 + ki * 5 + 3, none⟩ = some (.slice Ao yo co) ∧ w_.cell? ⟨b1, o1 + ki * 5 + 4, none⟩ = some (.slice Ap yp cp)))) (by kernel_rfl) ?_ (fun hHeld => ?_)
              · (first | with_reducible exact QD | with_reducible exact hNext | exact hHeld | assumption)
              refine tk 0 ?_; try simp only [Act.put, pz1, pz2, pz3]
              refine tk 1 ?_; try simp only [Act.put, pz1, pz2, pz3]
              refine tk 2 ?_; try simp only [Act.put, pz1, pz2, pz3]
              refine tk 3 ?_; try simp only [Act.put, pz1, pz2, pz3]
              refine tk 4 ?_; try simp only [Act.put, pz1, pz2, pz3]
              refine tk 5 ?_; try simp only [Act.put, pz1, pz2, pz3]
              refine tk 6 ?_; try simp only [Act.put, pz1, pz2, pz3]
              refine tk 7 ?_; try simp only [Act.put, pz1, pz2, pz3]
              refine tk 8 ?_; try simp only [Act.put, pz1, pz2, pz3]
              refine tk 9 ?_; try simp only [Act.put, pz1, pz2, pz3]
              refine tk 10 ?_; try simp only [Act.put, pz1, pz2, pz3]
              refine tk 11 ?_; try simp only [Act.put, pz1, pz2, pz3]
              refine tk 12 ?_; try simp only [Act.put, pz1, pz2, pz3]
              refine tk 13 ?_; try simp only [Act.put, pz1, pz2, pz3]
              refine tk 15 ?_; try simp only [Act.put, pz1, pz2, pz3]
              refine wpAnyH_ready (rs := [14]) (by kernel_rfl) (by simp) ?_
              refine AllReadyH.cons (o := ⟨some 43, .call { callee := .value (.func 53), args := #[.tmp 37, .tmp 42], argTypes := #[54, 54] }, 3, "ref.go:195", #[⟨8, .data⟩, ⟨13, .data⟩, ⟨3, .chain⟩, ⟨3, .guard⟩], some (3, true)⟩) rfl (fun K hK => ?_) AllReadyH.nil
              go_simp
              (go_at_call 53; ((with_reducible refine (HGO.out _ hHeld.1).mono ?_); rintro e' w6 ⟨rfl, b6⟩; have HZ9 := btr hHeld.1 hHeld.1.size b6; have hNext : (Below wr.heap.size wr w6 ∧ w6.cell? ⟨w.heap.size, 4, none⟩ = some (.slice (some ⟨b1, o1, none⟩) n cn) ∧ (w6.cell? ⟨b1, o1 + k * 5, none⟩ = some (.int .i64 y.id) ∧ w6.cell? ⟨b1, o1 + k * 5 + 1, none⟩ = some (.int .i64 y.bk) ∧ w6.cell? ⟨b1, o1 + k * 5 + 2, none⟩ = some (.string y.nm) ∧ w6.cell? ⟨b1, o1 + k * 5 + 3, none⟩ = some (.slice At yt ct) ∧ w6.cell? ⟨b1, o1 + k * 5 + 4, none⟩ = some (.slice As ys cs)) ∧ (w6.cell? ⟨b1, o1 + ki * 5, none⟩ = some (.int .i64 of.id) ∧ w6.cell? ⟨b1, o1 + ki * 5 + 1, none⟩ = some (.int .i64 of.bk) ∧ w6.cell? ⟨b1, o1 + ki * 5 + 2, none⟩ = some (.string of.nm) ∧ w6.cell? ⟨b1, o1 + ki * 5 + 3, none⟩ = some (.slice Ao yo co) ∧ w6.cell? ⟨b1, o1 + ki * 5 + 4, none⟩ = some (.slice Ap yp cp))) := ⟨HZ9, HCY.out _ HZ9⟩))
              go_wp2_with fail
              refine hK.out _ _ ?_ (fun hNew => ?_)
              · (first | with_reducible exact QD | with_reducible exact hNext | exact hHeld | assumption)
              clear hK K hHeld
              have hHeld := hNew
              clear hNew
              try simp only [Act.put, pz1, pz2, pz3]
              refine tk 16 ?_; try simp only [Act.put, pz1, pz2, pz3]
              refine tk 17 ?_; try simp only [Act.put, pz1, pz2, pz3]
              refine wpAnyH_done (by kernel_rfl) ?_ _
              refine NoPanic.normal ?_
              go_wp2_with fail
              go_meet
              exact ⟨by (first | rw [HTT.out] | rw [HTN.out]), hHeld.1⟩
          case rest =>
            obtain ⟨rfl, HBx⟩ := hcut
            clear QD HE k0 k1 k2 k3 k4
            have HRc : Hid (RowI wc wn.heap.size _ (knN s of j k)) := Lib.hid (own_belowW HR.out HBx)
            have HBc := btr HBr HBr.size HBx
            cases T
            · have HNX : Hid (knN s of j (k + 1) = knN s of j k) := Lib.hid (knN_miss HX.out (by rw [HM4.out]; exact HT.out))
              go_wp2_with fail
              go_roundw
              case rel => exact ⟨k + 1, by omega, by go_num, Lib.hid (by rw [HNX.out]; exact HRc.out), HBc⟩
              case measure => simp [intOf]; omega
            · have HNX : Hid (knN s of j (k + 1) = knN s of j k ++ [ntIt y]) := Lib.hid (knN_hit HX.out (by rw [HM4.out]; exact HT.out))
              obtain ⟨L, hLL⟩ : ∃ L, knN s of j k = L := ⟨_, rfl⟩
              rw [hLL] at HNX HRc HLE
              have hl60 := HLE.out
              have hzc := HBc.size
              have hon : wc.ownsRow wn.heap.size 50 2 _ L.length (L.flatMap itC) := HRc.out
              have HCV : ∀ w_, Below wn.heap.size wn w_ → w_.cell? ⟨w.heap.size, 4, none⟩ = some (.slice (some ⟨b1, o1, none⟩) n cn) ∧ w_.cell? ⟨b1, o1 + k * 5, none⟩ = some (.int .i64 y.id) ∧ w_.cell? ⟨b1, o1 + k * 5 + 2, none⟩ = some (.string y.nm) := fun w_ h => by
                have h9 := HCX.out _ h
                exact ⟨h9.1, h9.2.1.1, h9.2.1.2.2.1⟩
              obtain ⟨k4, y0, y2⟩ := HCV _ HBc
              clear hLL HLE HR HRc HCY HGO
              go_upto_region 14 with fail
              refine wp_region_noPanic ?_
              refine wp_region_held_drew (S := (fun w_ => w_.cell? ⟨w.heap.size, 4, none⟩ = some (.slice (some ⟨b1, o1, none⟩) n cn) ∧ w_.cell? ⟨b1, o1 + k * 5, none⟩ = some (.int .i64 y.id) ∧ w_.cell? ⟨b1, o1 + k * 5 + 2, none⟩ = some (.string y.nm))) (by kernel_rfl) ?_ (fun hHeld => ?_)
              · exact HCV _ (by first | exact drew_below HBc | exact b8 | exact drew_below b8 | exact drew_below (HBc.alloc HBc.size _) | exact HBc.alloc HBc.size _)
              refine tk 0 ?_; try simp only [Act.put, pz1, pz2, pz3]
              refine tk 1 ?_; try simp only [Act.put, pz1, pz2, pz3]
              refine tk 2 ?_; try simp only [Act.put, pz1, pz2, pz3]
              refine tk 3 ?_; try simp only [Act.put, pz1, pz2, pz3]
              refine tk 4 ?_; try simp only [Act.put, pz1, pz2, pz3]
              refine tk 5 ?_; try simp only [Act.put, pz1, pz2, pz3]
              refine tk 6 ?_; try simp only [Act.put, pz1, pz2, pz3]
              refine tk 7 ?_; try simp only [Act.put, pz1, pz2, pz3]
              refine tk 8 ?_; try simp only [Act.put, pz1, pz2, pz3]
              refine tk 9 ?_; try simp only [Act.put, pz1, pz2, pz3]
              refine tk 10 ?_; try simp only [Act.put, pz1, pz2, pz3]
              refine tk 11 ?_; try simp only [Act.put, pz1, pz2, pz3]
              refine tk 12 ?_; try simp only [Act.put, pz1, pz2, pz3]
              refine tk 13 ?_; try simp only [Act.put, pz1, pz2, pz3]
              refine wpAnyH_ready (rs := [14]) (by kernel_rfl) (by simp) ?_
              refine AllReadyH.cons (o := ⟨some 61, .buildSlice 29 1 #[(0, .tmp 60)], 29, "ref.go:196", #[⟨13, .data⟩], none⟩) rfl (fun K hK => ?_) AllReadyH.nil
              go_simp
              refine hK.out _ _ ?_ (fun hNew => ?_)
              · exact HCV _ (by first | exact drew_below HBc | exact b8 | exact drew_below b8 | exact drew_below (HBc.alloc HBc.size _) | exact HBc.alloc HBc.size _)
              clear hK K hHeld
              have hHeld := hNew
              clear hNew
              try simp only [Act.put, pz1, pz2, pz3]
              refine wpAnyH_ready (rs := [15]) (by kernel_rfl) (by simp) ?_
              refine AllReadyH.cons (o := ⟨some 62, .call { callee := .builtin .append, args := #[.tmp 47, .tmp 61], argTypes := #[29, 29] }, 29, "ref.go:196", #[⟨0, .data⟩, ⟨14, .data⟩], none⟩) rfl (fun K hK => ?_) AllReadyH.nil
              obtain ⟨ti0, hi, hz0, hz1, hz2⟩ := info_parts infoIt
              refine step_app _ rfl (.tmp 47) (.tmp 61) _ rfl wn.heap.size 50 ti0 _ 2 24 Tryz.underlying29 hi hz0 hz1 hz2 rfl (by decide) _ L.length (L.flatMap itC) rfl (hon.alloc _) _ 1 _ (itC (ntIt y)) rfl (rd_newI _ (ntIt y) rfl) (one1I _) (by unfold maxLen; omega) (by omega) (by simp; omega) ?_
              intro v8 w8 ho8 hg8 hv8
              clear hi hz0 hz1 hz2
              have hon2 : (wc.alloc (.cells #[.int .i64 y.id, .string y.nm] 50)).drew.ownsRow wn.heap.size 50 2 _ L.length (L.flatMap itC) := hon.alloc _
              have b8 : Below wn.heap.size wn w8 := (drew_below (HBc.alloc HBc.size _)).trans (below_app (by omega) (by simp; omega) hon2 hg8)
              refine hK.out _ _ ?_ (fun hNew => ?_)
              · exact HCV _ (by first | exact drew_below HBc | exact b8 | exact drew_below b8 | exact drew_below (HBc.alloc HBc.size _) | exact HBc.alloc HBc.size _)
              clear hK K hHeld
              have hHeld := hNew
              clear hNew
              try simp only [Act.put, pz1, pz2, pz3]
              refine tk 16 ?_; try simp only [Act.put, pz1, pz2, pz3]
              refine wpAnyH_done (by kernel_rfl) ?_ _
              refine NoPanic.normal ?_
              have HR2 : Hid (RowI w8 wn.heap.size v8 (knN s of j (k + 1))) := Lib.hid (by rw [HNX.out]; exact RowI.snoc ho8)
              clear ho8 hg8 hv8 hon
              go_wp2_with fail
              go_roundw
              case rel => exact ⟨k + 1, by omega, by go_num, (by first | exact HR2 | exact Lib.hid HR2.out), (by first | exact b8 | exact drew_below b8)⟩
              case measure => simp [intOf]; omega
        · obtain rfl : n = k := by omega
          have HR4 : Hid (RowI wr wn.heap.size _ (knUp s of (j + 1))) := Lib.hid (by rw [← knN_all, HN.out]; exact HR.out)
          go_wp2_with fail
          go_roundw
          case rel => exact ⟨m - 1, j + 1, by omega, by go_num, HR4, HBr⟩
          case measure => simp [intOf]; omega
    · obtain rfl : m = 0 := by omega
      obtain rfl : j = 4 := by omega
      clear hlt
      have hro := HR.out
      obtain ⟨A7, c7, rfl, hc7, hm7⟩ := own_shape hro
      have HRO := Lib.hid hro
      clear hro HR
      go_wp2_with fail
      go_ret2
      refine ⟨A7, c7, _, rfl, rfl, ?_, btr HBT HBT.size HBr⟩
      have h8 : wr.ownsRow wn.heap.size 50 2 (.slice A7 (knUp s of 4).length c7) (knUp s of 4).length ((knUp s of 4).map itC).flatten := by rw [← List.flatMap_def]; exact HRO.out
      exact sle_of_own h8 (itC_len _) (by decide)
end Go.Proofs.YteokeghenjobaaaGreatDoor
