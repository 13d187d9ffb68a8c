/- Chapter 17's own Drop and Discard. -/
import Derived.Test.YtokhapafpjejaaaGreatDoorSc6
import Derived.Test.YtokhapafpjejaaaGreatDoorSc2
import Derived.Test.YtokhapafpjejaaaGreatDoorSc1
set_option linter.unusedSimpArgs false
set_option linter.unusedVariables false
set_option maxRecDepth 100000
set_option maxHeartbeats 16000000
namespace Go.Proofs.YtokhapafpjejaaaGreatDoor
open Go.ChangeShapes Go.WideShapes Go.ChangeAt Go.RowKit
attribute [local go_sem ↓] Go.wp_at_zero Go.wp_at_succ
theorem filter_id {α : Type} (f : α → Int) : ∀ (l : List α) (k : Nat) (b : α), l.Pairwise (fun a b => f a < f b) → l[k]? = some b → l.filter (fun a => !(f a == f b)) = l.take k ++ l.drop (k + 1)
  | [], _, _, _, h => by simp at h
  | a :: l, 0, b, hp, h => by
    rw [List.pairwise_cons] at hp
    have hab : a = b := by simpa using h
    subst hab
    rw [List.filter_cons]
    simp only [beq_self_eq_true, Bool.not_true, Bool.false_eq_true, if_false, List.take_zero, List.nil_append, Nat.zero_add, List.drop_succ_cons, List.drop_zero]
    refine List.filter_eq_self.2 fun x hx => ?_
    have h1 := hp.1 x hx
    have : ¬ f x = f a := by omega
    simp [this]
  | a :: l, k + 1, b, hp, h => by
    rw [List.pairwise_cons] at hp
    have hb : l[k]? = some b := by simpa using h
    have h1 := hp.1 b (List.mem_of_getElem? hb)
    have h2 : ¬ f a = f b := by omega
    rw [List.filter_cons]
    simp only [beq_eq_false_iff_ne.2 h2, Bool.not_false, if_true, List.take_succ_cons, List.drop_succ_cons, List.cons_append]
    rw [filter_id f l k b hp.2 hb]
theorem flat_drop {C : Nat} : ∀ (es : List (List Value)) (i : Nat), (∀ x ∈ es, x.length = C) → es.flatten.drop (i * C) = (es.drop i).flatten
  | es, 0, _ => by simp
  | [], i + 1, _ => by simp
  | e :: es, i + 1, h => by
    have he := h e (by simp)
    rw [List.flatten_cons, List.drop_succ_cons, ← flat_drop es i (fun x hx => h x (by simp [hx])), List.drop_append, he]
    have h1 : (i + 1) * C - C = i * C := by rw [Nat.add_mul, Nat.one_mul, Nat.add_sub_cancel]
    rw [List.drop_eq_nil_of_le (by rw [he, Nat.add_mul, Nat.one_mul]; omega), List.nil_append, h1]
theorem BksW.out_ {w : World} {base k n : Nat} {v : Value} {bs : List Bk} (hn : bs.length = n) (hk : k < n) (h : w.ownsRow base 59 2 v (k + (n - (k + 1))) ((bs.map bkC).flatten.take (k * 2) ++ (bs.map bkC).flatten.drop ((k + 1) * 2))) : BksW w base v (bs.take k ++ bs.drop (k + 1)) := by
  rw [flat_take _ _ (bkC_two bs), flat_drop _ _ (bkC_two bs), ← List.map_take, ← List.map_drop, ← List.flatten_append, ← List.map_append] at h
  show w.ownsRow _ _ _ _ (bs.take k ++ bs.drop (k + 1)).length _
  have hl : (bs.take k ++ bs.drop (k + 1)).length = k + (n - (k + 1)) := by rw [List.length_append, List.length_take, List.length_drop, hn]; omega
  rw [hl]
  exact h
theorem NtsW.out_ {w w' : World} {base k n : Nat} {v v' : Value} {ts : List Nt} {es : List (List Value)} (hn : ts.length = n) (hel : es.length = n) (hk : k < n) (hon : w.ownsRow base 46 5 v n es.flatten) (hnt : ∀ (k : Nat) (m : Nt) (e : List Value), ts[k]? = some m → es[k]? = some e → NtW w base m e) (hg : w.grownBy w' v.ownBlock) (h : w'.ownsRow base 46 5 v' (k + (n - (k + 1))) (es.flatten.take (k * 5) ++ es.flatten.drop ((k + 1) * 5))) : NtsW w' base v' (ts.take k ++ ts.drop (k + 1)) := by
  have h5 : ∀ x ∈ es, x.length = 5 := es_five (hel.trans hn.symm) hnt
  rw [flat_take _ _ h5, flat_drop _ _ h5, ← List.flatten_append] at h
  have hl : (ts.take k ++ ts.drop (k + 1)).length = k + (n - (k + 1)) := by rw [List.length_append, List.length_take, List.length_drop, hn]; omega
  have hl2 : (es.take k ++ es.drop (k + 1)).length = k + (n - (k + 1)) := by rw [List.length_append, List.length_take, List.length_drop, hel]; omega
  refine ⟨es.take k ++ es.drop (k + 1), by rw [hl, hl2], by rw [hl]; exact h, fun j m e a c => ?_⟩
  rw [List.getElem?_append, List.length_take, Nat.min_eq_left (by omega)] at a c
  split at a
  · rename_i hj
    rw [if_pos hj] at c
    rw [List.getElem?_take_of_lt hj] at a c
    exact (hnt j m e a c).kept hon hg (by decide) (by decide)
  · rename_i hj
    rw [if_neg hj] at c
    rw [List.getElem?_drop] at a c
    exact (hnt _ m e a c).kept hon hg (by decide) (by decide)
theorem rd_tail {w : World} {base C n c g k : Nat} {e : TypeId} {xs : List Value} (h : w.ownsRow base e C (.slice (some ⟨g, 0, none⟩) n c) n xs) (hk : k + 1 ≤ n) : Rd w (if c = k + 1 then some ⟨g, 0, none⟩ else some ⟨g, (k + 1) * C, none⟩) (n - (k + 1)) C (xs.drop ((k + 1) * C)) := by
  have hl := h.1
  have hc : n ≤ c := by
    obtain ⟨A, c', he, h1, h2⟩ := own_shape h
    cases he
    exact h1
  refine ⟨by rw [List.length_drop, hl, Nat.sub_mul], ?_⟩
  by_cases hcc : c = k + 1
  · left
    omega
  · right
    rw [if_neg hcc]
    refine ⟨g, (k + 1) * C, rfl, fun j u hj => ?_⟩
    rw [List.getElem?_drop] at hj
    have hlt := (List.getElem?_eq_some_iff.1 hj).1
    rw [h.cellAt _ (by omega)]
    exact hj
def NtsB (w : World) (b1 b2 : Nat) (vn : Value) (ts : List Nt) : Prop := ∃ es : List (List Value), es.length = ts.length ∧ w.ownsRow b2 46 5 vn ts.length es.flatten ∧ ∀ (k : Nat) (n : Nt) (e : List Value), ts[k]? = some n → es[k]? = some e → NtW w b1 n e
theorem NtsB.nil (w : World) (b1 b2 : Nat) : NtsB w b1 b2 (.slice none 0 0) [] := ⟨[], rfl, World.ownsRow_nil _ _ _ _, fun k n e a _ => by simp at a⟩
theorem NtsB.toW {w : World} {b1 b2 : Nat} {vn : Value} {ts : List Nt} (h : NtsB w b1 b2 vn ts) (hb : b1 ≤ b2) : NtsW w b1 vn ts := by
  obtain ⟨es, h1, h2, h3⟩ := h
  exact ⟨es, h1, own_base h2 hb, h3⟩
theorem NtsB.snoc {w w' : World} {b1 b2 : Nat} {v v' : Value} {ts : List Nt} {b : Nt} {es : List (List Value)} {e : List Value} (hel : es.length = ts.length) (hon : w.ownsRow b2 46 5 v ts.length es.flatten) (hnt : ∀ (k : Nat) (m : Nt) (e : List Value), ts[k]? = some m → es[k]? = some e → NtW w b1 m e) (hb : NtW w b1 b e) (hg : w.grownBy w' v.ownBlock) (h : w'.ownsRow b2 46 5 v' (ts.length + 1) (es.flatten ++ e)) : NtsB w' b1 b2 v' (ts ++ [b]) := by
  refine ⟨es ++ [e], by simp [hel], ?_, fun k m e2 a c => ?_⟩
  · rw [List.flatten_append, List.length_append]
    simpa using h
  · rw [List.getElem?_append] at a c
    rw [hel] at c
    split at a
    · rename_i hk
      rw [if_pos hk] at c
      exact (hnt k m e2 a c).kept hon hg (by decide) (by decide)
    · rename_i hk
      rw [if_neg hk] at c
      cases hj : k - ts.length with
      | zero =>
        rw [hj] at a c
        cases a
        cases c
        exact hb.kept hon hg (by decide) (by decide)
      | succ j =>
        rw [hj] at a
        simp at a
theorem rd_newE (w : World) (a b c d e : Value) {g : Nat} (hg : g = w.heap.size) : Rd (w.alloc (.cells #[a, b, c, d, e] 46)) (some ⟨g, 0, none⟩) 1 5 [a, b, c, d, e] := by
  subst hg
  refine ⟨rfl, Or.inr ⟨_, 0, rfl, fun j u hj => ?_⟩⟩
  rw [Joins.cell_of_block (heap_alloc_new w _), Nat.zero_add]
  simpa using hj
theorem rdisc_yes (s : Sf) (v : Value) (y : Int) (w : World) (hS : ShR w w.heap.size v s) (hz : SzF s) (hc : discC s y = 0) :
    Calls Tryz.prog 42 #[v, .int .i64 y] w fun e' w' => ∃ v', e' = .returned (.tuple #[v', .int .i64 0]) ∧ ShW w' w.heap.size v' (discS s y) ∧ Below w.heap.size w w' := by
  have hS0 := hS
  obtain ⟨Ab, cb, An, cn, rfl, hB, hN, hcb, hmb, hcn, hmn⟩ := hS.ex
  clear hS
  obtain ⟨HB, B1, B2, S1⟩ := pre2 hS0
  have HZ := Lib.hid hz
  clear hS0 hB hN hcb hmb hcn hmn hz
  obtain ⟨hM, hI⟩ : mayS s = true ∧ ¬ noteAt s y < 0 := by
    unfold discC at hc
    cases h1 : mayS s <;> by_cases h2 : noteAt s y < 0 <;> rw [h1] at hc <;> simp [h2] at hc ⊢
    all_goals exact Int.not_lt.1 h2
  obtain ⟨k, b, hk, hb, hid⟩ := noteAt_get (Int.not_lt.1 hI)
  have HRS : Hid (discS s y = { s with ts := s.ts.take k ++ s.ts.drop (k + 1) }) := Lib.hid (by
    unfold discS
    rw [← hid, filter_id Nt.id s.ts k b (mayF_of hM).tord hb])
  have HB1 := Lib.hid hk
  obtain ⟨n, hn⟩ : ∃ n, s.ts.length = n := ⟨_, rfl⟩
  have hkl : k < n := by rw [← hn]; exact (List.getElem?_eq_some_iff.1 hb).1
  have hnl : n ≤ 100000 := by have := (mayF_of hM).tl; omega
  have i0 : (0 : Int) ≤ (k : Int) := by omega
  have i1 : (k : Int) ≤ (n : Int) := by omega
  have i2 : ¬ (k : Int) < 0 := by omega
  have HKL := Lib.hid hkl
  have HLL := Lib.hid hn
  clear hI hk hb hid hkl
  have hMF := mayF_of hM
  have hlb : s.bs.length ≤ 100000 := by have := hMF.bl; omega
  have hln : s.ts.length ≤ 100000 := by have := hMF.tl; omega
  have HM : Hid (rMayB s = true) := Lib.hid ((rMay_eq s).trans hM)
  have HLB := Lib.hid hlb
  have HLN := Lib.hid hln
  have HLR := Lib.hid hMF.small
  clear hM hMF hc hlb hln
  rw [hn] at HB B1 S1 B2 ⊢
  clear hn
  go_enter Tryz.func42, Tryz.ntmps42
  go_upto_region 6 with (first | (go_at_call 11; ((with_reducible refine (rMay_any s _ _ S1 HZ.out _ HM.out).mono ?_); rintro e' w3 ⟨rfl, bx⟩; (try clear k0 k1 k2 k3 k4 r0 r1 r2 r3 r4 t0 t1 t2 t3 t4); obtain ⟨S1, B1, B2, HB, k0, k1, k2, k3, k4, r0, r1, r2, r3, r4, t0, t1, t2, t3, t4⟩ := keepR S1 B1 B2 HB bx; clear bx)) | (go_at_call 57; ((with_reducible refine (rNote_any s _ y _ S1 ⟨HZ.out.bl, HZ.out.tl⟩).mono ?_); rintro e' w4 ⟨rfl, bx⟩; (try rw [HB1.out]); (try clear k0 k1 k2 k3 k4 r0 r1 r2 r3 r4 t0 t1 t2 t3 t4); obtain ⟨S1, B1, B2, HB, k0, k1, k2, k3, k4, r0, r1, r2, r3, r4, t0, t1, t2, t3, t4⟩ := keepR S1 B1 B2 HB bx; clear bx)))
  have hW5 : w.heap.size + 2 ≤ w4.heap.size := by have := B2.lt; omega
  go_upto_region 7 with (go_at_call 8; ((with_reducible refine (rcopy_any s _ _ S1 HLB.out HLN.out HLR.out).mono ?_); rintro e' w9 ⟨v6, rfl, hQ, b6⟩; obtain ⟨Ab6, cb6, An6, cn6, rfl, hBk, hNt, q1, q2, q3, q4⟩ := hQ.parts; rw [HLL.out] at q3 hNt ⊢; have B1 := B1.below b6 B1.lt; have B2 := B2.below b6 B2.lt; have HB := btr HB HB.size b6; have hz6 := b6.size; (try clear k0 k1 k2 k3 k4 r0 r1 r2 r3 r4 t0 t1 t2 t3 t4); have k0 := B1.cell_ 0; have t0 := B1.free 0; have k1 := B1.cell_ 1; have t1 := B1.free 1; have k2 := B1.cell_ 2; have t2 := B1.free 2; have k3 := B1.cell_ 3; have t3 := B1.free 3; have k4 := B1.cell_ 4; have t4 := B1.free 4; simp at k0 k1 k2 k3 k4; clear b6 hQ S1))
  have B1u := B1.st5_ (.int .i64 s.nb) (.int .i64 s.nn) (.int .i64 s.ns) (.slice Ab6 s.bs.length cb6) (.slice An6 n cn6)
  have hg6 := st5_grown w9 w.heap.size 0 (.int .i64 s.nb) (.int .i64 s.nn) (.int .i64 s.ns) (.slice Ab6 s.bs.length cb6) (.slice An6 n cn6)
  have B2u := B2.grown hg6 (by omega)
  have hBk2 := hBk.far hg6 (by omega)
  have hNt2 := hNt.far hg6 (by omega)
  have hb2 := below_grown HB hg6 (Nat.le_refl _) HB.size
  have HSZ : Hid (w4.heap.size ≤ (st5 w9 w.heap.size 0 (.int .i64 s.nb) (.int .i64 s.nn) (.int .i64 s.ns) (.slice Ab6 s.bs.length cb6) (.slice An6 n cn6)).heap.size) := Lib.hid (by have := hz6; have := hg6.size; omega)
  clear hg6
  obtain ⟨Wd, hWd⟩ : ∃ V : World, V = (st5 w9 w.heap.size 0 (.int .i64 s.nb) (.int .i64 s.nn) (.int .i64 s.ns) (.slice Ab6 s.bs.length cb6) (.slice An6 n cn6)) := ⟨_, rfl⟩
  change Code.wp _ _ _ _ (st5 w9 w.heap.size 0 (.int .i64 s.nb) (.int .i64 s.nn) (.int .i64 s.ns) (.slice Ab6 s.bs.length cb6) (.slice An6 n cn6))
  rw [← hWd] at B1u B2u hBk2 hNt2 hb2 HSZ ⊢
  clear hWd B1 B2 HB hBk hNt k0 k1 k2 k3 k4 t0 t1 t2 t3 t4 hz6
  have HW5 := Lib.hid hW5
  obtain ⟨es, hel, hon, hnt⟩ := hNt2
  rw [HLL.out] at hel hon
  have hkl := HKL.out
  obtain ⟨gb, hgb, hgb2⟩ : ∃ gb, An6 = some ⟨gb, 0, none⟩ ∧ w4.heap.size ≤ gb := by
    rcases hon.2 with ⟨h, h0⟩ | ⟨g, c, cu, h, hb, _⟩
    · omega
    · injection h with h1 h2 h3
      exact ⟨g, h1, hb⟩
  subst hgb
  have hk1 : k + 1 ≤ n := hkl
  have j0 : (0 : Int) ≤ (k : Int) + 1 := by omega
  have j1 : (k : Int) + 1 ≤ (n : Int) := by omega
  have j2 : ((k : Int) + 1).toNat = k + 1 := by omega
  have j3 : IntKind.i64.wrap ((k : Int) + 1) = (k : Int) + 1 := wrapS _ (by omega) (by omega)
  have j4 : (k : Int) ≤ (cn6 : Int) := by omega
  have j5 : ¬ cn6 = 0 := by omega
  have honc := drew_own (own_cut (i := k) hon (by simp) (by omega))
  have honr := rd_tail (drew_own hon) hk1
  have hone : ∀ u ∈ es.flatten.drop ((k + 1) * 5), u.oneCell' = true := fun u hu => by
    obtain ⟨e, he, hu2⟩ := List.mem_flatten.1 (List.mem_of_mem_drop hu)
    obtain ⟨j, hj, rfl⟩ := List.mem_iff_getElem.1 he
    obtain ⟨vt, vs, h1, h2, h3⟩ := hnt j _ _ (List.getElem?_eq_getElem (by rw [HLL.out]; omega)) (List.getElem?_eq_getElem hj)
    obtain ⟨A1, c1, r1, _⟩ := own_shape h2
    obtain ⟨A2, c2, r2, _⟩ := own_shape h3
    rw [h1, r1, r2] at hu2
    simp [ntC] at hu2
    rcases hu2 with rfl | rfl | rfl | rfl | rfl <;> rfl
  have k4 := drew_cell (B1u.cell_ 4)
  have t4 := (drew_blk B1u).free 4
  simp at k4
  refine wp_region_noPanic ?_
  refine wp_region_held_drew (S := (fun _ => True)) (by kernel_rfl) ?_ (fun hHeld => ?_)
  · exact trivial
  refine tk 0 ⟨some 19, .fieldAddr 25 (.tmp 2) 4, 0, "ref.go:274", #[], none⟩ ?_; try simp only [Act.put, pz1, pz2, pz3]
  refine tk 2 ⟨some 21, .move (.tmp 6), 3, "ref.go:274", #[], none⟩ ?_; try simp only [Act.put, pz1, pz2, pz3]
  refine tk 4 ⟨some 23, .fieldAddr 25 (.tmp 2) 4, 0, "ref.go:274", #[], none⟩ ?_; try simp only [Act.put, pz1, pz2, pz3]
  refine tk 6 ⟨some 25, .move (.tmp 6), 3, "ref.go:274", #[], none⟩ ?_; try simp only [Act.put, pz1, pz2, pz3]
  refine tk 7 ⟨some 26, .binOp .add 3 (.tmp 25) (.const (.int .i64 1)) 3, 3, "ref.go:274", #[⟨6, .data⟩], none⟩ ?_; try simp only [Act.put, pz1, pz2, pz3]
  refine wpAnyH_ready (rs := [1, 5]) (by kernel_rfl) (by simp) ?_
  refine (AllReadyH.cons (o := ⟨some 20, .load 23 (.tmp 19), 23, "ref.go:274", #[⟨0, .data⟩], none⟩) rfl (fun K hK => ?_) (AllReadyH.cons (o := ⟨some 24, .load 23 (.tmp 23), 23, "ref.go:274", #[⟨4, .data⟩], none⟩) rfl (fun K hK => ?_) AllReadyH.nil))
  · go_simp
    refine hK.out _ _ ?_ (fun hNew => ?_)
    · exact trivial
    clear hK K hHeld
    have hHeld := hNew
    clear hNew
    try simp only [Act.put, pz1, pz2, pz3]
    refine tk 3 ⟨some 22, .slice 23 (.tmp 20) none (some (.tmp 21)) none, 23, "ref.go:274", #[⟨1, .data⟩, ⟨2, .data⟩], none⟩ ?_; try simp only [Act.put, pz1, pz2, pz3]
    refine wpAnyH_ready (rs := [5]) (by kernel_rfl) (by simp) ?_
    refine AllReadyH.cons (o := ⟨some 24, .load 23 (.tmp 23), 23, "ref.go:274", #[⟨4, .data⟩], none⟩) rfl (fun K hK => ?_) AllReadyH.nil
    go_simp
    refine hK.out _ _ ?_ (fun hNew => ?_)
    · exact trivial
    clear hK K hHeld
    have hHeld := hNew
    clear hNew
    try simp only [Act.put, pz1, pz2, pz3]
    refine tk 8 ⟨some 27, .slice 23 (.tmp 24) (some (.tmp 26)) none none, 23, "ref.go:274", #[⟨5, .data⟩, ⟨7, .data⟩], none⟩ ?_; try simp only [Act.put, pz1, pz2, pz3]
    refine wpAnyH_ready (rs := [9]) (by kernel_rfl) (by simp) ?_
    refine AllReadyH.cons (o := ⟨some 28, .call { callee := .builtin .append, args := #[.tmp 22, .tmp 27], argTypes := #[23, 23] }, 23, "ref.go:274", #[⟨3, .data⟩, ⟨8, .data⟩], none⟩) rfl (fun K hK => ?_) AllReadyH.nil
    obtain ⟨ti0, hi, hz0, hz1, hz2⟩ := info_parts info_clNt
    refine step_app _ rfl (.tmp 22) (.tmp 27) _ rfl w4.heap.size 46 ti0 _ 5 80 Tryz.underlying23 hi hz0 hz1 hz2 rfl (by decide) _ k (es.flatten.take (k * 5)) rfl honc _ (n - (k + 1)) _ (es.flatten.drop ((k + 1) * 5)) rfl honr hone (by unfold maxLen; omega) (by omega) HSZ.out ?_
    intro v7 w7 ho' hg' hv'
    clear hi hz0 hz1 hz2 hv'
    generalize (if cn6 = k + 1 then some (⟨gb, 0, none⟩ : Addr) else some ⟨gb, (k + 1) * 5, none⟩) = A22
    obtain ⟨A7, c7, rfl, q21, q22⟩ := own_shape ho'
    have hof : (Value.slice (some ⟨gb, 0, none⟩) k cn6).ownBlock ≠ some w.heap.size := fun h => by have h2 : gb = w.heap.size := (by simpa [Value.ownBlock] using h); have := HW5.out; omega
    have B1a := (drew_blk B1u).grownR hg' hof
    have k4' := B1a.cell_ 4
    have t4' := B1a.free 4
    simp at k4'
    refine hK.out _ _ ?_ (fun hNew => ?_)
    · exact trivial
    clear hK K hHeld
    have hHeld := hNew
    clear hNew
    try simp only [Act.put, pz1, pz2, pz3]
    refine tk 10 ⟨some 29, .fieldAddr 25 (.tmp 2) 4, 0, "ref.go:274", #[⟨0, .phase⟩, ⟨1, .phase⟩, ⟨2, .phase⟩, ⟨3, .phase⟩, ⟨4, .phase⟩, ⟨5, .phase⟩, ⟨6, .phase⟩, ⟨7, .phase⟩, ⟨8, .phase⟩, ⟨9, .phase⟩], none⟩ ?_; try simp only [Act.put, pz1, pz2, pz3]
    refine wpAnyH_ready (rs := [11]) (by kernel_rfl) (by simp) ?_
    refine AllReadyH.cons (o := ⟨none, .store 23 (.tmp 29) (.tmp 28), 0, "ref.go:274", #[⟨10, .data⟩, ⟨9, .data⟩, ⟨9, .chain⟩, ⟨0, .phase⟩, ⟨1, .phase⟩, ⟨2, .phase⟩, ⟨3, .phase⟩, ⟨4, .phase⟩, ⟨5, .phase⟩, ⟨6, .phase⟩, ⟨7, .phase⟩, ⟨8, .phase⟩, ⟨9, .phase⟩], none⟩) rfl (fun K hK => ?_) AllReadyH.nil
    go_simp
    refine hK.out _ _ ?_ (fun hNew => ?_)
    · exact trivial
    clear hK K hHeld
    have hHeld := hNew
    clear hNew
    try simp only [Act.put, pz1, pz2, pz3]
    refine wpAnyH_done (by kernel_rfl) ?_ _
    refine NoPanic.normal ?_
    have hof2 : (Value.slice (some ⟨gb, 0, none⟩) k cn6).ownBlock ≠ some (w.heap.size + 1) := fun h => by have h2 : gb = w.heap.size + 1 := (by simpa [Value.ownBlock] using h); have := HW5.out; omega
    have B2a := (drew_blk B2u).grownR hg' hof2
    have hg1 := set1_grown w7 w.heap.size 4 (.slice A7 (k + (n - (k + 1))) c7)
    have B1w := B1a.set_ 4 (.slice A7 (k + (n - (k + 1))) c7)
    simp at B1w
    have B2w := B2a.grown hg1 (by omega)
    have hNw := (NtsW.out_ (v' := .slice A7 (k + (n - (k + 1))) c7) HLL.out hel hkl (drew_own hon) (fun k m e a c => (hnt k m e a c).below (below_dr _)) hg' ho').far hg1 (by have := HW5.out; omega)
    have hBw := (BksW.apartN (w := Wd.drew) (drew_own hBk2) honc hg').far hg1 (by have := HW5.out; omega)
    have hbw := below_grown ((drew_below hb2).trans (below_app (B := w.heap.size) (by have := HW5.out; omega) HSZ.out honc hg')) hg1 (Nat.le_refl _) (by have h1 := hb2.size; have h2 := hg'.size; simp only [World.drew] at h2; omega)
    obtain ⟨Wx, hWx⟩ : ∃ V : World, V = w7.setCell ⟨w.heap.size, 4, none⟩ (.slice A7 (k + (n - (k + 1))) c7) := ⟨_, rfl⟩
    rw [← hWx] at B1w B2w hBw hNw hbw ⊢
    clear hWx B1u B2u B1a B2a hb2 ho' hg' hg1 hof hof2 honc honr hone HSZ k4' t4' hBk2 hel hon hnt
    clear k4
    have k0 := B1w.cell_ 0
    have r0 := B2w.cell_ 0
    have t0 := B2w.free 0
    have k1 := B1w.cell_ 1
    have r1 := B2w.cell_ 1
    have t1 := B2w.free 1
    have k2 := B1w.cell_ 2
    have r2 := B2w.cell_ 2
    have t2 := B2w.free 2
    have k3 := B1w.cell_ 3
    have r3 := B2w.cell_ 3
    have t3 := B2w.free 3
    have k4 := B1w.cell_ 4
    have r4 := B2w.cell_ 4
    have t4 := B2w.free 4
    simp at k0 k1 k2 k3 k4 r0 r1 r2 r3 r4
    go_wp2_with fail
    have B2e := B2w.st5_ (.int .i64 s.nb) (.int .i64 s.nn) (.int .i64 s.ns) (.slice Ab6 s.bs.length cb6) (.slice A7 (k + (n - (k + 1))) c7)
    have hgE := st5_grown Wx (w.heap.size + 1) 0 (.int .i64 s.nb) (.int .i64 s.nn) (.int .i64 s.ns) (.slice Ab6 s.bs.length cb6) (.slice A7 (k + (n - (k + 1))) c7)
    have hBe := hBw.far hgE (by have := HW5.out; omega)
    have hNe := hNw.far hgE (by have := HW5.out; omega)
    have hbe := below_grown hbw hgE (by omega) hbw.size
    change bodyPost _ _ _ _ _ (st5 Wx (w.heap.size + 1) 0 (.int .i64 s.nb) (.int .i64 s.nn) (.int .i64 s.ns) (.slice Ab6 s.bs.length cb6) (.slice A7 (k + (n - (k + 1))) c7))
    clear hgE
    generalize st5 Wx (w.heap.size + 1) 0 (.int .i64 s.nb) (.int .i64 s.nn) (.int .i64 s.ns) (.slice Ab6 s.bs.length cb6) (.slice A7 (k + (n - (k + 1))) c7) = WF at B2e hBe hNe hbe ⊢
    apply bodyPost_ret (v := .tuple #[.agg #[.int .i64 s.nb, .int .i64 s.nn, .int .i64 s.ns, .slice Ab6 s.bs.length cb6, .slice A7 (k + (n - (k + 1))) c7], .int .i64 0])
    · exact results_cell1 Tryz.results42 _ WF (w.heap.size + 1) 25 _ (0, 0) _ rfl B2e Tryz.underlying25 rfl (by kernel_rfl)
    · rfl
    · refine ⟨_, rfl, ?_, hbe⟩
      rw [HRS.out]
      exact ShW.base_ (ShW.make (s := { s with ts := s.ts.take k ++ s.ts.drop (k + 1) }) (w := WF) (base := w4.heap.size) (vb := .slice Ab6 s.bs.length cb6) (vn := .slice A7 (k + (n - (k + 1))) c7) hBe hNe) (by have := HW5.out; omega)
  · go_simp
    refine hK.out _ _ ?_ (fun hNew => ?_)
    · exact trivial
    clear hK K hHeld
    have hHeld := hNew
    clear hNew
    try simp only [Act.put, pz1, pz2, pz3]
    refine tk 8 ⟨some 27, .slice 23 (.tmp 24) (some (.tmp 26)) none none, 23, "ref.go:274", #[⟨5, .data⟩, ⟨7, .data⟩], none⟩ ?_; try simp only [Act.put, pz1, pz2, pz3]
    refine wpAnyH_ready (rs := [1]) (by kernel_rfl) (by simp) ?_
    refine AllReadyH.cons (o := ⟨some 20, .load 23 (.tmp 19), 23, "ref.go:274", #[⟨0, .data⟩], none⟩) rfl (fun K hK => ?_) AllReadyH.nil
    go_simp
    refine hK.out _ _ ?_ (fun hNew => ?_)
    · exact trivial
    clear hK K hHeld
    have hHeld := hNew
    clear hNew
    try simp only [Act.put, pz1, pz2, pz3]
    refine tk 3 ⟨some 22, .slice 23 (.tmp 20) none (some (.tmp 21)) none, 23, "ref.go:274", #[⟨1, .data⟩, ⟨2, .data⟩], none⟩ ?_; try simp only [Act.put, pz1, pz2, pz3]
    refine wpAnyH_ready (rs := [9]) (by kernel_rfl) (by simp) ?_
    refine AllReadyH.cons (o := ⟨some 28, .call { callee := .builtin .append, args := #[.tmp 22, .tmp 27], argTypes := #[23, 23] }, 23, "ref.go:274", #[⟨3, .data⟩, ⟨8, .data⟩], none⟩) rfl (fun K hK => ?_) AllReadyH.nil
    obtain ⟨ti0, hi, hz0, hz1, hz2⟩ := info_parts info_clNt
    refine step_app _ rfl (.tmp 22) (.tmp 27) _ rfl w4.heap.size 46 ti0 _ 5 80 Tryz.underlying23 hi hz0 hz1 hz2 rfl (by decide) _ k (es.flatten.take (k * 5)) rfl honc _ (n - (k + 1)) _ (es.flatten.drop ((k + 1) * 5)) rfl honr hone (by unfold maxLen; omega) (by omega) HSZ.out ?_
    intro v7 w7 ho' hg' hv'
    clear hi hz0 hz1 hz2 hv'
    generalize (if cn6 = k + 1 then some (⟨gb, 0, none⟩ : Addr) else some ⟨gb, (k + 1) * 5, none⟩) = A22
    obtain ⟨A7, c7, rfl, q21, q22⟩ := own_shape ho'
    have hof : (Value.slice (some ⟨gb, 0, none⟩) k cn6).ownBlock ≠ some w.heap.size := fun h => by have h2 : gb = w.heap.size := (by simpa [Value.ownBlock] using h); have := HW5.out; omega
    have B1a := (drew_blk B1u).grownR hg' hof
    have k4' := B1a.cell_ 4
    have t4' := B1a.free 4
    simp at k4'
    refine hK.out _ _ ?_ (fun hNew => ?_)
    · exact trivial
    clear hK K hHeld
    have hHeld := hNew
    clear hNew
    try simp only [Act.put, pz1, pz2, pz3]
    refine tk 10 ⟨some 29, .fieldAddr 25 (.tmp 2) 4, 0, "ref.go:274", #[⟨0, .phase⟩, ⟨1, .phase⟩, ⟨2, .phase⟩, ⟨3, .phase⟩, ⟨4, .phase⟩, ⟨5, .phase⟩, ⟨6, .phase⟩, ⟨7, .phase⟩, ⟨8, .phase⟩, ⟨9, .phase⟩], none⟩ ?_; try simp only [Act.put, pz1, pz2, pz3]
    refine wpAnyH_ready (rs := [11]) (by kernel_rfl) (by simp) ?_
    refine AllReadyH.cons (o := ⟨none, .store 23 (.tmp 29) (.tmp 28), 0, "ref.go:274", #[⟨10, .data⟩, ⟨9, .data⟩, ⟨9, .chain⟩, ⟨0, .phase⟩, ⟨1, .phase⟩, ⟨2, .phase⟩, ⟨3, .phase⟩, ⟨4, .phase⟩, ⟨5, .phase⟩, ⟨6, .phase⟩, ⟨7, .phase⟩, ⟨8, .phase⟩, ⟨9, .phase⟩], none⟩) rfl (fun K hK => ?_) AllReadyH.nil
    go_simp
    refine hK.out _ _ ?_ (fun hNew => ?_)
    · exact trivial
    clear hK K hHeld
    have hHeld := hNew
    clear hNew
    try simp only [Act.put, pz1, pz2, pz3]
    refine wpAnyH_done (by kernel_rfl) ?_ _
    refine NoPanic.normal ?_
    have hof2 : (Value.slice (some ⟨gb, 0, none⟩) k cn6).ownBlock ≠ some (w.heap.size + 1) := fun h => by have h2 : gb = w.heap.size + 1 := (by simpa [Value.ownBlock] using h); have := HW5.out; omega
    have B2a := (drew_blk B2u).grownR hg' hof2
    have hg1 := set1_grown w7 w.heap.size 4 (.slice A7 (k + (n - (k + 1))) c7)
    have B1w := B1a.set_ 4 (.slice A7 (k + (n - (k + 1))) c7)
    simp at B1w
    have B2w := B2a.grown hg1 (by omega)
    have hNw := (NtsW.out_ (v' := .slice A7 (k + (n - (k + 1))) c7) HLL.out hel hkl (drew_own hon) (fun k m e a c => (hnt k m e a c).below (below_dr _)) hg' ho').far hg1 (by have := HW5.out; omega)
    have hBw := (BksW.apartN (w := Wd.drew) (drew_own hBk2) honc hg').far hg1 (by have := HW5.out; omega)
    have hbw := below_grown ((drew_below hb2).trans (below_app (B := w.heap.size) (by have := HW5.out; omega) HSZ.out honc hg')) hg1 (Nat.le_refl _) (by have h1 := hb2.size; have h2 := hg'.size; simp only [World.drew] at h2; omega)
    obtain ⟨Wx, hWx⟩ : ∃ V : World, V = w7.setCell ⟨w.heap.size, 4, none⟩ (.slice A7 (k + (n - (k + 1))) c7) := ⟨_, rfl⟩
    rw [← hWx] at B1w B2w hBw hNw hbw ⊢
    clear hWx B1u B2u B1a B2a hb2 ho' hg' hg1 hof hof2 honc honr hone HSZ k4' t4' hBk2 hel hon hnt
    clear k4
    have k0 := B1w.cell_ 0
    have r0 := B2w.cell_ 0
    have t0 := B2w.free 0
    have k1 := B1w.cell_ 1
    have r1 := B2w.cell_ 1
    have t1 := B2w.free 1
    have k2 := B1w.cell_ 2
    have r2 := B2w.cell_ 2
    have t2 := B2w.free 2
    have k3 := B1w.cell_ 3
    have r3 := B2w.cell_ 3
    have t3 := B2w.free 3
    have k4 := B1w.cell_ 4
    have r4 := B2w.cell_ 4
    have t4 := B2w.free 4
    simp at k0 k1 k2 k3 k4 r0 r1 r2 r3 r4
    go_wp2_with fail
    have B2e := B2w.st5_ (.int .i64 s.nb) (.int .i64 s.nn) (.int .i64 s.ns) (.slice Ab6 s.bs.length cb6) (.slice A7 (k + (n - (k + 1))) c7)
    have hgE := st5_grown Wx (w.heap.size + 1) 0 (.int .i64 s.nb) (.int .i64 s.nn) (.int .i64 s.ns) (.slice Ab6 s.bs.length cb6) (.slice A7 (k + (n - (k + 1))) c7)
    have hBe := hBw.far hgE (by have := HW5.out; omega)
    have hNe := hNw.far hgE (by have := HW5.out; omega)
    have hbe := below_grown hbw hgE (by omega) hbw.size
    change bodyPost _ _ _ _ _ (st5 Wx (w.heap.size + 1) 0 (.int .i64 s.nb) (.int .i64 s.nn) (.int .i64 s.ns) (.slice Ab6 s.bs.length cb6) (.slice A7 (k + (n - (k + 1))) c7))
    clear hgE
    generalize st5 Wx (w.heap.size + 1) 0 (.int .i64 s.nb) (.int .i64 s.nn) (.int .i64 s.ns) (.slice Ab6 s.bs.length cb6) (.slice A7 (k + (n - (k + 1))) c7) = WF at B2e hBe hNe hbe ⊢
    apply bodyPost_ret (v := .tuple #[.agg #[.int .i64 s.nb, .int .i64 s.nn, .int .i64 s.ns, .slice Ab6 s.bs.length cb6, .slice A7 (k + (n - (k + 1))) c7], .int .i64 0])
    · exact results_cell1 Tryz.results42 _ WF (w.heap.size + 1) 25 _ (0, 0) _ rfl B2e Tryz.underlying25 rfl (by kernel_rfl)
    · rfl
    · refine ⟨_, rfl, ?_, hbe⟩
      rw [HRS.out]
      exact ShW.base_ (ShW.make (s := { s with ts := s.ts.take k ++ s.ts.drop (k + 1) }) (w := WF) (base := w4.heap.size) (vb := .slice Ab6 s.bs.length cb6) (vn := .slice A7 (k + (n - (k + 1))) c7) hBe hNe) (by have := HW5.out; omega)
theorem rdrop_yes (s : Sf) (v : Value) (y : Int) (w : World) (hS : ShR w w.heap.size v s) (hz : SzF s) (hc : dropC s y = 0) :
    Calls Tryz.prog 34 #[v, .int .i64 y] w fun e' w' => ∃ v', e' = .returned (.tuple #[v', .int .i64 0]) ∧ ShW w' w.heap.size v' (dropS s y) ∧ Below w.heap.size w w' := by
  have hS0 := hS
  obtain ⟨Ab, cb, An, cn, rfl, hB, hN, hcb, hmb, hcn, hmn⟩ := hS.ex
  clear hS
  obtain ⟨HB, B1, B2, S1⟩ := pre2 hS0
  have HZ := Lib.hid hz
  clear hS0 hB hN hcb hmb hcn hmn hz
  obtain ⟨hM, hI⟩ : mayS s = true ∧ ¬ bookAt s y < 0 := by
    unfold dropC at hc
    cases h1 : mayS s <;> by_cases h2 : bookAt s y < 0 <;> rw [h1] at hc <;> simp [h2] at hc ⊢
    all_goals exact Int.not_lt.1 h2
  obtain ⟨k, b, hk, hb, hid⟩ := bookAt_get (Int.not_lt.1 hI)
  have HRS : Hid (dropS s y = { s with bs := s.bs.take k ++ s.bs.drop (k + 1), ts := s.ts.filter (fun a : Nt => !(a.bk == y)) }) := Lib.hid (by
    unfold dropS
    rw [← hid, filter_id Bk.id s.bs k b (mayF_of hM).bo hb])
  have HB1 := Lib.hid hk
  obtain ⟨n, hn⟩ : ∃ n, s.bs.length = n := ⟨_, rfl⟩
  obtain ⟨m, hm⟩ : ∃ m, s.ts.length = m := ⟨_, rfl⟩
  have hkl : k < n := by rw [← hn]; exact (List.getElem?_eq_some_iff.1 hb).1
  have hnl : n ≤ 100000 := by have := (mayF_of hM).bl; omega
  have hml : m ≤ 100000 := by have := (mayF_of hM).tl; omega
  have i0 : (0 : Int) ≤ (k : Int) := by omega
  have i1 : (k : Int) ≤ (n : Int) := by omega
  have i2 : ¬ (k : Int) < 0 := by omega
  have HKL := Lib.hid hkl
  have HLL := Lib.hid hn
  have HMM := Lib.hid hm
  clear hI hk hb hid hkl
  have hMF := mayF_of hM
  have hlb : s.bs.length ≤ 100000 := by have := hMF.bl; omega
  have hln : s.ts.length ≤ 100000 := by have := hMF.tl; omega
  have HM : Hid (rMayB s = true) := Lib.hid ((rMay_eq s).trans hM)
  have HLB := Lib.hid hlb
  have HLN := Lib.hid hln
  have HLR := Lib.hid hMF.small
  clear hM hMF hc hlb hln
  rw [hn, hm] at HB B1 S1 B2 ⊢
  clear hn hm
  go_enter Tryz.func34, Tryz.ntmps34
  go_upto_region 6 with (first | (go_at_call 11; ((with_reducible refine (rMay_any s _ _ S1 HZ.out _ HM.out).mono ?_); rintro e' w3 ⟨rfl, bx⟩; (try clear k0 k1 k2 k3 k4 r0 r1 r2 r3 r4 t0 t1 t2 t3 t4); obtain ⟨S1, B1, B2, HB, k0, k1, k2, k3, k4, r0, r1, r2, r3, r4, t0, t1, t2, t3, t4⟩ := keepR S1 B1 B2 HB bx; clear bx)) | (go_at_call 53; ((with_reducible refine (rBook_any s _ y _ S1 ⟨HZ.out.bl, HZ.out.tl⟩).mono ?_); rintro e' w4 ⟨rfl, bx⟩; (try rw [HB1.out]); (try clear k0 k1 k2 k3 k4 r0 r1 r2 r3 r4 t0 t1 t2 t3 t4); obtain ⟨S1, B1, B2, HB, k0, k1, k2, k3, k4, r0, r1, r2, r3, r4, t0, t1, t2, t3, t4⟩ := keepR S1 B1 B2 HB bx; clear bx)))
  have hW5 : w.heap.size + 2 ≤ w4.heap.size := by have := B2.lt; omega
  go_upto_region 7 with (go_at_call 8; ((with_reducible refine (rcopy_any s _ _ S1 HLB.out HLN.out HLR.out).mono ?_); rintro e' w9 ⟨v6, rfl, hQ, b6⟩; obtain ⟨Ab6, cb6, An6, cn6, rfl, hBk, hNt, q1, q2, q3, q4⟩ := hQ.parts; rw [HLL.out] at q1 hBk ⊢; rw [HMM.out] at q3 hNt ⊢; have B1 := B1.below b6 B1.lt; have B2 := B2.below b6 B2.lt; have HB := btr HB HB.size b6; have hz6 := b6.size; (try clear k0 k1 k2 k3 k4 r0 r1 r2 r3 r4 t0 t1 t2 t3 t4); have k0 := B1.cell_ 0; have t0 := B1.free 0; have k1 := B1.cell_ 1; have t1 := B1.free 1; have k2 := B1.cell_ 2; have t2 := B1.free 2; have k3 := B1.cell_ 3; have t3 := B1.free 3; have k4 := B1.cell_ 4; have t4 := B1.free 4; simp at k0 k1 k2 k3 k4; clear b6 hQ S1))
  have B1u := B1.st5_ (.int .i64 s.nb) (.int .i64 s.nn) (.int .i64 s.ns) (.slice Ab6 n cb6) (.slice An6 m cn6)
  have hg6 := st5_grown w9 w.heap.size 0 (.int .i64 s.nb) (.int .i64 s.nn) (.int .i64 s.ns) (.slice Ab6 n cb6) (.slice An6 m cn6)
  have B2u := B2.grown hg6 (by omega)
  have hBk2 := hBk.far hg6 (by omega)
  have hNt2 := hNt.far hg6 (by omega)
  have hb2 := below_grown HB hg6 (Nat.le_refl _) HB.size
  have HSZ : Hid (w4.heap.size ≤ (st5 w9 w.heap.size 0 (.int .i64 s.nb) (.int .i64 s.nn) (.int .i64 s.ns) (.slice Ab6 n cb6) (.slice An6 m cn6)).heap.size) := Lib.hid (by have := hz6; have := hg6.size; omega)
  clear hg6
  obtain ⟨Wd, hWd⟩ : ∃ V : World, V = (st5 w9 w.heap.size 0 (.int .i64 s.nb) (.int .i64 s.nn) (.int .i64 s.ns) (.slice Ab6 n cb6) (.slice An6 m cn6)) := ⟨_, rfl⟩
  change Code.wp _ _ _ _ (st5 w9 w.heap.size 0 (.int .i64 s.nb) (.int .i64 s.nn) (.int .i64 s.ns) (.slice Ab6 n cb6) (.slice An6 m cn6))
  rw [← hWd] at B1u B2u hBk2 hNt2 hb2 HSZ ⊢
  clear hWd B1 B2 HB hBk hNt k0 k1 k2 k3 k4 t0 t1 t2 t3 t4 hz6
  have HW5 := Lib.hid hW5
  have hon : Wd.ownsRow w4.heap.size 59 2 (.slice Ab6 n cb6) n (s.bs.map bkC).flatten := by
    have h := hBk2
    unfold BksW at h
    rw [HLL.out] at h
    exact h
  have hkl := HKL.out
  obtain ⟨gb, hgb, hgb2⟩ : ∃ gb, Ab6 = some ⟨gb, 0, none⟩ ∧ w4.heap.size ≤ gb := by
    rcases hon.2 with ⟨h, h0⟩ | ⟨g, c, cu, h, hb, _⟩
    · omega
    · injection h with h1 h2 h3
      exact ⟨g, h1, hb⟩
  subst hgb
  have hk1 : k + 1 ≤ n := hkl
  have j0 : (0 : Int) ≤ (k : Int) + 1 := by omega
  have j1 : (k : Int) + 1 ≤ (n : Int) := by omega
  have j2 : ((k : Int) + 1).toNat = k + 1 := by omega
  have j3 : IntKind.i64.wrap ((k : Int) + 1) = (k : Int) + 1 := wrapS _ (by omega) (by omega)
  have j4 : (k : Int) ≤ (cb6 : Int) := by omega
  have j5 : ¬ cb6 = 0 := by omega
  have honc := drew_own (own_cut (i := k) hon (by simp) (by omega))
  have honr := rd_tail (drew_own hon) hk1
  have hone : ∀ u ∈ (s.bs.map bkC).flatten.drop ((k + 1) * 2), u.oneCell' = true := fun u hu => by
    obtain ⟨e, he, hu2⟩ := List.mem_flatten.1 (List.mem_of_mem_drop hu)
    obtain ⟨x, _, rfl⟩ := List.mem_map.1 he
    exact bkC_one x u hu2
  have k3 := drew_cell (B1u.cell_ 3)
  have t3 := (drew_blk B1u).free 3
  simp at k3
  refine wp_region_noPanic ?_
  refine wp_region_held_drew (S := (fun _ => True)) (by kernel_rfl) ?_ (fun hHeld => ?_)
  · exact trivial
  refine tk 0 ⟨some 21, .fieldAddr 25 (.tmp 2) 3, 0, "ref.go:195", #[], none⟩ ?_; try simp only [Act.put, pz1, pz2, pz3]
  refine tk 2 ⟨some 23, .move (.tmp 6), 3, "ref.go:195", #[], none⟩ ?_; try simp only [Act.put, pz1, pz2, pz3]
  refine tk 4 ⟨some 25, .fieldAddr 25 (.tmp 2) 3, 0, "ref.go:195", #[], none⟩ ?_; try simp only [Act.put, pz1, pz2, pz3]
  refine tk 6 ⟨some 27, .move (.tmp 6), 3, "ref.go:195", #[], none⟩ ?_; try simp only [Act.put, pz1, pz2, pz3]
  refine tk 7 ⟨some 28, .binOp .add 3 (.tmp 27) (.const (.int .i64 1)) 3, 3, "ref.go:195", #[⟨6, .data⟩], none⟩ ?_; try simp only [Act.put, pz1, pz2, pz3]
  refine wpAnyH_ready (rs := [1, 5]) (by kernel_rfl) (by simp) ?_
  refine (AllReadyH.cons (o := ⟨some 22, .load 22 (.tmp 21), 22, "ref.go:195", #[⟨0, .data⟩], none⟩) rfl (fun K hK => ?_) (AllReadyH.cons (o := ⟨some 26, .load 22 (.tmp 25), 22, "ref.go:195", #[⟨4, .data⟩], none⟩) rfl (fun K hK => ?_) AllReadyH.nil))
  · go_simp
    refine hK.out _ _ ?_ (fun hNew => ?_)
    · exact trivial
    clear hK K hHeld
    have hHeld := hNew
    clear hNew
    try simp only [Act.put, pz1, pz2, pz3]
    refine tk 3 ⟨some 24, .slice 22 (.tmp 22) none (some (.tmp 23)) none, 22, "ref.go:195", #[⟨1, .data⟩, ⟨2, .data⟩], none⟩ ?_; try simp only [Act.put, pz1, pz2, pz3]
    refine wpAnyH_ready (rs := [5]) (by kernel_rfl) (by simp) ?_
    refine AllReadyH.cons (o := ⟨some 26, .load 22 (.tmp 25), 22, "ref.go:195", #[⟨4, .data⟩], none⟩) rfl (fun K hK => ?_) AllReadyH.nil
    go_simp
    refine hK.out _ _ ?_ (fun hNew => ?_)
    · exact trivial
    clear hK K hHeld
    have hHeld := hNew
    clear hNew
    try simp only [Act.put, pz1, pz2, pz3]
    refine tk 8 ⟨some 29, .slice 22 (.tmp 26) (some (.tmp 28)) none none, 22, "ref.go:195", #[⟨5, .data⟩, ⟨7, .data⟩], none⟩ ?_; try simp only [Act.put, pz1, pz2, pz3]
    refine wpAnyH_ready (rs := [9]) (by kernel_rfl) (by simp) ?_
    refine AllReadyH.cons (o := ⟨some 30, .call { callee := .builtin .append, args := #[.tmp 24, .tmp 29], argTypes := #[22, 22] }, 22, "ref.go:195", #[⟨3, .data⟩, ⟨8, .data⟩], none⟩) rfl (fun K hK => ?_) AllReadyH.nil
    obtain ⟨ti0, hi, hz0, hz1, hz2⟩ := info_parts info_clBk
    refine step_app _ rfl (.tmp 24) (.tmp 29) _ rfl w4.heap.size 59 ti0 _ 2 24 Tryz.underlying22 hi hz0 hz1 hz2 rfl (by decide) _ k ((s.bs.map bkC).flatten.take (k * 2)) rfl honc _ (n - (k + 1)) _ ((s.bs.map bkC).flatten.drop ((k + 1) * 2)) rfl honr hone (by unfold maxLen; omega) (by omega) HSZ.out ?_
    intro v7 w7 ho' hg' hv'
    clear hi hz0 hz1 hz2 hv'
    generalize (if cb6 = k + 1 then some (⟨gb, 0, none⟩ : Addr) else some ⟨gb, (k + 1) * 2, none⟩) = A22
    obtain ⟨A7, c7, rfl, q21, q22⟩ := own_shape ho'
    have hof : (Value.slice (some ⟨gb, 0, none⟩) k cb6).ownBlock ≠ some w.heap.size := fun h => by have h2 : gb = w.heap.size := (by simpa [Value.ownBlock] using h); have := HW5.out; omega
    have B1a := (drew_blk B1u).grownR hg' hof
    have k3' := B1a.cell_ 3
    have t3' := B1a.free 3
    simp at k3'
    refine hK.out _ _ ?_ (fun hNew => ?_)
    · exact trivial
    clear hK K hHeld
    have hHeld := hNew
    clear hNew
    try simp only [Act.put, pz1, pz2, pz3]
    refine tk 10 ⟨some 31, .fieldAddr 25 (.tmp 2) 3, 0, "ref.go:195", #[⟨0, .phase⟩, ⟨1, .phase⟩, ⟨2, .phase⟩, ⟨3, .phase⟩, ⟨4, .phase⟩, ⟨5, .phase⟩, ⟨6, .phase⟩, ⟨7, .phase⟩, ⟨8, .phase⟩, ⟨9, .phase⟩], none⟩ ?_; try simp only [Act.put, pz1, pz2, pz3]
    refine wpAnyH_ready (rs := [11]) (by kernel_rfl) (by simp) ?_
    refine AllReadyH.cons (o := ⟨none, .store 22 (.tmp 31) (.tmp 30), 0, "ref.go:195", #[⟨10, .data⟩, ⟨9, .data⟩, ⟨9, .chain⟩, ⟨0, .phase⟩, ⟨1, .phase⟩, ⟨2, .phase⟩, ⟨3, .phase⟩, ⟨4, .phase⟩, ⟨5, .phase⟩, ⟨6, .phase⟩, ⟨7, .phase⟩, ⟨8, .phase⟩, ⟨9, .phase⟩], none⟩) rfl (fun K hK => ?_) AllReadyH.nil
    go_simp
    refine hK.out _ _ ?_ (fun hNew => ?_)
    · exact trivial
    clear hK K hHeld
    have hHeld := hNew
    clear hNew
    try simp only [Act.put, pz1, pz2, pz3]
    refine wpAnyH_done (by kernel_rfl) ?_ _
    refine NoPanic.normal ?_
    have hof2 : (Value.slice (some ⟨gb, 0, none⟩) k cb6).ownBlock ≠ some (w.heap.size + 1) := fun h => by have h2 : gb = w.heap.size + 1 := (by simpa [Value.ownBlock] using h); have := HW5.out; omega
    have B2a := (drew_blk B2u).grownR hg' hof2
    have hg1 := set1_grown w7 w.heap.size 3 (.slice A7 (k + (n - (k + 1))) c7)
    have B1w := B1a.set_ 3 (.slice A7 (k + (n - (k + 1))) c7)
    simp at B1w
    have B2w := B2a.grown hg1 (by omega)
    have hBw := (BksW.out_ (v := .slice A7 (k + (n - (k + 1))) c7) HLL.out hkl ho').far hg1 (by have := HW5.out; omega)
    have hNw := (hNt2.drew_.apart honc hg').far hg1 (by have := HW5.out; omega)
    have hbw := below_grown ((drew_below hb2).trans (below_app (B := w.heap.size) (by have := HW5.out; omega) HSZ.out honc hg')) hg1 (Nat.le_refl _) (by have h1 := hb2.size; have h2 := hg'.size; simp only [World.drew] at h2; omega)
    obtain ⟨Wx, hWx⟩ : ∃ V : World, V = w7.setCell ⟨w.heap.size, 3, none⟩ (.slice A7 (k + (n - (k + 1))) c7) := ⟨_, rfl⟩
    have HSL : Hid (w4.heap.size ≤ (w7.setCell ⟨w.heap.size, 3, none⟩ (.slice A7 (k + (n - (k + 1))) c7)).heap.size) := Lib.hid (by have h1 := HSZ.out; have h2 := hg'.size; have h3 := hg1.size; simp only [World.drew] at h2; omega)
    rw [← hWx] at B1w B2w hBw hNw hbw HSL ⊢
    clear hWx B1u B2u B1a B2a hb2 ho' hg' hg1 hof hof2 honc honr hone HSZ k3' t3' hNt2 hon
    obtain ⟨es, hel, hon2, hnt⟩ := hNw
    rw [HMM.out] at hel hon2
    have h5 : ∀ x ∈ es, x.length = 5 := es_five (hel.trans HMM.out.symm) hnt
    have kb := B1w.cell_ 4
    simp at kb
    clear k3
    go_wp2_with fail
    go_loopw [7, 8] (fun sv iv wr => ∃ k2 : Nat, k2 ≤ m ∧ iv = .int .i64 k2 ∧ Hid (NtsB wr w4.heap.size Wx.heap.size sv ((s.ts.take k2).filter (fun a : Nt => !(a.bk == y)))) ∧ Below Wx.heap.size Wx wr) (fun _ iv _ => m - (intOf iv).toNat)
    case atStart => exact ⟨0, by omega, rfl, Lib.hid (NtsB.nil _ _ _), Below.refl _ _⟩
    case round =>
      clear kb
      obtain ⟨k2, hk2, rfl, HR, HBr⟩ := hrel
      have B1r := B1w.below HBr B1w.lt
      have kb := B1r.cell_ 4
      simp at kb
      have i3 : (0 : Int) ≤ (k2 : Int) := by omega
      by_cases hlt : k2 < m
      · have i4 : (k2 : Int) < (m : Int) := by omega
        obtain ⟨a, ha⟩ : ∃ a, s.ts[k2]? = some a := ⟨_, List.getElem?_eq_getElem (by rw [HMM.out]; exact hlt)⟩
        obtain ⟨e0, he⟩ : ∃ e, es[k2]? = some e := ⟨_, List.getElem?_eq_getElem (by omega)⟩
        obtain ⟨vt, vs, rfl, o1, o2⟩ := hnt k2 a e0 ha he
        obtain ⟨At, ct, rfl, q31, q32⟩ := own_shape o1
        obtain ⟨As, cs, rfl, q33, q34⟩ := own_shape o2
        obtain ⟨gn, hgn⟩ : ∃ gn, An6 = some ⟨gn, 0, none⟩ := by
          rcases hon2.2 with ⟨h, h0⟩ | ⟨g, c, cu, h, hb, _⟩
          · omega
          · injection h with h1 h2 h3
            exact ⟨g, h1⟩
        subst hgn
        have l1 := (World.ownsRow.lt hon2 gn rfl).2
        have y0 : wr.cell? ⟨gn, k2 * 5, none⟩ = some (.int .i64 a.id) := (HBr.cell (p := ⟨gn, _, none⟩) l1).trans (own_cellE hon2 h5 he (j := 0) rfl)
        have y1 : wr.cell? ⟨gn, k2 * 5 + 1, none⟩ = some (.int .i64 a.bk) := (HBr.cell (p := ⟨gn, _, none⟩) l1).trans (own_cellE hon2 h5 he (j := 1) rfl)
        have y2 : wr.cell? ⟨gn, k2 * 5 + 2, none⟩ = some (.string a.nm) := (HBr.cell (p := ⟨gn, _, none⟩) l1).trans (own_cellE hon2 h5 he (j := 2) rfl)
        have y3 : wr.cell? ⟨gn, k2 * 5 + 3, none⟩ = some (.slice At a.tg.length ct) := (HBr.cell (p := ⟨gn, _, none⟩) l1).trans (own_cellE hon2 h5 he (j := 3) rfl)
        have y4 : wr.cell? ⟨gn, k2 * 5 + 4, none⟩ = some (.slice As a.sh.length cs) := (HBr.cell (p := ⟨gn, _, none⟩) l1).trans (own_cellE hon2 h5 he (j := 4) rfl)
        have HA := Lib.hid ha
        have hW : Hid (NtW wr w4.heap.size a (ntC a (.slice At a.tg.length ct) (.slice As a.sh.length cs))) := Lib.hid (NtW.below (w := Wx) ⟨_, _, rfl, o1, o2⟩ HBr)
        clear ha he o1 o2
        rcases (by cases hq : (a.bk == y) <;> simp : (a.bk == y) = true ∨ (a.bk == y) = false) with hp | hp
        · have HP := Lib.hid hp
          go_wp2_with fail
          go_roundw
          case rel => exact ⟨k2 + 1, by omega, by go_num, Lib.hid (by rw [filter_no HA.out (show (fun a : Nt => !(a.bk == y)) a = false by simp [HP.out])]; exact HR.out), HBr⟩
          case measure => simp [intOf]; omega
        · have HP := Lib.hid hp
          obtain ⟨L, hL⟩ : ∃ L, (s.ts.take k2).filter (fun a : Nt => !(a.bk == y)) = L := ⟨_, rfl⟩
          rw [hL] at HR
          have HLN : Hid ((s.ts.take (k2 + 1)).filter (fun a : Nt => !(a.bk == y)) = L ++ [a]) := Lib.hid (by rw [filter_yes HA.out (show (fun a : Nt => !(a.bk == y)) a = true by simp [HP.out]), hL])
          have hLl : L.length ≤ k2 := by rw [← hL]; exact Nat.le_trans (List.length_filter_le _ _) (by rw [List.length_take]; omega)
          obtain ⟨es3, hel3, hon3, hnt3⟩ := HR.out
          have hbs := HBr.size
          clear hL HR
          go_wp2_with (at_builtin; obtain ⟨ti0, hi, hz0, hz1, hz2⟩ := info_parts info_clNt; refine wpList_app _ rfl (.tmp 47) (.tmp 53) _ rfl Wx.heap.size 46 ti0 _ 5 80 Tryz.underlying23 hi hz0 hz1 hz2 rfl (by decide) _ L.length es3.flatten rfl (hon3.alloc _) _ 1 _ (ntC a (.slice At a.tg.length ct) (.slice As a.sh.length cs)) rfl (rd_newE _ _ _ _ _ _ (by simp)) (by simp [ntC, Value.oneCell']) (by unfold maxLen; omega) (by omega) (by simp; omega) ?_; intro v' w5 ho' hg' hv'; clear hi hz0 hz1 hz2 hv')
          have HR2 := NtsB.snoc (w := wr.alloc (.cells (ntC a (.slice At a.tg.length ct) (.slice As a.sh.length cs)).toArray 46)) hel3 (hon3.alloc _) (fun j b e c d => (hnt3 j b e c d).below ((Below.refl _ wr).alloc (Nat.le_refl _) _)) (hW.out.below ((Below.refl _ wr).alloc (Nat.le_refl _) _)) hg' ho'
          have HF : Below Wx.heap.size Wx w5 := (HBr.alloc hbs _).trans (below_app (Nat.le_refl _) (by simp; omega) (hon3.alloc _) hg')
          clear ho' hg' hon3 hnt3
          go_roundw
          case rel => exact ⟨k2 + 1, by omega, by go_num, Lib.hid (by rw [HLN.out]; exact HR2), HF⟩
          case measure => simp [intOf]; omega
      · have hjn : k2 = m := by omega
        subst hjn
        have hall := HR.out
        rw [List.take_of_length_le (by rw [HMM.out]; exact Nat.le_refl _)] at hall
        obtain ⟨T, hT2⟩ : ∃ T, s.ts.filter (fun a : Nt => !(a.bk == y)) = T := ⟨_, rfl⟩
        rw [hT2] at hall
        have HTT := Lib.hid hT2
        obtain ⟨es9, h8, h9, h10⟩ := hall
        obtain ⟨A9, c9, rfl, -, -⟩ := own_shape h9
        have hall : NtsB wr w4.heap.size Wx.heap.size (.slice A9 T.length c9) T := ⟨es9, h8, h9, h10⟩
        have B2r := B2w.below HBr B2w.lt
        have hBr2 := hBw.below HBr
        have hbr := btr hbw hbw.size HBr
        have t4 := B1r.free 4
        have hsz := HBr.size
        have hlb := B2w.lt
        clear hT2 HR hon2 hnt
        go_upto_region 15 with fail
        have hg3 := set1_grown wr w.heap.size 4 (.slice A9 T.length c9)
        have B1z := B1r.set_ 4 (.slice A9 T.length c9)
        simp at B1z
        have B2z := B2r.grown hg3 (by omega)
        have hBz := hBr2.far hg3 (by have := HW5.out; omega)
        have hNz := (hall.toW (by have := HSL.out; omega)).far hg3 (by have := HW5.out; omega)
        have hbz := below_grown hbr hg3 (Nat.le_refl _) hbr.size
        obtain ⟨Wz, hWz⟩ : ∃ V : World, V = wr.setCell ⟨w.heap.size, 4, none⟩ (.slice A9 T.length c9) := ⟨_, rfl⟩
        rw [← hWz] at B1z B2z hBz hNz hbz ⊢
        clear hWz B1r B2r hBr2 hbr hall hg3 kb t4 B1w B2w hBw hbw HBr
        have k0 := B1z.cell_ 0
        have r0 := B2z.cell_ 0
        have t0 := B2z.free 0
        have k1 := B1z.cell_ 1
        have r1 := B2z.cell_ 1
        have t1 := B2z.free 1
        have k2 := B1z.cell_ 2
        have r2 := B2z.cell_ 2
        have t2 := B2z.free 2
        have k3 := B1z.cell_ 3
        have r3 := B2z.cell_ 3
        have t3 := B2z.free 3
        have k4 := B1z.cell_ 4
        have r4 := B2z.cell_ 4
        have t4 := B2z.free 4
        simp at k0 k1 k2 k3 k4 r0 r1 r2 r3 r4
        go_wp2_with fail
        have B2e := B2z.st5_ (.int .i64 s.nb) (.int .i64 s.nn) (.int .i64 s.ns) (.slice A7 (k + (n - (k + 1))) c7) (.slice A9 T.length c9)
        have hgE := st5_grown Wz (w.heap.size + 1) 0 (.int .i64 s.nb) (.int .i64 s.nn) (.int .i64 s.ns) (.slice A7 (k + (n - (k + 1))) c7) (.slice A9 T.length c9)
        have hBe := hBz.far hgE (by have := HW5.out; omega)
        have hNe := hNz.far hgE (by have := HW5.out; omega)
        have hbe := below_grown hbz hgE (by omega) hbz.size
        change bodyPost _ _ _ _ _ (st5 Wz (w.heap.size + 1) 0 (.int .i64 s.nb) (.int .i64 s.nn) (.int .i64 s.ns) (.slice A7 (k + (n - (k + 1))) c7) (.slice A9 T.length c9))
        clear hgE
        generalize st5 Wz (w.heap.size + 1) 0 (.int .i64 s.nb) (.int .i64 s.nn) (.int .i64 s.ns) (.slice A7 (k + (n - (k + 1))) c7) (.slice A9 T.length c9) = WF at B2e hBe hNe hbe ⊢
        apply bodyPost_ret (v := .tuple #[.agg #[.int .i64 s.nb, .int .i64 s.nn, .int .i64 s.ns, .slice A7 (k + (n - (k + 1))) c7, .slice A9 T.length c9], .int .i64 0])
        · exact results_cell1 Tryz.results34 _ WF (w.heap.size + 1) 25 _ (0, 0) _ rfl B2e Tryz.underlying25 rfl (by kernel_rfl)
        · rfl
        · refine ⟨_, rfl, ?_, hbe⟩
          rw [HRS.out]
          exact ShW.base_ (ShW.make (s := { s with bs := s.bs.take k ++ s.bs.drop (k + 1), ts := s.ts.filter (fun a : Nt => !(a.bk == y)) }) (w := WF) (base := w4.heap.size) (vb := .slice A7 (k + (n - (k + 1))) c7) (vn := .slice A9 T.length c9) hBe (by show NtsW _ _ _ (s.ts.filter (fun a : Nt => !(a.bk == y))); rw [HTT.out]; exact hNe)) (by have := HW5.out; omega)
  · go_simp
    refine hK.out _ _ ?_ (fun hNew => ?_)
    · exact trivial
    clear hK K hHeld
    have hHeld := hNew
    clear hNew
    try simp only [Act.put, pz1, pz2, pz3]
    refine tk 8 ⟨some 29, .slice 22 (.tmp 26) (some (.tmp 28)) none none, 22, "ref.go:195", #[⟨5, .data⟩, ⟨7, .data⟩], none⟩ ?_; try simp only [Act.put, pz1, pz2, pz3]
    refine wpAnyH_ready (rs := [1]) (by kernel_rfl) (by simp) ?_
    refine AllReadyH.cons (o := ⟨some 22, .load 22 (.tmp 21), 22, "ref.go:195", #[⟨0, .data⟩], none⟩) rfl (fun K hK => ?_) AllReadyH.nil
    go_simp
    refine hK.out _ _ ?_ (fun hNew => ?_)
    · exact trivial
    clear hK K hHeld
    have hHeld := hNew
    clear hNew
    try simp only [Act.put, pz1, pz2, pz3]
    refine tk 3 ⟨some 24, .slice 22 (.tmp 22) none (some (.tmp 23)) none, 22, "ref.go:195", #[⟨1, .data⟩, ⟨2, .data⟩], none⟩ ?_; try simp only [Act.put, pz1, pz2, pz3]
    refine wpAnyH_ready (rs := [9]) (by kernel_rfl) (by simp) ?_
    refine AllReadyH.cons (o := ⟨some 30, .call { callee := .builtin .append, args := #[.tmp 24, .tmp 29], argTypes := #[22, 22] }, 22, "ref.go:195", #[⟨3, .data⟩, ⟨8, .data⟩], none⟩) rfl (fun K hK => ?_) AllReadyH.nil
    obtain ⟨ti0, hi, hz0, hz1, hz2⟩ := info_parts info_clBk
    refine step_app _ rfl (.tmp 24) (.tmp 29) _ rfl w4.heap.size 59 ti0 _ 2 24 Tryz.underlying22 hi hz0 hz1 hz2 rfl (by decide) _ k ((s.bs.map bkC).flatten.take (k * 2)) rfl honc _ (n - (k + 1)) _ ((s.bs.map bkC).flatten.drop ((k + 1) * 2)) rfl honr hone (by unfold maxLen; omega) (by omega) HSZ.out ?_
    intro v7 w7 ho' hg' hv'
    clear hi hz0 hz1 hz2 hv'
    generalize (if cb6 = k + 1 then some (⟨gb, 0, none⟩ : Addr) else some ⟨gb, (k + 1) * 2, none⟩) = A22
    obtain ⟨A7, c7, rfl, q21, q22⟩ := own_shape ho'
    have hof : (Value.slice (some ⟨gb, 0, none⟩) k cb6).ownBlock ≠ some w.heap.size := fun h => by have h2 : gb = w.heap.size := (by simpa [Value.ownBlock] using h); have := HW5.out; omega
    have B1a := (drew_blk B1u).grownR hg' hof
    have k3' := B1a.cell_ 3
    have t3' := B1a.free 3
    simp at k3'
    refine hK.out _ _ ?_ (fun hNew => ?_)
    · exact trivial
    clear hK K hHeld
    have hHeld := hNew
    clear hNew
    try simp only [Act.put, pz1, pz2, pz3]
    refine tk 10 ⟨some 31, .fieldAddr 25 (.tmp 2) 3, 0, "ref.go:195", #[⟨0, .phase⟩, ⟨1, .phase⟩, ⟨2, .phase⟩, ⟨3, .phase⟩, ⟨4, .phase⟩, ⟨5, .phase⟩, ⟨6, .phase⟩, ⟨7, .phase⟩, ⟨8, .phase⟩, ⟨9, .phase⟩], none⟩ ?_; try simp only [Act.put, pz1, pz2, pz3]
    refine wpAnyH_ready (rs := [11]) (by kernel_rfl) (by simp) ?_
    refine AllReadyH.cons (o := ⟨none, .store 22 (.tmp 31) (.tmp 30), 0, "ref.go:195", #[⟨10, .data⟩, ⟨9, .data⟩, ⟨9, .chain⟩, ⟨0, .phase⟩, ⟨1, .phase⟩, ⟨2, .phase⟩, ⟨3, .phase⟩, ⟨4, .phase⟩, ⟨5, .phase⟩, ⟨6, .phase⟩, ⟨7, .phase⟩, ⟨8, .phase⟩, ⟨9, .phase⟩], none⟩) rfl (fun K hK => ?_) AllReadyH.nil
    go_simp
    refine hK.out _ _ ?_ (fun hNew => ?_)
    · exact trivial
    clear hK K hHeld
    have hHeld := hNew
    clear hNew
    try simp only [Act.put, pz1, pz2, pz3]
    refine wpAnyH_done (by kernel_rfl) ?_ _
    refine NoPanic.normal ?_
    have hof2 : (Value.slice (some ⟨gb, 0, none⟩) k cb6).ownBlock ≠ some (w.heap.size + 1) := fun h => by have h2 : gb = w.heap.size + 1 := (by simpa [Value.ownBlock] using h); have := HW5.out; omega
    have B2a := (drew_blk B2u).grownR hg' hof2
    have hg1 := set1_grown w7 w.heap.size 3 (.slice A7 (k + (n - (k + 1))) c7)
    have B1w := B1a.set_ 3 (.slice A7 (k + (n - (k + 1))) c7)
    simp at B1w
    have B2w := B2a.grown hg1 (by omega)
    have hBw := (BksW.out_ (v := .slice A7 (k + (n - (k + 1))) c7) HLL.out hkl ho').far hg1 (by have := HW5.out; omega)
    have hNw := (hNt2.drew_.apart honc hg').far hg1 (by have := HW5.out; omega)
    have hbw := below_grown ((drew_below hb2).trans (below_app (B := w.heap.size) (by have := HW5.out; omega) HSZ.out honc hg')) hg1 (Nat.le_refl _) (by have h1 := hb2.size; have h2 := hg'.size; simp only [World.drew] at h2; omega)
    obtain ⟨Wx, hWx⟩ : ∃ V : World, V = w7.setCell ⟨w.heap.size, 3, none⟩ (.slice A7 (k + (n - (k + 1))) c7) := ⟨_, rfl⟩
    have HSL : Hid (w4.heap.size ≤ (w7.setCell ⟨w.heap.size, 3, none⟩ (.slice A7 (k + (n - (k + 1))) c7)).heap.size) := Lib.hid (by have h1 := HSZ.out; have h2 := hg'.size; have h3 := hg1.size; simp only [World.drew] at h2; omega)
    rw [← hWx] at B1w B2w hBw hNw hbw HSL ⊢
    clear hWx B1u B2u B1a B2a hb2 ho' hg' hg1 hof hof2 honc honr hone HSZ k3' t3' hNt2 hon
    obtain ⟨es, hel, hon2, hnt⟩ := hNw
    rw [HMM.out] at hel hon2
    have h5 : ∀ x ∈ es, x.length = 5 := es_five (hel.trans HMM.out.symm) hnt
    have kb := B1w.cell_ 4
    simp at kb
    clear k3
    go_wp2_with fail
    go_loopw [7, 8] (fun sv iv wr => ∃ k2 : Nat, k2 ≤ m ∧ iv = .int .i64 k2 ∧ Hid (NtsB wr w4.heap.size Wx.heap.size sv ((s.ts.take k2).filter (fun a : Nt => !(a.bk == y)))) ∧ Below Wx.heap.size Wx wr) (fun _ iv _ => m - (intOf iv).toNat)
    case atStart => exact ⟨0, by omega, rfl, Lib.hid (NtsB.nil _ _ _), Below.refl _ _⟩
    case round =>
      clear kb
      obtain ⟨k2, hk2, rfl, HR, HBr⟩ := hrel
      have B1r := B1w.below HBr B1w.lt
      have kb := B1r.cell_ 4
      simp at kb
      have i3 : (0 : Int) ≤ (k2 : Int) := by omega
      by_cases hlt : k2 < m
      · have i4 : (k2 : Int) < (m : Int) := by omega
        obtain ⟨a, ha⟩ : ∃ a, s.ts[k2]? = some a := ⟨_, List.getElem?_eq_getElem (by rw [HMM.out]; exact hlt)⟩
        obtain ⟨e0, he⟩ : ∃ e, es[k2]? = some e := ⟨_, List.getElem?_eq_getElem (by omega)⟩
        obtain ⟨vt, vs, rfl, o1, o2⟩ := hnt k2 a e0 ha he
        obtain ⟨At, ct, rfl, q31, q32⟩ := own_shape o1
        obtain ⟨As, cs, rfl, q33, q34⟩ := own_shape o2
        obtain ⟨gn, hgn⟩ : ∃ gn, An6 = some ⟨gn, 0, none⟩ := by
          rcases hon2.2 with ⟨h, h0⟩ | ⟨g, c, cu, h, hb, _⟩
          · omega
          · injection h with h1 h2 h3
            exact ⟨g, h1⟩
        subst hgn
        have l1 := (World.ownsRow.lt hon2 gn rfl).2
        have y0 : wr.cell? ⟨gn, k2 * 5, none⟩ = some (.int .i64 a.id) := (HBr.cell (p := ⟨gn, _, none⟩) l1).trans (own_cellE hon2 h5 he (j := 0) rfl)
        have y1 : wr.cell? ⟨gn, k2 * 5 + 1, none⟩ = some (.int .i64 a.bk) := (HBr.cell (p := ⟨gn, _, none⟩) l1).trans (own_cellE hon2 h5 he (j := 1) rfl)
        have y2 : wr.cell? ⟨gn, k2 * 5 + 2, none⟩ = some (.string a.nm) := (HBr.cell (p := ⟨gn, _, none⟩) l1).trans (own_cellE hon2 h5 he (j := 2) rfl)
        have y3 : wr.cell? ⟨gn, k2 * 5 + 3, none⟩ = some (.slice At a.tg.length ct) := (HBr.cell (p := ⟨gn, _, none⟩) l1).trans (own_cellE hon2 h5 he (j := 3) rfl)
        have y4 : wr.cell? ⟨gn, k2 * 5 + 4, none⟩ = some (.slice As a.sh.length cs) := (HBr.cell (p := ⟨gn, _, none⟩) l1).trans (own_cellE hon2 h5 he (j := 4) rfl)
        have HA := Lib.hid ha
        have hW : Hid (NtW wr w4.heap.size a (ntC a (.slice At a.tg.length ct) (.slice As a.sh.length cs))) := Lib.hid (NtW.below (w := Wx) ⟨_, _, rfl, o1, o2⟩ HBr)
        clear ha he o1 o2
        rcases (by cases hq : (a.bk == y) <;> simp : (a.bk == y) = true ∨ (a.bk == y) = false) with hp | hp
        · have HP := Lib.hid hp
          go_wp2_with fail
          go_roundw
          case rel => exact ⟨k2 + 1, by omega, by go_num, Lib.hid (by rw [filter_no HA.out (show (fun a : Nt => !(a.bk == y)) a = false by simp [HP.out])]; exact HR.out), HBr⟩
          case measure => simp [intOf]; omega
        · have HP := Lib.hid hp
          obtain ⟨L, hL⟩ : ∃ L, (s.ts.take k2).filter (fun a : Nt => !(a.bk == y)) = L := ⟨_, rfl⟩
          rw [hL] at HR
          have HLN : Hid ((s.ts.take (k2 + 1)).filter (fun a : Nt => !(a.bk == y)) = L ++ [a]) := Lib.hid (by rw [filter_yes HA.out (show (fun a : Nt => !(a.bk == y)) a = true by simp [HP.out]), hL])
          have hLl : L.length ≤ k2 := by rw [← hL]; exact Nat.le_trans (List.length_filter_le _ _) (by rw [List.length_take]; omega)
          obtain ⟨es3, hel3, hon3, hnt3⟩ := HR.out
          have hbs := HBr.size
          clear hL HR
          go_wp2_with (at_builtin; obtain ⟨ti0, hi, hz0, hz1, hz2⟩ := info_parts info_clNt; refine wpList_app _ rfl (.tmp 47) (.tmp 53) _ rfl Wx.heap.size 46 ti0 _ 5 80 Tryz.underlying23 hi hz0 hz1 hz2 rfl (by decide) _ L.length es3.flatten rfl (hon3.alloc _) _ 1 _ (ntC a (.slice At a.tg.length ct) (.slice As a.sh.length cs)) rfl (rd_newE _ _ _ _ _ _ (by simp)) (by simp [ntC, Value.oneCell']) (by unfold maxLen; omega) (by omega) (by simp; omega) ?_; intro v' w5 ho' hg' hv'; clear hi hz0 hz1 hz2 hv')
          have HR2 := NtsB.snoc (w := wr.alloc (.cells (ntC a (.slice At a.tg.length ct) (.slice As a.sh.length cs)).toArray 46)) hel3 (hon3.alloc _) (fun j b e c d => (hnt3 j b e c d).below ((Below.refl _ wr).alloc (Nat.le_refl _) _)) (hW.out.below ((Below.refl _ wr).alloc (Nat.le_refl _) _)) hg' ho'
          have HF : Below Wx.heap.size Wx w5 := (HBr.alloc hbs _).trans (below_app (Nat.le_refl _) (by simp; omega) (hon3.alloc _) hg')
          clear ho' hg' hon3 hnt3
          go_roundw
          case rel => exact ⟨k2 + 1, by omega, by go_num, Lib.hid (by rw [HLN.out]; exact HR2), HF⟩
          case measure => simp [intOf]; omega
      · have hjn : k2 = m := by omega
        subst hjn
        have hall := HR.out
        rw [List.take_of_length_le (by rw [HMM.out]; exact Nat.le_refl _)] at hall
        obtain ⟨T, hT2⟩ : ∃ T, s.ts.filter (fun a : Nt => !(a.bk == y)) = T := ⟨_, rfl⟩
        rw [hT2] at hall
        have HTT := Lib.hid hT2
        obtain ⟨es9, h8, h9, h10⟩ := hall
        obtain ⟨A9, c9, rfl, -, -⟩ := own_shape h9
        have hall : NtsB wr w4.heap.size Wx.heap.size (.slice A9 T.length c9) T := ⟨es9, h8, h9, h10⟩
        have B2r := B2w.below HBr B2w.lt
        have hBr2 := hBw.below HBr
        have hbr := btr hbw hbw.size HBr
        have t4 := B1r.free 4
        have hsz := HBr.size
        have hlb := B2w.lt
        clear hT2 HR hon2 hnt
        go_upto_region 15 with fail
        have hg3 := set1_grown wr w.heap.size 4 (.slice A9 T.length c9)
        have B1z := B1r.set_ 4 (.slice A9 T.length c9)
        simp at B1z
        have B2z := B2r.grown hg3 (by omega)
        have hBz := hBr2.far hg3 (by have := HW5.out; omega)
        have hNz := (hall.toW (by have := HSL.out; omega)).far hg3 (by have := HW5.out; omega)
        have hbz := below_grown hbr hg3 (Nat.le_refl _) hbr.size
        obtain ⟨Wz, hWz⟩ : ∃ V : World, V = wr.setCell ⟨w.heap.size, 4, none⟩ (.slice A9 T.length c9) := ⟨_, rfl⟩
        rw [← hWz] at B1z B2z hBz hNz hbz ⊢
        clear hWz B1r B2r hBr2 hbr hall hg3 kb t4 B1w B2w hBw hbw HBr
        have k0 := B1z.cell_ 0
        have r0 := B2z.cell_ 0
        have t0 := B2z.free 0
        have k1 := B1z.cell_ 1
        have r1 := B2z.cell_ 1
        have t1 := B2z.free 1
        have k2 := B1z.cell_ 2
        have r2 := B2z.cell_ 2
        have t2 := B2z.free 2
        have k3 := B1z.cell_ 3
        have r3 := B2z.cell_ 3
        have t3 := B2z.free 3
        have k4 := B1z.cell_ 4
        have r4 := B2z.cell_ 4
        have t4 := B2z.free 4
        simp at k0 k1 k2 k3 k4 r0 r1 r2 r3 r4
        go_wp2_with fail
        have B2e := B2z.st5_ (.int .i64 s.nb) (.int .i64 s.nn) (.int .i64 s.ns) (.slice A7 (k + (n - (k + 1))) c7) (.slice A9 T.length c9)
        have hgE := st5_grown Wz (w.heap.size + 1) 0 (.int .i64 s.nb) (.int .i64 s.nn) (.int .i64 s.ns) (.slice A7 (k + (n - (k + 1))) c7) (.slice A9 T.length c9)
        have hBe := hBz.far hgE (by have := HW5.out; omega)
        have hNe := hNz.far hgE (by have := HW5.out; omega)
        have hbe := below_grown hbz hgE (by omega) hbz.size
        change bodyPost _ _ _ _ _ (st5 Wz (w.heap.size + 1) 0 (.int .i64 s.nb) (.int .i64 s.nn) (.int .i64 s.ns) (.slice A7 (k + (n - (k + 1))) c7) (.slice A9 T.length c9))
        clear hgE
        generalize st5 Wz (w.heap.size + 1) 0 (.int .i64 s.nb) (.int .i64 s.nn) (.int .i64 s.ns) (.slice A7 (k + (n - (k + 1))) c7) (.slice A9 T.length c9) = WF at B2e hBe hNe hbe ⊢
        apply bodyPost_ret (v := .tuple #[.agg #[.int .i64 s.nb, .int .i64 s.nn, .int .i64 s.ns, .slice A7 (k + (n - (k + 1))) c7, .slice A9 T.length c9], .int .i64 0])
        · exact results_cell1 Tryz.results34 _ WF (w.heap.size + 1) 25 _ (0, 0) _ rfl B2e Tryz.underlying25 rfl (by kernel_rfl)
        · rfl
        · refine ⟨_, rfl, ?_, hbe⟩
          rw [HRS.out]
          exact ShW.base_ (ShW.make (s := { s with bs := s.bs.take k ++ s.bs.drop (k + 1), ts := s.ts.filter (fun a : Nt => !(a.bk == y)) }) (w := WF) (base := w4.heap.size) (vb := .slice A7 (k + (n - (k + 1))) c7) (vn := .slice A9 T.length c9) hBe (by show NtsW _ _ _ (s.ts.filter (fun a : Nt => !(a.bk == y))); rw [HTT.out]; exact hNe)) (by have := HW5.out; omega)
end Go.Proofs.YtokhapafpjejaaaGreatDoor
namespace Go.Proofs.YtokhapafpjejaaaGreatDoor
open Go.ChangeShapes Go.WideShapes Go.ChangeAt Go.RowKit
attribute [local go_sem ↓] Go.wp_at_zero Go.wp_at_succ
structure Ac where
  d : Int
  a : Int
  b : Int
  nm : ByteArray
def zeroSf : Sf := ⟨0, 0, 0, [], []⟩
def actC (s : Sf) (x : Ac) : Int := if x.d = 0 then makeC s x.nm else if x.d = 1 then renC s x.a x.nm else if x.d = 2 then dropC s x.a else if x.d = 3 then noteC s x.a x.nm else if x.d = 4 then retC s x.a x.nm else if x.d = 5 then movC s x.a x.b else if x.d = 6 then discC s x.a else 8
def actS (s : Sf) (x : Ac) : Sf := if x.d = 0 then makeS s x.nm else if x.d = 1 then renS s x.a x.nm else if x.d = 2 then dropS s x.a else if x.d = 3 then noteS s x.a x.nm else if x.d = 4 then retS s x.a x.nm else if x.d = 5 then movS s x.a x.b else discS s x.a
def resS (s : Sf) (x : Ac) : Sf := cond (actC s x == 0) (actS s x) zeroSf
structure NxF (s t : Sf) : Prop where
  may : MayF t
  nb : s.nb ≤ t.nb
  nn : s.nn ≤ t.nn
  ns : t.ns = s.ns
  bs : t.bs.length > s.bs.length → ∃ b, t.bs = s.bs ++ [b] ∧ b.id = s.nb ∧ t.nb = s.nb + 1
  ts : t.ts.length > s.ts.length → ∃ b, t.ts = s.ts ++ [b] ∧ b.id = s.nn ∧ t.nn = s.nn + 1
structure NtF (s : Sf) (z : Int) (x : ByteArray) : Prop where
  may : MayF s
  bk : ∃ b ∈ s.bs, b.id = z
  nm : mayN x = true
  tk : noteTk s z x 0 = false
  tl : s.ts.length < 12
  nn : s.nn < 65536
theorem ntF_of {s : Sf} {z : Int} {x : ByteArray} (hc : noteC s z x = 0) : NtF s z x := by
  have : mayS s = true ∧ ¬ bookAt s z < 0 ∧ mayN x = true ∧ noteTk s z x 0 = false ∧ fullN s = false := by
    unfold noteC at hc
    cases h1 : mayS s <;> by_cases h2 : bookAt s z < 0 <;> cases h3 : mayN x <;> cases h4 : noteTk s z x 0 <;> cases h5 : fullN s <;> rw [h1] at hc <;> simp [h2, h3, h4, h5] at hc ⊢
    all_goals exact Int.not_lt.1 h2
  obtain ⟨h1, h2, h3, h4, h5⟩ := this
  unfold fullN at h5
  rw [Bool.or_eq_false_iff, decide_eq_false_iff_not, decide_eq_false_iff_not] at h5
  exact ⟨mayF_of h1, (book_is _).1 (Int.not_lt.1 h2), h3, h4, by omega, by omega⟩
theorem mayTg_nil : mayTg [] = true := rfl
theorem NtF.may2 {s : Sf} {z : Int} {x : ByteArray} (h : NtF s z x) : MayF (noteS s z x) := by
  have hF := h.may
  have hnn := hF.nn
  have hone : ∀ b ∈ s.ts, 0 < b.id ∧ b.id ≤ s.nn - 1 := fun b hb => ⟨(hF.ts b hb).1, (hF.ts b hb).2.1⟩
  have hno : ∀ b ∈ s.ts, b.bk = z → b.nm.toList ≠ x.toList := fun b hb hz he => by
    have h1 := tkN_iff.1 h.tk b hb hz he
    have h2 := hone b hb
    omega
  have hlt := h.nn
  obtain ⟨q1, q2, q3⟩ := (sh_iff _ _ _).1 hF.sh
  have hfm : (s.ts ++ [(⟨s.nn, z, x, [], []⟩ : Nt)]).flatMap Nt.sh = s.ts.flatMap Nt.sh := by
    rw [List.flatMap_append]
    simp
  refine ⟨hF.nb, ⟨by show 1 ≤ s.nn + 1; omega, by show s.nn + 1 ≤ 65536; omega⟩, hF.ns, hF.bl, by show (s.ts ++ [_]).length ≤ 12; rw [List.length_append]; have := h.tl; simp; omega, hF.bs, hF.bo, fun b hb => ?_, ?_, ?_⟩
  · have hb' : b ∈ s.ts ++ [⟨s.nn, z, x, [], []⟩] := hb
    have htk : noteTk (noteS s z x) b.bk b.nm b.id = false := by
      rw [tkN_iff]
      intro c hc hcb he
      have hc' : c ∈ s.ts ++ [⟨s.nn, z, x, [], []⟩] := hc
      rcases List.mem_append.1 hb' with hb1 | hb1 <;> rcases List.mem_append.1 hc' with hc1 | hc1
      · exact hF.nnames hc1 hb1 hcb he
      · rw [List.mem_singleton] at hc1
        subst hc1
        exact absurd he.symm (hno b hb1 hcb.symm)
      · rw [List.mem_singleton] at hb1
        subst hb1
        exact absurd he (hno c hc1 hcb)
      · rw [List.mem_singleton] at hb1 hc1
        rw [hb1, hc1]
    rcases List.mem_append.1 hb' with hb1 | hb1
    · have h2 := hF.ts b hb1
      obtain ⟨m1, m2, m3, m4⟩ := mayNt_iff.1 h2.2.2
      exact ⟨h2.1, by show b.id ≤ s.nn + 1 - 1; omega, mayNt_iff.2 ⟨m1, m2, htk, m4⟩⟩
    · rw [List.mem_singleton] at hb1
      subst hb1
      exact ⟨by show 0 < s.nn; omega, by show s.nn ≤ s.nn + 1 - 1; omega, mayNt_iff.2 ⟨h.nm, h.bk, htk, mayTg_nil⟩⟩
  · show (s.ts ++ [(⟨s.nn, z, x, [], []⟩ : Nt)]).Pairwise _
    rw [List.pairwise_append]
    refine ⟨hF.tord, List.pairwise_singleton _ _, fun a ha b hb => ?_⟩
    rw [List.mem_singleton] at hb
    subst hb
    have := hone a ha
    show a.id < s.nn
    omega
  · refine (sh_iff _ _ _).2 ⟨fun c hc => ?_, ?_, ?_⟩
    · have hc' : c ∈ s.ts ++ [⟨s.nn, z, x, [], []⟩] := hc
      rcases List.mem_append.1 hc' with hc1 | hc1
      · exact q1 c hc1
      · rw [List.mem_singleton] at hc1
        subst hc1
        simp
    · show ∀ x_ ∈ (s.ts ++ [(⟨s.nn, z, x, [], []⟩ : Nt)]).flatMap Nt.sh, _
      rw [hfm]
      exact q2
    · show ((s.ts ++ [(⟨s.nn, z, x, [], []⟩ : Nt)]).flatMap Nt.sh).Nodup
      rw [hfm]
      exact q3
structure RtF (s : Sf) (y : Int) (x : ByteArray) (k : Nat) (n : Nt) : Prop where
  may : MayF s
  at_ : noteAt s y = (k : Int)
  nt : s.ts[k]? = some n
  id : n.id = y
  nm : mayN x = true
  tk : noteTk s n.bk x y = false
theorem rtF_of {s : Sf} {y : Int} {x : ByteArray} (hc : retC s y x = 0) : ∃ k n, RtF s y x k n := by
  have : mayS s = true ∧ ¬ noteAt s y < 0 ∧ mayN x = true ∧ noteTk s (bkOf s y) x y = false := by
    unfold retC at hc
    cases h1 : mayS s <;> by_cases h2 : noteAt s y < 0 <;> cases h3 : mayN x <;> cases h4 : noteTk s (bkOf s y) x y <;> rw [h1] at hc <;> simp [h2, h3, h4] at hc ⊢
    all_goals exact Int.not_lt.1 h2
  obtain ⟨h1, h2, h3, h4⟩ := this
  obtain ⟨k, n, hk, hn, hid⟩ := noteAt_get (Int.not_lt.1 h2)
  have hnm : bkOf s y = n.bk := by unfold bkOf; rw [hk]; simp [hn]
  rw [hnm] at h4
  exact ⟨k, n, mayF_of h1, hk, hn, hid, h3, h4⟩
theorem RtF.eq {s : Sf} {y : Int} {x : ByteArray} {k : Nat} {n : Nt} (h : RtF s y x k n) : retS s y x = { s with ts := s.ts.set k { n with nm := x } } := by
  unfold retS
  rw [h.at_]
  simp [h.nt]
theorem setT_map {β : Type} {l : List Nt} {k : Nat} {n : Nt} {x : ByteArray} (f : Nt → β) (hf : f { n with nm := x } = f n) (hn : l[k]? = some n) : (l.set k { n with nm := x }).map f = l.map f := by
  rw [List.map_set, hf]
  apply List.ext_getElem?
  intro j
  rw [List.getElem?_set, List.getElem?_map]
  split
  · rename_i h
    subst h
    rw [hn]
    have := (List.getElem?_eq_some_iff.1 hn).1
    simp [this]
  · rfl
theorem RtF.may2 {s : Sf} {y : Int} {x : ByteArray} {k : Nat} {n : Nt} (h : RtF s y x k n) : MayF (retS s y x) := by
  have hF := h.may
  rw [h.eq]
  have hnm := List.mem_of_getElem? h.nt
  have hmem : ∀ c ∈ s.ts.set k { n with nm := x }, (c = { n with nm := x }) ∨ (c ∈ s.ts ∧ c.id ≠ y) := by
    intro c hc
    rcases set_mem hc with h1 | ⟨j, hj, he⟩
    · exact Or.inl h1
    · refine Or.inr ⟨List.mem_of_getElem? he, fun e => hj ?_⟩
      have hcb := hF.idinj (List.mem_of_getElem? he) hnm (e.trans h.id.symm)
      obtain ⟨h1, e1⟩ := List.getElem?_eq_some_iff.1 he
      obtain ⟨h2, e2⟩ := List.getElem?_eq_some_iff.1 h.nt
      rcases Nat.lt_trichotomy j k with hlt | rfl | hlt
      · have := List.pairwise_iff_getElem.1 hF.tord j k h1 h2 hlt
        rw [e1, e2, hcb] at this
        omega
      · rfl
      · have := List.pairwise_iff_getElem.1 hF.tord k j h2 h1 hlt
        rw [e1, e2, hcb] at this
        omega
  obtain ⟨q1, q2, q3⟩ := (sh_iff _ _ _).1 hF.sh
  have hfm : (s.ts.set k { n with nm := x }).flatMap Nt.sh = s.ts.flatMap Nt.sh := by
    rw [List.flatMap_def, List.flatMap_def, setT_map Nt.sh rfl h.nt]
  refine ⟨hF.nb, hF.nn, hF.ns, hF.bl, by show (s.ts.set k _).length ≤ 12; rw [List.length_set]; exact hF.tl, hF.bs, hF.bo, fun c hc => ?_, ?_, ?_⟩
  · have hc0 : c ∈ s.ts.set k { n with nm := x } := hc
    have htk : ∀ c ∈ s.ts.set k { n with nm := x }, noteTk { s with ts := s.ts.set k { n with nm := x } } c.bk c.nm c.id = false := by
      intro c hc
      rw [tkN_iff]
      intro d hd hdb he
      rcases hmem d hd with rfl | ⟨hd1, hd2⟩ <;> rcases hmem c hc with rfl | ⟨hc1, hc2⟩
      · rfl
      · exact absurd (tkN_iff.1 h.tk c hc1 hdb.symm he.symm) hc2
      · exact absurd (tkN_iff.1 h.tk d hd1 hdb he) hd2
      · exact hF.nnames hd1 hc1 hdb he
    rcases hmem c hc0 with rfl | ⟨hc1, hc2⟩
    · have h2 := hF.ts n hnm
      obtain ⟨m1, m2, m3, m4⟩ := mayNt_iff.1 h2.2.2
      exact ⟨h2.1, h2.2.1, mayNt_iff.2 ⟨h.nm, m2, htk _ hc0, m4⟩⟩
    · have h2 := hF.ts c hc1
      obtain ⟨m1, m2, m3, m4⟩ := mayNt_iff.1 h2.2.2
      exact ⟨h2.1, h2.2.1, mayNt_iff.2 ⟨m1, m2, htk _ hc0, m4⟩⟩
  · have h1 : (s.ts.map Nt.id).Pairwise (· < ·) := List.pairwise_map.2 hF.tord
    rw [← setT_map Nt.id rfl h.nt (x := x)] at h1
    exact List.pairwise_map.1 h1
  · refine (sh_iff _ _ _).2 ⟨fun c hc => ?_, ?_, ?_⟩
    · rcases hmem c hc with rfl | ⟨hc1, _⟩
      · exact q1 n hnm
      · exact q1 c hc1
    · show ∀ x_ ∈ (s.ts.set k { n with nm := x }).flatMap Nt.sh, _
      rw [hfm]
      exact q2
    · show ((s.ts.set k { n with nm := x }).flatMap Nt.sh).Nodup
      rw [hfm]
      exact q3
theorem drop_may {s : Sf} {y : Int} (hF : MayF s) : MayF (dropS s y) := by
  have h2 := hF.sub (ts' := s.ts.filter fun n => !(n.bk == y)) (List.filter_sublist)
  have hsub : (s.bs.filter fun b => !(b.id == y)).Sublist s.bs := List.filter_sublist
  refine ⟨hF.nb, hF.nn, hF.ns, Nat.le_trans hsub.length_le hF.bl, h2.tl, fun b hb => ?_, hF.bo.sublist hsub, fun n hn => ?_, h2.tord, h2.sh⟩
  · have h1 := hF.bs b (hsub.subset hb)
    refine ⟨h1.1, h1.2.1, h1.2.2.1, ?_⟩
    have h3 := tkB_iff.1 h1.2.2.2
    exact tkB_iff.2 fun c hc he => h3 c (hsub.subset hc) he
  · have h1 := h2.ts n hn
    obtain ⟨m1, ⟨b, hb, hbe⟩, m3, m4⟩ := mayNt_iff.1 h1.2.2
    have hn2 : n ∈ s.ts.filter fun n => !(n.bk == y) := hn
    have h4 : (n.bk == y) = false := by simpa using (List.mem_filter.1 hn2).2
    refine ⟨h1.1, h1.2.1, mayNt_iff.2 ⟨m1, ⟨b, ?_, hbe⟩, m3, m4⟩⟩
    show b ∈ s.bs.filter fun b => !(b.id == y)
    rw [List.mem_filter]
    exact ⟨hb, by rw [hbe, h4]; rfl⟩
theorem may_of_drop {s : Sf} {y : Int} (h : dropC s y = 0) : MayF s := by
  unfold dropC at h
  cases h1 : mayS s
  · rw [h1] at h
    simp at h
  · exact mayF_of h1
theorem may_of_disc {s : Sf} {y : Int} (h : discC s y = 0) : MayF s := by
  unfold discC at h
  cases h1 : mayS s
  · rw [h1] at h
    simp at h
  · exact mayF_of h1
theorem act_next {s : Sf} {x : Ac} (h : actC s x = 0) : NxF s (actS s x) := by
  unfold actC at h
  unfold actS
  split at h
  · rename_i h0
    rw [if_pos h0]
    exact ⟨(mkF_of h).may2, by show s.nb ≤ s.nb + 1; omega, Int.le_refl _, rfl, fun _ => ⟨_, rfl, rfl, rfl⟩, fun hl => absurd hl (Nat.lt_irrefl _)⟩
  · rename_i h0
    rw [if_neg h0]
    split at h
    · rename_i h1
      rw [if_pos h1]
      obtain ⟨k, b, hr⟩ := rnF_of h
      have e := hr.eq
      exact ⟨hr.may2, by rw [e]; exact Int.le_refl _, by rw [e]; exact Int.le_refl _, by rw [e], fun hl => by rw [e] at hl; simp at hl, fun hl => by rw [e] at hl; simp at hl⟩
    · rename_i h1
      rw [if_neg h1]
      split at h
      · rename_i h2
        rw [if_pos h2]
        exact ⟨drop_may (may_of_drop h), Int.le_refl _, Int.le_refl _, rfl, fun hl => absurd (show (s.bs.filter fun b => !(b.id == x.a)).length > s.bs.length from hl) (Nat.not_lt.2 (List.length_filter_le _ _)), fun hl => absurd (show (s.ts.filter fun n => !(n.bk == x.a)).length > s.ts.length from hl) (Nat.not_lt.2 (List.length_filter_le _ _))⟩
      · rename_i h2
        rw [if_neg h2]
        split at h
        · rename_i h3
          rw [if_pos h3]
          exact ⟨(ntF_of h).may2, Int.le_refl _, by show s.nn ≤ s.nn + 1; omega, rfl, fun hl => absurd hl (Nat.lt_irrefl _), fun _ => ⟨_, rfl, rfl, rfl⟩⟩
        · rename_i h3
          rw [if_neg h3]
          split at h
          · rename_i h4
            rw [if_pos h4]
            obtain ⟨k, b, hr⟩ := rtF_of h
            have e := hr.eq
            exact ⟨hr.may2, by rw [e]; exact Int.le_refl _, by rw [e]; exact Int.le_refl _, by rw [e], fun hl => by rw [e] at hl; simp at hl, fun hl => by rw [e] at hl; simp at hl⟩
          · rename_i h4
            rw [if_neg h4]
            split at h
            · rename_i h5
              rw [if_pos h5]
              obtain ⟨k, b, hr⟩ := mvF_of h
              have e := hr.eq
              exact ⟨hr.may2, by rw [e]; exact Int.le_refl _, by rw [e]; exact Int.le_refl _, by rw [e], fun hl => by rw [e] at hl; simp at hl, fun hl => by rw [e] at hl; simp at hl⟩
            · rename_i h5
              rw [if_neg h5]
              split at h
              · exact ⟨(may_of_disc h).sub (List.filter_sublist), Int.le_refl _, Int.le_refl _, rfl, fun hl => absurd hl (Nat.lt_irrefl _), fun hl => absurd (show (s.ts.filter fun n => !(n.id == x.a)).length > s.ts.length from hl) (Nat.not_lt.2 (List.length_filter_le _ _))⟩
              · cases h
theorem res_small (s : Sf) (x : Ac) : (resS s x).bs.length ≤ 100000 ∧ (resS s x).ts.length ≤ 100000 ∧ ∀ n ∈ (resS s x).ts, n.tg.length ≤ 100000 ∧ n.sh.length ≤ 100000 := by
  unfold resS
  cases hc : actC s x == 0
  · exact ⟨by simp [zeroSf], by simp [zeroSf], fun n hn => by simp [zeroSf] at hn⟩
  · have hF := (act_next (by simpa using hc)).may
    show (actS s x).bs.length ≤ 100000 ∧ (actS s x).ts.length ≤ 100000 ∧ ∀ n ∈ (actS s x).ts, _
    exact ⟨by have := hF.bl; omega, by have := hF.tl; omega, hF.small⟩
theorem zeroW (w : World) (base : Nat) : ShW w base (.agg #[.int .i64 0, .int .i64 0, .int .i64 0, .slice none 0 0, .slice none 0 0]) zeroSf := ShW.make (s := zeroSf) (w := w) (base := base) (vb := .slice none 0 0) (vn := .slice none 0 0) (World.ownsRow_nil _ _ _ _) ⟨[], rfl, World.ownsRow_nil _ _ _ _, fun k n e a _ => by simp [zeroSf] at a⟩
end Go.Proofs.YtokhapafpjejaaaGreatDoor
namespace Go.Proofs.YtokhapafpjejaaaGreatDoor
open Go.ChangeShapes Go.WideShapes Go.ChangeAt Go.RowKit
attribute [local go_sem ↓] Go.wp_at_zero Go.wp_at_succ
theorem rmake_no (s : Sf) (v : Value) (x : ByteArray) (w : World) (hS : ShR w w.heap.size v s) (hz : SzF s) (hx : x.size ≤ 100000) (c : Int) (hc : makeC s x = c) (hne : c ≠ 0) :
    Calls Tryz.prog 30 #[v, .string x] w fun e' w' => e' = .returned (.tuple #[.agg #[.int .i64 0, .int .i64 0, .int .i64 0, .slice none 0 0, .slice none 0 0], .int .i64 0, .int .i64 c]) ∧ Below w.heap.size w w' := by
  have hS0 := hS
  obtain ⟨Ab, cb, An, cn, rfl, hB, hN, hcb, hmb, hcn, hmn⟩ := hS.ex
  clear hS
  obtain ⟨HB, B1, B2, S1⟩ := pre2 hS0
  have HZ := Lib.hid hz
  have HX := Lib.hid hx
  clear hS0 hB hN hcb hmb hcn hmn hz
  obtain ⟨M, hM⟩ : ∃ M, mayS s = M := ⟨_, rfl⟩
  obtain ⟨N, hN⟩ : ∃ N, mayN x = N := ⟨_, rfl⟩
  obtain ⟨K_, hK⟩ : ∃ K, bookTk s x 0 = K := ⟨_, rfl⟩
  unfold makeC at hc
  rw [hM, hN, hK] at hc
  have HK : Hid ((cond (mayN x) (cond (bookTk s x 0) 7 0) 6 : Int) = cond N (cond K_ 7 0) 6) := Lib.hid (by rw [hN, hK])
  have HM : Hid (rMayB s = M) := Lib.hid ((rMay_eq s).trans hM)
  have HF : Hid (M = true → s.nb ≤ 65536) := Lib.hid fun h => by rw [h] at hM; exact (mayF_of hM).nb.2
  clear hM hN hK hx
  obtain ⟨n, hn⟩ : ∃ n, s.bs.length = n := ⟨_, rfl⟩
  have hf : fullB s = (decide (6 ≤ n) || decide (65536 ≤ s.nb)) := by unfold fullB; rw [hn]
  rw [hf] at hc
  rw [hn] at HB B1 S1 B2 ⊢
  clear hf hn
  cases M
  · obtain rfl : c = 2 := hc.symm
    clear hc hne
    go_enter Tryz.func30, Tryz.ntmps30
    go_wp2_with (first | (go_at_call 11; ((with_reducible refine (rMay_any s _ _ S1 HZ.out _ HM.out).mono ?_); rintro e' w3 ⟨rfl, bx⟩; (try clear k0 k1 k2 k3 k4 r0 r1 r2 r3 r4 t0 t1 t2 t3 t4); obtain ⟨S1, B1, B2, HB, k0, k1, k2, k3, k4, r0, r1, r2, r3, r4, t0, t1, t2, t3, t4⟩ := keepR S1 B1 B2 HB bx; clear bx)))
    have B2u := z5_blk B2
    have hb2 := z5_below HB (g := w.heap.size + 1) (by omega)
    change bodyPost _ _ _ _ _ (z5 w3 (w.heap.size + 1))
    generalize z5 w3 (w.heap.size + 1) = Wd at B2u hb2 ⊢
    apply bodyPost_ret (v := .tuple #[.agg #[.int .i64 0, .int .i64 0, .int .i64 0, .slice none 0 0, .slice none 0 0], .int .i64 0, .int .i64 2])
    · exact results_cell2 Tryz.results30 _ Wd _ 25 #[.int .i64 0, .int .i64 0, .int .i64 0, .slice none 0 0, .slice none 0 0] (0, 0) _ rfl B2u Tryz.underlying25 rfl (by kernel_rfl)
    · rfl
    · exact ⟨rfl, hb2⟩
  · cases N
    · obtain rfl : c = 6 := hc.symm
      clear hc hne
      go_enter Tryz.func30, Tryz.ntmps30
      go_wp2_with (first | (go_at_call 11; ((with_reducible refine (rMay_any s _ _ S1 HZ.out _ HM.out).mono ?_); rintro e' w3 ⟨rfl, bx⟩; (try clear k0 k1 k2 k3 k4 r0 r1 r2 r3 r4 t0 t1 t2 t3 t4); obtain ⟨S1, B1, B2, HB, k0, k1, k2, k3, k4, r0, r1, r2, r3, r4, t0, t1, t2, t3, t4⟩ := keepR S1 B1 B2 HB bx; clear bx)) | (go_at_call 64; ((with_reducible refine (rBookName_any s _ 0 x _ S1 ⟨HZ.out.bl, HZ.out.tl⟩ HX.out _ HK.out).mono ?_); rintro e' w4 ⟨rfl, bx⟩; (try clear k0 k1 k2 k3 k4 r0 r1 r2 r3 r4 t0 t1 t2 t3 t4); obtain ⟨S1, B1, B2, HB, k0, k1, k2, k3, k4, r0, r1, r2, r3, r4, t0, t1, t2, t3, t4⟩ := keepR S1 B1 B2 HB bx; clear bx)))
      have B2u := z5_blk B2
      have hb2 := z5_below HB (g := w.heap.size + 1) (by omega)
      change bodyPost _ _ _ _ _ (z5 w4 (w.heap.size + 1))
      generalize z5 w4 (w.heap.size + 1) = Wd at B2u hb2 ⊢
      apply bodyPost_ret (v := .tuple #[.agg #[.int .i64 0, .int .i64 0, .int .i64 0, .slice none 0 0, .slice none 0 0], .int .i64 0, .int .i64 6])
      · exact results_cell2 Tryz.results30 _ Wd _ 25 #[.int .i64 0, .int .i64 0, .int .i64 0, .slice none 0 0, .slice none 0 0] (0, 0) _ rfl B2u Tryz.underlying25 rfl (by kernel_rfl)
      · rfl
      · exact ⟨rfl, hb2⟩
    · cases K_
      · by_cases h6 : 6 ≤ n
        · obtain rfl : c = 3 := by simpa [h6] using hc.symm
          have g6 : (6 : Int) ≤ (n : Int) := by omega
          clear hc hne h6
          go_enter Tryz.func30, Tryz.ntmps30
          go_wp2_with (first | (go_at_call 11; ((with_reducible refine (rMay_any s _ _ S1 HZ.out _ HM.out).mono ?_); rintro e' w3 ⟨rfl, bx⟩; (try clear k0 k1 k2 k3 k4 r0 r1 r2 r3 r4 t0 t1 t2 t3 t4); obtain ⟨S1, B1, B2, HB, k0, k1, k2, k3, k4, r0, r1, r2, r3, r4, t0, t1, t2, t3, t4⟩ := keepR S1 B1 B2 HB bx; clear bx)) | (go_at_call 64; ((with_reducible refine (rBookName_any s _ 0 x _ S1 ⟨HZ.out.bl, HZ.out.tl⟩ HX.out _ HK.out).mono ?_); rintro e' w4 ⟨rfl, bx⟩; (try clear k0 k1 k2 k3 k4 r0 r1 r2 r3 r4 t0 t1 t2 t3 t4); obtain ⟨S1, B1, B2, HB, k0, k1, k2, k3, k4, r0, r1, r2, r3, r4, t0, t1, t2, t3, t4⟩ := keepR S1 B1 B2 HB bx; clear bx)))
          have B2u := z5_blk B2
          have hb2 := z5_below HB (g := w.heap.size + 1) (by omega)
          change bodyPost _ _ _ _ _ (z5 w4 (w.heap.size + 1))
          generalize z5 w4 (w.heap.size + 1) = Wd at B2u hb2 ⊢
          apply bodyPost_ret (v := .tuple #[.agg #[.int .i64 0, .int .i64 0, .int .i64 0, .slice none 0 0, .slice none 0 0], .int .i64 0, .int .i64 3])
          · exact results_cell2 Tryz.results30 _ Wd _ 25 #[.int .i64 0, .int .i64 0, .int .i64 0, .slice none 0 0, .slice none 0 0] (0, 0) _ rfl B2u Tryz.underlying25 rfl (by kernel_rfl)
          · rfl
          · exact ⟨rfl, hb2⟩
        · by_cases h7 : 65536 ≤ s.nb
          · obtain rfl : c = 3 := by simpa [h6, h7] using hc.symm
            have g6 : ¬ (6 : Int) ≤ (n : Int) := by omega
            have g7 : (s.nb == 65536) = true := by have := HF.out rfl; simp; omega
            clear hc hne h6 h7
            go_enter Tryz.func30, Tryz.ntmps30
            go_wp2_with (first | (go_at_call 11; ((with_reducible refine (rMay_any s _ _ S1 HZ.out _ HM.out).mono ?_); rintro e' w3 ⟨rfl, bx⟩; (try clear k0 k1 k2 k3 k4 r0 r1 r2 r3 r4 t0 t1 t2 t3 t4); obtain ⟨S1, B1, B2, HB, k0, k1, k2, k3, k4, r0, r1, r2, r3, r4, t0, t1, t2, t3, t4⟩ := keepR S1 B1 B2 HB bx; clear bx)) | (go_at_call 64; ((with_reducible refine (rBookName_any s _ 0 x _ S1 ⟨HZ.out.bl, HZ.out.tl⟩ HX.out _ HK.out).mono ?_); rintro e' w4 ⟨rfl, bx⟩; (try clear k0 k1 k2 k3 k4 r0 r1 r2 r3 r4 t0 t1 t2 t3 t4); obtain ⟨S1, B1, B2, HB, k0, k1, k2, k3, k4, r0, r1, r2, r3, r4, t0, t1, t2, t3, t4⟩ := keepR S1 B1 B2 HB bx; clear bx)))
            have B2u := z5_blk B2
            have hb2 := z5_below HB (g := w.heap.size + 1) (by omega)
            change bodyPost _ _ _ _ _ (z5 w4 (w.heap.size + 1))
            generalize z5 w4 (w.heap.size + 1) = Wd at B2u hb2 ⊢
            apply bodyPost_ret (v := .tuple #[.agg #[.int .i64 0, .int .i64 0, .int .i64 0, .slice none 0 0, .slice none 0 0], .int .i64 0, .int .i64 3])
            · exact results_cell2 Tryz.results30 _ Wd _ 25 #[.int .i64 0, .int .i64 0, .int .i64 0, .slice none 0 0, .slice none 0 0] (0, 0) _ rfl B2u Tryz.underlying25 rfl (by kernel_rfl)
            · rfl
            · exact ⟨rfl, hb2⟩
          · exact absurd (by simpa [h6, h7] using hc.symm) hne
      · obtain rfl : c = 7 := hc.symm
        clear hc hne
        go_enter Tryz.func30, Tryz.ntmps30
        go_wp2_with (first | (go_at_call 11; ((with_reducible refine (rMay_any s _ _ S1 HZ.out _ HM.out).mono ?_); rintro e' w3 ⟨rfl, bx⟩; (try clear k0 k1 k2 k3 k4 r0 r1 r2 r3 r4 t0 t1 t2 t3 t4); obtain ⟨S1, B1, B2, HB, k0, k1, k2, k3, k4, r0, r1, r2, r3, r4, t0, t1, t2, t3, t4⟩ := keepR S1 B1 B2 HB bx; clear bx)) | (go_at_call 64; ((with_reducible refine (rBookName_any s _ 0 x _ S1 ⟨HZ.out.bl, HZ.out.tl⟩ HX.out _ HK.out).mono ?_); rintro e' w4 ⟨rfl, bx⟩; (try clear k0 k1 k2 k3 k4 r0 r1 r2 r3 r4 t0 t1 t2 t3 t4); obtain ⟨S1, B1, B2, HB, k0, k1, k2, k3, k4, r0, r1, r2, r3, r4, t0, t1, t2, t3, t4⟩ := keepR S1 B1 B2 HB bx; clear bx)))
        have B2u := z5_blk B2
        have hb2 := z5_below HB (g := w.heap.size + 1) (by omega)
        change bodyPost _ _ _ _ _ (z5 w4 (w.heap.size + 1))
        generalize z5 w4 (w.heap.size + 1) = Wd at B2u hb2 ⊢
        apply bodyPost_ret (v := .tuple #[.agg #[.int .i64 0, .int .i64 0, .int .i64 0, .slice none 0 0, .slice none 0 0], .int .i64 0, .int .i64 7])
        · exact results_cell2 Tryz.results30 _ Wd _ 25 #[.int .i64 0, .int .i64 0, .int .i64 0, .slice none 0 0, .slice none 0 0] (0, 0) _ rfl B2u Tryz.underlying25 rfl (by kernel_rfl)
        · rfl
        · exact ⟨rfl, hb2⟩
theorem rren_no (s : Sf) (v : Value) (y : Int) (x : ByteArray) (w : World) (hS : ShR w w.heap.size v s) (hz : SzF s) (hx : x.size ≤ 100000) (c : Int) (hc : renC s y x = c) (hne : c ≠ 0) :
    Calls Tryz.prog 32 #[v, .int .i64 y, .string x] w fun e' w' => e' = .returned (.tuple #[.agg #[.int .i64 0, .int .i64 0, .int .i64 0, .slice none 0 0, .slice none 0 0], .int .i64 c]) ∧ Below w.heap.size w w' := by
  have hS0 := hS
  obtain ⟨Ab, cb, An, cn, rfl, hB, hN, hcb, hmb, hcn, hmn⟩ := hS.ex
  clear hS
  obtain ⟨HB, B1, B2, S1⟩ := pre2 hS0
  have HZ := Lib.hid hz
  have HX := Lib.hid hx
  clear hS0 hB hN hcb hmb hcn hmn hz
  obtain ⟨M, hM⟩ : ∃ M, mayS s = M := ⟨_, rfl⟩
  obtain ⟨N, hN⟩ : ∃ N, mayN x = N := ⟨_, rfl⟩
  obtain ⟨K_, hK⟩ : ∃ K, bookTk s x y = K := ⟨_, rfl⟩
  unfold renC at hc
  rw [hM, hN, hK] at hc
  have HK : Hid ((cond (mayN x) (cond (bookTk s x y) 7 0) 6 : Int) = cond N (cond K_ 7 0) 6) := Lib.hid (by rw [hN, hK])
  have HM : Hid (rMayB s = M) := Lib.hid ((rMay_eq s).trans hM)
  clear hM hN hK hx
  cases M
  · obtain rfl : c = 2 := hc.symm
    clear hc hne
    go_enter Tryz.func32, Tryz.ntmps32
    go_wp2_with (first | (go_at_call 11; ((with_reducible refine (rMay_any s _ _ S1 HZ.out _ HM.out).mono ?_); rintro e' w3 ⟨rfl, bx⟩; (try clear k0 k1 k2 k3 k4 r0 r1 r2 r3 r4 t0 t1 t2 t3 t4); obtain ⟨S1, B1, B2, HB, k0, k1, k2, k3, k4, r0, r1, r2, r3, r4, t0, t1, t2, t3, t4⟩ := keepR S1 B1 B2 HB bx; clear bx)))
    have B2u := z5_blk B2
    have hb2 := z5_below HB (g := w.heap.size + 1) (by omega)
    change bodyPost _ _ _ _ _ (z5 w3 (w.heap.size + 1))
    generalize z5 w3 (w.heap.size + 1) = Wd at B2u hb2 ⊢
    apply bodyPost_ret (v := .tuple #[.agg #[.int .i64 0, .int .i64 0, .int .i64 0, .slice none 0 0, .slice none 0 0], .int .i64 2])
    · exact results_cell1 Tryz.results32 _ Wd _ 25 #[.int .i64 0, .int .i64 0, .int .i64 0, .slice none 0 0, .slice none 0 0] (0, 0) _ rfl B2u Tryz.underlying25 rfl (by kernel_rfl)
    · rfl
    · exact ⟨rfl, hb2⟩
  · by_cases h4 : bookAt s y < 0
    · obtain rfl : c = 4 := by simpa [h4] using hc.symm
      clear hc hne
      go_enter Tryz.func32, Tryz.ntmps32
      go_wp2_with (first | (go_at_call 11; ((with_reducible refine (rMay_any s _ _ S1 HZ.out _ HM.out).mono ?_); rintro e' w3 ⟨rfl, bx⟩; (try clear k0 k1 k2 k3 k4 r0 r1 r2 r3 r4 t0 t1 t2 t3 t4); obtain ⟨S1, B1, B2, HB, k0, k1, k2, k3, k4, r0, r1, r2, r3, r4, t0, t1, t2, t3, t4⟩ := keepR S1 B1 B2 HB bx; clear bx)) | (go_at_call 53; ((with_reducible refine (rBook_any s _ y _ S1 ⟨HZ.out.bl, HZ.out.tl⟩).mono ?_); rintro e' w4 ⟨rfl, bx⟩; (try rw [HB1.out]); (try clear k0 k1 k2 k3 k4 r0 r1 r2 r3 r4 t0 t1 t2 t3 t4); obtain ⟨S1, B1, B2, HB, k0, k1, k2, k3, k4, r0, r1, r2, r3, r4, t0, t1, t2, t3, t4⟩ := keepR S1 B1 B2 HB bx; clear bx)))
      have B2u := z5_blk B2
      have hb2 := z5_below HB (g := w.heap.size + 1) (by omega)
      change bodyPost _ _ _ _ _ (z5 w4 (w.heap.size + 1))
      generalize z5 w4 (w.heap.size + 1) = Wd at B2u hb2 ⊢
      apply bodyPost_ret (v := .tuple #[.agg #[.int .i64 0, .int .i64 0, .int .i64 0, .slice none 0 0, .slice none 0 0], .int .i64 4])
      · exact results_cell1 Tryz.results32 _ Wd _ 25 #[.int .i64 0, .int .i64 0, .int .i64 0, .slice none 0 0, .slice none 0 0] (0, 0) _ rfl B2u Tryz.underlying25 rfl (by kernel_rfl)
      · rfl
      · exact ⟨rfl, hb2⟩
    · cases N
      · obtain rfl : c = 6 := by simpa [h4] using hc.symm
        obtain ⟨q, hq⟩ : ∃ q : Nat, bookAt s y = (q : Int) := ⟨(bookAt s y).toNat, by omega⟩
        have HB1 := Lib.hid hq
        have q0 : (0 : Int) ≤ (q : Int) := by omega
        have q2 : ¬ (q : Int) < 0 := by omega
        clear hq h4 hc hne
        go_enter Tryz.func32, Tryz.ntmps32
        go_wp2_with (first | (go_at_call 11; ((with_reducible refine (rMay_any s _ _ S1 HZ.out _ HM.out).mono ?_); rintro e' w3 ⟨rfl, bx⟩; (try clear k0 k1 k2 k3 k4 r0 r1 r2 r3 r4 t0 t1 t2 t3 t4); obtain ⟨S1, B1, B2, HB, k0, k1, k2, k3, k4, r0, r1, r2, r3, r4, t0, t1, t2, t3, t4⟩ := keepR S1 B1 B2 HB bx; clear bx)) | (go_at_call 53; ((with_reducible refine (rBook_any s _ y _ S1 ⟨HZ.out.bl, HZ.out.tl⟩).mono ?_); rintro e' w4 ⟨rfl, bx⟩; (try rw [HB1.out]); (try clear k0 k1 k2 k3 k4 r0 r1 r2 r3 r4 t0 t1 t2 t3 t4); obtain ⟨S1, B1, B2, HB, k0, k1, k2, k3, k4, r0, r1, r2, r3, r4, t0, t1, t2, t3, t4⟩ := keepR S1 B1 B2 HB bx; clear bx)) | (go_at_call 64; ((with_reducible refine (rBookName_any s _ y x _ S1 ⟨HZ.out.bl, HZ.out.tl⟩ HX.out _ HK.out).mono ?_); rintro e' w5 ⟨rfl, bx⟩; (try clear k0 k1 k2 k3 k4 r0 r1 r2 r3 r4 t0 t1 t2 t3 t4); obtain ⟨S1, B1, B2, HB, k0, k1, k2, k3, k4, r0, r1, r2, r3, r4, t0, t1, t2, t3, t4⟩ := keepR S1 B1 B2 HB bx; clear bx)))
        have B2u := z5_blk B2
        have hb2 := z5_below HB (g := w.heap.size + 1) (by omega)
        change bodyPost _ _ _ _ _ (z5 w5 (w.heap.size + 1))
        generalize z5 w5 (w.heap.size + 1) = Wd at B2u hb2 ⊢
        apply bodyPost_ret (v := .tuple #[.agg #[.int .i64 0, .int .i64 0, .int .i64 0, .slice none 0 0, .slice none 0 0], .int .i64 6])
        · exact results_cell1 Tryz.results32 _ Wd _ 25 #[.int .i64 0, .int .i64 0, .int .i64 0, .slice none 0 0, .slice none 0 0] (0, 0) _ rfl B2u Tryz.underlying25 rfl (by kernel_rfl)
        · rfl
        · exact ⟨rfl, hb2⟩
      · cases K_
        · exact absurd (by simpa [h4] using hc.symm) hne
        · obtain rfl : c = 7 := by simpa [h4] using hc.symm
          obtain ⟨q, hq⟩ : ∃ q : Nat, bookAt s y = (q : Int) := ⟨(bookAt s y).toNat, by omega⟩
          have HB1 := Lib.hid hq
          have q0 : (0 : Int) ≤ (q : Int) := by omega
          have q2 : ¬ (q : Int) < 0 := by omega
          clear hq h4 hc hne
          go_enter Tryz.func32, Tryz.ntmps32
          go_wp2_with (first | (go_at_call 11; ((with_reducible refine (rMay_any s _ _ S1 HZ.out _ HM.out).mono ?_); rintro e' w3 ⟨rfl, bx⟩; (try clear k0 k1 k2 k3 k4 r0 r1 r2 r3 r4 t0 t1 t2 t3 t4); obtain ⟨S1, B1, B2, HB, k0, k1, k2, k3, k4, r0, r1, r2, r3, r4, t0, t1, t2, t3, t4⟩ := keepR S1 B1 B2 HB bx; clear bx)) | (go_at_call 53; ((with_reducible refine (rBook_any s _ y _ S1 ⟨HZ.out.bl, HZ.out.tl⟩).mono ?_); rintro e' w4 ⟨rfl, bx⟩; (try rw [HB1.out]); (try clear k0 k1 k2 k3 k4 r0 r1 r2 r3 r4 t0 t1 t2 t3 t4); obtain ⟨S1, B1, B2, HB, k0, k1, k2, k3, k4, r0, r1, r2, r3, r4, t0, t1, t2, t3, t4⟩ := keepR S1 B1 B2 HB bx; clear bx)) | (go_at_call 64; ((with_reducible refine (rBookName_any s _ y x _ S1 ⟨HZ.out.bl, HZ.out.tl⟩ HX.out _ HK.out).mono ?_); rintro e' w5 ⟨rfl, bx⟩; (try clear k0 k1 k2 k3 k4 r0 r1 r2 r3 r4 t0 t1 t2 t3 t4); obtain ⟨S1, B1, B2, HB, k0, k1, k2, k3, k4, r0, r1, r2, r3, r4, t0, t1, t2, t3, t4⟩ := keepR S1 B1 B2 HB bx; clear bx)))
          have B2u := z5_blk B2
          have hb2 := z5_below HB (g := w.heap.size + 1) (by omega)
          change bodyPost _ _ _ _ _ (z5 w5 (w.heap.size + 1))
          generalize z5 w5 (w.heap.size + 1) = Wd at B2u hb2 ⊢
          apply bodyPost_ret (v := .tuple #[.agg #[.int .i64 0, .int .i64 0, .int .i64 0, .slice none 0 0, .slice none 0 0], .int .i64 7])
          · exact results_cell1 Tryz.results32 _ Wd _ 25 #[.int .i64 0, .int .i64 0, .int .i64 0, .slice none 0 0, .slice none 0 0] (0, 0) _ rfl B2u Tryz.underlying25 rfl (by kernel_rfl)
          · rfl
          · exact ⟨rfl, hb2⟩
theorem rdrop_no (s : Sf) (v : Value) (y : Int) (w : World) (hS : ShR w w.heap.size v s) (hz : SzF s) (c : Int) (hc : dropC s y = c) (hne : c ≠ 0) :
    Calls Tryz.prog 34 #[v, .int .i64 y] w fun e' w' => e' = .returned (.tuple #[.agg #[.int .i64 0, .int .i64 0, .int .i64 0, .slice none 0 0, .slice none 0 0], .int .i64 c]) ∧ Below w.heap.size w w' := by
  have hS0 := hS
  obtain ⟨Ab, cb, An, cn, rfl, hB, hN, hcb, hmb, hcn, hmn⟩ := hS.ex
  clear hS
  obtain ⟨HB, B1, B2, S1⟩ := pre2 hS0
  have HZ := Lib.hid hz
  clear hS0 hB hN hcb hmb hcn hmn hz
  obtain ⟨M, hM⟩ : ∃ M, mayS s = M := ⟨_, rfl⟩
  unfold dropC at hc
  rw [hM] at hc
  have HM : Hid (rMayB s = M) := Lib.hid ((rMay_eq s).trans hM)
  clear hM
  cases M
  · obtain rfl : c = 2 := hc.symm
    clear hc hne
    go_enter Tryz.func34, Tryz.ntmps34
    go_wp2_with (first | (go_at_call 11; ((with_reducible refine (rMay_any s _ _ S1 HZ.out _ HM.out).mono ?_); rintro e' w3 ⟨rfl, bx⟩; (try clear k0 k1 k2 k3 k4 r0 r1 r2 r3 r4 t0 t1 t2 t3 t4); obtain ⟨S1, B1, B2, HB, k0, k1, k2, k3, k4, r0, r1, r2, r3, r4, t0, t1, t2, t3, t4⟩ := keepR S1 B1 B2 HB bx; clear bx)))
    have B2u := z5_blk B2
    have hb2 := z5_below HB (g := w.heap.size + 1) (by omega)
    change bodyPost _ _ _ _ _ (z5 w3 (w.heap.size + 1))
    generalize z5 w3 (w.heap.size + 1) = Wd at B2u hb2 ⊢
    apply bodyPost_ret (v := .tuple #[.agg #[.int .i64 0, .int .i64 0, .int .i64 0, .slice none 0 0, .slice none 0 0], .int .i64 2])
    · exact results_cell1 Tryz.results34 _ Wd _ 25 #[.int .i64 0, .int .i64 0, .int .i64 0, .slice none 0 0, .slice none 0 0] (0, 0) _ rfl B2u Tryz.underlying25 rfl (by kernel_rfl)
    · rfl
    · exact ⟨rfl, hb2⟩
  · by_cases h4 : bookAt s y < 0
    · obtain rfl : c = 4 := by simpa [h4] using hc.symm
      clear hc hne
      go_enter Tryz.func34, Tryz.ntmps34
      go_wp2_with (first | (go_at_call 11; ((with_reducible refine (rMay_any s _ _ S1 HZ.out _ HM.out).mono ?_); rintro e' w3 ⟨rfl, bx⟩; (try clear k0 k1 k2 k3 k4 r0 r1 r2 r3 r4 t0 t1 t2 t3 t4); obtain ⟨S1, B1, B2, HB, k0, k1, k2, k3, k4, r0, r1, r2, r3, r4, t0, t1, t2, t3, t4⟩ := keepR S1 B1 B2 HB bx; clear bx)) | (go_at_call 53; ((with_reducible refine (rBook_any s _ y _ S1 ⟨HZ.out.bl, HZ.out.tl⟩).mono ?_); rintro e' w4 ⟨rfl, bx⟩; (try rw [HB1.out]); (try clear k0 k1 k2 k3 k4 r0 r1 r2 r3 r4 t0 t1 t2 t3 t4); obtain ⟨S1, B1, B2, HB, k0, k1, k2, k3, k4, r0, r1, r2, r3, r4, t0, t1, t2, t3, t4⟩ := keepR S1 B1 B2 HB bx; clear bx)))
      have B2u := z5_blk B2
      have hb2 := z5_below HB (g := w.heap.size + 1) (by omega)
      change bodyPost _ _ _ _ _ (z5 w4 (w.heap.size + 1))
      generalize z5 w4 (w.heap.size + 1) = Wd at B2u hb2 ⊢
      apply bodyPost_ret (v := .tuple #[.agg #[.int .i64 0, .int .i64 0, .int .i64 0, .slice none 0 0, .slice none 0 0], .int .i64 4])
      · exact results_cell1 Tryz.results34 _ Wd _ 25 #[.int .i64 0, .int .i64 0, .int .i64 0, .slice none 0 0, .slice none 0 0] (0, 0) _ rfl B2u Tryz.underlying25 rfl (by kernel_rfl)
      · rfl
      · exact ⟨rfl, hb2⟩
    · exact absurd (by simpa [h4] using hc.symm) hne
theorem rdisc_no (s : Sf) (v : Value) (y : Int) (w : World) (hS : ShR w w.heap.size v s) (hz : SzF s) (c : Int) (hc : discC s y = c) (hne : c ≠ 0) :
    Calls Tryz.prog 42 #[v, .int .i64 y] w fun e' w' => e' = .returned (.tuple #[.agg #[.int .i64 0, .int .i64 0, .int .i64 0, .slice none 0 0, .slice none 0 0], .int .i64 c]) ∧ Below w.heap.size w w' := by
  have hS0 := hS
  obtain ⟨Ab, cb, An, cn, rfl, hB, hN, hcb, hmb, hcn, hmn⟩ := hS.ex
  clear hS
  obtain ⟨HB, B1, B2, S1⟩ := pre2 hS0
  have HZ := Lib.hid hz
  clear hS0 hB hN hcb hmb hcn hmn hz
  obtain ⟨M, hM⟩ : ∃ M, mayS s = M := ⟨_, rfl⟩
  unfold discC at hc
  rw [hM] at hc
  have HM : Hid (rMayB s = M) := Lib.hid ((rMay_eq s).trans hM)
  clear hM
  cases M
  · obtain rfl : c = 2 := hc.symm
    clear hc hne
    go_enter Tryz.func42, Tryz.ntmps42
    go_wp2_with (first | (go_at_call 11; ((with_reducible refine (rMay_any s _ _ S1 HZ.out _ HM.out).mono ?_); rintro e' w3 ⟨rfl, bx⟩; (try clear k0 k1 k2 k3 k4 r0 r1 r2 r3 r4 t0 t1 t2 t3 t4); obtain ⟨S1, B1, B2, HB, k0, k1, k2, k3, k4, r0, r1, r2, r3, r4, t0, t1, t2, t3, t4⟩ := keepR S1 B1 B2 HB bx; clear bx)))
    have B2u := z5_blk B2
    have hb2 := z5_below HB (g := w.heap.size + 1) (by omega)
    change bodyPost _ _ _ _ _ (z5 w3 (w.heap.size + 1))
    generalize z5 w3 (w.heap.size + 1) = Wd at B2u hb2 ⊢
    apply bodyPost_ret (v := .tuple #[.agg #[.int .i64 0, .int .i64 0, .int .i64 0, .slice none 0 0, .slice none 0 0], .int .i64 2])
    · exact results_cell1 Tryz.results42 _ Wd _ 25 #[.int .i64 0, .int .i64 0, .int .i64 0, .slice none 0 0, .slice none 0 0] (0, 0) _ rfl B2u Tryz.underlying25 rfl (by kernel_rfl)
    · rfl
    · exact ⟨rfl, hb2⟩
  · by_cases h4 : noteAt s y < 0
    · obtain rfl : c = 4 := by simpa [h4] using hc.symm
      clear hc hne
      go_enter Tryz.func42, Tryz.ntmps42
      go_wp2_with (first | (go_at_call 11; ((with_reducible refine (rMay_any s _ _ S1 HZ.out _ HM.out).mono ?_); rintro e' w3 ⟨rfl, bx⟩; (try clear k0 k1 k2 k3 k4 r0 r1 r2 r3 r4 t0 t1 t2 t3 t4); obtain ⟨S1, B1, B2, HB, k0, k1, k2, k3, k4, r0, r1, r2, r3, r4, t0, t1, t2, t3, t4⟩ := keepR S1 B1 B2 HB bx; clear bx)) | (go_at_call 57; ((with_reducible refine (rNote_any s _ y _ S1 ⟨HZ.out.bl, HZ.out.tl⟩).mono ?_); rintro e' w4 ⟨rfl, bx⟩; (try rw [HB1.out]); (try clear k0 k1 k2 k3 k4 r0 r1 r2 r3 r4 t0 t1 t2 t3 t4); obtain ⟨S1, B1, B2, HB, k0, k1, k2, k3, k4, r0, r1, r2, r3, r4, t0, t1, t2, t3, t4⟩ := keepR S1 B1 B2 HB bx; clear bx)))
      have B2u := z5_blk B2
      have hb2 := z5_below HB (g := w.heap.size + 1) (by omega)
      change bodyPost _ _ _ _ _ (z5 w4 (w.heap.size + 1))
      generalize z5 w4 (w.heap.size + 1) = Wd at B2u hb2 ⊢
      apply bodyPost_ret (v := .tuple #[.agg #[.int .i64 0, .int .i64 0, .int .i64 0, .slice none 0 0, .slice none 0 0], .int .i64 4])
      · exact results_cell1 Tryz.results42 _ Wd _ 25 #[.int .i64 0, .int .i64 0, .int .i64 0, .slice none 0 0, .slice none 0 0] (0, 0) _ rfl B2u Tryz.underlying25 rfl (by kernel_rfl)
      · rfl
      · exact ⟨rfl, hb2⟩
    · exact absurd (by simpa [h4] using hc.symm) hne
end Go.Proofs.YtokhapafpjejaaaGreatDoor
namespace Go.Proofs.YtokhapafpjejaaaGreatDoor
open Go.ChangeShapes Go.WideShapes Go.ChangeAt Go.RowKit
attribute [local go_sem ↓] Go.wp_at_zero Go.wp_at_succ
theorem note_no (s : Sf) (v : Value) (z : Int) (x : ByteArray) (w : World) (hS : ShR w w.heap.size v s) (hT : Tabs w) (c : Int) (hc : noteC s z x = c) (hne : c ≠ 0) :
    Calls Tryz.prog 35 #[v, .int .i64 z, .string x] w fun e' w' => e' = .returned (.tuple #[.agg #[.int .i64 0, .int .i64 0, .int .i64 0, .slice none 0 0, .slice none 0 0], .int .i64 0, .int .i64 c]) ∧ Below w.heap.size w w' := by
  have hS0 := hS
  obtain ⟨Ab, cb, An, cn, rfl, hB, hN, hcb, hmb, hcn, hmn⟩ := hS.ex
  clear hS
  obtain ⟨HB, B1, B2, S1⟩ := pre2 hS0
  have T1 := hT.next HB
  clear hS0 hT hB hN hcb hmb hcn hmn
  obtain ⟨M, hM⟩ : ∃ M, mayS s = M := ⟨_, rfl⟩
  obtain ⟨I, hI⟩ : ∃ I, bookAt s z = I := ⟨_, rfl⟩
  obtain ⟨N, hN⟩ : ∃ N, mayN x = N := ⟨_, rfl⟩
  obtain ⟨K_, hK⟩ : ∃ K, noteTk s z x 0 = K := ⟨_, rfl⟩
  unfold noteC at hc
  rw [hM, hI, hN, hK] at hc
  have HM := Lib.hid hM
  have HI := Lib.hid hI
  have HN : Hid (nameB x.data.toList = N) := Lib.hid hN
  have HK := Lib.hid hK
  clear hM hN hK hI
  obtain ⟨n, hn⟩ : ∃ n, s.ts.length = n := ⟨_, rfl⟩
  have hf : fullN s = (decide (12 ≤ n) || decide (65536 ≤ s.nn)) := by unfold fullN; rw [hn]
  rw [hf] at hc
  rw [hn] at HB B1 S1 T1 B2 ⊢
  clear hf hn
  cases M
  · obtain rfl : c = 2 := hc.symm
    clear hc hne
    go_enter Tryz.func35, Tryz.ntmps35
    go_wp2_with (first | (go_at_call 10; ((with_reducible refine (smay_any s _ _ S1 T1 _ HM.out).mono ?_); rintro e' w3 ⟨rfl, bx⟩; (try clear k0 k1 k2 k3 k4 r0 r1 r2 r3 r4 t0 t1 t2 t3 t4); obtain ⟨S1, T1, B1, B2, HB, k0, k1, k2, k3, k4, r0, r1, r2, r3, r4, t0, t1, t2, t3, t4⟩ := keepT S1 T1 B1 B2 HB bx; clear bx)))
    have B2u := z5_blk B2
    have hb2 := z5_below HB (g := w.heap.size + 1) (by omega)
    change bodyPost _ _ _ _ _ (z5 w3 (w.heap.size + 1))
    generalize z5 w3 (w.heap.size + 1) = Wd at B2u hb2 ⊢
    apply bodyPost_ret (v := .tuple #[.agg #[.int .i64 0, .int .i64 0, .int .i64 0, .slice none 0 0, .slice none 0 0], .int .i64 0, .int .i64 2])
    · exact results_cell2 Tryz.results35 _ Wd _ 25 #[.int .i64 0, .int .i64 0, .int .i64 0, .slice none 0 0, .slice none 0 0] (0, 0) _ rfl B2u Tryz.underlying25 rfl (by kernel_rfl)
    · rfl
    · exact ⟨rfl, hb2⟩
  · by_cases hi : I < 0
    · obtain rfl : c = 4 := by simpa [hi] using hc.symm
      clear hc hne
      go_enter Tryz.func35, Tryz.ntmps35
      go_wp2_with (first | (go_at_call 10; ((with_reducible refine (smay_any s _ _ S1 T1 _ HM.out).mono ?_); rintro e' w3 ⟨rfl, bx⟩; (try clear k0 k1 k2 k3 k4 r0 r1 r2 r3 r4 t0 t1 t2 t3 t4); obtain ⟨S1, T1, B1, B2, HB, k0, k1, k2, k3, k4, r0, r1, r2, r3, r4, t0, t1, t2, t3, t4⟩ := keepT S1 T1 B1 B2 HB bx; clear bx)) | (go_at_call 52; ((with_reducible refine (pBook_any s _ z _ S1).mono ?_); rintro e' w4 ⟨rfl, bx⟩; rw [HI.out]; (try clear k0 k1 k2 k3 k4 r0 r1 r2 r3 r4 t0 t1 t2 t3 t4); obtain ⟨S1, T1, B1, B2, HB, k0, k1, k2, k3, k4, r0, r1, r2, r3, r4, t0, t1, t2, t3, t4⟩ := keepT S1 T1 B1 B2 HB bx; clear bx)))
      have B2u := z5_blk B2
      have hb2 := z5_below HB (g := w.heap.size + 1) (by omega)
      change bodyPost _ _ _ _ _ (z5 w4 (w.heap.size + 1))
      generalize z5 w4 (w.heap.size + 1) = Wd at B2u hb2 ⊢
      apply bodyPost_ret (v := .tuple #[.agg #[.int .i64 0, .int .i64 0, .int .i64 0, .slice none 0 0, .slice none 0 0], .int .i64 0, .int .i64 4])
      · exact results_cell2 Tryz.results35 _ Wd _ 25 #[.int .i64 0, .int .i64 0, .int .i64 0, .slice none 0 0, .slice none 0 0] (0, 0) _ rfl B2u Tryz.underlying25 rfl (by kernel_rfl)
      · rfl
      · exact ⟨rfl, hb2⟩
    · cases N
      · obtain rfl : c = 6 := by simpa [hi] using hc.symm
        clear hc hne
        go_enter Tryz.func35, Tryz.ntmps35
        go_wp2_with (first | (go_at_call 10; ((with_reducible refine (smay_any s _ _ S1 T1 _ HM.out).mono ?_); rintro e' w3 ⟨rfl, bx⟩; (try clear k0 k1 k2 k3 k4 r0 r1 r2 r3 r4 t0 t1 t2 t3 t4); obtain ⟨S1, T1, B1, B2, HB, k0, k1, k2, k3, k4, r0, r1, r2, r3, r4, t0, t1, t2, t3, t4⟩ := keepT S1 T1 B1 B2 HB bx; clear bx)) | (go_at_call 52; ((with_reducible refine (pBook_any s _ z _ S1).mono ?_); rintro e' w4 ⟨rfl, bx⟩; rw [HI.out]; (try clear k0 k1 k2 k3 k4 r0 r1 r2 r3 r4 t0 t1 t2 t3 t4); obtain ⟨S1, T1, B1, B2, HB, k0, k1, k2, k3, k4, r0, r1, r2, r3, r4, t0, t1, t2, t3, t4⟩ := keepT S1 T1 B1 B2 HB bx; clear bx)) | (go_at_call 61; ((with_reducible refine (nmay_any x _ _ T1 HN.out).mono ?_); rintro e' w5 ⟨rfl, bx⟩; (try clear k0 k1 k2 k3 k4 r0 r1 r2 r3 r4 t0 t1 t2 t3 t4); obtain ⟨S1, T1, B1, B2, HB, k0, k1, k2, k3, k4, r0, r1, r2, r3, r4, t0, t1, t2, t3, t4⟩ := keepT S1 T1 B1 B2 HB bx; clear bx)))
        have B2u := z5_blk B2
        have hb2 := z5_below HB (g := w.heap.size + 1) (by omega)
        change bodyPost _ _ _ _ _ (z5 w5 (w.heap.size + 1))
        generalize z5 w5 (w.heap.size + 1) = Wd at B2u hb2 ⊢
        apply bodyPost_ret (v := .tuple #[.agg #[.int .i64 0, .int .i64 0, .int .i64 0, .slice none 0 0, .slice none 0 0], .int .i64 0, .int .i64 6])
        · exact results_cell2 Tryz.results35 _ Wd _ 25 #[.int .i64 0, .int .i64 0, .int .i64 0, .slice none 0 0, .slice none 0 0] (0, 0) _ rfl B2u Tryz.underlying25 rfl (by kernel_rfl)
        · rfl
        · exact ⟨rfl, hb2⟩
      · cases K_
        · by_cases h6 : 12 ≤ n
          · obtain rfl : c = 3 := by simpa [hi, h6] using hc.symm
            have g6 : (12 : Int) ≤ (n : Int) := by omega
            clear hc hne h6
            go_enter Tryz.func35, Tryz.ntmps35
            go_wp2_with (first | (go_at_call 10; ((with_reducible refine (smay_any s _ _ S1 T1 _ HM.out).mono ?_); rintro e' w3 ⟨rfl, bx⟩; (try clear k0 k1 k2 k3 k4 r0 r1 r2 r3 r4 t0 t1 t2 t3 t4); obtain ⟨S1, T1, B1, B2, HB, k0, k1, k2, k3, k4, r0, r1, r2, r3, r4, t0, t1, t2, t3, t4⟩ := keepT S1 T1 B1 B2 HB bx; clear bx)) | (go_at_call 52; ((with_reducible refine (pBook_any s _ z _ S1).mono ?_); rintro e' w4 ⟨rfl, bx⟩; rw [HI.out]; (try clear k0 k1 k2 k3 k4 r0 r1 r2 r3 r4 t0 t1 t2 t3 t4); obtain ⟨S1, T1, B1, B2, HB, k0, k1, k2, k3, k4, r0, r1, r2, r3, r4, t0, t1, t2, t3, t4⟩ := keepT S1 T1 B1 B2 HB bx; clear bx)) | (go_at_call 61; ((with_reducible refine (nmay_any x _ _ T1 HN.out).mono ?_); rintro e' w5 ⟨rfl, bx⟩; (try clear k0 k1 k2 k3 k4 r0 r1 r2 r3 r4 t0 t1 t2 t3 t4); obtain ⟨S1, T1, B1, B2, HB, k0, k1, k2, k3, k4, r0, r1, r2, r3, r4, t0, t1, t2, t3, t4⟩ := keepT S1 T1 B1 B2 HB bx; clear bx)) | (go_at_call 69; ((with_reducible refine (nTaken_any s _ z x _ _ S1 _ HK.out).mono ?_); rintro e' w6 ⟨rfl, bx⟩; (try clear k0 k1 k2 k3 k4 r0 r1 r2 r3 r4 t0 t1 t2 t3 t4); obtain ⟨S1, T1, B1, B2, HB, k0, k1, k2, k3, k4, r0, r1, r2, r3, r4, t0, t1, t2, t3, t4⟩ := keepT S1 T1 B1 B2 HB bx; clear bx)))
            have B2u := z5_blk B2
            have hb2 := z5_below HB (g := w.heap.size + 1) (by omega)
            change bodyPost _ _ _ _ _ (z5 w6 (w.heap.size + 1))
            generalize z5 w6 (w.heap.size + 1) = Wd at B2u hb2 ⊢
            apply bodyPost_ret (v := .tuple #[.agg #[.int .i64 0, .int .i64 0, .int .i64 0, .slice none 0 0, .slice none 0 0], .int .i64 0, .int .i64 3])
            · exact results_cell2 Tryz.results35 _ Wd _ 25 #[.int .i64 0, .int .i64 0, .int .i64 0, .slice none 0 0, .slice none 0 0] (0, 0) _ rfl B2u Tryz.underlying25 rfl (by kernel_rfl)
            · rfl
            · exact ⟨rfl, hb2⟩
          · by_cases h7 : 65536 ≤ s.nn
            · obtain rfl : c = 3 := by simpa [hi, h6, h7] using hc.symm
              have g6 : ¬ (12 : Int) ≤ (n : Int) := by omega
              clear hc hne h6
              go_enter Tryz.func35, Tryz.ntmps35
              go_wp2_with (first | (go_at_call 10; ((with_reducible refine (smay_any s _ _ S1 T1 _ HM.out).mono ?_); rintro e' w3 ⟨rfl, bx⟩; (try clear k0 k1 k2 k3 k4 r0 r1 r2 r3 r4 t0 t1 t2 t3 t4); obtain ⟨S1, T1, B1, B2, HB, k0, k1, k2, k3, k4, r0, r1, r2, r3, r4, t0, t1, t2, t3, t4⟩ := keepT S1 T1 B1 B2 HB bx; clear bx)) | (go_at_call 52; ((with_reducible refine (pBook_any s _ z _ S1).mono ?_); rintro e' w4 ⟨rfl, bx⟩; rw [HI.out]; (try clear k0 k1 k2 k3 k4 r0 r1 r2 r3 r4 t0 t1 t2 t3 t4); obtain ⟨S1, T1, B1, B2, HB, k0, k1, k2, k3, k4, r0, r1, r2, r3, r4, t0, t1, t2, t3, t4⟩ := keepT S1 T1 B1 B2 HB bx; clear bx)) | (go_at_call 61; ((with_reducible refine (nmay_any x _ _ T1 HN.out).mono ?_); rintro e' w5 ⟨rfl, bx⟩; (try clear k0 k1 k2 k3 k4 r0 r1 r2 r3 r4 t0 t1 t2 t3 t4); obtain ⟨S1, T1, B1, B2, HB, k0, k1, k2, k3, k4, r0, r1, r2, r3, r4, t0, t1, t2, t3, t4⟩ := keepT S1 T1 B1 B2 HB bx; clear bx)) | (go_at_call 69; ((with_reducible refine (nTaken_any s _ z x _ _ S1 _ HK.out).mono ?_); rintro e' w6 ⟨rfl, bx⟩; (try clear k0 k1 k2 k3 k4 r0 r1 r2 r3 r4 t0 t1 t2 t3 t4); obtain ⟨S1, T1, B1, B2, HB, k0, k1, k2, k3, k4, r0, r1, r2, r3, r4, t0, t1, t2, t3, t4⟩ := keepT S1 T1 B1 B2 HB bx; clear bx)))
              have B2u := z5_blk B2
              have hb2 := z5_below HB (g := w.heap.size + 1) (by omega)
              change bodyPost _ _ _ _ _ (z5 w6 (w.heap.size + 1))
              generalize z5 w6 (w.heap.size + 1) = Wd at B2u hb2 ⊢
              apply bodyPost_ret (v := .tuple #[.agg #[.int .i64 0, .int .i64 0, .int .i64 0, .slice none 0 0, .slice none 0 0], .int .i64 0, .int .i64 3])
              · exact results_cell2 Tryz.results35 _ Wd _ 25 #[.int .i64 0, .int .i64 0, .int .i64 0, .slice none 0 0, .slice none 0 0] (0, 0) _ rfl B2u Tryz.underlying25 rfl (by kernel_rfl)
              · rfl
              · exact ⟨rfl, hb2⟩
            · exact absurd (by simpa [hi, h6, h7] using hc.symm) hne
        · obtain rfl : c = 7 := by simpa [hi] using hc.symm
          clear hc hne
          go_enter Tryz.func35, Tryz.ntmps35
          go_wp2_with (first | (go_at_call 10; ((with_reducible refine (smay_any s _ _ S1 T1 _ HM.out).mono ?_); rintro e' w3 ⟨rfl, bx⟩; (try clear k0 k1 k2 k3 k4 r0 r1 r2 r3 r4 t0 t1 t2 t3 t4); obtain ⟨S1, T1, B1, B2, HB, k0, k1, k2, k3, k4, r0, r1, r2, r3, r4, t0, t1, t2, t3, t4⟩ := keepT S1 T1 B1 B2 HB bx; clear bx)) | (go_at_call 52; ((with_reducible refine (pBook_any s _ z _ S1).mono ?_); rintro e' w4 ⟨rfl, bx⟩; rw [HI.out]; (try clear k0 k1 k2 k3 k4 r0 r1 r2 r3 r4 t0 t1 t2 t3 t4); obtain ⟨S1, T1, B1, B2, HB, k0, k1, k2, k3, k4, r0, r1, r2, r3, r4, t0, t1, t2, t3, t4⟩ := keepT S1 T1 B1 B2 HB bx; clear bx)) | (go_at_call 61; ((with_reducible refine (nmay_any x _ _ T1 HN.out).mono ?_); rintro e' w5 ⟨rfl, bx⟩; (try clear k0 k1 k2 k3 k4 r0 r1 r2 r3 r4 t0 t1 t2 t3 t4); obtain ⟨S1, T1, B1, B2, HB, k0, k1, k2, k3, k4, r0, r1, r2, r3, r4, t0, t1, t2, t3, t4⟩ := keepT S1 T1 B1 B2 HB bx; clear bx)) | (go_at_call 69; ((with_reducible refine (nTaken_any s _ z x _ _ S1 _ HK.out).mono ?_); rintro e' w6 ⟨rfl, bx⟩; (try clear k0 k1 k2 k3 k4 r0 r1 r2 r3 r4 t0 t1 t2 t3 t4); obtain ⟨S1, T1, B1, B2, HB, k0, k1, k2, k3, k4, r0, r1, r2, r3, r4, t0, t1, t2, t3, t4⟩ := keepT S1 T1 B1 B2 HB bx; clear bx)))
          have B2u := z5_blk B2
          have hb2 := z5_below HB (g := w.heap.size + 1) (by omega)
          change bodyPost _ _ _ _ _ (z5 w6 (w.heap.size + 1))
          generalize z5 w6 (w.heap.size + 1) = Wd at B2u hb2 ⊢
          apply bodyPost_ret (v := .tuple #[.agg #[.int .i64 0, .int .i64 0, .int .i64 0, .slice none 0 0, .slice none 0 0], .int .i64 0, .int .i64 7])
          · exact results_cell2 Tryz.results35 _ Wd _ 25 #[.int .i64 0, .int .i64 0, .int .i64 0, .slice none 0 0, .slice none 0 0] (0, 0) _ rfl B2u Tryz.underlying25 rfl (by kernel_rfl)
          · rfl
          · exact ⟨rfl, hb2⟩
theorem make_all (s : Sf) (v : Value) (x : ByteArray) (w : World) (hS : ShR w w.heap.size v s) (hT : Tabs w) (c : Int) (hc : makeC s x = c) (N : Int) (hN : cond (c == 0) s.nb 0 = N) (T : Sf) (hR : cond (c == 0) (makeS s x) zeroSf = T) :
    Calls Tryz.prog 29 #[v, .string x] w fun e' w' => ∃ va, e' = .returned (.tuple #[va, .int .i64 N, .int .i64 c]) ∧ ShW w' w.heap.size va T ∧ Below w.heap.size w w' := by
  by_cases h0 : c = 0
  · subst h0
    have hR' : makeS s x = T := hR
    subst hR'
    have hN' : s.nb = N := hN
    subst hN'
    exact (make_yes s v x w hS hT hc).mono fun e' w' ⟨v', h1, h2, h3⟩ => ⟨v', h1, h2, h3⟩
  · have hb : (c == 0) = false := by simpa using h0
    rw [hb] at hR
    have hR' : zeroSf = T := hR
    subst hR'
    rw [hb] at hN
    have hN' : (0 : Int) = N := hN
    subst hN'
    exact (make_no s v x w hS hT c hc h0).mono fun e' w' ⟨h1, h2⟩ => ⟨_, h1, zeroW _ _, h2⟩
theorem rmake_all (s : Sf) (v : Value) (x : ByteArray) (w : World) (hS : ShR w w.heap.size v s) (hz : SzF s) (hx : x.size ≤ 100000) (c : Int) (hc : makeC s x = c) (N : Int) (hN : cond (c == 0) s.nb 0 = N) (T : Sf) (hR : cond (c == 0) (makeS s x) zeroSf = T) :
    Calls Tryz.prog 30 #[v, .string x] w fun e' w' => ∃ va, e' = .returned (.tuple #[va, .int .i64 N, .int .i64 c]) ∧ ShW w' w.heap.size va T ∧ Below w.heap.size w w' := by
  by_cases h0 : c = 0
  · subst h0
    have hR' : makeS s x = T := hR
    subst hR'
    have hN' : s.nb = N := hN
    subst hN'
    exact (rmake_yes s v x w hS hz hx hc).mono fun e' w' ⟨v', h1, h2, h3⟩ => ⟨v', h1, h2, h3⟩
  · have hb : (c == 0) = false := by simpa using h0
    rw [hb] at hR
    have hR' : zeroSf = T := hR
    subst hR'
    rw [hb] at hN
    have hN' : (0 : Int) = N := hN
    subst hN'
    exact (rmake_no s v x w hS hz hx c hc h0).mono fun e' w' ⟨h1, h2⟩ => ⟨_, h1, zeroW _ _, h2⟩
theorem ren_all (s : Sf) (v : Value) (y : Int) (x : ByteArray) (w : World) (hS : ShR w w.heap.size v s) (hT : Tabs w) (c : Int) (hc : renC s y x = c) (T : Sf) (hR : cond (c == 0) (renS s y x) zeroSf = T) :
    Calls Tryz.prog 31 #[v, .int .i64 y, .string x] w fun e' w' => ∃ va, e' = .returned (.tuple #[va, .int .i64 c]) ∧ ShW w' w.heap.size va T ∧ Below w.heap.size w w' := by
  by_cases h0 : c = 0
  · subst h0
    have hR' : renS s y x = T := hR
    subst hR'
    exact (ren_yes s v y x w hS hT hc).mono fun e' w' ⟨v', h1, h2, h3⟩ => ⟨v', h1, h2, h3⟩
  · have hb : (c == 0) = false := by simpa using h0
    rw [hb] at hR
    have hR' : zeroSf = T := hR
    subst hR'
    exact (ren_no s v y x w hS hT c hc h0).mono fun e' w' ⟨h1, h2⟩ => ⟨_, h1, zeroW _ _, h2⟩
theorem rren_all (s : Sf) (v : Value) (y : Int) (x : ByteArray) (w : World) (hS : ShR w w.heap.size v s) (hz : SzF s) (hx : x.size ≤ 100000) (c : Int) (hc : renC s y x = c) (T : Sf) (hR : cond (c == 0) (renS s y x) zeroSf = T) :
    Calls Tryz.prog 32 #[v, .int .i64 y, .string x] w fun e' w' => ∃ va, e' = .returned (.tuple #[va, .int .i64 c]) ∧ ShW w' w.heap.size va T ∧ Below w.heap.size w w' := by
  by_cases h0 : c = 0
  · subst h0
    have hR' : renS s y x = T := hR
    subst hR'
    exact (rren_yes s v y x w hS hz hx hc).mono fun e' w' ⟨v', h1, h2, h3⟩ => ⟨v', h1, h2, h3⟩
  · have hb : (c == 0) = false := by simpa using h0
    rw [hb] at hR
    have hR' : zeroSf = T := hR
    subst hR'
    exact (rren_no s v y x w hS hz hx c hc h0).mono fun e' w' ⟨h1, h2⟩ => ⟨_, h1, zeroW _ _, h2⟩
theorem drop_all (s : Sf) (v : Value) (y : Int) (w : World) (hS : ShR w w.heap.size v s) (hT : Tabs w) (c : Int) (hc : dropC s y = c) (T : Sf) (hR : cond (c == 0) (dropS s y) zeroSf = T) :
    Calls Tryz.prog 33 #[v, .int .i64 y] w fun e' w' => ∃ va, e' = .returned (.tuple #[va, .int .i64 c]) ∧ ShW w' w.heap.size va T ∧ Below w.heap.size w w' := by
  by_cases h0 : c = 0
  · subst h0
    have hR' : dropS s y = T := hR
    subst hR'
    exact (drop_yes s v y w hS hT hc).mono fun e' w' ⟨v', h1, h2, h3⟩ => ⟨v', h1, h2, h3⟩
  · have hb : (c == 0) = false := by simpa using h0
    rw [hb] at hR
    have hR' : zeroSf = T := hR
    subst hR'
    exact (drop_no s v y w hS hT c hc h0).mono fun e' w' ⟨h1, h2⟩ => ⟨_, h1, zeroW _ _, h2⟩
theorem rdrop_all (s : Sf) (v : Value) (y : Int) (w : World) (hS : ShR w w.heap.size v s) (hz : SzF s) (c : Int) (hc : dropC s y = c) (T : Sf) (hR : cond (c == 0) (dropS s y) zeroSf = T) :
    Calls Tryz.prog 34 #[v, .int .i64 y] w fun e' w' => ∃ va, e' = .returned (.tuple #[va, .int .i64 c]) ∧ ShW w' w.heap.size va T ∧ Below w.heap.size w w' := by
  by_cases h0 : c = 0
  · subst h0
    have hR' : dropS s y = T := hR
    subst hR'
    exact (rdrop_yes s v y w hS hz hc).mono fun e' w' ⟨v', h1, h2, h3⟩ => ⟨v', h1, h2, h3⟩
  · have hb : (c == 0) = false := by simpa using h0
    rw [hb] at hR
    have hR' : zeroSf = T := hR
    subst hR'
    exact (rdrop_no s v y w hS hz c hc h0).mono fun e' w' ⟨h1, h2⟩ => ⟨_, h1, zeroW _ _, h2⟩
theorem note_all (s : Sf) (v : Value) (z : Int) (x : ByteArray) (w : World) (hS : ShR w w.heap.size v s) (hT : Tabs w) (c : Int) (hc : noteC s z x = c) (N : Int) (hN : cond (c == 0) s.nn 0 = N) (T : Sf) (hR : cond (c == 0) (noteS s z x) zeroSf = T) :
    Calls Tryz.prog 35 #[v, .int .i64 z, .string x] w fun e' w' => ∃ va, e' = .returned (.tuple #[va, .int .i64 N, .int .i64 c]) ∧ ShW w' w.heap.size va T ∧ Below w.heap.size w w' := by
  by_cases h0 : c = 0
  · subst h0
    have hR' : noteS s z x = T := hR
    subst hR'
    have hN' : s.nn = N := hN
    subst hN'
    exact (note_yes s v z x w hS hT hc).mono fun e' w' ⟨v', h1, h2, h3⟩ => ⟨v', h1, h2, h3⟩
  · have hb : (c == 0) = false := by simpa using h0
    rw [hb] at hR
    have hR' : zeroSf = T := hR
    subst hR'
    rw [hb] at hN
    have hN' : (0 : Int) = N := hN
    subst hN'
    exact (note_no s v z x w hS hT c hc h0).mono fun e' w' ⟨h1, h2⟩ => ⟨_, h1, zeroW _ _, h2⟩
theorem radd_all (s : Sf) (v : Value) (z : Int) (x : ByteArray) (w : World) (hS : ShR w w.heap.size v s) (hz : SzF s) (hx : x.size ≤ 100000) (c : Int) (hc : noteC s z x = c) (N : Int) (hN : cond (c == 0) s.nn 0 = N) (T : Sf) (hR : cond (c == 0) (noteS s z x) zeroSf = T) :
    Calls Tryz.prog 36 #[v, .int .i64 z, .string x] w fun e' w' => ∃ va, e' = .returned (.tuple #[va, .int .i64 N, .int .i64 c]) ∧ ShW w' w.heap.size va T ∧ Below w.heap.size w w' := by
  by_cases h0 : c = 0
  · subst h0
    have hR' : noteS s z x = T := hR
    subst hR'
    have hN' : s.nn = N := hN
    subst hN'
    exact (radd_yes s v z x w hS hz hx hc).mono fun e' w' ⟨v', h1, h2, h3⟩ => ⟨v', h1, h2, h3⟩
  · have hb : (c == 0) = false := by simpa using h0
    rw [hb] at hR
    have hR' : zeroSf = T := hR
    subst hR'
    rw [hb] at hN
    have hN' : (0 : Int) = N := hN
    subst hN'
    exact (radd_no s v z x w hS hz hx c hc h0).mono fun e' w' ⟨h1, h2⟩ => ⟨_, h1, zeroW _ _, h2⟩
theorem ret_all (s : Sf) (v : Value) (y : Int) (x : ByteArray) (w : World) (hS : ShR w w.heap.size v s) (hT : Tabs w) (c : Int) (hc : retC s y x = c) (T : Sf) (hR : cond (c == 0) (retS s y x) zeroSf = T) :
    Calls Tryz.prog 37 #[v, .int .i64 y, .string x] w fun e' w' => ∃ va, e' = .returned (.tuple #[va, .int .i64 c]) ∧ ShW w' w.heap.size va T ∧ Below w.heap.size w w' := by
  by_cases h0 : c = 0
  · subst h0
    have hR' : retS s y x = T := hR
    subst hR'
    exact (ret_yes s v y x w hS hT hc).mono fun e' w' ⟨v', h1, h2, h3⟩ => ⟨v', h1, h2, h3⟩
  · have hb : (c == 0) = false := by simpa using h0
    rw [hb] at hR
    have hR' : zeroSf = T := hR
    subst hR'
    exact (ret_no s v y x w hS hT c hc h0).mono fun e' w' ⟨h1, h2⟩ => ⟨_, h1, zeroW _ _, h2⟩
theorem rret_all (s : Sf) (v : Value) (y : Int) (x : ByteArray) (w : World) (hS : ShR w w.heap.size v s) (hz : SzF s) (hx : x.size ≤ 100000) (c : Int) (hc : retC s y x = c) (T : Sf) (hR : cond (c == 0) (retS s y x) zeroSf = T) :
    Calls Tryz.prog 38 #[v, .int .i64 y, .string x] w fun e' w' => ∃ va, e' = .returned (.tuple #[va, .int .i64 c]) ∧ ShW w' w.heap.size va T ∧ Below w.heap.size w w' := by
  by_cases h0 : c = 0
  · subst h0
    have hR' : retS s y x = T := hR
    subst hR'
    exact (rret_yes s v y x w hS hz hx hc).mono fun e' w' ⟨v', h1, h2, h3⟩ => ⟨v', h1, h2, h3⟩
  · have hb : (c == 0) = false := by simpa using h0
    rw [hb] at hR
    have hR' : zeroSf = T := hR
    subst hR'
    exact (rret_no s v y x w hS hz hx c hc h0).mono fun e' w' ⟨h1, h2⟩ => ⟨_, h1, zeroW _ _, h2⟩
theorem mov_all (s : Sf) (v : Value) (y : Int) (z : Int) (w : World) (hS : ShR w w.heap.size v s) (hT : Tabs w) (c : Int) (hc : movC s y z = c) (T : Sf) (hR : cond (c == 0) (movS s y z) zeroSf = T) :
    Calls Tryz.prog 39 #[v, .int .i64 y, .int .i64 z] w fun e' w' => ∃ va, e' = .returned (.tuple #[va, .int .i64 c]) ∧ ShW w' w.heap.size va T ∧ Below w.heap.size w w' := by
  by_cases h0 : c = 0
  · subst h0
    have hR' : movS s y z = T := hR
    subst hR'
    exact (mov_yes s v y z w hS hT hc).mono fun e' w' ⟨v', h1, h2, h3⟩ => ⟨v', h1, h2, h3⟩
  · have hb : (c == 0) = false := by simpa using h0
    rw [hb] at hR
    have hR' : zeroSf = T := hR
    subst hR'
    exact (mov_no s v y z w hS hT c hc h0).mono fun e' w' ⟨h1, h2⟩ => ⟨_, h1, zeroW _ _, h2⟩
theorem rmov_all (s : Sf) (v : Value) (y : Int) (z : Int) (w : World) (hS : ShR w w.heap.size v s) (hz : SzF s) (c : Int) (hc : movC s y z = c) (T : Sf) (hR : cond (c == 0) (movS s y z) zeroSf = T) :
    Calls Tryz.prog 40 #[v, .int .i64 y, .int .i64 z] w fun e' w' => ∃ va, e' = .returned (.tuple #[va, .int .i64 c]) ∧ ShW w' w.heap.size va T ∧ Below w.heap.size w w' := by
  by_cases h0 : c = 0
  · subst h0
    have hR' : movS s y z = T := hR
    subst hR'
    exact (rmov_yes s v y z w hS hz hc).mono fun e' w' ⟨v', h1, h2, h3⟩ => ⟨v', h1, h2, h3⟩
  · have hb : (c == 0) = false := by simpa using h0
    rw [hb] at hR
    have hR' : zeroSf = T := hR
    subst hR'
    exact (rmov_no s v y z w hS hz c hc h0).mono fun e' w' ⟨h1, h2⟩ => ⟨_, h1, zeroW _ _, h2⟩
theorem disc_all (s : Sf) (v : Value) (y : Int) (w : World) (hS : ShR w w.heap.size v s) (hT : Tabs w) (c : Int) (hc : discC s y = c) (T : Sf) (hR : cond (c == 0) (discS s y) zeroSf = T) :
    Calls Tryz.prog 41 #[v, .int .i64 y] w fun e' w' => ∃ va, e' = .returned (.tuple #[va, .int .i64 c]) ∧ ShW w' w.heap.size va T ∧ Below w.heap.size w w' := by
  by_cases h0 : c = 0
  · subst h0
    have hR' : discS s y = T := hR
    subst hR'
    exact (disc_yes s v y w hS hT hc).mono fun e' w' ⟨v', h1, h2, h3⟩ => ⟨v', h1, h2, h3⟩
  · have hb : (c == 0) = false := by simpa using h0
    rw [hb] at hR
    have hR' : zeroSf = T := hR
    subst hR'
    exact (disc_no s v y w hS hT c hc h0).mono fun e' w' ⟨h1, h2⟩ => ⟨_, h1, zeroW _ _, h2⟩
theorem rdisc_all (s : Sf) (v : Value) (y : Int) (w : World) (hS : ShR w w.heap.size v s) (hz : SzF s) (c : Int) (hc : discC s y = c) (T : Sf) (hR : cond (c == 0) (discS s y) zeroSf = T) :
    Calls Tryz.prog 42 #[v, .int .i64 y] w fun e' w' => ∃ va, e' = .returned (.tuple #[va, .int .i64 c]) ∧ ShW w' w.heap.size va T ∧ Below w.heap.size w w' := by
  by_cases h0 : c = 0
  · subst h0
    have hR' : discS s y = T := hR
    subst hR'
    exact (rdisc_yes s v y w hS hz hc).mono fun e' w' ⟨v', h1, h2, h3⟩ => ⟨v', h1, h2, h3⟩
  · have hb : (c == 0) = false := by simpa using h0
    rw [hb] at hR
    have hR' : zeroSf = T := hR
    subst hR'
    exact (rdisc_no s v y w hS hz c hc h0).mono fun e' w' ⟨h1, h2⟩ => ⟨_, h1, zeroW _ _, h2⟩
end Go.Proofs.YtokhapafpjejaaaGreatDoor
namespace Go.Proofs.YtokhapafpjejaaaGreatDoor
open Go.ChangeShapes Go.WideShapes Go.ChangeAt Go.RowKit
attribute [local go_sem ↓] Go.wp_at_zero Go.wp_at_succ
theorem num_any (z : Int) (w : World) : Calls Tryz.prog 20 #[.int .i64 z] w fun e' w' => e' = .returned (.int .i64 z) ∧ Below w.heap.size w w' := by
  go_enter Tryz.func20, Tryz.ntmps20
  go_wp2_with fail
  go_ret
  exact ⟨rfl, Below.refl _ _⟩
theorem ShW.far {w w' : World} {base g : Nat} {v : Value} {s : Sf} (h : ShW w base v s) (hg : w.grownBy w' (some g)) (hb : g < base) : ShW w' base v s := by
  obtain ⟨Ab, cb, An, cn, rfl, h1, h2, -⟩ := h.parts
  exact ShW.make (h1.far hg hb) (h2.far hg hb)
theorem results_cc {P : Program} {fn : Func} {p q r : Tmp} {ty : TypeId} (h : fn.results = #[.cell p ty, .cell q ty, .tmp r]) (tmps : Array Value) (w : World) (g g2 : Nat) (t : TypeId) (cs cs2 : Array Value) (fr : Nat × Nat) (d : TypeDesc)
    (hp : tmps.getD p undef = .pointer (some ⟨g, 0, none⟩)) (hq : tmps.getD q undef = .pointer (some ⟨g2, 0, none⟩)) (hg : w.heap[g]? = some (.cells cs t fr)) (hg2 : w.heap[g2]? = some (.cells cs2 t fr))
    (hu : P.underlying ty = some d) (hd : (match d with | .struct _ | .array _ _ => true | _ => false) = true) (hi : (P.info? ty).map (·.size) = some cs.size) (hi2 : (P.info? ty).map (·.size) = some cs2.size) :
    (results fn tmps).run P w = .ok (.tuple #[.agg cs, .agg cs2, tmps.getD r undef]) w := by
  have hp' : tmps[p]?.getD undef = .pointer (some ⟨g, 0, none⟩) := by simpa using hp
  have hq' : tmps[q]?.getD undef = .pointer (some ⟨g2, 0, none⟩) := by simpa using hq
  simp [results, h, hp', hq', asAddr, run_loadVar_row w g t ty cs fr d hg hu hd hi, run_loadVar_row w g2 t ty cs2 fr d hg2 hu hd hi2]
def BoxW (w : World) (g base : Nat) (T : Sf) : Prop := ∃ Ab cb An cn, Blk w g 25 #[.int .i64 T.nb, .int .i64 T.nn, .int .i64 T.ns, .slice Ab T.bs.length cb, .slice An T.ts.length cn] ∧ ShW w base (.agg #[.int .i64 T.nb, .int .i64 T.nn, .int .i64 T.ns, .slice Ab T.bs.length cb, .slice An T.ts.length cn]) T
structure BothI (g : Nat) (w0 : World) (T : Sf) (n m f e : Value) (wx : World) : Prop where
  num : ∃ N : Int, n = .int .i64 N ∧ m = .int .i64 N
  err : ∃ c : Int, f = .int .i64 c ∧ e = .int .i64 c
  a : BoxW wx (g + 1 + 1 + 1 + 1) (g + 6) T
  b : BoxW wx (g + 1 + 1 + 1 + 1 + 1) (g + 6) T
  r1 : Blk wx (g + 1 + 1) 25 #[.int .i64 0, .int .i64 0, .int .i64 0, .slice none 0 0, .slice none 0 0]
  r2 : Blk wx (g + 1 + 1 + 1) 25 #[.int .i64 0, .int .i64 0, .int .i64 0, .slice none 0 0, .slice none 0 0]
  be : Below g w0 wx
  sz : g + 6 ≤ wx.heap.size
theorem both_any (s : Sf) (v : Value) (x : Ac) (w : World) (hS : ShR w w.heap.size v s) (hT : Tabs w) (hz : SzF s) (hx : x.nm.size ≤ 100000) :
    Calls Tryz.prog 9 #[v, .agg #[.int .i64 x.d, .int .i64 x.a, .int .i64 x.b, .string x.nm]] w fun e' w' => ∃ va vb, e' = .returned (.tuple #[va, vb, .bool true]) ∧ ShW w' w.heap.size va (resS s x) ∧ ShW w' w.heap.size vb (resS s x) ∧ Below w.heap.size w w' := by
  obtain ⟨d, a, b, nm⟩ := x
  have hS0 := hS
  obtain ⟨Ab, cb, An, cn, rfl, hB, hN, hcb, hmb, hcn, hmn⟩ := hS.ex
  clear hS
  have HB : Below w.heap.size w ((((((w.alloc (.cells #[.int .i64 s.nb, .int .i64 s.nn, .int .i64 s.ns, .slice Ab s.bs.length cb, .slice An s.ts.length cn] 25)).alloc (.cells #[.int .i64 d, .int .i64 a, .int .i64 b, .string nm] 27)).alloc (.cells #[.int .i64 0, .int .i64 0, .int .i64 0, .slice none 0 0, .slice none 0 0] 25)).alloc (.cells #[.int .i64 0, .int .i64 0, .int .i64 0, .slice none 0 0, .slice none 0 0] 25)).alloc (.cells #[.int .i64 0, .int .i64 0, .int .i64 0, .slice none 0 0, .slice none 0 0] 25)).alloc (.cells #[.int .i64 0, .int .i64 0, .int .i64 0, .slice none 0 0, .slice none 0 0] 25)) := (((((((Below.refl w.heap.size w).alloc (by first | (simp; done) | (simp; omega)) _).alloc (by first | (simp; done) | (simp; omega)) _).alloc (by first | (simp; done) | (simp; omega)) _).alloc (by first | (simp; done) | (simp; omega)) _).alloc (by first | (simp; done) | (simp; omega)) _).alloc (by first | (simp; done) | (simp; omega)) _)
  have B1 : Blk ((((((w.alloc (.cells #[.int .i64 s.nb, .int .i64 s.nn, .int .i64 s.ns, .slice Ab s.bs.length cb, .slice An s.ts.length cn] 25)).alloc (.cells #[.int .i64 d, .int .i64 a, .int .i64 b, .string nm] 27)).alloc (.cells #[.int .i64 0, .int .i64 0, .int .i64 0, .slice none 0 0, .slice none 0 0] 25)).alloc (.cells #[.int .i64 0, .int .i64 0, .int .i64 0, .slice none 0 0, .slice none 0 0] 25)).alloc (.cells #[.int .i64 0, .int .i64 0, .int .i64 0, .slice none 0 0, .slice none 0 0] 25)).alloc (.cells #[.int .i64 0, .int .i64 0, .int .i64 0, .slice none 0 0, .slice none 0 0] 25)) w.heap.size 25 #[.int .i64 s.nb, .int .i64 s.nn, .int .i64 s.ns, .slice Ab s.bs.length cb, .slice An s.ts.length cn] := by
    have := ((((((Blk.new_ w 25 #[.int .i64 s.nb, .int .i64 s.nn, .int .i64 s.ns, .slice Ab s.bs.length cb, .slice An s.ts.length cn]).alloc_ (.cells #[.int .i64 d, .int .i64 a, .int .i64 b, .string nm] 27)).alloc_ (.cells #[.int .i64 0, .int .i64 0, .int .i64 0, .slice none 0 0, .slice none 0 0] 25)).alloc_ (.cells #[.int .i64 0, .int .i64 0, .int .i64 0, .slice none 0 0, .slice none 0 0] 25)).alloc_ (.cells #[.int .i64 0, .int .i64 0, .int .i64 0, .slice none 0 0, .slice none 0 0] 25)).alloc_ (.cells #[.int .i64 0, .int .i64 0, .int .i64 0, .slice none 0 0, .slice none 0 0] 25))
    simpa using this
  have B2 : Blk ((((((w.alloc (.cells #[.int .i64 s.nb, .int .i64 s.nn, .int .i64 s.ns, .slice Ab s.bs.length cb, .slice An s.ts.length cn] 25)).alloc (.cells #[.int .i64 d, .int .i64 a, .int .i64 b, .string nm] 27)).alloc (.cells #[.int .i64 0, .int .i64 0, .int .i64 0, .slice none 0 0, .slice none 0 0] 25)).alloc (.cells #[.int .i64 0, .int .i64 0, .int .i64 0, .slice none 0 0, .slice none 0 0] 25)).alloc (.cells #[.int .i64 0, .int .i64 0, .int .i64 0, .slice none 0 0, .slice none 0 0] 25)).alloc (.cells #[.int .i64 0, .int .i64 0, .int .i64 0, .slice none 0 0, .slice none 0 0] 25)) (w.heap.size + 1) 27 #[.int .i64 d, .int .i64 a, .int .i64 b, .string nm] := by
    have := (((((Blk.new_ (w.alloc (.cells #[.int .i64 s.nb, .int .i64 s.nn, .int .i64 s.ns, .slice Ab s.bs.length cb, .slice An s.ts.length cn] 25)) 27 #[.int .i64 d, .int .i64 a, .int .i64 b, .string nm]).alloc_ (.cells #[.int .i64 0, .int .i64 0, .int .i64 0, .slice none 0 0, .slice none 0 0] 25)).alloc_ (.cells #[.int .i64 0, .int .i64 0, .int .i64 0, .slice none 0 0, .slice none 0 0] 25)).alloc_ (.cells #[.int .i64 0, .int .i64 0, .int .i64 0, .slice none 0 0, .slice none 0 0] 25)).alloc_ (.cells #[.int .i64 0, .int .i64 0, .int .i64 0, .slice none 0 0, .slice none 0 0] 25))
    simpa using this
  have B3 : Blk ((((((w.alloc (.cells #[.int .i64 s.nb, .int .i64 s.nn, .int .i64 s.ns, .slice Ab s.bs.length cb, .slice An s.ts.length cn] 25)).alloc (.cells #[.int .i64 d, .int .i64 a, .int .i64 b, .string nm] 27)).alloc (.cells #[.int .i64 0, .int .i64 0, .int .i64 0, .slice none 0 0, .slice none 0 0] 25)).alloc (.cells #[.int .i64 0, .int .i64 0, .int .i64 0, .slice none 0 0, .slice none 0 0] 25)).alloc (.cells #[.int .i64 0, .int .i64 0, .int .i64 0, .slice none 0 0, .slice none 0 0] 25)).alloc (.cells #[.int .i64 0, .int .i64 0, .int .i64 0, .slice none 0 0, .slice none 0 0] 25)) (w.heap.size + 1 + 1) 25 #[.int .i64 0, .int .i64 0, .int .i64 0, .slice none 0 0, .slice none 0 0] := by
    have := ((((Blk.new_ ((w.alloc (.cells #[.int .i64 s.nb, .int .i64 s.nn, .int .i64 s.ns, .slice Ab s.bs.length cb, .slice An s.ts.length cn] 25)).alloc (.cells #[.int .i64 d, .int .i64 a, .int .i64 b, .string nm] 27)) 25 #[.int .i64 0, .int .i64 0, .int .i64 0, .slice none 0 0, .slice none 0 0]).alloc_ (.cells #[.int .i64 0, .int .i64 0, .int .i64 0, .slice none 0 0, .slice none 0 0] 25)).alloc_ (.cells #[.int .i64 0, .int .i64 0, .int .i64 0, .slice none 0 0, .slice none 0 0] 25)).alloc_ (.cells #[.int .i64 0, .int .i64 0, .int .i64 0, .slice none 0 0, .slice none 0 0] 25))
    simpa using this
  have B4 : Blk ((((((w.alloc (.cells #[.int .i64 s.nb, .int .i64 s.nn, .int .i64 s.ns, .slice Ab s.bs.length cb, .slice An s.ts.length cn] 25)).alloc (.cells #[.int .i64 d, .int .i64 a, .int .i64 b, .string nm] 27)).alloc (.cells #[.int .i64 0, .int .i64 0, .int .i64 0, .slice none 0 0, .slice none 0 0] 25)).alloc (.cells #[.int .i64 0, .int .i64 0, .int .i64 0, .slice none 0 0, .slice none 0 0] 25)).alloc (.cells #[.int .i64 0, .int .i64 0, .int .i64 0, .slice none 0 0, .slice none 0 0] 25)).alloc (.cells #[.int .i64 0, .int .i64 0, .int .i64 0, .slice none 0 0, .slice none 0 0] 25)) (w.heap.size + 1 + 1 + 1) 25 #[.int .i64 0, .int .i64 0, .int .i64 0, .slice none 0 0, .slice none 0 0] := by
    have := (((Blk.new_ (((w.alloc (.cells #[.int .i64 s.nb, .int .i64 s.nn, .int .i64 s.ns, .slice Ab s.bs.length cb, .slice An s.ts.length cn] 25)).alloc (.cells #[.int .i64 d, .int .i64 a, .int .i64 b, .string nm] 27)).alloc (.cells #[.int .i64 0, .int .i64 0, .int .i64 0, .slice none 0 0, .slice none 0 0] 25)) 25 #[.int .i64 0, .int .i64 0, .int .i64 0, .slice none 0 0, .slice none 0 0]).alloc_ (.cells #[.int .i64 0, .int .i64 0, .int .i64 0, .slice none 0 0, .slice none 0 0] 25)).alloc_ (.cells #[.int .i64 0, .int .i64 0, .int .i64 0, .slice none 0 0, .slice none 0 0] 25))
    simpa using this
  have B5 : Blk ((((((w.alloc (.cells #[.int .i64 s.nb, .int .i64 s.nn, .int .i64 s.ns, .slice Ab s.bs.length cb, .slice An s.ts.length cn] 25)).alloc (.cells #[.int .i64 d, .int .i64 a, .int .i64 b, .string nm] 27)).alloc (.cells #[.int .i64 0, .int .i64 0, .int .i64 0, .slice none 0 0, .slice none 0 0] 25)).alloc (.cells #[.int .i64 0, .int .i64 0, .int .i64 0, .slice none 0 0, .slice none 0 0] 25)).alloc (.cells #[.int .i64 0, .int .i64 0, .int .i64 0, .slice none 0 0, .slice none 0 0] 25)).alloc (.cells #[.int .i64 0, .int .i64 0, .int .i64 0, .slice none 0 0, .slice none 0 0] 25)) (w.heap.size + 1 + 1 + 1 + 1) 25 #[.int .i64 0, .int .i64 0, .int .i64 0, .slice none 0 0, .slice none 0 0] := by
    have := ((Blk.new_ ((((w.alloc (.cells #[.int .i64 s.nb, .int .i64 s.nn, .int .i64 s.ns, .slice Ab s.bs.length cb, .slice An s.ts.length cn] 25)).alloc (.cells #[.int .i64 d, .int .i64 a, .int .i64 b, .string nm] 27)).alloc (.cells #[.int .i64 0, .int .i64 0, .int .i64 0, .slice none 0 0, .slice none 0 0] 25)).alloc (.cells #[.int .i64 0, .int .i64 0, .int .i64 0, .slice none 0 0, .slice none 0 0] 25)) 25 #[.int .i64 0, .int .i64 0, .int .i64 0, .slice none 0 0, .slice none 0 0]).alloc_ (.cells #[.int .i64 0, .int .i64 0, .int .i64 0, .slice none 0 0, .slice none 0 0] 25))
    simpa using this
  have B6 : Blk ((((((w.alloc (.cells #[.int .i64 s.nb, .int .i64 s.nn, .int .i64 s.ns, .slice Ab s.bs.length cb, .slice An s.ts.length cn] 25)).alloc (.cells #[.int .i64 d, .int .i64 a, .int .i64 b, .string nm] 27)).alloc (.cells #[.int .i64 0, .int .i64 0, .int .i64 0, .slice none 0 0, .slice none 0 0] 25)).alloc (.cells #[.int .i64 0, .int .i64 0, .int .i64 0, .slice none 0 0, .slice none 0 0] 25)).alloc (.cells #[.int .i64 0, .int .i64 0, .int .i64 0, .slice none 0 0, .slice none 0 0] 25)).alloc (.cells #[.int .i64 0, .int .i64 0, .int .i64 0, .slice none 0 0, .slice none 0 0] 25)) (w.heap.size + 1 + 1 + 1 + 1 + 1) 25 #[.int .i64 0, .int .i64 0, .int .i64 0, .slice none 0 0, .slice none 0 0] := by
    have := (Blk.new_ (((((w.alloc (.cells #[.int .i64 s.nb, .int .i64 s.nn, .int .i64 s.ns, .slice Ab s.bs.length cb, .slice An s.ts.length cn] 25)).alloc (.cells #[.int .i64 d, .int .i64 a, .int .i64 b, .string nm] 27)).alloc (.cells #[.int .i64 0, .int .i64 0, .int .i64 0, .slice none 0 0, .slice none 0 0] 25)).alloc (.cells #[.int .i64 0, .int .i64 0, .int .i64 0, .slice none 0 0, .slice none 0 0] 25)).alloc (.cells #[.int .i64 0, .int .i64 0, .int .i64 0, .slice none 0 0, .slice none 0 0] 25)) 25 #[.int .i64 0, .int .i64 0, .int .i64 0, .slice none 0 0, .slice none 0 0])
    simpa using this
  have S1 : ShR ((((((w.alloc (.cells #[.int .i64 s.nb, .int .i64 s.nn, .int .i64 s.ns, .slice Ab s.bs.length cb, .slice An s.ts.length cn] 25)).alloc (.cells #[.int .i64 d, .int .i64 a, .int .i64 b, .string nm] 27)).alloc (.cells #[.int .i64 0, .int .i64 0, .int .i64 0, .slice none 0 0, .slice none 0 0] 25)).alloc (.cells #[.int .i64 0, .int .i64 0, .int .i64 0, .slice none 0 0, .slice none 0 0] 25)).alloc (.cells #[.int .i64 0, .int .i64 0, .int .i64 0, .slice none 0 0, .slice none 0 0] 25)).alloc (.cells #[.int .i64 0, .int .i64 0, .int .i64 0, .slice none 0 0, .slice none 0 0] 25)) (((((((w.alloc (.cells #[.int .i64 s.nb, .int .i64 s.nn, .int .i64 s.ns, .slice Ab s.bs.length cb, .slice An s.ts.length cn] 25)).alloc (.cells #[.int .i64 d, .int .i64 a, .int .i64 b, .string nm] 27)).alloc (.cells #[.int .i64 0, .int .i64 0, .int .i64 0, .slice none 0 0, .slice none 0 0] 25)).alloc (.cells #[.int .i64 0, .int .i64 0, .int .i64 0, .slice none 0 0, .slice none 0 0] 25)).alloc (.cells #[.int .i64 0, .int .i64 0, .int .i64 0, .slice none 0 0, .slice none 0 0] 25)).alloc (.cells #[.int .i64 0, .int .i64 0, .int .i64 0, .slice none 0 0, .slice none 0 0] 25))).heap.size (.agg #[.int .i64 s.nb, .int .i64 s.nn, .int .i64 s.ns, .slice Ab s.bs.length cb, .slice An s.ts.length cn]) s := hS0.next HB
  have T1 := hT.next HB
  have HZ := Lib.hid hz
  have HX : Hid (nm.size ≤ 100000) := Lib.hid hx
  have hT0 := hT
  obtain ⟨W, hW⟩ : ∃ V : World, V = ((((((w.alloc (.cells #[.int .i64 s.nb, .int .i64 s.nn, .int .i64 s.ns, .slice Ab s.bs.length cb, .slice An s.ts.length cn] 25)).alloc (.cells #[.int .i64 d, .int .i64 a, .int .i64 b, .string nm] 27)).alloc (.cells #[.int .i64 0, .int .i64 0, .int .i64 0, .slice none 0 0, .slice none 0 0] 25)).alloc (.cells #[.int .i64 0, .int .i64 0, .int .i64 0, .slice none 0 0, .slice none 0 0] 25)).alloc (.cells #[.int .i64 0, .int .i64 0, .int .i64 0, .slice none 0 0, .slice none 0 0] 25)).alloc (.cells #[.int .i64 0, .int .i64 0, .int .i64 0, .slice none 0 0, .slice none 0 0] 25)) := ⟨_, rfl⟩
  have hsz : w.heap.size + 6 ≤ W.heap.size := by rw [hW]; simp
  have HSM := Lib.hid (res_small s ⟨d, a, b, nm⟩)
  clear hB hN hcb hmb hcn hmn hz hx hT
  go_enter Tryz.func9, Tryz.ntmps9
  go_upto_block 0 with fail
  rw [← hW] at HB B1 B2 B3 B4 B5 B6 S1 T1 ⊢
  clear hW
  go_cut [9, 10, 11, 12] (fun n m f e wx => BothI w.heap.size w (resS s ⟨d, a, b, nm⟩) n m f e wx)
  case first =>
    have hd : d = 0 ∨ d = 1 ∨ d = 2 ∨ d = 3 ∨ d = 4 ∨ d = 5 ∨ d = 6 ∨ (d ≠ 0 ∧ d ≠ 1 ∧ d ≠ 2 ∧ d ≠ 3 ∧ d ≠ 4 ∧ d ≠ 5 ∧ d ≠ 6) := by omega
    rcases hd with rfl | rfl | rfl | rfl | rfl | rfl | rfl | ⟨d0, d1, d2, d3, d4, d5, d6⟩
    · obtain ⟨c, hc⟩ : ∃ c, makeC s nm = c := ⟨_, rfl⟩
      obtain ⟨T, hTe⟩ : ∃ T, cond (c == 0) (makeS s nm) zeroSf = T := ⟨_, rfl⟩
      have hRT : resS s ⟨0, a, b, nm⟩ = T := by rw [← hTe, ← hc]; rfl
      obtain ⟨N, hN⟩ : ∃ N, cond (c == 0) s.nb 0 = N := ⟨_, rfl⟩
      have HN := Lib.hid hN
      clear hN
      have HRT := Lib.hid hRT
      have HC := Lib.hid hc
      have HR := Lib.hid hTe
      clear hc hTe hRT
      have k0 := B1.cell_ 0
      have k1 := B1.cell_ 1
      have k2 := B1.cell_ 2
      have k3 := B1.cell_ 3
      have k4 := B1.cell_ 4
      have y0 := B2.cell_ 0
      have y1 := B2.cell_ 1
      have y2 := B2.cell_ 2
      have y3 := B2.cell_ 3
      have u0 := B5.cell_ 0
      have u1 := B5.cell_ 1
      have u2 := B5.cell_ 2
      have u3 := B5.cell_ 3
      have u4 := B5.cell_ 4
      have fu0 := B5.free 0
      have fu1 := B5.free 1
      have fu2 := B5.free 2
      have fu3 := B5.free 3
      have fu4 := B5.free 4
      simp at k0 k1 k2 k3 k4 y0 y1 y2 y3 u0 u1 u2 u3 u4
      go_upto_region 7 with (go_at_call 29; ((with_reducible refine (make_all s _ nm _ S1 T1 _ HC.out _ HN.out _ HR.out).mono ?_); rintro e' w7 ⟨v7, rfl, hA1, b7⟩; have hA1 := hA1.base_ hsz; obtain ⟨A1, c1, D1, e1, rfl, hp1, hp2, -⟩ := hA1.parts; clear hp1 hp2; have B1 := B1.below b7 B1.lt; have B2 := B2.below b7 B2.lt; have B3 := B3.below b7 B3.lt; have B4 := B4.below b7 B4.lt; have B5 := B5.below b7 B5.lt; have B6 := B6.below b7 B6.lt; have S1 := S1.next b7; have T1 := T1.next b7; have HB := btr HB HB.size b7; have hsz := Nat.le_trans hsz b7.size; (try clear k0 k1 k2 k3 k4 y0 y1 y2 y3 u0 fu0 u1 fu1 u2 fu2 u3 fu3 u4 fu4); have k0 := B1.cell_ 0; have k1 := B1.cell_ 1; have k2 := B1.cell_ 2; have k3 := B1.cell_ 3; have k4 := B1.cell_ 4; have y0 := B2.cell_ 0; have y1 := B2.cell_ 1; have y2 := B2.cell_ 2; have y3 := B2.cell_ 3; have u0 := B5.cell_ 0; have u1 := B5.cell_ 1; have u2 := B5.cell_ 2; have u3 := B5.cell_ 3; have u4 := B5.cell_ 4; have fu0 := B5.free 0; have fu1 := B5.free 1; have fu2 := B5.free 2; have fu3 := B5.free 3; have fu4 := B5.free 4; simp at k0 k1 k2 k3 k4 y0 y1 y2 y3 u0 u1 u2 u3 u4; clear b7))
      have hg := st5_grown w7 (w.heap.size + 1 + 1 + 1 + 1) 0 (.int .i64 T.nb) (.int .i64 T.nn) (.int .i64 T.ns) (.slice A1 T.bs.length c1) (.slice D1 T.ts.length e1)
      have C1 := B1.grown hg (by omega)
      have C2 := B2.grown hg (by omega)
      have C3 := B3.grown hg (by omega)
      have C4 := B4.grown hg (by omega)
      have C5 := B5.st5_ (.int .i64 T.nb) (.int .i64 T.nn) (.int .i64 T.ns) (.slice A1 T.bs.length c1) (.slice D1 T.ts.length e1)
      have C6 := B6.grown hg (by omega)
      have HBn := below_grown HB hg (by omega) HB.size
      have S2 : ShR (st5 w7 (w.heap.size + 1 + 1 + 1 + 1) 0 (.int .i64 T.nb) (.int .i64 T.nn) (.int .i64 T.ns) (.slice A1 T.bs.length c1) (.slice D1 T.ts.length e1)) (st5 w7 (w.heap.size + 1 + 1 + 1 + 1) 0 (.int .i64 T.nb) (.int .i64 T.nn) (.int .i64 T.ns) (.slice A1 T.bs.length c1) (.slice D1 T.ts.length e1)).heap.size (.agg #[.int .i64 s.nb, .int .i64 s.nn, .int .i64 s.ns, .slice Ab s.bs.length cb, .slice An s.ts.length cn]) s := hS0.next HBn
      have T2 : Tabs (st5 w7 (w.heap.size + 1 + 1 + 1 + 1) 0 (.int .i64 T.nb) (.int .i64 T.nn) (.int .i64 T.ns) (.slice A1 T.bs.length c1) (.slice D1 T.ts.length e1)) := hT0.next HBn
      have hB1 := hA1.far hg (by omega)
      have hszn : w.heap.size + 6 ≤ (st5 w7 (w.heap.size + 1 + 1 + 1 + 1) 0 (.int .i64 T.nb) (.int .i64 T.nn) (.int .i64 T.ns) (.slice A1 T.bs.length c1) (.slice D1 T.ts.length e1)).heap.size := Nat.le_trans hsz hg.size
      clear hg
      obtain ⟨w8, hw8⟩ : ∃ V : World, V = (st5 w7 (w.heap.size + 1 + 1 + 1 + 1) 0 (.int .i64 T.nb) (.int .i64 T.nn) (.int .i64 T.ns) (.slice A1 T.bs.length c1) (.slice D1 T.ts.length e1)) := ⟨_, rfl⟩
      change Code.wp _ _ _ _ (st5 w7 (w.heap.size + 1 + 1 + 1 + 1) 0 (.int .i64 T.nb) (.int .i64 T.nn) (.int .i64 T.ns) (.slice A1 T.bs.length c1) (.slice D1 T.ts.length e1))
      rw [← hw8] at C1 C2 C3 C4 C5 C6 HBn S2 T2 hB1 hszn ⊢
      clear hw8 B1 B2 B3 B4 B5 B6 HB S1 T1 hA1 hsz k0 k1 k2 k3 k4 y0 y1 y2 y3 u0 fu0 u1 fu1 u2 fu2 u3 fu3 u4 fu4
      have B1 := C1
      have B2 := C2
      have B3 := C3
      have B4 := C4
      have B5 := C5
      have B6 := C6
      have HB := HBn
      have S1 := S2
      have T1 := T2
      have hA1 := hB1
      have hsz := hszn
      clear C1 C2 C3 C4 C5 C6 HBn S2 T2 hB1 hszn
      have k0 := B1.cell_ 0
      have k1 := B1.cell_ 1
      have k2 := B1.cell_ 2
      have k3 := B1.cell_ 3
      have k4 := B1.cell_ 4
      have y0 := B2.cell_ 0
      have y1 := B2.cell_ 1
      have y2 := B2.cell_ 2
      have y3 := B2.cell_ 3
      have u0 := B6.cell_ 0
      have u1 := B6.cell_ 1
      have u2 := B6.cell_ 2
      have u3 := B6.cell_ 3
      have u4 := B6.cell_ 4
      have fu0 := B6.free 0
      have fu1 := B6.free 1
      have fu2 := B6.free 2
      have fu3 := B6.free 3
      have fu4 := B6.free 4
      simp at k0 k1 k2 k3 k4 y0 y1 y2 y3 u0 u1 u2 u3 u4
      go_wp2_with (go_at_call 30; ((with_reducible refine (rmake_all s _ nm _ S1 HZ.out HX.out _ HC.out _ HN.out _ HR.out).mono ?_); rintro e' w9 ⟨v7, rfl, hA2, b7⟩; have hA1 := hA1.below b7; have hA2 := hA2.base_ hsz; obtain ⟨A2, c2, D2, e2, rfl, hp1, hp2, -⟩ := hA2.parts; clear hp1 hp2; have B1 := B1.below b7 B1.lt; have B2 := B2.below b7 B2.lt; have B3 := B3.below b7 B3.lt; have B4 := B4.below b7 B4.lt; have B5 := B5.below b7 B5.lt; have B6 := B6.below b7 B6.lt; have S1 := S1.next b7; have T1 := T1.next b7; have HB := btr HB HB.size b7; have hsz := Nat.le_trans hsz b7.size; (try clear k0 k1 k2 k3 k4 y0 y1 y2 y3 u0 fu0 u1 fu1 u2 fu2 u3 fu3 u4 fu4); have k0 := B1.cell_ 0; have k1 := B1.cell_ 1; have k2 := B1.cell_ 2; have k3 := B1.cell_ 3; have k4 := B1.cell_ 4; have y0 := B2.cell_ 0; have y1 := B2.cell_ 1; have y2 := B2.cell_ 2; have y3 := B2.cell_ 3; have u0 := B6.cell_ 0; have u1 := B6.cell_ 1; have u2 := B6.cell_ 2; have u3 := B6.cell_ 3; have u4 := B6.cell_ 4; have fu0 := B6.free 0; have fu1 := B6.free 1; have fu2 := B6.free 2; have fu3 := B6.free 3; have fu4 := B6.free 4; simp at k0 k1 k2 k3 k4 y0 y1 y2 y3 u0 u1 u2 u3 u4; clear b7))
      have hg := st5_grown w9 (w.heap.size + 1 + 1 + 1 + 1 + 1) 0 (.int .i64 T.nb) (.int .i64 T.nn) (.int .i64 T.ns) (.slice A2 T.bs.length c2) (.slice D2 T.ts.length e2)
      have C1 := B1.grown hg (by omega)
      have C2 := B2.grown hg (by omega)
      have C3 := B3.grown hg (by omega)
      have C4 := B4.grown hg (by omega)
      have C5 := B5.grown hg (by omega)
      have C6 := B6.st5_ (.int .i64 T.nb) (.int .i64 T.nn) (.int .i64 T.ns) (.slice A2 T.bs.length c2) (.slice D2 T.ts.length e2)
      have HBn := below_grown HB hg (by omega) HB.size
      have S2 : ShR (st5 w9 (w.heap.size + 1 + 1 + 1 + 1 + 1) 0 (.int .i64 T.nb) (.int .i64 T.nn) (.int .i64 T.ns) (.slice A2 T.bs.length c2) (.slice D2 T.ts.length e2)) (st5 w9 (w.heap.size + 1 + 1 + 1 + 1 + 1) 0 (.int .i64 T.nb) (.int .i64 T.nn) (.int .i64 T.ns) (.slice A2 T.bs.length c2) (.slice D2 T.ts.length e2)).heap.size (.agg #[.int .i64 s.nb, .int .i64 s.nn, .int .i64 s.ns, .slice Ab s.bs.length cb, .slice An s.ts.length cn]) s := hS0.next HBn
      have T2 : Tabs (st5 w9 (w.heap.size + 1 + 1 + 1 + 1 + 1) 0 (.int .i64 T.nb) (.int .i64 T.nn) (.int .i64 T.ns) (.slice A2 T.bs.length c2) (.slice D2 T.ts.length e2)) := hT0.next HBn
      have hB1 := hA1.far hg (by omega)
      have hB2 := hA2.far hg (by omega)
      have hszn : w.heap.size + 6 ≤ (st5 w9 (w.heap.size + 1 + 1 + 1 + 1 + 1) 0 (.int .i64 T.nb) (.int .i64 T.nn) (.int .i64 T.ns) (.slice A2 T.bs.length c2) (.slice D2 T.ts.length e2)).heap.size := Nat.le_trans hsz hg.size
      clear hg
      go_meet
      rw [HRT.out]
      refine ⟨⟨N, rfl, rfl⟩, ⟨c, rfl, rfl⟩, ⟨_, _, _, _, C5, hB1⟩, ⟨_, _, _, _, C6, hB2⟩, C3, C4, HBn, hszn⟩
    · obtain ⟨c, hc⟩ : ∃ c, renC s a nm = c := ⟨_, rfl⟩
      obtain ⟨T, hTe⟩ : ∃ T, cond (c == 0) (renS s a nm) zeroSf = T := ⟨_, rfl⟩
      have hRT : resS s ⟨1, a, b, nm⟩ = T := by rw [← hTe, ← hc]; rfl
      have HRT := Lib.hid hRT
      have HC := Lib.hid hc
      have HR := Lib.hid hTe
      clear hc hTe hRT
      have k0 := B1.cell_ 0
      have k1 := B1.cell_ 1
      have k2 := B1.cell_ 2
      have k3 := B1.cell_ 3
      have k4 := B1.cell_ 4
      have y0 := B2.cell_ 0
      have y1 := B2.cell_ 1
      have y2 := B2.cell_ 2
      have y3 := B2.cell_ 3
      have u0 := B5.cell_ 0
      have u1 := B5.cell_ 1
      have u2 := B5.cell_ 2
      have u3 := B5.cell_ 3
      have u4 := B5.cell_ 4
      have fu0 := B5.free 0
      have fu1 := B5.free 1
      have fu2 := B5.free 2
      have fu3 := B5.free 3
      have fu4 := B5.free 4
      simp at k0 k1 k2 k3 k4 y0 y1 y2 y3 u0 u1 u2 u3 u4
      go_upto_region 10 with (go_at_call 31; ((with_reducible refine (ren_all s _ a nm _ S1 T1 _ HC.out _ HR.out).mono ?_); rintro e' w7 ⟨v7, rfl, hA1, b7⟩; have hA1 := hA1.base_ hsz; obtain ⟨A1, c1, D1, e1, rfl, hp1, hp2, -⟩ := hA1.parts; clear hp1 hp2; have B1 := B1.below b7 B1.lt; have B2 := B2.below b7 B2.lt; have B3 := B3.below b7 B3.lt; have B4 := B4.below b7 B4.lt; have B5 := B5.below b7 B5.lt; have B6 := B6.below b7 B6.lt; have S1 := S1.next b7; have T1 := T1.next b7; have HB := btr HB HB.size b7; have hsz := Nat.le_trans hsz b7.size; (try clear k0 k1 k2 k3 k4 y0 y1 y2 y3 u0 fu0 u1 fu1 u2 fu2 u3 fu3 u4 fu4); have k0 := B1.cell_ 0; have k1 := B1.cell_ 1; have k2 := B1.cell_ 2; have k3 := B1.cell_ 3; have k4 := B1.cell_ 4; have y0 := B2.cell_ 0; have y1 := B2.cell_ 1; have y2 := B2.cell_ 2; have y3 := B2.cell_ 3; have u0 := B5.cell_ 0; have u1 := B5.cell_ 1; have u2 := B5.cell_ 2; have u3 := B5.cell_ 3; have u4 := B5.cell_ 4; have fu0 := B5.free 0; have fu1 := B5.free 1; have fu2 := B5.free 2; have fu3 := B5.free 3; have fu4 := B5.free 4; simp at k0 k1 k2 k3 k4 y0 y1 y2 y3 u0 u1 u2 u3 u4; clear b7))
      have hg := st5_grown w7 (w.heap.size + 1 + 1 + 1 + 1) 0 (.int .i64 T.nb) (.int .i64 T.nn) (.int .i64 T.ns) (.slice A1 T.bs.length c1) (.slice D1 T.ts.length e1)
      have C1 := B1.grown hg (by omega)
      have C2 := B2.grown hg (by omega)
      have C3 := B3.grown hg (by omega)
      have C4 := B4.grown hg (by omega)
      have C5 := B5.st5_ (.int .i64 T.nb) (.int .i64 T.nn) (.int .i64 T.ns) (.slice A1 T.bs.length c1) (.slice D1 T.ts.length e1)
      have C6 := B6.grown hg (by omega)
      have HBn := below_grown HB hg (by omega) HB.size
      have S2 : ShR (st5 w7 (w.heap.size + 1 + 1 + 1 + 1) 0 (.int .i64 T.nb) (.int .i64 T.nn) (.int .i64 T.ns) (.slice A1 T.bs.length c1) (.slice D1 T.ts.length e1)) (st5 w7 (w.heap.size + 1 + 1 + 1 + 1) 0 (.int .i64 T.nb) (.int .i64 T.nn) (.int .i64 T.ns) (.slice A1 T.bs.length c1) (.slice D1 T.ts.length e1)).heap.size (.agg #[.int .i64 s.nb, .int .i64 s.nn, .int .i64 s.ns, .slice Ab s.bs.length cb, .slice An s.ts.length cn]) s := hS0.next HBn
      have T2 : Tabs (st5 w7 (w.heap.size + 1 + 1 + 1 + 1) 0 (.int .i64 T.nb) (.int .i64 T.nn) (.int .i64 T.ns) (.slice A1 T.bs.length c1) (.slice D1 T.ts.length e1)) := hT0.next HBn
      have hB1 := hA1.far hg (by omega)
      have hszn : w.heap.size + 6 ≤ (st5 w7 (w.heap.size + 1 + 1 + 1 + 1) 0 (.int .i64 T.nb) (.int .i64 T.nn) (.int .i64 T.ns) (.slice A1 T.bs.length c1) (.slice D1 T.ts.length e1)).heap.size := Nat.le_trans hsz hg.size
      clear hg
      obtain ⟨w8, hw8⟩ : ∃ V : World, V = (st5 w7 (w.heap.size + 1 + 1 + 1 + 1) 0 (.int .i64 T.nb) (.int .i64 T.nn) (.int .i64 T.ns) (.slice A1 T.bs.length c1) (.slice D1 T.ts.length e1)) := ⟨_, rfl⟩
      change Code.wp _ _ _ _ (st5 w7 (w.heap.size + 1 + 1 + 1 + 1) 0 (.int .i64 T.nb) (.int .i64 T.nn) (.int .i64 T.ns) (.slice A1 T.bs.length c1) (.slice D1 T.ts.length e1))
      rw [← hw8] at C1 C2 C3 C4 C5 C6 HBn S2 T2 hB1 hszn ⊢
      clear hw8 B1 B2 B3 B4 B5 B6 HB S1 T1 hA1 hsz k0 k1 k2 k3 k4 y0 y1 y2 y3 u0 fu0 u1 fu1 u2 fu2 u3 fu3 u4 fu4
      have B1 := C1
      have B2 := C2
      have B3 := C3
      have B4 := C4
      have B5 := C5
      have B6 := C6
      have HB := HBn
      have S1 := S2
      have T1 := T2
      have hA1 := hB1
      have hsz := hszn
      clear C1 C2 C3 C4 C5 C6 HBn S2 T2 hB1 hszn
      have k0 := B1.cell_ 0
      have k1 := B1.cell_ 1
      have k2 := B1.cell_ 2
      have k3 := B1.cell_ 3
      have k4 := B1.cell_ 4
      have y0 := B2.cell_ 0
      have y1 := B2.cell_ 1
      have y2 := B2.cell_ 2
      have y3 := B2.cell_ 3
      have u0 := B6.cell_ 0
      have u1 := B6.cell_ 1
      have u2 := B6.cell_ 2
      have u3 := B6.cell_ 3
      have u4 := B6.cell_ 4
      have fu0 := B6.free 0
      have fu1 := B6.free 1
      have fu2 := B6.free 2
      have fu3 := B6.free 3
      have fu4 := B6.free 4
      simp at k0 k1 k2 k3 k4 y0 y1 y2 y3 u0 u1 u2 u3 u4
      go_wp2_with (go_at_call 32; ((with_reducible refine (rren_all s _ a nm _ S1 HZ.out HX.out _ HC.out _ HR.out).mono ?_); rintro e' w9 ⟨v7, rfl, hA2, b7⟩; have hA1 := hA1.below b7; have hA2 := hA2.base_ hsz; obtain ⟨A2, c2, D2, e2, rfl, hp1, hp2, -⟩ := hA2.parts; clear hp1 hp2; have B1 := B1.below b7 B1.lt; have B2 := B2.below b7 B2.lt; have B3 := B3.below b7 B3.lt; have B4 := B4.below b7 B4.lt; have B5 := B5.below b7 B5.lt; have B6 := B6.below b7 B6.lt; have S1 := S1.next b7; have T1 := T1.next b7; have HB := btr HB HB.size b7; have hsz := Nat.le_trans hsz b7.size; (try clear k0 k1 k2 k3 k4 y0 y1 y2 y3 u0 fu0 u1 fu1 u2 fu2 u3 fu3 u4 fu4); have k0 := B1.cell_ 0; have k1 := B1.cell_ 1; have k2 := B1.cell_ 2; have k3 := B1.cell_ 3; have k4 := B1.cell_ 4; have y0 := B2.cell_ 0; have y1 := B2.cell_ 1; have y2 := B2.cell_ 2; have y3 := B2.cell_ 3; have u0 := B6.cell_ 0; have u1 := B6.cell_ 1; have u2 := B6.cell_ 2; have u3 := B6.cell_ 3; have u4 := B6.cell_ 4; have fu0 := B6.free 0; have fu1 := B6.free 1; have fu2 := B6.free 2; have fu3 := B6.free 3; have fu4 := B6.free 4; simp at k0 k1 k2 k3 k4 y0 y1 y2 y3 u0 u1 u2 u3 u4; clear b7))
      have hg := st5_grown w9 (w.heap.size + 1 + 1 + 1 + 1 + 1) 0 (.int .i64 T.nb) (.int .i64 T.nn) (.int .i64 T.ns) (.slice A2 T.bs.length c2) (.slice D2 T.ts.length e2)
      have C1 := B1.grown hg (by omega)
      have C2 := B2.grown hg (by omega)
      have C3 := B3.grown hg (by omega)
      have C4 := B4.grown hg (by omega)
      have C5 := B5.grown hg (by omega)
      have C6 := B6.st5_ (.int .i64 T.nb) (.int .i64 T.nn) (.int .i64 T.ns) (.slice A2 T.bs.length c2) (.slice D2 T.ts.length e2)
      have HBn := below_grown HB hg (by omega) HB.size
      have S2 : ShR (st5 w9 (w.heap.size + 1 + 1 + 1 + 1 + 1) 0 (.int .i64 T.nb) (.int .i64 T.nn) (.int .i64 T.ns) (.slice A2 T.bs.length c2) (.slice D2 T.ts.length e2)) (st5 w9 (w.heap.size + 1 + 1 + 1 + 1 + 1) 0 (.int .i64 T.nb) (.int .i64 T.nn) (.int .i64 T.ns) (.slice A2 T.bs.length c2) (.slice D2 T.ts.length e2)).heap.size (.agg #[.int .i64 s.nb, .int .i64 s.nn, .int .i64 s.ns, .slice Ab s.bs.length cb, .slice An s.ts.length cn]) s := hS0.next HBn
      have T2 : Tabs (st5 w9 (w.heap.size + 1 + 1 + 1 + 1 + 1) 0 (.int .i64 T.nb) (.int .i64 T.nn) (.int .i64 T.ns) (.slice A2 T.bs.length c2) (.slice D2 T.ts.length e2)) := hT0.next HBn
      have hB1 := hA1.far hg (by omega)
      have hB2 := hA2.far hg (by omega)
      have hszn : w.heap.size + 6 ≤ (st5 w9 (w.heap.size + 1 + 1 + 1 + 1 + 1) 0 (.int .i64 T.nb) (.int .i64 T.nn) (.int .i64 T.ns) (.slice A2 T.bs.length c2) (.slice D2 T.ts.length e2)).heap.size := Nat.le_trans hsz hg.size
      clear hg
      go_meet
      rw [HRT.out]
      refine ⟨⟨0, rfl, rfl⟩, ⟨c, rfl, rfl⟩, ⟨_, _, _, _, C5, hB1⟩, ⟨_, _, _, _, C6, hB2⟩, C3, C4, HBn, hszn⟩
    · obtain ⟨c, hc⟩ : ∃ c, dropC s a = c := ⟨_, rfl⟩
      obtain ⟨T, hTe⟩ : ∃ T, cond (c == 0) (dropS s a) zeroSf = T := ⟨_, rfl⟩
      have hRT : resS s ⟨2, a, b, nm⟩ = T := by rw [← hTe, ← hc]; rfl
      have HRT := Lib.hid hRT
      have HC := Lib.hid hc
      have HR := Lib.hid hTe
      clear hc hTe hRT
      have k0 := B1.cell_ 0
      have k1 := B1.cell_ 1
      have k2 := B1.cell_ 2
      have k3 := B1.cell_ 3
      have k4 := B1.cell_ 4
      have y0 := B2.cell_ 0
      have y1 := B2.cell_ 1
      have y2 := B2.cell_ 2
      have y3 := B2.cell_ 3
      have u0 := B5.cell_ 0
      have u1 := B5.cell_ 1
      have u2 := B5.cell_ 2
      have u3 := B5.cell_ 3
      have u4 := B5.cell_ 4
      have fu0 := B5.free 0
      have fu1 := B5.free 1
      have fu2 := B5.free 2
      have fu3 := B5.free 3
      have fu4 := B5.free 4
      simp at k0 k1 k2 k3 k4 y0 y1 y2 y3 u0 u1 u2 u3 u4
      go_upto_region 13 with (go_at_call 33; ((with_reducible refine (drop_all s _ a _ S1 T1 _ HC.out _ HR.out).mono ?_); rintro e' w7 ⟨v7, rfl, hA1, b7⟩; have hA1 := hA1.base_ hsz; obtain ⟨A1, c1, D1, e1, rfl, hp1, hp2, -⟩ := hA1.parts; clear hp1 hp2; have B1 := B1.below b7 B1.lt; have B2 := B2.below b7 B2.lt; have B3 := B3.below b7 B3.lt; have B4 := B4.below b7 B4.lt; have B5 := B5.below b7 B5.lt; have B6 := B6.below b7 B6.lt; have S1 := S1.next b7; have T1 := T1.next b7; have HB := btr HB HB.size b7; have hsz := Nat.le_trans hsz b7.size; (try clear k0 k1 k2 k3 k4 y0 y1 y2 y3 u0 fu0 u1 fu1 u2 fu2 u3 fu3 u4 fu4); have k0 := B1.cell_ 0; have k1 := B1.cell_ 1; have k2 := B1.cell_ 2; have k3 := B1.cell_ 3; have k4 := B1.cell_ 4; have y0 := B2.cell_ 0; have y1 := B2.cell_ 1; have y2 := B2.cell_ 2; have y3 := B2.cell_ 3; have u0 := B5.cell_ 0; have u1 := B5.cell_ 1; have u2 := B5.cell_ 2; have u3 := B5.cell_ 3; have u4 := B5.cell_ 4; have fu0 := B5.free 0; have fu1 := B5.free 1; have fu2 := B5.free 2; have fu3 := B5.free 3; have fu4 := B5.free 4; simp at k0 k1 k2 k3 k4 y0 y1 y2 y3 u0 u1 u2 u3 u4; clear b7))
      have hg := st5_grown w7 (w.heap.size + 1 + 1 + 1 + 1) 0 (.int .i64 T.nb) (.int .i64 T.nn) (.int .i64 T.ns) (.slice A1 T.bs.length c1) (.slice D1 T.ts.length e1)
      have C1 := B1.grown hg (by omega)
      have C2 := B2.grown hg (by omega)
      have C3 := B3.grown hg (by omega)
      have C4 := B4.grown hg (by omega)
      have C5 := B5.st5_ (.int .i64 T.nb) (.int .i64 T.nn) (.int .i64 T.ns) (.slice A1 T.bs.length c1) (.slice D1 T.ts.length e1)
      have C6 := B6.grown hg (by omega)
      have HBn := below_grown HB hg (by omega) HB.size
      have S2 : ShR (st5 w7 (w.heap.size + 1 + 1 + 1 + 1) 0 (.int .i64 T.nb) (.int .i64 T.nn) (.int .i64 T.ns) (.slice A1 T.bs.length c1) (.slice D1 T.ts.length e1)) (st5 w7 (w.heap.size + 1 + 1 + 1 + 1) 0 (.int .i64 T.nb) (.int .i64 T.nn) (.int .i64 T.ns) (.slice A1 T.bs.length c1) (.slice D1 T.ts.length e1)).heap.size (.agg #[.int .i64 s.nb, .int .i64 s.nn, .int .i64 s.ns, .slice Ab s.bs.length cb, .slice An s.ts.length cn]) s := hS0.next HBn
      have T2 : Tabs (st5 w7 (w.heap.size + 1 + 1 + 1 + 1) 0 (.int .i64 T.nb) (.int .i64 T.nn) (.int .i64 T.ns) (.slice A1 T.bs.length c1) (.slice D1 T.ts.length e1)) := hT0.next HBn
      have hB1 := hA1.far hg (by omega)
      have hszn : w.heap.size + 6 ≤ (st5 w7 (w.heap.size + 1 + 1 + 1 + 1) 0 (.int .i64 T.nb) (.int .i64 T.nn) (.int .i64 T.ns) (.slice A1 T.bs.length c1) (.slice D1 T.ts.length e1)).heap.size := Nat.le_trans hsz hg.size
      clear hg
      obtain ⟨w8, hw8⟩ : ∃ V : World, V = (st5 w7 (w.heap.size + 1 + 1 + 1 + 1) 0 (.int .i64 T.nb) (.int .i64 T.nn) (.int .i64 T.ns) (.slice A1 T.bs.length c1) (.slice D1 T.ts.length e1)) := ⟨_, rfl⟩
      change Code.wp _ _ _ _ (st5 w7 (w.heap.size + 1 + 1 + 1 + 1) 0 (.int .i64 T.nb) (.int .i64 T.nn) (.int .i64 T.ns) (.slice A1 T.bs.length c1) (.slice D1 T.ts.length e1))
      rw [← hw8] at C1 C2 C3 C4 C5 C6 HBn S2 T2 hB1 hszn ⊢
      clear hw8 B1 B2 B3 B4 B5 B6 HB S1 T1 hA1 hsz k0 k1 k2 k3 k4 y0 y1 y2 y3 u0 fu0 u1 fu1 u2 fu2 u3 fu3 u4 fu4
      have B1 := C1
      have B2 := C2
      have B3 := C3
      have B4 := C4
      have B5 := C5
      have B6 := C6
      have HB := HBn
      have S1 := S2
      have T1 := T2
      have hA1 := hB1
      have hsz := hszn
      clear C1 C2 C3 C4 C5 C6 HBn S2 T2 hB1 hszn
      have k0 := B1.cell_ 0
      have k1 := B1.cell_ 1
      have k2 := B1.cell_ 2
      have k3 := B1.cell_ 3
      have k4 := B1.cell_ 4
      have y0 := B2.cell_ 0
      have y1 := B2.cell_ 1
      have y2 := B2.cell_ 2
      have y3 := B2.cell_ 3
      have u0 := B6.cell_ 0
      have u1 := B6.cell_ 1
      have u2 := B6.cell_ 2
      have u3 := B6.cell_ 3
      have u4 := B6.cell_ 4
      have fu0 := B6.free 0
      have fu1 := B6.free 1
      have fu2 := B6.free 2
      have fu3 := B6.free 3
      have fu4 := B6.free 4
      simp at k0 k1 k2 k3 k4 y0 y1 y2 y3 u0 u1 u2 u3 u4
      go_wp2_with (go_at_call 34; ((with_reducible refine (rdrop_all s _ a _ S1 HZ.out _ HC.out _ HR.out).mono ?_); rintro e' w9 ⟨v7, rfl, hA2, b7⟩; have hA1 := hA1.below b7; have hA2 := hA2.base_ hsz; obtain ⟨A2, c2, D2, e2, rfl, hp1, hp2, -⟩ := hA2.parts; clear hp1 hp2; have B1 := B1.below b7 B1.lt; have B2 := B2.below b7 B2.lt; have B3 := B3.below b7 B3.lt; have B4 := B4.below b7 B4.lt; have B5 := B5.below b7 B5.lt; have B6 := B6.below b7 B6.lt; have S1 := S1.next b7; have T1 := T1.next b7; have HB := btr HB HB.size b7; have hsz := Nat.le_trans hsz b7.size; (try clear k0 k1 k2 k3 k4 y0 y1 y2 y3 u0 fu0 u1 fu1 u2 fu2 u3 fu3 u4 fu4); have k0 := B1.cell_ 0; have k1 := B1.cell_ 1; have k2 := B1.cell_ 2; have k3 := B1.cell_ 3; have k4 := B1.cell_ 4; have y0 := B2.cell_ 0; have y1 := B2.cell_ 1; have y2 := B2.cell_ 2; have y3 := B2.cell_ 3; have u0 := B6.cell_ 0; have u1 := B6.cell_ 1; have u2 := B6.cell_ 2; have u3 := B6.cell_ 3; have u4 := B6.cell_ 4; have fu0 := B6.free 0; have fu1 := B6.free 1; have fu2 := B6.free 2; have fu3 := B6.free 3; have fu4 := B6.free 4; simp at k0 k1 k2 k3 k4 y0 y1 y2 y3 u0 u1 u2 u3 u4; clear b7))
      have hg := st5_grown w9 (w.heap.size + 1 + 1 + 1 + 1 + 1) 0 (.int .i64 T.nb) (.int .i64 T.nn) (.int .i64 T.ns) (.slice A2 T.bs.length c2) (.slice D2 T.ts.length e2)
      have C1 := B1.grown hg (by omega)
      have C2 := B2.grown hg (by omega)
      have C3 := B3.grown hg (by omega)
      have C4 := B4.grown hg (by omega)
      have C5 := B5.grown hg (by omega)
      have C6 := B6.st5_ (.int .i64 T.nb) (.int .i64 T.nn) (.int .i64 T.ns) (.slice A2 T.bs.length c2) (.slice D2 T.ts.length e2)
      have HBn := below_grown HB hg (by omega) HB.size
      have S2 : ShR (st5 w9 (w.heap.size + 1 + 1 + 1 + 1 + 1) 0 (.int .i64 T.nb) (.int .i64 T.nn) (.int .i64 T.ns) (.slice A2 T.bs.length c2) (.slice D2 T.ts.length e2)) (st5 w9 (w.heap.size + 1 + 1 + 1 + 1 + 1) 0 (.int .i64 T.nb) (.int .i64 T.nn) (.int .i64 T.ns) (.slice A2 T.bs.length c2) (.slice D2 T.ts.length e2)).heap.size (.agg #[.int .i64 s.nb, .int .i64 s.nn, .int .i64 s.ns, .slice Ab s.bs.length cb, .slice An s.ts.length cn]) s := hS0.next HBn
      have T2 : Tabs (st5 w9 (w.heap.size + 1 + 1 + 1 + 1 + 1) 0 (.int .i64 T.nb) (.int .i64 T.nn) (.int .i64 T.ns) (.slice A2 T.bs.length c2) (.slice D2 T.ts.length e2)) := hT0.next HBn
      have hB1 := hA1.far hg (by omega)
      have hB2 := hA2.far hg (by omega)
      have hszn : w.heap.size + 6 ≤ (st5 w9 (w.heap.size + 1 + 1 + 1 + 1 + 1) 0 (.int .i64 T.nb) (.int .i64 T.nn) (.int .i64 T.ns) (.slice A2 T.bs.length c2) (.slice D2 T.ts.length e2)).heap.size := Nat.le_trans hsz hg.size
      clear hg
      go_meet
      rw [HRT.out]
      refine ⟨⟨0, rfl, rfl⟩, ⟨c, rfl, rfl⟩, ⟨_, _, _, _, C5, hB1⟩, ⟨_, _, _, _, C6, hB2⟩, C3, C4, HBn, hszn⟩
    · obtain ⟨c, hc⟩ : ∃ c, noteC s a nm = c := ⟨_, rfl⟩
      obtain ⟨T, hTe⟩ : ∃ T, cond (c == 0) (noteS s a nm) zeroSf = T := ⟨_, rfl⟩
      have hRT : resS s ⟨3, a, b, nm⟩ = T := by rw [← hTe, ← hc]; rfl
      obtain ⟨N, hN⟩ : ∃ N, cond (c == 0) s.nn 0 = N := ⟨_, rfl⟩
      have HN := Lib.hid hN
      clear hN
      have HRT := Lib.hid hRT
      have HC := Lib.hid hc
      have HR := Lib.hid hTe
      clear hc hTe hRT
      have k0 := B1.cell_ 0
      have k1 := B1.cell_ 1
      have k2 := B1.cell_ 2
      have k3 := B1.cell_ 3
      have k4 := B1.cell_ 4
      have y0 := B2.cell_ 0
      have y1 := B2.cell_ 1
      have y2 := B2.cell_ 2
      have y3 := B2.cell_ 3
      have u0 := B5.cell_ 0
      have u1 := B5.cell_ 1
      have u2 := B5.cell_ 2
      have u3 := B5.cell_ 3
      have u4 := B5.cell_ 4
      have fu0 := B5.free 0
      have fu1 := B5.free 1
      have fu2 := B5.free 2
      have fu3 := B5.free 3
      have fu4 := B5.free 4
      simp at k0 k1 k2 k3 k4 y0 y1 y2 y3 u0 u1 u2 u3 u4
      go_upto_region 16 with (go_at_call 35; ((with_reducible refine (note_all s _ a nm _ S1 T1 _ HC.out _ HN.out _ HR.out).mono ?_); rintro e' w7 ⟨v7, rfl, hA1, b7⟩; have hA1 := hA1.base_ hsz; obtain ⟨A1, c1, D1, e1, rfl, hp1, hp2, -⟩ := hA1.parts; clear hp1 hp2; have B1 := B1.below b7 B1.lt; have B2 := B2.below b7 B2.lt; have B3 := B3.below b7 B3.lt; have B4 := B4.below b7 B4.lt; have B5 := B5.below b7 B5.lt; have B6 := B6.below b7 B6.lt; have S1 := S1.next b7; have T1 := T1.next b7; have HB := btr HB HB.size b7; have hsz := Nat.le_trans hsz b7.size; (try clear k0 k1 k2 k3 k4 y0 y1 y2 y3 u0 fu0 u1 fu1 u2 fu2 u3 fu3 u4 fu4); have k0 := B1.cell_ 0; have k1 := B1.cell_ 1; have k2 := B1.cell_ 2; have k3 := B1.cell_ 3; have k4 := B1.cell_ 4; have y0 := B2.cell_ 0; have y1 := B2.cell_ 1; have y2 := B2.cell_ 2; have y3 := B2.cell_ 3; have u0 := B5.cell_ 0; have u1 := B5.cell_ 1; have u2 := B5.cell_ 2; have u3 := B5.cell_ 3; have u4 := B5.cell_ 4; have fu0 := B5.free 0; have fu1 := B5.free 1; have fu2 := B5.free 2; have fu3 := B5.free 3; have fu4 := B5.free 4; simp at k0 k1 k2 k3 k4 y0 y1 y2 y3 u0 u1 u2 u3 u4; clear b7))
      have hg := st5_grown w7 (w.heap.size + 1 + 1 + 1 + 1) 0 (.int .i64 T.nb) (.int .i64 T.nn) (.int .i64 T.ns) (.slice A1 T.bs.length c1) (.slice D1 T.ts.length e1)
      have C1 := B1.grown hg (by omega)
      have C2 := B2.grown hg (by omega)
      have C3 := B3.grown hg (by omega)
      have C4 := B4.grown hg (by omega)
      have C5 := B5.st5_ (.int .i64 T.nb) (.int .i64 T.nn) (.int .i64 T.ns) (.slice A1 T.bs.length c1) (.slice D1 T.ts.length e1)
      have C6 := B6.grown hg (by omega)
      have HBn := below_grown HB hg (by omega) HB.size
      have S2 : ShR (st5 w7 (w.heap.size + 1 + 1 + 1 + 1) 0 (.int .i64 T.nb) (.int .i64 T.nn) (.int .i64 T.ns) (.slice A1 T.bs.length c1) (.slice D1 T.ts.length e1)) (st5 w7 (w.heap.size + 1 + 1 + 1 + 1) 0 (.int .i64 T.nb) (.int .i64 T.nn) (.int .i64 T.ns) (.slice A1 T.bs.length c1) (.slice D1 T.ts.length e1)).heap.size (.agg #[.int .i64 s.nb, .int .i64 s.nn, .int .i64 s.ns, .slice Ab s.bs.length cb, .slice An s.ts.length cn]) s := hS0.next HBn
      have T2 : Tabs (st5 w7 (w.heap.size + 1 + 1 + 1 + 1) 0 (.int .i64 T.nb) (.int .i64 T.nn) (.int .i64 T.ns) (.slice A1 T.bs.length c1) (.slice D1 T.ts.length e1)) := hT0.next HBn
      have hB1 := hA1.far hg (by omega)
      have hszn : w.heap.size + 6 ≤ (st5 w7 (w.heap.size + 1 + 1 + 1 + 1) 0 (.int .i64 T.nb) (.int .i64 T.nn) (.int .i64 T.ns) (.slice A1 T.bs.length c1) (.slice D1 T.ts.length e1)).heap.size := Nat.le_trans hsz hg.size
      clear hg
      obtain ⟨w8, hw8⟩ : ∃ V : World, V = (st5 w7 (w.heap.size + 1 + 1 + 1 + 1) 0 (.int .i64 T.nb) (.int .i64 T.nn) (.int .i64 T.ns) (.slice A1 T.bs.length c1) (.slice D1 T.ts.length e1)) := ⟨_, rfl⟩
      change Code.wp _ _ _ _ (st5 w7 (w.heap.size + 1 + 1 + 1 + 1) 0 (.int .i64 T.nb) (.int .i64 T.nn) (.int .i64 T.ns) (.slice A1 T.bs.length c1) (.slice D1 T.ts.length e1))
      rw [← hw8] at C1 C2 C3 C4 C5 C6 HBn S2 T2 hB1 hszn ⊢
      clear hw8 B1 B2 B3 B4 B5 B6 HB S1 T1 hA1 hsz k0 k1 k2 k3 k4 y0 y1 y2 y3 u0 fu0 u1 fu1 u2 fu2 u3 fu3 u4 fu4
      have B1 := C1
      have B2 := C2
      have B3 := C3
      have B4 := C4
      have B5 := C5
      have B6 := C6
      have HB := HBn
      have S1 := S2
      have T1 := T2
      have hA1 := hB1
      have hsz := hszn
      clear C1 C2 C3 C4 C5 C6 HBn S2 T2 hB1 hszn
      have k0 := B1.cell_ 0
      have k1 := B1.cell_ 1
      have k2 := B1.cell_ 2
      have k3 := B1.cell_ 3
      have k4 := B1.cell_ 4
      have y0 := B2.cell_ 0
      have y1 := B2.cell_ 1
      have y2 := B2.cell_ 2
      have y3 := B2.cell_ 3
      have u0 := B6.cell_ 0
      have u1 := B6.cell_ 1
      have u2 := B6.cell_ 2
      have u3 := B6.cell_ 3
      have u4 := B6.cell_ 4
      have fu0 := B6.free 0
      have fu1 := B6.free 1
      have fu2 := B6.free 2
      have fu3 := B6.free 3
      have fu4 := B6.free 4
      simp at k0 k1 k2 k3 k4 y0 y1 y2 y3 u0 u1 u2 u3 u4
      go_wp2_with (go_at_call 36; ((with_reducible refine (radd_all s _ a nm _ S1 HZ.out HX.out _ HC.out _ HN.out _ HR.out).mono ?_); rintro e' w9 ⟨v7, rfl, hA2, b7⟩; have hA1 := hA1.below b7; have hA2 := hA2.base_ hsz; obtain ⟨A2, c2, D2, e2, rfl, hp1, hp2, -⟩ := hA2.parts; clear hp1 hp2; have B1 := B1.below b7 B1.lt; have B2 := B2.below b7 B2.lt; have B3 := B3.below b7 B3.lt; have B4 := B4.below b7 B4.lt; have B5 := B5.below b7 B5.lt; have B6 := B6.below b7 B6.lt; have S1 := S1.next b7; have T1 := T1.next b7; have HB := btr HB HB.size b7; have hsz := Nat.le_trans hsz b7.size; (try clear k0 k1 k2 k3 k4 y0 y1 y2 y3 u0 fu0 u1 fu1 u2 fu2 u3 fu3 u4 fu4); have k0 := B1.cell_ 0; have k1 := B1.cell_ 1; have k2 := B1.cell_ 2; have k3 := B1.cell_ 3; have k4 := B1.cell_ 4; have y0 := B2.cell_ 0; have y1 := B2.cell_ 1; have y2 := B2.cell_ 2; have y3 := B2.cell_ 3; have u0 := B6.cell_ 0; have u1 := B6.cell_ 1; have u2 := B6.cell_ 2; have u3 := B6.cell_ 3; have u4 := B6.cell_ 4; have fu0 := B6.free 0; have fu1 := B6.free 1; have fu2 := B6.free 2; have fu3 := B6.free 3; have fu4 := B6.free 4; simp at k0 k1 k2 k3 k4 y0 y1 y2 y3 u0 u1 u2 u3 u4; clear b7))
      have hg := st5_grown w9 (w.heap.size + 1 + 1 + 1 + 1 + 1) 0 (.int .i64 T.nb) (.int .i64 T.nn) (.int .i64 T.ns) (.slice A2 T.bs.length c2) (.slice D2 T.ts.length e2)
      have C1 := B1.grown hg (by omega)
      have C2 := B2.grown hg (by omega)
      have C3 := B3.grown hg (by omega)
      have C4 := B4.grown hg (by omega)
      have C5 := B5.grown hg (by omega)
      have C6 := B6.st5_ (.int .i64 T.nb) (.int .i64 T.nn) (.int .i64 T.ns) (.slice A2 T.bs.length c2) (.slice D2 T.ts.length e2)
      have HBn := below_grown HB hg (by omega) HB.size
      have S2 : ShR (st5 w9 (w.heap.size + 1 + 1 + 1 + 1 + 1) 0 (.int .i64 T.nb) (.int .i64 T.nn) (.int .i64 T.ns) (.slice A2 T.bs.length c2) (.slice D2 T.ts.length e2)) (st5 w9 (w.heap.size + 1 + 1 + 1 + 1 + 1) 0 (.int .i64 T.nb) (.int .i64 T.nn) (.int .i64 T.ns) (.slice A2 T.bs.length c2) (.slice D2 T.ts.length e2)).heap.size (.agg #[.int .i64 s.nb, .int .i64 s.nn, .int .i64 s.ns, .slice Ab s.bs.length cb, .slice An s.ts.length cn]) s := hS0.next HBn
      have T2 : Tabs (st5 w9 (w.heap.size + 1 + 1 + 1 + 1 + 1) 0 (.int .i64 T.nb) (.int .i64 T.nn) (.int .i64 T.ns) (.slice A2 T.bs.length c2) (.slice D2 T.ts.length e2)) := hT0.next HBn
      have hB1 := hA1.far hg (by omega)
      have hB2 := hA2.far hg (by omega)
      have hszn : w.heap.size + 6 ≤ (st5 w9 (w.heap.size + 1 + 1 + 1 + 1 + 1) 0 (.int .i64 T.nb) (.int .i64 T.nn) (.int .i64 T.ns) (.slice A2 T.bs.length c2) (.slice D2 T.ts.length e2)).heap.size := Nat.le_trans hsz hg.size
      clear hg
      go_meet
      rw [HRT.out]
      refine ⟨⟨N, rfl, rfl⟩, ⟨c, rfl, rfl⟩, ⟨_, _, _, _, C5, hB1⟩, ⟨_, _, _, _, C6, hB2⟩, C3, C4, HBn, hszn⟩
    · obtain ⟨c, hc⟩ : ∃ c, retC s a nm = c := ⟨_, rfl⟩
      obtain ⟨T, hTe⟩ : ∃ T, cond (c == 0) (retS s a nm) zeroSf = T := ⟨_, rfl⟩
      have hRT : resS s ⟨4, a, b, nm⟩ = T := by rw [← hTe, ← hc]; rfl
      have HRT := Lib.hid hRT
      have HC := Lib.hid hc
      have HR := Lib.hid hTe
      clear hc hTe hRT
      have k0 := B1.cell_ 0
      have k1 := B1.cell_ 1
      have k2 := B1.cell_ 2
      have k3 := B1.cell_ 3
      have k4 := B1.cell_ 4
      have y0 := B2.cell_ 0
      have y1 := B2.cell_ 1
      have y2 := B2.cell_ 2
      have y3 := B2.cell_ 3
      have u0 := B5.cell_ 0
      have u1 := B5.cell_ 1
      have u2 := B5.cell_ 2
      have u3 := B5.cell_ 3
      have u4 := B5.cell_ 4
      have fu0 := B5.free 0
      have fu1 := B5.free 1
      have fu2 := B5.free 2
      have fu3 := B5.free 3
      have fu4 := B5.free 4
      simp at k0 k1 k2 k3 k4 y0 y1 y2 y3 u0 u1 u2 u3 u4
      go_upto_region 19 with (go_at_call 37; ((with_reducible refine (ret_all s _ a nm _ S1 T1 _ HC.out _ HR.out).mono ?_); rintro e' w7 ⟨v7, rfl, hA1, b7⟩; have hA1 := hA1.base_ hsz; obtain ⟨A1, c1, D1, e1, rfl, hp1, hp2, -⟩ := hA1.parts; clear hp1 hp2; have B1 := B1.below b7 B1.lt; have B2 := B2.below b7 B2.lt; have B3 := B3.below b7 B3.lt; have B4 := B4.below b7 B4.lt; have B5 := B5.below b7 B5.lt; have B6 := B6.below b7 B6.lt; have S1 := S1.next b7; have T1 := T1.next b7; have HB := btr HB HB.size b7; have hsz := Nat.le_trans hsz b7.size; (try clear k0 k1 k2 k3 k4 y0 y1 y2 y3 u0 fu0 u1 fu1 u2 fu2 u3 fu3 u4 fu4); have k0 := B1.cell_ 0; have k1 := B1.cell_ 1; have k2 := B1.cell_ 2; have k3 := B1.cell_ 3; have k4 := B1.cell_ 4; have y0 := B2.cell_ 0; have y1 := B2.cell_ 1; have y2 := B2.cell_ 2; have y3 := B2.cell_ 3; have u0 := B5.cell_ 0; have u1 := B5.cell_ 1; have u2 := B5.cell_ 2; have u3 := B5.cell_ 3; have u4 := B5.cell_ 4; have fu0 := B5.free 0; have fu1 := B5.free 1; have fu2 := B5.free 2; have fu3 := B5.free 3; have fu4 := B5.free 4; simp at k0 k1 k2 k3 k4 y0 y1 y2 y3 u0 u1 u2 u3 u4; clear b7))
      have hg := st5_grown w7 (w.heap.size + 1 + 1 + 1 + 1) 0 (.int .i64 T.nb) (.int .i64 T.nn) (.int .i64 T.ns) (.slice A1 T.bs.length c1) (.slice D1 T.ts.length e1)
      have C1 := B1.grown hg (by omega)
      have C2 := B2.grown hg (by omega)
      have C3 := B3.grown hg (by omega)
      have C4 := B4.grown hg (by omega)
      have C5 := B5.st5_ (.int .i64 T.nb) (.int .i64 T.nn) (.int .i64 T.ns) (.slice A1 T.bs.length c1) (.slice D1 T.ts.length e1)
      have C6 := B6.grown hg (by omega)
      have HBn := below_grown HB hg (by omega) HB.size
      have S2 : ShR (st5 w7 (w.heap.size + 1 + 1 + 1 + 1) 0 (.int .i64 T.nb) (.int .i64 T.nn) (.int .i64 T.ns) (.slice A1 T.bs.length c1) (.slice D1 T.ts.length e1)) (st5 w7 (w.heap.size + 1 + 1 + 1 + 1) 0 (.int .i64 T.nb) (.int .i64 T.nn) (.int .i64 T.ns) (.slice A1 T.bs.length c1) (.slice D1 T.ts.length e1)).heap.size (.agg #[.int .i64 s.nb, .int .i64 s.nn, .int .i64 s.ns, .slice Ab s.bs.length cb, .slice An s.ts.length cn]) s := hS0.next HBn
      have T2 : Tabs (st5 w7 (w.heap.size + 1 + 1 + 1 + 1) 0 (.int .i64 T.nb) (.int .i64 T.nn) (.int .i64 T.ns) (.slice A1 T.bs.length c1) (.slice D1 T.ts.length e1)) := hT0.next HBn
      have hB1 := hA1.far hg (by omega)
      have hszn : w.heap.size + 6 ≤ (st5 w7 (w.heap.size + 1 + 1 + 1 + 1) 0 (.int .i64 T.nb) (.int .i64 T.nn) (.int .i64 T.ns) (.slice A1 T.bs.length c1) (.slice D1 T.ts.length e1)).heap.size := Nat.le_trans hsz hg.size
      clear hg
      obtain ⟨w8, hw8⟩ : ∃ V : World, V = (st5 w7 (w.heap.size + 1 + 1 + 1 + 1) 0 (.int .i64 T.nb) (.int .i64 T.nn) (.int .i64 T.ns) (.slice A1 T.bs.length c1) (.slice D1 T.ts.length e1)) := ⟨_, rfl⟩
      change Code.wp _ _ _ _ (st5 w7 (w.heap.size + 1 + 1 + 1 + 1) 0 (.int .i64 T.nb) (.int .i64 T.nn) (.int .i64 T.ns) (.slice A1 T.bs.length c1) (.slice D1 T.ts.length e1))
      rw [← hw8] at C1 C2 C3 C4 C5 C6 HBn S2 T2 hB1 hszn ⊢
      clear hw8 B1 B2 B3 B4 B5 B6 HB S1 T1 hA1 hsz k0 k1 k2 k3 k4 y0 y1 y2 y3 u0 fu0 u1 fu1 u2 fu2 u3 fu3 u4 fu4
      have B1 := C1
      have B2 := C2
      have B3 := C3
      have B4 := C4
      have B5 := C5
      have B6 := C6
      have HB := HBn
      have S1 := S2
      have T1 := T2
      have hA1 := hB1
      have hsz := hszn
      clear C1 C2 C3 C4 C5 C6 HBn S2 T2 hB1 hszn
      have k0 := B1.cell_ 0
      have k1 := B1.cell_ 1
      have k2 := B1.cell_ 2
      have k3 := B1.cell_ 3
      have k4 := B1.cell_ 4
      have y0 := B2.cell_ 0
      have y1 := B2.cell_ 1
      have y2 := B2.cell_ 2
      have y3 := B2.cell_ 3
      have u0 := B6.cell_ 0
      have u1 := B6.cell_ 1
      have u2 := B6.cell_ 2
      have u3 := B6.cell_ 3
      have u4 := B6.cell_ 4
      have fu0 := B6.free 0
      have fu1 := B6.free 1
      have fu2 := B6.free 2
      have fu3 := B6.free 3
      have fu4 := B6.free 4
      simp at k0 k1 k2 k3 k4 y0 y1 y2 y3 u0 u1 u2 u3 u4
      go_wp2_with (go_at_call 38; ((with_reducible refine (rret_all s _ a nm _ S1 HZ.out HX.out _ HC.out _ HR.out).mono ?_); rintro e' w9 ⟨v7, rfl, hA2, b7⟩; have hA1 := hA1.below b7; have hA2 := hA2.base_ hsz; obtain ⟨A2, c2, D2, e2, rfl, hp1, hp2, -⟩ := hA2.parts; clear hp1 hp2; have B1 := B1.below b7 B1.lt; have B2 := B2.below b7 B2.lt; have B3 := B3.below b7 B3.lt; have B4 := B4.below b7 B4.lt; have B5 := B5.below b7 B5.lt; have B6 := B6.below b7 B6.lt; have S1 := S1.next b7; have T1 := T1.next b7; have HB := btr HB HB.size b7; have hsz := Nat.le_trans hsz b7.size; (try clear k0 k1 k2 k3 k4 y0 y1 y2 y3 u0 fu0 u1 fu1 u2 fu2 u3 fu3 u4 fu4); have k0 := B1.cell_ 0; have k1 := B1.cell_ 1; have k2 := B1.cell_ 2; have k3 := B1.cell_ 3; have k4 := B1.cell_ 4; have y0 := B2.cell_ 0; have y1 := B2.cell_ 1; have y2 := B2.cell_ 2; have y3 := B2.cell_ 3; have u0 := B6.cell_ 0; have u1 := B6.cell_ 1; have u2 := B6.cell_ 2; have u3 := B6.cell_ 3; have u4 := B6.cell_ 4; have fu0 := B6.free 0; have fu1 := B6.free 1; have fu2 := B6.free 2; have fu3 := B6.free 3; have fu4 := B6.free 4; simp at k0 k1 k2 k3 k4 y0 y1 y2 y3 u0 u1 u2 u3 u4; clear b7))
      have hg := st5_grown w9 (w.heap.size + 1 + 1 + 1 + 1 + 1) 0 (.int .i64 T.nb) (.int .i64 T.nn) (.int .i64 T.ns) (.slice A2 T.bs.length c2) (.slice D2 T.ts.length e2)
      have C1 := B1.grown hg (by omega)
      have C2 := B2.grown hg (by omega)
      have C3 := B3.grown hg (by omega)
      have C4 := B4.grown hg (by omega)
      have C5 := B5.grown hg (by omega)
      have C6 := B6.st5_ (.int .i64 T.nb) (.int .i64 T.nn) (.int .i64 T.ns) (.slice A2 T.bs.length c2) (.slice D2 T.ts.length e2)
      have HBn := below_grown HB hg (by omega) HB.size
      have S2 : ShR (st5 w9 (w.heap.size + 1 + 1 + 1 + 1 + 1) 0 (.int .i64 T.nb) (.int .i64 T.nn) (.int .i64 T.ns) (.slice A2 T.bs.length c2) (.slice D2 T.ts.length e2)) (st5 w9 (w.heap.size + 1 + 1 + 1 + 1 + 1) 0 (.int .i64 T.nb) (.int .i64 T.nn) (.int .i64 T.ns) (.slice A2 T.bs.length c2) (.slice D2 T.ts.length e2)).heap.size (.agg #[.int .i64 s.nb, .int .i64 s.nn, .int .i64 s.ns, .slice Ab s.bs.length cb, .slice An s.ts.length cn]) s := hS0.next HBn
      have T2 : Tabs (st5 w9 (w.heap.size + 1 + 1 + 1 + 1 + 1) 0 (.int .i64 T.nb) (.int .i64 T.nn) (.int .i64 T.ns) (.slice A2 T.bs.length c2) (.slice D2 T.ts.length e2)) := hT0.next HBn
      have hB1 := hA1.far hg (by omega)
      have hB2 := hA2.far hg (by omega)
      have hszn : w.heap.size + 6 ≤ (st5 w9 (w.heap.size + 1 + 1 + 1 + 1 + 1) 0 (.int .i64 T.nb) (.int .i64 T.nn) (.int .i64 T.ns) (.slice A2 T.bs.length c2) (.slice D2 T.ts.length e2)).heap.size := Nat.le_trans hsz hg.size
      clear hg
      go_meet
      rw [HRT.out]
      refine ⟨⟨0, rfl, rfl⟩, ⟨c, rfl, rfl⟩, ⟨_, _, _, _, C5, hB1⟩, ⟨_, _, _, _, C6, hB2⟩, C3, C4, HBn, hszn⟩
    · obtain ⟨c, hc⟩ : ∃ c, movC s a b = c := ⟨_, rfl⟩
      obtain ⟨T, hTe⟩ : ∃ T, cond (c == 0) (movS s a b) zeroSf = T := ⟨_, rfl⟩
      have hRT : resS s ⟨5, a, b, nm⟩ = T := by rw [← hTe, ← hc]; rfl
      have HRT := Lib.hid hRT
      have HC := Lib.hid hc
      have HR := Lib.hid hTe
      clear hc hTe hRT
      have k0 := B1.cell_ 0
      have k1 := B1.cell_ 1
      have k2 := B1.cell_ 2
      have k3 := B1.cell_ 3
      have k4 := B1.cell_ 4
      have y0 := B2.cell_ 0
      have y1 := B2.cell_ 1
      have y2 := B2.cell_ 2
      have y3 := B2.cell_ 3
      have u0 := B5.cell_ 0
      have u1 := B5.cell_ 1
      have u2 := B5.cell_ 2
      have u3 := B5.cell_ 3
      have u4 := B5.cell_ 4
      have fu0 := B5.free 0
      have fu1 := B5.free 1
      have fu2 := B5.free 2
      have fu3 := B5.free 3
      have fu4 := B5.free 4
      simp at k0 k1 k2 k3 k4 y0 y1 y2 y3 u0 u1 u2 u3 u4
      go_upto_region 22 with (go_at_call 39; ((with_reducible refine (mov_all s _ a b _ S1 T1 _ HC.out _ HR.out).mono ?_); rintro e' w7 ⟨v7, rfl, hA1, b7⟩; have hA1 := hA1.base_ hsz; obtain ⟨A1, c1, D1, e1, rfl, hp1, hp2, -⟩ := hA1.parts; clear hp1 hp2; have B1 := B1.below b7 B1.lt; have B2 := B2.below b7 B2.lt; have B3 := B3.below b7 B3.lt; have B4 := B4.below b7 B4.lt; have B5 := B5.below b7 B5.lt; have B6 := B6.below b7 B6.lt; have S1 := S1.next b7; have T1 := T1.next b7; have HB := btr HB HB.size b7; have hsz := Nat.le_trans hsz b7.size; (try clear k0 k1 k2 k3 k4 y0 y1 y2 y3 u0 fu0 u1 fu1 u2 fu2 u3 fu3 u4 fu4); have k0 := B1.cell_ 0; have k1 := B1.cell_ 1; have k2 := B1.cell_ 2; have k3 := B1.cell_ 3; have k4 := B1.cell_ 4; have y0 := B2.cell_ 0; have y1 := B2.cell_ 1; have y2 := B2.cell_ 2; have y3 := B2.cell_ 3; have u0 := B5.cell_ 0; have u1 := B5.cell_ 1; have u2 := B5.cell_ 2; have u3 := B5.cell_ 3; have u4 := B5.cell_ 4; have fu0 := B5.free 0; have fu1 := B5.free 1; have fu2 := B5.free 2; have fu3 := B5.free 3; have fu4 := B5.free 4; simp at k0 k1 k2 k3 k4 y0 y1 y2 y3 u0 u1 u2 u3 u4; clear b7))
      have hg := st5_grown w7 (w.heap.size + 1 + 1 + 1 + 1) 0 (.int .i64 T.nb) (.int .i64 T.nn) (.int .i64 T.ns) (.slice A1 T.bs.length c1) (.slice D1 T.ts.length e1)
      have C1 := B1.grown hg (by omega)
      have C2 := B2.grown hg (by omega)
      have C3 := B3.grown hg (by omega)
      have C4 := B4.grown hg (by omega)
      have C5 := B5.st5_ (.int .i64 T.nb) (.int .i64 T.nn) (.int .i64 T.ns) (.slice A1 T.bs.length c1) (.slice D1 T.ts.length e1)
      have C6 := B6.grown hg (by omega)
      have HBn := below_grown HB hg (by omega) HB.size
      have S2 : ShR (st5 w7 (w.heap.size + 1 + 1 + 1 + 1) 0 (.int .i64 T.nb) (.int .i64 T.nn) (.int .i64 T.ns) (.slice A1 T.bs.length c1) (.slice D1 T.ts.length e1)) (st5 w7 (w.heap.size + 1 + 1 + 1 + 1) 0 (.int .i64 T.nb) (.int .i64 T.nn) (.int .i64 T.ns) (.slice A1 T.bs.length c1) (.slice D1 T.ts.length e1)).heap.size (.agg #[.int .i64 s.nb, .int .i64 s.nn, .int .i64 s.ns, .slice Ab s.bs.length cb, .slice An s.ts.length cn]) s := hS0.next HBn
      have T2 : Tabs (st5 w7 (w.heap.size + 1 + 1 + 1 + 1) 0 (.int .i64 T.nb) (.int .i64 T.nn) (.int .i64 T.ns) (.slice A1 T.bs.length c1) (.slice D1 T.ts.length e1)) := hT0.next HBn
      have hB1 := hA1.far hg (by omega)
      have hszn : w.heap.size + 6 ≤ (st5 w7 (w.heap.size + 1 + 1 + 1 + 1) 0 (.int .i64 T.nb) (.int .i64 T.nn) (.int .i64 T.ns) (.slice A1 T.bs.length c1) (.slice D1 T.ts.length e1)).heap.size := Nat.le_trans hsz hg.size
      clear hg
      obtain ⟨w8, hw8⟩ : ∃ V : World, V = (st5 w7 (w.heap.size + 1 + 1 + 1 + 1) 0 (.int .i64 T.nb) (.int .i64 T.nn) (.int .i64 T.ns) (.slice A1 T.bs.length c1) (.slice D1 T.ts.length e1)) := ⟨_, rfl⟩
      change Code.wp _ _ _ _ (st5 w7 (w.heap.size + 1 + 1 + 1 + 1) 0 (.int .i64 T.nb) (.int .i64 T.nn) (.int .i64 T.ns) (.slice A1 T.bs.length c1) (.slice D1 T.ts.length e1))
      rw [← hw8] at C1 C2 C3 C4 C5 C6 HBn S2 T2 hB1 hszn ⊢
      clear hw8 B1 B2 B3 B4 B5 B6 HB S1 T1 hA1 hsz k0 k1 k2 k3 k4 y0 y1 y2 y3 u0 fu0 u1 fu1 u2 fu2 u3 fu3 u4 fu4
      have B1 := C1
      have B2 := C2
      have B3 := C3
      have B4 := C4
      have B5 := C5
      have B6 := C6
      have HB := HBn
      have S1 := S2
      have T1 := T2
      have hA1 := hB1
      have hsz := hszn
      clear C1 C2 C3 C4 C5 C6 HBn S2 T2 hB1 hszn
      have k0 := B1.cell_ 0
      have k1 := B1.cell_ 1
      have k2 := B1.cell_ 2
      have k3 := B1.cell_ 3
      have k4 := B1.cell_ 4
      have y0 := B2.cell_ 0
      have y1 := B2.cell_ 1
      have y2 := B2.cell_ 2
      have y3 := B2.cell_ 3
      have u0 := B6.cell_ 0
      have u1 := B6.cell_ 1
      have u2 := B6.cell_ 2
      have u3 := B6.cell_ 3
      have u4 := B6.cell_ 4
      have fu0 := B6.free 0
      have fu1 := B6.free 1
      have fu2 := B6.free 2
      have fu3 := B6.free 3
      have fu4 := B6.free 4
      simp at k0 k1 k2 k3 k4 y0 y1 y2 y3 u0 u1 u2 u3 u4
      go_wp2_with (go_at_call 40; ((with_reducible refine (rmov_all s _ a b _ S1 HZ.out _ HC.out _ HR.out).mono ?_); rintro e' w9 ⟨v7, rfl, hA2, b7⟩; have hA1 := hA1.below b7; have hA2 := hA2.base_ hsz; obtain ⟨A2, c2, D2, e2, rfl, hp1, hp2, -⟩ := hA2.parts; clear hp1 hp2; have B1 := B1.below b7 B1.lt; have B2 := B2.below b7 B2.lt; have B3 := B3.below b7 B3.lt; have B4 := B4.below b7 B4.lt; have B5 := B5.below b7 B5.lt; have B6 := B6.below b7 B6.lt; have S1 := S1.next b7; have T1 := T1.next b7; have HB := btr HB HB.size b7; have hsz := Nat.le_trans hsz b7.size; (try clear k0 k1 k2 k3 k4 y0 y1 y2 y3 u0 fu0 u1 fu1 u2 fu2 u3 fu3 u4 fu4); have k0 := B1.cell_ 0; have k1 := B1.cell_ 1; have k2 := B1.cell_ 2; have k3 := B1.cell_ 3; have k4 := B1.cell_ 4; have y0 := B2.cell_ 0; have y1 := B2.cell_ 1; have y2 := B2.cell_ 2; have y3 := B2.cell_ 3; have u0 := B6.cell_ 0; have u1 := B6.cell_ 1; have u2 := B6.cell_ 2; have u3 := B6.cell_ 3; have u4 := B6.cell_ 4; have fu0 := B6.free 0; have fu1 := B6.free 1; have fu2 := B6.free 2; have fu3 := B6.free 3; have fu4 := B6.free 4; simp at k0 k1 k2 k3 k4 y0 y1 y2 y3 u0 u1 u2 u3 u4; clear b7))
      have hg := st5_grown w9 (w.heap.size + 1 + 1 + 1 + 1 + 1) 0 (.int .i64 T.nb) (.int .i64 T.nn) (.int .i64 T.ns) (.slice A2 T.bs.length c2) (.slice D2 T.ts.length e2)
      have C1 := B1.grown hg (by omega)
      have C2 := B2.grown hg (by omega)
      have C3 := B3.grown hg (by omega)
      have C4 := B4.grown hg (by omega)
      have C5 := B5.grown hg (by omega)
      have C6 := B6.st5_ (.int .i64 T.nb) (.int .i64 T.nn) (.int .i64 T.ns) (.slice A2 T.bs.length c2) (.slice D2 T.ts.length e2)
      have HBn := below_grown HB hg (by omega) HB.size
      have S2 : ShR (st5 w9 (w.heap.size + 1 + 1 + 1 + 1 + 1) 0 (.int .i64 T.nb) (.int .i64 T.nn) (.int .i64 T.ns) (.slice A2 T.bs.length c2) (.slice D2 T.ts.length e2)) (st5 w9 (w.heap.size + 1 + 1 + 1 + 1 + 1) 0 (.int .i64 T.nb) (.int .i64 T.nn) (.int .i64 T.ns) (.slice A2 T.bs.length c2) (.slice D2 T.ts.length e2)).heap.size (.agg #[.int .i64 s.nb, .int .i64 s.nn, .int .i64 s.ns, .slice Ab s.bs.length cb, .slice An s.ts.length cn]) s := hS0.next HBn
      have T2 : Tabs (st5 w9 (w.heap.size + 1 + 1 + 1 + 1 + 1) 0 (.int .i64 T.nb) (.int .i64 T.nn) (.int .i64 T.ns) (.slice A2 T.bs.length c2) (.slice D2 T.ts.length e2)) := hT0.next HBn
      have hB1 := hA1.far hg (by omega)
      have hB2 := hA2.far hg (by omega)
      have hszn : w.heap.size + 6 ≤ (st5 w9 (w.heap.size + 1 + 1 + 1 + 1 + 1) 0 (.int .i64 T.nb) (.int .i64 T.nn) (.int .i64 T.ns) (.slice A2 T.bs.length c2) (.slice D2 T.ts.length e2)).heap.size := Nat.le_trans hsz hg.size
      clear hg
      go_meet
      rw [HRT.out]
      refine ⟨⟨0, rfl, rfl⟩, ⟨c, rfl, rfl⟩, ⟨_, _, _, _, C5, hB1⟩, ⟨_, _, _, _, C6, hB2⟩, C3, C4, HBn, hszn⟩
    · obtain ⟨c, hc⟩ : ∃ c, discC s a = c := ⟨_, rfl⟩
      obtain ⟨T, hTe⟩ : ∃ T, cond (c == 0) (discS s a) zeroSf = T := ⟨_, rfl⟩
      have hRT : resS s ⟨6, a, b, nm⟩ = T := by rw [← hTe, ← hc]; rfl
      have HRT := Lib.hid hRT
      have HC := Lib.hid hc
      have HR := Lib.hid hTe
      clear hc hTe hRT
      have k0 := B1.cell_ 0
      have k1 := B1.cell_ 1
      have k2 := B1.cell_ 2
      have k3 := B1.cell_ 3
      have k4 := B1.cell_ 4
      have y0 := B2.cell_ 0
      have y1 := B2.cell_ 1
      have y2 := B2.cell_ 2
      have y3 := B2.cell_ 3
      have u0 := B5.cell_ 0
      have u1 := B5.cell_ 1
      have u2 := B5.cell_ 2
      have u3 := B5.cell_ 3
      have u4 := B5.cell_ 4
      have fu0 := B5.free 0
      have fu1 := B5.free 1
      have fu2 := B5.free 2
      have fu3 := B5.free 3
      have fu4 := B5.free 4
      simp at k0 k1 k2 k3 k4 y0 y1 y2 y3 u0 u1 u2 u3 u4
      go_upto_region 25 with (go_at_call 41; ((with_reducible refine (disc_all s _ a _ S1 T1 _ HC.out _ HR.out).mono ?_); rintro e' w7 ⟨v7, rfl, hA1, b7⟩; have hA1 := hA1.base_ hsz; obtain ⟨A1, c1, D1, e1, rfl, hp1, hp2, -⟩ := hA1.parts; clear hp1 hp2; have B1 := B1.below b7 B1.lt; have B2 := B2.below b7 B2.lt; have B3 := B3.below b7 B3.lt; have B4 := B4.below b7 B4.lt; have B5 := B5.below b7 B5.lt; have B6 := B6.below b7 B6.lt; have S1 := S1.next b7; have T1 := T1.next b7; have HB := btr HB HB.size b7; have hsz := Nat.le_trans hsz b7.size; (try clear k0 k1 k2 k3 k4 y0 y1 y2 y3 u0 fu0 u1 fu1 u2 fu2 u3 fu3 u4 fu4); have k0 := B1.cell_ 0; have k1 := B1.cell_ 1; have k2 := B1.cell_ 2; have k3 := B1.cell_ 3; have k4 := B1.cell_ 4; have y0 := B2.cell_ 0; have y1 := B2.cell_ 1; have y2 := B2.cell_ 2; have y3 := B2.cell_ 3; have u0 := B5.cell_ 0; have u1 := B5.cell_ 1; have u2 := B5.cell_ 2; have u3 := B5.cell_ 3; have u4 := B5.cell_ 4; have fu0 := B5.free 0; have fu1 := B5.free 1; have fu2 := B5.free 2; have fu3 := B5.free 3; have fu4 := B5.free 4; simp at k0 k1 k2 k3 k4 y0 y1 y2 y3 u0 u1 u2 u3 u4; clear b7))
      have hg := st5_grown w7 (w.heap.size + 1 + 1 + 1 + 1) 0 (.int .i64 T.nb) (.int .i64 T.nn) (.int .i64 T.ns) (.slice A1 T.bs.length c1) (.slice D1 T.ts.length e1)
      have C1 := B1.grown hg (by omega)
      have C2 := B2.grown hg (by omega)
      have C3 := B3.grown hg (by omega)
      have C4 := B4.grown hg (by omega)
      have C5 := B5.st5_ (.int .i64 T.nb) (.int .i64 T.nn) (.int .i64 T.ns) (.slice A1 T.bs.length c1) (.slice D1 T.ts.length e1)
      have C6 := B6.grown hg (by omega)
      have HBn := below_grown HB hg (by omega) HB.size
      have S2 : ShR (st5 w7 (w.heap.size + 1 + 1 + 1 + 1) 0 (.int .i64 T.nb) (.int .i64 T.nn) (.int .i64 T.ns) (.slice A1 T.bs.length c1) (.slice D1 T.ts.length e1)) (st5 w7 (w.heap.size + 1 + 1 + 1 + 1) 0 (.int .i64 T.nb) (.int .i64 T.nn) (.int .i64 T.ns) (.slice A1 T.bs.length c1) (.slice D1 T.ts.length e1)).heap.size (.agg #[.int .i64 s.nb, .int .i64 s.nn, .int .i64 s.ns, .slice Ab s.bs.length cb, .slice An s.ts.length cn]) s := hS0.next HBn
      have T2 : Tabs (st5 w7 (w.heap.size + 1 + 1 + 1 + 1) 0 (.int .i64 T.nb) (.int .i64 T.nn) (.int .i64 T.ns) (.slice A1 T.bs.length c1) (.slice D1 T.ts.length e1)) := hT0.next HBn
      have hB1 := hA1.far hg (by omega)
      have hszn : w.heap.size + 6 ≤ (st5 w7 (w.heap.size + 1 + 1 + 1 + 1) 0 (.int .i64 T.nb) (.int .i64 T.nn) (.int .i64 T.ns) (.slice A1 T.bs.length c1) (.slice D1 T.ts.length e1)).heap.size := Nat.le_trans hsz hg.size
      clear hg
      obtain ⟨w8, hw8⟩ : ∃ V : World, V = (st5 w7 (w.heap.size + 1 + 1 + 1 + 1) 0 (.int .i64 T.nb) (.int .i64 T.nn) (.int .i64 T.ns) (.slice A1 T.bs.length c1) (.slice D1 T.ts.length e1)) := ⟨_, rfl⟩
      change Code.wp _ _ _ _ (st5 w7 (w.heap.size + 1 + 1 + 1 + 1) 0 (.int .i64 T.nb) (.int .i64 T.nn) (.int .i64 T.ns) (.slice A1 T.bs.length c1) (.slice D1 T.ts.length e1))
      rw [← hw8] at C1 C2 C3 C4 C5 C6 HBn S2 T2 hB1 hszn ⊢
      clear hw8 B1 B2 B3 B4 B5 B6 HB S1 T1 hA1 hsz k0 k1 k2 k3 k4 y0 y1 y2 y3 u0 fu0 u1 fu1 u2 fu2 u3 fu3 u4 fu4
      have B1 := C1
      have B2 := C2
      have B3 := C3
      have B4 := C4
      have B5 := C5
      have B6 := C6
      have HB := HBn
      have S1 := S2
      have T1 := T2
      have hA1 := hB1
      have hsz := hszn
      clear C1 C2 C3 C4 C5 C6 HBn S2 T2 hB1 hszn
      have k0 := B1.cell_ 0
      have k1 := B1.cell_ 1
      have k2 := B1.cell_ 2
      have k3 := B1.cell_ 3
      have k4 := B1.cell_ 4
      have y0 := B2.cell_ 0
      have y1 := B2.cell_ 1
      have y2 := B2.cell_ 2
      have y3 := B2.cell_ 3
      have u0 := B6.cell_ 0
      have u1 := B6.cell_ 1
      have u2 := B6.cell_ 2
      have u3 := B6.cell_ 3
      have u4 := B6.cell_ 4
      have fu0 := B6.free 0
      have fu1 := B6.free 1
      have fu2 := B6.free 2
      have fu3 := B6.free 3
      have fu4 := B6.free 4
      simp at k0 k1 k2 k3 k4 y0 y1 y2 y3 u0 u1 u2 u3 u4
      go_wp2_with (go_at_call 42; ((with_reducible refine (rdisc_all s _ a _ S1 HZ.out _ HC.out _ HR.out).mono ?_); rintro e' w9 ⟨v7, rfl, hA2, b7⟩; have hA1 := hA1.below b7; have hA2 := hA2.base_ hsz; obtain ⟨A2, c2, D2, e2, rfl, hp1, hp2, -⟩ := hA2.parts; clear hp1 hp2; have B1 := B1.below b7 B1.lt; have B2 := B2.below b7 B2.lt; have B3 := B3.below b7 B3.lt; have B4 := B4.below b7 B4.lt; have B5 := B5.below b7 B5.lt; have B6 := B6.below b7 B6.lt; have S1 := S1.next b7; have T1 := T1.next b7; have HB := btr HB HB.size b7; have hsz := Nat.le_trans hsz b7.size; (try clear k0 k1 k2 k3 k4 y0 y1 y2 y3 u0 fu0 u1 fu1 u2 fu2 u3 fu3 u4 fu4); have k0 := B1.cell_ 0; have k1 := B1.cell_ 1; have k2 := B1.cell_ 2; have k3 := B1.cell_ 3; have k4 := B1.cell_ 4; have y0 := B2.cell_ 0; have y1 := B2.cell_ 1; have y2 := B2.cell_ 2; have y3 := B2.cell_ 3; have u0 := B6.cell_ 0; have u1 := B6.cell_ 1; have u2 := B6.cell_ 2; have u3 := B6.cell_ 3; have u4 := B6.cell_ 4; have fu0 := B6.free 0; have fu1 := B6.free 1; have fu2 := B6.free 2; have fu3 := B6.free 3; have fu4 := B6.free 4; simp at k0 k1 k2 k3 k4 y0 y1 y2 y3 u0 u1 u2 u3 u4; clear b7))
      have hg := st5_grown w9 (w.heap.size + 1 + 1 + 1 + 1 + 1) 0 (.int .i64 T.nb) (.int .i64 T.nn) (.int .i64 T.ns) (.slice A2 T.bs.length c2) (.slice D2 T.ts.length e2)
      have C1 := B1.grown hg (by omega)
      have C2 := B2.grown hg (by omega)
      have C3 := B3.grown hg (by omega)
      have C4 := B4.grown hg (by omega)
      have C5 := B5.grown hg (by omega)
      have C6 := B6.st5_ (.int .i64 T.nb) (.int .i64 T.nn) (.int .i64 T.ns) (.slice A2 T.bs.length c2) (.slice D2 T.ts.length e2)
      have HBn := below_grown HB hg (by omega) HB.size
      have S2 : ShR (st5 w9 (w.heap.size + 1 + 1 + 1 + 1 + 1) 0 (.int .i64 T.nb) (.int .i64 T.nn) (.int .i64 T.ns) (.slice A2 T.bs.length c2) (.slice D2 T.ts.length e2)) (st5 w9 (w.heap.size + 1 + 1 + 1 + 1 + 1) 0 (.int .i64 T.nb) (.int .i64 T.nn) (.int .i64 T.ns) (.slice A2 T.bs.length c2) (.slice D2 T.ts.length e2)).heap.size (.agg #[.int .i64 s.nb, .int .i64 s.nn, .int .i64 s.ns, .slice Ab s.bs.length cb, .slice An s.ts.length cn]) s := hS0.next HBn
      have T2 : Tabs (st5 w9 (w.heap.size + 1 + 1 + 1 + 1 + 1) 0 (.int .i64 T.nb) (.int .i64 T.nn) (.int .i64 T.ns) (.slice A2 T.bs.length c2) (.slice D2 T.ts.length e2)) := hT0.next HBn
      have hB1 := hA1.far hg (by omega)
      have hB2 := hA2.far hg (by omega)
      have hszn : w.heap.size + 6 ≤ (st5 w9 (w.heap.size + 1 + 1 + 1 + 1 + 1) 0 (.int .i64 T.nb) (.int .i64 T.nn) (.int .i64 T.ns) (.slice A2 T.bs.length c2) (.slice D2 T.ts.length e2)).heap.size := Nat.le_trans hsz hg.size
      clear hg
      go_meet
      rw [HRT.out]
      refine ⟨⟨0, rfl, rfl⟩, ⟨c, rfl, rfl⟩, ⟨_, _, _, _, C5, hB1⟩, ⟨_, _, _, _, C6, hB2⟩, C3, C4, HBn, hszn⟩
    · have hRT : resS s ⟨d, a, b, nm⟩ = zeroSf := by
        have : actC s ⟨d, a, b, nm⟩ = 8 := by unfold actC; simp [d0, d1, d2, d3, d4, d5, d6]
        unfold resS
        rw [this]
        rfl
      have HRT := Lib.hid hRT
      clear hRT
      have k0 := B1.cell_ 0
      have k1 := B1.cell_ 1
      have k2 := B1.cell_ 2
      have k3 := B1.cell_ 3
      have k4 := B1.cell_ 4
      have y0 := B2.cell_ 0
      have y1 := B2.cell_ 1
      have y2 := B2.cell_ 2
      have y3 := B2.cell_ 3
      have u0 := B5.cell_ 0
      have u1 := B5.cell_ 1
      have u2 := B5.cell_ 2
      have u3 := B5.cell_ 3
      have u4 := B5.cell_ 4
      have fu0 := B5.free 0
      have fu1 := B5.free 1
      have fu2 := B5.free 2
      have fu3 := B5.free 3
      have fu4 := B5.free 4
      simp at k0 k1 k2 k3 k4 y0 y1 y2 y3 u0 u1 u2 u3 u4
      go_wp2_with fail
      go_meet
      rw [HRT.out]
      exact ⟨⟨0, rfl, rfl⟩, ⟨0, rfl, rfl⟩, ⟨_, _, _, _, B5, zeroW _ _⟩, ⟨_, _, _, _, B6, zeroW _ _⟩, B3, B4, HB, hsz⟩
  case rest =>
    obtain ⟨T, hRT⟩ : ∃ T, resS s ⟨d, a, b, nm⟩ = T := ⟨_, rfl⟩
    rw [hRT] at hcut HSM
    have HRT := Lib.hid hRT
    clear hRT B1 B2 B3 B4 B5 B6 HB S1 T1 hsz
    obtain ⟨⟨N, rfl, rfl⟩, ⟨c, rfl, rfl⟩, ⟨A1, c1, D1, e1, B5, hA1⟩, ⟨A2, c2, D2, e2, B6, hA2⟩, B3, B4, HB, hsz⟩ := hcut
    have u0 := B5.cell_ 0
    have u1 := B5.cell_ 1
    have u2 := B5.cell_ 2
    have u3 := B5.cell_ 3
    have u4 := B5.cell_ 4
    have x0 := B6.cell_ 0
    have x1 := B6.cell_ 1
    have x2 := B6.cell_ 2
    have x3 := B6.cell_ 3
    have x4 := B6.cell_ 4
    simp at u0 u1 u2 u3 u4 x0 x1 x2 x3 x4
    have QD : wc.drew.cell? ⟨w.heap.size + 1 + 1 + 1 + 1, 0, none⟩ = some (.int .i64 T.nb) ∧ wc.drew.cell? ⟨w.heap.size + 1 + 1 + 1 + 1, 1, none⟩ = some (.int .i64 T.nn) ∧ wc.drew.cell? ⟨w.heap.size + 1 + 1 + 1 + 1, 2, none⟩ = some (.int .i64 T.ns) ∧ wc.drew.cell? ⟨w.heap.size + 1 + 1 + 1 + 1, 3, none⟩ = some (.slice A1 T.bs.length c1) ∧ wc.drew.cell? ⟨w.heap.size + 1 + 1 + 1 + 1, 4, none⟩ = some (.slice D1 T.ts.length e1) ∧ wc.drew.cell? ⟨w.heap.size + 1 + 1 + 1 + 1 + 1, 0, none⟩ = some (.int .i64 T.nb) ∧ wc.drew.cell? ⟨w.heap.size + 1 + 1 + 1 + 1 + 1, 1, none⟩ = some (.int .i64 T.nn) ∧ wc.drew.cell? ⟨w.heap.size + 1 + 1 + 1 + 1 + 1, 2, none⟩ = some (.int .i64 T.ns) ∧ wc.drew.cell? ⟨w.heap.size + 1 + 1 + 1 + 1 + 1, 3, none⟩ = some (.slice A2 T.bs.length c2) ∧ wc.drew.cell? ⟨w.heap.size + 1 + 1 + 1 + 1 + 1, 4, none⟩ = some (.slice D2 T.ts.length e2) := ⟨drew_cell u0, drew_cell u1, drew_cell u2, drew_cell u3, drew_cell u4, drew_cell x0, drew_cell x1, drew_cell x2, drew_cell x3, drew_cell x4⟩
    go_upto_region 26 with fail
    refine wp_region_noPanic ?_
    refine wp_region_held_drew (S := (fun w_ => w_.cell? ⟨w.heap.size + 1 + 1 + 1 + 1, 0, none⟩ = some (.int .i64 T.nb) ∧ w_.cell? ⟨w.heap.size + 1 + 1 + 1 + 1, 1, none⟩ = some (.int .i64 T.nn) ∧ w_.cell? ⟨w.heap.size + 1 + 1 + 1 + 1, 2, none⟩ = some (.int .i64 T.ns) ∧ w_.cell? ⟨w.heap.size + 1 + 1 + 1 + 1, 3, none⟩ = some (.slice A1 T.bs.length c1) ∧ w_.cell? ⟨w.heap.size + 1 + 1 + 1 + 1, 4, none⟩ = some (.slice D1 T.ts.length e1) ∧ w_.cell? ⟨w.heap.size + 1 + 1 + 1 + 1 + 1, 0, none⟩ = some (.int .i64 T.nb) ∧ w_.cell? ⟨w.heap.size + 1 + 1 + 1 + 1 + 1, 1, none⟩ = some (.int .i64 T.nn) ∧ w_.cell? ⟨w.heap.size + 1 + 1 + 1 + 1 + 1, 2, none⟩ = some (.int .i64 T.ns) ∧ w_.cell? ⟨w.heap.size + 1 + 1 + 1 + 1 + 1, 3, none⟩ = some (.slice A2 T.bs.length c2) ∧ w_.cell? ⟨w.heap.size + 1 + 1 + 1 + 1 + 1, 4, none⟩ = some (.slice D2 T.ts.length e2))) (by kernel_rfl) ?_ (fun hHeld => ?_)
    · (first | with_reducible exact QD | with_reducible exact QN | with_reducible exact QM | exact QB | exact QA)
    refine tk 0 ⟨some 147, .load 25 (.tmp 7), 25, "law.go:75", #[], none⟩ ?_; try simp only [Act.put, pz1, pz2, pz3]
    refine tk 1 ⟨some 148, .load 25 (.tmp 8), 25, "law.go:75", #[{ on := 16, ground := Ground.gcOnly Departure.lateStores }], none⟩ ?_; try simp only [Act.put, pz1, pz2, pz3]
    refine tk 2 ⟨some 149, .move (.tmp 12), 38, "law.go:75", #[], none⟩ ?_; try simp only [Act.put, pz1, pz2, pz3]
    refine tk 4 ⟨some 151, .move (.tmp 11), 3, "law.go:75", #[], none⟩ ?_; try simp only [Act.put, pz1, pz2, pz3]
    refine wpAnyH_ready (rs := [3]) (by kernel_rfl) (by simp) ?_
    refine AllReadyH.cons (o := ⟨some 150, .call { callee := .value (.func 20), args := #[.tmp 149], argTypes := #[38] }, 3, "law.go:75", #[⟨2, .data⟩], none⟩) rfl (fun K hK => ?_) AllReadyH.nil
    go_simp
    (first | (go_at_call 20; ((with_reducible refine (num_any c _).mono ?_); rintro e' wn ⟨rfl, bn⟩; have bn := btr (below_dr wc) (Nat.le_refl _) bn; have B5n := B5.below bn B5.lt; have B6n := B6.below bn B6.lt; have QN : wn.cell? ⟨w.heap.size + 1 + 1 + 1 + 1, 0, none⟩ = some (.int .i64 T.nb) ∧ wn.cell? ⟨w.heap.size + 1 + 1 + 1 + 1, 1, none⟩ = some (.int .i64 T.nn) ∧ wn.cell? ⟨w.heap.size + 1 + 1 + 1 + 1, 2, none⟩ = some (.int .i64 T.ns) ∧ wn.cell? ⟨w.heap.size + 1 + 1 + 1 + 1, 3, none⟩ = some (.slice A1 T.bs.length c1) ∧ wn.cell? ⟨w.heap.size + 1 + 1 + 1 + 1, 4, none⟩ = some (.slice D1 T.ts.length e1) ∧ wn.cell? ⟨w.heap.size + 1 + 1 + 1 + 1 + 1, 0, none⟩ = some (.int .i64 T.nb) ∧ wn.cell? ⟨w.heap.size + 1 + 1 + 1 + 1 + 1, 1, none⟩ = some (.int .i64 T.nn) ∧ wn.cell? ⟨w.heap.size + 1 + 1 + 1 + 1 + 1, 2, none⟩ = some (.int .i64 T.ns) ∧ wn.cell? ⟨w.heap.size + 1 + 1 + 1 + 1 + 1, 3, none⟩ = some (.slice A2 T.bs.length c2) ∧ wn.cell? ⟨w.heap.size + 1 + 1 + 1 + 1 + 1, 4, none⟩ = some (.slice D2 T.ts.length e2) := ⟨(bn.cell (p := ⟨w.heap.size + 1 + 1 + 1 + 1, 0, none⟩) B5.lt).trans u0, (bn.cell (p := ⟨w.heap.size + 1 + 1 + 1 + 1, 1, none⟩) B5.lt).trans u1, (bn.cell (p := ⟨w.heap.size + 1 + 1 + 1 + 1, 2, none⟩) B5.lt).trans u2, (bn.cell (p := ⟨w.heap.size + 1 + 1 + 1 + 1, 3, none⟩) B5.lt).trans u3, (bn.cell (p := ⟨w.heap.size + 1 + 1 + 1 + 1, 4, none⟩) B5.lt).trans u4, (bn.cell (p := ⟨w.heap.size + 1 + 1 + 1 + 1 + 1, 0, none⟩) B6.lt).trans x0, (bn.cell (p := ⟨w.heap.size + 1 + 1 + 1 + 1 + 1, 1, none⟩) B6.lt).trans x1, (bn.cell (p := ⟨w.heap.size + 1 + 1 + 1 + 1 + 1, 2, none⟩) B6.lt).trans x2, (bn.cell (p := ⟨w.heap.size + 1 + 1 + 1 + 1 + 1, 3, none⟩) B6.lt).trans x3, (bn.cell (p := ⟨w.heap.size + 1 + 1 + 1 + 1 + 1, 4, none⟩) B6.lt).trans x4⟩; have hA1n := hA1.below bn; have hA2n := hA2.below bn)) | (go_at_call 25; ((with_reducible refine (sameShelf_yes T _ _ _ hA1n.toR hA2n.toR HSM.out.1 HSM.out.2.1 HSM.out.2.2).mono ?_); rintro e' wm ⟨rfl, bm⟩; have bm := btr bn bn.size bm; have QM : wm.cell? ⟨w.heap.size + 1 + 1 + 1 + 1, 0, none⟩ = some (.int .i64 T.nb) ∧ wm.cell? ⟨w.heap.size + 1 + 1 + 1 + 1, 1, none⟩ = some (.int .i64 T.nn) ∧ wm.cell? ⟨w.heap.size + 1 + 1 + 1 + 1, 2, none⟩ = some (.int .i64 T.ns) ∧ wm.cell? ⟨w.heap.size + 1 + 1 + 1 + 1, 3, none⟩ = some (.slice A1 T.bs.length c1) ∧ wm.cell? ⟨w.heap.size + 1 + 1 + 1 + 1, 4, none⟩ = some (.slice D1 T.ts.length e1) ∧ wm.cell? ⟨w.heap.size + 1 + 1 + 1 + 1 + 1, 0, none⟩ = some (.int .i64 T.nb) ∧ wm.cell? ⟨w.heap.size + 1 + 1 + 1 + 1 + 1, 1, none⟩ = some (.int .i64 T.nn) ∧ wm.cell? ⟨w.heap.size + 1 + 1 + 1 + 1 + 1, 2, none⟩ = some (.int .i64 T.ns) ∧ wm.cell? ⟨w.heap.size + 1 + 1 + 1 + 1 + 1, 3, none⟩ = some (.slice A2 T.bs.length c2) ∧ wm.cell? ⟨w.heap.size + 1 + 1 + 1 + 1 + 1, 4, none⟩ = some (.slice D2 T.ts.length e2) := ⟨(bm.cell (p := ⟨w.heap.size + 1 + 1 + 1 + 1, 0, none⟩) B5.lt).trans u0, (bm.cell (p := ⟨w.heap.size + 1 + 1 + 1 + 1, 1, none⟩) B5.lt).trans u1, (bm.cell (p := ⟨w.heap.size + 1 + 1 + 1 + 1, 2, none⟩) B5.lt).trans u2, (bm.cell (p := ⟨w.heap.size + 1 + 1 + 1 + 1, 3, none⟩) B5.lt).trans u3, (bm.cell (p := ⟨w.heap.size + 1 + 1 + 1 + 1, 4, none⟩) B5.lt).trans u4, (bm.cell (p := ⟨w.heap.size + 1 + 1 + 1 + 1 + 1, 0, none⟩) B6.lt).trans x0, (bm.cell (p := ⟨w.heap.size + 1 + 1 + 1 + 1 + 1, 1, none⟩) B6.lt).trans x1, (bm.cell (p := ⟨w.heap.size + 1 + 1 + 1 + 1 + 1, 2, none⟩) B6.lt).trans x2, (bm.cell (p := ⟨w.heap.size + 1 + 1 + 1 + 1 + 1, 3, none⟩) B6.lt).trans x3, (bm.cell (p := ⟨w.heap.size + 1 + 1 + 1 + 1 + 1, 4, none⟩) B6.lt).trans x4⟩; have hA1m := hA1.below bm; have hA2m := hA2.below bm; have B3m := B3.below bm B3.lt; have B4m := B4.below bm B4.lt; have HBm := btr HB HB.size bm; have sm := bm.size; have r0 := B3m.cell_ 0; have r1 := B3m.cell_ 1; have r2 := B3m.cell_ 2; have r3 := B3m.cell_ 3; have r4 := B3m.cell_ 4; have fr0 := B3m.free 0; have fr1 := B3m.free 1; have fr2 := B3m.free 2; have fr3 := B3m.free 3; have fr4 := B3m.free 4; have q0 := B4m.cell_ 0; have q1 := B4m.cell_ 1; have q2 := B4m.cell_ 2; have q3 := B4m.cell_ 3; have q4 := B4m.cell_ 4; have fq0 := B4m.free 0; have fq1 := B4m.free 1; have fq2 := B4m.free 2; have fq3 := B4m.free 3; have fq4 := B4m.free 4; simp at r0 r1 r2 r3 r4 q0 q1 q2 q3 q4)))
    go_wp2_with fail
    refine hK.out _ _ ?_ (fun hNew => ?_)
    · (first | with_reducible exact QD | with_reducible exact QN | with_reducible exact QM | exact QB | exact QA)
    clear hK K hHeld
    have hHeld := hNew
    clear hNew
    try simp only [Act.put, pz1, pz2, pz3]
    refine tk 5 ⟨some 152, .binOp .eql 3 (.tmp 150) (.tmp 151) 3, 4, "law.go:75", #[⟨3, .data⟩, ⟨4, .data⟩], none⟩ ?_; try simp only [Act.put, pz1, pz2, pz3]
    refine tk 6 ⟨some 153, .move (.tmp 152), 4, "law.go:75", #[⟨5, .data⟩, ⟨3, .chain⟩], none⟩ ?_; try simp only [Act.put, pz1, pz2, pz3]
    refine tk 7 ⟨some 154, .move (.tmp 9), 3, "law.go:75", #[⟨6, .guard⟩], some (6, true)⟩ ?_; try simp only [Act.put, pz1, pz2, pz3]
    refine tk 8 ⟨some 155, .move (.tmp 10), 3, "law.go:75", #[⟨6, .guard⟩], some (6, true)⟩ ?_; try simp only [Act.put, pz1, pz2, pz3]
    refine tk 9 ⟨some 156, .binOp .eql 3 (.tmp 154) (.tmp 155) 3, 4, "law.go:75", #[⟨7, .data⟩, ⟨8, .data⟩, ⟨6, .guard⟩], some (6, true)⟩ ?_; try simp only [Act.put, pz1, pz2, pz3]
    refine tk 10 ⟨some 157, .pick (.tmp 153) (.tmp 156) (.const (.bool false)), 4, "law.go:75", #[⟨6, .data⟩, ⟨9, .data⟩], none⟩ ?_; try simp only [Act.put, pz1, pz2, pz3]
    refine tk 11 ⟨some 158, .move (.tmp 157), 4, "law.go:75", #[⟨10, .data⟩, ⟨6, .chain⟩], none⟩ ?_; try simp only [Act.put, pz1, pz2, pz3]
    refine tk 12 ⟨some 159, .load 25 (.tmp 7), 25, "law.go:75", #[⟨11, .guard⟩], some (11, true)⟩ ?_; try simp only [Act.put, pz1, pz2, pz3]
    refine tk 13 ⟨some 160, .load 25 (.tmp 8), 25, "law.go:75", #[⟨11, .guard⟩], some (11, true)⟩ ?_; try simp only [Act.put, pz1, pz2, pz3]
    refine wpAnyH_ready (rs := [14]) (by kernel_rfl) (by simp) ?_
    refine AllReadyH.cons (o := ⟨some 161, .call { callee := .value (.func 25), args := #[.tmp 159, .tmp 160], argTypes := #[25, 25] }, 4, "law.go:75", #[⟨12, .data⟩, ⟨13, .data⟩, ⟨11, .chain⟩, ⟨11, .guard⟩], some (11, true)⟩) rfl (fun K hK => ?_) AllReadyH.nil
    go_simp
    (first | (go_at_call 20; ((with_reducible refine (num_any c _).mono ?_); rintro e' wn ⟨rfl, bn⟩; have bn := btr (below_dr wc) (Nat.le_refl _) bn; have B5n := B5.below bn B5.lt; have B6n := B6.below bn B6.lt; have QN : wn.cell? ⟨w.heap.size + 1 + 1 + 1 + 1, 0, none⟩ = some (.int .i64 T.nb) ∧ wn.cell? ⟨w.heap.size + 1 + 1 + 1 + 1, 1, none⟩ = some (.int .i64 T.nn) ∧ wn.cell? ⟨w.heap.size + 1 + 1 + 1 + 1, 2, none⟩ = some (.int .i64 T.ns) ∧ wn.cell? ⟨w.heap.size + 1 + 1 + 1 + 1, 3, none⟩ = some (.slice A1 T.bs.length c1) ∧ wn.cell? ⟨w.heap.size + 1 + 1 + 1 + 1, 4, none⟩ = some (.slice D1 T.ts.length e1) ∧ wn.cell? ⟨w.heap.size + 1 + 1 + 1 + 1 + 1, 0, none⟩ = some (.int .i64 T.nb) ∧ wn.cell? ⟨w.heap.size + 1 + 1 + 1 + 1 + 1, 1, none⟩ = some (.int .i64 T.nn) ∧ wn.cell? ⟨w.heap.size + 1 + 1 + 1 + 1 + 1, 2, none⟩ = some (.int .i64 T.ns) ∧ wn.cell? ⟨w.heap.size + 1 + 1 + 1 + 1 + 1, 3, none⟩ = some (.slice A2 T.bs.length c2) ∧ wn.cell? ⟨w.heap.size + 1 + 1 + 1 + 1 + 1, 4, none⟩ = some (.slice D2 T.ts.length e2) := ⟨(bn.cell (p := ⟨w.heap.size + 1 + 1 + 1 + 1, 0, none⟩) B5.lt).trans u0, (bn.cell (p := ⟨w.heap.size + 1 + 1 + 1 + 1, 1, none⟩) B5.lt).trans u1, (bn.cell (p := ⟨w.heap.size + 1 + 1 + 1 + 1, 2, none⟩) B5.lt).trans u2, (bn.cell (p := ⟨w.heap.size + 1 + 1 + 1 + 1, 3, none⟩) B5.lt).trans u3, (bn.cell (p := ⟨w.heap.size + 1 + 1 + 1 + 1, 4, none⟩) B5.lt).trans u4, (bn.cell (p := ⟨w.heap.size + 1 + 1 + 1 + 1 + 1, 0, none⟩) B6.lt).trans x0, (bn.cell (p := ⟨w.heap.size + 1 + 1 + 1 + 1 + 1, 1, none⟩) B6.lt).trans x1, (bn.cell (p := ⟨w.heap.size + 1 + 1 + 1 + 1 + 1, 2, none⟩) B6.lt).trans x2, (bn.cell (p := ⟨w.heap.size + 1 + 1 + 1 + 1 + 1, 3, none⟩) B6.lt).trans x3, (bn.cell (p := ⟨w.heap.size + 1 + 1 + 1 + 1 + 1, 4, none⟩) B6.lt).trans x4⟩; have hA1n := hA1.below bn; have hA2n := hA2.below bn)) | (go_at_call 25; ((with_reducible refine (sameShelf_yes T _ _ _ hA1n.toR hA2n.toR HSM.out.1 HSM.out.2.1 HSM.out.2.2).mono ?_); rintro e' wm ⟨rfl, bm⟩; have bm := btr bn bn.size bm; have QM : wm.cell? ⟨w.heap.size + 1 + 1 + 1 + 1, 0, none⟩ = some (.int .i64 T.nb) ∧ wm.cell? ⟨w.heap.size + 1 + 1 + 1 + 1, 1, none⟩ = some (.int .i64 T.nn) ∧ wm.cell? ⟨w.heap.size + 1 + 1 + 1 + 1, 2, none⟩ = some (.int .i64 T.ns) ∧ wm.cell? ⟨w.heap.size + 1 + 1 + 1 + 1, 3, none⟩ = some (.slice A1 T.bs.length c1) ∧ wm.cell? ⟨w.heap.size + 1 + 1 + 1 + 1, 4, none⟩ = some (.slice D1 T.ts.length e1) ∧ wm.cell? ⟨w.heap.size + 1 + 1 + 1 + 1 + 1, 0, none⟩ = some (.int .i64 T.nb) ∧ wm.cell? ⟨w.heap.size + 1 + 1 + 1 + 1 + 1, 1, none⟩ = some (.int .i64 T.nn) ∧ wm.cell? ⟨w.heap.size + 1 + 1 + 1 + 1 + 1, 2, none⟩ = some (.int .i64 T.ns) ∧ wm.cell? ⟨w.heap.size + 1 + 1 + 1 + 1 + 1, 3, none⟩ = some (.slice A2 T.bs.length c2) ∧ wm.cell? ⟨w.heap.size + 1 + 1 + 1 + 1 + 1, 4, none⟩ = some (.slice D2 T.ts.length e2) := ⟨(bm.cell (p := ⟨w.heap.size + 1 + 1 + 1 + 1, 0, none⟩) B5.lt).trans u0, (bm.cell (p := ⟨w.heap.size + 1 + 1 + 1 + 1, 1, none⟩) B5.lt).trans u1, (bm.cell (p := ⟨w.heap.size + 1 + 1 + 1 + 1, 2, none⟩) B5.lt).trans u2, (bm.cell (p := ⟨w.heap.size + 1 + 1 + 1 + 1, 3, none⟩) B5.lt).trans u3, (bm.cell (p := ⟨w.heap.size + 1 + 1 + 1 + 1, 4, none⟩) B5.lt).trans u4, (bm.cell (p := ⟨w.heap.size + 1 + 1 + 1 + 1 + 1, 0, none⟩) B6.lt).trans x0, (bm.cell (p := ⟨w.heap.size + 1 + 1 + 1 + 1 + 1, 1, none⟩) B6.lt).trans x1, (bm.cell (p := ⟨w.heap.size + 1 + 1 + 1 + 1 + 1, 2, none⟩) B6.lt).trans x2, (bm.cell (p := ⟨w.heap.size + 1 + 1 + 1 + 1 + 1, 3, none⟩) B6.lt).trans x3, (bm.cell (p := ⟨w.heap.size + 1 + 1 + 1 + 1 + 1, 4, none⟩) B6.lt).trans x4⟩; have hA1m := hA1.below bm; have hA2m := hA2.below bm; have B3m := B3.below bm B3.lt; have B4m := B4.below bm B4.lt; have HBm := btr HB HB.size bm; have sm := bm.size; have r0 := B3m.cell_ 0; have r1 := B3m.cell_ 1; have r2 := B3m.cell_ 2; have r3 := B3m.cell_ 3; have r4 := B3m.cell_ 4; have fr0 := B3m.free 0; have fr1 := B3m.free 1; have fr2 := B3m.free 2; have fr3 := B3m.free 3; have fr4 := B3m.free 4; have q0 := B4m.cell_ 0; have q1 := B4m.cell_ 1; have q2 := B4m.cell_ 2; have q3 := B4m.cell_ 3; have q4 := B4m.cell_ 4; have fq0 := B4m.free 0; have fq1 := B4m.free 1; have fq2 := B4m.free 2; have fq3 := B4m.free 3; have fq4 := B4m.free 4; simp at r0 r1 r2 r3 r4 q0 q1 q2 q3 q4)))
    go_wp2_with fail
    refine hK.out _ _ ?_ (fun hNew => ?_)
    · (first | with_reducible exact QD | with_reducible exact QN | with_reducible exact QM | exact QB | exact QA)
    clear hK K hHeld
    have hHeld := hNew
    clear hNew
    try simp only [Act.put, pz1, pz2, pz3]
    refine tk 15 ⟨some 162, .pick (.tmp 158) (.tmp 161) (.const (.bool false)), 4, "law.go:75", #[⟨11, .data⟩, ⟨14, .data⟩, { on := 17, ground := Ground.gcOnly Departure.lateStores }], none⟩ ?_; try simp only [Act.put, pz1, pz2, pz3]
    refine wpAnyH_ready (rs := [16]) (by kernel_rfl) (by simp) ?_
    refine AllReadyH.cons (o := ⟨none, .store 25 (.tmp 4) (.tmp 147), 0, "law.go:75", #[⟨0, .data⟩, ⟨14, .chain⟩, ⟨0, .phase⟩, { on := 1, ground := Ground.textOnly Departure.lateStores }, { on := 2, ground := Ground.textOnly Departure.lateStores }, { on := 3, ground := Ground.textOnly Departure.lateStoresUnsure }, { on := 4, ground := Ground.textOnly Departure.lateStores }, { on := 5, ground := Ground.textOnly Departure.lateStores }, { on := 6, ground := Ground.textOnly Departure.lateStores }, { on := 7, ground := Ground.textOnly Departure.lateStores }, { on := 8, ground := Ground.textOnly Departure.lateStores }, { on := 9, ground := Ground.textOnly Departure.lateStores }, { on := 10, ground := Ground.textOnly Departure.lateStores }, { on := 11, ground := Ground.textOnly Departure.lateStores }, { on := 12, ground := Ground.textOnly Departure.lateStores }, { on := 13, ground := Ground.textOnly Departure.lateStores }, { on := 14, ground := Ground.textOnly Departure.lateStoresUnsure }, { on := 15, ground := Ground.textOnly Departure.lateStores }], none⟩) rfl (fun K hK => ?_) AllReadyH.nil
    go_simp
    have hg1 := st5_grown wm (w.heap.size + 1 + 1) 0 (.int .i64 T.nb) (.int .i64 T.nn) (.int .i64 T.ns) (.slice A1 T.bs.length c1) (.slice D1 T.ts.length e1)
    have B3a := B3m.st5_ (.int .i64 T.nb) (.int .i64 T.nn) (.int .i64 T.ns) (.slice A1 T.bs.length c1) (.slice D1 T.ts.length e1)
    have B4a := B4m.grown hg1 (by omega)
    have hA1a := hA1m.far hg1 (by omega)
    have hA2a := hA2m.far hg1 (by omega)
    have HBa := below_grown HBm hg1 (by omega) HBm.size
    have B5a := (B5.below bm B5.lt).grown hg1 (by omega)
    have B6a := (B6.below bm B6.lt).grown hg1 (by omega)
    have QA : (st5 wm (w.heap.size + 1 + 1) 0 (.int .i64 T.nb) (.int .i64 T.nn) (.int .i64 T.ns) (.slice A1 T.bs.length c1) (.slice D1 T.ts.length e1)).cell? ⟨w.heap.size + 1 + 1 + 1 + 1, 0, none⟩ = some (.int .i64 T.nb) ∧ (st5 wm (w.heap.size + 1 + 1) 0 (.int .i64 T.nb) (.int .i64 T.nn) (.int .i64 T.ns) (.slice A1 T.bs.length c1) (.slice D1 T.ts.length e1)).cell? ⟨w.heap.size + 1 + 1 + 1 + 1, 1, none⟩ = some (.int .i64 T.nn) ∧ (st5 wm (w.heap.size + 1 + 1) 0 (.int .i64 T.nb) (.int .i64 T.nn) (.int .i64 T.ns) (.slice A1 T.bs.length c1) (.slice D1 T.ts.length e1)).cell? ⟨w.heap.size + 1 + 1 + 1 + 1, 2, none⟩ = some (.int .i64 T.ns) ∧ (st5 wm (w.heap.size + 1 + 1) 0 (.int .i64 T.nb) (.int .i64 T.nn) (.int .i64 T.ns) (.slice A1 T.bs.length c1) (.slice D1 T.ts.length e1)).cell? ⟨w.heap.size + 1 + 1 + 1 + 1, 3, none⟩ = some (.slice A1 T.bs.length c1) ∧ (st5 wm (w.heap.size + 1 + 1) 0 (.int .i64 T.nb) (.int .i64 T.nn) (.int .i64 T.ns) (.slice A1 T.bs.length c1) (.slice D1 T.ts.length e1)).cell? ⟨w.heap.size + 1 + 1 + 1 + 1, 4, none⟩ = some (.slice D1 T.ts.length e1) ∧ (st5 wm (w.heap.size + 1 + 1) 0 (.int .i64 T.nb) (.int .i64 T.nn) (.int .i64 T.ns) (.slice A1 T.bs.length c1) (.slice D1 T.ts.length e1)).cell? ⟨w.heap.size + 1 + 1 + 1 + 1 + 1, 0, none⟩ = some (.int .i64 T.nb) ∧ (st5 wm (w.heap.size + 1 + 1) 0 (.int .i64 T.nb) (.int .i64 T.nn) (.int .i64 T.ns) (.slice A1 T.bs.length c1) (.slice D1 T.ts.length e1)).cell? ⟨w.heap.size + 1 + 1 + 1 + 1 + 1, 1, none⟩ = some (.int .i64 T.nn) ∧ (st5 wm (w.heap.size + 1 + 1) 0 (.int .i64 T.nb) (.int .i64 T.nn) (.int .i64 T.ns) (.slice A1 T.bs.length c1) (.slice D1 T.ts.length e1)).cell? ⟨w.heap.size + 1 + 1 + 1 + 1 + 1, 2, none⟩ = some (.int .i64 T.ns) ∧ (st5 wm (w.heap.size + 1 + 1) 0 (.int .i64 T.nb) (.int .i64 T.nn) (.int .i64 T.ns) (.slice A1 T.bs.length c1) (.slice D1 T.ts.length e1)).cell? ⟨w.heap.size + 1 + 1 + 1 + 1 + 1, 3, none⟩ = some (.slice A2 T.bs.length c2) ∧ (st5 wm (w.heap.size + 1 + 1) 0 (.int .i64 T.nb) (.int .i64 T.nn) (.int .i64 T.ns) (.slice A1 T.bs.length c1) (.slice D1 T.ts.length e1)).cell? ⟨w.heap.size + 1 + 1 + 1 + 1 + 1, 4, none⟩ = some (.slice D2 T.ts.length e2) := ⟨B5a.cell_ 0, B5a.cell_ 1, B5a.cell_ 2, B5a.cell_ 3, B5a.cell_ 4, B6a.cell_ 0, B6a.cell_ 1, B6a.cell_ 2, B6a.cell_ 3, B6a.cell_ 4⟩
    refine hK.out _ _ ?_ (fun hNew => ?_)
    · (first | with_reducible exact QD | with_reducible exact QN | with_reducible exact QM | exact QB | exact QA)
    clear hK K hHeld
    have hHeld := hNew
    clear hNew
    try simp only [Act.put, pz1, pz2, pz3]
    refine wpAnyH_ready (rs := [17]) (by kernel_rfl) (by simp) ?_
    refine AllReadyH.cons (o := ⟨none, .store 25 (.tmp 5) (.tmp 148), 0, "law.go:75", #[⟨1, .data⟩, ⟨16, .chain⟩, ⟨0, .phase⟩, ⟨1, .phase⟩, { on := 2, ground := Ground.textOnly Departure.lateStores }, { on := 3, ground := Ground.textOnly Departure.lateStoresUnsure }, { on := 4, ground := Ground.textOnly Departure.lateStores }, { on := 5, ground := Ground.textOnly Departure.lateStores }, { on := 6, ground := Ground.textOnly Departure.lateStores }, { on := 7, ground := Ground.textOnly Departure.lateStores }, { on := 8, ground := Ground.textOnly Departure.lateStores }, { on := 9, ground := Ground.textOnly Departure.lateStores }, { on := 10, ground := Ground.textOnly Departure.lateStores }, { on := 11, ground := Ground.textOnly Departure.lateStores }, { on := 12, ground := Ground.textOnly Departure.lateStores }, { on := 13, ground := Ground.textOnly Departure.lateStores }, { on := 14, ground := Ground.textOnly Departure.lateStoresUnsure }, { on := 15, ground := Ground.textOnly Departure.lateStores }, ⟨16, .phase⟩], none⟩) rfl (fun K hK => ?_) AllReadyH.nil
    go_simp
    have hg2 := st5_grown (st5 wm (w.heap.size + 1 + 1) 0 (.int .i64 T.nb) (.int .i64 T.nn) (.int .i64 T.ns) (.slice A1 T.bs.length c1) (.slice D1 T.ts.length e1)) (w.heap.size + 1 + 1 + 1) 0 (.int .i64 T.nb) (.int .i64 T.nn) (.int .i64 T.ns) (.slice A2 T.bs.length c2) (.slice D2 T.ts.length e2)
    have B4b := B4a.st5_ (.int .i64 T.nb) (.int .i64 T.nn) (.int .i64 T.ns) (.slice A2 T.bs.length c2) (.slice D2 T.ts.length e2)
    have B3b := B3a.grown hg2 (by omega)
    have hA1b := hA1a.far hg2 (by omega)
    have hA2b := hA2a.far hg2 (by omega)
    have HBb := below_grown HBa hg2 (by omega) HBa.size
    have B5b := B5a.grown hg2 (by omega)
    have B6b := B6a.grown hg2 (by omega)
    have QB : (st5 (st5 wm (w.heap.size + 1 + 1) 0 (.int .i64 T.nb) (.int .i64 T.nn) (.int .i64 T.ns) (.slice A1 T.bs.length c1) (.slice D1 T.ts.length e1)) (w.heap.size + 1 + 1 + 1) 0 (.int .i64 T.nb) (.int .i64 T.nn) (.int .i64 T.ns) (.slice A2 T.bs.length c2) (.slice D2 T.ts.length e2)).cell? ⟨w.heap.size + 1 + 1 + 1 + 1, 0, none⟩ = some (.int .i64 T.nb) ∧ (st5 (st5 wm (w.heap.size + 1 + 1) 0 (.int .i64 T.nb) (.int .i64 T.nn) (.int .i64 T.ns) (.slice A1 T.bs.length c1) (.slice D1 T.ts.length e1)) (w.heap.size + 1 + 1 + 1) 0 (.int .i64 T.nb) (.int .i64 T.nn) (.int .i64 T.ns) (.slice A2 T.bs.length c2) (.slice D2 T.ts.length e2)).cell? ⟨w.heap.size + 1 + 1 + 1 + 1, 1, none⟩ = some (.int .i64 T.nn) ∧ (st5 (st5 wm (w.heap.size + 1 + 1) 0 (.int .i64 T.nb) (.int .i64 T.nn) (.int .i64 T.ns) (.slice A1 T.bs.length c1) (.slice D1 T.ts.length e1)) (w.heap.size + 1 + 1 + 1) 0 (.int .i64 T.nb) (.int .i64 T.nn) (.int .i64 T.ns) (.slice A2 T.bs.length c2) (.slice D2 T.ts.length e2)).cell? ⟨w.heap.size + 1 + 1 + 1 + 1, 2, none⟩ = some (.int .i64 T.ns) ∧ (st5 (st5 wm (w.heap.size + 1 + 1) 0 (.int .i64 T.nb) (.int .i64 T.nn) (.int .i64 T.ns) (.slice A1 T.bs.length c1) (.slice D1 T.ts.length e1)) (w.heap.size + 1 + 1 + 1) 0 (.int .i64 T.nb) (.int .i64 T.nn) (.int .i64 T.ns) (.slice A2 T.bs.length c2) (.slice D2 T.ts.length e2)).cell? ⟨w.heap.size + 1 + 1 + 1 + 1, 3, none⟩ = some (.slice A1 T.bs.length c1) ∧ (st5 (st5 wm (w.heap.size + 1 + 1) 0 (.int .i64 T.nb) (.int .i64 T.nn) (.int .i64 T.ns) (.slice A1 T.bs.length c1) (.slice D1 T.ts.length e1)) (w.heap.size + 1 + 1 + 1) 0 (.int .i64 T.nb) (.int .i64 T.nn) (.int .i64 T.ns) (.slice A2 T.bs.length c2) (.slice D2 T.ts.length e2)).cell? ⟨w.heap.size + 1 + 1 + 1 + 1, 4, none⟩ = some (.slice D1 T.ts.length e1) ∧ (st5 (st5 wm (w.heap.size + 1 + 1) 0 (.int .i64 T.nb) (.int .i64 T.nn) (.int .i64 T.ns) (.slice A1 T.bs.length c1) (.slice D1 T.ts.length e1)) (w.heap.size + 1 + 1 + 1) 0 (.int .i64 T.nb) (.int .i64 T.nn) (.int .i64 T.ns) (.slice A2 T.bs.length c2) (.slice D2 T.ts.length e2)).cell? ⟨w.heap.size + 1 + 1 + 1 + 1 + 1, 0, none⟩ = some (.int .i64 T.nb) ∧ (st5 (st5 wm (w.heap.size + 1 + 1) 0 (.int .i64 T.nb) (.int .i64 T.nn) (.int .i64 T.ns) (.slice A1 T.bs.length c1) (.slice D1 T.ts.length e1)) (w.heap.size + 1 + 1 + 1) 0 (.int .i64 T.nb) (.int .i64 T.nn) (.int .i64 T.ns) (.slice A2 T.bs.length c2) (.slice D2 T.ts.length e2)).cell? ⟨w.heap.size + 1 + 1 + 1 + 1 + 1, 1, none⟩ = some (.int .i64 T.nn) ∧ (st5 (st5 wm (w.heap.size + 1 + 1) 0 (.int .i64 T.nb) (.int .i64 T.nn) (.int .i64 T.ns) (.slice A1 T.bs.length c1) (.slice D1 T.ts.length e1)) (w.heap.size + 1 + 1 + 1) 0 (.int .i64 T.nb) (.int .i64 T.nn) (.int .i64 T.ns) (.slice A2 T.bs.length c2) (.slice D2 T.ts.length e2)).cell? ⟨w.heap.size + 1 + 1 + 1 + 1 + 1, 2, none⟩ = some (.int .i64 T.ns) ∧ (st5 (st5 wm (w.heap.size + 1 + 1) 0 (.int .i64 T.nb) (.int .i64 T.nn) (.int .i64 T.ns) (.slice A1 T.bs.length c1) (.slice D1 T.ts.length e1)) (w.heap.size + 1 + 1 + 1) 0 (.int .i64 T.nb) (.int .i64 T.nn) (.int .i64 T.ns) (.slice A2 T.bs.length c2) (.slice D2 T.ts.length e2)).cell? ⟨w.heap.size + 1 + 1 + 1 + 1 + 1, 3, none⟩ = some (.slice A2 T.bs.length c2) ∧ (st5 (st5 wm (w.heap.size + 1 + 1) 0 (.int .i64 T.nb) (.int .i64 T.nn) (.int .i64 T.ns) (.slice A1 T.bs.length c1) (.slice D1 T.ts.length e1)) (w.heap.size + 1 + 1 + 1) 0 (.int .i64 T.nb) (.int .i64 T.nn) (.int .i64 T.ns) (.slice A2 T.bs.length c2) (.slice D2 T.ts.length e2)).cell? ⟨w.heap.size + 1 + 1 + 1 + 1 + 1, 4, none⟩ = some (.slice D2 T.ts.length e2) := ⟨B5b.cell_ 0, B5b.cell_ 1, B5b.cell_ 2, B5b.cell_ 3, B5b.cell_ 4, B6b.cell_ 0, B6b.cell_ 1, B6b.cell_ 2, B6b.cell_ 3, B6b.cell_ 4⟩
    refine hK.out _ _ ?_ (fun hNew => ?_)
    · (first | with_reducible exact QD | with_reducible exact QN | with_reducible exact QM | exact QB | exact QA)
    clear hK K hHeld
    have hHeld := hNew
    clear hNew
    try simp only [Act.put, pz1, pz2, pz3]
    refine tk 18 ⟨some 6, .assign (.tmp 162), 4, "law.go:75", #[⟨15, .data⟩, ⟨17, .chain⟩, ⟨0, .phase⟩, ⟨1, .phase⟩, ⟨2, .phase⟩, ⟨3, .phase⟩, ⟨4, .phase⟩, ⟨5, .phase⟩, ⟨6, .phase⟩, ⟨7, .phase⟩, ⟨8, .phase⟩, ⟨9, .phase⟩, ⟨10, .phase⟩, ⟨11, .phase⟩, ⟨12, .phase⟩, ⟨13, .phase⟩, ⟨14, .phase⟩, ⟨15, .phase⟩, ⟨16, .phase⟩, ⟨17, .phase⟩], none⟩ ?_; try simp only [Act.put, pz1, pz2, pz3]
    refine wpAnyH_done (by kernel_rfl) ?_ _
    refine NoPanic.normal ?_
    go_wp2_with fail
    change bodyPost _ _ _ _ _ (st5 (st5 wm (w.heap.size + 1 + 1) 0 (.int .i64 T.nb) (.int .i64 T.nn) (.int .i64 T.ns) (.slice A1 T.bs.length c1) (.slice D1 T.ts.length e1)) (w.heap.size + 1 + 1 + 1) 0 (.int .i64 T.nb) (.int .i64 T.nn) (.int .i64 T.ns) (.slice A2 T.bs.length c2) (.slice D2 T.ts.length e2))
    apply bodyPost_ret (v := .tuple #[.agg #[.int .i64 T.nb, .int .i64 T.nn, .int .i64 T.ns, .slice A1 T.bs.length c1, .slice D1 T.ts.length e1], .agg #[.int .i64 T.nb, .int .i64 T.nn, .int .i64 T.ns, .slice A2 T.bs.length c2, .slice D2 T.ts.length e2], .bool true])
    · exact results_cc Tryz.results9 _ _ (w.heap.size + 1 + 1) (w.heap.size + 1 + 1 + 1) 25 _ _ (0, 0) _ rfl rfl B3b B4b Tryz.underlying25 rfl (by kernel_rfl) (by kernel_rfl)
    · rfl
    · rw [HRT.out]
      exact ⟨_, _, rfl, hA1b.base_ (by omega), hA2b.base_ (by omega), HBb⟩
end Go.Proofs.YtokhapafpjejaaaGreatDoor
namespace Go.Proofs.YtokhapafpjejaaaGreatDoor
open Go.ChangeShapes Go.WideShapes Go.ChangeAt Go.RowKit
attribute [local go_sem ↓] Go.wp_at_zero Go.wp_at_succ
def acC (x : Ac) : List Value := [.int .i64 x.d, .int .i64 x.a, .int .i64 x.b, .string x.nm]
theorem cells4a : Tryz.prog.cellsOf 27 = 4 := by kernel_rfl
theorem len4 {α : Type} {l : List α} (h : l.length = 4) : ∃ a b c d, l = [a, b, c, d] := by
  match l, h with
  | [a, b, c, d], _ => exact ⟨a, b, c, d, rfl⟩
theorem act_ok {w : World} {n : Nat} {x : List Value} (h : OkT Tryz.prog w (n + 2) 27 x) : ∃ b : Ac, x = acC b := by
  obtain ⟨hl, hf⟩ := okT_struct (n := n + 1) Tryz.underlying27 h
  rw [cells4a] at hl
  obtain ⟨a, b, c, d, rfl⟩ := len4 hl
  have h0 : OkT Tryz.prog w (n + 1) 3 ((([a, b, c, d] : List Value).drop 0).take (Tryz.prog.cellsOf 3)) := hf 0 _ rfl
  have h1 : OkT Tryz.prog w (n + 1) 3 ((([a, b, c, d] : List Value).drop 1).take (Tryz.prog.cellsOf 3)) := hf 1 _ rfl
  have h2 : OkT Tryz.prog w (n + 1) 3 ((([a, b, c, d] : List Value).drop 2).take (Tryz.prog.cellsOf 3)) := hf 2 _ rfl
  have h3 : OkT Tryz.prog w (n + 1) 9 ((([a, b, c, d] : List Value).drop 3).take (Tryz.prog.cellsOf 9)) := hf 3 _ rfl
  rw [cells1i] at h0 h1 h2
  rw [cells1s] at h3
  obtain ⟨z0, hz0, -⟩ := okT_int (n := n) Tryz.underlying3 h0
  obtain ⟨z1, hz1, -⟩ := okT_int (n := n) Tryz.underlying3 h1
  obtain ⟨z2, hz2, -⟩ := okT_int (n := n) Tryz.underlying3 h2
  obtain ⟨s, hs, -⟩ := okT_str (n := n) Tryz.underlying9 h3
  simp at hz0 hz1 hz2 hs
  subst hz0 hz1 hz2 hs
  exact ⟨⟨z0, z1, z2, s⟩, rfl⟩
theorem acts_value {Hy : Type} {enc : TypeId × Value → Hy} {w : World} {base : Nat} {spare : Nat → Bool} {held : Bool} {r : Reach} {b0 : Nat} {v : Value} {d : DataW Hy} {p : List MemPlace} (hv : Value.okWide Tryz.prog w r b0 30 v) (h : DataW.Trod enc Tryz.prog w base spare held 30 v d p) :
    ∃ (A : Option Addr) (c : Nat) (l : List Ac), v = .slice A l.length c ∧ l.length ≤ c ∧ c ≤ maxLen ∧ SlE 4 w w.heap.size A (l.map acC) := by
  have h0 := okT_value 6 hv h
  obtain ⟨A0, n0, c0, rfl⟩ := okWide_slice Tryz.underlying30 hv
  obtain ⟨A, n, c, es, he, h1, h2, h3, h4, h5⟩ := okT_row (n := 5) Tryz.underlying30 (Nat.lt_of_lt_of_eq (by decide : 0 < 4) cells4a.symm) h0
  simp [Value.cells] at he
  obtain ⟨rfl, rfl, rfl⟩ := he
  rw [cells4a] at h4
  obtain ⟨l, hl, hr⟩ := choose_list (R := fun (e : List Value) (b : Ac) => e = acC b) es (fun x hx => act_ok (n := 3) (h5 x hx).2)
  have hes : es = l.map acC := by
    apply List.ext_getElem?
    intro k
    rw [List.getElem?_map]
    rcases Nat.lt_or_ge k es.length with hk | hk
    · rw [List.getElem?_eq_getElem hk, List.getElem?_eq_getElem (by omega), hr k _ _ (List.getElem?_eq_getElem hk) (List.getElem?_eq_getElem (by omega))]
      rfl
    · rw [List.getElem?_eq_none hk, List.getElem?_eq_none (by omega)]
      rfl
  subst h1
  refine ⟨A0, c0, l, by rw [hl], by omega, h3, ?_⟩
  rw [← hes]
  exact h4
def bigA (x : Ac) : Bool := decide (60 < x.nm.size)
def greatA (l : List Ac) (m : Nat) : Bool := decide (m < l.length) || l.any bigA
theorem great_any (l : List Ac) (m : Nat) (hm2 : m ≤ 1000) (A : Option Addr) (cp : Nat) (w : World) (hS : SlE 4 w w.heap.size A (l.map acC)) (hc : l.length ≤ cp) (hm : cp ≤ maxLen) (T : Bool) (hT : greatA l m = T) :
    Calls Tryz.prog 6 #[.slice A l.length cp, .int .i64 m] w fun e' w' => e' = .returned (.bool T) ∧ w' = w := by
  obtain ⟨n, hn⟩ : ∃ n, l.length = n := ⟨_, rfl⟩
  unfold greatA at hT
  rw [hn] at hc hT ⊢
  have HT := Lib.hid hT
  clear hT
  have HN := Lib.hid hn
  clear hn
  have hz : (0 : Int) ≤ (n : Int) := by omega
  by_cases h8 : n ≤ m
  · have h8i : (n : Int) ≤ (m : Int) := by omega
    have H0 : Hid ((l.take 0).any bigA = false) := Lib.hid rfl
    go_enter Tryz.func6, Tryz.ntmps6
    go_wp2_with fail
    go_loop [5] (fun i => ∃ k : Nat, k ≤ n ∧ i = .int .i64 k ∧ Hid ((l.take k).any bigA = false)) (fun i => n - (intOf i).toNat)
    case atStart => exact ⟨0, by omega, rfl, H0⟩
    case round =>
      obtain ⟨k, hk, rfl, HK⟩ := hrel
      clear H0
      by_cases hlt : k < n
      · have hlx : k < l.length := by have := HN.out; omega
        obtain ⟨b1, o1, rfl, l1, q1⟩ := SlE.at_ hS (by rw [List.length_map]; omega)
        obtain ⟨x, hx⟩ : ∃ x, l[k]? = some x := ⟨_, List.getElem?_eq_getElem hlx⟩
        have cx : w.cell? ⟨b1, o1 + k * 4 + 3, none⟩ = some (.string x.nm) := q1 k _ (show (l.map acC)[k]? = some (acC x) by rw [List.getElem?_map, hx]; rfl) 3 _ rfl
        have i0 : (0 : Int) ≤ (k : Int) := by omega
        have i1 : (k : Int) < (n : Int) := by omega
        have HX := Lib.hid hx
        clear q1 hx hlx
        by_cases h60 : 60 < x.nm.size
        · have g60 : (60 : Int) < (x.nm.size : Int) := by omega
          have hTt : T = true := by
            rw [← HT.out, List.any_eq_true.2 ⟨x, List.mem_of_getElem? HX.out, decide_eq_true h60⟩, Bool.or_true]
          have HTT := Lib.hid hTt
          clear h60 hTt
          go_wp2_with fail
          go_ret
          exact ⟨by rw [HTT.out]; rfl, by first | rfl | trivial⟩
        · have g60 : ¬ (60 : Int) < (x.nm.size : Int) := by omega
          have H60 : Hid (bigA x = false) := Lib.hid (decide_eq_false h60)
          clear h60
          go_wp2_with fail
          go_round
          case rel => exact ⟨k + 1, by omega, by go_num, Lib.hid (any_next HK.out HX.out H60.out)⟩
          case measure => simp [intOf]; omega
      · have hjn : k = n := by omega
        subst hjn
        clear hlt
        have g8 : ¬ (m : Int) < (k : Int) := by omega
        go_wp2_with fail
        go_ret
        refine ⟨?_, by first | rfl | trivial⟩
        have := HK.out
        rw [List.take_of_length_le (by rw [HN.out]; exact Nat.le_refl _)] at this
        rw [← HT.out, this, decide_eq_false (by omega)]
        rfl
  · have h8i : ¬ (n : Int) ≤ (m : Int) := by omega
    have h9i : (m : Int) < (n : Int) := by omega
    have h0i : (0 : Int) < (n : Int) := by omega
    have hTt : T = true := by rw [← HT.out, decide_eq_true (by omega), Bool.true_or]
    have HTT := Lib.hid hTt
    clear hTt
    go_enter Tryz.func6, Tryz.ntmps6
    go_wp2_with fail
    go_loop [5] (fun i => i = .int .i64 0) (fun i => 0)
    case atStart => rfl
    case round =>
      obtain rfl := hrel
      go_wp2_with fail
      go_ret
      exact ⟨by rw [HTT.out]; rfl, by first | rfl | trivial⟩
structure SmF (s : Sf) : Prop where
  b : ∀ b ∈ s.bs, b.nm.size ≤ 60
  n : ∀ n ∈ s.ts, n.nm.size ≤ 60 ∧ n.tg = [] ∧ n.sh = []
theorem SmF.sz {s : Sf} (h : SmF s) (hF : MayF s) : SzF s := by
  refine ⟨fun b hb => by have := h.b b hb; omega, fun n hn => ?_, by have := hF.bl; omega, by have := hF.tl; omega, ?_⟩
  · obtain ⟨h1, h2, h3⟩ := h.n n hn
    rw [h2, h3]
    exact ⟨by omega, ⟨by simp, by simp⟩, by simp⟩
  · have : s.ts.flatMap Nt.sh = [] := by
      rw [List.flatMap_eq_nil_iff]
      exact fun n hn => (h.n n hn).2.2
    rw [this]
    simp
theorem sm_next {s : Sf} {x : Ac} (h : SmF s) (hx : x.nm.size ≤ 60) (hc : actC s x = 0) : SmF (actS s x) := by
  unfold actC at hc
  unfold actS
  have setN : ∀ (k : Nat) (m : Nt), (m.nm.size ≤ 60 ∧ m.tg = [] ∧ m.sh = []) → ∀ n ∈ s.ts.set k m, n.nm.size ≤ 60 ∧ n.tg = [] ∧ n.sh = [] := by
    intro k m hm n hn
    rcases List.mem_or_eq_of_mem_set hn with h1 | rfl
    · exact h.n n h1
    · exact hm
  split at hc
  · rename_i h0
    rw [if_pos h0]
    refine ⟨fun b hb => ?_, h.n⟩
    rcases List.mem_append.1 (show b ∈ s.bs ++ [_] from hb) with h1 | h1
    · exact h.b b h1
    · rw [List.mem_singleton] at h1
      subst h1
      exact hx
  · rename_i h0
    rw [if_neg h0]
    split at hc
    · rename_i h1
      rw [if_pos h1]
      refine ⟨fun b hb => ?_, h.n⟩
      rcases List.mem_or_eq_of_mem_set (show b ∈ s.bs.set _ _ from hb) with h2 | rfl
      · exact h.b b h2
      · exact hx
    · rename_i h1
      rw [if_neg h1]
      split at hc
      · rename_i h2
        rw [if_pos h2]
        exact ⟨fun b hb => h.b b (List.mem_filter.1 (show b ∈ s.bs.filter _ from hb)).1, fun n hn => h.n n (List.mem_filter.1 (show n ∈ s.ts.filter _ from hn)).1⟩
      · rename_i h2
        rw [if_neg h2]
        split at hc
        · rename_i h3
          rw [if_pos h3]
          refine ⟨h.b, fun n hn => ?_⟩
          rcases List.mem_append.1 (show n ∈ s.ts ++ [_] from hn) with h4 | h4
          · exact h.n n h4
          · rw [List.mem_singleton] at h4
            subst h4
            exact ⟨hx, rfl, rfl⟩
        · rename_i h3
          rw [if_neg h3]
          split at hc
          · rename_i h4
            rw [if_pos h4]
            obtain ⟨k, m, hr⟩ := rtF_of hc
            rw [hr.eq]
            have hm := h.n m (List.mem_of_getElem? hr.nt)
            exact ⟨h.b, setN _ _ ⟨hx, hm.2⟩⟩
          · rename_i h4
            rw [if_neg h4]
            split at hc
            · rename_i h5
              rw [if_pos h5]
              obtain ⟨k, m, hr⟩ := mvF_of hc
              rw [hr.eq]
              exact ⟨h.b, setN _ _ (h.n m (List.mem_of_getElem? hr.nt))⟩
            · rename_i h5
              rw [if_neg h5]
              exact ⟨h.b, fun n hn => h.n n (List.mem_filter.1 (show n ∈ s.ts.filter _ from hn)).1⟩
structure ScF (s : Sf) (book note : Int) : Prop where
  may : MayF s
  sm : SmF s
  bk : book < s.nb
  nt : note < s.nn
theorem ScF.zero : ScF sf0 0 0 := ⟨mayF_of (by decide +kernel), ⟨fun b hb => by simp [sf0] at hb, fun n hn => by simp [sf0] at hn⟩, by decide, by decide⟩
theorem res_cases (s : Sf) (x : Ac) : (resS s x = zeroSf) ∨ (actC s x = 0 ∧ resS s x = actS s x) := by
  unfold resS
  cases h : actC s x == 0
  · exact Or.inl rfl
  · exact Or.inr ⟨by simpa using h, rfl⟩
theorem rempty_any (w : World) :
    Calls Tryz.prog 27 #[] w fun e' w' => e' = .returned (.agg #[.int .i64 1, .int .i64 1, .int .i64 1, .slice none 0 0, .slice none 0 0]) ∧ Below w.heap.size w w' := by
  have B1 : Blk (w.alloc (.cells #[.int .i64 0, .int .i64 0, .int .i64 0, .slice none 0 0, .slice none 0 0] 25)) w.heap.size 25 #[.int .i64 0, .int .i64 0, .int .i64 0, .slice none 0 0, .slice none 0 0] := Blk.new_ w 25 #[.int .i64 0, .int .i64 0, .int .i64 0, .slice none 0 0, .slice none 0 0]
  have HB : Below w.heap.size w (w.alloc (.cells #[.int .i64 0, .int .i64 0, .int .i64 0, .slice none 0 0, .slice none 0 0] 25)) := (Below.refl w.heap.size w).alloc (Nat.le_refl _) _
  go_enter Tryz.func27, Tryz.ntmps27
  go_wp2_with fail
  change bodyPost _ _ _ _ _ (w.alloc (.cells #[.int .i64 1, .int .i64 1, .int .i64 1, .slice none 0 0, .slice none 0 0] 25))
  have B2u : Blk (w.alloc (.cells #[.int .i64 1, .int .i64 1, .int .i64 1, .slice none 0 0, .slice none 0 0] 25)) w.heap.size 25 #[.int .i64 1, .int .i64 1, .int .i64 1, .slice none 0 0, .slice none 0 0] := Blk.new_ w 25 _
  have hb2 : Below w.heap.size w (w.alloc (.cells #[.int .i64 1, .int .i64 1, .int .i64 1, .slice none 0 0, .slice none 0 0] 25)) := (Below.refl w.heap.size w).alloc (Nat.le_refl _) _
  generalize w.alloc (.cells #[.int .i64 1, .int .i64 1, .int .i64 1, .slice none 0 0, .slice none 0 0] 25) = Wd at B2u hb2 ⊢
  apply bodyPost_ret (v := .agg #[.int .i64 1, .int .i64 1, .int .i64 1, .slice none 0 0, .slice none 0 0])
  · exact results_cell_row Tryz.results27 _ Wd w.heap.size 25 _ (0, 0) _ rfl B2u Tryz.underlying25 rfl (by kernel_rfl)
  · rfl
  · exact ⟨rfl, hb2⟩
end Go.Proofs.YtokhapafpjejaaaGreatDoor
