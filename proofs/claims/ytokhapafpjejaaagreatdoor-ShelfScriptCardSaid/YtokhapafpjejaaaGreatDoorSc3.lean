/- Drop and Discard. -/
import Derived.Test.YtokhapafpjejaaaGreatDoorSc2
set_option linter.unusedSimpArgs false
set_option linter.unusedVariables false
set_option maxRecDepth 100000
set_option maxHeartbeats 16000000
namespace Go.Proofs.YtokhapafpjejaaaGreatDoor
open Go.ChangeShapes Go.WideShapes Go.ChangeAt Go.RowKit
attribute [local go_sem ↓] Go.wp_at_zero Go.wp_at_succ
theorem zip_fst {α β : Type} : ∀ (a : List α) (b : List β), b.length = a.length → (a.zip b).map Prod.fst = a
  | [], _, _ => by simp
  | x :: a, [], h => by simp at h
  | x :: a, y :: b, h => by rw [List.zip_cons_cons, List.map_cons, zip_fst a b (by simpa using h)]
theorem zip_snd {α β : Type} : ∀ (a : List α) (b : List β), b.length = a.length → (a.zip b).map Prod.snd = b
  | [], b, h => by
    have : b = [] := List.eq_nil_of_length_eq_zero (by simpa using h)
    subst this
    rfl
  | x :: a, [], h => by simp at h
  | x :: a, y :: b, h => by rw [List.zip_cons_cons, List.map_cons, zip_snd a b (by simpa using h)]
theorem filt_fst {α β : Type} (ps : List (α × β)) (p : α → Bool) : (ps.filter fun q => !p q.1).map Prod.fst = (ps.map Prod.fst).filter fun x => !p x := by
  rw [List.filter_map]
  rfl
theorem bs_pairs (bs : List Bk) : (bs.map fun b => (b, bkC b)).map Prod.fst = bs ∧ (bs.map fun b => (b, bkC b)).map Prod.snd = bs.map bkC := by
  constructor
  · rw [List.map_map]
    exact List.map_id' _
  · rw [List.map_map]
    rfl
theorem df_bs (bs : List Bk) (A : Option Addr) (cp : Nat) (x : Int) (g0 base : Nat) (w : World) (c0 : w.cell? ⟨g0, 0, none⟩ = some (.int .i64 x)) (l0 : g0 < w.heap.size) (hg0 : g0 < base) (hbase : base ≤ w.heap.size) (hown : BksW w base (.slice A bs.length cp) bs) (hsm : bs.length ≤ 100000) (T : List Bk) (hT : (bs.filter fun b => !(b.id == x)) = T) :
    Calls Tryz.prog 65 #[.slice A bs.length cp, .func (.func 66) #[] #[.pointer (some ⟨g0, 0, none⟩)]] w fun e' w' => ∃ A2 c2, e' = .returned (.slice A2 T.length c2) ∧ BksW w' base (.slice A2 T.length c2) T ∧ w.grownBy w' (Value.slice A bs.length cp).ownBlock := by
  subst hT
  obtain ⟨e1, e2⟩ := bs_pairs bs
  have hl : (bs.map fun b => (b, bkC b)).length = bs.length := List.length_map _
  have hr : BksIn w w.heap.size A bs := sle_of_own hown (bkC_two _) (by decide)
  have := df_dropB (bs.map fun b => (b, bkC b)) A cp x g0 base w (fun q hq => by obtain ⟨b, _, rfl⟩ := List.mem_map.1 hq; rfl) (by rw [e1]; exact hr) c0 l0 hg0 hbase (by rw [hl, e2]; exact hown) (by rw [hl]; exact hsm)
  have hf : ((bs.map fun b => (b, bkC b)).filter fun q => !(q.1.id == x)).map Prod.fst = bs.filter fun b => !(b.id == x) := by
    rw [filt_fst _ (fun b : Bk => b.id == x), e1]
  have hs : ((bs.map fun b => (b, bkC b)).filter fun q => !(q.1.id == x)).map Prod.snd = (bs.filter fun b => !(b.id == x)).map bkC := by
    rw [← hf, List.map_map]
    apply List.map_congr_left
    intro q hq
    obtain ⟨b, _, rfl⟩ := List.mem_map.1 (List.mem_filter.1 hq).1
    rfl
  have hll : ((bs.map fun b => (b, bkC b)).filter fun q => !(q.1.id == x)).length = (bs.filter fun b => !(b.id == x)).length := by rw [← hf, List.length_map]
  rw [hl] at this
  refine this.mono ?_
  rintro e' w' ⟨A2, c2, h1, h2, h3⟩
  rw [hll] at h1
  rw [hll, hs] at h2
  exact ⟨A2, c2, h1, h2, h3⟩
theorem df_ts (ts : List Nt) (A : Option Addr) (cp : Nat) (x : Int) (g0 base : Nat) (w : World) (c0 : w.cell? ⟨g0, 0, none⟩ = some (.int .i64 x)) (l0 : g0 < w.heap.size) (hg0 : g0 < base) (hbase : base ≤ w.heap.size) (hown : NtsW w base (.slice A ts.length cp) ts) (hsm : ts.length ≤ 100000) (T : List Nt) (hT : (ts.filter fun n => !(n.bk == x)) = T) :
    Calls Tryz.prog 67 #[.slice A ts.length cp, .func (.func 68) #[] #[.pointer (some ⟨g0, 0, none⟩)]] w fun e' w' => ∃ A2 c2, e' = .returned (.slice A2 T.length c2) ∧ NtsW w' base (.slice A2 T.length c2) T ∧ w.grownBy w' (Value.slice A ts.length cp).ownBlock := by
  subst hT
  obtain ⟨es, hel, hon, hnt⟩ := hown
  have h5 := es_five hel hnt
  have e1 := zip_fst ts es hel
  have e2 := zip_snd ts es hel
  have hl : (ts.zip es).length = ts.length := by rw [List.length_zip, hel, Nat.min_self]
  have hr : NtsIn w w.heap.size A ts := ⟨es, hel, sle_of_own hon h5 (by decide), fun k n e a b => (hnt k n e a b).toIn⟩
  have hget : ∀ q ∈ ts.zip es, NtW w base q.1 q.2 := by
    intro q hq
    obtain ⟨k, hk, rfl⟩ := List.mem_iff_getElem.1 hq
    have hk' : k < ts.length := by rw [← hl]; exact hk
    rw [List.getElem_zip]
    exact hnt k _ _ (List.getElem?_eq_getElem hk') (List.getElem?_eq_getElem (by omega))
  have := df_dropN (ts.zip es) A cp x g0 base w (fun q hq => by
    obtain ⟨vt, vs, h, q1, q2⟩ := hget q hq
    obtain ⟨A1, c1, h1, _⟩ := own_shape q1
    obtain ⟨A2, c2, h2, _⟩ := own_shape q2
    exact ⟨vt, vs, h, ⟨A1, _, c1, h1⟩, A2, _, c2, h2⟩) (by rw [e1]; exact hr) c0 l0 hg0 hbase (by rw [hl, e2]; exact hon) (by rw [hl]; exact hsm)
  have hf : ((ts.zip es).filter fun q => !(q.1.bk == x)).map Prod.fst = ts.filter fun n => !(n.bk == x) := by
    rw [filt_fst _ (fun n : Nt => n.bk == x), e1]
  have hll : ((ts.zip es).filter fun q => !(q.1.bk == x)).length = (ts.filter fun n => !(n.bk == x)).length := by rw [← hf, List.length_map]
  rw [hl] at this
  refine this.mono ?_
  rintro e' w' ⟨A2, c2, h1, h2, h3⟩
  rw [hll] at h1
  refine ⟨A2, c2, h1, ⟨((ts.zip es).filter fun q => !(q.1.bk == x)).map Prod.snd, by rw [List.length_map, hll], by rw [hll] at h2; exact h2, fun k n e a b => ?_⟩, h3⟩
  rw [List.getElem?_map] at b
  rw [← hf, List.getElem?_map] at a
  cases hq : ((ts.zip es).filter fun q => !(q.1.bk == x))[k]? with
  | none => rw [hq] at a; cases a
  | some q =>
    rw [hq] at a b
    cases a
    cases b
    exact (hget q ((List.mem_filter.1 (List.mem_of_getElem? hq)).1)).kept hon h3 (by decide) (by decide)
theorem df_dts (ts : List Nt) (A : Option Addr) (cp : Nat) (x : Int) (g0 base : Nat) (w : World) (c0 : w.cell? ⟨g0, 0, none⟩ = some (.int .i64 x)) (l0 : g0 < w.heap.size) (hg0 : g0 < base) (hbase : base ≤ w.heap.size) (hown : NtsW w base (.slice A ts.length cp) ts) (hsm : ts.length ≤ 100000) (T : List Nt) (hT : (ts.filter fun n => !(n.id == x)) = T) :
    Calls Tryz.prog 67 #[.slice A ts.length cp, .func (.func 71) #[] #[.pointer (some ⟨g0, 0, none⟩)]] w fun e' w' => ∃ A2 c2, e' = .returned (.slice A2 T.length c2) ∧ NtsW w' base (.slice A2 T.length c2) T ∧ w.grownBy w' (Value.slice A ts.length cp).ownBlock := by
  subst hT
  obtain ⟨es, hel, hon, hnt⟩ := hown
  have h5 := es_five hel hnt
  have e1 := zip_fst ts es hel
  have e2 := zip_snd ts es hel
  have hl : (ts.zip es).length = ts.length := by rw [List.length_zip, hel, Nat.min_self]
  have hr : NtsIn w w.heap.size A ts := ⟨es, hel, sle_of_own hon h5 (by decide), fun k n e a b => (hnt k n e a b).toIn⟩
  have hget : ∀ q ∈ ts.zip es, NtW w base q.1 q.2 := by
    intro q hq
    obtain ⟨k, hk, rfl⟩ := List.mem_iff_getElem.1 hq
    have hk' : k < ts.length := by rw [← hl]; exact hk
    rw [List.getElem_zip]
    exact hnt k _ _ (List.getElem?_eq_getElem hk') (List.getElem?_eq_getElem (by omega))
  have := df_disc (ts.zip es) A cp x g0 base w (fun q hq => by
    obtain ⟨vt, vs, h, q1, q2⟩ := hget q hq
    obtain ⟨A1, c1, h1, _⟩ := own_shape q1
    obtain ⟨A2, c2, h2, _⟩ := own_shape q2
    exact ⟨vt, vs, h, ⟨A1, _, c1, h1⟩, A2, _, c2, h2⟩) (by rw [e1]; exact hr) c0 l0 hg0 hbase (by rw [hl, e2]; exact hon) (by rw [hl]; exact hsm)
  have hf : ((ts.zip es).filter fun q => !(q.1.id == x)).map Prod.fst = ts.filter fun n => !(n.id == x) := by
    rw [filt_fst _ (fun n : Nt => n.id == x), e1]
  have hll : ((ts.zip es).filter fun q => !(q.1.id == x)).length = (ts.filter fun n => !(n.id == x)).length := by rw [← hf, List.length_map]
  rw [hl] at this
  refine this.mono ?_
  rintro e' w' ⟨A2, c2, h1, h2, h3⟩
  rw [hll] at h1
  refine ⟨A2, c2, h1, ⟨((ts.zip es).filter fun q => !(q.1.id == x)).map Prod.snd, by rw [List.length_map, hll], by rw [hll] at h2; exact h2, fun k n e a b => ?_⟩, h3⟩
  rw [List.getElem?_map] at b
  rw [← hf, List.getElem?_map] at a
  cases hq : ((ts.zip es).filter fun q => !(q.1.id == x))[k]? with
  | none => rw [hq] at a; cases a
  | some q =>
    rw [hq] at a b
    cases a
    cases b
    exact (hget q ((List.mem_filter.1 (List.mem_of_getElem? hq)).1)).kept hon h3 (by decide) (by decide)
theorem BksW.apartN {w w' : World} {base b2 C2 n2 : Nat} {vb v2 : Value} {bs : List Bk} {x2 : List Value} (h : BksW w base vb bs) (h2 : w.ownsRow b2 46 C2 v2 n2 x2) (hg : w.grownBy w' v2.ownBlock) : BksW w' base vb bs := World.ownsRow.kept h hg (own_apart h h2 (by decide))
def dropC (s : Sf) (x : Int) : Int := cond (mayS s) (cond (decide (bookAt s x < 0)) 4 0) 2
def dropS (s : Sf) (x : Int) : Sf := { s with bs := s.bs.filter (fun b => !(b.id == x)), ts := s.ts.filter (fun n => !(n.bk == x)) }
def discC (s : Sf) (x : Int) : Int := cond (mayS s) (cond (decide (noteAt s x < 0)) 4 0) 2
def discS (s : Sf) (x : Int) : Sf := { s with ts := s.ts.filter (fun n => !(n.id == x)) }
theorem drop_no (s : Sf) (v : Value) (x : Int) (w : World) (hS : ShR w w.heap.size v s) (hT : Tabs w) (c : Int) (hc : dropC s x = c) (hne : c ≠ 0) :
    Calls Tryz.prog 33 #[v, .int .i64 x] w fun e' w' => e' = .returned (.tuple #[.agg #[.int .i64 0, .int .i64 0, .int .i64 0, .slice none 0 0, .slice none 0 0], .int .i64 c]) ∧ Below w.heap.size w w' := by
  have hS0 := hS
  obtain ⟨Ab, cb, An, cn, rfl, hB, hN, hcb, hmb, hcn, hmn⟩ := hS.ex
  clear hS
  have HB : Below w.heap.size w (((w.alloc (.cells #[.int .i64 s.nb, .int .i64 s.nn, .int .i64 s.ns, .slice Ab s.bs.length cb, .slice An s.ts.length cn] 25)).alloc (.cells #[.int .i64 x] 3)).alloc (.cells #[.int .i64 0, .int .i64 0, .int .i64 0, .slice none 0 0, .slice none 0 0] 25)) := ((((Below.refl w.heap.size w).alloc (by first | (simp; done) | (simp; omega)) _).alloc (by first | (simp; done) | (simp; omega)) _).alloc (by first | (simp; done) | (simp; omega)) _)
  have B1 : Blk (((w.alloc (.cells #[.int .i64 s.nb, .int .i64 s.nn, .int .i64 s.ns, .slice Ab s.bs.length cb, .slice An s.ts.length cn] 25)).alloc (.cells #[.int .i64 x] 3)).alloc (.cells #[.int .i64 0, .int .i64 0, .int .i64 0, .slice none 0 0, .slice none 0 0] 25)) w.heap.size 25 #[.int .i64 s.nb, .int .i64 s.nn, .int .i64 s.ns, .slice Ab s.bs.length cb, .slice An s.ts.length cn] := ((Blk.new_ w 25 #[.int .i64 s.nb, .int .i64 s.nn, .int .i64 s.ns, .slice Ab s.bs.length cb, .slice An s.ts.length cn]).alloc_ _).alloc_ _
  have B3 : Blk (((w.alloc (.cells #[.int .i64 s.nb, .int .i64 s.nn, .int .i64 s.ns, .slice Ab s.bs.length cb, .slice An s.ts.length cn] 25)).alloc (.cells #[.int .i64 x] 3)).alloc (.cells #[.int .i64 0, .int .i64 0, .int .i64 0, .slice none 0 0, .slice none 0 0] 25)) (w.heap.size + 1) 3 #[.int .i64 x] := by
    have := (Blk.new_ (w.alloc (.cells #[.int .i64 s.nb, .int .i64 s.nn, .int .i64 s.ns, .slice Ab s.bs.length cb, .slice An s.ts.length cn] 25)) 3 #[.int .i64 x]).alloc_ (.cells #[.int .i64 0, .int .i64 0, .int .i64 0, .slice none 0 0, .slice none 0 0] 25)
    simpa using this
  have B2 : Blk (((w.alloc (.cells #[.int .i64 s.nb, .int .i64 s.nn, .int .i64 s.ns, .slice Ab s.bs.length cb, .slice An s.ts.length cn] 25)).alloc (.cells #[.int .i64 x] 3)).alloc (.cells #[.int .i64 0, .int .i64 0, .int .i64 0, .slice none 0 0, .slice none 0 0] 25)) (w.heap.size + 2) 25 #[.int .i64 0, .int .i64 0, .int .i64 0, .slice none 0 0, .slice none 0 0] := by
    have := Blk.new_ ((w.alloc (.cells #[.int .i64 s.nb, .int .i64 s.nn, .int .i64 s.ns, .slice Ab s.bs.length cb, .slice An s.ts.length cn] 25)).alloc (.cells #[.int .i64 x] 3)) 25 #[.int .i64 0, .int .i64 0, .int .i64 0, .slice none 0 0, .slice none 0 0]
    simpa using this
  have S1 : ShR (((w.alloc (.cells #[.int .i64 s.nb, .int .i64 s.nn, .int .i64 s.ns, .slice Ab s.bs.length cb, .slice An s.ts.length cn] 25)).alloc (.cells #[.int .i64 x] 3)).alloc (.cells #[.int .i64 0, .int .i64 0, .int .i64 0, .slice none 0 0, .slice none 0 0] 25)) ((((w.alloc (.cells #[.int .i64 s.nb, .int .i64 s.nn, .int .i64 s.ns, .slice Ab s.bs.length cb, .slice An s.ts.length cn] 25)).alloc (.cells #[.int .i64 x] 3)).alloc (.cells #[.int .i64 0, .int .i64 0, .int .i64 0, .slice none 0 0, .slice none 0 0] 25))).heap.size (.agg #[.int .i64 s.nb, .int .i64 s.nn, .int .i64 s.ns, .slice Ab s.bs.length cb, .slice An s.ts.length cn]) s := hS0.next HB
  have T1 := hT.next HB
  clear hS0 hT hB hN hcb hmb hcn hmn
  obtain ⟨M, hM⟩ : ∃ M, mayS s = M := ⟨_, rfl⟩
  obtain ⟨I, hI⟩ : ∃ I, bookAt s x = I := ⟨_, rfl⟩
  unfold dropC at hc
  rw [hM, hI] at hc
  have HM := Lib.hid hM
  have HI := Lib.hid hI
  clear hM hI
  cases M
  · obtain rfl : c = 2 := hc.symm
    clear hc hne
    go_enter Tryz.func33, Tryz.ntmps33
    go_wp2_with (go_at_call 10; ((with_reducible refine (smay_any s _ _ S1 T1 _ HM.out).mono ?_); rintro e' w3 ⟨rfl, bx⟩; have S1 := S1.next bx; have T1 := T1.next bx; have B1 := B1.below bx B1.lt; have B2 := B2.below bx B2.lt; have B3 := B3.below bx B3.lt; have HB := btr HB HB.size bx; (try clear k0 k1 k2 k3 k4 r0 r1 r2 r3 r4 t0 t1 t2 t3 t4 q0); have k0 := B1.cell_ 0; have r0 := B2.cell_ 0; have t0 := B2.free 0; have k1 := B1.cell_ 1; have r1 := B2.cell_ 1; have t1 := B2.free 1; have k2 := B1.cell_ 2; have r2 := B2.cell_ 2; have t2 := B2.free 2; have k3 := B1.cell_ 3; have r3 := B2.cell_ 3; have t3 := B2.free 3; have k4 := B1.cell_ 4; have r4 := B2.cell_ 4; have t4 := B2.free 4; have q0 := B3.cell_ 0; simp at k0 k1 k2 k3 k4 r0 r1 r2 r3 r4 q0; clear bx))
    have B2u := B2.st5_ (.int .i64 0) (.int .i64 0) (.int .i64 0) (.slice none 0 0) (.slice none 0 0)
    have hb2 := st5_below HB (g := w.heap.size + 2) (by omega) 0 (.int .i64 0) (.int .i64 0) (.int .i64 0) (.slice none 0 0) (.slice none 0 0)
    change bodyPost _ _ _ _ _ (st5 w3 (w.heap.size + 2) 0 (.int .i64 0) (.int .i64 0) (.int .i64 0) (.slice none 0 0) (.slice none 0 0))
    generalize st5 w3 (w.heap.size + 2) 0 (.int .i64 0) (.int .i64 0) (.int .i64 0) (.slice none 0 0) (.slice none 0 0) = Wd at B2u hb2 ⊢
    apply bodyPost_ret (v := .tuple #[.agg #[.int .i64 0, .int .i64 0, .int .i64 0, .slice none 0 0, .slice none 0 0], .int .i64 2])
    · exact results_cell1 Tryz.results33 _ Wd (w.heap.size + 2) 25 #[.int .i64 0, .int .i64 0, .int .i64 0, .slice none 0 0, .slice none 0 0] (0, 0) _ rfl B2u Tryz.underlying25 rfl (by kernel_rfl)
    · rfl
    · exact ⟨rfl, hb2⟩
  · by_cases hi : I < 0
    · obtain rfl : c = 4 := by simpa [hi] using hc.symm
      clear hc hne
      go_enter Tryz.func33, Tryz.ntmps33
      go_wp2_with (first | (go_at_call 10; ((with_reducible refine (smay_any s _ _ S1 T1 _ HM.out).mono ?_); rintro e' w3 ⟨rfl, bx⟩; have S1 := S1.next bx; have T1 := T1.next bx; have B1 := B1.below bx B1.lt; have B2 := B2.below bx B2.lt; have B3 := B3.below bx B3.lt; have HB := btr HB HB.size bx; (try clear k0 k1 k2 k3 k4 r0 r1 r2 r3 r4 t0 t1 t2 t3 t4 q0); have k0 := B1.cell_ 0; have r0 := B2.cell_ 0; have t0 := B2.free 0; have k1 := B1.cell_ 1; have r1 := B2.cell_ 1; have t1 := B2.free 1; have k2 := B1.cell_ 2; have r2 := B2.cell_ 2; have t2 := B2.free 2; have k3 := B1.cell_ 3; have r3 := B2.cell_ 3; have t3 := B2.free 3; have k4 := B1.cell_ 4; have r4 := B2.cell_ 4; have t4 := B2.free 4; have q0 := B3.cell_ 0; simp at k0 k1 k2 k3 k4 r0 r1 r2 r3 r4 q0; clear bx)) | (go_at_call 52; ((with_reducible refine (pBook_any s _ x _ S1).mono ?_); rintro e' w4 ⟨rfl, bx⟩; rw [HI.out]; have S1 := S1.next bx; have T1 := T1.next bx; have B1 := B1.below bx B1.lt; have B2 := B2.below bx B2.lt; have B3 := B3.below bx B3.lt; have HB := btr HB HB.size bx; (try clear k0 k1 k2 k3 k4 r0 r1 r2 r3 r4 t0 t1 t2 t3 t4 q0); have k0 := B1.cell_ 0; have r0 := B2.cell_ 0; have t0 := B2.free 0; have k1 := B1.cell_ 1; have r1 := B2.cell_ 1; have t1 := B2.free 1; have k2 := B1.cell_ 2; have r2 := B2.cell_ 2; have t2 := B2.free 2; have k3 := B1.cell_ 3; have r3 := B2.cell_ 3; have t3 := B2.free 3; have k4 := B1.cell_ 4; have r4 := B2.cell_ 4; have t4 := B2.free 4; have q0 := B3.cell_ 0; simp at k0 k1 k2 k3 k4 r0 r1 r2 r3 r4 q0; clear bx)))
      have B2u := B2.st5_ (.int .i64 0) (.int .i64 0) (.int .i64 0) (.slice none 0 0) (.slice none 0 0)
      have hb2 := st5_below HB (g := w.heap.size + 2) (by omega) 0 (.int .i64 0) (.int .i64 0) (.int .i64 0) (.slice none 0 0) (.slice none 0 0)
      change bodyPost _ _ _ _ _ (st5 w4 (w.heap.size + 2) 0 (.int .i64 0) (.int .i64 0) (.int .i64 0) (.slice none 0 0) (.slice none 0 0))
      generalize st5 w4 (w.heap.size + 2) 0 (.int .i64 0) (.int .i64 0) (.int .i64 0) (.slice none 0 0) (.slice none 0 0) = Wd at B2u hb2 ⊢
      apply bodyPost_ret (v := .tuple #[.agg #[.int .i64 0, .int .i64 0, .int .i64 0, .slice none 0 0, .slice none 0 0], .int .i64 4])
      · exact results_cell1 Tryz.results33 _ Wd (w.heap.size + 2) 25 #[.int .i64 0, .int .i64 0, .int .i64 0, .slice none 0 0, .slice none 0 0] (0, 0) _ rfl B2u Tryz.underlying25 rfl (by kernel_rfl)
      · rfl
      · exact ⟨rfl, hb2⟩
    · exact absurd (by simpa [hi] using hc.symm) hne
theorem disc_no (s : Sf) (v : Value) (x : Int) (w : World) (hS : ShR w w.heap.size v s) (hT : Tabs w) (c : Int) (hc : discC s x = c) (hne : c ≠ 0) :
    Calls Tryz.prog 41 #[v, .int .i64 x] w fun e' w' => e' = .returned (.tuple #[.agg #[.int .i64 0, .int .i64 0, .int .i64 0, .slice none 0 0, .slice none 0 0], .int .i64 c]) ∧ Below w.heap.size w w' := by
  have hS0 := hS
  obtain ⟨Ab, cb, An, cn, rfl, hB, hN, hcb, hmb, hcn, hmn⟩ := hS.ex
  clear hS
  have HB : Below w.heap.size w (((w.alloc (.cells #[.int .i64 s.nb, .int .i64 s.nn, .int .i64 s.ns, .slice Ab s.bs.length cb, .slice An s.ts.length cn] 25)).alloc (.cells #[.int .i64 x] 3)).alloc (.cells #[.int .i64 0, .int .i64 0, .int .i64 0, .slice none 0 0, .slice none 0 0] 25)) := ((((Below.refl w.heap.size w).alloc (by first | (simp; done) | (simp; omega)) _).alloc (by first | (simp; done) | (simp; omega)) _).alloc (by first | (simp; done) | (simp; omega)) _)
  have B1 : Blk (((w.alloc (.cells #[.int .i64 s.nb, .int .i64 s.nn, .int .i64 s.ns, .slice Ab s.bs.length cb, .slice An s.ts.length cn] 25)).alloc (.cells #[.int .i64 x] 3)).alloc (.cells #[.int .i64 0, .int .i64 0, .int .i64 0, .slice none 0 0, .slice none 0 0] 25)) w.heap.size 25 #[.int .i64 s.nb, .int .i64 s.nn, .int .i64 s.ns, .slice Ab s.bs.length cb, .slice An s.ts.length cn] := ((Blk.new_ w 25 #[.int .i64 s.nb, .int .i64 s.nn, .int .i64 s.ns, .slice Ab s.bs.length cb, .slice An s.ts.length cn]).alloc_ _).alloc_ _
  have B3 : Blk (((w.alloc (.cells #[.int .i64 s.nb, .int .i64 s.nn, .int .i64 s.ns, .slice Ab s.bs.length cb, .slice An s.ts.length cn] 25)).alloc (.cells #[.int .i64 x] 3)).alloc (.cells #[.int .i64 0, .int .i64 0, .int .i64 0, .slice none 0 0, .slice none 0 0] 25)) (w.heap.size + 1) 3 #[.int .i64 x] := by
    have := (Blk.new_ (w.alloc (.cells #[.int .i64 s.nb, .int .i64 s.nn, .int .i64 s.ns, .slice Ab s.bs.length cb, .slice An s.ts.length cn] 25)) 3 #[.int .i64 x]).alloc_ (.cells #[.int .i64 0, .int .i64 0, .int .i64 0, .slice none 0 0, .slice none 0 0] 25)
    simpa using this
  have B2 : Blk (((w.alloc (.cells #[.int .i64 s.nb, .int .i64 s.nn, .int .i64 s.ns, .slice Ab s.bs.length cb, .slice An s.ts.length cn] 25)).alloc (.cells #[.int .i64 x] 3)).alloc (.cells #[.int .i64 0, .int .i64 0, .int .i64 0, .slice none 0 0, .slice none 0 0] 25)) (w.heap.size + 2) 25 #[.int .i64 0, .int .i64 0, .int .i64 0, .slice none 0 0, .slice none 0 0] := by
    have := Blk.new_ ((w.alloc (.cells #[.int .i64 s.nb, .int .i64 s.nn, .int .i64 s.ns, .slice Ab s.bs.length cb, .slice An s.ts.length cn] 25)).alloc (.cells #[.int .i64 x] 3)) 25 #[.int .i64 0, .int .i64 0, .int .i64 0, .slice none 0 0, .slice none 0 0]
    simpa using this
  have S1 : ShR (((w.alloc (.cells #[.int .i64 s.nb, .int .i64 s.nn, .int .i64 s.ns, .slice Ab s.bs.length cb, .slice An s.ts.length cn] 25)).alloc (.cells #[.int .i64 x] 3)).alloc (.cells #[.int .i64 0, .int .i64 0, .int .i64 0, .slice none 0 0, .slice none 0 0] 25)) ((((w.alloc (.cells #[.int .i64 s.nb, .int .i64 s.nn, .int .i64 s.ns, .slice Ab s.bs.length cb, .slice An s.ts.length cn] 25)).alloc (.cells #[.int .i64 x] 3)).alloc (.cells #[.int .i64 0, .int .i64 0, .int .i64 0, .slice none 0 0, .slice none 0 0] 25))).heap.size (.agg #[.int .i64 s.nb, .int .i64 s.nn, .int .i64 s.ns, .slice Ab s.bs.length cb, .slice An s.ts.length cn]) s := hS0.next HB
  have T1 := hT.next HB
  clear hS0 hT hB hN hcb hmb hcn hmn
  obtain ⟨M, hM⟩ : ∃ M, mayS s = M := ⟨_, rfl⟩
  obtain ⟨I, hI⟩ : ∃ I, noteAt s x = I := ⟨_, rfl⟩
  unfold discC at hc
  rw [hM, hI] at hc
  have HM := Lib.hid hM
  have HI := Lib.hid hI
  clear hM hI
  cases M
  · obtain rfl : c = 2 := hc.symm
    clear hc hne
    go_enter Tryz.func41, Tryz.ntmps41
    go_wp2_with (go_at_call 10; ((with_reducible refine (smay_any s _ _ S1 T1 _ HM.out).mono ?_); rintro e' w3 ⟨rfl, bx⟩; have S1 := S1.next bx; have T1 := T1.next bx; have B1 := B1.below bx B1.lt; have B2 := B2.below bx B2.lt; have B3 := B3.below bx B3.lt; have HB := btr HB HB.size bx; (try clear k0 k1 k2 k3 k4 r0 r1 r2 r3 r4 t0 t1 t2 t3 t4 q0); have k0 := B1.cell_ 0; have r0 := B2.cell_ 0; have t0 := B2.free 0; have k1 := B1.cell_ 1; have r1 := B2.cell_ 1; have t1 := B2.free 1; have k2 := B1.cell_ 2; have r2 := B2.cell_ 2; have t2 := B2.free 2; have k3 := B1.cell_ 3; have r3 := B2.cell_ 3; have t3 := B2.free 3; have k4 := B1.cell_ 4; have r4 := B2.cell_ 4; have t4 := B2.free 4; have q0 := B3.cell_ 0; simp at k0 k1 k2 k3 k4 r0 r1 r2 r3 r4 q0; clear bx))
    have B2u := B2.st5_ (.int .i64 0) (.int .i64 0) (.int .i64 0) (.slice none 0 0) (.slice none 0 0)
    have hb2 := st5_below HB (g := w.heap.size + 2) (by omega) 0 (.int .i64 0) (.int .i64 0) (.int .i64 0) (.slice none 0 0) (.slice none 0 0)
    change bodyPost _ _ _ _ _ (st5 w3 (w.heap.size + 2) 0 (.int .i64 0) (.int .i64 0) (.int .i64 0) (.slice none 0 0) (.slice none 0 0))
    generalize st5 w3 (w.heap.size + 2) 0 (.int .i64 0) (.int .i64 0) (.int .i64 0) (.slice none 0 0) (.slice none 0 0) = Wd at B2u hb2 ⊢
    apply bodyPost_ret (v := .tuple #[.agg #[.int .i64 0, .int .i64 0, .int .i64 0, .slice none 0 0, .slice none 0 0], .int .i64 2])
    · exact results_cell1 Tryz.results41 _ Wd (w.heap.size + 2) 25 #[.int .i64 0, .int .i64 0, .int .i64 0, .slice none 0 0, .slice none 0 0] (0, 0) _ rfl B2u Tryz.underlying25 rfl (by kernel_rfl)
    · rfl
    · exact ⟨rfl, hb2⟩
  · by_cases hi : I < 0
    · obtain rfl : c = 4 := by simpa [hi] using hc.symm
      clear hc hne
      go_enter Tryz.func41, Tryz.ntmps41
      go_wp2_with (first | (go_at_call 10; ((with_reducible refine (smay_any s _ _ S1 T1 _ HM.out).mono ?_); rintro e' w3 ⟨rfl, bx⟩; have S1 := S1.next bx; have T1 := T1.next bx; have B1 := B1.below bx B1.lt; have B2 := B2.below bx B2.lt; have B3 := B3.below bx B3.lt; have HB := btr HB HB.size bx; (try clear k0 k1 k2 k3 k4 r0 r1 r2 r3 r4 t0 t1 t2 t3 t4 q0); have k0 := B1.cell_ 0; have r0 := B2.cell_ 0; have t0 := B2.free 0; have k1 := B1.cell_ 1; have r1 := B2.cell_ 1; have t1 := B2.free 1; have k2 := B1.cell_ 2; have r2 := B2.cell_ 2; have t2 := B2.free 2; have k3 := B1.cell_ 3; have r3 := B2.cell_ 3; have t3 := B2.free 3; have k4 := B1.cell_ 4; have r4 := B2.cell_ 4; have t4 := B2.free 4; have q0 := B3.cell_ 0; simp at k0 k1 k2 k3 k4 r0 r1 r2 r3 r4 q0; clear bx)) | (go_at_call 55; ((with_reducible refine (pNote_any s _ x _ S1).mono ?_); rintro e' w4 ⟨rfl, bx⟩; rw [HI.out]; have S1 := S1.next bx; have T1 := T1.next bx; have B1 := B1.below bx B1.lt; have B2 := B2.below bx B2.lt; have B3 := B3.below bx B3.lt; have HB := btr HB HB.size bx; (try clear k0 k1 k2 k3 k4 r0 r1 r2 r3 r4 t0 t1 t2 t3 t4 q0); have k0 := B1.cell_ 0; have r0 := B2.cell_ 0; have t0 := B2.free 0; have k1 := B1.cell_ 1; have r1 := B2.cell_ 1; have t1 := B2.free 1; have k2 := B1.cell_ 2; have r2 := B2.cell_ 2; have t2 := B2.free 2; have k3 := B1.cell_ 3; have r3 := B2.cell_ 3; have t3 := B2.free 3; have k4 := B1.cell_ 4; have r4 := B2.cell_ 4; have t4 := B2.free 4; have q0 := B3.cell_ 0; simp at k0 k1 k2 k3 k4 r0 r1 r2 r3 r4 q0; clear bx)))
      have B2u := B2.st5_ (.int .i64 0) (.int .i64 0) (.int .i64 0) (.slice none 0 0) (.slice none 0 0)
      have hb2 := st5_below HB (g := w.heap.size + 2) (by omega) 0 (.int .i64 0) (.int .i64 0) (.int .i64 0) (.slice none 0 0) (.slice none 0 0)
      change bodyPost _ _ _ _ _ (st5 w4 (w.heap.size + 2) 0 (.int .i64 0) (.int .i64 0) (.int .i64 0) (.slice none 0 0) (.slice none 0 0))
      generalize st5 w4 (w.heap.size + 2) 0 (.int .i64 0) (.int .i64 0) (.int .i64 0) (.slice none 0 0) (.slice none 0 0) = Wd at B2u hb2 ⊢
      apply bodyPost_ret (v := .tuple #[.agg #[.int .i64 0, .int .i64 0, .int .i64 0, .slice none 0 0, .slice none 0 0], .int .i64 4])
      · exact results_cell1 Tryz.results41 _ Wd (w.heap.size + 2) 25 #[.int .i64 0, .int .i64 0, .int .i64 0, .slice none 0 0, .slice none 0 0] (0, 0) _ rfl B2u Tryz.underlying25 rfl (by kernel_rfl)
      · rfl
      · exact ⟨rfl, hb2⟩
    · exact absurd (by simpa [hi] using hc.symm) hne
theorem drop_yes (s : Sf) (v : Value) (x : Int) (w : World) (hS : ShR w w.heap.size v s) (hT : Tabs w) (hc : dropC s x = 0) :
    Calls Tryz.prog 33 #[v, .int .i64 x] w fun e' w' => ∃ v', e' = .returned (.tuple #[v', .int .i64 0]) ∧ ShW w' w.heap.size v' (dropS s x) ∧ Below w.heap.size w w' := by
  have hS0 := hS
  obtain ⟨Ab, cb, An, cn, rfl, hB, hN, hcb, hmb, hcn, hmn⟩ := hS.ex
  clear hS
  have HB : Below w.heap.size w (((w.alloc (.cells #[.int .i64 s.nb, .int .i64 s.nn, .int .i64 s.ns, .slice Ab s.bs.length cb, .slice An s.ts.length cn] 25)).alloc (.cells #[.int .i64 x] 3)).alloc (.cells #[.int .i64 0, .int .i64 0, .int .i64 0, .slice none 0 0, .slice none 0 0] 25)) := ((((Below.refl w.heap.size w).alloc (by first | (simp; done) | (simp; omega)) _).alloc (by first | (simp; done) | (simp; omega)) _).alloc (by first | (simp; done) | (simp; omega)) _)
  have B1 : Blk (((w.alloc (.cells #[.int .i64 s.nb, .int .i64 s.nn, .int .i64 s.ns, .slice Ab s.bs.length cb, .slice An s.ts.length cn] 25)).alloc (.cells #[.int .i64 x] 3)).alloc (.cells #[.int .i64 0, .int .i64 0, .int .i64 0, .slice none 0 0, .slice none 0 0] 25)) w.heap.size 25 #[.int .i64 s.nb, .int .i64 s.nn, .int .i64 s.ns, .slice Ab s.bs.length cb, .slice An s.ts.length cn] := ((Blk.new_ w 25 #[.int .i64 s.nb, .int .i64 s.nn, .int .i64 s.ns, .slice Ab s.bs.length cb, .slice An s.ts.length cn]).alloc_ _).alloc_ _
  have B3 : Blk (((w.alloc (.cells #[.int .i64 s.nb, .int .i64 s.nn, .int .i64 s.ns, .slice Ab s.bs.length cb, .slice An s.ts.length cn] 25)).alloc (.cells #[.int .i64 x] 3)).alloc (.cells #[.int .i64 0, .int .i64 0, .int .i64 0, .slice none 0 0, .slice none 0 0] 25)) (w.heap.size + 1) 3 #[.int .i64 x] := by
    have := (Blk.new_ (w.alloc (.cells #[.int .i64 s.nb, .int .i64 s.nn, .int .i64 s.ns, .slice Ab s.bs.length cb, .slice An s.ts.length cn] 25)) 3 #[.int .i64 x]).alloc_ (.cells #[.int .i64 0, .int .i64 0, .int .i64 0, .slice none 0 0, .slice none 0 0] 25)
    simpa using this
  have B2 : Blk (((w.alloc (.cells #[.int .i64 s.nb, .int .i64 s.nn, .int .i64 s.ns, .slice Ab s.bs.length cb, .slice An s.ts.length cn] 25)).alloc (.cells #[.int .i64 x] 3)).alloc (.cells #[.int .i64 0, .int .i64 0, .int .i64 0, .slice none 0 0, .slice none 0 0] 25)) (w.heap.size + 2) 25 #[.int .i64 0, .int .i64 0, .int .i64 0, .slice none 0 0, .slice none 0 0] := by
    have := Blk.new_ ((w.alloc (.cells #[.int .i64 s.nb, .int .i64 s.nn, .int .i64 s.ns, .slice Ab s.bs.length cb, .slice An s.ts.length cn] 25)).alloc (.cells #[.int .i64 x] 3)) 25 #[.int .i64 0, .int .i64 0, .int .i64 0, .slice none 0 0, .slice none 0 0]
    simpa using this
  have S1 : ShR (((w.alloc (.cells #[.int .i64 s.nb, .int .i64 s.nn, .int .i64 s.ns, .slice Ab s.bs.length cb, .slice An s.ts.length cn] 25)).alloc (.cells #[.int .i64 x] 3)).alloc (.cells #[.int .i64 0, .int .i64 0, .int .i64 0, .slice none 0 0, .slice none 0 0] 25)) ((((w.alloc (.cells #[.int .i64 s.nb, .int .i64 s.nn, .int .i64 s.ns, .slice Ab s.bs.length cb, .slice An s.ts.length cn] 25)).alloc (.cells #[.int .i64 x] 3)).alloc (.cells #[.int .i64 0, .int .i64 0, .int .i64 0, .slice none 0 0, .slice none 0 0] 25))).heap.size (.agg #[.int .i64 s.nb, .int .i64 s.nn, .int .i64 s.ns, .slice Ab s.bs.length cb, .slice An s.ts.length cn]) s := hS0.next HB
  have T1 := hT.next HB
  clear hS0 hT hB hN hcb hmb hcn hmn
  obtain ⟨hM, hI⟩ : mayS s = true ∧ ¬ bookAt s x < 0 := by
    unfold dropC at hc
    cases h1 : mayS s <;> by_cases h2 : bookAt s x < 0 <;> rw [h1] at hc <;> simp [h2] at hc ⊢
    all_goals exact Int.not_lt.1 h2
  have hMF := mayF_of hM
  have hlb : s.bs.length ≤ 100000 := by have := hMF.bl; omega
  have hln : s.ts.length ≤ 100000 := by have := hMF.tl; omega
  obtain ⟨I, hIe⟩ : ∃ I, bookAt s x = I := ⟨_, rfl⟩
  rw [hIe] at hI
  have HM := Lib.hid hM
  have HI := Lib.hid hIe
  have HLB := Lib.hid hlb
  have HLN := Lib.hid hln
  have HLR := Lib.hid hMF.small
  obtain ⟨TB, hTB⟩ : ∃ T, (s.bs.filter fun b => !(b.id == x)) = T := ⟨_, rfl⟩
  obtain ⟨TN, hTN⟩ : ∃ T, (s.ts.filter fun n => !(n.bk == x)) = T := ⟨_, rfl⟩
  have HTB := Lib.hid hTB
  have HTN := Lib.hid hTN
  clear hTB hTN
  clear hM hIe hMF hc hlb hln
  go_enter Tryz.func33, Tryz.ntmps33
  go_upto_region 5 with (first | (go_at_call 10; ((with_reducible refine (smay_any s _ _ S1 T1 _ HM.out).mono ?_); rintro e' w3 ⟨rfl, bx⟩; have S1 := S1.next bx; have T1 := T1.next bx; have B1 := B1.below bx B1.lt; have B2 := B2.below bx B2.lt; have B3 := B3.below bx B3.lt; have HB := btr HB HB.size bx; (try clear k0 k1 k2 k3 k4 r0 r1 r2 r3 r4 t0 t1 t2 t3 t4 q0); have k0 := B1.cell_ 0; have r0 := B2.cell_ 0; have t0 := B2.free 0; have k1 := B1.cell_ 1; have r1 := B2.cell_ 1; have t1 := B2.free 1; have k2 := B1.cell_ 2; have r2 := B2.cell_ 2; have t2 := B2.free 2; have k3 := B1.cell_ 3; have r3 := B2.cell_ 3; have t3 := B2.free 3; have k4 := B1.cell_ 4; have r4 := B2.cell_ 4; have t4 := B2.free 4; have q0 := B3.cell_ 0; simp at k0 k1 k2 k3 k4 r0 r1 r2 r3 r4 q0; clear bx)) | (go_at_call 52; ((with_reducible refine (pBook_any s _ x _ S1).mono ?_); rintro e' w4 ⟨rfl, bx⟩; rw [HI.out]; have S1 := S1.next bx; have T1 := T1.next bx; have B1 := B1.below bx B1.lt; have B2 := B2.below bx B2.lt; have B3 := B3.below bx B3.lt; have HB := btr HB HB.size bx; (try clear k0 k1 k2 k3 k4 r0 r1 r2 r3 r4 t0 t1 t2 t3 t4 q0); have k0 := B1.cell_ 0; have r0 := B2.cell_ 0; have t0 := B2.free 0; have k1 := B1.cell_ 1; have r1 := B2.cell_ 1; have t1 := B2.free 1; have k2 := B1.cell_ 2; have r2 := B2.cell_ 2; have t2 := B2.free 2; have k3 := B1.cell_ 3; have r3 := B2.cell_ 3; have t3 := B2.free 3; have k4 := B1.cell_ 4; have r4 := B2.cell_ 4; have t4 := B2.free 4; have q0 := B3.cell_ 0; simp at k0 k1 k2 k3 k4 r0 r1 r2 r3 r4 q0; clear bx)))
  have hW5 : w.heap.size + 3 ≤ w4.heap.size := by have := B2.lt; omega
  go_upto_region 6 with (go_at_call 63; ((with_reducible refine (clone_any s _ _ S1 HLB.out HLN.out HLR.out).mono ?_); rintro e' w6 ⟨v6, rfl, hW, b6⟩; obtain ⟨Ab6, cb6, An6, cn6, rfl, hBk, hNt, q1, q2, q3, q4⟩ := hW.parts; have B1 := B1.below b6 B1.lt; have B2 := B2.below b6 B2.lt; have B3 := B3.below b6 B3.lt; have HB := btr HB HB.size b6; have hz6 := b6.size; (try clear k0 k1 k2 k3 k4 r0 r1 r2 r3 r4 t0 t1 t2 t3 t4 q0); have k0 := B1.cell_ 0; have t0 := B1.free 0; have k1 := B1.cell_ 1; have t1 := B1.free 1; have k2 := B1.cell_ 2; have t2 := B1.free 2; have k3 := B1.cell_ 3; have t3 := B1.free 3; have k4 := B1.cell_ 4; have t4 := B1.free 4; simp at k0 k1 k2 k3 k4; clear b6 hW S1 T1))
  have B1u := B1.st5_ (.int .i64 s.nb) (.int .i64 s.nn) (.int .i64 s.ns) (.slice Ab6 s.bs.length cb6) (.slice An6 s.ts.length cn6)
  have hg6 := st5_grown w6 w.heap.size 0 (.int .i64 s.nb) (.int .i64 s.nn) (.int .i64 s.ns) (.slice Ab6 s.bs.length cb6) (.slice An6 s.ts.length cn6)
  have B2u := B2.grown hg6 (by omega)
  have B3u := B3.grown hg6 (by omega)
  have hBk2 := hBk.far hg6 (by omega)
  have hNt2 := hNt.far hg6 (by omega)
  have hb2 := below_grown HB hg6 (Nat.le_refl _) HB.size
  have hsz : w4.heap.size ≤ (st5 w6 w.heap.size 0 (.int .i64 s.nb) (.int .i64 s.nn) (.int .i64 s.ns) (.slice Ab6 s.bs.length cb6) (.slice An6 s.ts.length cn6)).heap.size := by have := hz6; have := hg6.size; omega
  clear hg6
  obtain ⟨Wd, hWd⟩ : ∃ V : World, V = (st5 w6 w.heap.size 0 (.int .i64 s.nb) (.int .i64 s.nn) (.int .i64 s.ns) (.slice Ab6 s.bs.length cb6) (.slice An6 s.ts.length cn6)) := ⟨_, rfl⟩
  change Code.wp _ _ _ _ (st5 w6 w.heap.size 0 (.int .i64 s.nb) (.int .i64 s.nn) (.int .i64 s.ns) (.slice Ab6 s.bs.length cb6) (.slice An6 s.ts.length cn6))
  rw [← hWd] at B1u B2u B3u hBk2 hNt2 hb2 hsz ⊢
  clear hWd B1 B2 B3 HB hBk hNt k0 k1 k2 k3 k4 t0 t1 t2 t3 t4 hz6
  have HSZ := Lib.hid hsz
  have HW5 := Lib.hid hW5
  clear hsz hW5 q1 q2 q3 q4
  have k0 := B1u.cell_ 0
  have t0 := B1u.free 0
  have k1 := B1u.cell_ 1
  have t1 := B1u.free 1
  have k2 := B1u.cell_ 2
  have t2 := B1u.free 2
  have k3 := B1u.cell_ 3
  have t3 := B1u.free 3
  have k4 := B1u.cell_ 4
  have t4 := B1u.free 4
  have q0 := B3u.cell_ 0
  simp at k0 k1 k2 k3 k4 q0
  go_upto_region 7 with (go_at_call 65; ((with_reducible refine (df_bs s.bs Ab6 cb6 x (w.heap.size + 1) w4.heap.size _ q0 B3u.lt (by have := HW5.out; omega) HSZ.out hBk2 HLB.out _ HTB.out).mono ?_); rintro e' w7 ⟨A7, c7, rfl, hD, hgD⟩; have hrow := World.ownsRow.lt hBk2; have hNt3 := hNt2.apart hBk2 hgD; have B1v := B1u.grownR hgD (fun h => by have h1 := hrow _ h; have h2 := HW5.out; omega); have B2v := B2u.grownR hgD (fun h => by have h1 := hrow _ h; have h2 := HW5.out; omega); have B3v := B3u.grownR hgD (fun h => by have h1 := hrow _ h; have h2 := HW5.out; omega); have hb3 := hb2.grown hgD hb2.size (fun k hk => by have h1 := hrow _ hk; have h2 := HW5.out; omega); have hsz3 := hgD.size; (clear k0 k1 k2 k3 k4 t0 t1 t2 t3 t4 q0 hrow); have k0 := B1v.cell_ 0; have t0 := B1v.free 0; have k1 := B1v.cell_ 1; have t1 := B1v.free 1; have k2 := B1v.cell_ 2; have t2 := B1v.free 2; have k3 := B1v.cell_ 3; have t3 := B1v.free 3; have k4 := B1v.cell_ 4; have t4 := B1v.free 4; have q0 := B3v.cell_ 0; simp at k0 k1 k2 k3 k4 q0; clear hgD hb2 B1u B2u B3u hBk2 hNt2))
  have hg1 := set1_grown w7 w.heap.size 3 (.slice A7 TB.length c7)
  have B1w := B1v.set_ 3 (.slice A7 TB.length c7)
  simp at B1w
  have B2w := B2v.grown hg1 (by omega)
  have B3w := B3v.grown hg1 (by omega)
  have hNt4 := hNt3.far hg1 (by have := HW5.out; omega)
  have hBk4 := BksW.far hD hg1 (by have := HW5.out; omega)
  have hb4 := below_grown hb3 hg1 (Nat.le_refl _) hb3.size
  have hsz4 := hg1.size
  have HSZ2 : Hid (w4.heap.size ≤ (w7.setCell ⟨w.heap.size, 3, none⟩ (.slice A7 TB.length c7)).heap.size) := Lib.hid (by have := HSZ.out; omega)
  obtain ⟨w8, hw8⟩ : ∃ V : World, V = w7.setCell ⟨w.heap.size, 3, none⟩ (.slice A7 TB.length c7) := ⟨_, rfl⟩
  rw [← hw8] at B1w B2w B3w hNt4 hBk4 hb4 HSZ2 ⊢
  clear hw8 B1v B2v B3v hNt3 hD hb3 hg1 hsz3 hsz4 HSZ k0 k1 k2 k3 k4 t0 t1 t2 t3 t4 q0
  have B1u := B1w
  have B2u := B2w
  have B3u := B3w
  have hBk2 := hBk4
  have hNt2 := hNt4
  have hb2 := hb4
  have HSZ := HSZ2
  clear B1w B2w B3w hBk4 hNt4 hb4 HSZ2
  have k0 := B1u.cell_ 0
  have t0 := B1u.free 0
  have k1 := B1u.cell_ 1
  have t1 := B1u.free 1
  have k2 := B1u.cell_ 2
  have t2 := B1u.free 2
  have k3 := B1u.cell_ 3
  have t3 := B1u.free 3
  have k4 := B1u.cell_ 4
  have t4 := B1u.free 4
  have q0 := B3u.cell_ 0
  simp at k0 k1 k2 k3 k4 q0
  go_upto_region 8 with (go_at_call 67; ((with_reducible refine (df_ts s.ts An6 cn6 x (w.heap.size + 1) w4.heap.size _ q0 B3u.lt (by have := HW5.out; omega) HSZ.out hNt2 HLN.out _ HTN.out).mono ?_); rintro e' w9 ⟨A9, c9, rfl, hD, hgD⟩; (obtain ⟨es9, hel9, hon9, hnt9⟩ := hNt2); have hrow := hon9.lt; have hBk3 := hBk2.apartN hon9 hgD; have B1v := B1u.grownR hgD (fun h => by have h1 := hrow _ h; have h2 := HW5.out; omega); have B2v := B2u.grownR hgD (fun h => by have h1 := hrow _ h; have h2 := HW5.out; omega); have B3v := B3u.grownR hgD (fun h => by have h1 := hrow _ h; have h2 := HW5.out; omega); have hb3 := hb2.grown hgD hb2.size (fun k hk => by have h1 := hrow _ hk; have h2 := HW5.out; omega); have hsz3 := hgD.size; (clear k0 k1 k2 k3 k4 t0 t1 t2 t3 t4 q0 hrow); have k0 := B1v.cell_ 0; have t0 := B1v.free 0; have k1 := B1v.cell_ 1; have t1 := B1v.free 1; have k2 := B1v.cell_ 2; have t2 := B1v.free 2; have k3 := B1v.cell_ 3; have t3 := B1v.free 3; have k4 := B1v.cell_ 4; have t4 := B1v.free 4; have q0 := B3v.cell_ 0; simp at k0 k1 k2 k3 k4 q0; clear hgD hb2 B1u B2u B3u hBk2 hon9 hnt9))
  have hg1 := set1_grown w9 w.heap.size 4 (.slice A9 TN.length c9)
  have B1w := B1v.set_ 4 (.slice A9 TN.length c9)
  simp at B1w
  have B2w := B2v.grown hg1 (by omega)
  have B3w := B3v.grown hg1 (by omega)
  have hBk4 := hBk3.far hg1 (by have := HW5.out; omega)
  have hNt4 := hD.far hg1 (by have := HW5.out; omega)
  have hb4 := below_grown hb3 hg1 (Nat.le_refl _) hb3.size
  have hsz4 := hg1.size
  have HSZ2 : Hid (w4.heap.size ≤ (w9.setCell ⟨w.heap.size, 4, none⟩ (.slice A9 TN.length c9)).heap.size) := Lib.hid (by have := HSZ.out; omega)
  obtain ⟨w10, hw10⟩ : ∃ V : World, V = w9.setCell ⟨w.heap.size, 4, none⟩ (.slice A9 TN.length c9) := ⟨_, rfl⟩
  rw [← hw10] at B1w B2w B3w hNt4 hBk4 hb4 HSZ2 ⊢
  clear hw10 B1v B2v B3v hBk3 hD hb3 hg1 hsz3 hsz4 HSZ k0 k1 k2 k3 k4 t0 t1 t2 t3 t4 q0
  have B1u := B1w
  have B2u := B2w
  have B3u := B3w
  have hBk2 := hBk4
  have hNt2 := hNt4
  have hb2 := hb4
  have HSZ := HSZ2
  clear B1w B2w B3w hBk4 hNt4 hb4 HSZ2
  have k0 := B1u.cell_ 0
  have t0 := B1u.free 0
  have k1 := B1u.cell_ 1
  have t1 := B1u.free 1
  have k2 := B1u.cell_ 2
  have t2 := B1u.free 2
  have k3 := B1u.cell_ 3
  have t3 := B1u.free 3
  have k4 := B1u.cell_ 4
  have t4 := B1u.free 4
  have q0 := B3u.cell_ 0
  simp at k0 k1 k2 k3 k4 q0
  clear t0 t1 t2 t3 t4
  have r0 := B2u.cell_ 0
  have t0 := B2u.free 0
  have r1 := B2u.cell_ 1
  have t1 := B2u.free 1
  have r2 := B2u.cell_ 2
  have t2 := B2u.free 2
  have r3 := B2u.cell_ 3
  have t3 := B2u.free 3
  have r4 := B2u.cell_ 4
  have t4 := B2u.free 4
  simp at r0 r1 r2 r3 r4
  go_wp2_with fail
  have B2e := B2u.st5_ (.int .i64 s.nb) (.int .i64 s.nn) (.int .i64 s.ns) (.slice A7 TB.length c7) (.slice A9 TN.length c9)
  have hgE := st5_grown w10 (w.heap.size + 2) 0 (.int .i64 s.nb) (.int .i64 s.nn) (.int .i64 s.ns) (.slice A7 TB.length c7) (.slice A9 TN.length c9)
  have hBe := hBk2.far hgE (by have := HW5.out; omega)
  have hNe := hNt2.far hgE (by have := HW5.out; omega)
  have hbe := below_grown hb2 hgE (by omega) hb2.size
  change bodyPost _ _ _ _ _ (st5 w10 (w.heap.size + 2) 0 (.int .i64 s.nb) (.int .i64 s.nn) (.int .i64 s.ns) (.slice A7 TB.length c7) (.slice A9 TN.length c9))
  clear hgE
  generalize st5 w10 (w.heap.size + 2) 0 (.int .i64 s.nb) (.int .i64 s.nn) (.int .i64 s.ns) (.slice A7 TB.length c7) (.slice A9 TN.length c9) = WF at B2e hBe hNe hbe ⊢
  apply bodyPost_ret (v := .tuple #[.agg #[.int .i64 s.nb, .int .i64 s.nn, .int .i64 s.ns, .slice A7 TB.length c7, .slice A9 TN.length c9], .int .i64 0])
  · exact results_cell1 Tryz.results33 _ WF (w.heap.size + 2) 25 _ (0, 0) _ rfl B2e Tryz.underlying25 rfl (by kernel_rfl)
  · rfl
  · exact ⟨_, rfl, ShW.base_ (ShW.make (s := dropS s x) (w := WF) (base := w4.heap.size) (vb := .slice A7 TB.length c7) (vn := .slice A9 TN.length c9) (by show BksW _ _ _ (s.bs.filter fun b => !(b.id == x)); rw [HTB.out]; exact hBe) (by show NtsW _ _ _ (s.ts.filter fun n => !(n.bk == x)); rw [HTN.out]; exact hNe)) (by have := HW5.out; omega), hbe⟩
theorem disc_yes (s : Sf) (v : Value) (x : Int) (w : World) (hS : ShR w w.heap.size v s) (hT : Tabs w) (hc : discC s x = 0) :
    Calls Tryz.prog 41 #[v, .int .i64 x] w fun e' w' => ∃ v', e' = .returned (.tuple #[v', .int .i64 0]) ∧ ShW w' w.heap.size v' (discS s x) ∧ Below w.heap.size w w' := by
  have hS0 := hS
  obtain ⟨Ab, cb, An, cn, rfl, hB, hN, hcb, hmb, hcn, hmn⟩ := hS.ex
  clear hS
  have HB : Below w.heap.size w (((w.alloc (.cells #[.int .i64 s.nb, .int .i64 s.nn, .int .i64 s.ns, .slice Ab s.bs.length cb, .slice An s.ts.length cn] 25)).alloc (.cells #[.int .i64 x] 3)).alloc (.cells #[.int .i64 0, .int .i64 0, .int .i64 0, .slice none 0 0, .slice none 0 0] 25)) := ((((Below.refl w.heap.size w).alloc (by first | (simp; done) | (simp; omega)) _).alloc (by first | (simp; done) | (simp; omega)) _).alloc (by first | (simp; done) | (simp; omega)) _)
  have B1 : Blk (((w.alloc (.cells #[.int .i64 s.nb, .int .i64 s.nn, .int .i64 s.ns, .slice Ab s.bs.length cb, .slice An s.ts.length cn] 25)).alloc (.cells #[.int .i64 x] 3)).alloc (.cells #[.int .i64 0, .int .i64 0, .int .i64 0, .slice none 0 0, .slice none 0 0] 25)) w.heap.size 25 #[.int .i64 s.nb, .int .i64 s.nn, .int .i64 s.ns, .slice Ab s.bs.length cb, .slice An s.ts.length cn] := ((Blk.new_ w 25 #[.int .i64 s.nb, .int .i64 s.nn, .int .i64 s.ns, .slice Ab s.bs.length cb, .slice An s.ts.length cn]).alloc_ _).alloc_ _
  have B3 : Blk (((w.alloc (.cells #[.int .i64 s.nb, .int .i64 s.nn, .int .i64 s.ns, .slice Ab s.bs.length cb, .slice An s.ts.length cn] 25)).alloc (.cells #[.int .i64 x] 3)).alloc (.cells #[.int .i64 0, .int .i64 0, .int .i64 0, .slice none 0 0, .slice none 0 0] 25)) (w.heap.size + 1) 3 #[.int .i64 x] := by
    have := (Blk.new_ (w.alloc (.cells #[.int .i64 s.nb, .int .i64 s.nn, .int .i64 s.ns, .slice Ab s.bs.length cb, .slice An s.ts.length cn] 25)) 3 #[.int .i64 x]).alloc_ (.cells #[.int .i64 0, .int .i64 0, .int .i64 0, .slice none 0 0, .slice none 0 0] 25)
    simpa using this
  have B2 : Blk (((w.alloc (.cells #[.int .i64 s.nb, .int .i64 s.nn, .int .i64 s.ns, .slice Ab s.bs.length cb, .slice An s.ts.length cn] 25)).alloc (.cells #[.int .i64 x] 3)).alloc (.cells #[.int .i64 0, .int .i64 0, .int .i64 0, .slice none 0 0, .slice none 0 0] 25)) (w.heap.size + 2) 25 #[.int .i64 0, .int .i64 0, .int .i64 0, .slice none 0 0, .slice none 0 0] := by
    have := Blk.new_ ((w.alloc (.cells #[.int .i64 s.nb, .int .i64 s.nn, .int .i64 s.ns, .slice Ab s.bs.length cb, .slice An s.ts.length cn] 25)).alloc (.cells #[.int .i64 x] 3)) 25 #[.int .i64 0, .int .i64 0, .int .i64 0, .slice none 0 0, .slice none 0 0]
    simpa using this
  have S1 : ShR (((w.alloc (.cells #[.int .i64 s.nb, .int .i64 s.nn, .int .i64 s.ns, .slice Ab s.bs.length cb, .slice An s.ts.length cn] 25)).alloc (.cells #[.int .i64 x] 3)).alloc (.cells #[.int .i64 0, .int .i64 0, .int .i64 0, .slice none 0 0, .slice none 0 0] 25)) ((((w.alloc (.cells #[.int .i64 s.nb, .int .i64 s.nn, .int .i64 s.ns, .slice Ab s.bs.length cb, .slice An s.ts.length cn] 25)).alloc (.cells #[.int .i64 x] 3)).alloc (.cells #[.int .i64 0, .int .i64 0, .int .i64 0, .slice none 0 0, .slice none 0 0] 25))).heap.size (.agg #[.int .i64 s.nb, .int .i64 s.nn, .int .i64 s.ns, .slice Ab s.bs.length cb, .slice An s.ts.length cn]) s := hS0.next HB
  have T1 := hT.next HB
  clear hS0 hT hB hN hcb hmb hcn hmn
  obtain ⟨hM, hI⟩ : mayS s = true ∧ ¬ noteAt s x < 0 := by
    unfold discC at hc
    cases h1 : mayS s <;> by_cases h2 : noteAt s x < 0 <;> rw [h1] at hc <;> simp [h2] at hc ⊢
    all_goals exact Int.not_lt.1 h2
  have hMF := mayF_of hM
  have hlb : s.bs.length ≤ 100000 := by have := hMF.bl; omega
  have hln : s.ts.length ≤ 100000 := by have := hMF.tl; omega
  obtain ⟨I, hIe⟩ : ∃ I, noteAt s x = I := ⟨_, rfl⟩
  rw [hIe] at hI
  have HM := Lib.hid hM
  have HI := Lib.hid hIe
  have HLB := Lib.hid hlb
  have HLN := Lib.hid hln
  have HLR := Lib.hid hMF.small
  obtain ⟨TB, hTB⟩ : ∃ T, (s.bs.filter fun b => !(b.id == x)) = T := ⟨_, rfl⟩
  obtain ⟨TN, hTN⟩ : ∃ T, (s.ts.filter fun n => !(n.id == x)) = T := ⟨_, rfl⟩
  have HTB := Lib.hid hTB
  have HTN := Lib.hid hTN
  clear hTB hTN
  clear hM hIe hMF hc hlb hln
  go_enter Tryz.func41, Tryz.ntmps41
  go_upto_region 5 with (first | (go_at_call 10; ((with_reducible refine (smay_any s _ _ S1 T1 _ HM.out).mono ?_); rintro e' w3 ⟨rfl, bx⟩; have S1 := S1.next bx; have T1 := T1.next bx; have B1 := B1.below bx B1.lt; have B2 := B2.below bx B2.lt; have B3 := B3.below bx B3.lt; have HB := btr HB HB.size bx; (try clear k0 k1 k2 k3 k4 r0 r1 r2 r3 r4 t0 t1 t2 t3 t4 q0); have k0 := B1.cell_ 0; have r0 := B2.cell_ 0; have t0 := B2.free 0; have k1 := B1.cell_ 1; have r1 := B2.cell_ 1; have t1 := B2.free 1; have k2 := B1.cell_ 2; have r2 := B2.cell_ 2; have t2 := B2.free 2; have k3 := B1.cell_ 3; have r3 := B2.cell_ 3; have t3 := B2.free 3; have k4 := B1.cell_ 4; have r4 := B2.cell_ 4; have t4 := B2.free 4; have q0 := B3.cell_ 0; simp at k0 k1 k2 k3 k4 r0 r1 r2 r3 r4 q0; clear bx)) | (go_at_call 55; ((with_reducible refine (pNote_any s _ x _ S1).mono ?_); rintro e' w4 ⟨rfl, bx⟩; rw [HI.out]; have S1 := S1.next bx; have T1 := T1.next bx; have B1 := B1.below bx B1.lt; have B2 := B2.below bx B2.lt; have B3 := B3.below bx B3.lt; have HB := btr HB HB.size bx; (try clear k0 k1 k2 k3 k4 r0 r1 r2 r3 r4 t0 t1 t2 t3 t4 q0); have k0 := B1.cell_ 0; have r0 := B2.cell_ 0; have t0 := B2.free 0; have k1 := B1.cell_ 1; have r1 := B2.cell_ 1; have t1 := B2.free 1; have k2 := B1.cell_ 2; have r2 := B2.cell_ 2; have t2 := B2.free 2; have k3 := B1.cell_ 3; have r3 := B2.cell_ 3; have t3 := B2.free 3; have k4 := B1.cell_ 4; have r4 := B2.cell_ 4; have t4 := B2.free 4; have q0 := B3.cell_ 0; simp at k0 k1 k2 k3 k4 r0 r1 r2 r3 r4 q0; clear bx)))
  have hW5 : w.heap.size + 3 ≤ w4.heap.size := by have := B2.lt; omega
  go_upto_region 6 with (go_at_call 63; ((with_reducible refine (clone_any s _ _ S1 HLB.out HLN.out HLR.out).mono ?_); rintro e' w6 ⟨v6, rfl, hW, b6⟩; obtain ⟨Ab6, cb6, An6, cn6, rfl, hBk, hNt, q1, q2, q3, q4⟩ := hW.parts; have B1 := B1.below b6 B1.lt; have B2 := B2.below b6 B2.lt; have B3 := B3.below b6 B3.lt; have HB := btr HB HB.size b6; have hz6 := b6.size; (try clear k0 k1 k2 k3 k4 r0 r1 r2 r3 r4 t0 t1 t2 t3 t4 q0); have k0 := B1.cell_ 0; have t0 := B1.free 0; have k1 := B1.cell_ 1; have t1 := B1.free 1; have k2 := B1.cell_ 2; have t2 := B1.free 2; have k3 := B1.cell_ 3; have t3 := B1.free 3; have k4 := B1.cell_ 4; have t4 := B1.free 4; simp at k0 k1 k2 k3 k4; clear b6 hW S1 T1))
  have B1u := B1.st5_ (.int .i64 s.nb) (.int .i64 s.nn) (.int .i64 s.ns) (.slice Ab6 s.bs.length cb6) (.slice An6 s.ts.length cn6)
  have hg6 := st5_grown w6 w.heap.size 0 (.int .i64 s.nb) (.int .i64 s.nn) (.int .i64 s.ns) (.slice Ab6 s.bs.length cb6) (.slice An6 s.ts.length cn6)
  have B2u := B2.grown hg6 (by omega)
  have B3u := B3.grown hg6 (by omega)
  have hBk2 := hBk.far hg6 (by omega)
  have hNt2 := hNt.far hg6 (by omega)
  have hb2 := below_grown HB hg6 (Nat.le_refl _) HB.size
  have hsz : w4.heap.size ≤ (st5 w6 w.heap.size 0 (.int .i64 s.nb) (.int .i64 s.nn) (.int .i64 s.ns) (.slice Ab6 s.bs.length cb6) (.slice An6 s.ts.length cn6)).heap.size := by have := hz6; have := hg6.size; omega
  clear hg6
  obtain ⟨Wd, hWd⟩ : ∃ V : World, V = (st5 w6 w.heap.size 0 (.int .i64 s.nb) (.int .i64 s.nn) (.int .i64 s.ns) (.slice Ab6 s.bs.length cb6) (.slice An6 s.ts.length cn6)) := ⟨_, rfl⟩
  change Code.wp _ _ _ _ (st5 w6 w.heap.size 0 (.int .i64 s.nb) (.int .i64 s.nn) (.int .i64 s.ns) (.slice Ab6 s.bs.length cb6) (.slice An6 s.ts.length cn6))
  rw [← hWd] at B1u B2u B3u hBk2 hNt2 hb2 hsz ⊢
  clear hWd B1 B2 B3 HB hBk hNt k0 k1 k2 k3 k4 t0 t1 t2 t3 t4 hz6
  have HSZ := Lib.hid hsz
  have HW5 := Lib.hid hW5
  clear hsz hW5 q1 q2 q3 q4
  have k0 := B1u.cell_ 0
  have t0 := B1u.free 0
  have k1 := B1u.cell_ 1
  have t1 := B1u.free 1
  have k2 := B1u.cell_ 2
  have t2 := B1u.free 2
  have k3 := B1u.cell_ 3
  have t3 := B1u.free 3
  have k4 := B1u.cell_ 4
  have t4 := B1u.free 4
  have q0 := B3u.cell_ 0
  simp at k0 k1 k2 k3 k4 q0
  go_upto_region 7 with (go_at_call 67; ((with_reducible refine (df_dts s.ts An6 cn6 x (w.heap.size + 1) w4.heap.size _ q0 B3u.lt (by have := HW5.out; omega) HSZ.out hNt2 HLN.out _ HTN.out).mono ?_); rintro e' w9 ⟨A9, c9, rfl, hD, hgD⟩; (obtain ⟨es9, hel9, hon9, hnt9⟩ := hNt2); have hrow := hon9.lt; have hBk3 := hBk2.apartN hon9 hgD; have B1v := B1u.grownR hgD (fun h => by have h1 := hrow _ h; have h2 := HW5.out; omega); have B2v := B2u.grownR hgD (fun h => by have h1 := hrow _ h; have h2 := HW5.out; omega); have B3v := B3u.grownR hgD (fun h => by have h1 := hrow _ h; have h2 := HW5.out; omega); have hb3 := hb2.grown hgD hb2.size (fun k hk => by have h1 := hrow _ hk; have h2 := HW5.out; omega); have hsz3 := hgD.size; (clear k0 k1 k2 k3 k4 t0 t1 t2 t3 t4 q0 hrow); have k0 := B1v.cell_ 0; have t0 := B1v.free 0; have k1 := B1v.cell_ 1; have t1 := B1v.free 1; have k2 := B1v.cell_ 2; have t2 := B1v.free 2; have k3 := B1v.cell_ 3; have t3 := B1v.free 3; have k4 := B1v.cell_ 4; have t4 := B1v.free 4; have q0 := B3v.cell_ 0; simp at k0 k1 k2 k3 k4 q0; clear hgD hb2 B1u B2u B3u hBk2 hon9 hnt9))
  have hg1 := set1_grown w9 w.heap.size 4 (.slice A9 TN.length c9)
  have B1w := B1v.set_ 4 (.slice A9 TN.length c9)
  simp at B1w
  have B2w := B2v.grown hg1 (by omega)
  have B3w := B3v.grown hg1 (by omega)
  have hBk4 := hBk3.far hg1 (by have := HW5.out; omega)
  have hNt4 := hD.far hg1 (by have := HW5.out; omega)
  have hb4 := below_grown hb3 hg1 (Nat.le_refl _) hb3.size
  have hsz4 := hg1.size
  have HSZ2 : Hid (w4.heap.size ≤ (w9.setCell ⟨w.heap.size, 4, none⟩ (.slice A9 TN.length c9)).heap.size) := Lib.hid (by have := HSZ.out; omega)
  obtain ⟨w10, hw10⟩ : ∃ V : World, V = w9.setCell ⟨w.heap.size, 4, none⟩ (.slice A9 TN.length c9) := ⟨_, rfl⟩
  rw [← hw10] at B1w B2w B3w hNt4 hBk4 hb4 HSZ2 ⊢
  clear hw10 B1v B2v B3v hBk3 hD hb3 hg1 hsz3 hsz4 HSZ k0 k1 k2 k3 k4 t0 t1 t2 t3 t4 q0
  have B1u := B1w
  have B2u := B2w
  have B3u := B3w
  have hBk2 := hBk4
  have hNt2 := hNt4
  have hb2 := hb4
  have HSZ := HSZ2
  clear B1w B2w B3w hBk4 hNt4 hb4 HSZ2
  have k0 := B1u.cell_ 0
  have t0 := B1u.free 0
  have k1 := B1u.cell_ 1
  have t1 := B1u.free 1
  have k2 := B1u.cell_ 2
  have t2 := B1u.free 2
  have k3 := B1u.cell_ 3
  have t3 := B1u.free 3
  have k4 := B1u.cell_ 4
  have t4 := B1u.free 4
  have q0 := B3u.cell_ 0
  simp at k0 k1 k2 k3 k4 q0
  clear t0 t1 t2 t3 t4
  have r0 := B2u.cell_ 0
  have t0 := B2u.free 0
  have r1 := B2u.cell_ 1
  have t1 := B2u.free 1
  have r2 := B2u.cell_ 2
  have t2 := B2u.free 2
  have r3 := B2u.cell_ 3
  have t3 := B2u.free 3
  have r4 := B2u.cell_ 4
  have t4 := B2u.free 4
  simp at r0 r1 r2 r3 r4
  go_wp2_with fail
  have B2e := B2u.st5_ (.int .i64 s.nb) (.int .i64 s.nn) (.int .i64 s.ns) (.slice Ab6 s.bs.length cb6) (.slice A9 TN.length c9)
  have hgE := st5_grown w10 (w.heap.size + 2) 0 (.int .i64 s.nb) (.int .i64 s.nn) (.int .i64 s.ns) (.slice Ab6 s.bs.length cb6) (.slice A9 TN.length c9)
  have hBe := hBk2.far hgE (by have := HW5.out; omega)
  have hNe := hNt2.far hgE (by have := HW5.out; omega)
  have hbe := below_grown hb2 hgE (by omega) hb2.size
  change bodyPost _ _ _ _ _ (st5 w10 (w.heap.size + 2) 0 (.int .i64 s.nb) (.int .i64 s.nn) (.int .i64 s.ns) (.slice Ab6 s.bs.length cb6) (.slice A9 TN.length c9))
  clear hgE
  generalize st5 w10 (w.heap.size + 2) 0 (.int .i64 s.nb) (.int .i64 s.nn) (.int .i64 s.ns) (.slice Ab6 s.bs.length cb6) (.slice A9 TN.length c9) = WF at B2e hBe hNe hbe ⊢
  apply bodyPost_ret (v := .tuple #[.agg #[.int .i64 s.nb, .int .i64 s.nn, .int .i64 s.ns, .slice Ab6 s.bs.length cb6, .slice A9 TN.length c9], .int .i64 0])
  · exact results_cell1 Tryz.results41 _ WF (w.heap.size + 2) 25 _ (0, 0) _ rfl B2e Tryz.underlying25 rfl (by kernel_rfl)
  · rfl
  · exact ⟨_, rfl, ShW.base_ (ShW.make (s := discS s x) (w := WF) (base := w4.heap.size) (vb := .slice Ab6 s.bs.length cb6) (vn := .slice A9 TN.length c9) (by show BksW _ _ _ s.bs;  exact hBe) (by show NtsW _ _ _ (s.ts.filter fun n => !(n.id == x)); rw [HTN.out]; exact hNe)) (by have := HW5.out; omega), hbe⟩
end Go.Proofs.YtokhapafpjejaaaGreatDoor
namespace Go.Proofs.YtokhapafpjejaaaGreatDoor
open Go.ChangeShapes Go.WideShapes Go.ChangeAt Go.RowKit
attribute [local go_sem ↓] Go.wp_at_zero Go.wp_at_succ
theorem below_dr (w : World) : Below w.heap.size w w.drew := below_dn (Below.refl w.heap.size w) 1
theorem sameBooks_yes (L : List Bk) (A B : Option Addr) (c d : Nat) (w : World) (n1 : L.length ≤ 1000000) (h1 : BksIn w w.heap.size A L) (h2 : BksIn w w.heap.size B L) : Calls Tryz.prog 60 #[.slice A L.length c, .slice B L.length d] w fun e' w' => e' = .returned (.bool true) ∧ Below w.heap.size w w' := by
  obtain ⟨n, hn⟩ : ∃ n, L.length = n := ⟨_, rfl⟩
  rw [hn] at n1 ⊢
  have HN := Lib.hid hn
  have H1 := Lib.hid h1
  have H2 := Lib.hid h2
  clear hn h1 h2
  go_enter Tryz.func60, Tryz.ntmps60
  go_wp2_with fail
  go_loopw [5] (fun s5 wr => ∃ k : Nat, k ≤ n ∧ s5 = .int .i64 (k : Int) ∧ Below w.heap.size w wr) (fun s5 _ => n - (intOf s5).toNat)
  case atStart => exact ⟨0, Nat.zero_le _, rfl, Below.refl _ _⟩
  case round =>
    obtain ⟨k, hk, rfl, hB⟩ := hrel
    by_cases hlt : k < n
    · have hlx : k < L.length := by have := HN.out; omega
      obtain ⟨b1, o1, rfl, l1, q1⟩ := (SlE.below H1.out hB).at_ (by rw [List.length_map]; omega)
      obtain ⟨b2, o2, rfl, l2, q2⟩ := (SlE.below H2.out hB).at_ (by rw [List.length_map]; omega)
      obtain ⟨x, hx⟩ : ∃ x, L[k]? = some x := ⟨_, List.getElem?_eq_getElem hlx⟩
      have he : (L.map bkC)[k]? = some (bkC x) := by rw [List.getElem?_map, hx]; rfl
      have x0 := q1 k _ he 0 _ rfl
      have x1 := q1 k _ he 1 _ rfl
      have y0 := q2 k _ he 0 _ rfl
      have y1 := q2 k _ he 1 _ rfl
      simp only [Nat.add_zero] at x0 y0
      clear he
      have k0 : (0 : Int) ≤ (k : Int) := by omega
      have k1 : (k : Int) < (n : Int) := by omega
      clear hx q1 q2 hlx
      go_upto_region 6 with fail
      refine wp_region_noPanic ?_
      refine wp_region_held_drew (S := (fun w_ => w_.cell? ⟨b1, o1 + k * 2, none⟩ = some (.int .i64 x.id) ∧ w_.cell? ⟨b1, o1 + k * 2 + 1, none⟩ = some (.string x.nm) ∧ w_.cell? ⟨b2, o2 + k * 2, none⟩ = some (.int .i64 x.id) ∧ w_.cell? ⟨b2, o2 + k * 2 + 1, none⟩ = some (.string x.nm))) (by kernel_rfl) ?_ (fun hHeld => ?_)
      · (first | exact ⟨x0, x1, y0, y1⟩ | assumption)
      refine tk 0 ⟨some 17, .move (.tmp 0), 22, "same.go:127", #[], none⟩ ?_; try simp only [Act.put, pz1, pz2, pz3]
      refine tk 1 ⟨some 18, .move (.tmp 5), 3, "same.go:127", #[], none⟩ ?_; try simp only [Act.put, pz1, pz2, pz3]
      refine tk 2 ⟨some 19, .indexAddr 22 (.tmp 17) (.tmp 18), 0, "same.go:127", #[⟨0, .data⟩, ⟨1, .data⟩], none⟩ ?_; try simp only [Act.put, pz1, pz2, pz3]
      refine tk 3 ⟨some 20, .load 59 (.tmp 19), 59, "same.go:127", #[⟨2, .data⟩], none⟩ ?_; try simp only [Act.put, pz1, pz2, pz3]
      refine tk 4 ⟨some 21, .move (.tmp 1), 22, "same.go:127", #[], none⟩ ?_; try simp only [Act.put, pz1, pz2, pz3]
      refine tk 5 ⟨some 22, .move (.tmp 5), 3, "same.go:127", #[], none⟩ ?_; try simp only [Act.put, pz1, pz2, pz3]
      refine tk 6 ⟨some 23, .indexAddr 22 (.tmp 21) (.tmp 22), 0, "same.go:127", #[⟨4, .data⟩, ⟨5, .data⟩], none⟩ ?_; try simp only [Act.put, pz1, pz2, pz3]
      refine tk 7 ⟨some 24, .load 59 (.tmp 23), 59, "same.go:127", #[⟨6, .data⟩], none⟩ ?_; try simp only [Act.put, pz1, pz2, pz3]
      refine tk 8 ⟨some 25, .binOp .neq 59 (.tmp 20) (.tmp 24) 59, 4, "same.go:127", #[⟨3, .data⟩, ⟨7, .data⟩], none⟩ ?_; try simp only [Act.put, pz1, pz2, pz3]
      refine wpAnyH_done (by kernel_rfl) ?_ _
      refine NoPanic.normal ?_
      go_wp2_with fail
      go_roundw
      case rel => exact ⟨k + 1, by omega, by go_num, (by first | exact hB | exact drew_below hB)⟩
      case measure => simp [intOf]; omega
    · obtain rfl : k = n := by omega
      go_wp2_with fail
      go_ret
      exact ⟨rfl, hB⟩
theorem sameTexts_yes (L : List ByteArray) (A B : Option Addr) (c d : Nat) (w : World) (n1 : L.length ≤ 1000000) (h1 : Sl w w.heap.size A (L.map strV)) (h2 : Sl w w.heap.size B (L.map strV)) : Calls Tryz.prog 58 #[.slice A L.length c, .slice B L.length d] w fun e' w' => e' = .returned (.bool true) ∧ Below w.heap.size w w' := by
  obtain ⟨n, hn⟩ : ∃ n, L.length = n := ⟨_, rfl⟩
  rw [hn] at n1 ⊢
  have HN := Lib.hid hn
  have H1 := Lib.hid h1
  have H2 := Lib.hid h2
  clear hn h1 h2
  go_enter Tryz.func58, Tryz.ntmps58
  go_wp2_with fail
  go_loopw [5] (fun s5 wr => ∃ k : Nat, k ≤ n ∧ s5 = .int .i64 (k : Int) ∧ Below w.heap.size w wr) (fun s5 _ => n - (intOf s5).toNat)
  case atStart => exact ⟨0, Nat.zero_le _, rfl, Below.refl _ _⟩
  case round =>
    obtain ⟨k, hk, rfl, hB⟩ := hrel
    by_cases hlt : k < n
    · have hlx : k < L.length := by have := HN.out; omega
      obtain ⟨b1, o1, rfl, l1, q1⟩ := (Sl.below H1.out hB).at_ (by rw [List.length_map]; omega)
      obtain ⟨b2, o2, rfl, l2, q2⟩ := (Sl.below H2.out hB).at_ (by rw [List.length_map]; omega)
      obtain ⟨x, hx⟩ : ∃ x, L[k]? = some x := ⟨_, List.getElem?_eq_getElem hlx⟩
      have x0 := q1 k (.string x) (by rw [List.getElem?_map, hx]; rfl)
      have y0 := q2 k (.string x) (by rw [List.getElem?_map, hx]; rfl)
      have k0 : (0 : Int) ≤ (k : Int) := by omega
      have k1 : (k : Int) < (n : Int) := by omega
      clear hx q1 q2 hlx
      go_upto_region 6 with fail
      refine wp_region_noPanic ?_
      refine wp_region_held_drew (S := (fun w_ => w_.cell? ⟨b1, o1 + k, none⟩ = some (.string x) ∧ w_.cell? ⟨b2, o2 + k, none⟩ = some (.string x))) (by kernel_rfl) ?_ (fun hHeld => ?_)
      · (first | exact ⟨x0, y0⟩ | assumption)
      refine tk 0 ⟨some 17, .move (.tmp 0), 43, "same.go:64", #[], none⟩ ?_; try simp only [Act.put, pz1, pz2, pz3]
      refine tk 1 ⟨some 18, .move (.tmp 5), 3, "same.go:64", #[], none⟩ ?_; try simp only [Act.put, pz1, pz2, pz3]
      refine tk 2 ⟨some 19, .indexAddr 43 (.tmp 17) (.tmp 18), 0, "same.go:64", #[⟨0, .data⟩, ⟨1, .data⟩], none⟩ ?_; try simp only [Act.put, pz1, pz2, pz3]
      refine tk 3 ⟨some 20, .load 9 (.tmp 19), 9, "same.go:64", #[⟨2, .data⟩], none⟩ ?_; try simp only [Act.put, pz1, pz2, pz3]
      refine tk 4 ⟨some 21, .move (.tmp 1), 43, "same.go:64", #[], none⟩ ?_; try simp only [Act.put, pz1, pz2, pz3]
      refine tk 5 ⟨some 22, .move (.tmp 5), 3, "same.go:64", #[], none⟩ ?_; try simp only [Act.put, pz1, pz2, pz3]
      refine tk 6 ⟨some 23, .indexAddr 43 (.tmp 21) (.tmp 22), 0, "same.go:64", #[⟨4, .data⟩, ⟨5, .data⟩], none⟩ ?_; try simp only [Act.put, pz1, pz2, pz3]
      refine tk 7 ⟨some 24, .load 9 (.tmp 23), 9, "same.go:64", #[⟨6, .data⟩], none⟩ ?_; try simp only [Act.put, pz1, pz2, pz3]
      refine tk 8 ⟨some 25, .binOp .neq 9 (.tmp 20) (.tmp 24) 9, 4, "same.go:64", #[⟨3, .data⟩, ⟨7, .data⟩], none⟩ ?_; try simp only [Act.put, pz1, pz2, pz3]
      refine wpAnyH_done (by kernel_rfl) ?_ _
      refine NoPanic.normal ?_
      go_wp2_with fail
      go_roundw
      case rel => exact ⟨k + 1, by omega, by go_num, (by first | exact hB | exact drew_below hB)⟩
      case measure => simp [intOf]; omega
    · obtain rfl : k = n := by omega
      go_wp2_with fail
      go_ret
      exact ⟨rfl, hB⟩
theorem sameInts_yes (L : List Int) (A B : Option Addr) (c d : Nat) (w : World) (n1 : L.length ≤ 1000000) (h1 : Sl w w.heap.size A (L.map (Value.int .i64))) (h2 : Sl w w.heap.size B (L.map (Value.int .i64))) : Calls Tryz.prog 59 #[.slice A L.length c, .slice B L.length d] w fun e' w' => e' = .returned (.bool true) ∧ Below w.heap.size w w' := by
  obtain ⟨n, hn⟩ : ∃ n, L.length = n := ⟨_, rfl⟩
  rw [hn] at n1 ⊢
  have HN := Lib.hid hn
  have H1 := Lib.hid h1
  have H2 := Lib.hid h2
  clear hn h1 h2
  go_enter Tryz.func59, Tryz.ntmps59
  go_wp2_with fail
  go_loopw [5] (fun s5 wr => ∃ k : Nat, k ≤ n ∧ s5 = .int .i64 (k : Int) ∧ Below w.heap.size w wr) (fun s5 _ => n - (intOf s5).toNat)
  case atStart => exact ⟨0, Nat.zero_le _, rfl, Below.refl _ _⟩
  case round =>
    obtain ⟨k, hk, rfl, hB⟩ := hrel
    by_cases hlt : k < n
    · have hlx : k < L.length := by have := HN.out; omega
      obtain ⟨b1, o1, rfl, l1, q1⟩ := (Sl.below H1.out hB).at_ (by rw [List.length_map]; omega)
      obtain ⟨b2, o2, rfl, l2, q2⟩ := (Sl.below H2.out hB).at_ (by rw [List.length_map]; omega)
      obtain ⟨x, hx⟩ : ∃ x, L[k]? = some x := ⟨_, List.getElem?_eq_getElem hlx⟩
      have x0 := q1 k (.int .i64 x) (by rw [List.getElem?_map, hx]; rfl)
      have y0 := q2 k (.int .i64 x) (by rw [List.getElem?_map, hx]; rfl)
      have k0 : (0 : Int) ≤ (k : Int) := by omega
      have k1 : (k : Int) < (n : Int) := by omega
      clear hx q1 q2 hlx
      go_upto_region 6 with fail
      refine wp_region_noPanic ?_
      refine wp_region_held_drew (S := (fun w_ => w_.cell? ⟨b1, o1 + k, none⟩ = some (.int .i64 x) ∧ w_.cell? ⟨b2, o2 + k, none⟩ = some (.int .i64 x))) (by kernel_rfl) ?_ (fun hHeld => ?_)
      · (first | exact ⟨x0, y0⟩ | assumption)
      refine tk 0 ⟨some 17, .move (.tmp 0), 44, "same.go:22", #[], none⟩ ?_; try simp only [Act.put, pz1, pz2, pz3]
      refine tk 1 ⟨some 18, .move (.tmp 5), 3, "same.go:22", #[], none⟩ ?_; try simp only [Act.put, pz1, pz2, pz3]
      refine tk 2 ⟨some 19, .indexAddr 44 (.tmp 17) (.tmp 18), 0, "same.go:22", #[⟨0, .data⟩, ⟨1, .data⟩], none⟩ ?_; try simp only [Act.put, pz1, pz2, pz3]
      refine tk 3 ⟨some 20, .load 3 (.tmp 19), 3, "same.go:22", #[⟨2, .data⟩], none⟩ ?_; try simp only [Act.put, pz1, pz2, pz3]
      refine tk 4 ⟨some 21, .move (.tmp 1), 44, "same.go:22", #[], none⟩ ?_; try simp only [Act.put, pz1, pz2, pz3]
      refine tk 5 ⟨some 22, .move (.tmp 5), 3, "same.go:22", #[], none⟩ ?_; try simp only [Act.put, pz1, pz2, pz3]
      refine tk 6 ⟨some 23, .indexAddr 44 (.tmp 21) (.tmp 22), 0, "same.go:22", #[⟨4, .data⟩, ⟨5, .data⟩], none⟩ ?_; try simp only [Act.put, pz1, pz2, pz3]
      refine tk 7 ⟨some 24, .load 3 (.tmp 23), 3, "same.go:22", #[⟨6, .data⟩], none⟩ ?_; try simp only [Act.put, pz1, pz2, pz3]
      refine tk 8 ⟨some 25, .binOp .neq 3 (.tmp 20) (.tmp 24) 3, 4, "same.go:22", #[⟨3, .data⟩, ⟨7, .data⟩], none⟩ ?_; try simp only [Act.put, pz1, pz2, pz3]
      refine wpAnyH_done (by kernel_rfl) ?_ _
      refine NoPanic.normal ?_
      go_wp2_with fail
      go_roundw
      case rel => exact ⟨k + 1, by omega, by go_num, (by first | exact hB | exact drew_below hB)⟩
      case measure => simp [intOf]; omega
    · obtain rfl : k = n := by omega
      go_wp2_with fail
      go_ret
      exact ⟨rfl, hB⟩
theorem sameNote_yes (n : Nt) (A1 A2 A3 A4 : Option Addr) (c1 c2 c3 c4 : Nat) (w : World) (h1 : Sl w w.heap.size A1 (n.tg.map strV)) (h2 : Sl w w.heap.size A2 (n.sh.map (Value.int .i64))) (h3 : Sl w w.heap.size A3 (n.tg.map strV)) (h4 : Sl w w.heap.size A4 (n.sh.map (Value.int .i64))) (m1 : n.tg.length ≤ 100000) (m2 : n.sh.length ≤ 100000) : Calls Tryz.prog 21 #[.agg #[.int .i64 n.id, .int .i64 n.bk, .string n.nm, .slice A1 n.tg.length c1, .slice A2 n.sh.length c2], .agg #[.int .i64 n.id, .int .i64 n.bk, .string n.nm, .slice A3 n.tg.length c3, .slice A4 n.sh.length c4]] w fun e' w' => e' = .returned (.bool true) ∧ Below w.heap.size w w' := by
  have HB : Below w.heap.size w ((w.alloc (.cells #[.int .i64 n.id, .int .i64 n.bk, .string n.nm, .slice A1 n.tg.length c1, .slice A2 n.sh.length c2] 46)).alloc (.cells #[.int .i64 n.id, .int .i64 n.bk, .string n.nm, .slice A3 n.tg.length c3, .slice A4 n.sh.length c4] 46)) := (((Below.refl w.heap.size w).alloc (by first | (simp; done) | (simp; omega)) _).alloc (by first | (simp; done) | (simp; omega)) _)
  have B1 : Blk ((w.alloc (.cells #[.int .i64 n.id, .int .i64 n.bk, .string n.nm, .slice A1 n.tg.length c1, .slice A2 n.sh.length c2] 46)).alloc (.cells #[.int .i64 n.id, .int .i64 n.bk, .string n.nm, .slice A3 n.tg.length c3, .slice A4 n.sh.length c4] 46)) w.heap.size 46 #[.int .i64 n.id, .int .i64 n.bk, .string n.nm, .slice A1 n.tg.length c1, .slice A2 n.sh.length c2] := (Blk.new_ w 46 #[.int .i64 n.id, .int .i64 n.bk, .string n.nm, .slice A1 n.tg.length c1, .slice A2 n.sh.length c2]).alloc_ _
  have B2 : Blk ((w.alloc (.cells #[.int .i64 n.id, .int .i64 n.bk, .string n.nm, .slice A1 n.tg.length c1, .slice A2 n.sh.length c2] 46)).alloc (.cells #[.int .i64 n.id, .int .i64 n.bk, .string n.nm, .slice A3 n.tg.length c3, .slice A4 n.sh.length c4] 46)) (w.heap.size + 1) 46 #[.int .i64 n.id, .int .i64 n.bk, .string n.nm, .slice A3 n.tg.length c3, .slice A4 n.sh.length c4] := by
    have := Blk.new_ (w.alloc (.cells #[.int .i64 n.id, .int .i64 n.bk, .string n.nm, .slice A1 n.tg.length c1, .slice A2 n.sh.length c2] 46)) 46 #[.int .i64 n.id, .int .i64 n.bk, .string n.nm, .slice A3 n.tg.length c3, .slice A4 n.sh.length c4]
    first | (simp; done) | simpa using this
  have S1 := h1.next HB
  have S2 := h2.next HB
  have S3 := h3.next HB
  have S4 := h4.next HB
  clear h1 h2 h3 h4
  go_enter Tryz.func21, Tryz.ntmps21
  go_wp2_with (first | (go_at_call 58; ((with_reducible refine (sameTexts_yes n.tg _ _ _ _ _ (by omega) S1 S3).mono ?_); rintro e' w3 ⟨rfl, bx⟩; have B1 := B1.below bx B1.lt; have B2 := B2.below bx B2.lt; have HB := btr HB HB.size bx; have S2 := S2.next bx; have S4 := S4.next bx; have S1 := S1.next bx; have S3 := S3.next bx; (try clear k0 k1 k2 k3 k4 r0 r1 r2 r3 r4); have k0 := B1.cell_ 0; have r0 := B2.cell_ 0; have k1 := B1.cell_ 1; have r1 := B2.cell_ 1; have k2 := B1.cell_ 2; have r2 := B2.cell_ 2; have k3 := B1.cell_ 3; have r3 := B2.cell_ 3; have k4 := B1.cell_ 4; have r4 := B2.cell_ 4; simp at k0 k1 k2 k3 k4 r0 r1 r2 r3 r4; clear bx)) | (go_at_call 59; ((with_reducible refine (sameInts_yes n.sh _ _ _ _ _ (by omega) S2 S4).mono ?_); rintro e' w4 ⟨rfl, bx⟩; have HB := btr HB HB.size bx)))
  go_ret
  exact ⟨rfl, HB⟩
theorem sameShelf_yes (s : Sf) (v1 v2 : Value) (w : World) (h1 : ShR w w.heap.size v1 s) (h2 : ShR w w.heap.size v2 s) (m0 : s.bs.length ≤ 100000) (m1 : s.ts.length ≤ 100000) (m2 : ∀ n ∈ s.ts, n.tg.length ≤ 100000 ∧ n.sh.length ≤ 100000) : Calls Tryz.prog 25 #[v1, v2] w fun e' w' => e' = .returned (.bool true) ∧ Below w.heap.size w w' := by
  obtain ⟨Ab, cb, An, cn, rfl, hB, hN, hcb, hmb, hcn, hmn⟩ := h1.ex
  obtain ⟨Ab2, cb2, An2, cn2, rfl, hB2, hN2, hcb2, hmb2, hcn2, hmn2⟩ := h2.ex
  obtain ⟨es, hel, hse, hnt⟩ := hN.ex
  obtain ⟨es2, hel2, hse2, hnt2⟩ := hN2.ex
  have HB : Below w.heap.size w ((w.alloc (.cells #[.int .i64 s.nb, .int .i64 s.nn, .int .i64 s.ns, .slice Ab s.bs.length cb, .slice An s.ts.length cn] 25)).alloc (.cells #[.int .i64 s.nb, .int .i64 s.nn, .int .i64 s.ns, .slice Ab2 s.bs.length cb2, .slice An2 s.ts.length cn2] 25)) := (((Below.refl w.heap.size w).alloc (by first | (simp; done) | (simp; omega)) _).alloc (by first | (simp; done) | (simp; omega)) _)
  have B1 : Blk ((w.alloc (.cells #[.int .i64 s.nb, .int .i64 s.nn, .int .i64 s.ns, .slice Ab s.bs.length cb, .slice An s.ts.length cn] 25)).alloc (.cells #[.int .i64 s.nb, .int .i64 s.nn, .int .i64 s.ns, .slice Ab2 s.bs.length cb2, .slice An2 s.ts.length cn2] 25)) w.heap.size 25 #[.int .i64 s.nb, .int .i64 s.nn, .int .i64 s.ns, .slice Ab s.bs.length cb, .slice An s.ts.length cn] := (Blk.new_ w 25 #[.int .i64 s.nb, .int .i64 s.nn, .int .i64 s.ns, .slice Ab s.bs.length cb, .slice An s.ts.length cn]).alloc_ _
  have B2 : Blk ((w.alloc (.cells #[.int .i64 s.nb, .int .i64 s.nn, .int .i64 s.ns, .slice Ab s.bs.length cb, .slice An s.ts.length cn] 25)).alloc (.cells #[.int .i64 s.nb, .int .i64 s.nn, .int .i64 s.ns, .slice Ab2 s.bs.length cb2, .slice An2 s.ts.length cn2] 25)) (w.heap.size + 1) 25 #[.int .i64 s.nb, .int .i64 s.nn, .int .i64 s.ns, .slice Ab2 s.bs.length cb2, .slice An2 s.ts.length cn2] := by
    have := Blk.new_ (w.alloc (.cells #[.int .i64 s.nb, .int .i64 s.nn, .int .i64 s.ns, .slice Ab s.bs.length cb, .slice An s.ts.length cn] 25)) 25 #[.int .i64 s.nb, .int .i64 s.nn, .int .i64 s.ns, .slice Ab2 s.bs.length cb2, .slice An2 s.ts.length cn2]
    first | (simp; done) | simpa using this
  have R1 : BksIn ((w.alloc (.cells #[.int .i64 s.nb, .int .i64 s.nn, .int .i64 s.ns, .slice Ab s.bs.length cb, .slice An s.ts.length cn] 25)).alloc (.cells #[.int .i64 s.nb, .int .i64 s.nn, .int .i64 s.ns, .slice Ab2 s.bs.length cb2, .slice An2 s.ts.length cn2] 25)) (((w.alloc (.cells #[.int .i64 s.nb, .int .i64 s.nn, .int .i64 s.ns, .slice Ab s.bs.length cb, .slice An s.ts.length cn] 25)).alloc (.cells #[.int .i64 s.nb, .int .i64 s.nn, .int .i64 s.ns, .slice Ab2 s.bs.length cb2, .slice An2 s.ts.length cn2] 25))).heap.size Ab s.bs := SlE.next hB HB
  have R2 : BksIn ((w.alloc (.cells #[.int .i64 s.nb, .int .i64 s.nn, .int .i64 s.ns, .slice Ab s.bs.length cb, .slice An s.ts.length cn] 25)).alloc (.cells #[.int .i64 s.nb, .int .i64 s.nn, .int .i64 s.ns, .slice Ab2 s.bs.length cb2, .slice An2 s.ts.length cn2] 25)) (((w.alloc (.cells #[.int .i64 s.nb, .int .i64 s.nn, .int .i64 s.ns, .slice Ab s.bs.length cb, .slice An s.ts.length cn] 25)).alloc (.cells #[.int .i64 s.nb, .int .i64 s.nn, .int .i64 s.ns, .slice Ab2 s.bs.length cb2, .slice An2 s.ts.length cn2] 25))).heap.size Ab2 s.bs := SlE.next hB2 HB
  have HM := Lib.hid m2
  have HEL := Lib.hid hel
  have HEL2 := Lib.hid hel2
  have HNT := Lib.hid hnt
  have HNT2 := Lib.hid hnt2
  clear h1 h2 hN hN2 hB hB2 hcb hmb hcn hmn hcb2 hmb2 hcn2 hmn2 m2 hel hel2 hnt hnt2
  go_enter Tryz.func25, Tryz.ntmps25
  go_wp2_with (go_at_call 60; ((with_reducible refine (sameBooks_yes s.bs _ _ _ _ _ (by omega) R1 R2).mono ?_); rintro e' w3 ⟨rfl, bx⟩; have B1 := B1.below bx B1.lt; have B2 := B2.below bx B2.lt; have HB := btr HB HB.size bx; (try clear k0 k1 k2 k3 k4 r0 r1 r2 r3 r4); have k0 := B1.cell_ 0; have r0 := B2.cell_ 0; have k1 := B1.cell_ 1; have r1 := B2.cell_ 1; have k2 := B1.cell_ 2; have r2 := B2.cell_ 2; have k3 := B1.cell_ 3; have r3 := B2.cell_ 3; have k4 := B1.cell_ 4; have r4 := B2.cell_ 4; simp at k0 k1 k2 k3 k4 r0 r1 r2 r3 r4; clear bx))
  go_loopw [5] (fun s5 wr => ∃ k : Nat, k ≤ s.ts.length ∧ s5 = .int .i64 (k : Int) ∧ Below w3.heap.size w3 wr) (fun s5 _ => s.ts.length - (intOf s5).toNat)
  case atStart => exact ⟨0, Nat.zero_le _, rfl, Below.refl _ _⟩
  case round =>
    obtain ⟨k, hk, rfl, hbr⟩ := hrel
    have HBr := btr HB HB.size hbr
    have C1 := B1.below hbr B1.lt
    have C2 := B2.below hbr B2.lt
    clear k0 k1 k2 k3 k4 r0 r1 r2 r3 r4 B1 B2 HB R1 R2
    have k4 := C1.cell_ 4
    have r4 := C2.cell_ 4
    simp at k4 r4
    by_cases hlt : k < s.ts.length
    · obtain ⟨n, hn⟩ : ∃ n, s.ts[k]? = some n := ⟨_, List.getElem?_eq_getElem hlt⟩
      obtain ⟨e1, he1⟩ : ∃ e, es[k]? = some e := ⟨_, List.getElem?_eq_getElem (by have := HEL.out; omega)⟩
      obtain ⟨e2, he2⟩ : ∃ e, es2[k]? = some e := ⟨_, List.getElem?_eq_getElem (by have := HEL2.out; omega)⟩
      obtain ⟨A1, c1, A2, c2, rfl, p1, p2, -⟩ := (HNT.out k n e1 hn he1).ex
      obtain ⟨A3, c3, A4, c4, rfl, p3, p4, -⟩ := (HNT2.out k n e2 hn he2).ex
      obtain ⟨b1, o1, rfl, l1, q1⟩ := hse.at_ (by have := HEL.out; omega)
      obtain ⟨b2, o2, rfl, l2, q2⟩ := hse2.at_ (by have := HEL2.out; omega)
      have x0 : wr.cell? ⟨b1, o1 + k * 5 + 0, none⟩ = some (.int .i64 n.id) := (HBr.cell (p := ⟨b1, _, none⟩) l1).trans (q1 k _ he1 0 _ rfl)
      have x1 : wr.cell? ⟨b1, o1 + k * 5 + 1, none⟩ = some (.int .i64 n.bk) := (HBr.cell (p := ⟨b1, _, none⟩) l1).trans (q1 k _ he1 1 _ rfl)
      have x2 : wr.cell? ⟨b1, o1 + k * 5 + 2, none⟩ = some (.string n.nm) := (HBr.cell (p := ⟨b1, _, none⟩) l1).trans (q1 k _ he1 2 _ rfl)
      have x3 : wr.cell? ⟨b1, o1 + k * 5 + 3, none⟩ = some (.slice A1 n.tg.length c1) := (HBr.cell (p := ⟨b1, _, none⟩) l1).trans (q1 k _ he1 3 _ rfl)
      have x4 : wr.cell? ⟨b1, o1 + k * 5 + 4, none⟩ = some (.slice A2 n.sh.length c2) := (HBr.cell (p := ⟨b1, _, none⟩) l1).trans (q1 k _ he1 4 _ rfl)
      have y0 : wr.cell? ⟨b2, o2 + k * 5 + 0, none⟩ = some (.int .i64 n.id) := (HBr.cell (p := ⟨b2, _, none⟩) l2).trans (q2 k _ he2 0 _ rfl)
      have y1 : wr.cell? ⟨b2, o2 + k * 5 + 1, none⟩ = some (.int .i64 n.bk) := (HBr.cell (p := ⟨b2, _, none⟩) l2).trans (q2 k _ he2 1 _ rfl)
      have y2 : wr.cell? ⟨b2, o2 + k * 5 + 2, none⟩ = some (.string n.nm) := (HBr.cell (p := ⟨b2, _, none⟩) l2).trans (q2 k _ he2 2 _ rfl)
      have y3 : wr.cell? ⟨b2, o2 + k * 5 + 3, none⟩ = some (.slice A3 n.tg.length c3) := (HBr.cell (p := ⟨b2, _, none⟩) l2).trans (q2 k _ he2 3 _ rfl)
      have y4 : wr.cell? ⟨b2, o2 + k * 5 + 4, none⟩ = some (.slice A4 n.sh.length c4) := (HBr.cell (p := ⟨b2, _, none⟩) l2).trans (q2 k _ he2 4 _ rfl)
      simp only [Nat.add_zero] at x0 y0
      have hm := HM.out n (List.mem_of_getElem? hn)
      have hm1 := hm.1
      have hm2 := hm.2
      have k0 : (0 : Int) ≤ (k : Int) := by omega
      have k1 : (k : Int) < (s.ts.length : Int) := by omega
      have D := below_dr wr
      have P1 := (((p1.below HBr).mono_ HBr.size).next D)
      have P2 := (((p2.below HBr).mono_ HBr.size).next D)
      have P3 := (((p3.below HBr).mono_ HBr.size).next D)
      have P4 := (((p4.below HBr).mono_ HBr.size).next D)
      have HBd := btr HBr HBr.size D
      have hbd := btr hbr hbr.size D
      clear hn he1 he2 q1 q2 hm p1 p2 p3 p4 D
      go_upto_region 6 with fail
      go_still_tail 10, (by kernel_rfl)
      change wpList _ _ _ _ _ wr.drew
      obtain ⟨wd, hwd⟩ : ∃ V : World, V = wr.drew := ⟨_, rfl⟩
      rw [← hwd] at P1 P2 P3 P4 HBd hbd ⊢
      clear hwd
      go_wp2_with (go_at_call 21; ((with_reducible refine (sameNote_yes n _ _ _ _ _ _ _ _ _ P1 P2 P3 P4 hm1 hm2).mono ?_); rintro e' w5 ⟨rfl, bx⟩; have hbe := btr hbd hbd.size bx; clear bx))
      go_roundw
      case rel => exact ⟨k + 1, by omega, by go_num, hbe⟩
      case measure => simp [intOf]; omega
    · obtain rfl : k = s.ts.length := by omega
      go_wp2_with fail
      go_ret
      exact ⟨rfl, HBr⟩
end Go.Proofs.YtokhapafpjejaaaGreatDoor
namespace Go.Proofs.YtokhapafpjejaaaGreatDoor
open Go.ChangeShapes Go.WideShapes Go.ChangeAt Go.RowKit
attribute [local go_sem ↓] Go.wp_at_zero Go.wp_at_succ
theorem RdB.toRd {w : World} {B : Nat} {A : Option Addr} {n C : Nat} {vs : List Value} (h : RdB w B A n C vs) (h0 : 0 < C) : Rd w A n C vs := by
  obtain ⟨h1, h2⟩ := h
  refine ⟨h1, ?_⟩
  rcases h2 with h | ⟨b, off, e, _, hc⟩
  · left
    rw [h] at h1
    rcases Nat.eq_zero_or_pos n with h3 | h3
    · exact h3
    · have := Nat.mul_pos h3 h0
      simp at h1
      omega
  · exact Or.inr ⟨b, off, e, hc⟩
theorem set_f3 (es : List (List Value)) (k : Nat) (p0 p1 p2 p3 p4 u : Value) (h : es[k]? = some [p0, p1, p2, p3, p4]) (hC : ∀ x ∈ es, x.length = 5) : es.flatten.set (k * 5 + 3) u = (es.set k [p0, p1, p2, u, p4]).flatten := by
  have hs : ∀ (l : List Value) (i : Nat) (u : Value), l[i]? = some u → l.set i u = l := by
    intro l i u hu
    obtain ⟨hlt, he⟩ := List.getElem?_eq_some_iff.1 hu
    rw [← he]
    exact List.set_getElem_self hlt
  have g : ∀ j, j < 5 → es.flatten[k * 5 + j]? = ([p0, p1, p2, p3, p4] : List Value)[j]? := fun j hj => flat_at es hC k _ h j hj
  have h1 := set_five es k p0 p1 p2 p3 p4 p0 p1 p2 u p4 h hC
  have n0 := hs es.flatten (k * 5 + 0) p0 (g 0 (by decide))
  rw [n0] at h1
  have n1 := hs es.flatten (k * 5 + 1) p1 (g 1 (by decide))
  rw [n1] at h1
  have n2 := hs es.flatten (k * 5 + 2) p2 (g 2 (by decide))
  rw [n2] at h1
  have n4 : (es.flatten.set (k * 5 + 3) u).set (k * 5 + 4) p4 = es.flatten.set (k * 5 + 3) u := hs _ _ _ (by rw [List.getElem?_set_ne (by omega)]; exact g 4 (by decide))
  rw [n4] at h1
  exact h1
theorem set_f4 (es : List (List Value)) (k : Nat) (p0 p1 p2 p3 p4 u : Value) (h : es[k]? = some [p0, p1, p2, p3, p4]) (hC : ∀ x ∈ es, x.length = 5) : es.flatten.set (k * 5 + 4) u = (es.set k [p0, p1, p2, p3, u]).flatten := by
  have hs : ∀ (l : List Value) (i : Nat) (u : Value), l[i]? = some u → l.set i u = l := by
    intro l i u hu
    obtain ⟨hlt, he⟩ := List.getElem?_eq_some_iff.1 hu
    rw [← he]
    exact List.set_getElem_self hlt
  have g : ∀ j, j < 5 → es.flatten[k * 5 + j]? = ([p0, p1, p2, p3, p4] : List Value)[j]? := fun j hj => flat_at es hC k _ h j hj
  have h1 := set_five es k p0 p1 p2 p3 p4 p0 p1 p2 p3 u h hC
  have n0 := hs es.flatten (k * 5 + 0) p0 (g 0 (by decide))
  rw [n0] at h1
  have n1 := hs es.flatten (k * 5 + 1) p1 (g 1 (by decide))
  rw [n1] at h1
  have n2 := hs es.flatten (k * 5 + 2) p2 (g 2 (by decide))
  rw [n2] at h1
  have n3 := hs es.flatten (k * 5 + 3) p3 (g 3 (by decide))
  rw [n3] at h1
  exact h1
structure HalfI (s : Sf) (vb : Value) (A : Option Addr) (cn : Nat) (w0 : World) (B0 : Nat) (k : Nat) (n : Nt) (As : Option Addr) (cs : Nat) (wr : World) : Prop where
  box : Blk wr B0 25 #[.int .i64 s.nb, .int .i64 s.nn, .int .i64 s.ns, vb, .slice A s.ts.length cn]
  res : Blk wr (B0 + 1) 25 #[.int .i64 0, .int .i64 0, .int .i64 0, .slice none 0 0, .slice none 0 0]
  ob : wr.ownsRow (B0 + 2) 59 2 vb s.bs.length (s.bs.map bkC).flatten
  sl : Sl wr B0 As (n.sh.map (Value.int .i64))
  es : ∃ (es : List (List Value)) (vt : Value), es.length = s.ts.length ∧ (∀ x ∈ es, x.length = 5) ∧ wr.ownsRow (B0 + 2) 46 5 (.slice A s.ts.length cn) s.ts.length es.flatten ∧ (∀ (j : Nat) (n : Nt) (e : List Value), j < k → s.ts[j]? = some n → es[j]? = some e → NtW wr (B0 + 2) n e) ∧ (es[k]? = some (ntC n vt (.slice As n.sh.length cs)) ∧ wr.ownsRow (B0 + 2) 9 1 vt n.tg.length (n.tg.map strV)) ∧ (∀ (j : Nat) (n : Nt) (e : List Value), k < j → s.ts[j]? = some n → es[j]? = some e → NtIn wr B0 n e)
  be : Below B0 w0 wr
  sz : B0 + 2 ≤ wr.heap.size
theorem HalfI.below {s : Sf} {vb : Value} {A : Option Addr} {cn : Nat} {w0 wr wr' : World} {B0 k : Nat} {n : Nt} {As : Option Addr} {cs : Nat} (h : HalfI s vb A cn w0 B0 k n As cs wr) (hb : Below wr.heap.size wr wr') : HalfI s vb A cn w0 B0 k n As cs wr' := by
  obtain ⟨es, vt, h1, h2, h3, h4, ⟨h5, h6⟩, h7⟩ := h.es
  have hB := hb.mono (show B0 ≤ wr.heap.size by have := h.sz; omega)
  exact ⟨h.box.below hb h.box.lt, h.res.below hb h.res.lt, own_belowW h.ob hb, h.sl.below hB, ⟨es, vt, h1, h2, own_belowW h3 hb, fun j n e a b c => (h4 j n e a b c).below hb, ⟨h5, own_belowW h6 hb⟩, fun j n e a b c => (h7 j n e a b c).below hB⟩, h.be.trans hB, by have := hb.size; have := h.sz; omega⟩
theorem CloneI.half {s : Sf} {vb : Value} {gn cn : Nat} {w0 wr : World} {B0 k : Nat} (h : CloneI s vb (some ⟨gn, 0, none⟩) cn w0 B0 k wr) {n : Nt} (hn : s.ts[k]? = some n) (hgn : B0 + 2 ≤ gn) : ∃ At ct As cs, (wr.cell? ⟨gn, k * 5 + 3, none⟩ = some (.slice At n.tg.length ct) ∧ Sl wr B0 At (n.tg.map strV)) ∧ ∀ (w5 : World) (v1 : Value), Below wr.heap.size wr w5 → w5.ownsRow wr.heap.size 9 1 v1 n.tg.length (n.tg.map strV) → HalfI s vb (some ⟨gn, 0, none⟩) cn w0 B0 k n As cs (w5.setCell ⟨gn, k * 5 + 3, none⟩ v1) := by
  obtain ⟨hbox, hres, hob, ⟨es, hel, hC, hon, hnew, hold⟩, hbe, hsz⟩ := h
  have hkl : k < es.length := by
    have := (List.getElem?_eq_some_iff.1 hn).1
    omega
  have hk := List.getElem?_eq_getElem hkl
  obtain ⟨At, ct, As, cs, he, hAt, hAs, _⟩ := (hold k n _ (Nat.le_refl _) hn hk).ex
  rw [he] at hk
  refine ⟨At, ct, As, cs, ⟨own_cellE hon hC hk (j := 3) rfl, hAt⟩, fun w5 v1 hb h1 => ?_⟩
  have hB := hb.mono (show B0 ≤ wr.heap.size by omega)
  have hon5 := own_belowW hon hb
  have q1 := (World.ownsRow.stored hon5 (k * 5 + 3) v1).1
  rw [set_f3 es k _ _ _ _ _ v1 hk hC] at q1
  have q2 := set1_grown w5 gn (k * 5 + 3) v1
  have hob5 := own_belowW hob hb
  have hbG : Below B0 w5 (w5.setCell ⟨gn, k * 5 + 3, none⟩ v1) := below_grown (Below.refl _ _) q2 (by omega) (by have := hb.size; omega)
  refine ⟨(hbox.below hb hbox.lt).grown q2 (by omega), (hres.below hb hres.lt).grown q2 (by omega), hob5.kept q2 (own_apart hob5 hon5 (by decide)), (hAs.below hB).below hbG, ⟨es.set k [.int .i64 n.id, .int .i64 n.bk, .string n.nm, v1, .slice As n.sh.length cs], v1, by rw [List.length_set]; exact hel, ?_, q1, ?_, ⟨by rw [List.getElem?_set, if_pos rfl, if_pos hkl]; rfl, ?_⟩, ?_⟩, (hbe.trans hB).trans hbG, by have := hb.size; have := q2.size; omega⟩
  · intro x hx
    rcases List.mem_or_eq_of_mem_set hx with h | rfl
    · exact hC x h
    · rfl
  · intro j m e hj hm hej
    rw [List.getElem?_set, if_neg (by omega)] at hej
    exact ((hnew j m e hj hm hej).below hb).kept hon5 q2 (by decide) (by decide)
  · have h2 := own_base h1 hsz
    exact h2.kept q2 (own_apart h2 hon5 (by decide))
  · intro j m e hj hm hej
    rw [List.getElem?_set, if_neg (by omega)] at hej
    exact ((hold j m e (by omega) hm hej).below hB).below hbG
theorem HalfI.whole {s : Sf} {vb : Value} {gn cn : Nat} {w0 wr : World} {B0 k : Nat} {n : Nt} {As : Option Addr} {cs : Nat} (h : HalfI s vb (some ⟨gn, 0, none⟩) cn w0 B0 k n As cs wr) (hn : s.ts[k]? = some n) (hgn : B0 + 2 ≤ gn) : wr.cell? ⟨gn, k * 5 + 4, none⟩ = some (.slice As n.sh.length cs) ∧ ∀ (w5 : World) (v2 : Value), Below wr.heap.size wr w5 → w5.ownsRow wr.heap.size 3 1 v2 n.sh.length (n.sh.map (Value.int .i64)) → CloneI s vb (some ⟨gn, 0, none⟩) cn w0 B0 (k + 1) (w5.setCell ⟨gn, k * 5 + 4, none⟩ v2) := by
  obtain ⟨hbox, hres, hob, hAs, ⟨es, vt, hel, hC, hon, hnew, ⟨hk, hvt⟩, hold⟩, hbe, hsz⟩ := h
  have hkl : k < es.length := (List.getElem?_eq_some_iff.1 hk).1
  refine ⟨own_cellE hon hC hk (j := 4) rfl, fun w5 v2 hb h1 => ?_⟩
  have hB := hb.mono (show B0 ≤ wr.heap.size by omega)
  have hon5 := own_belowW hon hb
  have hvt5 := own_belowW hvt hb
  have q1 := (World.ownsRow.stored hon5 (k * 5 + 4) v2).1
  rw [set_f4 es k _ _ _ _ _ v2 hk hC] at q1
  have q2 := set1_grown w5 gn (k * 5 + 4) v2
  have hob5 := own_belowW hob hb
  have hbG : Below B0 w5 (w5.setCell ⟨gn, k * 5 + 4, none⟩ v2) := below_grown (Below.refl _ _) q2 (by omega) (by have := hb.size; omega)
  refine ⟨(hbox.below hb hbox.lt).grown q2 (by omega), (hres.below hb hres.lt).grown q2 (by omega), hob5.kept q2 (own_apart hob5 hon5 (by decide)), ⟨es.set k [.int .i64 n.id, .int .i64 n.bk, .string n.nm, vt, v2], by rw [List.length_set]; exact hel, ?_, q1, ?_, ?_⟩, (hbe.trans hB).trans hbG, by have := hb.size; have := q2.size; omega⟩
  · intro x hx
    rcases List.mem_or_eq_of_mem_set hx with h | rfl
    · exact hC x h
    · rfl
  · intro j m e hj hm hej
    rw [List.getElem?_set] at hej
    split at hej
    · rename_i hjk
      subst hjk
      rw [hn] at hm
      cases hm
      simp only [hkl, if_true, Option.some.injEq] at hej
      subst hej
      exact NtW.kept (w := w5) ⟨vt, v2, rfl, hvt5, own_base h1 hsz⟩ hon5 q2 (by decide) (by decide)
    · exact ((hnew j m e (by omega) hm hej).below hb).kept hon5 q2 (by decide) (by decide)
  · intro j m e hj hm hej
    rw [List.getElem?_set, if_neg (by omega)] at hej
    exact ((hold j m e (by omega) hm hej).below hB).below hbG
theorem rcopy_any (s : Sf) (v : Value) (w : World) (hS : ShR w w.heap.size v s) (hlb : s.bs.length ≤ 100000) (hln : s.ts.length ≤ 100000) (hlr : ∀ n ∈ s.ts, n.tg.length ≤ 100000 ∧ n.sh.length ≤ 100000) :
    Calls Tryz.prog 8 #[v] w fun e' w' => ∃ v', e' = .returned v' ∧ ShW w' w.heap.size v' s ∧ Below w.heap.size w w' := by
  obtain ⟨Ab, cb, An, cn, rfl, hB, hN, hcb, hmb, hcn, hmn⟩ := hS.ex
  clear hS
  obtain ⟨es, hel, hse, hnt⟩ := hN.ex
  have HB : Below w.heap.size w ((w.alloc (.cells #[.int .i64 s.nb, .int .i64 s.nn, .int .i64 s.ns, .slice Ab s.bs.length cb, .slice An s.ts.length cn] 25)).alloc (.cells #[.int .i64 0, .int .i64 0, .int .i64 0, .slice none 0 0, .slice none 0 0] 25)) := (((Below.refl w.heap.size w).alloc (by first | (simp; done) | (simp; omega)) _).alloc (by first | (simp; done) | (simp; omega)) _)
  have B1 : Blk ((w.alloc (.cells #[.int .i64 s.nb, .int .i64 s.nn, .int .i64 s.ns, .slice Ab s.bs.length cb, .slice An s.ts.length cn] 25)).alloc (.cells #[.int .i64 0, .int .i64 0, .int .i64 0, .slice none 0 0, .slice none 0 0] 25)) w.heap.size 25 #[.int .i64 s.nb, .int .i64 s.nn, .int .i64 s.ns, .slice Ab s.bs.length cb, .slice An s.ts.length cn] := (Blk.new_ w 25 #[.int .i64 s.nb, .int .i64 s.nn, .int .i64 s.ns, .slice Ab s.bs.length cb, .slice An s.ts.length cn]).alloc_ (.cells #[.int .i64 0, .int .i64 0, .int .i64 0, .slice none 0 0, .slice none 0 0] 25)
  have B2 : Blk ((w.alloc (.cells #[.int .i64 s.nb, .int .i64 s.nn, .int .i64 s.ns, .slice Ab s.bs.length cb, .slice An s.ts.length cn] 25)).alloc (.cells #[.int .i64 0, .int .i64 0, .int .i64 0, .slice none 0 0, .slice none 0 0] 25)) (w.heap.size + 1) 25 #[.int .i64 0, .int .i64 0, .int .i64 0, .slice none 0 0, .slice none 0 0] := by
    have := Blk.new_ (w.alloc (.cells #[.int .i64 s.nb, .int .i64 s.nn, .int .i64 s.ns, .slice Ab s.bs.length cb, .slice An s.ts.length cn] 25)) 25 #[.int .i64 0, .int .i64 0, .int .i64 0, .slice none 0 0, .slice none 0 0]
    simpa using this
  have hs : ((w.alloc (.cells #[.int .i64 s.nb, .int .i64 s.nn, .int .i64 s.ns, .slice Ab s.bs.length cb, .slice An s.ts.length cn] 25)).alloc (.cells #[.int .i64 0, .int .i64 0, .int .i64 0, .slice none 0 0, .slice none 0 0] 25)).heap.size = w.heap.size + 2 := by simp
  go_enter Tryz.func8, Tryz.ntmps8
  go_upto_region 1 with fail
  obtain ⟨W, hW⟩ : ∃ V : World, V = ((w.alloc (.cells #[.int .i64 s.nb, .int .i64 s.nn, .int .i64 s.ns, .slice Ab s.bs.length cb, .slice An s.ts.length cn] 25)).alloc (.cells #[.int .i64 0, .int .i64 0, .int .i64 0, .slice none 0 0, .slice none 0 0] 25)) := ⟨_, rfl⟩
  rw [← hW] at HB B1 B2 hs ⊢
  clear hW
  have R1 : RdB W W.heap.size Ab s.bs.length 2 (s.bs.map bkC).flatten := rdB_slE ((SlE.below hB HB).mono HB.size) (bkC_two _) (by rw [List.length_map])
  have hC0 : ∀ x ∈ es, x.length = 5 := by
    intro x hx
    obtain ⟨k, hk, rfl⟩ := List.mem_iff_getElem.1 hx
    obtain ⟨_, _, _, _, e, _⟩ := (hnt k _ _ (List.getElem?_eq_getElem (by omega)) (List.getElem?_eq_getElem hk)).ex
    rw [e]
    rfl
  have o1 : ∀ u ∈ (s.bs.map bkC).flatten, u.oneCell' = true := by
    intro u hu
    obtain ⟨x, hx, hu⟩ := List.mem_flatten.1 hu
    obtain ⟨b, _, rfl⟩ := List.mem_map.1 hx
    simp [bkC] at hu
    rcases hu with rfl | rfl <;> rfl
  have o2 : ∀ u ∈ es.flatten, u.oneCell' = true := by
    intro u hu
    obtain ⟨x, hx, hu⟩ := List.mem_flatten.1 hu
    obtain ⟨k, hk, rfl⟩ := List.mem_iff_getElem.1 hx
    obtain ⟨_, _, _, _, e, _⟩ := (hnt k _ _ (List.getElem?_eq_getElem (by omega)) (List.getElem?_eq_getElem hk)).ex
    rw [e] at hu
    simp [ntC] at hu
    rcases hu with rfl | rfl | rfl | rfl | rfl <;> rfl
  have k3 := B1.cell_ 3
  have f3 := B1.free 3
  simp at k3
  go_upto_region 2 with (at_builtin; obtain ⟨ti0, hi, hz0, hz1, hz2⟩ := info_parts info_clBk; refine wpList_app _ rfl (.const (.slice none 0 0)) (.tmp 5) _ rfl W.heap.size 59 ti0 _ 2 24 Tryz.underlying22 hi hz0 hz1 hz2 rfl (by decide) (.slice none 0 0) 0 [] rfl (World.ownsRow_nil _ _ _ _) Ab s.bs.length cb (s.bs.map bkC).flatten rfl (R1.toRd (by decide)) o1 (by unfold maxLen; omega) (by omega) (Nat.le_refl _) ?_; intro v' w3 ho' hg' hv'; clear hi hz0 hz1 hz2 hv'; rw [Nat.zero_add, List.nil_append] at ho'; have b3 : Below W.heap.size W w3 := (Below.refl _ _).grown hg' (Nat.le_refl _) (fun j hj => by simp [Value.ownBlock] at hj); clear hg'; obtain ⟨A3, c3, rfl, hc3, hm3⟩ := own_shape ho'; have ho1 := ho'; clear ho'; (have B1 := B1.below b3 B1.lt); (have B2 := B2.below b3 B2.lt); (have HB := btr HB HB.size b3); (have k3' := B1.cell_ 3); (have f3' := B1.free 3); simp at k3')
  have B1s := B1.set_ 3 (.slice A3 s.bs.length c3)
  have B2s := B2.far (p := ⟨w.heap.size, 3, none⟩) (by show w.heap.size + 1 ≠ w.heap.size; omega) (.slice A3 s.bs.length c3)
  have ho1s := own_far (p := ⟨w.heap.size, 3, none⟩) ho1 (by show w.heap.size < W.heap.size; omega) (.slice A3 s.bs.length c3)
  have HBs := HB.setCell (p := ⟨w.heap.size, 3, none⟩) (Nat.le_refl _) (.slice A3 s.bs.length c3)
  have hz3 : w.heap.size + 2 ≤ w3.heap.size := by have := b3.size; omega
  clear B1 B2 ho1 HB
  obtain ⟨Wb, hWb⟩ : ∃ V : World, V = w3.setCell ⟨w.heap.size, 3, none⟩ (.slice A3 s.bs.length c3) := ⟨_, rfl⟩
  have hzb : Wb.heap.size = w3.heap.size := by rw [hWb]; simp [World.setCell]
  rw [← hWb] at B1s B2s ho1s HBs ⊢
  clear hWb k3' f3' o1 R1
  simp at B1s
  have R2 : RdB Wb Wb.heap.size An s.ts.length 5 es.flatten := rdB_slE ((SlE.below hse HBs).mono HBs.size) hC0 hel
  have k4 := B1s.cell_ 4
  have f4 := B1s.free 4
  simp at k4
  go_upto_region 3 with (at_builtin; obtain ⟨ti0, hi, hz0, hz1, hz2⟩ := info_parts info_clNt; refine wpList_app _ rfl (.const (.slice none 0 0)) (.tmp 9) _ rfl Wb.heap.size 46 ti0 _ 5 80 Tryz.underlying23 hi hz0 hz1 hz2 rfl (by decide) (.slice none 0 0) 0 [] rfl (World.ownsRow_nil _ _ _ _) An s.ts.length cn es.flatten rfl (R2.toRd (by decide)) o2 (by unfold maxLen; omega) (by omega) (Nat.le_refl _) ?_; intro v' w5 ho' hg' hv'; clear hi hz0 hz1 hz2 hv'; rw [Nat.zero_add, List.nil_append] at ho'; have b5 : Below Wb.heap.size Wb w5 := (Below.refl _ _).grown hg' (Nat.le_refl _) (fun j hj => by simp [Value.ownBlock] at hj); clear hg'; obtain ⟨A5, c5, rfl, hc5, hm5⟩ := own_shape ho'; have ho2 := ho'; clear ho'; (have B1s := B1s.below b5 B1s.lt); (have B2s := B2s.below b5 B2s.lt); (have HBs := btr HBs HBs.size b5); (have ho1s := own_belowW ho1s b5); (have k4' := B1s.cell_ 4); (have f4' := B1s.free 4); simp at k4')
  have B1t := B1s.set_ 4 (.slice A5 s.ts.length c5)
  have B2t := B2s.far (p := ⟨w.heap.size, 4, none⟩) (by show w.heap.size + 1 ≠ w.heap.size; omega) (.slice A5 s.ts.length c5)
  have ho1t := own_far (p := ⟨w.heap.size, 4, none⟩) ho1s (by show w.heap.size < W.heap.size; omega) (.slice A5 s.ts.length c5)
  have ho2t := own_far (p := ⟨w.heap.size, 4, none⟩) ho2 (by show w.heap.size < Wb.heap.size; omega) (.slice A5 s.ts.length c5)
  have HBt := HBs.setCell (p := ⟨w.heap.size, 4, none⟩) (Nat.le_refl _) (.slice A5 s.ts.length c5)
  have hz5 : w.heap.size + 2 ≤ w5.heap.size := by have := b5.size; omega
  clear B1s B2s ho1s ho2 HBs
  obtain ⟨Wc, hWc⟩ : ∃ V : World, V = w5.setCell ⟨w.heap.size, 4, none⟩ (.slice A5 s.ts.length c5) := ⟨_, rfl⟩
  have hzc : Wc.heap.size = w5.heap.size := by rw [hWc]; simp [World.setCell]
  rw [← hWc] at B1t B2t ho1t ho2t HBt ⊢
  clear hWc k4' f4' o2 R2
  simp at B1t
  replace ho1t := own_base ho1t (show w.heap.size + 2 ≤ W.heap.size by omega)
  replace ho2t := own_base ho2t (show w.heap.size + 2 ≤ Wb.heap.size by omega)
  have hB0 : ∃ gn, A5 = some ⟨gn, 0, none⟩ ∧ w.heap.size + 2 ≤ gn ∨ s.ts.length = 0 := by
    rcases ho2t.2 with ⟨h, h0⟩ | ⟨g, c, cu, h, hb, _⟩
    · exact ⟨0, Or.inr h0⟩
    · injection h with h1 h2 h3
      exact ⟨g, Or.inl ⟨h1, hb⟩⟩
  obtain ⟨m, hm⟩ : ∃ m, s.ts.length = m := ⟨_, rfl⟩
  have HM := Lib.hid hm
  have HI0 : CloneI s (.slice A3 s.bs.length c3) A5 c5 w w.heap.size 0 Wc := ⟨B1t, B2t, ho1t, ⟨es, hel, hC0, ho2t, fun j n e hj => absurd hj (Nat.not_lt_zero _), fun j n e _ a b => (hnt j n e a b).below HBt⟩, HBt, by omega⟩
  have hlr' := Lib.hid hlr
  have hgn := Lib.hid hB0
  have k4 := B1t.cell_ 4
  simp at k4
  clear B1t B2t ho1t ho2t HBt hlr hB0 hnt hse hC0 hel hB hN
  rw [hm] at k4
  clear hm
  go_wp2_with fail
  go_loopw [3] (fun i wr => ∃ k : Nat, k ≤ m ∧ i = .int .i64 k ∧ CloneI s (.slice A3 s.bs.length c3) A5 c5 w w.heap.size k wr) (fun i _ => m - (intOf i).toNat)
  case atStart => exact ⟨0, by omega, rfl, HI0⟩
  case round =>
    obtain ⟨k, hk, rfl, HI⟩ := hrel
    clear HI0 k4
    by_cases hlt : k < m
    · have hlx : k < s.ts.length := by have := HM.out; omega
      have i0 : (0 : Int) ≤ (k : Int) := by omega
      have i1 : (k : Int) < (m : Int) := by omega
      obtain ⟨gn, hg⟩ := hgn.out
      obtain ⟨rfl, hgw⟩ := hg.resolve_right (by omega)
      clear hg
      obtain ⟨n, hn⟩ : ∃ n, s.ts[k]? = some n := ⟨_, List.getElem?_eq_getElem hlx⟩
      have HN := Lib.hid hn
      clear hn
      have kb := HI.box.cell_ 4
      simp at kb
      rw [HM.out] at kb
      have kb' : wr.drew.cell? ⟨w.heap.size, 4, none⟩ = some (.slice (some ⟨gn, 0, none⟩) m c5) := kb
      obtain ⟨es, -, -, hon, -⟩ := HI.es
      obtain ⟨At, ct, As, cs, ⟨ycell, hAt⟩, hmk⟩ := HI.half HN.out hgw
      have ycd : wr.drew.cell? ⟨gn, k * 5 + 3, none⟩ = some (.slice At n.tg.length ct) := ycell
      have hAt2 : Sl wr.drew wr.drew.heap.size At (n.tg.map strV) := (hAt.below ((below_dr wr).mono HI.be.size)).mono_ HI.be.size
      have o1 : ∀ u ∈ n.tg.map strV, u.oneCell' = true := fun u hu => by obtain ⟨x, _, rfl⟩ := List.mem_map.1 hu; rfl
      have o2 : ∀ u ∈ n.sh.map (Value.int .i64), u.oneCell' = true := fun u hu => by obtain ⟨x, _, rfl⟩ := List.mem_map.1 hu; rfl
      have hr := hlr'.out n (List.mem_of_getElem? HN.out)
      have hr1 := hr.1
      have hr2 := hr.2
      clear hr hAt
      go_upto_region 6 with fail
      refine wp_region_noPanic ?_
      refine wp_region_held_drew (S := (fun w_ => w_.cell? ⟨w.heap.size, 4, none⟩ = some (.slice (some ⟨gn, 0, none⟩) m c5))) (by kernel_rfl) ?_ (fun hHeld => ?_)
      · (first | with_reducible assumption | exact kbH | exact kbJ)
      refine tk 0 ⟨some 19, .fieldAddr 25 (.tmp 1) 4, 0, "ref.go:113", #[], none⟩ ?_; try simp only [Act.put, pz1, pz2, pz3]
      refine tk 1 ⟨some 20, .load 23 (.tmp 19), 23, "ref.go:113", #[⟨0, .data⟩], none⟩ ?_; try simp only [Act.put, pz1, pz2, pz3]
      refine tk 2 ⟨some 21, .move (.tmp 3), 3, "ref.go:113", #[], none⟩ ?_; try simp only [Act.put, pz1, pz2, pz3]
      refine tk 3 ⟨some 22, .fieldAddr 25 (.tmp 1) 4, 0, "ref.go:113", #[], none⟩ ?_; try simp only [Act.put, pz1, pz2, pz3]
      refine tk 4 ⟨some 23, .load 23 (.tmp 22), 23, "ref.go:113", #[⟨3, .data⟩], none⟩ ?_; try simp only [Act.put, pz1, pz2, pz3]
      refine tk 5 ⟨some 24, .move (.tmp 3), 3, "ref.go:113", #[], none⟩ ?_; try simp only [Act.put, pz1, pz2, pz3]
      refine tk 6 ⟨some 25, .indexAddr 23 (.tmp 23) (.tmp 24), 0, "ref.go:113", #[⟨4, .data⟩, ⟨5, .data⟩], none⟩ ?_; try simp only [Act.put, pz1, pz2, pz3]
      refine tk 7 ⟨some 26, .fieldAddr 46 (.tmp 25) 3, 0, "ref.go:113", #[⟨6, .data⟩], none⟩ ?_; try simp only [Act.put, pz1, pz2, pz3]
      refine wpAnyH_ready (rs := [8]) (by kernel_rfl) (by simp) ?_
      refine AllReadyH.cons (o := ⟨some 27, .load 43 (.tmp 26), 43, "ref.go:113", #[⟨7, .data⟩], none⟩) rfl (fun K hK => ?_) AllReadyH.nil
      go_simp
      refine hK.out _ _ ?_ (fun hNew => ?_)
      · (first | with_reducible assumption | exact kbH | exact kbJ)
      clear hK K hHeld
      have hHeld := hNew
      clear hNew
      try simp only [Act.put, pz1, pz2, pz3]
      refine wpAnyH_ready (rs := [9]) (by kernel_rfl) (by simp) ?_
      refine AllReadyH.cons (o := ⟨some 28, .call { callee := .builtin .append, args := #[.const (.slice none 0 0), .tmp 27], argTypes := #[43, 43] }, 43, "ref.go:113", #[⟨8, .data⟩], none⟩) rfl (fun K hK => ?_) AllReadyH.nil
      obtain ⟨ti0, hi, hz0, hz1, hz2⟩ := info_parts info_clStr
      refine step_app _ rfl (.const (.slice none 0 0)) (.tmp 27) _ rfl wr.drew.heap.size 9 ti0 _ 1 16 Tryz.underlying43 hi hz0 hz1 hz2 rfl (by decide) (.slice none 0 0) 0 [] rfl (World.ownsRow_nil _ _ _ _) At n.tg.length ct (n.tg.map strV) rfl (Rd.of_sl hAt2 (by rw [List.length_map])) o1 (by unfold maxLen; omega) (by omega) (Nat.le_refl _) ?_
      intro v9 w9 ho9 hg9 hv9
      clear hi hz0 hz1 hz2 hv9
      rw [Nat.zero_add, List.nil_append] at ho9
      have b9 : Below wr.heap.size wr w9 := btr (below_dr wr) (below_dr wr).size ((Below.refl _ _).grown hg9 (Nat.le_refl _) (fun j hj => by simp [Value.ownBlock] at hj))
      clear hg9
      obtain ⟨A9, c9, rfl, -, -⟩ := own_shape ho9
      have HH := hmk w9 _ b9 ho9
      have kb9 : w9.cell? ⟨w.heap.size, 4, none⟩ = some (.slice (some ⟨gn, 0, none⟩) m c5) := (b9.cell (p := ⟨w.heap.size, 4, none⟩) HI.box.lt).trans kb
      have kbH : (w9.setCell ⟨gn, k * 5 + 3, none⟩ (.slice A9 n.tg.length c9)).cell? ⟨w.heap.size, 4, none⟩ = some (.slice (some ⟨gn, 0, none⟩) s.ts.length c5) := HH.box.cell_ 4
      rw [HM.out] at kbH
      have z3 := World.ownsRow.frozenAt (own_belowW hon b9) (k * 5 + 3)
      have x3 := (b9.cell (p := ⟨gn, k * 5 + 3, none⟩) (World.ownsRow.lt hon gn rfl).2).trans ycell
      refine hK.out _ _ ?_ (fun hNew => ?_)
      · (first | with_reducible assumption | exact kbH | exact kbJ)
      clear hK K hHeld
      have hHeld := hNew
      clear hNew
      try simp only [Act.put, pz1, pz2, pz3]
      refine tk 10 ⟨some 29, .indexAddr 23 (.tmp 20) (.tmp 21), 0, "ref.go:113", #[⟨1, .data⟩, ⟨2, .data⟩, ⟨0, .phase⟩, ⟨1, .phase⟩, ⟨2, .phase⟩, ⟨3, .phase⟩, ⟨4, .phase⟩, ⟨5, .phase⟩, ⟨6, .phase⟩, ⟨7, .phase⟩, ⟨8, .phase⟩, ⟨9, .phase⟩], none⟩ ?_; try simp only [Act.put, pz1, pz2, pz3]
      refine tk 11 ⟨some 30, .fieldAddr 46 (.tmp 29) 3, 0, "ref.go:113", #[⟨10, .data⟩, ⟨0, .phase⟩, ⟨1, .phase⟩, ⟨2, .phase⟩, ⟨3, .phase⟩, ⟨4, .phase⟩, ⟨5, .phase⟩, ⟨6, .phase⟩, ⟨7, .phase⟩, ⟨8, .phase⟩, ⟨9, .phase⟩], none⟩ ?_; try simp only [Act.put, pz1, pz2, pz3]
      refine wpAnyH_ready (rs := [12]) (by kernel_rfl) (by simp) ?_
      refine AllReadyH.cons (o := ⟨none, .store 43 (.tmp 30) (.tmp 28), 0, "ref.go:113", #[⟨11, .data⟩, ⟨9, .data⟩, ⟨9, .chain⟩, ⟨0, .phase⟩, ⟨1, .phase⟩, ⟨2, .phase⟩, ⟨3, .phase⟩, ⟨4, .phase⟩, ⟨5, .phase⟩, ⟨6, .phase⟩, ⟨7, .phase⟩, ⟨8, .phase⟩, ⟨9, .phase⟩], none⟩) rfl (fun K hK => ?_) AllReadyH.nil
      go_simp
      refine hK.out _ _ ?_ (fun hNew => ?_)
      · (first | with_reducible assumption | exact kbH | exact kbJ)
      clear hK K hHeld
      have hHeld := hNew
      clear hNew
      try simp only [Act.put, pz1, pz2, pz3]
      refine wpAnyH_done (by kernel_rfl) ?_ _
      refine NoPanic.normal ?_
      go_upto_region 7 with fail
      obtain ⟨wh, hwh⟩ : ∃ V : World, V = w9.setCell ⟨gn, k * 5 + 3, none⟩ (.slice A9 n.tg.length c9) := ⟨_, rfl⟩
      rw [← hwh] at HH kbH ⊢
      clear hwh kb kb' kb9 z3 x3 ycell ycd hmk hHeld ho9 hon HI b9
      have kb2 := kbH
      have kb2' : wh.drew.cell? ⟨w.heap.size, 4, none⟩ = some (.slice (some ⟨gn, 0, none⟩) m c5) := kb2
      clear kbH
      obtain ⟨ycell2, hmk2⟩ := HH.whole HN.out hgw
      have ycd2 : wh.drew.cell? ⟨gn, k * 5 + 4, none⟩ = some (.slice As n.sh.length cs) := ycell2
      obtain ⟨es2, vt2, -, -, hon2, -⟩ := HH.es
      have hAs2 : Sl wh.drew wh.drew.heap.size As (n.sh.map (Value.int .i64)) := (HH.sl.below ((below_dr wh).mono HH.be.size)).mono_ HH.be.size
      refine wp_region_noPanic ?_
      refine wp_region_held_drew (S := (fun w_ => w_.cell? ⟨w.heap.size, 4, none⟩ = some (.slice (some ⟨gn, 0, none⟩) m c5))) (by kernel_rfl) ?_ (fun hHeld => ?_)
      · (first | with_reducible assumption | exact kbH | exact kbJ)
      refine tk 0 ⟨some 31, .fieldAddr 25 (.tmp 1) 4, 0, "ref.go:114", #[], none⟩ ?_; try simp only [Act.put, pz1, pz2, pz3]
      refine tk 1 ⟨some 32, .load 23 (.tmp 31), 23, "ref.go:114", #[⟨0, .data⟩], none⟩ ?_; try simp only [Act.put, pz1, pz2, pz3]
      refine tk 2 ⟨some 33, .move (.tmp 3), 3, "ref.go:114", #[], none⟩ ?_; try simp only [Act.put, pz1, pz2, pz3]
      refine tk 3 ⟨some 34, .fieldAddr 25 (.tmp 1) 4, 0, "ref.go:114", #[], none⟩ ?_; try simp only [Act.put, pz1, pz2, pz3]
      refine tk 4 ⟨some 35, .load 23 (.tmp 34), 23, "ref.go:114", #[⟨3, .data⟩], none⟩ ?_; try simp only [Act.put, pz1, pz2, pz3]
      refine tk 5 ⟨some 36, .move (.tmp 3), 3, "ref.go:114", #[], none⟩ ?_; try simp only [Act.put, pz1, pz2, pz3]
      refine tk 6 ⟨some 37, .indexAddr 23 (.tmp 35) (.tmp 36), 0, "ref.go:114", #[⟨4, .data⟩, ⟨5, .data⟩], none⟩ ?_; try simp only [Act.put, pz1, pz2, pz3]
      refine tk 7 ⟨some 38, .fieldAddr 46 (.tmp 37) 4, 0, "ref.go:114", #[⟨6, .data⟩], none⟩ ?_; try simp only [Act.put, pz1, pz2, pz3]
      refine wpAnyH_ready (rs := [8]) (by kernel_rfl) (by simp) ?_
      refine AllReadyH.cons (o := ⟨some 39, .load 44 (.tmp 38), 44, "ref.go:114", #[⟨7, .data⟩], none⟩) rfl (fun K hK => ?_) AllReadyH.nil
      go_simp
      refine hK.out _ _ ?_ (fun hNew => ?_)
      · (first | with_reducible assumption | exact kbH | exact kbJ)
      clear hK K hHeld
      have hHeld := hNew
      clear hNew
      try simp only [Act.put, pz1, pz2, pz3]
      refine wpAnyH_ready (rs := [9]) (by kernel_rfl) (by simp) ?_
      refine AllReadyH.cons (o := ⟨some 40, .call { callee := .builtin .append, args := #[.const (.slice none 0 0), .tmp 39], argTypes := #[44, 44] }, 44, "ref.go:114", #[⟨8, .data⟩], none⟩) rfl (fun K hK => ?_) AllReadyH.nil
      obtain ⟨ti0, hi, hz0, hz1, hz2⟩ := info_parts info_clInt
      refine step_app _ rfl (.const (.slice none 0 0)) (.tmp 39) _ rfl wh.drew.heap.size 3 ti0 _ 1 8 Tryz.underlying44 hi hz0 hz1 hz2 rfl (by decide) (.slice none 0 0) 0 [] rfl (World.ownsRow_nil _ _ _ _) As n.sh.length cs (n.sh.map (Value.int .i64)) rfl (Rd.of_sl hAs2 (by rw [List.length_map])) o2 (by unfold maxLen; omega) (by omega) (Nat.le_refl _) ?_
      intro v8 w8 ho9 hg9 hv9
      clear hi hz0 hz1 hz2 hv9
      rw [Nat.zero_add, List.nil_append] at ho9
      have b8 : Below wh.heap.size wh w8 := btr (below_dr wh) (below_dr wh).size ((Below.refl _ _).grown hg9 (Nat.le_refl _) (fun j hj => by simp [Value.ownBlock] at hj))
      clear hg9
      obtain ⟨A8, c8, rfl, -, -⟩ := own_shape ho9
      have HJ := hmk2 w8 _ b8 ho9
      have kb8 : w8.cell? ⟨w.heap.size, 4, none⟩ = some (.slice (some ⟨gn, 0, none⟩) m c5) := (b8.cell (p := ⟨w.heap.size, 4, none⟩) HH.box.lt).trans kb2
      have kbJ : (w8.setCell ⟨gn, k * 5 + 4, none⟩ (.slice A8 n.sh.length c8)).cell? ⟨w.heap.size, 4, none⟩ = some (.slice (some ⟨gn, 0, none⟩) s.ts.length c5) := HJ.box.cell_ 4
      rw [HM.out] at kbJ
      have z4 := World.ownsRow.frozenAt (own_belowW hon2 b8) (k * 5 + 4)
      have x4 := (b8.cell (p := ⟨gn, k * 5 + 4, none⟩) (World.ownsRow.lt hon2 gn rfl).2).trans ycell2
      refine hK.out _ _ ?_ (fun hNew => ?_)
      · (first | with_reducible assumption | exact kbH | exact kbJ)
      clear hK K hHeld
      have hHeld := hNew
      clear hNew
      try simp only [Act.put, pz1, pz2, pz3]
      refine tk 10 ⟨some 41, .indexAddr 23 (.tmp 32) (.tmp 33), 0, "ref.go:114", #[⟨1, .data⟩, ⟨2, .data⟩, ⟨0, .phase⟩, ⟨1, .phase⟩, ⟨2, .phase⟩, ⟨3, .phase⟩, ⟨4, .phase⟩, ⟨5, .phase⟩, ⟨6, .phase⟩, ⟨7, .phase⟩, ⟨8, .phase⟩, ⟨9, .phase⟩], none⟩ ?_; try simp only [Act.put, pz1, pz2, pz3]
      refine tk 11 ⟨some 42, .fieldAddr 46 (.tmp 41) 4, 0, "ref.go:114", #[⟨10, .data⟩, ⟨0, .phase⟩, ⟨1, .phase⟩, ⟨2, .phase⟩, ⟨3, .phase⟩, ⟨4, .phase⟩, ⟨5, .phase⟩, ⟨6, .phase⟩, ⟨7, .phase⟩, ⟨8, .phase⟩, ⟨9, .phase⟩], none⟩ ?_; try simp only [Act.put, pz1, pz2, pz3]
      refine wpAnyH_ready (rs := [12]) (by kernel_rfl) (by simp) ?_
      refine AllReadyH.cons (o := ⟨none, .store 44 (.tmp 42) (.tmp 40), 0, "ref.go:114", #[⟨11, .data⟩, ⟨9, .data⟩, ⟨9, .chain⟩, ⟨0, .phase⟩, ⟨1, .phase⟩, ⟨2, .phase⟩, ⟨3, .phase⟩, ⟨4, .phase⟩, ⟨5, .phase⟩, ⟨6, .phase⟩, ⟨7, .phase⟩, ⟨8, .phase⟩, ⟨9, .phase⟩], none⟩) rfl (fun K hK => ?_) AllReadyH.nil
      go_simp
      refine hK.out _ _ ?_ (fun hNew => ?_)
      · (first | with_reducible assumption | exact kbH | exact kbJ)
      clear hK K hHeld
      have hHeld := hNew
      clear hNew
      try simp only [Act.put, pz1, pz2, pz3]
      refine wpAnyH_done (by kernel_rfl) ?_ _
      refine NoPanic.normal ?_
      go_wp2_with fail
      go_roundw
      case rel => exact ⟨k + 1, by omega, by go_num, HJ⟩
      case measure => simp [intOf]; omega
    · have hjn : k = m := by omega
      subst hjn
      clear hlt
      obtain ⟨es, hel, hC, hon, hnew, -⟩ := HI.es
      have p0 := HI.box.cell_ 0
      have p1 := HI.box.cell_ 1
      have p2 := HI.box.cell_ 2
      have p3 := HI.box.cell_ 3
      have p4 := HI.box.cell_ 4
      simp at p0 p1 p2 p3 p4
      have t0 := HI.res.free 0
      have t1 := HI.res.free 1
      have t2 := HI.res.free 2
      have t3 := HI.res.free 3
      have t4 := HI.res.free 4
      have r0 := HI.res.cell_ 0
      have r1 := HI.res.cell_ 1
      have r2 := HI.res.cell_ 2
      have r3 := HI.res.cell_ 3
      have r4 := HI.res.cell_ 4
      simp at r0 r1 r2 r3 r4
      obtain ⟨hbe, hsz, hob, hres⟩ : Below w.heap.size w wr ∧ w.heap.size + 2 ≤ wr.heap.size ∧ wr.ownsRow (w.heap.size + 2) 59 2 (.slice A3 s.bs.length c3) s.bs.length (s.bs.map bkC).flatten ∧ Blk wr (w.heap.size + 1) 25 #[.int .i64 0, .int .i64 0, .int .i64 0, .slice none 0 0, .slice none 0 0] := ⟨HI.be, HI.sz, HI.ob, HI.res⟩
      rw [HM.out] at p4
      clear HI
      go_wp2_with fail
      have B2u := (Blk.set_ (Blk.set_ (Blk.set_ (Blk.set_ (Blk.set_ hres 0 (.int .i64 s.nb)) 1 (.int .i64 s.nn)) 2 (.int .i64 s.ns)) 3 (.slice A3 s.bs.length c3)) 4 (.slice A5 k c5))
      simp at B2u
      have hG : wr.grownBy (st5 wr (w.heap.size + 1) 0 (.int .i64 s.nb) (.int .i64 s.nn) (.int .i64 s.ns) (.slice A3 s.bs.length c3) (.slice A5 k c5)) (some (w.heap.size + 1)) := grown_set (grown_set (grown_set (grown_set (grown_set (World.grownBy.refl wr _) _ _) _ _) _ _) _ _) _ _
      have hb2 := below_grown hbe hG (by omega) hbe.size
      have hob2 := hob.kept hG (own_off hob (by omega))
      have hon2 := hon.kept hG (own_off hon (by omega))
      have hnew2 : ∀ (j : Nat) (n : Nt) (e : List Value), s.ts[j]? = some n → es[j]? = some e → NtW (st5 wr (w.heap.size + 1) 0 (.int .i64 s.nb) (.int .i64 s.nn) (.int .i64 s.ns) (.slice A3 s.bs.length c3) (.slice A5 k c5)) (w.heap.size + 2) n e := by
        intro j n e a b
        obtain ⟨vt, vs, r, q1, q2⟩ := hnew j n e (by rw [← HM.out]; exact (List.getElem?_eq_some_iff.1 a).1) a b
        exact ⟨vt, vs, r, q1.kept hG (own_off q1 (by omega)), q2.kept hG (own_off q2 (by omega))⟩
      change bodyPost _ _ _ _ _ (st5 wr (w.heap.size + 1) 0 (.int .i64 s.nb) (.int .i64 s.nn) (.int .i64 s.ns) (.slice A3 s.bs.length c3) (.slice A5 k c5))
      change Blk (st5 wr (w.heap.size + 1) 0 (.int .i64 s.nb) (.int .i64 s.nn) (.int .i64 s.ns) (.slice A3 s.bs.length c3) (.slice A5 k c5)) _ _ _ at B2u
      generalize st5 wr (w.heap.size + 1) 0 (.int .i64 s.nb) (.int .i64 s.nn) (.int .i64 s.ns) (.slice A3 s.bs.length c3) (.slice A5 k c5) = Wd at B2u hb2 hob2 hon2 hnew2 ⊢
      have s0 := B2u.cell_ 0
      have s1 := B2u.cell_ 1
      have s2 := B2u.cell_ 2
      have s3 := B2u.cell_ 3
      have s4 := B2u.cell_ 4
      simp at s0 s1 s2 s3 s4
      apply bodyPost_ret (v := .agg #[.int .i64 s.nb, .int .i64 s.nn, .int .i64 s.ns, .slice A3 s.bs.length c3, .slice A5 k c5]) 
      · exact results_cell_row Tryz.results8 _ Wd (w.heap.size + 1) 25 #[.int .i64 s.nb, .int .i64 s.nn, .int .i64 s.ns, .slice A3 s.bs.length c3, .slice A5 k c5] (0, 0) _ rfl B2u Tryz.underlying25 rfl (by kernel_rfl)
      · rfl
      · rw [HM.out] at hon2
        exact ⟨_, rfl, ⟨_, _, es, rfl, own_base hob2 (by omega), hel, by rw [HM.out]; exact own_base hon2 (by omega), fun j n e a b => by
          obtain ⟨vt, vs, r, q1, q2⟩ := hnew2 j n e a b
          exact ⟨vt, vs, r, own_base q1 (by omega), own_base q2 (by omega)⟩⟩, hb2⟩
end Go.Proofs.YtokhapafpjejaaaGreatDoor
namespace Go.Proofs.YtokhapafpjejaaaGreatDoor
open Go.ChangeShapes Go.WideShapes Go.ChangeAt Go.RowKit
attribute [local go_sem ↓] Go.wp_at_zero Go.wp_at_succ
theorem inI_of {x lo hi : Int} (h1 : lo ≤ x) (h2 : x ≤ hi) : inI x lo hi = true := by
  unfold inI
  rw [decide_eq_true h1, decide_eq_true h2]
  rfl
theorem books_conv {s : Sf} : ∀ (l : List Bk) (bf : Int), (∀ b ∈ l, bf < b.id ∧ b.id ≤ s.nb - 1 ∧ mayN b.nm = true ∧ bookTk s b.nm b.id = false) → (l.Pairwise fun a b => a.id < b.id) → booksFrom s bf l = true
  | [], _, _, _ => rfl
  | x :: l, bf, h, hp => by
    obtain ⟨h1, h2, h3, h4⟩ := h x (by simp)
    rw [List.pairwise_cons] at hp
    show (inI x.id (bf + 1) (s.nb - 1) && (mayN x.nm && (!bookTk s x.nm x.id && booksFrom s x.id l))) = true
    rw [inI_of (by omega) h2, h3, h4, books_conv l x.id (fun b hb => ⟨hp.1 b hb, (h b (by simp [hb])).2⟩) hp.2]
    rfl
theorem notes_conv {s : Sf} : ∀ (l : List Nt) (bf : Int), (∀ b ∈ l, bf < b.id ∧ b.id ≤ s.nn - 1 ∧ mayNt s b = true) → (l.Pairwise fun a b => a.id < b.id) → notesFrom s bf l = true
  | [], _, _, _ => rfl
  | x :: l, bf, h, hp => by
    obtain ⟨h1, h2, h3⟩ := h x (by simp)
    rw [List.pairwise_cons] at hp
    show (inI x.id (bf + 1) (s.nn - 1) && (mayNt s x && notesFrom s x.id l)) = true
    rw [inI_of (by omega) h2, h3, notes_conv l x.id (fun b hb => ⟨hp.1 b hb, (h b (by simp [hb])).2⟩) hp.2]
    rfl
theorem shIn_iff (ns : Int) : ∀ (l seen : List Int), sheetsIn ns seen l = true ↔ (∀ x ∈ l, inI x 1 (ns - 1) = true ∧ x ∉ seen) ∧ l.Nodup
  | [], seen => by simp [sheetsIn]
  | x :: l, seen => by
    have ih := shIn_iff ns l (x :: seen)
    show (inI x 1 (ns - 1) && (!seen.contains x && sheetsIn ns (x :: seen) l)) = true ↔ _
    rw [Bool.and_eq_true, Bool.and_eq_true, ih, List.nodup_cons]
    simp only [Bool.not_eq_true', List.contains_eq_mem, decide_eq_false_iff_not, List.mem_cons, not_or]
    constructor
    · rintro ⟨h1, h2, h3, h4⟩
      refine ⟨fun y hy => ?_, fun hx => (h3 x hx).2.1 rfl, h4⟩
      rcases hy with rfl | hy
      · exact ⟨h1, h2⟩
      · exact ⟨(h3 y hy).1, (h3 y hy).2.2⟩
    · rintro ⟨h1, h2, h3⟩
      refine ⟨(h1 x (Or.inl rfl)).1, (h1 x (Or.inl rfl)).2, fun y hy => ⟨(h1 y (Or.inr hy)).1, fun e => h2 (e ▸ hy), (h1 y (Or.inr hy)).2⟩, h3⟩
theorem sh_iff (ns : Int) : ∀ (l : List Nt) (seen : List Int), sheetsFrom ns seen l = true ↔ (∀ n ∈ l, n.sh.length ≤ 8) ∧ (∀ x ∈ l.flatMap Nt.sh, inI x 1 (ns - 1) = true ∧ x ∉ seen) ∧ (l.flatMap Nt.sh).Nodup
  | [], seen => by simp [sheetsFrom]
  | n :: l, seen => by
    have ih := sh_iff ns l (n.sh.reverse ++ seen)
    show (decide (n.sh.length ≤ 8) && (sheetsIn ns seen n.sh && sheetsFrom ns (n.sh.reverse ++ seen) l)) = true ↔ _
    rw [Bool.and_eq_true, Bool.and_eq_true, ih, shIn_iff, List.flatMap_cons, List.nodup_append]
    simp only [decide_eq_true_eq, List.mem_cons, List.mem_append, List.mem_reverse, not_or]
    constructor
    · rintro ⟨h1, ⟨h2, h3⟩, h4, h5, h6⟩
      refine ⟨fun m hm => ?_, fun x hx => ?_, h3, h6, fun a ha b hb e => ?_⟩
      · rcases hm with rfl | hm
        · exact h1
        · exact h4 m hm
      · rcases hx with hx | hx
        · exact h2 x hx
        · exact ⟨(h5 x hx).1, (h5 x hx).2.2⟩
      · subst e
        exact (h5 a hb).2.1 ha
    · rintro ⟨h1, h2, h3, h4, h5⟩
      exact ⟨h1 n (Or.inl rfl), ⟨fun x hx => h2 x (Or.inl hx), h3⟩, fun m hm => h1 m (Or.inr hm), fun x hx => ⟨(h2 x (Or.inr hx)).1, fun hx2 => h5 x hx2 x hx rfl, (h2 x (Or.inr hx)).2⟩, h4⟩
theorem flat_sub {α β : Type} {f : α → List β} {a b : List α} (h : a.Sublist b) : (a.flatMap f).Sublist (b.flatMap f) := by
  induction h with
  | slnil => exact List.Sublist.refl _
  | cons x _ ih => rw [List.flatMap_cons]; exact ih.trans (List.sublist_append_right _ _)
  | cons_cons x _ ih => rw [List.flatMap_cons, List.flatMap_cons]; exact (List.Sublist.refl _).append ih
theorem mayS_conv {s : Sf} (h : MayF s) : mayS s = true := by
  unfold mayS
  rw [inI_of h.nb.1 h.nb.2, inI_of h.nn.1 h.nn.2, inI_of h.ns.1 h.ns.2, decide_eq_true h.bl, decide_eq_true h.tl, books_conv s.bs 0 h.bs h.bo, notes_conv s.ts 0 h.ts h.tord, h.sh]
  rfl
theorem tk_sub {ts ts' : List Nt} (hs : ts'.Sublist ts) {p : Nt → Bool} (h : ts.any p = false) : ts'.any p = false := by
  rw [List.any_eq_false] at h ⊢
  exact fun x hx => h x (hs.subset hx)
theorem mayNt_sub {s : Sf} {ts' : List Nt} (hs : ts'.Sublist s.ts) {n : Nt} (h : mayNt s n = true) : mayNt { s with ts := ts' } n = true := by
  unfold mayNt at h ⊢
  simp only [Bool.and_eq_true, Bool.not_eq_true'] at h ⊢
  exact ⟨h.1, h.2.1, tk_sub hs h.2.2.1, h.2.2.2⟩
theorem MayF.sub {s : Sf} (h : MayF s) {ts' : List Nt} (hs : ts'.Sublist s.ts) : MayF { s with ts := ts' } := by
  obtain ⟨q1, q2, q3⟩ := (sh_iff _ _ _).1 h.sh
  exact ⟨h.nb, h.nn, h.ns, h.bl, Nat.le_trans hs.length_le h.tl, h.bs, h.bo, fun n hn => ⟨(h.ts n (hs.subset hn)).1, (h.ts n (hs.subset hn)).2.1, mayNt_sub hs (h.ts n (hs.subset hn)).2.2⟩, h.tord.sublist hs,
    (sh_iff _ _ _).2 ⟨fun n hn => q1 n (hs.subset hn), fun x hx => q2 x ((flat_sub hs).subset hx), q3.sublist (flat_sub hs)⟩⟩
def discL (s : Sf) (L : List Int) : Sf := { s with ts := s.ts.filter fun n => !L.contains n.id }
theorem MayF.idinj {s : Sf} (h : MayF s) {a b : Nt} (ha : a ∈ s.ts) (hb : b ∈ s.ts) (he : a.id = b.id) : a = b := by
  obtain ⟨i, hi, rfl⟩ := List.mem_iff_getElem.1 ha
  obtain ⟨j, hj, rfl⟩ := List.mem_iff_getElem.1 hb
  rcases Nat.lt_trichotomy i j with hij | rfl | hij
  · have := List.pairwise_iff_getElem.1 h.tord i j hi hj hij
    omega
  · rfl
  · have := List.pairwise_iff_getElem.1 h.tord j i hj hi hij
    omega
theorem MayF.bidinj {s : Sf} (h : MayF s) {a b : Bk} (ha : a ∈ s.bs) (hb : b ∈ s.bs) (he : a.id = b.id) : a = b := by
  obtain ⟨i, hi, rfl⟩ := List.mem_iff_getElem.1 ha
  obtain ⟨j, hj, rfl⟩ := List.mem_iff_getElem.1 hb
  rcases Nat.lt_trichotomy i j with hij | rfl | hij
  · have := List.pairwise_iff_getElem.1 h.bo i j hi hj hij
    omega
  · rfl
  · have := List.pairwise_iff_getElem.1 h.bo j i hj hi hij
    omega
structure DrpF (s : Sf) (x : Int) (its : List It) : Prop where
  disc : ∀ (i : Nat) (y : It), its[i]? = some y → discC (discL s ((its.map It.id).take i)) y.id = 0
  step : ∀ (i : Nat) (y : It), its[i]? = some y → discS (discL s ((its.map It.id).take i)) y.id = discL s ((its.map It.id).take (i + 1))
  last : dropC (discL s (its.map It.id)) x = 0
  same : dropS (discL s (its.map It.id)) x = dropS s x
  notes : ((dropS s x).ts.length : Int) = (s.ts.length : Int) - (its.length : Int)
  books : ((dropS s x).bs.length : Int) = (s.bs.length : Int) - 1
end Go.Proofs.YtokhapafpjejaaaGreatDoor
namespace Go.Proofs.YtokhapafpjejaaaGreatDoor
open Go.ChangeShapes Go.WideShapes Go.ChangeAt Go.RowKit
attribute [local go_sem ↓] Go.wp_at_zero Go.wp_at_succ
theorem rSheets_any (s : Sf) (v : Value) (w : World) (hS : ShR w w.heap.size v s) (hln : s.ts.length ≤ 100000) (hlL : (s.ts.flatMap Nt.sh).length ≤ 100000) :
    Calls Tryz.prog 75 #[v] w fun e' w' => ∃ A c, e' = .returned (.slice A (s.ts.flatMap Nt.sh).length c) ∧ Sl w' w'.heap.size A ((s.ts.flatMap Nt.sh).map (Value.int .i64)) ∧ (s.ts.flatMap Nt.sh).length ≤ c ∧ c ≤ maxLen ∧ Below w.heap.size w w' := by
  have hS0 := hS
  obtain ⟨Ab, cb, An, cn, rfl, hB, hN, hcb, hmb, hcn, hmn⟩ := hS.ex
  clear hS
  have HB : Below w.heap.size w (w.alloc (.cells #[.int .i64 s.nb, .int .i64 s.nn, .int .i64 s.ns, .slice Ab s.bs.length cb, .slice An s.ts.length cn] 25)) := ((Below.refl w.heap.size w).alloc (by first | (simp; done) | (simp; omega)) _)
  have B1 : Blk (w.alloc (.cells #[.int .i64 s.nb, .int .i64 s.nn, .int .i64 s.ns, .slice Ab s.bs.length cb, .slice An s.ts.length cn] 25)) w.heap.size 25 #[.int .i64 s.nb, .int .i64 s.nn, .int .i64 s.ns, .slice Ab s.bs.length cb, .slice An s.ts.length cn] := Blk.new_ w 25 #[.int .i64 s.nb, .int .i64 s.nn, .int .i64 s.ns, .slice Ab s.bs.length cb, .slice An s.ts.length cn]
  obtain ⟨es, hel, hse, hnt⟩ := hN.ex
  obtain ⟨n, hn⟩ : ∃ n, s.ts.length = n := ⟨_, rfl⟩
  have HN := Lib.hid hn
  clear hn
  obtain ⟨W, hW⟩ : ∃ V : World, V = (w.alloc (.cells #[.int .i64 s.nb, .int .i64 s.nn, .int .i64 s.ns, .slice Ab s.bs.length cb, .slice An s.ts.length cn] 25)) := ⟨_, rfl⟩
  have hlw : w.heap.size < W.heap.size := by rw [hW]; simp
  have HLL := Lib.hid hlL
  go_enter Tryz.func75, Tryz.ntmps75
  go_upto_region 1 with fail
  rw [← hW] at HB B1 ⊢
  clear hW hS0 hB
  have k4 := B1.cell_ 4
  simp at k4
  rw [HN.out] at k4 hln
  go_wp2_with fail
  go_loopw [3, 4] (fun sv iv wr => ∃ k : Nat, k ≤ n ∧ iv = .int .i64 k ∧ Hid (wr.ownsRow W.heap.size 3 1 sv ((s.ts.take k).flatMap Nt.sh).length (((s.ts.take k).flatMap Nt.sh).map (Value.int .i64))) ∧ Below w.heap.size w wr ∧ wr.cell? ⟨w.heap.size, 4, none⟩ = some (.slice An n cn) ∧ W.heap.size ≤ wr.heap.size) (fun _ iv _ => n - (intOf iv).toNat)
  case atStart => exact ⟨0, by omega, rfl, Lib.hid (World.ownsRow_nil _ _ _ _), HB, k4, Nat.le_refl _⟩
  case round =>
    clear k4 HB B1
    obtain ⟨k, hk, rfl, HR, HBr, k4, hsz⟩ := hrel
    by_cases hlt : k < n
    · have hlx : k < s.ts.length := by have := HN.out; omega
      have i0 : (0 : Int) ≤ (k : Int) := by omega
      have i1 : (k : Int) < (n : Int) := by omega
      obtain ⟨y, hx⟩ : ∃ y, s.ts[k]? = some y := ⟨_, List.getElem?_eq_getElem hlx⟩
      obtain ⟨e0, he⟩ : ∃ e, es[k]? = some e := ⟨_, List.getElem?_eq_getElem (by have := HN.out; omega)⟩
      obtain ⟨At, ct, As, cs, rfl, hAt, hAs, -⟩ := (hnt k y e0 hx he).ex
      obtain ⟨b1, o1, rfl, l1, q1⟩ := hse.at_ (by have := HN.out; omega)
      have y4 : wr.cell? ⟨b1, o1 + k * 5 + 4, none⟩ = some (.slice As y.sh.length cs) := (HBr.cell (p := ⟨b1, _, none⟩) l1).trans (q1 k _ he 4 _ rfl)
      obtain ⟨L, hL⟩ : ∃ L, (s.ts.take k).flatMap Nt.sh = L := ⟨_, rfl⟩
      have hLn : (s.ts.take (k + 1)).flatMap Nt.sh = L ++ y.sh := by rw [List.take_add_one, hx, List.flatMap_append, hL]; simp
      have hsub : (L ++ y.sh).length ≤ 100000 := by
        rw [← hLn]
        exact Nat.le_trans (flat_sub (List.take_sublist _ _)).length_le HLL.out
      rw [List.length_append] at hsub
      rw [hL] at HR
      have hon := HR.out
      have hAs2 := (hAs.below HBr).mono_ HBr.size
      have o2 : ∀ u ∈ y.sh.map (Value.int .i64), u.oneCell' = true := fun u hu => by obtain ⟨x, _, rfl⟩ := List.mem_map.1 hu; rfl
      have HLN := Lib.hid hLn
      have hrow := World.ownsRow.lt hon
      have HROW := Lib.hid hrow
      clear hx he q1 hL hLn hlx HR hrow hAs hAt
      go_wp2_with (at_builtin; obtain ⟨ti0, hi, hz0, hz1, hz2⟩ := info_parts info_clInt; refine wpList_app _ rfl (.tmp 12) (.tmp 18) _ rfl W.heap.size 3 ti0 _ 1 8 Tryz.underlying44 hi hz0 hz1 hz2 rfl (by decide) _ L.length (L.map (Value.int .i64)) rfl hon As y.sh.length cs (y.sh.map (Value.int .i64)) rfl (Rd.of_sl hAs2 (by rw [List.length_map])) o2 (by unfold maxLen; omega) (by omega) hsz ?_; intro v' w' ho' hg' hv'; clear hi hz0 hz1 hz2 hv')
      have hk4 := hg'.cell k4 (fun h => by have h2 : W.heap.size ≤ w.heap.size ∧ w.heap.size < wr.heap.size := HROW.out _ h.symm; omega)
      have HF : Below w.heap.size w w' := HBr.grown hg' HBr.size (fun g h => by have := HROW.out g h; omega)
      have hsz2 := Nat.le_trans hsz hg'.size
      have HR2 : Hid (w'.ownsRow W.heap.size 3 1 v' ((s.ts.take (k + 1)).flatMap Nt.sh).length (((s.ts.take (k + 1)).flatMap Nt.sh).map (Value.int .i64))) := Lib.hid (by rw [HLN.out, List.length_append, List.map_append]; exact ho')
      clear ho' hg' hon y4 HROW hAs2
      go_roundw
      case rel => exact ⟨k + 1, by omega, by go_num, HR2, HF, hk4, hsz2⟩
      case measure => simp [intOf]; omega
    · have hjn : k = n := by omega
      subst hjn
      have hfull : (s.ts.take k).flatMap Nt.sh = s.ts.flatMap Nt.sh := by rw [List.take_of_length_le (by rw [HN.out]; exact Nat.le_refl _)]
      rw [hfull] at HR
      obtain ⟨A9, c9, rfl, h9, h10⟩ := own_shape HR.out
      go_wp2_with fail
      go_ret
      exact ⟨A9, c9, rfl, Sl.of_own HR.out, h9, h10, HBr⟩
theorem leq_not {p c : ByteArray} (h : lessS p c = false) : (Op.bytesLess c.toList p.toList || c.toList == p.toList) = true := by
  cases h1 : Op.bytesLess c.toList p.toList
  · have h2 : ¬ Lib.compareBytes c.data.toList p.data.toList < 0 := by
      rw [cmp_less, ByteArray.toList_eq, ByteArray.toList_eq] at h1
      exact of_decide_eq_false h1
    have h3 : ¬ Lib.compareBytes p.data.toList c.data.toList < 0 := by
      unfold lessS at h
      rw [cmp_less, ByteArray.toList_eq, ByteArray.toList_eq] at h
      exact of_decide_eq_false h
    rw [ByteArray.toList_eq, ByteArray.toList_eq, cmp_tri _ _ h2 h3]
    simp
  · rfl
def tgOk (l : List ByteArray) (k : Nat) : Bool := match l[k]? with
  | some t => mayN t && (match k with
    | 0 => true
    | j + 1 => match l[j]? with
      | some p => lessS p t
      | none => true)
  | none => true
theorem lt_not {p c : ByteArray} (h : lessS p c = true) : Op.bytesLess c.toList p.toList = false ∧ (c.toList == p.toList) = false := by
  constructor
  · cases h2 : Op.bytesLess c.toList p.toList
    · rfl
    · unfold lessS at h
      rw [cmp_less] at h h2
      exact absurd (cmpB_trans _ _ _ (of_decide_eq_true h) (of_decide_eq_true h2)) (by rw [cmpB_refl]; decide)
  · rw [beq_eq_false_iff_ne]
    intro he
    unfold lessS at h
    rw [he, less_irr] at h
    cases h
theorem rtags_any (l : List ByteArray) (A : Option Addr) (cp : Nat) (w : World) (hS : Sl w w.heap.size A (l.map strV)) (hsz : ∀ t ∈ l, t.size ≤ 100000) (hl : l.length ≤ 100000) (T : Bool) (hB : mayTg l = T) :
    Calls Tryz.prog 74 #[.slice A l.length cp] w fun e' w' => e' = .returned (.bool T) ∧ Below w.heap.size w w' := by
  obtain ⟨n, hn⟩ : ∃ n, l.length = n := ⟨_, rfl⟩
  rw [hn] at hl ⊢
  unfold mayTg at hB
  rw [hn] at hB
  have HB0 : Below w.heap.size w w := Below.refl _ _
  have HN := Lib.hid hn
  have HSZ := Lib.hid hsz
  clear hn hsz
  by_cases h4 : n ≤ 4
  · rw [decide_eq_true h4, Bool.true_and] at hB
    have HTG : Hid (tagsFrom (prevT l 0) (l.drop 0) = T) := Lib.hid (by rw [List.drop_zero]; exact hB)
    have g4 : (n : Int) ≤ 4 := by omega
    clear hB
    go_enter Tryz.func74, Tryz.ntmps74
    go_wp2_with fail
    go_loopw [3] (fun i wr => ∃ k : Nat, k ≤ n ∧ i = .int .i64 k ∧ Hid (tagsFrom (prevT l k) (l.drop k) = T) ∧ Below w.heap.size w wr) (fun i _ => n - (intOf i).toNat)
    case atStart => exact ⟨0, by omega, rfl, HTG, HB0⟩
    case round =>
      clear HB0 HTG
      obtain ⟨k, hk, rfl, HK, HBr⟩ := hrel
      by_cases hlt : k < n
      · have hlx : k < l.length := by have := HN.out; omega
        obtain ⟨b1, o1, rfl, l1, q1⟩ := hS.at_ (by rw [List.length_map]; omega)
        obtain ⟨t, ht0⟩ : ∃ t, l[k]? = some t := ⟨_, List.getElem?_eq_getElem hlx⟩
        have cx : wr.cell? ⟨b1, o1 + k, none⟩ = some (.string t) := (HBr.cell (p := ⟨b1, o1 + k, none⟩) l1).trans (q1 k (.string t) (by rw [List.getElem?_map, ht0]; rfl))
        have ht := HSZ.out t (List.mem_of_getElem? ht0)
        have i0 : (0 : Int) ≤ (k : Int) := by omega
        have i1 : (k : Int) < (n : Int) := by omega
        have HT0 := Lib.hid ht0
        have HQ1 := Lib.hid q1
        obtain ⟨N, hN⟩ : ∃ N, mayN t = N := ⟨_, rfl⟩
        have HNM : Hid (nameB t.data.toList = N) := Lib.hid hN
        clear ht0 q1 hlx
        rcases (by omega : k = 0 ∨ 0 < k) with hk0 | hk0
        · have HST : Hid (T = (N && tagsFrom (prevT l (k + 1)) (l.drop (k + 1)))) := Lib.hid (by
            have h1 := HK.out
            have h2 := HT0.out
            subst hk0
            rw [tags_first h2, hN] at h1
            exact h1.symm)
          have hdk : decide (0 < k) = false := decide_eq_false (by omega)
          have QD : wr.drew.cell? ⟨b1, o1 + k, none⟩ = some (.string t) := drew_cell cx
          clear hk0 hN
          go_upto_region 4 with fail
          cases N
          · have HTT : Hid (T = false) := Lib.hid HST.out
            refine wp_region_noPanic ?_
            refine wp_region_held_drew (S := (fun w_ => w_.cell? ⟨b1, o1 + k, none⟩ = some (.string t))) (by kernel_rfl) ?_ (fun hHeld => ?_)
            · (first | with_reducible exact QD | with_reducible assumption)
            refine tk 0 ⟨some 15, .move (.tmp 0), 43, "ref.go:31", #[], none⟩ ?_; try simp only [Act.put, pz1, pz2, pz3]
            refine tk 1 ⟨some 16, .move (.tmp 3), 3, "ref.go:31", #[], none⟩ ?_; try simp only [Act.put, pz1, pz2, pz3]
            refine tk 2 ⟨some 17, .indexAddr 43 (.tmp 15) (.tmp 16), 0, "ref.go:31", #[⟨0, .data⟩, ⟨1, .data⟩], none⟩ ?_; try simp only [Act.put, pz1, pz2, pz3]
            refine tk 3 ⟨some 18, .load 9 (.tmp 17), 9, "ref.go:31", #[⟨2, .data⟩], none⟩ ?_; try simp only [Act.put, pz1, pz2, pz3]
            refine wpAnyH_ready (rs := [4]) (by kernel_rfl) (by simp) ?_
            refine AllReadyH.cons (o := ⟨some 19, .call { callee := .value (.func 73), args := #[.tmp 18], argTypes := #[9] }, 4, "ref.go:31", #[⟨3, .data⟩], none⟩) rfl (fun K hK => ?_) AllReadyH.nil
            go_simp
            (go_at_call 73; ((with_reducible refine (rmay_any3 t _ _ ht HNM.out).mono ?_); rintro e' wN ⟨rfl, rfl⟩))
            go_wp2_with fail
            refine hK.out _ _ ?_ (fun hNew => ?_)
            · (first | with_reducible exact QD | with_reducible assumption)
            clear hK K hHeld
            have hHeld := hNew
            clear hNew
            try simp only [Act.put, pz1, pz2, pz3]
            refine tk 5 ⟨some 20, .unOp .not 4 (.tmp 19), 4, "ref.go:31", #[⟨4, .data⟩], none⟩ ?_; try simp only [Act.put, pz1, pz2, pz3]
            refine tk 6 ⟨some 21, .move (.tmp 20), 4, "ref.go:31", #[⟨5, .data⟩, ⟨4, .chain⟩], none⟩ ?_; try simp only [Act.put, pz1, pz2, pz3]
            refine tu 7 ⟨some 22, .move (.tmp 3), 3, "ref.go:31", #[⟨6, .guard⟩], some (6, false)⟩ ?_
            try simp only [Act.put, pz1, pz2, pz3]
            refine tu 8 ⟨some 23, .binOp .gtr 3 (.tmp 22) (.const (.int .i64 0)) 3, 4, "ref.go:31", #[⟨7, .data⟩, ⟨6, .guard⟩], some (6, false)⟩ ?_
            try simp only [Act.put, pz1, pz2, pz3]
            refine tu 9 ⟨some 24, .move (.tmp 23), 4, "ref.go:31", #[⟨8, .data⟩, ⟨6, .chain⟩, ⟨6, .guard⟩], some (6, false)⟩ ?_
            try simp only [Act.put, pz1, pz2, pz3]
            refine tu 10 ⟨some 25, .move (.tmp 0), 43, "ref.go:31", #[⟨9, .guard⟩], some (9, true)⟩ ?_
            try simp only [Act.put, pz1, pz2, pz3]
            refine tu 11 ⟨some 26, .move (.tmp 3), 3, "ref.go:31", #[⟨9, .guard⟩], some (9, true)⟩ ?_
            try simp only [Act.put, pz1, pz2, pz3]
            refine tu 12 ⟨some 27, .indexAddr 43 (.tmp 25) (.tmp 26), 0, "ref.go:31", #[⟨10, .data⟩, ⟨11, .data⟩, ⟨9, .guard⟩], some (9, true)⟩ ?_
            try simp only [Act.put, pz1, pz2, pz3]
            refine tu 13 ⟨some 28, .load 9 (.tmp 27), 9, "ref.go:31", #[⟨12, .data⟩, ⟨9, .guard⟩], some (9, true)⟩ ?_
            try simp only [Act.put, pz1, pz2, pz3]
            refine tu 14 ⟨some 29, .move (.tmp 0), 43, "ref.go:31", #[⟨9, .guard⟩], some (9, true)⟩ ?_
            try simp only [Act.put, pz1, pz2, pz3]
            refine tu 15 ⟨some 30, .move (.tmp 3), 3, "ref.go:31", #[⟨9, .guard⟩], some (9, true)⟩ ?_
            try simp only [Act.put, pz1, pz2, pz3]
            refine tu 16 ⟨some 31, .binOp .sub 3 (.tmp 30) (.const (.int .i64 1)) 3, 3, "ref.go:31", #[⟨15, .data⟩, ⟨9, .guard⟩], some (9, true)⟩ ?_
            try simp only [Act.put, pz1, pz2, pz3]
            refine tu 17 ⟨some 32, .indexAddr 43 (.tmp 29) (.tmp 31), 0, "ref.go:31", #[⟨14, .data⟩, ⟨16, .data⟩, ⟨9, .guard⟩], some (9, true)⟩ ?_
            try simp only [Act.put, pz1, pz2, pz3]
            refine tu 18 ⟨some 33, .load 9 (.tmp 32), 9, "ref.go:31", #[⟨17, .data⟩, ⟨9, .guard⟩], some (9, true)⟩ ?_
            try simp only [Act.put, pz1, pz2, pz3]
            refine tu 19 ⟨some 34, .binOp .leq 9 (.tmp 28) (.tmp 33) 9, 4, "ref.go:31", #[⟨13, .data⟩, ⟨18, .data⟩, ⟨9, .guard⟩], some (9, true)⟩ ?_
            try simp only [Act.put, pz1, pz2, pz3]
            refine tu 20 ⟨some 35, .pick (.tmp 24) (.tmp 34) (.const (.bool false)), 4, "ref.go:31", #[⟨9, .data⟩, ⟨19, .data⟩, ⟨6, .guard⟩], some (6, false)⟩ ?_
            try simp only [Act.put, pz1, pz2, pz3]
            refine tk 21 ⟨some 36, .pick (.tmp 21) (.const (.bool true)) (.tmp 35), 4, "ref.go:31", #[⟨6, .data⟩, ⟨20, .data⟩], none⟩ ?_; try simp only [Act.put, pz1, pz2, pz3]
            refine wpAnyH_done (by kernel_rfl) ?_ _
            refine NoPanic.normal ?_
            go_wp2_with fail
            go_ret
            exact ⟨by rw [HTT.out]; rfl, (by first | exact HBr | exact drew_below HBr)⟩
          · have HNX : Hid (tagsFrom (prevT l (k + 1)) (l.drop (k + 1)) = T) := Lib.hid (by have := HST.out; rw [Bool.true_and] at this; exact this.symm)
            refine wp_region_noPanic ?_
            refine wp_region_held_drew (S := (fun w_ => w_.cell? ⟨b1, o1 + k, none⟩ = some (.string t))) (by kernel_rfl) ?_ (fun hHeld => ?_)
            · (first | with_reducible exact QD | with_reducible assumption)
            refine tk 0 ⟨some 15, .move (.tmp 0), 43, "ref.go:31", #[], none⟩ ?_; try simp only [Act.put, pz1, pz2, pz3]
            refine tk 1 ⟨some 16, .move (.tmp 3), 3, "ref.go:31", #[], none⟩ ?_; try simp only [Act.put, pz1, pz2, pz3]
            refine tk 2 ⟨some 17, .indexAddr 43 (.tmp 15) (.tmp 16), 0, "ref.go:31", #[⟨0, .data⟩, ⟨1, .data⟩], none⟩ ?_; try simp only [Act.put, pz1, pz2, pz3]
            refine tk 3 ⟨some 18, .load 9 (.tmp 17), 9, "ref.go:31", #[⟨2, .data⟩], none⟩ ?_; try simp only [Act.put, pz1, pz2, pz3]
            refine wpAnyH_ready (rs := [4]) (by kernel_rfl) (by simp) ?_
            refine AllReadyH.cons (o := ⟨some 19, .call { callee := .value (.func 73), args := #[.tmp 18], argTypes := #[9] }, 4, "ref.go:31", #[⟨3, .data⟩], none⟩) rfl (fun K hK => ?_) AllReadyH.nil
            go_simp
            (go_at_call 73; ((with_reducible refine (rmay_any3 t _ _ ht HNM.out).mono ?_); rintro e' wN ⟨rfl, rfl⟩))
            go_wp2_with fail
            refine hK.out _ _ ?_ (fun hNew => ?_)
            · (first | with_reducible exact QD | with_reducible assumption)
            clear hK K hHeld
            have hHeld := hNew
            clear hNew
            try simp only [Act.put, pz1, pz2, pz3]
            refine tk 5 ⟨some 20, .unOp .not 4 (.tmp 19), 4, "ref.go:31", #[⟨4, .data⟩], none⟩ ?_; try simp only [Act.put, pz1, pz2, pz3]
            refine tk 6 ⟨some 21, .move (.tmp 20), 4, "ref.go:31", #[⟨5, .data⟩, ⟨4, .chain⟩], none⟩ ?_; try simp only [Act.put, pz1, pz2, pz3]
            refine tk 7 ⟨some 22, .move (.tmp 3), 3, "ref.go:31", #[⟨6, .guard⟩], some (6, false)⟩ ?_; try simp only [Act.put, pz1, pz2, pz3]
            refine tk 8 ⟨some 23, .binOp .gtr 3 (.tmp 22) (.const (.int .i64 0)) 3, 4, "ref.go:31", #[⟨7, .data⟩, ⟨6, .guard⟩], some (6, false)⟩ ?_; try simp only [Act.put, pz1, pz2, pz3]
            refine tk 9 ⟨some 24, .move (.tmp 23), 4, "ref.go:31", #[⟨8, .data⟩, ⟨6, .chain⟩, ⟨6, .guard⟩], some (6, false)⟩ ?_; try simp only [Act.put, pz1, pz2, pz3]
            refine tu 10 ⟨some 25, .move (.tmp 0), 43, "ref.go:31", #[⟨9, .guard⟩], some (9, true)⟩ ?_
            try simp only [Act.put, pz1, pz2, pz3]
            refine tu 11 ⟨some 26, .move (.tmp 3), 3, "ref.go:31", #[⟨9, .guard⟩], some (9, true)⟩ ?_
            try simp only [Act.put, pz1, pz2, pz3]
            refine tu 12 ⟨some 27, .indexAddr 43 (.tmp 25) (.tmp 26), 0, "ref.go:31", #[⟨10, .data⟩, ⟨11, .data⟩, ⟨9, .guard⟩], some (9, true)⟩ ?_
            try simp only [Act.put, pz1, pz2, pz3]
            refine tu 13 ⟨some 28, .load 9 (.tmp 27), 9, "ref.go:31", #[⟨12, .data⟩, ⟨9, .guard⟩], some (9, true)⟩ ?_
            try simp only [Act.put, pz1, pz2, pz3]
            refine tu 14 ⟨some 29, .move (.tmp 0), 43, "ref.go:31", #[⟨9, .guard⟩], some (9, true)⟩ ?_
            try simp only [Act.put, pz1, pz2, pz3]
            refine tu 15 ⟨some 30, .move (.tmp 3), 3, "ref.go:31", #[⟨9, .guard⟩], some (9, true)⟩ ?_
            try simp only [Act.put, pz1, pz2, pz3]
            refine tu 16 ⟨some 31, .binOp .sub 3 (.tmp 30) (.const (.int .i64 1)) 3, 3, "ref.go:31", #[⟨15, .data⟩, ⟨9, .guard⟩], some (9, true)⟩ ?_
            try simp only [Act.put, pz1, pz2, pz3]
            refine tu 17 ⟨some 32, .indexAddr 43 (.tmp 29) (.tmp 31), 0, "ref.go:31", #[⟨14, .data⟩, ⟨16, .data⟩, ⟨9, .guard⟩], some (9, true)⟩ ?_
            try simp only [Act.put, pz1, pz2, pz3]
            refine tu 18 ⟨some 33, .load 9 (.tmp 32), 9, "ref.go:31", #[⟨17, .data⟩, ⟨9, .guard⟩], some (9, true)⟩ ?_
            try simp only [Act.put, pz1, pz2, pz3]
            refine tu 19 ⟨some 34, .binOp .leq 9 (.tmp 28) (.tmp 33) 9, 4, "ref.go:31", #[⟨13, .data⟩, ⟨18, .data⟩, ⟨9, .guard⟩], some (9, true)⟩ ?_
            try simp only [Act.put, pz1, pz2, pz3]
            refine tk 20 ⟨some 35, .pick (.tmp 24) (.tmp 34) (.const (.bool false)), 4, "ref.go:31", #[⟨9, .data⟩, ⟨19, .data⟩, ⟨6, .guard⟩], some (6, false)⟩ ?_; try simp only [Act.put, pz1, pz2, pz3]
            refine tk 21 ⟨some 36, .pick (.tmp 21) (.const (.bool true)) (.tmp 35), 4, "ref.go:31", #[⟨6, .data⟩, ⟨20, .data⟩], none⟩ ?_; try simp only [Act.put, pz1, pz2, pz3]
            refine wpAnyH_done (by kernel_rfl) ?_ _
            refine NoPanic.normal ?_
            go_wp2_with fail
            go_roundw
            case rel => exact ⟨k + 1, by omega, by go_num, HNX, (by first | exact HBr | exact drew_below HBr)⟩
            case measure => simp [intOf]; omega
        · obtain ⟨j, hj⟩ : ∃ j, k = j + 1 := ⟨k - 1, by omega⟩
          obtain ⟨p, hp0⟩ : ∃ p, l[j]? = some p := ⟨_, List.getElem?_eq_getElem (by have := HN.out; omega)⟩
          have cy : wr.cell? ⟨b1, o1 + j, none⟩ = some (.string p) := (HBr.cell (p := ⟨b1, o1 + j, none⟩) l1).trans (HQ1.out j (.string p) (by rw [List.getElem?_map, hp0]; rfl))
          obtain ⟨LS, hLS⟩ : ∃ b, lessS p t = b := ⟨_, rfl⟩
          have HST : Hid (T = (N && (LS && tagsFrom (prevT l (k + 1)) (l.drop (k + 1))))) := Lib.hid (by
            have h1 := HK.out
            have h2 := HT0.out
            subst hj
            rw [tags_next h2 hp0, hN, hLS] at h1
            exact h1.symm)
          have j00 : (0 : Int) ≤ (j : Int) := by omega
          have j01 : (j : Int) < (n : Int) := by omega
          have jsub : (k : Int) - 1 = (j : Int) := by omega
          have jwr : IntKind.i64.wrap (j : Int) = (j : Int) := wrapS _ (by omega) (by omega)
          have QD : wr.drew.cell? ⟨b1, o1 + k, none⟩ = some (.string t) ∧ wr.drew.cell? ⟨b1, o1 + j, none⟩ = some (.string p) := ⟨drew_cell cx, drew_cell cy⟩
          clear hj hp0 hN
          go_upto_region 4 with fail
          cases N
          · have HTT : Hid (T = false) := Lib.hid HST.out
            refine wp_region_noPanic ?_
            refine wp_region_held_drew (S := (fun w_ => w_.cell? ⟨b1, o1 + k, none⟩ = some (.string t) ∧ w_.cell? ⟨b1, o1 + j, none⟩ = some (.string p))) (by kernel_rfl) ?_ (fun hHeld => ?_)
            · (first | with_reducible exact QD | with_reducible assumption)
            refine tk 0 ⟨some 15, .move (.tmp 0), 43, "ref.go:31", #[], none⟩ ?_; try simp only [Act.put, pz1, pz2, pz3]
            refine tk 1 ⟨some 16, .move (.tmp 3), 3, "ref.go:31", #[], none⟩ ?_; try simp only [Act.put, pz1, pz2, pz3]
            refine tk 2 ⟨some 17, .indexAddr 43 (.tmp 15) (.tmp 16), 0, "ref.go:31", #[⟨0, .data⟩, ⟨1, .data⟩], none⟩ ?_; try simp only [Act.put, pz1, pz2, pz3]
            refine tk 3 ⟨some 18, .load 9 (.tmp 17), 9, "ref.go:31", #[⟨2, .data⟩], none⟩ ?_; try simp only [Act.put, pz1, pz2, pz3]
            refine wpAnyH_ready (rs := [4]) (by kernel_rfl) (by simp) ?_
            refine AllReadyH.cons (o := ⟨some 19, .call { callee := .value (.func 73), args := #[.tmp 18], argTypes := #[9] }, 4, "ref.go:31", #[⟨3, .data⟩], none⟩) rfl (fun K hK => ?_) AllReadyH.nil
            go_simp
            (go_at_call 73; ((with_reducible refine (rmay_any3 t _ _ ht HNM.out).mono ?_); rintro e' wN ⟨rfl, rfl⟩))
            go_wp2_with fail
            refine hK.out _ _ ?_ (fun hNew => ?_)
            · (first | with_reducible exact QD | with_reducible assumption)
            clear hK K hHeld
            have hHeld := hNew
            clear hNew
            try simp only [Act.put, pz1, pz2, pz3]
            refine tk 5 ⟨some 20, .unOp .not 4 (.tmp 19), 4, "ref.go:31", #[⟨4, .data⟩], none⟩ ?_; try simp only [Act.put, pz1, pz2, pz3]
            refine tk 6 ⟨some 21, .move (.tmp 20), 4, "ref.go:31", #[⟨5, .data⟩, ⟨4, .chain⟩], none⟩ ?_; try simp only [Act.put, pz1, pz2, pz3]
            refine tu 7 ⟨some 22, .move (.tmp 3), 3, "ref.go:31", #[⟨6, .guard⟩], some (6, false)⟩ ?_
            try simp only [Act.put, pz1, pz2, pz3]
            refine tu 8 ⟨some 23, .binOp .gtr 3 (.tmp 22) (.const (.int .i64 0)) 3, 4, "ref.go:31", #[⟨7, .data⟩, ⟨6, .guard⟩], some (6, false)⟩ ?_
            try simp only [Act.put, pz1, pz2, pz3]
            refine tu 9 ⟨some 24, .move (.tmp 23), 4, "ref.go:31", #[⟨8, .data⟩, ⟨6, .chain⟩, ⟨6, .guard⟩], some (6, false)⟩ ?_
            try simp only [Act.put, pz1, pz2, pz3]
            refine tu 10 ⟨some 25, .move (.tmp 0), 43, "ref.go:31", #[⟨9, .guard⟩], some (9, true)⟩ ?_
            try simp only [Act.put, pz1, pz2, pz3]
            refine tu 11 ⟨some 26, .move (.tmp 3), 3, "ref.go:31", #[⟨9, .guard⟩], some (9, true)⟩ ?_
            try simp only [Act.put, pz1, pz2, pz3]
            refine tu 12 ⟨some 27, .indexAddr 43 (.tmp 25) (.tmp 26), 0, "ref.go:31", #[⟨10, .data⟩, ⟨11, .data⟩, ⟨9, .guard⟩], some (9, true)⟩ ?_
            try simp only [Act.put, pz1, pz2, pz3]
            refine tu 13 ⟨some 28, .load 9 (.tmp 27), 9, "ref.go:31", #[⟨12, .data⟩, ⟨9, .guard⟩], some (9, true)⟩ ?_
            try simp only [Act.put, pz1, pz2, pz3]
            refine tu 14 ⟨some 29, .move (.tmp 0), 43, "ref.go:31", #[⟨9, .guard⟩], some (9, true)⟩ ?_
            try simp only [Act.put, pz1, pz2, pz3]
            refine tu 15 ⟨some 30, .move (.tmp 3), 3, "ref.go:31", #[⟨9, .guard⟩], some (9, true)⟩ ?_
            try simp only [Act.put, pz1, pz2, pz3]
            refine tu 16 ⟨some 31, .binOp .sub 3 (.tmp 30) (.const (.int .i64 1)) 3, 3, "ref.go:31", #[⟨15, .data⟩, ⟨9, .guard⟩], some (9, true)⟩ ?_
            try simp only [Act.put, pz1, pz2, pz3]
            refine tu 17 ⟨some 32, .indexAddr 43 (.tmp 29) (.tmp 31), 0, "ref.go:31", #[⟨14, .data⟩, ⟨16, .data⟩, ⟨9, .guard⟩], some (9, true)⟩ ?_
            try simp only [Act.put, pz1, pz2, pz3]
            refine tu 18 ⟨some 33, .load 9 (.tmp 32), 9, "ref.go:31", #[⟨17, .data⟩, ⟨9, .guard⟩], some (9, true)⟩ ?_
            try simp only [Act.put, pz1, pz2, pz3]
            refine tu 19 ⟨some 34, .binOp .leq 9 (.tmp 28) (.tmp 33) 9, 4, "ref.go:31", #[⟨13, .data⟩, ⟨18, .data⟩, ⟨9, .guard⟩], some (9, true)⟩ ?_
            try simp only [Act.put, pz1, pz2, pz3]
            refine tu 20 ⟨some 35, .pick (.tmp 24) (.tmp 34) (.const (.bool false)), 4, "ref.go:31", #[⟨9, .data⟩, ⟨19, .data⟩, ⟨6, .guard⟩], some (6, false)⟩ ?_
            try simp only [Act.put, pz1, pz2, pz3]
            refine tk 21 ⟨some 36, .pick (.tmp 21) (.const (.bool true)) (.tmp 35), 4, "ref.go:31", #[⟨6, .data⟩, ⟨20, .data⟩], none⟩ ?_; try simp only [Act.put, pz1, pz2, pz3]
            refine wpAnyH_done (by kernel_rfl) ?_ _
            refine NoPanic.normal ?_
            go_wp2_with fail
            go_ret
            exact ⟨by rw [HTT.out]; rfl, (by first | exact HBr | exact drew_below HBr)⟩
          · cases LS
            · have HTT : Hid (T = false) := Lib.hid HST.out
              have hle := leq_not hLS
              clear hLS
              refine wp_region_noPanic ?_
              refine wp_region_held_drew (S := (fun w_ => w_.cell? ⟨b1, o1 + k, none⟩ = some (.string t) ∧ w_.cell? ⟨b1, o1 + j, none⟩ = some (.string p))) (by kernel_rfl) ?_ (fun hHeld => ?_)
              · (first | with_reducible exact QD | with_reducible assumption)
              refine tk 0 ⟨some 15, .move (.tmp 0), 43, "ref.go:31", #[], none⟩ ?_; try simp only [Act.put, pz1, pz2, pz3]
              refine tk 1 ⟨some 16, .move (.tmp 3), 3, "ref.go:31", #[], none⟩ ?_; try simp only [Act.put, pz1, pz2, pz3]
              refine tk 2 ⟨some 17, .indexAddr 43 (.tmp 15) (.tmp 16), 0, "ref.go:31", #[⟨0, .data⟩, ⟨1, .data⟩], none⟩ ?_; try simp only [Act.put, pz1, pz2, pz3]
              refine tk 3 ⟨some 18, .load 9 (.tmp 17), 9, "ref.go:31", #[⟨2, .data⟩], none⟩ ?_; try simp only [Act.put, pz1, pz2, pz3]
              refine wpAnyH_ready (rs := [4]) (by kernel_rfl) (by simp) ?_
              refine AllReadyH.cons (o := ⟨some 19, .call { callee := .value (.func 73), args := #[.tmp 18], argTypes := #[9] }, 4, "ref.go:31", #[⟨3, .data⟩], none⟩) rfl (fun K hK => ?_) AllReadyH.nil
              go_simp
              (go_at_call 73; ((with_reducible refine (rmay_any3 t _ _ ht HNM.out).mono ?_); rintro e' wN ⟨rfl, rfl⟩))
              go_wp2_with fail
              refine hK.out _ _ ?_ (fun hNew => ?_)
              · (first | with_reducible exact QD | with_reducible assumption)
              clear hK K hHeld
              have hHeld := hNew
              clear hNew
              try simp only [Act.put, pz1, pz2, pz3]
              refine tk 5 ⟨some 20, .unOp .not 4 (.tmp 19), 4, "ref.go:31", #[⟨4, .data⟩], none⟩ ?_; try simp only [Act.put, pz1, pz2, pz3]
              refine tk 6 ⟨some 21, .move (.tmp 20), 4, "ref.go:31", #[⟨5, .data⟩, ⟨4, .chain⟩], none⟩ ?_; try simp only [Act.put, pz1, pz2, pz3]
              refine tk 7 ⟨some 22, .move (.tmp 3), 3, "ref.go:31", #[⟨6, .guard⟩], some (6, false)⟩ ?_; try simp only [Act.put, pz1, pz2, pz3]
              refine tk 8 ⟨some 23, .binOp .gtr 3 (.tmp 22) (.const (.int .i64 0)) 3, 4, "ref.go:31", #[⟨7, .data⟩, ⟨6, .guard⟩], some (6, false)⟩ ?_; try simp only [Act.put, pz1, pz2, pz3]
              refine tk 9 ⟨some 24, .move (.tmp 23), 4, "ref.go:31", #[⟨8, .data⟩, ⟨6, .chain⟩, ⟨6, .guard⟩], some (6, false)⟩ ?_; try simp only [Act.put, pz1, pz2, pz3]
              refine tk 10 ⟨some 25, .move (.tmp 0), 43, "ref.go:31", #[⟨9, .guard⟩], some (9, true)⟩ ?_; try simp only [Act.put, pz1, pz2, pz3]
              refine tk 11 ⟨some 26, .move (.tmp 3), 3, "ref.go:31", #[⟨9, .guard⟩], some (9, true)⟩ ?_; try simp only [Act.put, pz1, pz2, pz3]
              refine tk 12 ⟨some 27, .indexAddr 43 (.tmp 25) (.tmp 26), 0, "ref.go:31", #[⟨10, .data⟩, ⟨11, .data⟩, ⟨9, .guard⟩], some (9, true)⟩ ?_; try simp only [Act.put, pz1, pz2, pz3]
              refine tk 13 ⟨some 28, .load 9 (.tmp 27), 9, "ref.go:31", #[⟨12, .data⟩, ⟨9, .guard⟩], some (9, true)⟩ ?_; try simp only [Act.put, pz1, pz2, pz3]
              refine tk 14 ⟨some 29, .move (.tmp 0), 43, "ref.go:31", #[⟨9, .guard⟩], some (9, true)⟩ ?_; try simp only [Act.put, pz1, pz2, pz3]
              refine tk 15 ⟨some 30, .move (.tmp 3), 3, "ref.go:31", #[⟨9, .guard⟩], some (9, true)⟩ ?_; try simp only [Act.put, pz1, pz2, pz3]
              refine tk 16 ⟨some 31, .binOp .sub 3 (.tmp 30) (.const (.int .i64 1)) 3, 3, "ref.go:31", #[⟨15, .data⟩, ⟨9, .guard⟩], some (9, true)⟩ ?_; try simp only [Act.put, pz1, pz2, pz3]
              refine tk 17 ⟨some 32, .indexAddr 43 (.tmp 29) (.tmp 31), 0, "ref.go:31", #[⟨14, .data⟩, ⟨16, .data⟩, ⟨9, .guard⟩], some (9, true)⟩ ?_; try simp only [Act.put, pz1, pz2, pz3]
              refine tk 18 ⟨some 33, .load 9 (.tmp 32), 9, "ref.go:31", #[⟨17, .data⟩, ⟨9, .guard⟩], some (9, true)⟩ ?_; try simp only [Act.put, pz1, pz2, pz3]
              refine tk 19 ⟨some 34, .binOp .leq 9 (.tmp 28) (.tmp 33) 9, 4, "ref.go:31", #[⟨13, .data⟩, ⟨18, .data⟩, ⟨9, .guard⟩], some (9, true)⟩ ?_; try simp only [Act.put, pz1, pz2, pz3]
              refine tk 20 ⟨some 35, .pick (.tmp 24) (.tmp 34) (.const (.bool false)), 4, "ref.go:31", #[⟨9, .data⟩, ⟨19, .data⟩, ⟨6, .guard⟩], some (6, false)⟩ ?_; try simp only [Act.put, pz1, pz2, pz3]
              refine tk 21 ⟨some 36, .pick (.tmp 21) (.const (.bool true)) (.tmp 35), 4, "ref.go:31", #[⟨6, .data⟩, ⟨20, .data⟩], none⟩ ?_; try simp only [Act.put, pz1, pz2, pz3]
              refine wpAnyH_done (by kernel_rfl) ?_ _
              refine NoPanic.normal ?_
              go_wp2_with fail
              go_ret
              exact ⟨by rw [HTT.out]; rfl, (by first | exact HBr | exact drew_below HBr)⟩
            · have hle := lt_not hLS
              have hA := hle.1
              have hE := hle.2
              clear hLS hle
              have HNX : Hid (tagsFrom (prevT l (k + 1)) (l.drop (k + 1)) = T) := Lib.hid (by have := HST.out; rw [Bool.true_and, Bool.true_and] at this; exact this.symm)
              refine wp_region_noPanic ?_
              refine wp_region_held_drew (S := (fun w_ => w_.cell? ⟨b1, o1 + k, none⟩ = some (.string t) ∧ w_.cell? ⟨b1, o1 + j, none⟩ = some (.string p))) (by kernel_rfl) ?_ (fun hHeld => ?_)
              · (first | with_reducible exact QD | with_reducible assumption)
              refine tk 0 ⟨some 15, .move (.tmp 0), 43, "ref.go:31", #[], none⟩ ?_; try simp only [Act.put, pz1, pz2, pz3]
              refine tk 1 ⟨some 16, .move (.tmp 3), 3, "ref.go:31", #[], none⟩ ?_; try simp only [Act.put, pz1, pz2, pz3]
              refine tk 2 ⟨some 17, .indexAddr 43 (.tmp 15) (.tmp 16), 0, "ref.go:31", #[⟨0, .data⟩, ⟨1, .data⟩], none⟩ ?_; try simp only [Act.put, pz1, pz2, pz3]
              refine tk 3 ⟨some 18, .load 9 (.tmp 17), 9, "ref.go:31", #[⟨2, .data⟩], none⟩ ?_; try simp only [Act.put, pz1, pz2, pz3]
              refine wpAnyH_ready (rs := [4]) (by kernel_rfl) (by simp) ?_
              refine AllReadyH.cons (o := ⟨some 19, .call { callee := .value (.func 73), args := #[.tmp 18], argTypes := #[9] }, 4, "ref.go:31", #[⟨3, .data⟩], none⟩) rfl (fun K hK => ?_) AllReadyH.nil
              go_simp
              (go_at_call 73; ((with_reducible refine (rmay_any3 t _ _ ht HNM.out).mono ?_); rintro e' wN ⟨rfl, rfl⟩))
              go_wp2_with fail
              refine hK.out _ _ ?_ (fun hNew => ?_)
              · (first | with_reducible exact QD | with_reducible assumption)
              clear hK K hHeld
              have hHeld := hNew
              clear hNew
              try simp only [Act.put, pz1, pz2, pz3]
              refine tk 5 ⟨some 20, .unOp .not 4 (.tmp 19), 4, "ref.go:31", #[⟨4, .data⟩], none⟩ ?_; try simp only [Act.put, pz1, pz2, pz3]
              refine tk 6 ⟨some 21, .move (.tmp 20), 4, "ref.go:31", #[⟨5, .data⟩, ⟨4, .chain⟩], none⟩ ?_; try simp only [Act.put, pz1, pz2, pz3]
              refine tk 7 ⟨some 22, .move (.tmp 3), 3, "ref.go:31", #[⟨6, .guard⟩], some (6, false)⟩ ?_; try simp only [Act.put, pz1, pz2, pz3]
              refine tk 8 ⟨some 23, .binOp .gtr 3 (.tmp 22) (.const (.int .i64 0)) 3, 4, "ref.go:31", #[⟨7, .data⟩, ⟨6, .guard⟩], some (6, false)⟩ ?_; try simp only [Act.put, pz1, pz2, pz3]
              refine tk 9 ⟨some 24, .move (.tmp 23), 4, "ref.go:31", #[⟨8, .data⟩, ⟨6, .chain⟩, ⟨6, .guard⟩], some (6, false)⟩ ?_; try simp only [Act.put, pz1, pz2, pz3]
              refine tk 10 ⟨some 25, .move (.tmp 0), 43, "ref.go:31", #[⟨9, .guard⟩], some (9, true)⟩ ?_; try simp only [Act.put, pz1, pz2, pz3]
              refine tk 11 ⟨some 26, .move (.tmp 3), 3, "ref.go:31", #[⟨9, .guard⟩], some (9, true)⟩ ?_; try simp only [Act.put, pz1, pz2, pz3]
              refine tk 12 ⟨some 27, .indexAddr 43 (.tmp 25) (.tmp 26), 0, "ref.go:31", #[⟨10, .data⟩, ⟨11, .data⟩, ⟨9, .guard⟩], some (9, true)⟩ ?_; try simp only [Act.put, pz1, pz2, pz3]
              refine tk 13 ⟨some 28, .load 9 (.tmp 27), 9, "ref.go:31", #[⟨12, .data⟩, ⟨9, .guard⟩], some (9, true)⟩ ?_; try simp only [Act.put, pz1, pz2, pz3]
              refine tk 14 ⟨some 29, .move (.tmp 0), 43, "ref.go:31", #[⟨9, .guard⟩], some (9, true)⟩ ?_; try simp only [Act.put, pz1, pz2, pz3]
              refine tk 15 ⟨some 30, .move (.tmp 3), 3, "ref.go:31", #[⟨9, .guard⟩], some (9, true)⟩ ?_; try simp only [Act.put, pz1, pz2, pz3]
              refine tk 16 ⟨some 31, .binOp .sub 3 (.tmp 30) (.const (.int .i64 1)) 3, 3, "ref.go:31", #[⟨15, .data⟩, ⟨9, .guard⟩], some (9, true)⟩ ?_; try simp only [Act.put, pz1, pz2, pz3]
              refine tk 17 ⟨some 32, .indexAddr 43 (.tmp 29) (.tmp 31), 0, "ref.go:31", #[⟨14, .data⟩, ⟨16, .data⟩, ⟨9, .guard⟩], some (9, true)⟩ ?_; try simp only [Act.put, pz1, pz2, pz3]
              refine tk 18 ⟨some 33, .load 9 (.tmp 32), 9, "ref.go:31", #[⟨17, .data⟩, ⟨9, .guard⟩], some (9, true)⟩ ?_; try simp only [Act.put, pz1, pz2, pz3]
              refine tk 19 ⟨some 34, .binOp .leq 9 (.tmp 28) (.tmp 33) 9, 4, "ref.go:31", #[⟨13, .data⟩, ⟨18, .data⟩, ⟨9, .guard⟩], some (9, true)⟩ ?_; try simp only [Act.put, pz1, pz2, pz3]
              refine tk 20 ⟨some 35, .pick (.tmp 24) (.tmp 34) (.const (.bool false)), 4, "ref.go:31", #[⟨9, .data⟩, ⟨19, .data⟩, ⟨6, .guard⟩], some (6, false)⟩ ?_; try simp only [Act.put, pz1, pz2, pz3]
              refine tk 21 ⟨some 36, .pick (.tmp 21) (.const (.bool true)) (.tmp 35), 4, "ref.go:31", #[⟨6, .data⟩, ⟨20, .data⟩], none⟩ ?_; try simp only [Act.put, pz1, pz2, pz3]
              refine wpAnyH_done (by kernel_rfl) ?_ _
              refine NoPanic.normal ?_
              go_wp2_with fail
              go_roundw
              case rel => exact ⟨k + 1, by omega, by go_num, HNX, (by first | exact HBr | exact drew_below HBr)⟩
              case measure => simp [intOf]; omega
      · have hjn : k = n := by omega
        subst hjn
        have HTT : Hid (T = true) := Lib.hid (by have := HK.out; rw [← HN.out, tags_end] at this; exact this.symm)
        go_wp2_with fail
        go_ret
        exact ⟨by rw [HTT.out]; rfl, HBr⟩
  · have g4 : ¬ (n : Int) ≤ 4 := by omega
    have HTT : Hid (T = false) := Lib.hid (by rw [← hB, decide_eq_false h4]; rfl)
    clear hB h4
    go_enter Tryz.func74, Tryz.ntmps74
    go_wp2_with fail
    go_loop [3] (fun i => i = .int .i64 0) (fun i => 0)
    case atStart => rfl
    case round =>
      obtain rfl := hrel
      rcases Nat.eq_zero_or_pos n with h0 | h0
      · omega
      · have g0 : (0 : Int) < (n : Int) := by omega
        go_wp2_with fail
        go_ret
        exact ⟨by rw [HTT.out]; show Ending.returned (.bool (decide ((n : Int) ≤ 4))) = _; rw [decide_eq_false (by omega)], HB0⟩
end Go.Proofs.YtokhapafpjejaaaGreatDoor
