/- Drop and Discard. -/
import Derived.Test.YtokhapafpjejaaaGreatDoorSt2
import Derived.Test.YtokhapafpjejaaaGreatDoorSt1
set_option linter.unusedSimpArgs false
set_option linter.unusedVariables false
set_option maxRecDepth 100000
set_option maxHeartbeats 16000000
namespace Go.Proofs.YtokhapafpjejaaaGreatDoor
open Go.ChangeShapes Go.WideShapes Go.ChangeAt Go.RowKit
attribute [local go_sem ↓] Go.wp_at_zero Go.wp_at_succ
theorem zip_fst {α β : Type} : ∀ (a : List α) (b : List β), b.length = a.length → (a.zip b).map Prod.fst = a
  | [], _, _ => by simp
  | x :: a, [], h => by simp at h
  | x :: a, y :: b, h => by rw [List.zip_cons_cons, List.map_cons, zip_fst a b (by simpa using h)]
theorem zip_snd {α β : Type} : ∀ (a : List α) (b : List β), b.length = a.length → (a.zip b).map Prod.snd = b
  | [], b, h => by
    have : b = [] := List.eq_nil_of_length_eq_zero (by simpa using h)
    subst this
    rfl
  | x :: a, [], h => by simp at h
  | x :: a, y :: b, h => by rw [List.zip_cons_cons, List.map_cons, zip_snd a b (by simpa using h)]
theorem filt_fst {α β : Type} (ps : List (α × β)) (p : α → Bool) : (ps.filter fun q => !p q.1).map Prod.fst = (ps.map Prod.fst).filter fun x => !p x := by
  rw [List.filter_map]
  rfl
theorem bs_pairs (bs : List Bk) : (bs.map fun b => (b, bkC b)).map Prod.fst = bs ∧ (bs.map fun b => (b, bkC b)).map Prod.snd = bs.map bkC := by
  constructor
  · rw [List.map_map]
    exact List.map_id' _
  · rw [List.map_map]
    rfl
theorem df_bs (bs : List Bk) (A : Option Addr) (cp : Nat) (x : Int) (g0 base : Nat) (w : World) (c0 : w.cell? ⟨g0, 0, none⟩ = some (.int .i64 x)) (l0 : g0 < w.heap.size) (hg0 : g0 < base) (hbase : base ≤ w.heap.size) (hown : BksW w base (.slice A bs.length cp) bs) (hsm : bs.length ≤ 100000) (T : List Bk) (hT : (bs.filter fun b => !(b.id == x)) = T) :
    Calls Tryz.prog 65 #[.slice A bs.length cp, .func (.func 66) #[] #[.pointer (some ⟨g0, 0, none⟩)]] w fun e' w' => ∃ A2 c2, e' = .returned (.slice A2 T.length c2) ∧ BksW w' base (.slice A2 T.length c2) T ∧ w.grownBy w' (Value.slice A bs.length cp).ownBlock := by
  subst hT
  obtain ⟨e1, e2⟩ := bs_pairs bs
  have hl : (bs.map fun b => (b, bkC b)).length = bs.length := List.length_map _
  have hr : BksIn w w.heap.size A bs := sle_of_own hown (bkC_two _) (by decide)
  have := df_dropB (bs.map fun b => (b, bkC b)) A cp x g0 base w (fun q hq => by obtain ⟨b, _, rfl⟩ := List.mem_map.1 hq; rfl) (by rw [e1]; exact hr) c0 l0 hg0 hbase (by rw [hl, e2]; exact hown) (by rw [hl]; exact hsm)
  have hf : ((bs.map fun b => (b, bkC b)).filter fun q => !(q.1.id == x)).map Prod.fst = bs.filter fun b => !(b.id == x) := by
    rw [filt_fst _ (fun b : Bk => b.id == x), e1]
  have hs : ((bs.map fun b => (b, bkC b)).filter fun q => !(q.1.id == x)).map Prod.snd = (bs.filter fun b => !(b.id == x)).map bkC := by
    rw [← hf, List.map_map]
    apply List.map_congr_left
    intro q hq
    obtain ⟨b, _, rfl⟩ := List.mem_map.1 (List.mem_filter.1 hq).1
    rfl
  have hll : ((bs.map fun b => (b, bkC b)).filter fun q => !(q.1.id == x)).length = (bs.filter fun b => !(b.id == x)).length := by rw [← hf, List.length_map]
  rw [hl] at this
  refine this.mono ?_
  rintro e' w' ⟨A2, c2, h1, h2, h3⟩
  rw [hll] at h1
  rw [hll, hs] at h2
  exact ⟨A2, c2, h1, h2, h3⟩
theorem df_ts (ts : List Nt) (A : Option Addr) (cp : Nat) (x : Int) (g0 base : Nat) (w : World) (c0 : w.cell? ⟨g0, 0, none⟩ = some (.int .i64 x)) (l0 : g0 < w.heap.size) (hg0 : g0 < base) (hbase : base ≤ w.heap.size) (hown : NtsW w base (.slice A ts.length cp) ts) (hsm : ts.length ≤ 100000) (T : List Nt) (hT : (ts.filter fun n => !(n.bk == x)) = T) :
    Calls Tryz.prog 67 #[.slice A ts.length cp, .func (.func 68) #[] #[.pointer (some ⟨g0, 0, none⟩)]] w fun e' w' => ∃ A2 c2, e' = .returned (.slice A2 T.length c2) ∧ NtsW w' base (.slice A2 T.length c2) T ∧ w.grownBy w' (Value.slice A ts.length cp).ownBlock := by
  subst hT
  obtain ⟨es, hel, hon, hnt⟩ := hown
  have h5 := es_five hel hnt
  have e1 := zip_fst ts es hel
  have e2 := zip_snd ts es hel
  have hl : (ts.zip es).length = ts.length := by rw [List.length_zip, hel, Nat.min_self]
  have hr : NtsIn w w.heap.size A ts := ⟨es, hel, sle_of_own hon h5 (by decide), fun k n e a b => (hnt k n e a b).toIn⟩
  have hget : ∀ q ∈ ts.zip es, NtW w base q.1 q.2 := by
    intro q hq
    obtain ⟨k, hk, rfl⟩ := List.mem_iff_getElem.1 hq
    have hk' : k < ts.length := by rw [← hl]; exact hk
    rw [List.getElem_zip]
    exact hnt k _ _ (List.getElem?_eq_getElem hk') (List.getElem?_eq_getElem (by omega))
  have := df_dropN (ts.zip es) A cp x g0 base w (fun q hq => by
    obtain ⟨vt, vs, h, q1, q2⟩ := hget q hq
    obtain ⟨A1, c1, h1, _⟩ := own_shape q1
    obtain ⟨A2, c2, h2, _⟩ := own_shape q2
    exact ⟨vt, vs, h, ⟨A1, _, c1, h1⟩, A2, _, c2, h2⟩) (by rw [e1]; exact hr) c0 l0 hg0 hbase (by rw [hl, e2]; exact hon) (by rw [hl]; exact hsm)
  have hf : ((ts.zip es).filter fun q => !(q.1.bk == x)).map Prod.fst = ts.filter fun n => !(n.bk == x) := by
    rw [filt_fst _ (fun n : Nt => n.bk == x), e1]
  have hll : ((ts.zip es).filter fun q => !(q.1.bk == x)).length = (ts.filter fun n => !(n.bk == x)).length := by rw [← hf, List.length_map]
  rw [hl] at this
  refine this.mono ?_
  rintro e' w' ⟨A2, c2, h1, h2, h3⟩
  rw [hll] at h1
  refine ⟨A2, c2, h1, ⟨((ts.zip es).filter fun q => !(q.1.bk == x)).map Prod.snd, by rw [List.length_map, hll], by rw [hll] at h2; exact h2, fun k n e a b => ?_⟩, h3⟩
  rw [List.getElem?_map] at b
  rw [← hf, List.getElem?_map] at a
  cases hq : ((ts.zip es).filter fun q => !(q.1.bk == x))[k]? with
  | none => rw [hq] at a; cases a
  | some q =>
    rw [hq] at a b
    cases a
    cases b
    exact (hget q ((List.mem_filter.1 (List.mem_of_getElem? hq)).1)).kept hon h3 (by decide) (by decide)
theorem df_dts (ts : List Nt) (A : Option Addr) (cp : Nat) (x : Int) (g0 base : Nat) (w : World) (c0 : w.cell? ⟨g0, 0, none⟩ = some (.int .i64 x)) (l0 : g0 < w.heap.size) (hg0 : g0 < base) (hbase : base ≤ w.heap.size) (hown : NtsW w base (.slice A ts.length cp) ts) (hsm : ts.length ≤ 100000) (T : List Nt) (hT : (ts.filter fun n => !(n.id == x)) = T) :
    Calls Tryz.prog 67 #[.slice A ts.length cp, .func (.func 71) #[] #[.pointer (some ⟨g0, 0, none⟩)]] w fun e' w' => ∃ A2 c2, e' = .returned (.slice A2 T.length c2) ∧ NtsW w' base (.slice A2 T.length c2) T ∧ w.grownBy w' (Value.slice A ts.length cp).ownBlock := by
  subst hT
  obtain ⟨es, hel, hon, hnt⟩ := hown
  have h5 := es_five hel hnt
  have e1 := zip_fst ts es hel
  have e2 := zip_snd ts es hel
  have hl : (ts.zip es).length = ts.length := by rw [List.length_zip, hel, Nat.min_self]
  have hr : NtsIn w w.heap.size A ts := ⟨es, hel, sle_of_own hon h5 (by decide), fun k n e a b => (hnt k n e a b).toIn⟩
  have hget : ∀ q ∈ ts.zip es, NtW w base q.1 q.2 := by
    intro q hq
    obtain ⟨k, hk, rfl⟩ := List.mem_iff_getElem.1 hq
    have hk' : k < ts.length := by rw [← hl]; exact hk
    rw [List.getElem_zip]
    exact hnt k _ _ (List.getElem?_eq_getElem hk') (List.getElem?_eq_getElem (by omega))
  have := df_disc (ts.zip es) A cp x g0 base w (fun q hq => by
    obtain ⟨vt, vs, h, q1, q2⟩ := hget q hq
    obtain ⟨A1, c1, h1, _⟩ := own_shape q1
    obtain ⟨A2, c2, h2, _⟩ := own_shape q2
    exact ⟨vt, vs, h, ⟨A1, _, c1, h1⟩, A2, _, c2, h2⟩) (by rw [e1]; exact hr) c0 l0 hg0 hbase (by rw [hl, e2]; exact hon) (by rw [hl]; exact hsm)
  have hf : ((ts.zip es).filter fun q => !(q.1.id == x)).map Prod.fst = ts.filter fun n => !(n.id == x) := by
    rw [filt_fst _ (fun n : Nt => n.id == x), e1]
  have hll : ((ts.zip es).filter fun q => !(q.1.id == x)).length = (ts.filter fun n => !(n.id == x)).length := by rw [← hf, List.length_map]
  rw [hl] at this
  refine this.mono ?_
  rintro e' w' ⟨A2, c2, h1, h2, h3⟩
  rw [hll] at h1
  refine ⟨A2, c2, h1, ⟨((ts.zip es).filter fun q => !(q.1.id == x)).map Prod.snd, by rw [List.length_map, hll], by rw [hll] at h2; exact h2, fun k n e a b => ?_⟩, h3⟩
  rw [List.getElem?_map] at b
  rw [← hf, List.getElem?_map] at a
  cases hq : ((ts.zip es).filter fun q => !(q.1.id == x))[k]? with
  | none => rw [hq] at a; cases a
  | some q =>
    rw [hq] at a b
    cases a
    cases b
    exact (hget q ((List.mem_filter.1 (List.mem_of_getElem? hq)).1)).kept hon h3 (by decide) (by decide)
theorem BksW.apartN {w w' : World} {base b2 C2 n2 : Nat} {vb v2 : Value} {bs : List Bk} {x2 : List Value} (h : BksW w base vb bs) (h2 : w.ownsRow b2 46 C2 v2 n2 x2) (hg : w.grownBy w' v2.ownBlock) : BksW w' base vb bs := World.ownsRow.kept h hg (own_apart h h2 (by decide))
def dropC (s : Sf) (x : Int) : Int := cond (mayS s) (cond (decide (bookAt s x < 0)) 4 0) 2
def dropS (s : Sf) (x : Int) : Sf := { s with bs := s.bs.filter (fun b => !(b.id == x)), ts := s.ts.filter (fun n => !(n.bk == x)) }
def discC (s : Sf) (x : Int) : Int := cond (mayS s) (cond (decide (noteAt s x < 0)) 4 0) 2
def discS (s : Sf) (x : Int) : Sf := { s with ts := s.ts.filter (fun n => !(n.id == x)) }
theorem drop_no (s : Sf) (v : Value) (x : Int) (w : World) (hS : ShR w w.heap.size v s) (hT : Tabs w) (c : Int) (hc : dropC s x = c) (hne : c ≠ 0) :
    Calls Tryz.prog 33 #[v, .int .i64 x] w fun e' w' => e' = .returned (.tuple #[.agg #[.int .i64 0, .int .i64 0, .int .i64 0, .slice none 0 0, .slice none 0 0], .int .i64 c]) ∧ Below w.heap.size w w' := by
  have hS0 := hS
  obtain ⟨Ab, cb, An, cn, rfl, hB, hN, hcb, hmb, hcn, hmn⟩ := hS.ex
  clear hS
  have HB : Below w.heap.size w (((w.alloc (.cells #[.int .i64 s.nb, .int .i64 s.nn, .int .i64 s.ns, .slice Ab s.bs.length cb, .slice An s.ts.length cn] 25)).alloc (.cells #[.int .i64 x] 3)).alloc (.cells #[.int .i64 0, .int .i64 0, .int .i64 0, .slice none 0 0, .slice none 0 0] 25)) := ((((Below.refl w.heap.size w).alloc (by first | (simp; done) | (simp; omega)) _).alloc (by first | (simp; done) | (simp; omega)) _).alloc (by first | (simp; done) | (simp; omega)) _)
  have B1 : Blk (((w.alloc (.cells #[.int .i64 s.nb, .int .i64 s.nn, .int .i64 s.ns, .slice Ab s.bs.length cb, .slice An s.ts.length cn] 25)).alloc (.cells #[.int .i64 x] 3)).alloc (.cells #[.int .i64 0, .int .i64 0, .int .i64 0, .slice none 0 0, .slice none 0 0] 25)) w.heap.size 25 #[.int .i64 s.nb, .int .i64 s.nn, .int .i64 s.ns, .slice Ab s.bs.length cb, .slice An s.ts.length cn] := ((Blk.new_ w 25 #[.int .i64 s.nb, .int .i64 s.nn, .int .i64 s.ns, .slice Ab s.bs.length cb, .slice An s.ts.length cn]).alloc_ _).alloc_ _
  have B3 : Blk (((w.alloc (.cells #[.int .i64 s.nb, .int .i64 s.nn, .int .i64 s.ns, .slice Ab s.bs.length cb, .slice An s.ts.length cn] 25)).alloc (.cells #[.int .i64 x] 3)).alloc (.cells #[.int .i64 0, .int .i64 0, .int .i64 0, .slice none 0 0, .slice none 0 0] 25)) (w.heap.size + 1) 3 #[.int .i64 x] := by
    have := (Blk.new_ (w.alloc (.cells #[.int .i64 s.nb, .int .i64 s.nn, .int .i64 s.ns, .slice Ab s.bs.length cb, .slice An s.ts.length cn] 25)) 3 #[.int .i64 x]).alloc_ (.cells #[.int .i64 0, .int .i64 0, .int .i64 0, .slice none 0 0, .slice none 0 0] 25)
    simpa using this
  have B2 : Blk (((w.alloc (.cells #[.int .i64 s.nb, .int .i64 s.nn, .int .i64 s.ns, .slice Ab s.bs.length cb, .slice An s.ts.length cn] 25)).alloc (.cells #[.int .i64 x] 3)).alloc (.cells #[.int .i64 0, .int .i64 0, .int .i64 0, .slice none 0 0, .slice none 0 0] 25)) (w.heap.size + 2) 25 #[.int .i64 0, .int .i64 0, .int .i64 0, .slice none 0 0, .slice none 0 0] := by
    have := Blk.new_ ((w.alloc (.cells #[.int .i64 s.nb, .int .i64 s.nn, .int .i64 s.ns, .slice Ab s.bs.length cb, .slice An s.ts.length cn] 25)).alloc (.cells #[.int .i64 x] 3)) 25 #[.int .i64 0, .int .i64 0, .int .i64 0, .slice none 0 0, .slice none 0 0]
    simpa using this
  have S1 : ShR (((w.alloc (.cells #[.int .i64 s.nb, .int .i64 s.nn, .int .i64 s.ns, .slice Ab s.bs.length cb, .slice An s.ts.length cn] 25)).alloc (.cells #[.int .i64 x] 3)).alloc (.cells #[.int .i64 0, .int .i64 0, .int .i64 0, .slice none 0 0, .slice none 0 0] 25)) ((((w.alloc (.cells #[.int .i64 s.nb, .int .i64 s.nn, .int .i64 s.ns, .slice Ab s.bs.length cb, .slice An s.ts.length cn] 25)).alloc (.cells #[.int .i64 x] 3)).alloc (.cells #[.int .i64 0, .int .i64 0, .int .i64 0, .slice none 0 0, .slice none 0 0] 25))).heap.size (.agg #[.int .i64 s.nb, .int .i64 s.nn, .int .i64 s.ns, .slice Ab s.bs.length cb, .slice An s.ts.length cn]) s := hS0.next HB
  have T1 := hT.next HB
  clear hS0 hT hB hN hcb hmb hcn hmn
  obtain ⟨M, hM⟩ : ∃ M, mayS s = M := ⟨_, rfl⟩
  obtain ⟨I, hI⟩ : ∃ I, bookAt s x = I := ⟨_, rfl⟩
  unfold dropC at hc
  rw [hM, hI] at hc
  have HM := Lib.hid hM
  have HI := Lib.hid hI
  clear hM hI
  cases M
  · obtain rfl : c = 2 := hc.symm
    clear hc hne
    go_enter Tryz.func33, Tryz.ntmps33
    go_wp2_with (go_at_call 10; ((with_reducible refine (smay_any s _ _ S1 T1 _ HM.out).mono ?_); rintro e' w3 ⟨rfl, bx⟩; have S1 := S1.next bx; have T1 := T1.next bx; have B1 := B1.below bx B1.lt; have B2 := B2.below bx B2.lt; have B3 := B3.below bx B3.lt; have HB := btr HB HB.size bx; (try clear k0 k1 k2 k3 k4 r0 r1 r2 r3 r4 t0 t1 t2 t3 t4 q0); have k0 := B1.cell_ 0; have r0 := B2.cell_ 0; have t0 := B2.free 0; have k1 := B1.cell_ 1; have r1 := B2.cell_ 1; have t1 := B2.free 1; have k2 := B1.cell_ 2; have r2 := B2.cell_ 2; have t2 := B2.free 2; have k3 := B1.cell_ 3; have r3 := B2.cell_ 3; have t3 := B2.free 3; have k4 := B1.cell_ 4; have r4 := B2.cell_ 4; have t4 := B2.free 4; have q0 := B3.cell_ 0; simp at k0 k1 k2 k3 k4 r0 r1 r2 r3 r4 q0; clear bx))
    have B2u := B2.st5_ (.int .i64 0) (.int .i64 0) (.int .i64 0) (.slice none 0 0) (.slice none 0 0)
    have hb2 := st5_below HB (g := w.heap.size + 2) (by omega) 0 (.int .i64 0) (.int .i64 0) (.int .i64 0) (.slice none 0 0) (.slice none 0 0)
    change bodyPost _ _ _ _ _ (st5 w3 (w.heap.size + 2) 0 (.int .i64 0) (.int .i64 0) (.int .i64 0) (.slice none 0 0) (.slice none 0 0))
    generalize st5 w3 (w.heap.size + 2) 0 (.int .i64 0) (.int .i64 0) (.int .i64 0) (.slice none 0 0) (.slice none 0 0) = Wd at B2u hb2 ⊢
    apply bodyPost_ret (v := .tuple #[.agg #[.int .i64 0, .int .i64 0, .int .i64 0, .slice none 0 0, .slice none 0 0], .int .i64 2])
    · exact results_cell1 Tryz.results33 _ Wd (w.heap.size + 2) 25 #[.int .i64 0, .int .i64 0, .int .i64 0, .slice none 0 0, .slice none 0 0] (0, 0) _ rfl B2u Tryz.underlying25 rfl (by kernel_rfl)
    · rfl
    · exact ⟨rfl, hb2⟩
  · by_cases hi : I < 0
    · obtain rfl : c = 4 := by simpa [hi] using hc.symm
      clear hc hne
      go_enter Tryz.func33, Tryz.ntmps33
      go_wp2_with (first | (go_at_call 10; ((with_reducible refine (smay_any s _ _ S1 T1 _ HM.out).mono ?_); rintro e' w3 ⟨rfl, bx⟩; have S1 := S1.next bx; have T1 := T1.next bx; have B1 := B1.below bx B1.lt; have B2 := B2.below bx B2.lt; have B3 := B3.below bx B3.lt; have HB := btr HB HB.size bx; (try clear k0 k1 k2 k3 k4 r0 r1 r2 r3 r4 t0 t1 t2 t3 t4 q0); have k0 := B1.cell_ 0; have r0 := B2.cell_ 0; have t0 := B2.free 0; have k1 := B1.cell_ 1; have r1 := B2.cell_ 1; have t1 := B2.free 1; have k2 := B1.cell_ 2; have r2 := B2.cell_ 2; have t2 := B2.free 2; have k3 := B1.cell_ 3; have r3 := B2.cell_ 3; have t3 := B2.free 3; have k4 := B1.cell_ 4; have r4 := B2.cell_ 4; have t4 := B2.free 4; have q0 := B3.cell_ 0; simp at k0 k1 k2 k3 k4 r0 r1 r2 r3 r4 q0; clear bx)) | (go_at_call 52; ((with_reducible refine (pBook_any s _ x _ S1).mono ?_); rintro e' w4 ⟨rfl, bx⟩; rw [HI.out]; have S1 := S1.next bx; have T1 := T1.next bx; have B1 := B1.below bx B1.lt; have B2 := B2.below bx B2.lt; have B3 := B3.below bx B3.lt; have HB := btr HB HB.size bx; (try clear k0 k1 k2 k3 k4 r0 r1 r2 r3 r4 t0 t1 t2 t3 t4 q0); have k0 := B1.cell_ 0; have r0 := B2.cell_ 0; have t0 := B2.free 0; have k1 := B1.cell_ 1; have r1 := B2.cell_ 1; have t1 := B2.free 1; have k2 := B1.cell_ 2; have r2 := B2.cell_ 2; have t2 := B2.free 2; have k3 := B1.cell_ 3; have r3 := B2.cell_ 3; have t3 := B2.free 3; have k4 := B1.cell_ 4; have r4 := B2.cell_ 4; have t4 := B2.free 4; have q0 := B3.cell_ 0; simp at k0 k1 k2 k3 k4 r0 r1 r2 r3 r4 q0; clear bx)))
      have B2u := B2.st5_ (.int .i64 0) (.int .i64 0) (.int .i64 0) (.slice none 0 0) (.slice none 0 0)
      have hb2 := st5_below HB (g := w.heap.size + 2) (by omega) 0 (.int .i64 0) (.int .i64 0) (.int .i64 0) (.slice none 0 0) (.slice none 0 0)
      change bodyPost _ _ _ _ _ (st5 w4 (w.heap.size + 2) 0 (.int .i64 0) (.int .i64 0) (.int .i64 0) (.slice none 0 0) (.slice none 0 0))
      generalize st5 w4 (w.heap.size + 2) 0 (.int .i64 0) (.int .i64 0) (.int .i64 0) (.slice none 0 0) (.slice none 0 0) = Wd at B2u hb2 ⊢
      apply bodyPost_ret (v := .tuple #[.agg #[.int .i64 0, .int .i64 0, .int .i64 0, .slice none 0 0, .slice none 0 0], .int .i64 4])
      · exact results_cell1 Tryz.results33 _ Wd (w.heap.size + 2) 25 #[.int .i64 0, .int .i64 0, .int .i64 0, .slice none 0 0, .slice none 0 0] (0, 0) _ rfl B2u Tryz.underlying25 rfl (by kernel_rfl)
      · rfl
      · exact ⟨rfl, hb2⟩
    · exact absurd (by simpa [hi] using hc.symm) hne
theorem disc_no (s : Sf) (v : Value) (x : Int) (w : World) (hS : ShR w w.heap.size v s) (hT : Tabs w) (c : Int) (hc : discC s x = c) (hne : c ≠ 0) :
    Calls Tryz.prog 41 #[v, .int .i64 x] w fun e' w' => e' = .returned (.tuple #[.agg #[.int .i64 0, .int .i64 0, .int .i64 0, .slice none 0 0, .slice none 0 0], .int .i64 c]) ∧ Below w.heap.size w w' := by
  have hS0 := hS
  obtain ⟨Ab, cb, An, cn, rfl, hB, hN, hcb, hmb, hcn, hmn⟩ := hS.ex
  clear hS
  have HB : Below w.heap.size w (((w.alloc (.cells #[.int .i64 s.nb, .int .i64 s.nn, .int .i64 s.ns, .slice Ab s.bs.length cb, .slice An s.ts.length cn] 25)).alloc (.cells #[.int .i64 x] 3)).alloc (.cells #[.int .i64 0, .int .i64 0, .int .i64 0, .slice none 0 0, .slice none 0 0] 25)) := ((((Below.refl w.heap.size w).alloc (by first | (simp; done) | (simp; omega)) _).alloc (by first | (simp; done) | (simp; omega)) _).alloc (by first | (simp; done) | (simp; omega)) _)
  have B1 : Blk (((w.alloc (.cells #[.int .i64 s.nb, .int .i64 s.nn, .int .i64 s.ns, .slice Ab s.bs.length cb, .slice An s.ts.length cn] 25)).alloc (.cells #[.int .i64 x] 3)).alloc (.cells #[.int .i64 0, .int .i64 0, .int .i64 0, .slice none 0 0, .slice none 0 0] 25)) w.heap.size 25 #[.int .i64 s.nb, .int .i64 s.nn, .int .i64 s.ns, .slice Ab s.bs.length cb, .slice An s.ts.length cn] := ((Blk.new_ w 25 #[.int .i64 s.nb, .int .i64 s.nn, .int .i64 s.ns, .slice Ab s.bs.length cb, .slice An s.ts.length cn]).alloc_ _).alloc_ _
  have B3 : Blk (((w.alloc (.cells #[.int .i64 s.nb, .int .i64 s.nn, .int .i64 s.ns, .slice Ab s.bs.length cb, .slice An s.ts.length cn] 25)).alloc (.cells #[.int .i64 x] 3)).alloc (.cells #[.int .i64 0, .int .i64 0, .int .i64 0, .slice none 0 0, .slice none 0 0] 25)) (w.heap.size + 1) 3 #[.int .i64 x] := by
    have := (Blk.new_ (w.alloc (.cells #[.int .i64 s.nb, .int .i64 s.nn, .int .i64 s.ns, .slice Ab s.bs.length cb, .slice An s.ts.length cn] 25)) 3 #[.int .i64 x]).alloc_ (.cells #[.int .i64 0, .int .i64 0, .int .i64 0, .slice none 0 0, .slice none 0 0] 25)
    simpa using this
  have B2 : Blk (((w.alloc (.cells #[.int .i64 s.nb, .int .i64 s.nn, .int .i64 s.ns, .slice Ab s.bs.length cb, .slice An s.ts.length cn] 25)).alloc (.cells #[.int .i64 x] 3)).alloc (.cells #[.int .i64 0, .int .i64 0, .int .i64 0, .slice none 0 0, .slice none 0 0] 25)) (w.heap.size + 2) 25 #[.int .i64 0, .int .i64 0, .int .i64 0, .slice none 0 0, .slice none 0 0] := by
    have := Blk.new_ ((w.alloc (.cells #[.int .i64 s.nb, .int .i64 s.nn, .int .i64 s.ns, .slice Ab s.bs.length cb, .slice An s.ts.length cn] 25)).alloc (.cells #[.int .i64 x] 3)) 25 #[.int .i64 0, .int .i64 0, .int .i64 0, .slice none 0 0, .slice none 0 0]
    simpa using this
  have S1 : ShR (((w.alloc (.cells #[.int .i64 s.nb, .int .i64 s.nn, .int .i64 s.ns, .slice Ab s.bs.length cb, .slice An s.ts.length cn] 25)).alloc (.cells #[.int .i64 x] 3)).alloc (.cells #[.int .i64 0, .int .i64 0, .int .i64 0, .slice none 0 0, .slice none 0 0] 25)) ((((w.alloc (.cells #[.int .i64 s.nb, .int .i64 s.nn, .int .i64 s.ns, .slice Ab s.bs.length cb, .slice An s.ts.length cn] 25)).alloc (.cells #[.int .i64 x] 3)).alloc (.cells #[.int .i64 0, .int .i64 0, .int .i64 0, .slice none 0 0, .slice none 0 0] 25))).heap.size (.agg #[.int .i64 s.nb, .int .i64 s.nn, .int .i64 s.ns, .slice Ab s.bs.length cb, .slice An s.ts.length cn]) s := hS0.next HB
  have T1 := hT.next HB
  clear hS0 hT hB hN hcb hmb hcn hmn
  obtain ⟨M, hM⟩ : ∃ M, mayS s = M := ⟨_, rfl⟩
  obtain ⟨I, hI⟩ : ∃ I, noteAt s x = I := ⟨_, rfl⟩
  unfold discC at hc
  rw [hM, hI] at hc
  have HM := Lib.hid hM
  have HI := Lib.hid hI
  clear hM hI
  cases M
  · obtain rfl : c = 2 := hc.symm
    clear hc hne
    go_enter Tryz.func41, Tryz.ntmps41
    go_wp2_with (go_at_call 10; ((with_reducible refine (smay_any s _ _ S1 T1 _ HM.out).mono ?_); rintro e' w3 ⟨rfl, bx⟩; have S1 := S1.next bx; have T1 := T1.next bx; have B1 := B1.below bx B1.lt; have B2 := B2.below bx B2.lt; have B3 := B3.below bx B3.lt; have HB := btr HB HB.size bx; (try clear k0 k1 k2 k3 k4 r0 r1 r2 r3 r4 t0 t1 t2 t3 t4 q0); have k0 := B1.cell_ 0; have r0 := B2.cell_ 0; have t0 := B2.free 0; have k1 := B1.cell_ 1; have r1 := B2.cell_ 1; have t1 := B2.free 1; have k2 := B1.cell_ 2; have r2 := B2.cell_ 2; have t2 := B2.free 2; have k3 := B1.cell_ 3; have r3 := B2.cell_ 3; have t3 := B2.free 3; have k4 := B1.cell_ 4; have r4 := B2.cell_ 4; have t4 := B2.free 4; have q0 := B3.cell_ 0; simp at k0 k1 k2 k3 k4 r0 r1 r2 r3 r4 q0; clear bx))
    have B2u := B2.st5_ (.int .i64 0) (.int .i64 0) (.int .i64 0) (.slice none 0 0) (.slice none 0 0)
    have hb2 := st5_below HB (g := w.heap.size + 2) (by omega) 0 (.int .i64 0) (.int .i64 0) (.int .i64 0) (.slice none 0 0) (.slice none 0 0)
    change bodyPost _ _ _ _ _ (st5 w3 (w.heap.size + 2) 0 (.int .i64 0) (.int .i64 0) (.int .i64 0) (.slice none 0 0) (.slice none 0 0))
    generalize st5 w3 (w.heap.size + 2) 0 (.int .i64 0) (.int .i64 0) (.int .i64 0) (.slice none 0 0) (.slice none 0 0) = Wd at B2u hb2 ⊢
    apply bodyPost_ret (v := .tuple #[.agg #[.int .i64 0, .int .i64 0, .int .i64 0, .slice none 0 0, .slice none 0 0], .int .i64 2])
    · exact results_cell1 Tryz.results41 _ Wd (w.heap.size + 2) 25 #[.int .i64 0, .int .i64 0, .int .i64 0, .slice none 0 0, .slice none 0 0] (0, 0) _ rfl B2u Tryz.underlying25 rfl (by kernel_rfl)
    · rfl
    · exact ⟨rfl, hb2⟩
  · by_cases hi : I < 0
    · obtain rfl : c = 4 := by simpa [hi] using hc.symm
      clear hc hne
      go_enter Tryz.func41, Tryz.ntmps41
      go_wp2_with (first | (go_at_call 10; ((with_reducible refine (smay_any s _ _ S1 T1 _ HM.out).mono ?_); rintro e' w3 ⟨rfl, bx⟩; have S1 := S1.next bx; have T1 := T1.next bx; have B1 := B1.below bx B1.lt; have B2 := B2.below bx B2.lt; have B3 := B3.below bx B3.lt; have HB := btr HB HB.size bx; (try clear k0 k1 k2 k3 k4 r0 r1 r2 r3 r4 t0 t1 t2 t3 t4 q0); have k0 := B1.cell_ 0; have r0 := B2.cell_ 0; have t0 := B2.free 0; have k1 := B1.cell_ 1; have r1 := B2.cell_ 1; have t1 := B2.free 1; have k2 := B1.cell_ 2; have r2 := B2.cell_ 2; have t2 := B2.free 2; have k3 := B1.cell_ 3; have r3 := B2.cell_ 3; have t3 := B2.free 3; have k4 := B1.cell_ 4; have r4 := B2.cell_ 4; have t4 := B2.free 4; have q0 := B3.cell_ 0; simp at k0 k1 k2 k3 k4 r0 r1 r2 r3 r4 q0; clear bx)) | (go_at_call 55; ((with_reducible refine (pNote_any s _ x _ S1).mono ?_); rintro e' w4 ⟨rfl, bx⟩; rw [HI.out]; have S1 := S1.next bx; have T1 := T1.next bx; have B1 := B1.below bx B1.lt; have B2 := B2.below bx B2.lt; have B3 := B3.below bx B3.lt; have HB := btr HB HB.size bx; (try clear k0 k1 k2 k3 k4 r0 r1 r2 r3 r4 t0 t1 t2 t3 t4 q0); have k0 := B1.cell_ 0; have r0 := B2.cell_ 0; have t0 := B2.free 0; have k1 := B1.cell_ 1; have r1 := B2.cell_ 1; have t1 := B2.free 1; have k2 := B1.cell_ 2; have r2 := B2.cell_ 2; have t2 := B2.free 2; have k3 := B1.cell_ 3; have r3 := B2.cell_ 3; have t3 := B2.free 3; have k4 := B1.cell_ 4; have r4 := B2.cell_ 4; have t4 := B2.free 4; have q0 := B3.cell_ 0; simp at k0 k1 k2 k3 k4 r0 r1 r2 r3 r4 q0; clear bx)))
      have B2u := B2.st5_ (.int .i64 0) (.int .i64 0) (.int .i64 0) (.slice none 0 0) (.slice none 0 0)
      have hb2 := st5_below HB (g := w.heap.size + 2) (by omega) 0 (.int .i64 0) (.int .i64 0) (.int .i64 0) (.slice none 0 0) (.slice none 0 0)
      change bodyPost _ _ _ _ _ (st5 w4 (w.heap.size + 2) 0 (.int .i64 0) (.int .i64 0) (.int .i64 0) (.slice none 0 0) (.slice none 0 0))
      generalize st5 w4 (w.heap.size + 2) 0 (.int .i64 0) (.int .i64 0) (.int .i64 0) (.slice none 0 0) (.slice none 0 0) = Wd at B2u hb2 ⊢
      apply bodyPost_ret (v := .tuple #[.agg #[.int .i64 0, .int .i64 0, .int .i64 0, .slice none 0 0, .slice none 0 0], .int .i64 4])
      · exact results_cell1 Tryz.results41 _ Wd (w.heap.size + 2) 25 #[.int .i64 0, .int .i64 0, .int .i64 0, .slice none 0 0, .slice none 0 0] (0, 0) _ rfl B2u Tryz.underlying25 rfl (by kernel_rfl)
      · rfl
      · exact ⟨rfl, hb2⟩
    · exact absurd (by simpa [hi] using hc.symm) hne
theorem drop_yes (s : Sf) (v : Value) (x : Int) (w : World) (hS : ShR w w.heap.size v s) (hT : Tabs w) (hc : dropC s x = 0) :
    Calls Tryz.prog 33 #[v, .int .i64 x] w fun e' w' => ∃ v', e' = .returned (.tuple #[v', .int .i64 0]) ∧ ShW w' w.heap.size v' (dropS s x) ∧ Below w.heap.size w w' := by
  have hS0 := hS
  obtain ⟨Ab, cb, An, cn, rfl, hB, hN, hcb, hmb, hcn, hmn⟩ := hS.ex
  clear hS
  have HB : Below w.heap.size w (((w.alloc (.cells #[.int .i64 s.nb, .int .i64 s.nn, .int .i64 s.ns, .slice Ab s.bs.length cb, .slice An s.ts.length cn] 25)).alloc (.cells #[.int .i64 x] 3)).alloc (.cells #[.int .i64 0, .int .i64 0, .int .i64 0, .slice none 0 0, .slice none 0 0] 25)) := ((((Below.refl w.heap.size w).alloc (by first | (simp; done) | (simp; omega)) _).alloc (by first | (simp; done) | (simp; omega)) _).alloc (by first | (simp; done) | (simp; omega)) _)
  have B1 : Blk (((w.alloc (.cells #[.int .i64 s.nb, .int .i64 s.nn, .int .i64 s.ns, .slice Ab s.bs.length cb, .slice An s.ts.length cn] 25)).alloc (.cells #[.int .i64 x] 3)).alloc (.cells #[.int .i64 0, .int .i64 0, .int .i64 0, .slice none 0 0, .slice none 0 0] 25)) w.heap.size 25 #[.int .i64 s.nb, .int .i64 s.nn, .int .i64 s.ns, .slice Ab s.bs.length cb, .slice An s.ts.length cn] := ((Blk.new_ w 25 #[.int .i64 s.nb, .int .i64 s.nn, .int .i64 s.ns, .slice Ab s.bs.length cb, .slice An s.ts.length cn]).alloc_ _).alloc_ _
  have B3 : Blk (((w.alloc (.cells #[.int .i64 s.nb, .int .i64 s.nn, .int .i64 s.ns, .slice Ab s.bs.length cb, .slice An s.ts.length cn] 25)).alloc (.cells #[.int .i64 x] 3)).alloc (.cells #[.int .i64 0, .int .i64 0, .int .i64 0, .slice none 0 0, .slice none 0 0] 25)) (w.heap.size + 1) 3 #[.int .i64 x] := by
    have := (Blk.new_ (w.alloc (.cells #[.int .i64 s.nb, .int .i64 s.nn, .int .i64 s.ns, .slice Ab s.bs.length cb, .slice An s.ts.length cn] 25)) 3 #[.int .i64 x]).alloc_ (.cells #[.int .i64 0, .int .i64 0, .int .i64 0, .slice none 0 0, .slice none 0 0] 25)
    simpa using this
  have B2 : Blk (((w.alloc (.cells #[.int .i64 s.nb, .int .i64 s.nn, .int .i64 s.ns, .slice Ab s.bs.length cb, .slice An s.ts.length cn] 25)).alloc (.cells #[.int .i64 x] 3)).alloc (.cells #[.int .i64 0, .int .i64 0, .int .i64 0, .slice none 0 0, .slice none 0 0] 25)) (w.heap.size + 2) 25 #[.int .i64 0, .int .i64 0, .int .i64 0, .slice none 0 0, .slice none 0 0] := by
    have := Blk.new_ ((w.alloc (.cells #[.int .i64 s.nb, .int .i64 s.nn, .int .i64 s.ns, .slice Ab s.bs.length cb, .slice An s.ts.length cn] 25)).alloc (.cells #[.int .i64 x] 3)) 25 #[.int .i64 0, .int .i64 0, .int .i64 0, .slice none 0 0, .slice none 0 0]
    simpa using this
  have S1 : ShR (((w.alloc (.cells #[.int .i64 s.nb, .int .i64 s.nn, .int .i64 s.ns, .slice Ab s.bs.length cb, .slice An s.ts.length cn] 25)).alloc (.cells #[.int .i64 x] 3)).alloc (.cells #[.int .i64 0, .int .i64 0, .int .i64 0, .slice none 0 0, .slice none 0 0] 25)) ((((w.alloc (.cells #[.int .i64 s.nb, .int .i64 s.nn, .int .i64 s.ns, .slice Ab s.bs.length cb, .slice An s.ts.length cn] 25)).alloc (.cells #[.int .i64 x] 3)).alloc (.cells #[.int .i64 0, .int .i64 0, .int .i64 0, .slice none 0 0, .slice none 0 0] 25))).heap.size (.agg #[.int .i64 s.nb, .int .i64 s.nn, .int .i64 s.ns, .slice Ab s.bs.length cb, .slice An s.ts.length cn]) s := hS0.next HB
  have T1 := hT.next HB
  clear hS0 hT hB hN hcb hmb hcn hmn
  obtain ⟨hM, hI⟩ : mayS s = true ∧ ¬ bookAt s x < 0 := by
    unfold dropC at hc
    cases h1 : mayS s <;> by_cases h2 : bookAt s x < 0 <;> rw [h1] at hc <;> simp [h2] at hc ⊢
    all_goals exact Int.not_lt.1 h2
  have hMF := mayF_of hM
  have hlb : s.bs.length ≤ 100000 := by have := hMF.bl; omega
  have hln : s.ts.length ≤ 100000 := by have := hMF.tl; omega
  obtain ⟨I, hIe⟩ : ∃ I, bookAt s x = I := ⟨_, rfl⟩
  rw [hIe] at hI
  have HM := Lib.hid hM
  have HI := Lib.hid hIe
  have HLB := Lib.hid hlb
  have HLN := Lib.hid hln
  have HLR := Lib.hid hMF.small
  obtain ⟨TB, hTB⟩ : ∃ T, (s.bs.filter fun b => !(b.id == x)) = T := ⟨_, rfl⟩
  obtain ⟨TN, hTN⟩ : ∃ T, (s.ts.filter fun n => !(n.bk == x)) = T := ⟨_, rfl⟩
  have HTB := Lib.hid hTB
  have HTN := Lib.hid hTN
  clear hTB hTN
  clear hM hIe hMF hc hlb hln
  go_enter Tryz.func33, Tryz.ntmps33
  go_upto_region 5 with (first | (go_at_call 10; ((with_reducible refine (smay_any s _ _ S1 T1 _ HM.out).mono ?_); rintro e' w3 ⟨rfl, bx⟩; have S1 := S1.next bx; have T1 := T1.next bx; have B1 := B1.below bx B1.lt; have B2 := B2.below bx B2.lt; have B3 := B3.below bx B3.lt; have HB := btr HB HB.size bx; (try clear k0 k1 k2 k3 k4 r0 r1 r2 r3 r4 t0 t1 t2 t3 t4 q0); have k0 := B1.cell_ 0; have r0 := B2.cell_ 0; have t0 := B2.free 0; have k1 := B1.cell_ 1; have r1 := B2.cell_ 1; have t1 := B2.free 1; have k2 := B1.cell_ 2; have r2 := B2.cell_ 2; have t2 := B2.free 2; have k3 := B1.cell_ 3; have r3 := B2.cell_ 3; have t3 := B2.free 3; have k4 := B1.cell_ 4; have r4 := B2.cell_ 4; have t4 := B2.free 4; have q0 := B3.cell_ 0; simp at k0 k1 k2 k3 k4 r0 r1 r2 r3 r4 q0; clear bx)) | (go_at_call 52; ((with_reducible refine (pBook_any s _ x _ S1).mono ?_); rintro e' w4 ⟨rfl, bx⟩; rw [HI.out]; have S1 := S1.next bx; have T1 := T1.next bx; have B1 := B1.below bx B1.lt; have B2 := B2.below bx B2.lt; have B3 := B3.below bx B3.lt; have HB := btr HB HB.size bx; (try clear k0 k1 k2 k3 k4 r0 r1 r2 r3 r4 t0 t1 t2 t3 t4 q0); have k0 := B1.cell_ 0; have r0 := B2.cell_ 0; have t0 := B2.free 0; have k1 := B1.cell_ 1; have r1 := B2.cell_ 1; have t1 := B2.free 1; have k2 := B1.cell_ 2; have r2 := B2.cell_ 2; have t2 := B2.free 2; have k3 := B1.cell_ 3; have r3 := B2.cell_ 3; have t3 := B2.free 3; have k4 := B1.cell_ 4; have r4 := B2.cell_ 4; have t4 := B2.free 4; have q0 := B3.cell_ 0; simp at k0 k1 k2 k3 k4 r0 r1 r2 r3 r4 q0; clear bx)))
  have hW5 : w.heap.size + 3 ≤ w4.heap.size := by have := B2.lt; omega
  go_upto_region 6 with (go_at_call 63; ((with_reducible refine (clone_any s _ _ S1 HLB.out HLN.out HLR.out).mono ?_); rintro e' w6 ⟨v6, rfl, hW, b6⟩; obtain ⟨Ab6, cb6, An6, cn6, rfl, hBk, hNt, q1, q2, q3, q4⟩ := hW.parts; have B1 := B1.below b6 B1.lt; have B2 := B2.below b6 B2.lt; have B3 := B3.below b6 B3.lt; have HB := btr HB HB.size b6; have hz6 := b6.size; (try clear k0 k1 k2 k3 k4 r0 r1 r2 r3 r4 t0 t1 t2 t3 t4 q0); have k0 := B1.cell_ 0; have t0 := B1.free 0; have k1 := B1.cell_ 1; have t1 := B1.free 1; have k2 := B1.cell_ 2; have t2 := B1.free 2; have k3 := B1.cell_ 3; have t3 := B1.free 3; have k4 := B1.cell_ 4; have t4 := B1.free 4; simp at k0 k1 k2 k3 k4; clear b6 hW S1 T1))
  have B1u := B1.st5_ (.int .i64 s.nb) (.int .i64 s.nn) (.int .i64 s.ns) (.slice Ab6 s.bs.length cb6) (.slice An6 s.ts.length cn6)
  have hg6 := st5_grown w6 w.heap.size 0 (.int .i64 s.nb) (.int .i64 s.nn) (.int .i64 s.ns) (.slice Ab6 s.bs.length cb6) (.slice An6 s.ts.length cn6)
  have B2u := B2.grown hg6 (by omega)
  have B3u := B3.grown hg6 (by omega)
  have hBk2 := hBk.far hg6 (by omega)
  have hNt2 := hNt.far hg6 (by omega)
  have hb2 := below_grown HB hg6 (Nat.le_refl _) HB.size
  have hsz : w4.heap.size ≤ (st5 w6 w.heap.size 0 (.int .i64 s.nb) (.int .i64 s.nn) (.int .i64 s.ns) (.slice Ab6 s.bs.length cb6) (.slice An6 s.ts.length cn6)).heap.size := by have := hz6; have := hg6.size; omega
  clear hg6
  obtain ⟨Wd, hWd⟩ : ∃ V : World, V = (st5 w6 w.heap.size 0 (.int .i64 s.nb) (.int .i64 s.nn) (.int .i64 s.ns) (.slice Ab6 s.bs.length cb6) (.slice An6 s.ts.length cn6)) := ⟨_, rfl⟩
  change Code.wp _ _ _ _ (st5 w6 w.heap.size 0 (.int .i64 s.nb) (.int .i64 s.nn) (.int .i64 s.ns) (.slice Ab6 s.bs.length cb6) (.slice An6 s.ts.length cn6))
  rw [← hWd] at B1u B2u B3u hBk2 hNt2 hb2 hsz ⊢
  clear hWd B1 B2 B3 HB hBk hNt k0 k1 k2 k3 k4 t0 t1 t2 t3 t4 hz6
  have HSZ := Lib.hid hsz
  have HW5 := Lib.hid hW5
  clear hsz hW5 q1 q2 q3 q4
  have k0 := B1u.cell_ 0
  have t0 := B1u.free 0
  have k1 := B1u.cell_ 1
  have t1 := B1u.free 1
  have k2 := B1u.cell_ 2
  have t2 := B1u.free 2
  have k3 := B1u.cell_ 3
  have t3 := B1u.free 3
  have k4 := B1u.cell_ 4
  have t4 := B1u.free 4
  have q0 := B3u.cell_ 0
  simp at k0 k1 k2 k3 k4 q0
  go_upto_region 7 with (go_at_call 65; ((with_reducible refine (df_bs s.bs Ab6 cb6 x (w.heap.size + 1) w4.heap.size _ q0 B3u.lt (by have := HW5.out; omega) HSZ.out hBk2 HLB.out _ HTB.out).mono ?_); rintro e' w7 ⟨A7, c7, rfl, hD, hgD⟩; have hrow := World.ownsRow.lt hBk2; have hNt3 := hNt2.apart hBk2 hgD; have B1v := B1u.grownR hgD (fun h => by have h1 := hrow _ h; have h2 := HW5.out; omega); have B2v := B2u.grownR hgD (fun h => by have h1 := hrow _ h; have h2 := HW5.out; omega); have B3v := B3u.grownR hgD (fun h => by have h1 := hrow _ h; have h2 := HW5.out; omega); have hb3 := hb2.grown hgD hb2.size (fun k hk => by have h1 := hrow _ hk; have h2 := HW5.out; omega); have hsz3 := hgD.size; (clear k0 k1 k2 k3 k4 t0 t1 t2 t3 t4 q0 hrow); have k0 := B1v.cell_ 0; have t0 := B1v.free 0; have k1 := B1v.cell_ 1; have t1 := B1v.free 1; have k2 := B1v.cell_ 2; have t2 := B1v.free 2; have k3 := B1v.cell_ 3; have t3 := B1v.free 3; have k4 := B1v.cell_ 4; have t4 := B1v.free 4; have q0 := B3v.cell_ 0; simp at k0 k1 k2 k3 k4 q0; clear hgD hb2 B1u B2u B3u hBk2 hNt2))
  have hg1 := set1_grown w7 w.heap.size 3 (.slice A7 TB.length c7)
  have B1w := B1v.set_ 3 (.slice A7 TB.length c7)
  simp at B1w
  have B2w := B2v.grown hg1 (by omega)
  have B3w := B3v.grown hg1 (by omega)
  have hNt4 := hNt3.far hg1 (by have := HW5.out; omega)
  have hBk4 := BksW.far hD hg1 (by have := HW5.out; omega)
  have hb4 := below_grown hb3 hg1 (Nat.le_refl _) hb3.size
  have hsz4 := hg1.size
  have HSZ2 : Hid (w4.heap.size ≤ (w7.setCell ⟨w.heap.size, 3, none⟩ (.slice A7 TB.length c7)).heap.size) := Lib.hid (by have := HSZ.out; omega)
  obtain ⟨w8, hw8⟩ : ∃ V : World, V = w7.setCell ⟨w.heap.size, 3, none⟩ (.slice A7 TB.length c7) := ⟨_, rfl⟩
  rw [← hw8] at B1w B2w B3w hNt4 hBk4 hb4 HSZ2 ⊢
  clear hw8 B1v B2v B3v hNt3 hD hb3 hg1 hsz3 hsz4 HSZ k0 k1 k2 k3 k4 t0 t1 t2 t3 t4 q0
  have B1u := B1w
  have B2u := B2w
  have B3u := B3w
  have hBk2 := hBk4
  have hNt2 := hNt4
  have hb2 := hb4
  have HSZ := HSZ2
  clear B1w B2w B3w hBk4 hNt4 hb4 HSZ2
  have k0 := B1u.cell_ 0
  have t0 := B1u.free 0
  have k1 := B1u.cell_ 1
  have t1 := B1u.free 1
  have k2 := B1u.cell_ 2
  have t2 := B1u.free 2
  have k3 := B1u.cell_ 3
  have t3 := B1u.free 3
  have k4 := B1u.cell_ 4
  have t4 := B1u.free 4
  have q0 := B3u.cell_ 0
  simp at k0 k1 k2 k3 k4 q0
  go_upto_region 8 with (go_at_call 67; ((with_reducible refine (df_ts s.ts An6 cn6 x (w.heap.size + 1) w4.heap.size _ q0 B3u.lt (by have := HW5.out; omega) HSZ.out hNt2 HLN.out _ HTN.out).mono ?_); rintro e' w9 ⟨A9, c9, rfl, hD, hgD⟩; (obtain ⟨es9, hel9, hon9, hnt9⟩ := hNt2); have hrow := hon9.lt; have hBk3 := hBk2.apartN hon9 hgD; have B1v := B1u.grownR hgD (fun h => by have h1 := hrow _ h; have h2 := HW5.out; omega); have B2v := B2u.grownR hgD (fun h => by have h1 := hrow _ h; have h2 := HW5.out; omega); have B3v := B3u.grownR hgD (fun h => by have h1 := hrow _ h; have h2 := HW5.out; omega); have hb3 := hb2.grown hgD hb2.size (fun k hk => by have h1 := hrow _ hk; have h2 := HW5.out; omega); have hsz3 := hgD.size; (clear k0 k1 k2 k3 k4 t0 t1 t2 t3 t4 q0 hrow); have k0 := B1v.cell_ 0; have t0 := B1v.free 0; have k1 := B1v.cell_ 1; have t1 := B1v.free 1; have k2 := B1v.cell_ 2; have t2 := B1v.free 2; have k3 := B1v.cell_ 3; have t3 := B1v.free 3; have k4 := B1v.cell_ 4; have t4 := B1v.free 4; have q0 := B3v.cell_ 0; simp at k0 k1 k2 k3 k4 q0; clear hgD hb2 B1u B2u B3u hBk2 hon9 hnt9))
  have hg1 := set1_grown w9 w.heap.size 4 (.slice A9 TN.length c9)
  have B1w := B1v.set_ 4 (.slice A9 TN.length c9)
  simp at B1w
  have B2w := B2v.grown hg1 (by omega)
  have B3w := B3v.grown hg1 (by omega)
  have hBk4 := hBk3.far hg1 (by have := HW5.out; omega)
  have hNt4 := hD.far hg1 (by have := HW5.out; omega)
  have hb4 := below_grown hb3 hg1 (Nat.le_refl _) hb3.size
  have hsz4 := hg1.size
  have HSZ2 : Hid (w4.heap.size ≤ (w9.setCell ⟨w.heap.size, 4, none⟩ (.slice A9 TN.length c9)).heap.size) := Lib.hid (by have := HSZ.out; omega)
  obtain ⟨w10, hw10⟩ : ∃ V : World, V = w9.setCell ⟨w.heap.size, 4, none⟩ (.slice A9 TN.length c9) := ⟨_, rfl⟩
  rw [← hw10] at B1w B2w B3w hNt4 hBk4 hb4 HSZ2 ⊢
  clear hw10 B1v B2v B3v hBk3 hD hb3 hg1 hsz3 hsz4 HSZ k0 k1 k2 k3 k4 t0 t1 t2 t3 t4 q0
  have B1u := B1w
  have B2u := B2w
  have B3u := B3w
  have hBk2 := hBk4
  have hNt2 := hNt4
  have hb2 := hb4
  have HSZ := HSZ2
  clear B1w B2w B3w hBk4 hNt4 hb4 HSZ2
  have k0 := B1u.cell_ 0
  have t0 := B1u.free 0
  have k1 := B1u.cell_ 1
  have t1 := B1u.free 1
  have k2 := B1u.cell_ 2
  have t2 := B1u.free 2
  have k3 := B1u.cell_ 3
  have t3 := B1u.free 3
  have k4 := B1u.cell_ 4
  have t4 := B1u.free 4
  have q0 := B3u.cell_ 0
  simp at k0 k1 k2 k3 k4 q0
  clear t0 t1 t2 t3 t4
  have r0 := B2u.cell_ 0
  have t0 := B2u.free 0
  have r1 := B2u.cell_ 1
  have t1 := B2u.free 1
  have r2 := B2u.cell_ 2
  have t2 := B2u.free 2
  have r3 := B2u.cell_ 3
  have t3 := B2u.free 3
  have r4 := B2u.cell_ 4
  have t4 := B2u.free 4
  simp at r0 r1 r2 r3 r4
  go_wp2_with fail
  have B2e := B2u.st5_ (.int .i64 s.nb) (.int .i64 s.nn) (.int .i64 s.ns) (.slice A7 TB.length c7) (.slice A9 TN.length c9)
  have hgE := st5_grown w10 (w.heap.size + 2) 0 (.int .i64 s.nb) (.int .i64 s.nn) (.int .i64 s.ns) (.slice A7 TB.length c7) (.slice A9 TN.length c9)
  have hBe := hBk2.far hgE (by have := HW5.out; omega)
  have hNe := hNt2.far hgE (by have := HW5.out; omega)
  have hbe := below_grown hb2 hgE (by omega) hb2.size
  change bodyPost _ _ _ _ _ (st5 w10 (w.heap.size + 2) 0 (.int .i64 s.nb) (.int .i64 s.nn) (.int .i64 s.ns) (.slice A7 TB.length c7) (.slice A9 TN.length c9))
  clear hgE
  generalize st5 w10 (w.heap.size + 2) 0 (.int .i64 s.nb) (.int .i64 s.nn) (.int .i64 s.ns) (.slice A7 TB.length c7) (.slice A9 TN.length c9) = WF at B2e hBe hNe hbe ⊢
  apply bodyPost_ret (v := .tuple #[.agg #[.int .i64 s.nb, .int .i64 s.nn, .int .i64 s.ns, .slice A7 TB.length c7, .slice A9 TN.length c9], .int .i64 0])
  · exact results_cell1 Tryz.results33 _ WF (w.heap.size + 2) 25 _ (0, 0) _ rfl B2e Tryz.underlying25 rfl (by kernel_rfl)
  · rfl
  · exact ⟨_, rfl, ShW.base_ (ShW.make (s := dropS s x) (w := WF) (base := w4.heap.size) (vb := .slice A7 TB.length c7) (vn := .slice A9 TN.length c9) (by show BksW _ _ _ (s.bs.filter fun b => !(b.id == x)); rw [HTB.out]; exact hBe) (by show NtsW _ _ _ (s.ts.filter fun n => !(n.bk == x)); rw [HTN.out]; exact hNe)) (by have := HW5.out; omega), hbe⟩
theorem disc_yes (s : Sf) (v : Value) (x : Int) (w : World) (hS : ShR w w.heap.size v s) (hT : Tabs w) (hc : discC s x = 0) :
    Calls Tryz.prog 41 #[v, .int .i64 x] w fun e' w' => ∃ v', e' = .returned (.tuple #[v', .int .i64 0]) ∧ ShW w' w.heap.size v' (discS s x) ∧ Below w.heap.size w w' := by
  have hS0 := hS
  obtain ⟨Ab, cb, An, cn, rfl, hB, hN, hcb, hmb, hcn, hmn⟩ := hS.ex
  clear hS
  have HB : Below w.heap.size w (((w.alloc (.cells #[.int .i64 s.nb, .int .i64 s.nn, .int .i64 s.ns, .slice Ab s.bs.length cb, .slice An s.ts.length cn] 25)).alloc (.cells #[.int .i64 x] 3)).alloc (.cells #[.int .i64 0, .int .i64 0, .int .i64 0, .slice none 0 0, .slice none 0 0] 25)) := ((((Below.refl w.heap.size w).alloc (by first | (simp; done) | (simp; omega)) _).alloc (by first | (simp; done) | (simp; omega)) _).alloc (by first | (simp; done) | (simp; omega)) _)
  have B1 : Blk (((w.alloc (.cells #[.int .i64 s.nb, .int .i64 s.nn, .int .i64 s.ns, .slice Ab s.bs.length cb, .slice An s.ts.length cn] 25)).alloc (.cells #[.int .i64 x] 3)).alloc (.cells #[.int .i64 0, .int .i64 0, .int .i64 0, .slice none 0 0, .slice none 0 0] 25)) w.heap.size 25 #[.int .i64 s.nb, .int .i64 s.nn, .int .i64 s.ns, .slice Ab s.bs.length cb, .slice An s.ts.length cn] := ((Blk.new_ w 25 #[.int .i64 s.nb, .int .i64 s.nn, .int .i64 s.ns, .slice Ab s.bs.length cb, .slice An s.ts.length cn]).alloc_ _).alloc_ _
  have B3 : Blk (((w.alloc (.cells #[.int .i64 s.nb, .int .i64 s.nn, .int .i64 s.ns, .slice Ab s.bs.length cb, .slice An s.ts.length cn] 25)).alloc (.cells #[.int .i64 x] 3)).alloc (.cells #[.int .i64 0, .int .i64 0, .int .i64 0, .slice none 0 0, .slice none 0 0] 25)) (w.heap.size + 1) 3 #[.int .i64 x] := by
    have := (Blk.new_ (w.alloc (.cells #[.int .i64 s.nb, .int .i64 s.nn, .int .i64 s.ns, .slice Ab s.bs.length cb, .slice An s.ts.length cn] 25)) 3 #[.int .i64 x]).alloc_ (.cells #[.int .i64 0, .int .i64 0, .int .i64 0, .slice none 0 0, .slice none 0 0] 25)
    simpa using this
  have B2 : Blk (((w.alloc (.cells #[.int .i64 s.nb, .int .i64 s.nn, .int .i64 s.ns, .slice Ab s.bs.length cb, .slice An s.ts.length cn] 25)).alloc (.cells #[.int .i64 x] 3)).alloc (.cells #[.int .i64 0, .int .i64 0, .int .i64 0, .slice none 0 0, .slice none 0 0] 25)) (w.heap.size + 2) 25 #[.int .i64 0, .int .i64 0, .int .i64 0, .slice none 0 0, .slice none 0 0] := by
    have := Blk.new_ ((w.alloc (.cells #[.int .i64 s.nb, .int .i64 s.nn, .int .i64 s.ns, .slice Ab s.bs.length cb, .slice An s.ts.length cn] 25)).alloc (.cells #[.int .i64 x] 3)) 25 #[.int .i64 0, .int .i64 0, .int .i64 0, .slice none 0 0, .slice none 0 0]
    simpa using this
  have S1 : ShR (((w.alloc (.cells #[.int .i64 s.nb, .int .i64 s.nn, .int .i64 s.ns, .slice Ab s.bs.length cb, .slice An s.ts.length cn] 25)).alloc (.cells #[.int .i64 x] 3)).alloc (.cells #[.int .i64 0, .int .i64 0, .int .i64 0, .slice none 0 0, .slice none 0 0] 25)) ((((w.alloc (.cells #[.int .i64 s.nb, .int .i64 s.nn, .int .i64 s.ns, .slice Ab s.bs.length cb, .slice An s.ts.length cn] 25)).alloc (.cells #[.int .i64 x] 3)).alloc (.cells #[.int .i64 0, .int .i64 0, .int .i64 0, .slice none 0 0, .slice none 0 0] 25))).heap.size (.agg #[.int .i64 s.nb, .int .i64 s.nn, .int .i64 s.ns, .slice Ab s.bs.length cb, .slice An s.ts.length cn]) s := hS0.next HB
  have T1 := hT.next HB
  clear hS0 hT hB hN hcb hmb hcn hmn
  obtain ⟨hM, hI⟩ : mayS s = true ∧ ¬ noteAt s x < 0 := by
    unfold discC at hc
    cases h1 : mayS s <;> by_cases h2 : noteAt s x < 0 <;> rw [h1] at hc <;> simp [h2] at hc ⊢
    all_goals exact Int.not_lt.1 h2
  have hMF := mayF_of hM
  have hlb : s.bs.length ≤ 100000 := by have := hMF.bl; omega
  have hln : s.ts.length ≤ 100000 := by have := hMF.tl; omega
  obtain ⟨I, hIe⟩ : ∃ I, noteAt s x = I := ⟨_, rfl⟩
  rw [hIe] at hI
  have HM := Lib.hid hM
  have HI := Lib.hid hIe
  have HLB := Lib.hid hlb
  have HLN := Lib.hid hln
  have HLR := Lib.hid hMF.small
  obtain ⟨TB, hTB⟩ : ∃ T, (s.bs.filter fun b => !(b.id == x)) = T := ⟨_, rfl⟩
  obtain ⟨TN, hTN⟩ : ∃ T, (s.ts.filter fun n => !(n.id == x)) = T := ⟨_, rfl⟩
  have HTB := Lib.hid hTB
  have HTN := Lib.hid hTN
  clear hTB hTN
  clear hM hIe hMF hc hlb hln
  go_enter Tryz.func41, Tryz.ntmps41
  go_upto_region 5 with (first | (go_at_call 10; ((with_reducible refine (smay_any s _ _ S1 T1 _ HM.out).mono ?_); rintro e' w3 ⟨rfl, bx⟩; have S1 := S1.next bx; have T1 := T1.next bx; have B1 := B1.below bx B1.lt; have B2 := B2.below bx B2.lt; have B3 := B3.below bx B3.lt; have HB := btr HB HB.size bx; (try clear k0 k1 k2 k3 k4 r0 r1 r2 r3 r4 t0 t1 t2 t3 t4 q0); have k0 := B1.cell_ 0; have r0 := B2.cell_ 0; have t0 := B2.free 0; have k1 := B1.cell_ 1; have r1 := B2.cell_ 1; have t1 := B2.free 1; have k2 := B1.cell_ 2; have r2 := B2.cell_ 2; have t2 := B2.free 2; have k3 := B1.cell_ 3; have r3 := B2.cell_ 3; have t3 := B2.free 3; have k4 := B1.cell_ 4; have r4 := B2.cell_ 4; have t4 := B2.free 4; have q0 := B3.cell_ 0; simp at k0 k1 k2 k3 k4 r0 r1 r2 r3 r4 q0; clear bx)) | (go_at_call 55; ((with_reducible refine (pNote_any s _ x _ S1).mono ?_); rintro e' w4 ⟨rfl, bx⟩; rw [HI.out]; have S1 := S1.next bx; have T1 := T1.next bx; have B1 := B1.below bx B1.lt; have B2 := B2.below bx B2.lt; have B3 := B3.below bx B3.lt; have HB := btr HB HB.size bx; (try clear k0 k1 k2 k3 k4 r0 r1 r2 r3 r4 t0 t1 t2 t3 t4 q0); have k0 := B1.cell_ 0; have r0 := B2.cell_ 0; have t0 := B2.free 0; have k1 := B1.cell_ 1; have r1 := B2.cell_ 1; have t1 := B2.free 1; have k2 := B1.cell_ 2; have r2 := B2.cell_ 2; have t2 := B2.free 2; have k3 := B1.cell_ 3; have r3 := B2.cell_ 3; have t3 := B2.free 3; have k4 := B1.cell_ 4; have r4 := B2.cell_ 4; have t4 := B2.free 4; have q0 := B3.cell_ 0; simp at k0 k1 k2 k3 k4 r0 r1 r2 r3 r4 q0; clear bx)))
  have hW5 : w.heap.size + 3 ≤ w4.heap.size := by have := B2.lt; omega
  go_upto_region 6 with (go_at_call 63; ((with_reducible refine (clone_any s _ _ S1 HLB.out HLN.out HLR.out).mono ?_); rintro e' w6 ⟨v6, rfl, hW, b6⟩; obtain ⟨Ab6, cb6, An6, cn6, rfl, hBk, hNt, q1, q2, q3, q4⟩ := hW.parts; have B1 := B1.below b6 B1.lt; have B2 := B2.below b6 B2.lt; have B3 := B3.below b6 B3.lt; have HB := btr HB HB.size b6; have hz6 := b6.size; (try clear k0 k1 k2 k3 k4 r0 r1 r2 r3 r4 t0 t1 t2 t3 t4 q0); have k0 := B1.cell_ 0; have t0 := B1.free 0; have k1 := B1.cell_ 1; have t1 := B1.free 1; have k2 := B1.cell_ 2; have t2 := B1.free 2; have k3 := B1.cell_ 3; have t3 := B1.free 3; have k4 := B1.cell_ 4; have t4 := B1.free 4; simp at k0 k1 k2 k3 k4; clear b6 hW S1 T1))
  have B1u := B1.st5_ (.int .i64 s.nb) (.int .i64 s.nn) (.int .i64 s.ns) (.slice Ab6 s.bs.length cb6) (.slice An6 s.ts.length cn6)
  have hg6 := st5_grown w6 w.heap.size 0 (.int .i64 s.nb) (.int .i64 s.nn) (.int .i64 s.ns) (.slice Ab6 s.bs.length cb6) (.slice An6 s.ts.length cn6)
  have B2u := B2.grown hg6 (by omega)
  have B3u := B3.grown hg6 (by omega)
  have hBk2 := hBk.far hg6 (by omega)
  have hNt2 := hNt.far hg6 (by omega)
  have hb2 := below_grown HB hg6 (Nat.le_refl _) HB.size
  have hsz : w4.heap.size ≤ (st5 w6 w.heap.size 0 (.int .i64 s.nb) (.int .i64 s.nn) (.int .i64 s.ns) (.slice Ab6 s.bs.length cb6) (.slice An6 s.ts.length cn6)).heap.size := by have := hz6; have := hg6.size; omega
  clear hg6
  obtain ⟨Wd, hWd⟩ : ∃ V : World, V = (st5 w6 w.heap.size 0 (.int .i64 s.nb) (.int .i64 s.nn) (.int .i64 s.ns) (.slice Ab6 s.bs.length cb6) (.slice An6 s.ts.length cn6)) := ⟨_, rfl⟩
  change Code.wp _ _ _ _ (st5 w6 w.heap.size 0 (.int .i64 s.nb) (.int .i64 s.nn) (.int .i64 s.ns) (.slice Ab6 s.bs.length cb6) (.slice An6 s.ts.length cn6))
  rw [← hWd] at B1u B2u B3u hBk2 hNt2 hb2 hsz ⊢
  clear hWd B1 B2 B3 HB hBk hNt k0 k1 k2 k3 k4 t0 t1 t2 t3 t4 hz6
  have HSZ := Lib.hid hsz
  have HW5 := Lib.hid hW5
  clear hsz hW5 q1 q2 q3 q4
  have k0 := B1u.cell_ 0
  have t0 := B1u.free 0
  have k1 := B1u.cell_ 1
  have t1 := B1u.free 1
  have k2 := B1u.cell_ 2
  have t2 := B1u.free 2
  have k3 := B1u.cell_ 3
  have t3 := B1u.free 3
  have k4 := B1u.cell_ 4
  have t4 := B1u.free 4
  have q0 := B3u.cell_ 0
  simp at k0 k1 k2 k3 k4 q0
  go_upto_region 7 with (go_at_call 67; ((with_reducible refine (df_dts s.ts An6 cn6 x (w.heap.size + 1) w4.heap.size _ q0 B3u.lt (by have := HW5.out; omega) HSZ.out hNt2 HLN.out _ HTN.out).mono ?_); rintro e' w9 ⟨A9, c9, rfl, hD, hgD⟩; (obtain ⟨es9, hel9, hon9, hnt9⟩ := hNt2); have hrow := hon9.lt; have hBk3 := hBk2.apartN hon9 hgD; have B1v := B1u.grownR hgD (fun h => by have h1 := hrow _ h; have h2 := HW5.out; omega); have B2v := B2u.grownR hgD (fun h => by have h1 := hrow _ h; have h2 := HW5.out; omega); have B3v := B3u.grownR hgD (fun h => by have h1 := hrow _ h; have h2 := HW5.out; omega); have hb3 := hb2.grown hgD hb2.size (fun k hk => by have h1 := hrow _ hk; have h2 := HW5.out; omega); have hsz3 := hgD.size; (clear k0 k1 k2 k3 k4 t0 t1 t2 t3 t4 q0 hrow); have k0 := B1v.cell_ 0; have t0 := B1v.free 0; have k1 := B1v.cell_ 1; have t1 := B1v.free 1; have k2 := B1v.cell_ 2; have t2 := B1v.free 2; have k3 := B1v.cell_ 3; have t3 := B1v.free 3; have k4 := B1v.cell_ 4; have t4 := B1v.free 4; have q0 := B3v.cell_ 0; simp at k0 k1 k2 k3 k4 q0; clear hgD hb2 B1u B2u B3u hBk2 hon9 hnt9))
  have hg1 := set1_grown w9 w.heap.size 4 (.slice A9 TN.length c9)
  have B1w := B1v.set_ 4 (.slice A9 TN.length c9)
  simp at B1w
  have B2w := B2v.grown hg1 (by omega)
  have B3w := B3v.grown hg1 (by omega)
  have hBk4 := hBk3.far hg1 (by have := HW5.out; omega)
  have hNt4 := hD.far hg1 (by have := HW5.out; omega)
  have hb4 := below_grown hb3 hg1 (Nat.le_refl _) hb3.size
  have hsz4 := hg1.size
  have HSZ2 : Hid (w4.heap.size ≤ (w9.setCell ⟨w.heap.size, 4, none⟩ (.slice A9 TN.length c9)).heap.size) := Lib.hid (by have := HSZ.out; omega)
  obtain ⟨w10, hw10⟩ : ∃ V : World, V = w9.setCell ⟨w.heap.size, 4, none⟩ (.slice A9 TN.length c9) := ⟨_, rfl⟩
  rw [← hw10] at B1w B2w B3w hNt4 hBk4 hb4 HSZ2 ⊢
  clear hw10 B1v B2v B3v hBk3 hD hb3 hg1 hsz3 hsz4 HSZ k0 k1 k2 k3 k4 t0 t1 t2 t3 t4 q0
  have B1u := B1w
  have B2u := B2w
  have B3u := B3w
  have hBk2 := hBk4
  have hNt2 := hNt4
  have hb2 := hb4
  have HSZ := HSZ2
  clear B1w B2w B3w hBk4 hNt4 hb4 HSZ2
  have k0 := B1u.cell_ 0
  have t0 := B1u.free 0
  have k1 := B1u.cell_ 1
  have t1 := B1u.free 1
  have k2 := B1u.cell_ 2
  have t2 := B1u.free 2
  have k3 := B1u.cell_ 3
  have t3 := B1u.free 3
  have k4 := B1u.cell_ 4
  have t4 := B1u.free 4
  have q0 := B3u.cell_ 0
  simp at k0 k1 k2 k3 k4 q0
  clear t0 t1 t2 t3 t4
  have r0 := B2u.cell_ 0
  have t0 := B2u.free 0
  have r1 := B2u.cell_ 1
  have t1 := B2u.free 1
  have r2 := B2u.cell_ 2
  have t2 := B2u.free 2
  have r3 := B2u.cell_ 3
  have t3 := B2u.free 3
  have r4 := B2u.cell_ 4
  have t4 := B2u.free 4
  simp at r0 r1 r2 r3 r4
  go_wp2_with fail
  have B2e := B2u.st5_ (.int .i64 s.nb) (.int .i64 s.nn) (.int .i64 s.ns) (.slice Ab6 s.bs.length cb6) (.slice A9 TN.length c9)
  have hgE := st5_grown w10 (w.heap.size + 2) 0 (.int .i64 s.nb) (.int .i64 s.nn) (.int .i64 s.ns) (.slice Ab6 s.bs.length cb6) (.slice A9 TN.length c9)
  have hBe := hBk2.far hgE (by have := HW5.out; omega)
  have hNe := hNt2.far hgE (by have := HW5.out; omega)
  have hbe := below_grown hb2 hgE (by omega) hb2.size
  change bodyPost _ _ _ _ _ (st5 w10 (w.heap.size + 2) 0 (.int .i64 s.nb) (.int .i64 s.nn) (.int .i64 s.ns) (.slice Ab6 s.bs.length cb6) (.slice A9 TN.length c9))
  clear hgE
  generalize st5 w10 (w.heap.size + 2) 0 (.int .i64 s.nb) (.int .i64 s.nn) (.int .i64 s.ns) (.slice Ab6 s.bs.length cb6) (.slice A9 TN.length c9) = WF at B2e hBe hNe hbe ⊢
  apply bodyPost_ret (v := .tuple #[.agg #[.int .i64 s.nb, .int .i64 s.nn, .int .i64 s.ns, .slice Ab6 s.bs.length cb6, .slice A9 TN.length c9], .int .i64 0])
  · exact results_cell1 Tryz.results41 _ WF (w.heap.size + 2) 25 _ (0, 0) _ rfl B2e Tryz.underlying25 rfl (by kernel_rfl)
  · rfl
  · exact ⟨_, rfl, ShW.base_ (ShW.make (s := discS s x) (w := WF) (base := w4.heap.size) (vb := .slice Ab6 s.bs.length cb6) (vn := .slice A9 TN.length c9) (by show BksW _ _ _ s.bs;  exact hBe) (by show NtsW _ _ _ (s.ts.filter fun n => !(n.id == x)); rw [HTN.out]; exact hNe)) (by have := HW5.out; omega), hbe⟩
end Go.Proofs.YtokhapafpjejaaaGreatDoor
namespace Go.Proofs.YtokhapafpjejaaaGreatDoor
open Go.ChangeShapes Go.WideShapes Go.ChangeAt Go.RowKit
attribute [local go_sem ↓] Go.wp_at_zero Go.wp_at_succ
theorem below_dr (w : World) : Below w.heap.size w w.drew := below_dn (Below.refl w.heap.size w) 1
theorem sameBooks_yes (L : List Bk) (A B : Option Addr) (c d : Nat) (w : World) (n1 : L.length ≤ 1000000) (h1 : BksIn w w.heap.size A L) (h2 : BksIn w w.heap.size B L) : Calls Tryz.prog 60 #[.slice A L.length c, .slice B L.length d] w fun e' w' => e' = .returned (.bool true) ∧ Below w.heap.size w w' := by
  obtain ⟨n, hn⟩ : ∃ n, L.length = n := ⟨_, rfl⟩
  rw [hn] at n1 ⊢
  have HN := Lib.hid hn
  have H1 := Lib.hid h1
  have H2 := Lib.hid h2
  clear hn h1 h2
  go_enter Tryz.func60, Tryz.ntmps60
  go_wp2_with fail
  go_loopw [5] (fun s5 wr => ∃ k : Nat, k ≤ n ∧ s5 = .int .i64 (k : Int) ∧ Below w.heap.size w wr) (fun s5 _ => n - (intOf s5).toNat)
  case atStart => exact ⟨0, Nat.zero_le _, rfl, Below.refl _ _⟩
  case round =>
    obtain ⟨k, hk, rfl, hB⟩ := hrel
    by_cases hlt : k < n
    · have hlx : k < L.length := by have := HN.out; omega
      obtain ⟨b1, o1, rfl, l1, q1⟩ := (SlE.below H1.out hB).at_ (by rw [List.length_map]; omega)
      obtain ⟨b2, o2, rfl, l2, q2⟩ := (SlE.below H2.out hB).at_ (by rw [List.length_map]; omega)
      obtain ⟨x, hx⟩ : ∃ x, L[k]? = some x := ⟨_, List.getElem?_eq_getElem hlx⟩
      have he : (L.map bkC)[k]? = some (bkC x) := by rw [List.getElem?_map, hx]; rfl
      have x0 := q1 k _ he 0 _ rfl
      have x1 := q1 k _ he 1 _ rfl
      have y0 := q2 k _ he 0 _ rfl
      have y1 := q2 k _ he 1 _ rfl
      simp only [Nat.add_zero] at x0 y0
      clear he
      have k0 : (0 : Int) ≤ (k : Int) := by omega
      have k1 : (k : Int) < (n : Int) := by omega
      clear hx q1 q2 hlx
      go_upto_region 6 with fail
      refine wp_region_noPanic ?_
      refine wp_region_held_drew (S := (fun w_ => w_.cell? ⟨b1, o1 + k * 2, none⟩ = some (.int .i64 x.id) ∧ w_.cell? ⟨b1, o1 + k * 2 + 1, none⟩ = some (.string x.nm) ∧ w_.cell? ⟨b2, o2 + k * 2, none⟩ = some (.int .i64 x.id) ∧ w_.cell? ⟨b2, o2 + k * 2 + 1, none⟩ = some (.string x.nm))) (by kernel_rfl) ?_ (fun hHeld => ?_)
      · (first | exact ⟨x0, x1, y0, y1⟩ | assumption)
      refine tk 0 ?_; try simp only [Act.put, pz1, pz2, pz3]
      refine tk 1 ?_; try simp only [Act.put, pz1, pz2, pz3]
      refine tk 2 ?_; try simp only [Act.put, pz1, pz2, pz3]
      refine tk 3 ?_; try simp only [Act.put, pz1, pz2, pz3]
      refine tk 4 ?_; try simp only [Act.put, pz1, pz2, pz3]
      refine tk 5 ?_; try simp only [Act.put, pz1, pz2, pz3]
      refine tk 6 ?_; try simp only [Act.put, pz1, pz2, pz3]
      refine tk 7 ?_; try simp only [Act.put, pz1, pz2, pz3]
      refine tk 8 ?_; try simp only [Act.put, pz1, pz2, pz3]
      refine wpAnyH_done (by kernel_rfl) ?_ _
      refine NoPanic.normal ?_
      go_wp2_with fail
      go_roundw
      case rel => exact ⟨k + 1, by omega, by go_num, (by first | exact hB | exact drew_below hB)⟩
      case measure => simp [intOf]; omega
    · obtain rfl : k = n := by omega
      go_wp2_with fail
      go_ret
      exact ⟨rfl, hB⟩
theorem sameTexts_yes (L : List ByteArray) (A B : Option Addr) (c d : Nat) (w : World) (n1 : L.length ≤ 1000000) (h1 : Sl w w.heap.size A (L.map strV)) (h2 : Sl w w.heap.size B (L.map strV)) : Calls Tryz.prog 58 #[.slice A L.length c, .slice B L.length d] w fun e' w' => e' = .returned (.bool true) ∧ Below w.heap.size w w' := by
  obtain ⟨n, hn⟩ : ∃ n, L.length = n := ⟨_, rfl⟩
  rw [hn] at n1 ⊢
  have HN := Lib.hid hn
  have H1 := Lib.hid h1
  have H2 := Lib.hid h2
  clear hn h1 h2
  go_enter Tryz.func58, Tryz.ntmps58
  go_wp2_with fail
  go_loopw [5] (fun s5 wr => ∃ k : Nat, k ≤ n ∧ s5 = .int .i64 (k : Int) ∧ Below w.heap.size w wr) (fun s5 _ => n - (intOf s5).toNat)
  case atStart => exact ⟨0, Nat.zero_le _, rfl, Below.refl _ _⟩
  case round =>
    obtain ⟨k, hk, rfl, hB⟩ := hrel
    by_cases hlt : k < n
    · have hlx : k < L.length := by have := HN.out; omega
      obtain ⟨b1, o1, rfl, l1, q1⟩ := (Sl.below H1.out hB).at_ (by rw [List.length_map]; omega)
      obtain ⟨b2, o2, rfl, l2, q2⟩ := (Sl.below H2.out hB).at_ (by rw [List.length_map]; omega)
      obtain ⟨x, hx⟩ : ∃ x, L[k]? = some x := ⟨_, List.getElem?_eq_getElem hlx⟩
      have x0 := q1 k (.string x) (by rw [List.getElem?_map, hx]; rfl)
      have y0 := q2 k (.string x) (by rw [List.getElem?_map, hx]; rfl)
      have k0 : (0 : Int) ≤ (k : Int) := by omega
      have k1 : (k : Int) < (n : Int) := by omega
      clear hx q1 q2 hlx
      go_upto_region 6 with fail
      refine wp_region_noPanic ?_
      refine wp_region_held_drew (S := (fun w_ => w_.cell? ⟨b1, o1 + k, none⟩ = some (.string x) ∧ w_.cell? ⟨b2, o2 + k, none⟩ = some (.string x))) (by kernel_rfl) ?_ (fun hHeld => ?_)
      · (first | exact ⟨x0, y0⟩ | assumption)
      refine tk 0 ?_; try simp only [Act.put, pz1, pz2, pz3]
      refine tk 1 ?_; try simp only [Act.put, pz1, pz2, pz3]
      refine tk 2 ?_; try simp only [Act.put, pz1, pz2, pz3]
      refine tk 3 ?_; try simp only [Act.put, pz1, pz2, pz3]
      refine tk 4 ?_; try simp only [Act.put, pz1, pz2, pz3]
      refine tk 5 ?_; try simp only [Act.put, pz1, pz2, pz3]
      refine tk 6 ?_; try simp only [Act.put, pz1, pz2, pz3]
      refine tk 7 ?_; try simp only [Act.put, pz1, pz2, pz3]
      refine tk 8 ?_; try simp only [Act.put, pz1, pz2, pz3]
      refine wpAnyH_done (by kernel_rfl) ?_ _
      refine NoPanic.normal ?_
      go_wp2_with fail
      go_roundw
      case rel => exact ⟨k + 1, by omega, by go_num, (by first | exact hB | exact drew_below hB)⟩
      case measure => simp [intOf]; omega
    · obtain rfl : k = n := by omega
      go_wp2_with fail
      go_ret
      exact ⟨rfl, hB⟩
theorem sameInts_yes (L : List Int) (A B : Option Addr) (c d : Nat) (w : World) (n1 : L.length ≤ 1000000) (h1 : Sl w w.heap.size A (L.map (Value.int .i64))) (h2 : Sl w w.heap.size B (L.map (Value.int .i64))) : Calls Tryz.prog 59 #[.slice A L.length c, .slice B L.length d] w fun e' w' => e' = .returned (.bool true) ∧ Below w.heap.size w w' := by
  obtain ⟨n, hn⟩ : ∃ n, L.length = n := ⟨_, rfl⟩
  rw [hn] at n1 ⊢
  have HN := Lib.hid hn
  have H1 := Lib.hid h1
  have H2 := Lib.hid h2
  clear hn h1 h2
  go_enter Tryz.func59, Tryz.ntmps59
  go_wp2_with fail
  go_loopw [5] (fun s5 wr => ∃ k : Nat, k ≤ n ∧ s5 = .int .i64 (k : Int) ∧ Below w.heap.size w wr) (fun s5 _ => n - (intOf s5).toNat)
  case atStart => exact ⟨0, Nat.zero_le _, rfl, Below.refl _ _⟩
  case round =>
    obtain ⟨k, hk, rfl, hB⟩ := hrel
    by_cases hlt : k < n
    · have hlx : k < L.length := by have := HN.out; omega
      obtain ⟨b1, o1, rfl, l1, q1⟩ := (Sl.below H1.out hB).at_ (by rw [List.length_map]; omega)
      obtain ⟨b2, o2, rfl, l2, q2⟩ := (Sl.below H2.out hB).at_ (by rw [List.length_map]; omega)
      obtain ⟨x, hx⟩ : ∃ x, L[k]? = some x := ⟨_, List.getElem?_eq_getElem hlx⟩
      have x0 := q1 k (.int .i64 x) (by rw [List.getElem?_map, hx]; rfl)
      have y0 := q2 k (.int .i64 x) (by rw [List.getElem?_map, hx]; rfl)
      have k0 : (0 : Int) ≤ (k : Int) := by omega
      have k1 : (k : Int) < (n : Int) := by omega
      clear hx q1 q2 hlx
      go_upto_region 6 with fail
      refine wp_region_noPanic ?_
      refine wp_region_held_drew (S := (fun w_ => w_.cell? ⟨b1, o1 + k, none⟩ = some (.int .i64 x) ∧ w_.cell? ⟨b2, o2 + k, none⟩ = some (.int .i64 x))) (by kernel_rfl) ?_ (fun hHeld => ?_)
      · (first | exact ⟨x0, y0⟩ | assumption)
      refine tk 0 ?_; try simp only [Act.put, pz1, pz2, pz3]
      refine tk 1 ?_; try simp only [Act.put, pz1, pz2, pz3]
      refine tk 2 ?_; try simp only [Act.put, pz1, pz2, pz3]
      refine tk 3 ?_; try simp only [Act.put, pz1, pz2, pz3]
      refine tk 4 ?_; try simp only [Act.put, pz1, pz2, pz3]
      refine tk 5 ?_; try simp only [Act.put, pz1, pz2, pz3]
      refine tk 6 ?_; try simp only [Act.put, pz1, pz2, pz3]
      refine tk 7 ?_; try simp only [Act.put, pz1, pz2, pz3]
      refine tk 8 ?_; try simp only [Act.put, pz1, pz2, pz3]
      refine wpAnyH_done (by kernel_rfl) ?_ _
      refine NoPanic.normal ?_
      go_wp2_with fail
      go_roundw
      case rel => exact ⟨k + 1, by omega, by go_num, (by first | exact hB | exact drew_below hB)⟩
      case measure => simp [intOf]; omega
    · obtain rfl : k = n := by omega
      go_wp2_with fail
      go_ret
      exact ⟨rfl, hB⟩
theorem sameNote_yes (n : Nt) (A1 A2 A3 A4 : Option Addr) (c1 c2 c3 c4 : Nat) (w : World) (h1 : Sl w w.heap.size A1 (n.tg.map strV)) (h2 : Sl w w.heap.size A2 (n.sh.map (Value.int .i64))) (h3 : Sl w w.heap.size A3 (n.tg.map strV)) (h4 : Sl w w.heap.size A4 (n.sh.map (Value.int .i64))) (m1 : n.tg.length ≤ 100000) (m2 : n.sh.length ≤ 100000) : Calls Tryz.prog 21 #[.agg #[.int .i64 n.id, .int .i64 n.bk, .string n.nm, .slice A1 n.tg.length c1, .slice A2 n.sh.length c2], .agg #[.int .i64 n.id, .int .i64 n.bk, .string n.nm, .slice A3 n.tg.length c3, .slice A4 n.sh.length c4]] w fun e' w' => e' = .returned (.bool true) ∧ Below w.heap.size w w' := by
  have HB : Below w.heap.size w ((w.alloc (.cells #[.int .i64 n.id, .int .i64 n.bk, .string n.nm, .slice A1 n.tg.length c1, .slice A2 n.sh.length c2] 46)).alloc (.cells #[.int .i64 n.id, .int .i64 n.bk, .string n.nm, .slice A3 n.tg.length c3, .slice A4 n.sh.length c4] 46)) := (((Below.refl w.heap.size w).alloc (by first | (simp; done) | (simp; omega)) _).alloc (by first | (simp; done) | (simp; omega)) _)
  have B1 : Blk ((w.alloc (.cells #[.int .i64 n.id, .int .i64 n.bk, .string n.nm, .slice A1 n.tg.length c1, .slice A2 n.sh.length c2] 46)).alloc (.cells #[.int .i64 n.id, .int .i64 n.bk, .string n.nm, .slice A3 n.tg.length c3, .slice A4 n.sh.length c4] 46)) w.heap.size 46 #[.int .i64 n.id, .int .i64 n.bk, .string n.nm, .slice A1 n.tg.length c1, .slice A2 n.sh.length c2] := (Blk.new_ w 46 #[.int .i64 n.id, .int .i64 n.bk, .string n.nm, .slice A1 n.tg.length c1, .slice A2 n.sh.length c2]).alloc_ _
  have B2 : Blk ((w.alloc (.cells #[.int .i64 n.id, .int .i64 n.bk, .string n.nm, .slice A1 n.tg.length c1, .slice A2 n.sh.length c2] 46)).alloc (.cells #[.int .i64 n.id, .int .i64 n.bk, .string n.nm, .slice A3 n.tg.length c3, .slice A4 n.sh.length c4] 46)) (w.heap.size + 1) 46 #[.int .i64 n.id, .int .i64 n.bk, .string n.nm, .slice A3 n.tg.length c3, .slice A4 n.sh.length c4] := by
    have := Blk.new_ (w.alloc (.cells #[.int .i64 n.id, .int .i64 n.bk, .string n.nm, .slice A1 n.tg.length c1, .slice A2 n.sh.length c2] 46)) 46 #[.int .i64 n.id, .int .i64 n.bk, .string n.nm, .slice A3 n.tg.length c3, .slice A4 n.sh.length c4]
    first | (simp; done) | simpa using this
  have S1 := h1.next HB
  have S2 := h2.next HB
  have S3 := h3.next HB
  have S4 := h4.next HB
  clear h1 h2 h3 h4
  go_enter Tryz.func21, Tryz.ntmps21
  go_wp2_with (first | (go_at_call 58; ((with_reducible refine (sameTexts_yes n.tg _ _ _ _ _ (by omega) S1 S3).mono ?_); rintro e' w3 ⟨rfl, bx⟩; have B1 := B1.below bx B1.lt; have B2 := B2.below bx B2.lt; have HB := btr HB HB.size bx; have S2 := S2.next bx; have S4 := S4.next bx; have S1 := S1.next bx; have S3 := S3.next bx; (try clear k0 k1 k2 k3 k4 r0 r1 r2 r3 r4); have k0 := B1.cell_ 0; have r0 := B2.cell_ 0; have k1 := B1.cell_ 1; have r1 := B2.cell_ 1; have k2 := B1.cell_ 2; have r2 := B2.cell_ 2; have k3 := B1.cell_ 3; have r3 := B2.cell_ 3; have k4 := B1.cell_ 4; have r4 := B2.cell_ 4; simp at k0 k1 k2 k3 k4 r0 r1 r2 r3 r4; clear bx)) | (go_at_call 59; ((with_reducible refine (sameInts_yes n.sh _ _ _ _ _ (by omega) S2 S4).mono ?_); rintro e' w4 ⟨rfl, bx⟩; have HB := btr HB HB.size bx)))
  go_ret
  exact ⟨rfl, HB⟩
theorem sameShelf_yes (s : Sf) (v1 v2 : Value) (w : World) (h1 : ShR w w.heap.size v1 s) (h2 : ShR w w.heap.size v2 s) (m0 : s.bs.length ≤ 100000) (m1 : s.ts.length ≤ 100000) (m2 : ∀ n ∈ s.ts, n.tg.length ≤ 100000 ∧ n.sh.length ≤ 100000) : Calls Tryz.prog 25 #[v1, v2] w fun e' w' => e' = .returned (.bool true) ∧ Below w.heap.size w w' := by
  obtain ⟨Ab, cb, An, cn, rfl, hB, hN, hcb, hmb, hcn, hmn⟩ := h1.ex
  obtain ⟨Ab2, cb2, An2, cn2, rfl, hB2, hN2, hcb2, hmb2, hcn2, hmn2⟩ := h2.ex
  obtain ⟨es, hel, hse, hnt⟩ := hN.ex
  obtain ⟨es2, hel2, hse2, hnt2⟩ := hN2.ex
  have HB : Below w.heap.size w ((w.alloc (.cells #[.int .i64 s.nb, .int .i64 s.nn, .int .i64 s.ns, .slice Ab s.bs.length cb, .slice An s.ts.length cn] 25)).alloc (.cells #[.int .i64 s.nb, .int .i64 s.nn, .int .i64 s.ns, .slice Ab2 s.bs.length cb2, .slice An2 s.ts.length cn2] 25)) := (((Below.refl w.heap.size w).alloc (by first | (simp; done) | (simp; omega)) _).alloc (by first | (simp; done) | (simp; omega)) _)
  have B1 : Blk ((w.alloc (.cells #[.int .i64 s.nb, .int .i64 s.nn, .int .i64 s.ns, .slice Ab s.bs.length cb, .slice An s.ts.length cn] 25)).alloc (.cells #[.int .i64 s.nb, .int .i64 s.nn, .int .i64 s.ns, .slice Ab2 s.bs.length cb2, .slice An2 s.ts.length cn2] 25)) w.heap.size 25 #[.int .i64 s.nb, .int .i64 s.nn, .int .i64 s.ns, .slice Ab s.bs.length cb, .slice An s.ts.length cn] := (Blk.new_ w 25 #[.int .i64 s.nb, .int .i64 s.nn, .int .i64 s.ns, .slice Ab s.bs.length cb, .slice An s.ts.length cn]).alloc_ _
  have B2 : Blk ((w.alloc (.cells #[.int .i64 s.nb, .int .i64 s.nn, .int .i64 s.ns, .slice Ab s.bs.length cb, .slice An s.ts.length cn] 25)).alloc (.cells #[.int .i64 s.nb, .int .i64 s.nn, .int .i64 s.ns, .slice Ab2 s.bs.length cb2, .slice An2 s.ts.length cn2] 25)) (w.heap.size + 1) 25 #[.int .i64 s.nb, .int .i64 s.nn, .int .i64 s.ns, .slice Ab2 s.bs.length cb2, .slice An2 s.ts.length cn2] := by
    have := Blk.new_ (w.alloc (.cells #[.int .i64 s.nb, .int .i64 s.nn, .int .i64 s.ns, .slice Ab s.bs.length cb, .slice An s.ts.length cn] 25)) 25 #[.int .i64 s.nb, .int .i64 s.nn, .int .i64 s.ns, .slice Ab2 s.bs.length cb2, .slice An2 s.ts.length cn2]
    first | (simp; done) | simpa using this
  have R1 : BksIn ((w.alloc (.cells #[.int .i64 s.nb, .int .i64 s.nn, .int .i64 s.ns, .slice Ab s.bs.length cb, .slice An s.ts.length cn] 25)).alloc (.cells #[.int .i64 s.nb, .int .i64 s.nn, .int .i64 s.ns, .slice Ab2 s.bs.length cb2, .slice An2 s.ts.length cn2] 25)) (((w.alloc (.cells #[.int .i64 s.nb, .int .i64 s.nn, .int .i64 s.ns, .slice Ab s.bs.length cb, .slice An s.ts.length cn] 25)).alloc (.cells #[.int .i64 s.nb, .int .i64 s.nn, .int .i64 s.ns, .slice Ab2 s.bs.length cb2, .slice An2 s.ts.length cn2] 25))).heap.size Ab s.bs := SlE.next hB HB
  have R2 : BksIn ((w.alloc (.cells #[.int .i64 s.nb, .int .i64 s.nn, .int .i64 s.ns, .slice Ab s.bs.length cb, .slice An s.ts.length cn] 25)).alloc (.cells #[.int .i64 s.nb, .int .i64 s.nn, .int .i64 s.ns, .slice Ab2 s.bs.length cb2, .slice An2 s.ts.length cn2] 25)) (((w.alloc (.cells #[.int .i64 s.nb, .int .i64 s.nn, .int .i64 s.ns, .slice Ab s.bs.length cb, .slice An s.ts.length cn] 25)).alloc (.cells #[.int .i64 s.nb, .int .i64 s.nn, .int .i64 s.ns, .slice Ab2 s.bs.length cb2, .slice An2 s.ts.length cn2] 25))).heap.size Ab2 s.bs := SlE.next hB2 HB
  have HM := Lib.hid m2
  have HEL := Lib.hid hel
  have HEL2 := Lib.hid hel2
  have HNT := Lib.hid hnt
  have HNT2 := Lib.hid hnt2
  clear h1 h2 hN hN2 hB hB2 hcb hmb hcn hmn hcb2 hmb2 hcn2 hmn2 m2 hel hel2 hnt hnt2
  go_enter Tryz.func25, Tryz.ntmps25
  go_wp2_with (go_at_call 60; ((with_reducible refine (sameBooks_yes s.bs _ _ _ _ _ (by omega) R1 R2).mono ?_); rintro e' w3 ⟨rfl, bx⟩; have B1 := B1.below bx B1.lt; have B2 := B2.below bx B2.lt; have HB := btr HB HB.size bx; (try clear k0 k1 k2 k3 k4 r0 r1 r2 r3 r4); have k0 := B1.cell_ 0; have r0 := B2.cell_ 0; have k1 := B1.cell_ 1; have r1 := B2.cell_ 1; have k2 := B1.cell_ 2; have r2 := B2.cell_ 2; have k3 := B1.cell_ 3; have r3 := B2.cell_ 3; have k4 := B1.cell_ 4; have r4 := B2.cell_ 4; simp at k0 k1 k2 k3 k4 r0 r1 r2 r3 r4; clear bx))
  go_loopw [5] (fun s5 wr => ∃ k : Nat, k ≤ s.ts.length ∧ s5 = .int .i64 (k : Int) ∧ Below w3.heap.size w3 wr) (fun s5 _ => s.ts.length - (intOf s5).toNat)
  case atStart => exact ⟨0, Nat.zero_le _, rfl, Below.refl _ _⟩
  case round =>
    obtain ⟨k, hk, rfl, hbr⟩ := hrel
    have HBr := btr HB HB.size hbr
    have C1 := B1.below hbr B1.lt
    have C2 := B2.below hbr B2.lt
    clear k0 k1 k2 k3 k4 r0 r1 r2 r3 r4 B1 B2 HB R1 R2
    have k4 := C1.cell_ 4
    have r4 := C2.cell_ 4
    simp at k4 r4
    by_cases hlt : k < s.ts.length
    · obtain ⟨n, hn⟩ : ∃ n, s.ts[k]? = some n := ⟨_, List.getElem?_eq_getElem hlt⟩
      obtain ⟨e1, he1⟩ : ∃ e, es[k]? = some e := ⟨_, List.getElem?_eq_getElem (by have := HEL.out; omega)⟩
      obtain ⟨e2, he2⟩ : ∃ e, es2[k]? = some e := ⟨_, List.getElem?_eq_getElem (by have := HEL2.out; omega)⟩
      obtain ⟨A1, c1, A2, c2, rfl, p1, p2, -⟩ := (HNT.out k n e1 hn he1).ex
      obtain ⟨A3, c3, A4, c4, rfl, p3, p4, -⟩ := (HNT2.out k n e2 hn he2).ex
      obtain ⟨b1, o1, rfl, l1, q1⟩ := hse.at_ (by have := HEL.out; omega)
      obtain ⟨b2, o2, rfl, l2, q2⟩ := hse2.at_ (by have := HEL2.out; omega)
      have x0 : wr.cell? ⟨b1, o1 + k * 5 + 0, none⟩ = some (.int .i64 n.id) := (HBr.cell (p := ⟨b1, _, none⟩) l1).trans (q1 k _ he1 0 _ rfl)
      have x1 : wr.cell? ⟨b1, o1 + k * 5 + 1, none⟩ = some (.int .i64 n.bk) := (HBr.cell (p := ⟨b1, _, none⟩) l1).trans (q1 k _ he1 1 _ rfl)
      have x2 : wr.cell? ⟨b1, o1 + k * 5 + 2, none⟩ = some (.string n.nm) := (HBr.cell (p := ⟨b1, _, none⟩) l1).trans (q1 k _ he1 2 _ rfl)
      have x3 : wr.cell? ⟨b1, o1 + k * 5 + 3, none⟩ = some (.slice A1 n.tg.length c1) := (HBr.cell (p := ⟨b1, _, none⟩) l1).trans (q1 k _ he1 3 _ rfl)
      have x4 : wr.cell? ⟨b1, o1 + k * 5 + 4, none⟩ = some (.slice A2 n.sh.length c2) := (HBr.cell (p := ⟨b1, _, none⟩) l1).trans (q1 k _ he1 4 _ rfl)
      have y0 : wr.cell? ⟨b2, o2 + k * 5 + 0, none⟩ = some (.int .i64 n.id) := (HBr.cell (p := ⟨b2, _, none⟩) l2).trans (q2 k _ he2 0 _ rfl)
      have y1 : wr.cell? ⟨b2, o2 + k * 5 + 1, none⟩ = some (.int .i64 n.bk) := (HBr.cell (p := ⟨b2, _, none⟩) l2).trans (q2 k _ he2 1 _ rfl)
      have y2 : wr.cell? ⟨b2, o2 + k * 5 + 2, none⟩ = some (.string n.nm) := (HBr.cell (p := ⟨b2, _, none⟩) l2).trans (q2 k _ he2 2 _ rfl)
      have y3 : wr.cell? ⟨b2, o2 + k * 5 + 3, none⟩ = some (.slice A3 n.tg.length c3) := (HBr.cell (p := ⟨b2, _, none⟩) l2).trans (q2 k _ he2 3 _ rfl)
      have y4 : wr.cell? ⟨b2, o2 + k * 5 + 4, none⟩ = some (.slice A4 n.sh.length c4) := (HBr.cell (p := ⟨b2, _, none⟩) l2).trans (q2 k _ he2 4 _ rfl)
      simp only [Nat.add_zero] at x0 y0
      have hm := HM.out n (List.mem_of_getElem? hn)
      have hm1 := hm.1
      have hm2 := hm.2
      have k0 : (0 : Int) ≤ (k : Int) := by omega
      have k1 : (k : Int) < (s.ts.length : Int) := by omega
      have D := below_dr wr
      have P1 := (((p1.below HBr).mono_ HBr.size).next D)
      have P2 := (((p2.below HBr).mono_ HBr.size).next D)
      have P3 := (((p3.below HBr).mono_ HBr.size).next D)
      have P4 := (((p4.below HBr).mono_ HBr.size).next D)
      have HBd := btr HBr HBr.size D
      have hbd := btr hbr hbr.size D
      clear hn he1 he2 q1 q2 hm p1 p2 p3 p4 D
      go_upto_region 6 with fail
      go_still_tail 10, (by kernel_rfl)
      change wpList _ _ _ _ _ wr.drew
      obtain ⟨wd, hwd⟩ : ∃ V : World, V = wr.drew := ⟨_, rfl⟩
      rw [← hwd] at P1 P2 P3 P4 HBd hbd ⊢
      clear hwd
      go_wp2_with (go_at_call 21; ((with_reducible refine (sameNote_yes n _ _ _ _ _ _ _ _ _ P1 P2 P3 P4 hm1 hm2).mono ?_); rintro e' w5 ⟨rfl, bx⟩; have hbe := btr hbd hbd.size bx; clear bx))
      go_roundw
      case rel => exact ⟨k + 1, by omega, by go_num, hbe⟩
      case measure => simp [intOf]; omega
    · obtain rfl : k = s.ts.length := by omega
      go_wp2_with fail
      go_ret
      exact ⟨rfl, HBr⟩
end Go.Proofs.YtokhapafpjejaaaGreatDoor
namespace Go.Proofs.YtokhapafpjejaaaGreatDoor
open Go.ChangeShapes Go.WideShapes Go.ChangeAt Go.RowKit
attribute [local go_sem ↓] Go.wp_at_zero Go.wp_at_succ
theorem inI_of {x lo hi : Int} (h1 : lo ≤ x) (h2 : x ≤ hi) : inI x lo hi = true := by
  unfold inI
  rw [decide_eq_true h1, decide_eq_true h2]
  rfl
theorem books_conv {s : Sf} : ∀ (l : List Bk) (bf : Int), (∀ b ∈ l, bf < b.id ∧ b.id ≤ s.nb - 1 ∧ mayN b.nm = true ∧ bookTk s b.nm b.id = false) → (l.Pairwise fun a b => a.id < b.id) → booksFrom s bf l = true
  | [], _, _, _ => rfl
  | x :: l, bf, h, hp => by
    obtain ⟨h1, h2, h3, h4⟩ := h x (by simp)
    rw [List.pairwise_cons] at hp
    show (inI x.id (bf + 1) (s.nb - 1) && (mayN x.nm && (!bookTk s x.nm x.id && booksFrom s x.id l))) = true
    rw [inI_of (by omega) h2, h3, h4, books_conv l x.id (fun b hb => ⟨hp.1 b hb, (h b (by simp [hb])).2⟩) hp.2]
    rfl
theorem notes_conv {s : Sf} : ∀ (l : List Nt) (bf : Int), (∀ b ∈ l, bf < b.id ∧ b.id ≤ s.nn - 1 ∧ mayNt s b = true) → (l.Pairwise fun a b => a.id < b.id) → notesFrom s bf l = true
  | [], _, _, _ => rfl
  | x :: l, bf, h, hp => by
    obtain ⟨h1, h2, h3⟩ := h x (by simp)
    rw [List.pairwise_cons] at hp
    show (inI x.id (bf + 1) (s.nn - 1) && (mayNt s x && notesFrom s x.id l)) = true
    rw [inI_of (by omega) h2, h3, notes_conv l x.id (fun b hb => ⟨hp.1 b hb, (h b (by simp [hb])).2⟩) hp.2]
    rfl
theorem shIn_iff (ns : Int) : ∀ (l seen : List Int), sheetsIn ns seen l = true ↔ (∀ x ∈ l, inI x 1 (ns - 1) = true ∧ x ∉ seen) ∧ l.Nodup
  | [], seen => by simp [sheetsIn]
  | x :: l, seen => by
    have ih := shIn_iff ns l (x :: seen)
    show (inI x 1 (ns - 1) && (!seen.contains x && sheetsIn ns (x :: seen) l)) = true ↔ _
    rw [Bool.and_eq_true, Bool.and_eq_true, ih, List.nodup_cons]
    simp only [Bool.not_eq_true', List.contains_eq_mem, decide_eq_false_iff_not, List.mem_cons, not_or]
    constructor
    · rintro ⟨h1, h2, h3, h4⟩
      refine ⟨fun y hy => ?_, fun hx => (h3 x hx).2.1 rfl, h4⟩
      rcases hy with rfl | hy
      · exact ⟨h1, h2⟩
      · exact ⟨(h3 y hy).1, (h3 y hy).2.2⟩
    · rintro ⟨h1, h2, h3⟩
      refine ⟨(h1 x (Or.inl rfl)).1, (h1 x (Or.inl rfl)).2, fun y hy => ⟨(h1 y (Or.inr hy)).1, fun e => h2 (e ▸ hy), (h1 y (Or.inr hy)).2⟩, h3⟩
theorem sh_iff (ns : Int) : ∀ (l : List Nt) (seen : List Int), sheetsFrom ns seen l = true ↔ (∀ n ∈ l, n.sh.length ≤ 8) ∧ (∀ x ∈ l.flatMap Nt.sh, inI x 1 (ns - 1) = true ∧ x ∉ seen) ∧ (l.flatMap Nt.sh).Nodup
  | [], seen => by simp [sheetsFrom]
  | n :: l, seen => by
    have ih := sh_iff ns l (n.sh.reverse ++ seen)
    show (decide (n.sh.length ≤ 8) && (sheetsIn ns seen n.sh && sheetsFrom ns (n.sh.reverse ++ seen) l)) = true ↔ _
    rw [Bool.and_eq_true, Bool.and_eq_true, ih, shIn_iff, List.flatMap_cons, List.nodup_append]
    simp only [decide_eq_true_eq, List.mem_cons, List.mem_append, List.mem_reverse, not_or]
    constructor
    · rintro ⟨h1, ⟨h2, h3⟩, h4, h5, h6⟩
      refine ⟨fun m hm => ?_, fun x hx => ?_, h3, h6, fun a ha b hb e => ?_⟩
      · rcases hm with rfl | hm
        · exact h1
        · exact h4 m hm
      · rcases hx with hx | hx
        · exact h2 x hx
        · exact ⟨(h5 x hx).1, (h5 x hx).2.2⟩
      · subst e
        exact (h5 a hb).2.1 ha
    · rintro ⟨h1, h2, h3, h4, h5⟩
      exact ⟨h1 n (Or.inl rfl), ⟨fun x hx => h2 x (Or.inl hx), h3⟩, fun m hm => h1 m (Or.inr hm), fun x hx => ⟨(h2 x (Or.inr hx)).1, fun hx2 => h5 x hx2 x hx rfl, (h2 x (Or.inr hx)).2⟩, h4⟩
theorem flat_sub {α β : Type} {f : α → List β} {a b : List α} (h : a.Sublist b) : (a.flatMap f).Sublist (b.flatMap f) := by
  induction h with
  | slnil => exact List.Sublist.refl _
  | cons x _ ih => rw [List.flatMap_cons]; exact ih.trans (List.sublist_append_right _ _)
  | cons_cons x _ ih => rw [List.flatMap_cons, List.flatMap_cons]; exact (List.Sublist.refl _).append ih
theorem mayS_conv {s : Sf} (h : MayF s) : mayS s = true := by
  unfold mayS
  rw [inI_of h.nb.1 h.nb.2, inI_of h.nn.1 h.nn.2, inI_of h.ns.1 h.ns.2, decide_eq_true h.bl, decide_eq_true h.tl, books_conv s.bs 0 h.bs h.bo, notes_conv s.ts 0 h.ts h.tord, h.sh]
  rfl
theorem tk_sub {ts ts' : List Nt} (hs : ts'.Sublist ts) {p : Nt → Bool} (h : ts.any p = false) : ts'.any p = false := by
  rw [List.any_eq_false] at h ⊢
  exact fun x hx => h x (hs.subset hx)
theorem mayNt_sub {s : Sf} {ts' : List Nt} (hs : ts'.Sublist s.ts) {n : Nt} (h : mayNt s n = true) : mayNt { s with ts := ts' } n = true := by
  unfold mayNt at h ⊢
  simp only [Bool.and_eq_true, Bool.not_eq_true'] at h ⊢
  exact ⟨h.1, h.2.1, tk_sub hs h.2.2.1, h.2.2.2⟩
theorem MayF.sub {s : Sf} (h : MayF s) {ts' : List Nt} (hs : ts'.Sublist s.ts) : MayF { s with ts := ts' } := by
  obtain ⟨q1, q2, q3⟩ := (sh_iff _ _ _).1 h.sh
  exact ⟨h.nb, h.nn, h.ns, h.bl, Nat.le_trans hs.length_le h.tl, h.bs, h.bo, fun n hn => ⟨(h.ts n (hs.subset hn)).1, (h.ts n (hs.subset hn)).2.1, mayNt_sub hs (h.ts n (hs.subset hn)).2.2⟩, h.tord.sublist hs,
    (sh_iff _ _ _).2 ⟨fun n hn => q1 n (hs.subset hn), fun x hx => q2 x ((flat_sub hs).subset hx), q3.sublist (flat_sub hs)⟩⟩
def discL (s : Sf) (L : List Int) : Sf := { s with ts := s.ts.filter fun n => !L.contains n.id }
theorem MayF.idinj {s : Sf} (h : MayF s) {a b : Nt} (ha : a ∈ s.ts) (hb : b ∈ s.ts) (he : a.id = b.id) : a = b := by
  obtain ⟨i, hi, rfl⟩ := List.mem_iff_getElem.1 ha
  obtain ⟨j, hj, rfl⟩ := List.mem_iff_getElem.1 hb
  rcases Nat.lt_trichotomy i j with hij | rfl | hij
  · have := List.pairwise_iff_getElem.1 h.tord i j hi hj hij
    omega
  · rfl
  · have := List.pairwise_iff_getElem.1 h.tord j i hj hi hij
    omega
theorem MayF.bidinj {s : Sf} (h : MayF s) {a b : Bk} (ha : a ∈ s.bs) (hb : b ∈ s.bs) (he : a.id = b.id) : a = b := by
  obtain ⟨i, hi, rfl⟩ := List.mem_iff_getElem.1 ha
  obtain ⟨j, hj, rfl⟩ := List.mem_iff_getElem.1 hb
  rcases Nat.lt_trichotomy i j with hij | rfl | hij
  · have := List.pairwise_iff_getElem.1 h.bo i j hi hj hij
    omega
  · rfl
  · have := List.pairwise_iff_getElem.1 h.bo j i hj hi hij
    omega
structure DrpF (s : Sf) (x : Int) (its : List It) : Prop where
  disc : ∀ (i : Nat) (y : It), its[i]? = some y → discC (discL s ((its.map It.id).take i)) y.id = 0
  step : ∀ (i : Nat) (y : It), its[i]? = some y → discS (discL s ((its.map It.id).take i)) y.id = discL s ((its.map It.id).take (i + 1))
  last : dropC (discL s (its.map It.id)) x = 0
  same : dropS (discL s (its.map It.id)) x = dropS s x
  notes : ((dropS s x).ts.length : Int) = (s.ts.length : Int) - (its.length : Int)
  books : ((dropS s x).bs.length : Int) = (s.bs.length : Int) - 1
end Go.Proofs.YtokhapafpjejaaaGreatDoor
namespace Go.Proofs.YtokhapafpjejaaaGreatDoor
open Go.ChangeShapes Go.WideShapes Go.ChangeAt Go.RowKit
attribute [local go_sem ↓] Go.wp_at_zero Go.wp_at_succ
def KeepB (w w' : World) : Prop := ∀ (g : Nat) (cs : Array Value) (t : TypeId) (fr : Nat × Nat), w.heap[g]? = some (.cells cs t fr) → ∃ cs' : Array Value, w'.heap[g]? = some (.cells cs' t fr) ∧ cs'.size = cs.size
theorem KeepB.refl (w : World) : KeepB w w := fun g cs t fr h => ⟨cs, h, rfl⟩
theorem KeepB.trans {a b c : World} (h : KeepB a b) (k : KeepB b c) : KeepB a c := by
  intro g cs t fr hg
  obtain ⟨c1, h1, h2⟩ := h g cs t fr hg
  obtain ⟨c2, h3, h4⟩ := k g c1 t fr h1
  exact ⟨c2, h3, h4.trans h2⟩
theorem KeepB.alloc_ (w : World) (o : Obj) : KeepB w (w.alloc o) := by
  intro g cs t fr hg
  have hlt : g < w.heap.size := (Array.getElem?_eq_some_iff.1 hg).1
  exact ⟨cs, (((Below.refl w.heap.size w).alloc (Nat.le_refl _) o).block g hlt).trans hg, rfl⟩
theorem KeepB.drew_ (w : World) : KeepB w w.drew := KeepB.refl w
theorem KeepB.row_ (w : World) (g : Nat) (cs old : Array Value) (e : TypeId) (fr : Nat × Nat) (hg : w.heap[g]? = some (.cells old e fr)) (hs : cs.size = old.size) : KeepB w (w.setRow g cs) := by
  intro k c2 t2 fr2 hk
  by_cases h : k = g
  · subst h
    rw [hg] at hk
    cases hk
    exact ⟨cs, setRow_heap w k old cs e fr hg, hs⟩
  · exact ⟨c2, (setRow_other w g k cs h).trans hk, rfl⟩
theorem KeepB.set_ {w : World} {g : Nat} {cur : Array Value} {e : TypeId} (hg : w.heap[g]? = some (.cells cur e (0, 0))) (j : Nat) (u : Value) : KeepB w (w.setCell ⟨g, j, none⟩ u) := by
  intro k c2 t2 fr2 hk
  by_cases h : k = g
  · subst h
    rw [hg] at hk
    cases hk
    exact ⟨_, heap_setCell_same w k j cur e u hg, by simp⟩
  · have hlt : k < w.heap.size := (Array.getElem?_eq_some_iff.1 hk).1
    exact ⟨c2, ((set1_grown w g j u).block k hlt (fun h2 => h (by injection h2))).trans hk, rfl⟩
theorem own_block {w : World} {base C n c g : Nat} {e : TypeId} {xs : List Value} (h : w.ownsRow base e C (.slice (some ⟨g, 0, none⟩) n c) n xs) : ∃ cur, w.heap[g]? = some (.cells cur e (0, 0)) := by
  rcases h.2 with ⟨h', _⟩ | ⟨g', cap', cur, h', _, hg, _⟩
  · simp at h'
  · simp only [Value.slice.injEq, Option.some.injEq, Addr.mk.injEq, and_true, true_and] at h'
    obtain ⟨rfl, rfl⟩ := h'
    exact ⟨cur, hg⟩
theorem own_keepB {w w' : World} {base C n : Nat} {e : TypeId} {v : Value} {xs : List Value} (h : w.ownsRow base e C v n xs) (hk : KeepB w w') : ∃ ys, w'.ownsRow base e C v n ys := by
  rcases h.2 with ⟨h1, h2⟩ | ⟨g, cap, cur, h1, h2, h3, h4, h5, h6, h7⟩
  · exact ⟨xs, h.1, Or.inl ⟨h1, h2⟩⟩
  · obtain ⟨c2, h8, h9⟩ := hk g cur e (0, 0) h3
    refine ⟨c2.toList.take (n * C), ?_, Or.inr ⟨g, cap, c2, h1, h2, h8, h4, h5, h9.trans h6, rfl⟩⟩
    rw [List.length_take, Array.length_toList, h9, h6]
    exact Nat.min_eq_left (Nat.mul_le_mul_right _ h4)
section
variable {P : Program} (w : World)
theorem app_keep (base : Nat) (t ty e : TypeId) (i : TypeInfo) (z : Value) (size bytes : Nat) (ht : P.underlying t = some (.slice e)) (hi : P.info? e = some i) (hz : i.zero = some z)
    (hsize : i.size = size) (hby : i.bytes = bytes) (hsz : 0 < size)
    (v : Value) (n : Nat) (xs : List Value) (hown : w.ownsRow base e size v n xs)
    (a : Addr) (m c : Nat) (news : List Value) (hl : news.length = m * size) (hnews : ∀ j u, news[j]? = some u → w.cell? (a.add j) = some u) (h1 : ∀ u ∈ news, u.oneCell' = true) (hm : 0 < m)
    (h63 : n + m ≤ maxLen) (hbytes : (n + m) * bytes ≤ 140737488355328) {v' : Value} {w' : World} (hrun : (Builtin.append_ #[t, t] ty #[v, .slice (some a) m c]).run P w = .ok v' w') : KeepB w w' := by
  subst hsize
  subst hby
  have hsmall : n + m ≤ 9223372036854775807 := by simp only [maxLen] at h63; omega
  rcases hown.2 with ⟨rfl, rfl⟩ | ⟨g, cap, cur, rfl, hbg, hg, hnc, hcm, hcs, htake⟩
  · have hr := run_append_nil (P := P) w t ty e i z ht hi hz a m c news hl hnews hm (by omega) (by have hb := hbytes; simp only [Nat.zero_add] at hb; omega)
    rw [hr] at hrun
    injection hrun with h2 h3
    rw [← h3]
    exact (KeepB.drew_ w).trans (KeepB.alloc_ _ _)
  · by_cases hroom : n + m ≤ cap
    · have hfit : n * i.size + news.length ≤ cur.size := by rw [hl, hcs, ← Nat.add_mul]; exact Nat.mul_le_mul_right _ hroom
      have hr := run_append_room (P := P) w t ty e i ht hi g n cap cur hg a m c news hl hnews h1 hroom hfit
      rw [hr] at hrun
      injection hrun with h2 h3
      rw [← h3]
      refine KeepB.row_ w g _ cur e _ hg ?_
      simp only [List.size_toArray, List.length_append, List.length_take, List.length_drop, Array.length_toList]
      omega
    · have holds : ∀ j u, xs[j]? = some u → w.cell? ((⟨g, 0, none⟩ : Addr).add j) = some u := hown.cells (g := g) rfl
      have hr := run_append_grow (P := P) w t ty e i z ht hi hz ⟨g, 0, none⟩ n cap xs hown.1 holds a m c news hl hnews (by omega) (by omega) (growslice_fits (by omega) hbytes)
      rw [hr] at hrun
      injection hrun with h2 h3
      rw [← h3]
      exact (KeepB.drew_ w).trans (KeepB.alloc_ _ _)
theorem wpList_appK {ops : Array Oper} {rest : List Oper} {o : Oper} {a : Act} {Q : Exit → Act → World → Prop} (hgd : o.guard = none) (s x : Operand) (t : TypeId)
    (ho : o.op = .call { callee := .builtin .append, args := #[s, x], argTypes := #[t, t] })
    (base : Nat) (e : TypeId) (i : TypeInfo) (z : Value) (size bytes : Nat) (ht : P.underlying t = some (.slice e)) (hi : P.info? e = some i) (hz : i.zero = some z)
    (hsize : i.size = size) (hby : i.bytes = bytes) (hzs : z.cells.size = size) (hsz : 0 < size)
    (v : Value) (n : Nat) (xs : List Value) (hs : a.eval s = v) (hown : w.ownsRow base e size v n xs)
    (g c : Nat) (news : List Value) (hx : a.eval x = .slice (some ⟨g, 0, none⟩) 1 c) (hr : Rd w (some ⟨g, 0, none⟩) 1 size news) (h1 : ∀ u ∈ news, u.oneCell' = true)
    (h63 : n + 1 ≤ maxLen) (hbytes : (n + 1) * bytes ≤ 140737488355328) (hbase : base ≤ w.heap.size)
    (h : ∀ v' w', w'.ownsRow base e size v' (n + 1) (xs ++ news) → w.grownBy w' v.ownBlock → KeepB w w' → wpList P ops Q rest (a.put o.dst v') w') : wpList P ops Q (o :: rest) a w := by
  refine wpList_plain hgd fun K hK => ?_
  obtain ⟨v', w', hrun, h2, h3, h4⟩ := run_app (P := P) w base t o.type e i z size bytes ht hi hz hsize hby hzs hsz v n xs hown (some ⟨g, 0, none⟩) 1 c news hr h1 h63 hbytes hbase
  have hcells : ∀ j u, news[j]? = some u → w.cell? ((⟨g, 0, none⟩ : Addr).add j) = some u := by
    intro j u hu
    rcases hr.2 with h | ⟨b, off, h, hc⟩
    · omega
    · cases h
      have := hc j u hu
      unfold Addr.add
      split
      · rename_i h0
        rw [h0] at this
        simpa using this
      · exact this
  have hk := app_keep (P := P) w base t o.type e i z size bytes ht hi hz hsize hby hsz v n xs hown ⟨g, 0, none⟩ 1 c news hr.1 hcells h1 (by decide) h63 hbytes hrun
  unfold Oper.wp execOp
  simp only [ho, resolve, invoke, builtin, Sem.run_bind, Sem.run_pure, Result.andThen_ok, List.map_toArray, List.map_cons, List.map_nil, hs, hx, hrun]
  exact hK _ _ (h v' w' h2 h3 hk)
end
theorem rd_new1 (w : World) (u : Value) (e : TypeId) {g : Nat} (hg : g = w.heap.size) : Rd (w.alloc (.cells #[u] e)) (some ⟨g, 0, none⟩) 1 1 [u] := by
  subst hg
  exact Rd.one (by simp)
theorem rd_new2 (w : World) (u u2 : Value) (e : TypeId) {g : Nat} (hg : g = w.heap.size) : Rd (w.alloc (.cells #[u, u2] e)) (some ⟨g, 0, none⟩) 1 2 [u, u2] := by
  subst hg
  refine ⟨rfl, Or.inr ⟨_, 0, rfl, fun j x hj => ?_⟩⟩
  rw [Joins.cell_of_block (heap_alloc_new w _), Nat.zero_add]
  simpa using hj
theorem overI_any (A : Option Addr) (n cap : Nat) (xs : List Value) (base : Nat) (w : World) (ho : w.ownsRow base 3 1 (.slice A n cap) n xs) (hb : base ≤ w.heap.size) (hn : n ≤ 100000) :
    Calls Tryz.prog 24 #[.slice A n cap] w fun e' w' => e' = .returned (.tuple #[]) ∧ Below base w w' ∧ w.grownBy w' (Value.slice A n cap).ownBlock ∧ KeepB w w' := by
  obtain ⟨i0, hi, hz0, hz1, hz2⟩ := info_parts info_clInt
  go_enter Tryz.func24, Tryz.ntmps24
  go_wp2_with fail
  go_loopw [2] (fun i wr => ∃ (k : Nat) (ys : List Value), k ≤ n ∧ i = .int .i64 k ∧ wr.ownsRow base 3 1 (.slice A n cap) n ys ∧ Below base w wr ∧ w.grownBy wr (Value.slice A n cap).ownBlock ∧ Hid (KeepB w wr)) (fun i _ => n - (intOf i).toNat)
  case atStart => exact ⟨0, xs, Nat.zero_le _, rfl, ho, Below.refl _ _, World.grownBy.refl w _, Lib.hid (KeepB.refl w)⟩
  case round =>
    obtain ⟨k, ys, hk, rfl, hr, hB, hG, hK⟩ := hrel
    clear ho
    by_cases hlt : k < n
    · have hyl : ys.length = n * 1 := hr.1
      obtain ⟨g, cap', hg, -⟩ := hr.form (by omega)
      cases hg
      obtain ⟨cur, hcur⟩ := own_block hr
      have c0 : wr.cell? ⟨g, k, none⟩ = some (ys.getD (k) (.bool false)) := by
        rw [hr.cellAt (k) (by omega)]
        simp [show k < ys.length by omega]
      have f0 : wr.frozen? ⟨g, k, none⟩ = false := hr.frozenAt (k)
      have i0' : (0 : Int) ≤ (k : Int) := by omega
      have i1 : (k : Int) < (n : Int) := by omega
      have hst := hr.stored k (.int .i64 (-999))
      have hgl := (hr.lt g rfl).1
      have HC := Lib.hid hcur
      clear hyl hcur
      go_wp2_with fail
      go_roundw
      case rel => exact ⟨k + 1, ys.set k (.int .i64 (-999)), by omega, by go_num, hst.1, hB.setCell hgl _, hG.trans hst.2, Lib.hid (hK.out.trans (KeepB.set_ HC.out _ _))⟩
      case measure => simp [intOf]; omega
    · go_wp2_with (at_builtin; go_loud (refine wpList_appK _ rfl (.tmp 12) (.tmp 13) _ rfl base 3 i0 _ 1 8 Tryz.underlying44 hi hz0 hz1 hz2 rfl (by decide) _ _ _ rfl (hr.alloc _) _ _ [.int .i64 (-999)] rfl (rd_new1 _ _ _ (by simp)) (by simp [Value.oneCell']) (by unfold maxLen; omega) (by omega) (by simp; have := hB.size; omega) ?_; intro s2 w2 ho2 hg2 hk2))
      have HF : Below base w w2 := (hB.alloc (by have := hB.size; omega) _).trans (below_app (Nat.le_refl _) (by simp; have := hB.size; omega) (hr.alloc _) hg2)
      have HG2 : w.grownBy w2 (Value.slice A n cap).ownBlock := hG.trans (World.grownBy.trans (grown_below ((Below.refl _ _).alloc (Nat.le_refl _) _)) hg2)
      exact bodyPost_end (v := .tuple #[]) (by simp [results, Tryz.results24, go_sem]) rfl ⟨rfl, HF, HG2, (hK.out.trans (KeepB.alloc_ _ _)).trans hk2⟩
theorem overT_any (A : Option Addr) (n cap : Nat) (xs : List Value) (base : Nat) (w : World) (ho : w.ownsRow base 9 1 (.slice A n cap) n xs) (hb : base ≤ w.heap.size) (hn : n ≤ 100000) :
    Calls Tryz.prog 23 #[.slice A n cap] w fun e' w' => e' = .returned (.tuple #[]) ∧ Below base w w' ∧ w.grownBy w' (Value.slice A n cap).ownBlock ∧ KeepB w w' := by
  obtain ⟨i0, hi, hz0, hz1, hz2⟩ := info_parts info_clStr
  go_enter Tryz.func23, Tryz.ntmps23
  go_wp2_with fail
  go_loopw [2] (fun i wr => ∃ (k : Nat) (ys : List Value), k ≤ n ∧ i = .int .i64 k ∧ wr.ownsRow base 9 1 (.slice A n cap) n ys ∧ Below base w wr ∧ w.grownBy wr (Value.slice A n cap).ownBlock ∧ Hid (KeepB w wr)) (fun i _ => n - (intOf i).toNat)
  case atStart => exact ⟨0, xs, Nat.zero_le _, rfl, ho, Below.refl _ _, World.grownBy.refl w _, Lib.hid (KeepB.refl w)⟩
  case round =>
    obtain ⟨k, ys, hk, rfl, hr, hB, hG, hK⟩ := hrel
    clear ho
    by_cases hlt : k < n
    · have hyl : ys.length = n * 1 := hr.1
      obtain ⟨g, cap', hg, -⟩ := hr.form (by omega)
      cases hg
      obtain ⟨cur, hcur⟩ := own_block hr
      have c0 : wr.cell? ⟨g, k, none⟩ = some (ys.getD (k) (.bool false)) := by
        rw [hr.cellAt (k) (by omega)]
        simp [show k < ys.length by omega]
      have f0 : wr.frozen? ⟨g, k, none⟩ = false := hr.frozenAt (k)
      have i0' : (0 : Int) ≤ (k : Int) := by omega
      have i1 : (k : Int) < (n : Int) := by omega
      have hst := hr.stored k (.string ⟨#[111, 118, 101, 114]⟩)
      have hgl := (hr.lt g rfl).1
      have HC := Lib.hid hcur
      clear hyl hcur
      go_wp2_with fail
      go_roundw
      case rel => exact ⟨k + 1, ys.set k (.string ⟨#[111, 118, 101, 114]⟩), by omega, by go_num, hst.1, hB.setCell hgl _, hG.trans hst.2, Lib.hid (hK.out.trans (KeepB.set_ HC.out _ _))⟩
      case measure => simp [intOf]; omega
    · go_wp2_with (at_builtin; go_loud (refine wpList_appK _ rfl (.tmp 12) (.tmp 13) _ rfl base 9 i0 _ 1 16 Tryz.underlying43 hi hz0 hz1 hz2 rfl (by decide) _ _ _ rfl (hr.alloc _) _ _ [.string ⟨#[111, 118, 101, 114]⟩] rfl (rd_new1 _ _ _ (by simp)) (by simp [Value.oneCell']) (by unfold maxLen; omega) (by omega) (by simp; have := hB.size; omega) ?_; intro s2 w2 ho2 hg2 hk2))
      have HF : Below base w w2 := (hB.alloc (by have := hB.size; omega) _).trans (below_app (Nat.le_refl _) (by simp; have := hB.size; omega) (hr.alloc _) hg2)
      have HG2 : w.grownBy w2 (Value.slice A n cap).ownBlock := hG.trans (World.grownBy.trans (grown_below ((Below.refl _ _).alloc (Nat.le_refl _) _)) hg2)
      exact bodyPost_end (v := .tuple #[]) (by simp [results, Tryz.results23, go_sem]) rfl ⟨rfl, HF, HG2, (hK.out.trans (KeepB.alloc_ _ _)).trans hk2⟩
theorem overB_any (A : Option Addr) (n cap : Nat) (xs : List Value) (base : Nat) (w : World) (ho : w.ownsRow base 59 2 (.slice A n cap) n xs) (hb : base ≤ w.heap.size) (hn : n ≤ 100000) :
    Calls Tryz.prog 50 #[.slice A n cap] w fun e' w' => e' = .returned (.tuple #[]) ∧ Below base w w' ∧ w.grownBy w' (Value.slice A n cap).ownBlock ∧ KeepB w w' := by
  obtain ⟨i0, hi, hz0, hz1, hz2⟩ := info_parts info_clBk
  go_enter Tryz.func50, Tryz.ntmps50
  go_wp2_with fail
  go_loopw [2] (fun i wr => ∃ (k : Nat) (ys : List Value), k ≤ n ∧ i = .int .i64 k ∧ wr.ownsRow base 59 2 (.slice A n cap) n ys ∧ Below base w wr ∧ w.grownBy wr (Value.slice A n cap).ownBlock ∧ Hid (KeepB w wr)) (fun i _ => n - (intOf i).toNat)
  case atStart => exact ⟨0, xs, Nat.zero_le _, rfl, ho, Below.refl _ _, World.grownBy.refl w _, Lib.hid (KeepB.refl w)⟩
  case round =>
    obtain ⟨k, ys, hk, rfl, hr, hB, hG, hK⟩ := hrel
    clear ho
    by_cases hlt : k < n
    · have hyl : ys.length = n * 2 := hr.1
      obtain ⟨g, cap', hg, -⟩ := hr.form (by omega)
      cases hg
      obtain ⟨cur, hcur⟩ := own_block hr
      have c0 : wr.cell? ⟨g, k * 2, none⟩ = some (ys.getD (k * 2) (.bool false)) := by
        rw [hr.cellAt (k * 2) (by omega)]
        simp [show k * 2 < ys.length by omega]
      have f0 : wr.frozen? ⟨g, k * 2, none⟩ = false := hr.frozenAt (k * 2)
      have c1 : wr.cell? ⟨g, k * 2 + 1, none⟩ = some (ys.getD (k * 2 + 1) (.bool false)) := by
        rw [hr.cellAt (k * 2 + 1) (by omega)]
        simp [show k * 2 + 1 < ys.length by omega]
      have f1 : wr.frozen? ⟨g, k * 2 + 1, none⟩ = false := hr.frozenAt (k * 2 + 1)
      have i0' : (0 : Int) ≤ (k : Int) := by omega
      have i1 : (k : Int) < (n : Int) := by omega
      have hst := hr.stored (k * 2) (.int .i64 (-9))
      have hst2 := hst.1.stored (k * 2 + 1) (.string ByteArray.empty)
      obtain ⟨cur2, hcur2⟩ := own_block hst.1
      have HC2 := Lib.hid hcur2
      clear hcur2
      have hgl := (hr.lt g rfl).1
      have HC := Lib.hid hcur
      clear hyl hcur
      go_wp2_with fail
      go_roundw
      case rel => exact ⟨k + 1, (ys.set (k * 2) (.int .i64 (-9))).set (k * 2 + 1) (.string ByteArray.empty), by omega, by go_num, hst2.1, (hB.setCell hgl _).setCell hgl _, (hG.trans hst.2).trans hst2.2, Lib.hid ((hK.out.trans (KeepB.set_ HC.out _ _)).trans (KeepB.set_ HC2.out _ _))⟩
      case measure => simp [intOf]; omega
    · go_wp2_with (at_builtin; go_loud (refine wpList_appK _ rfl (.tmp 13) (.tmp 15) _ rfl base 59 i0 _ 2 24 Tryz.underlying22 hi hz0 hz1 hz2 rfl (by decide) _ _ _ rfl (hr.alloc _) _ _ [.int .i64 (-9), .string ByteArray.empty] rfl (rd_new2 _ _ _ _ (by simp)) (by simp [Value.oneCell']) (by unfold maxLen; omega) (by omega) (by simp; have := hB.size; omega) ?_; intro s2 w2 ho2 hg2 hk2))
      have HF : Below base w w2 := (hB.alloc (by have := hB.size; omega) _).trans (below_app (Nat.le_refl _) (by simp; have := hB.size; omega) (hr.alloc _) hg2)
      have HG2 : w.grownBy w2 (Value.slice A n cap).ownBlock := hG.trans (World.grownBy.trans (grown_below ((Below.refl _ _).alloc (Nat.le_refl _) _)) hg2)
      exact bodyPost_end (v := .tuple #[]) (by simp [results, Tryz.results50, go_sem]) rfl ⟨rfl, HF, HG2, (hK.out.trans (KeepB.alloc_ _ _)).trans hk2⟩
theorem overIt_any (A : Option Addr) (n cap : Nat) (xs : List Value) (base : Nat) (w : World) (ho : w.ownsRow base 64 2 (.slice A n cap) n xs) (hb : base ≤ w.heap.size) (hn : n ≤ 100000) :
    Calls Tryz.prog 22 #[.slice A n cap] w fun e' w' => e' = .returned (.tuple #[]) ∧ Below base w w' ∧ w.grownBy w' (Value.slice A n cap).ownBlock ∧ KeepB w w' := by
  obtain ⟨i0, hi, hz0, hz1, hz2⟩ := info_parts infoIt
  go_enter Tryz.func22, Tryz.ntmps22
  go_wp2_with fail
  go_loopw [2] (fun i wr => ∃ (k : Nat) (ys : List Value), k ≤ n ∧ i = .int .i64 k ∧ wr.ownsRow base 64 2 (.slice A n cap) n ys ∧ Below base w wr ∧ w.grownBy wr (Value.slice A n cap).ownBlock ∧ Hid (KeepB w wr)) (fun i _ => n - (intOf i).toNat)
  case atStart => exact ⟨0, xs, Nat.zero_le _, rfl, ho, Below.refl _ _, World.grownBy.refl w _, Lib.hid (KeepB.refl w)⟩
  case round =>
    obtain ⟨k, ys, hk, rfl, hr, hB, hG, hK⟩ := hrel
    clear ho
    by_cases hlt : k < n
    · have hyl : ys.length = n * 2 := hr.1
      obtain ⟨g, cap', hg, -⟩ := hr.form (by omega)
      cases hg
      obtain ⟨cur, hcur⟩ := own_block hr
      have c0 : wr.cell? ⟨g, k * 2, none⟩ = some (ys.getD (k * 2) (.bool false)) := by
        rw [hr.cellAt (k * 2) (by omega)]
        simp [show k * 2 < ys.length by omega]
      have f0 : wr.frozen? ⟨g, k * 2, none⟩ = false := hr.frozenAt (k * 2)
      have c1 : wr.cell? ⟨g, k * 2 + 1, none⟩ = some (ys.getD (k * 2 + 1) (.bool false)) := by
        rw [hr.cellAt (k * 2 + 1) (by omega)]
        simp [show k * 2 + 1 < ys.length by omega]
      have f1 : wr.frozen? ⟨g, k * 2 + 1, none⟩ = false := hr.frozenAt (k * 2 + 1)
      have i0' : (0 : Int) ≤ (k : Int) := by omega
      have i1 : (k : Int) < (n : Int) := by omega
      have hst := hr.stored (k * 2) (.int .i64 (-9))
      have hst2 := hst.1.stored (k * 2 + 1) (.string ByteArray.empty)
      obtain ⟨cur2, hcur2⟩ := own_block hst.1
      have HC2 := Lib.hid hcur2
      clear hcur2
      have hgl := (hr.lt g rfl).1
      have HC := Lib.hid hcur
      clear hyl hcur
      go_wp2_with fail
      go_roundw
      case rel => exact ⟨k + 1, (ys.set (k * 2) (.int .i64 (-9))).set (k * 2 + 1) (.string ByteArray.empty), by omega, by go_num, hst2.1, (hB.setCell hgl _).setCell hgl _, (hG.trans hst.2).trans hst2.2, Lib.hid ((hK.out.trans (KeepB.set_ HC.out _ _)).trans (KeepB.set_ HC2.out _ _))⟩
      case measure => simp [intOf]; omega
    · go_wp2_with (at_builtin; go_loud (refine wpList_appK _ rfl (.tmp 13) (.tmp 15) _ rfl base 64 i0 _ 2 24 Tryz.underlying36 hi hz0 hz1 hz2 rfl (by decide) _ _ _ rfl (hr.alloc _) _ _ [.int .i64 (-9), .string ByteArray.empty] rfl (rd_new2 _ _ _ _ (by simp)) (by simp [Value.oneCell']) (by unfold maxLen; omega) (by omega) (by simp; have := hB.size; omega) ?_; intro s2 w2 ho2 hg2 hk2))
      have HF : Below base w w2 := (hB.alloc (by have := hB.size; omega) _).trans (below_app (Nat.le_refl _) (by simp; have := hB.size; omega) (hr.alloc _) hg2)
      have HG2 : w.grownBy w2 (Value.slice A n cap).ownBlock := hG.trans (World.grownBy.trans (grown_below ((Below.refl _ _).alloc (Nat.le_refl _) _)) hg2)
      exact bodyPost_end (v := .tuple #[]) (by simp [results, Tryz.results22, go_sem]) rfl ⟨rfl, HF, HG2, (hK.out.trans (KeepB.alloc_ _ _)).trans hk2⟩
theorem KeepB.setA (w : World) (g j : Nat) (u : Value) : KeepB w (w.setCell ⟨g, j, none⟩ u) := by
  intro k c2 t2 fr2 hk
  by_cases h : k = g
  · subst h
    have hlt : k < w.heap.size := (Array.getElem?_eq_some_iff.1 hk).1
    have hv : w.heap[k] = .cells c2 t2 fr2 := (Array.getElem?_eq_some_iff.1 hk).2
    refine ⟨c2.setIfInBounds j u, ?_, by simp⟩
    unfold World.setCell
    rw [Array.getElem?_eq_getElem (by simpa using hlt), Array.getElem_modify]
    simp [hv]
  · have hlt : k < w.heap.size := (Array.getElem?_eq_some_iff.1 hk).1
    exact ⟨c2, ((set1_grown w g j u).block k hlt (fun h2 => h (by injection h2))).trans hk, rfl⟩
theorem KeepB.st5_ (w : World) (g o : Nat) (a0 a1 a2 a3 a4 : Value) : KeepB w (st5 w g o a0 a1 a2 a3 a4) := ((((KeepB.setA w _ _ _).trans (KeepB.setA _ _ _ _)).trans (KeepB.setA _ _ _ _)).trans (KeepB.setA _ _ _ _)).trans (KeepB.setA _ _ _ _)
theorem st5_other (w : World) (g o : Nat) (a0 a1 a2 a3 a4 : Value) (j : Nat) (hj : o + 5 ≤ j) : (st5 w g o a0 a1 a2 a3 a4).cell? ⟨g, j, none⟩ = w.cell? ⟨g, j, none⟩ := by
  have h : ∀ (W : World) (i : Nat) (u : Value), i ≠ j → (W.setCell ⟨g, i, none⟩ u).cell? ⟨g, j, none⟩ = W.cell? ⟨g, j, none⟩ := by
    intro W i u hne
    apply World.cell?_setCell_other
    intro he
    injection he with h1 h2
    exact hne h2
  unfold st5
  rw [h _ _ _ (by omega), h _ _ _ (by omega), h _ _ _ (by omega), h _ _ _ (by omega), h _ _ _ (by omega)]
structure OvI (W : World) (base g0 gn m k : Nat) (cs : Array Value) (wr : World) : Prop where
  be : Below base W wr
  kp : KeepB W wr
  bx : Blk wr g0 25 cs
  ce : ∀ (j : Nat) (u : Value), k * 5 ≤ j → W.cell? ⟨gn, j, none⟩ = some u → wr.cell? ⟨gn, j, none⟩ = some u
theorem OvI.row {W wr w2 : World} {base g0 gn m k : Nat} {cs : Array Value} {row : Option Nat} (h : OvI W base g0 gn m k cs wr) (hb : Below base wr w2) (hg : wr.grownBy w2 row) (hk : KeepB wr w2) (h0 : row ≠ some g0) (hn : row ≠ some gn) : OvI W base g0 gn m k cs w2 :=
  ⟨h.be.trans hb, h.kp.trans hk, h.bx.grownR hg h0, fun j u hj hu => hg.cell (h.ce j u hj hu) (fun e => hn e.symm)⟩
theorem own_neq {w : World} {b1 b2 C1 C2 n1 n2 : Nat} {e1 e2 : TypeId} {v1 : Value} {x1 x2 : List Value} {g c : Nat} (h1 : w.ownsRow b1 e1 C1 v1 n1 x1) (h2 : w.ownsRow b2 e2 C2 (.slice (some ⟨g, 0, none⟩) n2 c) n2 x2) (hne : e1 ≠ e2) : v1.ownBlock ≠ some g := by
  rcases own_apart h1 h2 hne with h | h
  · rw [h]
    simp
  · exact fun e => h (e.trans rfl)
theorem overS_any (T : Sf) (base : Nat) (v : Value) (w : World) (hA : ShW w base v T) (hb : base ≤ w.heap.size) (m0 : T.bs.length ≤ 100000) (m1 : T.ts.length ≤ 100000) (m2 : ∀ n ∈ T.ts, n.tg.length ≤ 100000 ∧ n.sh.length ≤ 100000) :
    Calls Tryz.prog 12 #[v] w fun e' w' => e' = .returned (.tuple #[]) ∧ Below base w w' := by
  obtain ⟨Ab, cb, An, cn, rfl, h1, ⟨es, hel, hon, hnt⟩, -⟩ := hA.parts
  obtain ⟨m, hm⟩ : ∃ m, T.ts.length = m := ⟨_, rfl⟩
  rw [hm] at hel hon m1 ⊢
  have HM := Lib.hid hm
  have HM2 := Lib.hid m2
  clear hm m2 hA
  have h5 : ∀ x ∈ es, x.length = 5 := es_five (hel.trans HM.out.symm) hnt
  have HNT := Lib.hid hnt
  clear hnt
  have hbw : Below base w (w.alloc (.cells #[.int .i64 T.nb, .int .i64 T.nn, .int .i64 T.ns, .slice Ab T.bs.length cb, .slice An m cn] 25)) := (Below.refl base w).alloc hb _
  have B1 : Blk (w.alloc (.cells #[.int .i64 T.nb, .int .i64 T.nn, .int .i64 T.ns, .slice Ab T.bs.length cb, .slice An m cn] 25)) w.heap.size 25 #[.int .i64 T.nb, .int .i64 T.nn, .int .i64 T.ns, .slice Ab T.bs.length cb, .slice An m cn] := Blk.new_ w 25 #[.int .i64 T.nb, .int .i64 T.nn, .int .i64 T.ns, .slice Ab T.bs.length cb, .slice An m cn]
  have k1 : KeepB w (w.alloc (.cells #[.int .i64 T.nb, .int .i64 T.nn, .int .i64 T.ns, .slice Ab T.bs.length cb, .slice An m cn] 25)) := KeepB.alloc_ w _
  have ha : Below w.heap.size w (w.alloc (.cells #[.int .i64 T.nb, .int .i64 T.nn, .int .i64 T.ns, .slice Ab T.bs.length cb, .slice An m cn] 25)) := (Below.refl _ w).alloc (Nat.le_refl _) _
  have h1w : (w.alloc (.cells #[.int .i64 T.nb, .int .i64 T.nn, .int .i64 T.ns, .slice Ab T.bs.length cb, .slice An m cn] 25)).ownsRow base 59 2 (.slice Ab T.bs.length cb) T.bs.length (T.bs.map bkC).flatten := own_belowW h1 ha
  have honw := own_belowW hon ha
  have hsz : base ≤ ((w.alloc (.cells #[.int .i64 T.nb, .int .i64 T.nn, .int .i64 T.ns, .slice Ab T.bs.length cb, .slice An m cn] 25))).heap.size := by simp; omega
  have hB0 : ∀ g, (Value.slice Ab T.bs.length cb).ownBlock = some g → g < w.heap.size := fun g hg => (World.ownsRow.lt h1 g hg).2
  have hN0 : ∀ g, (Value.slice An m cn).ownBlock = some g → g < w.heap.size := fun g hg => (World.ownsRow.lt hon g hg).2
  have HCE : Hid (∀ (g j : Nat) (u : Value), g < w.heap.size → w.cell? ⟨g, j, none⟩ = some u → ((w.alloc (.cells #[.int .i64 T.nb, .int .i64 T.nn, .int .i64 T.ns, .slice Ab T.bs.length cb, .slice An m cn] 25))).cell? ⟨g, j, none⟩ = some u) := Lib.hid (fun g j u hg hu => (ha.cell (p := ⟨g, j, none⟩) hg).trans hu)
  go_enter Tryz.func12, Tryz.ntmps12
  go_upto_region 1 with fail
  obtain ⟨W, hW⟩ : ∃ V : World, V = (w.alloc (.cells #[.int .i64 T.nb, .int .i64 T.nn, .int .i64 T.ns, .slice Ab T.bs.length cb, .slice An m cn] 25)) := ⟨_, rfl⟩
  change Code.wp _ _ _ _ ((w.alloc (.cells #[.int .i64 T.nb, .int .i64 T.nn, .int .i64 T.ns, .slice Ab T.bs.length cb, .slice An m cn] 25)))
  rw [← hW] at hbw B1 k1 h1w honw hsz ⊢
  have HKW := Lib.hid k1
  clear hW ha k1 HCE
  have k3 := B1.cell_ 3
  have k4 := B1.cell_ 4
  simp at k3 k4
  go_upto_region 2 with (go_at_call 50; go_loud (((with_reducible refine (overB_any _ _ _ _ base _ h1w hsz m0).mono ?_); rintro e' w2 ⟨rfl, b2, g2, kb2⟩; have B2 := B1.grownR g2 (fun h => by have := hB0 _ h; omega); have hb2 := hbw.trans b2; have HK2 := Lib.hid (HKW.out.trans kb2); (obtain ⟨ys, hon2⟩ := own_keepB honw kb2); have hs2 := b2.size; have HOC : Hid (∀ (gn j : Nat) (u : Value), An = some ⟨gn, 0, none⟩ → W.cell? ⟨gn, j, none⟩ = some u → w2.cell? ⟨gn, j, none⟩ = some u) := Lib.hid (fun gn j u hgn hu => g2.cell hu (fun e => by (subst hgn); exact own_neq h1w honw (by decide) e.symm)); have k4 := B2.cell_ 4; simp at k4; clear b2 g2 kb2 k3)))
  clear h1w h1
  go_wp2_with fail
  go_loopw [2] (fun iv wr => ∃ k : Nat, k ≤ m ∧ iv = .int .i64 k ∧ Hid (∀ gn, An = some ⟨gn, 0, none⟩ → OvI w2 base w.heap.size gn m k #[.int .i64 T.nb, .int .i64 T.nn, .int .i64 T.ns, .slice Ab T.bs.length cb, .slice An m cn] wr) ∧ Blk wr w.heap.size 25 #[.int .i64 T.nb, .int .i64 T.nn, .int .i64 T.ns, .slice Ab T.bs.length cb, .slice An m cn] ∧ Below base w wr ∧ base ≤ wr.heap.size) (fun iv _ => m - (intOf iv).toNat)
  case atStart => exact ⟨0, Nat.zero_le _, rfl, Lib.hid (fun gn _ => ⟨Below.refl _ _, KeepB.refl _, B2, fun j u _ hu => hu⟩), B2, hb2, by omega⟩
  case round =>
    obtain ⟨k, hk, rfl, HO, BX, HBb, hs⟩ := hrel
    have k4 := BX.cell_ 4
    simp at k4
    have i0 : (0 : Int) ≤ (k : Int) := by omega
    by_cases hlt : k < m
    · have i1 : (k : Int) < (m : Int) := by omega
      obtain ⟨gn, hgn⟩ : ∃ gn, An = some ⟨gn, 0, none⟩ := by
        rcases hon.2 with ⟨h, h0⟩ | ⟨g, c, cu, h, hb, _⟩
        · omega
        · injection h with h1 h2 h3
          exact ⟨g, h1⟩
      subst hgn
      have hO := HO.out gn rfl
      obtain ⟨hgb, hgw⟩ := World.ownsRow.lt hon gn rfl
      obtain ⟨a, ha⟩ : ∃ a, T.ts[k]? = some a := ⟨_, List.getElem?_eq_getElem (by rw [HM.out]; exact hlt)⟩
      obtain ⟨e0, he⟩ : ∃ e, es[k]? = some e := ⟨_, List.getElem?_eq_getElem (by omega)⟩
      obtain ⟨vt, vs, rfl, o1, o2⟩ := HNT.out k a e0 ha he
      obtain ⟨At, ct, rfl, q31, q32⟩ := own_shape o1
      obtain ⟨As, cs, rfl, q33, q34⟩ := own_shape o2
      have hsm := HM2.out a (List.mem_of_getElem? ha)
      have hsm1 := hsm.1
      have hsm2 := hsm.2
      have HY : ∀ (i : Nat) (u : Value), (ntC a (.slice At a.tg.length ct) (.slice As a.sh.length cs))[i]? = some u → w2.cell? ⟨gn, k * 5 + i, none⟩ = some u := fun i u hu => HOC.out gn _ _ rfl (own_cellE honw h5 he hu)
      have y3 := hO.ce (k * 5 + 3) _ (by omega) (HY 3 _ rfl)
      obtain ⟨xt, ot⟩ := own_keepB o1 (HK2.out.trans hO.kp)
      have nt1 : (Value.slice At a.tg.length ct).ownBlock ≠ some gn := own_neq o1 hon (by decide)
      have nt0 : (Value.slice At a.tg.length ct).ownBlock ≠ some w.heap.size := fun h => by have := (World.ownsRow.lt o1 _ h).2; omega
      have ns1 : (Value.slice As a.sh.length cs).ownBlock ≠ some gn := own_neq o2 hon (by decide)
      have ns0 : (Value.slice As a.sh.length cs).ownBlock ≠ some w.heap.size := fun h => by have := (World.ownsRow.lt o2 _ h).2; omega
      have HO2 := Lib.hid o2
      have HYH := Lib.hid HY
      clear ha he o1 o2 hsm HY
      go_upto_region 6 with (go_at_call 23; go_loud (((with_reducible refine (overT_any _ _ _ _ base _ ot hs hsm1).mono ?_); rintro e' w3 ⟨rfl, b3, g3, kb3⟩; have hO3 := hO.row b3 g3 kb3 nt0 nt1; have HB3 := HBb.trans b3; have hs3 : base ≤ w3.heap.size := Nat.le_trans hs b3.size; (obtain ⟨xi, oi⟩ := own_keepB HO2.out (HK2.out.trans hO3.kp)); have k4 := hO3.bx.cell_ 4; simp at k4; have y4 := hO3.ce (k * 5 + 4) _ (by omega) (HYH.out 4 _ rfl); clear b3 g3 kb3 y3 ot hO HBb BX)))
      go_upto_region 7 with (go_at_call 24; go_loud (((with_reducible refine (overI_any _ _ _ _ base _ oi hs3 hsm2).mono ?_); rintro e' w4 ⟨rfl, b4, g4, kb4⟩; have hO4 := hO3.row b4 g4 kb4 ns0 ns1; have HB4 := HB3.trans b4; have hs4 : base ≤ w4.heap.size := Nat.le_trans hs3 b4.size; (obtain ⟨yn, on4⟩ := own_keepB hon2 hO4.kp); have k4 := hO4.bx.cell_ 4; simp at k4; have x0 : w4.cell? ⟨gn, k * 5, none⟩ = some (.int .i64 a.id) := hO4.ce (k * 5 + 0) _ (by omega) (HYH.out 0 _ rfl); have f0 := World.ownsRow.frozenAt on4 (k * 5); have x1 := hO4.ce (k * 5 + 1) _ (by omega) (HYH.out 1 _ rfl); have f1 := World.ownsRow.frozenAt on4 (k * 5 + 1); have x2 := hO4.ce (k * 5 + 2) _ (by omega) (HYH.out 2 _ rfl); have f2 := World.ownsRow.frozenAt on4 (k * 5 + 2); have x3 := hO4.ce (k * 5 + 3) _ (by omega) (HYH.out 3 _ rfl); have f3 := World.ownsRow.frozenAt on4 (k * 5 + 3); have x4 := hO4.ce (k * 5 + 4) _ (by omega) (HYH.out 4 _ rfl); have f4 := World.ownsRow.frozenAt on4 (k * 5 + 4); clear b4 g4 kb4 y4 oi hO3 HB3)))
      go_wp2_with fail
      have hg5 := st5_grown w4 gn (k * 5) (.int .i64 (-9)) (.int .i64 0) (.string ByteArray.empty) (.slice none 0 0) (.slice none 0 0)
      have hbe := below_grown hO4.be hg5 hgb (by have := hO4.be.size; omega)
      have HB5 := below_grown HB4 hg5 hgb (by omega)
      have hbx := hO4.bx.grown hg5 (by omega)
      have hs5 := Nat.le_trans hs4 hg5.size
      have HO5 : Hid (∀ gm, (some ⟨gn, 0, none⟩ : Option Addr) = some ⟨gm, 0, none⟩ → OvI w2 base w.heap.size gm m (k + 1) _ (st5 w4 gn (k * 5) (.int .i64 (-9)) (.int .i64 0) (.string ByteArray.empty) (.slice none 0 0) (.slice none 0 0))) := Lib.hid (fun gm h => by
        injection h with h
        injection h with h1 h2
        subst h1
        exact ⟨hbe, hO4.kp.trans (KeepB.st5_ _ _ _ _ _ _ _ _), hbx, fun j u hj hu => (st5_other _ _ _ _ _ _ _ _ j (by omega)).trans (hO4.ce j u (by omega) hu)⟩)
      go_roundw
      case rel => exact ⟨k + 1, by omega, by go_num, HO5, hbx, HB5, hs5⟩
      case measure => simp [intOf]; omega
    · have hjn : k = m := by omega
      subst hjn
      go_wp2_with fail
      exact bodyPost_end (v := .tuple #[]) (by simp [results, Tryz.results12, go_sem]) rfl ⟨rfl, HBb⟩
end Go.Proofs.YtokhapafpjejaaaGreatDoor
namespace Go.Proofs.YtokhapafpjejaaaGreatDoor
open Go.ChangeShapes Go.WideShapes Go.ChangeAt Go.RowKit
attribute [local go_sem ↓] Go.wp_at_zero Go.wp_at_succ
theorem KeepB.map_ (w : World) (blk : Nat) (f : Array Value → Array Value) (hf : ∀ c, (f c).size = c.size) : KeepB w (Sort.mapBlock w blk f) := by
  intro k c2 t2 fr2 hk
  unfold Sort.mapBlock
  rw [Array.getElem?_modify, hk]
  by_cases h : blk = k
  · rw [if_pos h]
    exact ⟨f c2, rfl, hf c2⟩
  · rw [if_neg h]
    exact ⟨c2, rfl, rfl⟩
theorem KeepB.grow_ (w : World) (os : Array Obj) : KeepB w (Sort.grow w os) := by
  intro k c2 t2 fr2 hk
  have hlt : k < w.heap.size := (Array.getElem?_eq_some_iff.1 hk).1
  refine ⟨c2, ?_, rfl⟩
  show (w.heap ++ os)[k]? = _
  rw [Array.getElem?_append_left hlt]
  exact hk
theorem KeepB.sort_ {α : Type} [Inhabited α] (enc : α → List Value) (k : Nat) (w : World) (blk off m : Nat) (dk : Array α) (os : Array Obj) : KeepB w (Go.Proofs.sortWorldK enc k w blk off m dk os) := by
  have h1 : KeepB w (Sort.ahead w m) := fun g cs t fr h => ⟨cs, h, rfl⟩
  exact (h1.trans (KeepB.map_ _ _ _ (fun c => by simp [Sort.putCells]))).trans (KeepB.grow_ _ _)
theorem sort_keep (d : Array It) (g off cp : Nat) (w : World) (hH : Sort.HoldsK itC 2 w g off d) (hg : g < w.heap.size) (hsz : d.size < 4611686018427387904) :
    Calls Tryz.prog 76 #[.slice (some ⟨g, off, none⟩) d.size cp, .func (.func 77) #[] #[]] w fun e' w' => e' = .returned (.tuple #[]) ∧ ∃ its : List It, its.Perm d.toList ∧ OrdI its ∧ SlE 2 w' w'.heap.size (some ⟨g, off, none⟩) (its.map itC) ∧ (∀ B, B ≤ g → Below B w w') ∧ KeepB w w' := by
  have hcon := AnyQ.slices_SortFunc Tryz.laysSort 2 Tryz.isAgg64 Tryz.sizeOf64 itC (fun _ => rfl) itC_one cmpI swoI 77 #[] g off cp d w enterBN (cmpLaysI g off d.size w) hH hg hsz
  refine Calls.mono hcon ?_
  rintro e' w' ⟨he, d', n, os, hp, hs, rfl⟩
  have hds : d'.size = d.size := hp.1
  have hpp := hp.2.2
  refine ⟨he, d'.toList, ?_, sorted_of (by rw [hds]; exact hs), sl_of_holds (holdsK_sortWorldK_c itC 2 w g off d d' n os hH hg hds) (Nat.lt_of_lt_of_le hg (size_sortWorldK_c itC 2 w g off n d' os)), fun B hB => below_sortK hB hg, KeepB.sort_ _ _ _ _ _ _ _ _⟩
  have e1 : d.extract 0 d.size = d := by simp
  have e2 : d'.extract 0 d.size = d' := by rw [← hds]; simp
  rwa [e1, e2] at hpp
theorem byName_rowK (d : Array It) (g off cp : Nat) (w : World) (hH : Sort.HoldsK itC 2 w g off d) (hg : g < w.heap.size) (hsz : d.size < 4611686018427387904) :
    Calls Tryz.prog 51 #[.slice (some ⟨g, off, none⟩) d.size cp] w fun e' w' => e' = .returned (.slice (some ⟨g, off, none⟩) d.size cp) ∧ ∃ its : List It, its.Perm d.toList ∧ OrdI its ∧ SlE 2 w' w'.heap.size (some ⟨g, off, none⟩) (its.map itC) ∧ (∀ B, B ≤ g → Below B w w') ∧ KeepB w w' := by
  have hcon := sort_keep d g off cp w hH hg hsz
  clear hH
  go_enter Tryz.func51, Tryz.ntmps51
  go_wp2_with (go_at_call 76; go_loud (refine hcon.mono ?_; rintro e' wN ⟨rfl, its, h1, h2, h3, h4, h5⟩))
  go_ret
  exact ⟨rfl, its, h1, h2, h3, h4, h5⟩
theorem byName_keep (L : List It) (v : Value) (base : Nat) (w : World) (h : RowI w base v L) (hl : L.length ≤ 1000000) :
    Calls Tryz.prog 51 #[v] w fun e' w' => ∃ (A : Option Addr) (c : Nat) (its : List It), e' = .returned (.slice A its.length c) ∧ its.Perm L ∧ OrdI its ∧ SlE 2 w' w'.heap.size A (its.map itC) ∧ its.length ≤ c ∧ c ≤ maxLen ∧ Below base w w' ∧ ∃ xs, w'.ownsRow base 64 2 (.slice A its.length c) its.length xs := by
  rcases h.holds with ⟨rfl, rfl⟩ | ⟨g, cap, rfl, hb, hg, hc, hm, hH⟩
  · refine (byName_none none 0 w).mono ?_
    rintro e' w' ⟨rfl, rfl⟩
    exact ⟨none, 0, [], rfl, List.Perm.refl _, List.Pairwise.nil, Or.inl rfl, Nat.le_refl _, by unfold maxLen; omega, Below.refl _ _, [], World.ownsRow_nil _ _ _ _⟩
  · have := byName_rowK L.toArray g 0 cap w hH hg (by simp; omega)
    rw [show L.toArray.size = L.length by simp] at this
    refine this.mono ?_
    rintro e' w' ⟨rfl, its, h1, h2, h3, h4, h5⟩
    have hl2 : its.length = L.length := by simpa using h1.length_eq
    exact ⟨_, cap, its, by rw [hl2], by simpa using h1, h2, h3, by omega, hm, h4 base hb, by rw [hl2]; exact own_keepB h h5⟩
theorem books_own (s : Sf) (v : Value) (w : World) (hS : ShR w w.heap.size v s) (hT : Tabs w) (hM : mayS s = true) (hl : s.bs.length ≤ 6) :
    Calls Tryz.prog 13 #[v] w fun e' w' => ∃ (A : Option Addr) (c : Nat) (its : List It), e' = .returned (.slice A its.length c) ∧ its.Perm (s.bs.map bkIt) ∧ OrdI its ∧ SlE 2 w' w'.heap.size A (its.map itC) ∧ its.length ≤ c ∧ c ≤ maxLen ∧ Below w.heap.size w w' ∧ ∃ xs, w'.ownsRow w.heap.size 64 2 (.slice A its.length c) its.length xs := by
  have hS0 := hS
  obtain ⟨Ab, cb, An, cn, rfl, hB, hN, hcb, hmb, hcn, hmn⟩ := hS.ex
  clear hS
  obtain ⟨n, hn⟩ : ∃ n, s.bs.length = n := ⟨_, rfl⟩
  have HB : Below w.heap.size w (w.alloc (.cells #[.int .i64 s.nb, .int .i64 s.nn, .int .i64 s.ns, .slice Ab s.bs.length cb, .slice An s.ts.length cn] 25)) := ((Below.refl w.heap.size w).alloc (by first | (simp; done) | (simp; omega)) _)
  have B1 : Blk (w.alloc (.cells #[.int .i64 s.nb, .int .i64 s.nn, .int .i64 s.ns, .slice Ab s.bs.length cb, .slice An s.ts.length cn] 25)) w.heap.size 25 #[.int .i64 s.nb, .int .i64 s.nn, .int .i64 s.ns, .slice Ab s.bs.length cb, .slice An s.ts.length cn] := Blk.new_ w 25 #[.int .i64 s.nb, .int .i64 s.nn, .int .i64 s.ns, .slice Ab s.bs.length cb, .slice An s.ts.length cn]
  have S1 : ShR (w.alloc (.cells #[.int .i64 s.nb, .int .i64 s.nn, .int .i64 s.ns, .slice Ab s.bs.length cb, .slice An s.ts.length cn] 25)) ((w.alloc (.cells #[.int .i64 s.nb, .int .i64 s.nn, .int .i64 s.ns, .slice Ab s.bs.length cb, .slice An s.ts.length cn] 25))).heap.size (.agg #[.int .i64 s.nb, .int .i64 s.nn, .int .i64 s.ns, .slice Ab s.bs.length cb, .slice An s.ts.length cn]) s := hS0.next HB
  have T1 := hT.next HB
  rw [hn] at HB B1 S1 T1 hl ⊢
  have HN := Lib.hid hn
  have HM := Lib.hid hM
  clear hM hn hS0 hT
  go_enter Tryz.func13, Tryz.ntmps13
  go_upto_region 3 with (go_at_call 10; go_loud (((with_reducible refine (smay_any s _ _ S1 T1 _ HM.out).mono ?_); rintro e' w3 ⟨rfl, b3⟩; have B1 := B1.below b3 B1.lt; have HB := btr HB HB.size b3; have k0 := B1.cell_ 0; have k1 := B1.cell_ 1; have k2 := B1.cell_ 2; have k3 := B1.cell_ 3; have k4 := B1.cell_ 4; simp at k0 k1 k2 k3 k4; clear b3)))
  clear S1 T1
  go_wp2_with fail
  go_loopw [3, 12] (fun sv i wr => ∃ k : Nat, k ≤ n ∧ i = .int .i64 k ∧ Hid (RowI wr w3.heap.size sv ((s.bs.take k).map bkIt)) ∧ Below w.heap.size w wr ∧ w3.heap.size ≤ wr.heap.size) (fun _ i _ => n - (intOf i).toNat)
  case atStart => exact ⟨0, by omega, rfl, Lib.hid (World.ownsRow_nil _ _ _ _), HB, Nat.le_refl _⟩
  case round =>
    obtain ⟨k, hk, rfl, HR, HBr, hsz⟩ := hrel
    have hw3 := HB.size
    clear HB B1 k0 k1 k2 k3 k4
    by_cases hlt : k < n
    · have hlx : k < s.bs.length := by have := HN.out; omega
      have i0 : (0 : Int) ≤ (k : Int) := by omega
      have i1 : (k : Int) < (n : Int) := by omega
      obtain ⟨x, hx⟩ : ∃ x, s.bs[k]? = some x := ⟨_, List.getElem?_eq_getElem hlx⟩
      obtain ⟨b1, o1, rfl, l1, q1⟩ := SlE.at_ hB (by rw [List.length_map]; omega)
      have he : (s.bs.map bkC)[k]? = some (bkC x) := by rw [List.getElem?_map, hx]; rfl
      have y0 : wr.cell? ⟨b1, o1 + k * 2 + 0, none⟩ = some (.int .i64 x.id) := (HBr.cell (p := ⟨b1, _, none⟩) l1).trans (q1 k _ he 0 _ rfl)
      have y1 : wr.cell? ⟨b1, o1 + k * 2 + 1, none⟩ = some (.string x.nm) := (HBr.cell (p := ⟨b1, _, none⟩) l1).trans (q1 k _ he 1 _ rfl)
      simp only [Nat.add_zero] at y0
      have HX := Lib.hid hx
      obtain ⟨L, hL⟩ : ∃ L, (s.bs.take k).map bkIt = L := ⟨_, rfl⟩
      have hLl : L.length = k := by rw [← hL, List.length_map, List.length_take]; omega
      rw [hL] at HR
      have hon : wr.ownsRow w3.heap.size 64 2 _ L.length (L.flatMap itC) := HR.out
      have hLn : (s.bs.take (k + 1)).map bkIt = L ++ [bkIt x] := by rw [List.take_add_one, hx, List.map_append, hL]; rfl
      have HLN := Lib.hid hLn
      have hL6 : L.length ≤ 6 := by omega
      clear hx he q1 hL hLn hLl
      go_wp2_with (at_builtin; go_loud (obtain ⟨ti0, hi, hz0, hz1, hz2⟩ := info_parts infoIt; refine wpList_app _ rfl (.tmp 16) (.tmp 22) _ rfl w3.heap.size 64 ti0 _ 2 24 Tryz.underlying36 hi hz0 hz1 hz2 rfl (by decide) _ L.length (L.flatMap itC) rfl ((hon.alloc _).alloc _) _ 1 _ (itC (bkIt x)) rfl (rd_newI _ (bkIt x) (by simp)) (one1I _) (by unfold maxLen; omega) (by omega) (by simp; omega) ?_; intro v' w' ho' hg' hv'; clear hi hz0 hz1 hz2))
      have HF : Below w.heap.size w w' := ((HBr.alloc HBr.size _).alloc (by have := HBr.size; simp; omega) _).trans (below_app (by omega) (by simp; omega) ((hon.alloc _).alloc _) hg')
      have hsz2 : w3.heap.size ≤ w'.heap.size := by have := hg'.size; simp at this; omega
      have HR2 : Hid (RowI w' w3.heap.size v' ((s.bs.take (k + 1)).map bkIt)) := Lib.hid (by rw [HLN.out]; exact RowI.snoc ho')
      clear ho' hg' hv' hon y0 y1
      go_roundw
      case rel => exact ⟨k + 1, by omega, by go_num, HR2, HF, hsz2⟩
      case measure => simp [intOf]; omega
    · have hjn : k = n := by omega
      subst hjn
      rw [List.take_of_length_le (by rw [HN.out]; exact Nat.le_refl _)] at HR
      clear hlt
      go_wp2_with (go_at_call 51; go_loud (((with_reducible refine (byName_keep (s.bs.map bkIt) _ _ _ HR.out (by rw [List.length_map, HN.out]; omega)).mono ?_); rintro e' w5 ⟨A5, c5, its, rfl, p1, p2, p3, p4, p5, p6, xs, p7⟩)))
      go_ret
      exact ⟨A5, c5, its, rfl, p1, p2, p3, p4, p5, HBr.trans (p6.mono hw3), xs, own_base p7 hw3⟩
theorem notes_own (s : Sf) (v : Value) (x : Int) (w : World) (hS : ShR w w.heap.size v s) (hT : Tabs w) (hM : mayS s = true) (hI : 0 ≤ bookAt s x) (hl : s.ts.length ≤ 12) :
    Calls Tryz.prog 14 #[v, .int .i64 x] w fun e' w' => ∃ (A : Option Addr) (c : Nat) (its : List It), e' = .returned (.tuple #[.slice A its.length c, .int .i64 0]) ∧ its.Perm ((ofBook s x).map ntIt) ∧ OrdI its ∧ SlE 2 w' w'.heap.size A (its.map itC) ∧ its.length ≤ c ∧ c ≤ maxLen ∧ Below w.heap.size w w' ∧ ∃ xs, w'.ownsRow w.heap.size 64 2 (.slice A its.length c) its.length xs := by
  have hS0 := hS
  obtain ⟨Ab, cb, An, cn, rfl, hB, hN, hcb, hmb, hcn, hmn⟩ := hS.ex
  clear hS
  obtain ⟨n, hn⟩ : ∃ n, s.ts.length = n := ⟨_, rfl⟩
  have HB : Below w.heap.size w (w.alloc (.cells #[.int .i64 s.nb, .int .i64 s.nn, .int .i64 s.ns, .slice Ab s.bs.length cb, .slice An s.ts.length cn] 25)) := ((Below.refl w.heap.size w).alloc (by first | (simp; done) | (simp; omega)) _)
  have B1 : Blk (w.alloc (.cells #[.int .i64 s.nb, .int .i64 s.nn, .int .i64 s.ns, .slice Ab s.bs.length cb, .slice An s.ts.length cn] 25)) w.heap.size 25 #[.int .i64 s.nb, .int .i64 s.nn, .int .i64 s.ns, .slice Ab s.bs.length cb, .slice An s.ts.length cn] := Blk.new_ w 25 #[.int .i64 s.nb, .int .i64 s.nn, .int .i64 s.ns, .slice Ab s.bs.length cb, .slice An s.ts.length cn]
  have S1 : ShR (w.alloc (.cells #[.int .i64 s.nb, .int .i64 s.nn, .int .i64 s.ns, .slice Ab s.bs.length cb, .slice An s.ts.length cn] 25)) ((w.alloc (.cells #[.int .i64 s.nb, .int .i64 s.nn, .int .i64 s.ns, .slice Ab s.bs.length cb, .slice An s.ts.length cn] 25))).heap.size (.agg #[.int .i64 s.nb, .int .i64 s.nn, .int .i64 s.ns, .slice Ab s.bs.length cb, .slice An s.ts.length cn]) s := hS0.next HB
  have T1 := hT.next HB
  obtain ⟨es, hel, hse, hnt⟩ := hN.ex
  rw [hn] at HB B1 S1 T1 hl hel ⊢
  have HEL := Lib.hid hel
  have HN := Lib.hid hn
  obtain ⟨I, hIe⟩ : ∃ I, bookAt s x = I := ⟨_, rfl⟩
  have HI := Lib.hid hIe
  rw [hIe] at hI
  have HM := Lib.hid hM
  clear hM hn hS0 hT hIe hel hB
  go_enter Tryz.func14, Tryz.ntmps14
  go_upto_region 5 with (first | (go_at_call 10; go_loud (((with_reducible refine (smay_any s _ _ S1 T1 _ HM.out).mono ?_); rintro e' w3 ⟨rfl, b3⟩; have S1 := S1.next b3; have B1 := B1.below b3 B1.lt; have HB := btr HB HB.size b3; (try clear k0 k1 k2 k3 k4); have k0 := B1.cell_ 0; have k1 := B1.cell_ 1; have k2 := B1.cell_ 2; have k3 := B1.cell_ 3; have k4 := B1.cell_ 4; simp at k0 k1 k2 k3 k4; clear b3))) | (go_at_call 52; go_loud (((with_reducible refine (pBook_any s _ x _ S1).mono ?_); rintro e' w4 ⟨rfl, b4⟩; rw [HI.out]; have S1 := S1.next b4; have B1 := B1.below b4 B1.lt; have HB := btr HB HB.size b4; (try clear k0 k1 k2 k3 k4); have k0 := B1.cell_ 0; have k1 := B1.cell_ 1; have k2 := B1.cell_ 2; have k3 := B1.cell_ 3; have k4 := B1.cell_ 4; simp at k0 k1 k2 k3 k4; clear b4))))
  clear S1 T1
  go_wp2_with fail
  go_loopw [6, 21] (fun sv i wr => ∃ k : Nat, k ≤ n ∧ i = .int .i64 k ∧ Hid (RowI wr w4.heap.size sv (((s.ts.take k).filter fun m => m.bk == x).map ntIt)) ∧ Below w.heap.size w wr ∧ w4.heap.size ≤ wr.heap.size) (fun _ i _ => n - (intOf i).toNat)
  case atStart => exact ⟨0, by omega, rfl, Lib.hid (World.ownsRow_nil _ _ _ _), HB, Nat.le_refl _⟩
  case round =>
    obtain ⟨k, hk, rfl, HR, HBr, hsz⟩ := hrel
    have hw3 := HB.size
    clear HB B1 k0 k1 k2 k3 k4
    by_cases hlt : k < n
    · have hlx : k < s.ts.length := by have := HN.out; omega
      have i0 : (0 : Int) ≤ (k : Int) := by omega
      have i1 : (k : Int) < (n : Int) := by omega
      obtain ⟨y, hx⟩ : ∃ y, s.ts[k]? = some y := ⟨_, List.getElem?_eq_getElem hlx⟩
      obtain ⟨e0, he⟩ : ∃ e, es[k]? = some e := ⟨_, List.getElem?_eq_getElem (by have := HEL.out; omega)⟩
      obtain ⟨At, ct, As, cs, rfl, -⟩ := (hnt k y e0 hx he).ex
      obtain ⟨b1, o1, rfl, l1, q1⟩ := hse.at_ (by have := HEL.out; omega)
      have y0 : wr.cell? ⟨b1, o1 + k * 5 + 0, none⟩ = some (.int .i64 y.id) := (HBr.cell (p := ⟨b1, _, none⟩) l1).trans (q1 k _ he 0 _ rfl)
      have y1 : wr.cell? ⟨b1, o1 + k * 5 + 1, none⟩ = some (.int .i64 y.bk) := (HBr.cell (p := ⟨b1, _, none⟩) l1).trans (q1 k _ he 1 _ rfl)
      have y2 : wr.cell? ⟨b1, o1 + k * 5 + 2, none⟩ = some (.string y.nm) := (HBr.cell (p := ⟨b1, _, none⟩) l1).trans (q1 k _ he 2 _ rfl)
      have y3 : wr.cell? ⟨b1, o1 + k * 5 + 3, none⟩ = some (.slice At y.tg.length ct) := (HBr.cell (p := ⟨b1, _, none⟩) l1).trans (q1 k _ he 3 _ rfl)
      have y4 : wr.cell? ⟨b1, o1 + k * 5 + 4, none⟩ = some (.slice As y.sh.length cs) := (HBr.cell (p := ⟨b1, _, none⟩) l1).trans (q1 k _ he 4 _ rfl)
      simp only [Nat.add_zero] at y0
      have HX := Lib.hid hx
      obtain ⟨L, hL⟩ : ∃ L, ((s.ts.take k).filter fun m => m.bk == x).map ntIt = L := ⟨_, rfl⟩
      have hL6 : L.length ≤ 12 := by
        rw [← hL, List.length_map]
        have h1 := List.length_filter_le (fun m : Nt => m.bk == x) (s.ts.take k)
        rw [List.length_take] at h1
        omega
      rw [hL] at HR
      have HL := Lib.hid hL
      clear hx he q1 hL
      rcases (by cases hq : (y.bk == x) <;> simp : (y.bk == x) = true ∨ (y.bk == x) = false) with hp | hp
      · have hon : wr.ownsRow w4.heap.size 64 2 _ L.length (L.flatMap itC) := HR.out
        have HLN : Hid (((s.ts.take (k + 1)).filter fun m => m.bk == x).map ntIt = L ++ [ntIt y]) := Lib.hid (by rw [filter_yes HX.out hp, List.map_append, HL.out]; rfl)
        go_wp2_with (at_builtin; go_loud (obtain ⟨ti0, hi, hz0, hz1, hz2⟩ := info_parts infoIt; refine wpList_app _ rfl (.tmp 29) (.tmp 35) _ rfl w4.heap.size 64 ti0 _ 2 24 Tryz.underlying36 hi hz0 hz1 hz2 rfl (by decide) _ L.length (L.flatMap itC) rfl ((hon.alloc _).alloc _) _ 1 _ (itC (ntIt y)) rfl (rd_newI _ (ntIt y) (by simp)) (one1I _) (by unfold maxLen; omega) (by omega) (by simp; omega) ?_; intro v' w' ho' hg' hv'; clear hi hz0 hz1 hz2))
        have HF : Below w.heap.size w w' := ((HBr.alloc HBr.size _).alloc (by have := HBr.size; simp; omega) _).trans (below_app (by omega) (by simp; omega) ((hon.alloc _).alloc _) hg')
        have hsz2 : w4.heap.size ≤ w'.heap.size := by have := hg'.size; simp at this; omega
        have HR2 : Hid (RowI w' w4.heap.size v' (((s.ts.take (k + 1)).filter fun m => m.bk == x).map ntIt)) := Lib.hid (by rw [HLN.out]; exact RowI.snoc ho')
        clear ho' hg' hv' hon y0 y1
        go_roundw
        case rel => exact ⟨k + 1, by omega, by go_num, HR2, HF, hsz2⟩
        case measure => simp [intOf]; omega
      · have HLN : Hid (((s.ts.take (k + 1)).filter fun m => m.bk == x).map ntIt = L) := Lib.hid (by rw [filter_no HX.out hp, HL.out])
        have hon : wr.ownsRow w4.heap.size 64 2 _ L.length (L.flatMap itC) := HR.out
        have HF : Below w.heap.size w (wr.alloc (.cells #[.int .i64 y.id, .int .i64 y.bk, .string y.nm, .slice At y.tg.length ct, .slice As y.sh.length cs] 46)) := HBr.alloc HBr.size _
        have HR2 : Hid (RowI (wr.alloc (.cells #[.int .i64 y.id, .int .i64 y.bk, .string y.nm, .slice At y.tg.length ct, .slice As y.sh.length cs] 46)) w4.heap.size _ (((s.ts.take (k + 1)).filter fun m => m.bk == x).map ntIt)) := Lib.hid (by rw [HLN.out]; exact hon.alloc _)
        clear hon
        go_wp2_with fail
        go_roundw
        case rel => exact ⟨k + 1, by omega, by go_num, HR2, HF, by simp; omega⟩
        case measure => simp [intOf]; omega
    · have hjn : k = n := by omega
      subst hjn
      rw [List.take_of_length_le (by rw [HN.out]; exact Nat.le_refl _)] at HR
      have hfl : ((s.ts.filter fun m => m.bk == x).map ntIt).length ≤ 12 := by
        rw [List.length_map]
        have h1 := List.length_filter_le (fun m : Nt => m.bk == x) s.ts
        have := HN.out
        omega
      have HFL := Lib.hid hfl
      clear hlt hfl
      go_wp2_with (go_at_call 51; go_loud (((with_reducible refine (byName_keep ((s.ts.filter fun m => m.bk == x).map ntIt) _ _ _ HR.out (by have := HFL.out; omega)).mono ?_); rintro e' w5 ⟨A5, c5, its, rfl, p1, p2, p3, p4, p5, p6, xs, p7⟩)))
      go_ret2
      exact ⟨A5, c5, its, rfl, p1, p2, p3, p4, p5, HBr.trans (p6.mono hw3), xs, own_base p7 hw3⟩
end Go.Proofs.YtokhapafpjejaaaGreatDoor
namespace Go.Proofs.YtokhapafpjejaaaGreatDoor
open Go.ChangeShapes Go.WideShapes Go.ChangeAt Go.RowKit
attribute [local go_sem ↓] Go.wp_at_zero Go.wp_at_succ
def cntLt : List It → It → Nat
  | [], _ => 0
  | y :: l, x => if lessS y.nm x.nm = true then cntLt l x + 1 else 0
def insI (l : List It) (x : It) : List It := l.take (cntLt l x) ++ [x] ++ l.drop (cntLt l x)
theorem cntLt_of (x : It) : ∀ (l : List It) (k : Nat), (∀ y ∈ l.take k, lessS y.nm x.nm = true) → (k = l.length ∨ ∃ y, l[k]? = some y ∧ lessS y.nm x.nm = false) → cntLt l x = k
  | [], k, _, h => by
    rcases h with h | ⟨y, h, _⟩
    · simp at h
      subst h
      rfl
    · simp at h
  | a :: l, 0, _, h => by
    rcases h with h | ⟨y, h, hy⟩
    · simp at h
    · simp at h
      subst h
      unfold cntLt
      rw [if_neg (by rw [hy]; decide)]
  | a :: l, k + 1, h1, h => by
    have ha := h1 a (by simp)
    unfold cntLt
    rw [if_pos ha, cntLt_of x l k (fun y hy => h1 y (by simp [hy])) (by
      rcases h with h | ⟨y, h, hy⟩
      · left
        simpa using h
      · right
        exact ⟨y, by simpa using h, hy⟩)]
theorem rd_take {w : World} {B : Nat} {A A' : Option Addr} {es : List (List Value)} {k : Nat} (h : SlE 2 w B A es) (hC : ∀ x ∈ es, x.length = 2) (hk : k ≤ es.length) (hA : ∀ b o, A = some ⟨b, o, none⟩ → 0 < k → A' = some ⟨b, o, none⟩) : Rd w A' k 2 (es.take k).flatten := by
  have hl : (es.take k).flatten.length = k * 2 := by
    rw [← flat_take es k hC, List.length_take]
    have : es.flatten.length = es.length * 2 := flat_lenE _ hC
    omega
  refine ⟨hl, ?_⟩
  by_cases h0 : k = 0
  · exact Or.inl h0
  · rcases h with h | ⟨b, o, hb, _, hc⟩
    · rw [h] at hk
      simp at hk
      exact absurd hk h0
    · refine Or.inr ⟨b, o, hA b o hb (by omega), fun j u hu => ?_⟩
      obtain ⟨i, r, y, rfl, hy, hr⟩ := flat_getE (es.take k) (fun x hx => hC x (List.mem_of_mem_take hx)) j u hu
      have hik : i < k := by
        have := (List.getElem?_eq_some_iff.1 hy).1
        rw [List.length_take] at this
        omega
      rw [List.getElem?_take_of_lt hik] at hy
      have := hc i y hy r u hr
      rwa [Nat.add_assoc] at this
theorem rd_drop {w : World} {B : Nat} {A A' : Option Addr} {es : List (List Value)} {k : Nat} (h : SlE 2 w B A es) (hC : ∀ x ∈ es, x.length = 2) (hA : ∀ b o, A = some ⟨b, o, none⟩ → k < es.length → A' = some ⟨b, o + k * 2, none⟩) : Rd w A' (es.length - k) 2 (es.drop k).flatten := by
  have hl : (es.drop k).flatten.length = (es.length - k) * 2 := by
    have : (es.drop k).flatten.length = (es.drop k).length * 2 := flat_lenE _ (fun x hx => hC x (List.mem_of_mem_drop hx))
    rw [this, List.length_drop]
  refine ⟨hl, ?_⟩
  by_cases h0 : es.length ≤ k
  · exact Or.inl (by omega)
  · rcases h with h | ⟨b, o, hb, _, hc⟩
    · rw [h] at h0
      simp at h0
    · refine Or.inr ⟨b, o + k * 2, hA b o hb (by omega), fun j u hu => ?_⟩
      obtain ⟨i, r, y, rfl, hy, hr⟩ := flat_getE (es.drop k) (fun x hx => hC x (List.mem_of_mem_drop hx)) j u hu
      rw [List.getElem?_drop] at hy
      have := hc (k + i) y hy r u hr
      rw [Nat.add_mul] at this
      rw [show o + k * 2 + (i * 2 + r) = o + (k * 2 + i * 2) + r by omega]
      exact this
theorem Rd.cellOf {w : World} {g : Nat} {m C : Nat} {news : List Value} (h : Rd w (some ⟨g, 0, none⟩) m C news) (j : Nat) (u : Value) (hj : news[j]? = some u) : w.cell? ⟨g, 0 + j, none⟩ = some u := by
  rcases h.2 with h0 | ⟨b, o, he, hc⟩
  · have h1 := h.1
    rw [h0] at h1
    have := (List.getElem?_eq_some_iff.1 hj).1
    omega
  · injection he with he
    injection he with h1 h2
    subst h1 h2
    exact hc j u hj
theorem rinto_any (l : List It) (x : It) (A : Option Addr) (c : Nat) (w : World) (hS : SlE 2 w w.heap.size A (l.map itC)) (hc : l.length ≤ c) (hm : c ≤ maxLen) (hl : l.length ≤ 1000) :
    Calls Tryz.prog 54 #[.slice A l.length c, .agg #[.int .i64 x.id, .string x.nm]] w fun e' w' => ∃ A2 c2, e' = .returned (.slice A2 (l.length + 1) c2) ∧ SlE 2 w' w'.heap.size A2 ((insI l x).map itC) ∧ l.length + 1 ≤ c2 ∧ c2 ≤ maxLen ∧ Below w.heap.size w w' := by
  obtain ⟨n, hn⟩ : ∃ n, l.length = n := ⟨_, rfl⟩
  have HN := Lib.hid hn
  rw [hn] at hc hl ⊢
  have HB : Below w.heap.size w (w.alloc (.cells #[.int .i64 x.id, .string x.nm] 64)) := (Below.refl _ w).alloc (Nat.le_refl _) _
  have XB : Blk (w.alloc (.cells #[.int .i64 x.id, .string x.nm] 64)) w.heap.size 64 #[.int .i64 x.id, .string x.nm] := Blk.new_ w 64 #[.int .i64 x.id, .string x.nm]
  have hL := hS.below HB
  have hlw : w.heap.size < (w.alloc (.cells #[.int .i64 x.id, .string x.nm] 64)).heap.size := by simp
  clear hn hS
  go_enter Tryz.func54, Tryz.ntmps54
  go_upto_block 0 with fail
  obtain ⟨W, hW⟩ : ∃ V : World, V = w.alloc (.cells #[.int .i64 x.id, .string x.nm] 64) := ⟨_, rfl⟩
  change Code.wp _ _ _ _ (w.alloc (.cells #[.int .i64 x.id, .string x.nm] 64))
  rw [← hW] at HB XB hL hlw ⊢
  clear hW
  go_cut [5] (fun kv wx => ∃ k : Nat, kv = .int .i64 k ∧ Hid (cntLt l x = k) ∧ k ≤ n ∧ Below W.heap.size W wx)
  case first =>
    go_wp2_with fail
    go_loopw [5] (fun iv wr => ∃ k : Nat, k ≤ n ∧ iv = .int .i64 k ∧ Hid (∀ y ∈ l.take k, lessS y.nm x.nm = true) ∧ Below W.heap.size W wr) (fun iv _ => n - (intOf iv).toNat)
    case atStart => exact ⟨0, Nat.zero_le _, rfl, Lib.hid (fun y hy => by simp at hy), Below.refl _ _⟩
    case round =>
      obtain ⟨k, hk, rfl, HK, HBr⟩ := hrel
      have xb1 : wr.drew.cell? ⟨w.heap.size, 1, none⟩ = some (.string x.nm) := by
        have := (XB.below HBr XB.lt).cell_ 1
        simpa using this
      have i0 : (0 : Int) ≤ (k : Int) := by omega
      by_cases hlt : k < n
      · have i1 : (k : Int) < (n : Int) := by omega
        obtain ⟨y, hy⟩ : ∃ y, l[k]? = some y := ⟨_, List.getElem?_eq_getElem (by have := HN.out; omega)⟩
        obtain ⟨b1, o1, rfl, l1, q1⟩ := SlE.at_ hL (by rw [List.length_map, HN.out]; omega)
        have he : (l.map itC)[k]? = some (itC y) := by rw [List.getElem?_map, hy]; rfl
        have yb1 : wr.drew.cell? ⟨b1, o1 + k * 2 + 1, none⟩ = some (.string y.nm) := (HBr.cell (p := ⟨b1, _, none⟩) (show b1 < W.heap.size by omega)).trans (q1 k _ he 1 _ rfl)
        have QD : wr.drew.cell? ⟨w.heap.size, 1, none⟩ = some (.string x.nm) ∧ wr.drew.cell? ⟨b1, o1 + k * 2 + 1, none⟩ = some (.string y.nm) := ⟨xb1, yb1⟩
        have HY := Lib.hid hy
        clear he q1 hy
        rcases (by cases hq : Op.bytesLess y.nm.toList x.nm.toList <;> simp : Op.bytesLess y.nm.toList x.nm.toList = true ∨ Op.bytesLess y.nm.toList x.nm.toList = false) with hp | hp
        · have HP : Hid (lessS y.nm x.nm = true) := Lib.hid hp
          go_upto_region 2 with fail
          refine wp_region_noPanic ?_
          refine wp_region_held_drew (S := (fun w_ => w_.cell? ⟨w.heap.size, 1, none⟩ = some (.string x.nm) ∧ w_.cell? ⟨b1, o1 + k * 2 + 1, none⟩ = some (.string y.nm))) (by kernel_rfl) ?_ (fun hHeld => ?_)
          · (first | with_reducible exact QD | with_reducible assumption)
          refine tk 0 ?_; try simp only [Act.put, pz1, pz2, pz3]
          refine tk 1 ?_; try simp only [Act.put, pz1, pz2, pz3]
          refine tk 2 ?_; try simp only [Act.put, pz1, pz2, pz3]
          refine tk 3 ?_; try simp only [Act.put, pz1, pz2, pz3]
          refine tk 4 ?_; try simp only [Act.put, pz1, pz2, pz3]
          refine tk 5 ?_; try simp only [Act.put, pz1, pz2, pz3]
          refine tk 6 ?_; try simp only [Act.put, pz1, pz2, pz3]
          refine tk 7 ?_; try simp only [Act.put, pz1, pz2, pz3]
          refine tk 8 ?_; try simp only [Act.put, pz1, pz2, pz3]
          refine tk 9 ?_; try simp only [Act.put, pz1, pz2, pz3]
          refine tk 10 ?_; try simp only [Act.put, pz1, pz2, pz3]
          refine tk 11 ?_; try simp only [Act.put, pz1, pz2, pz3]
          refine tk 12 ?_; try simp only [Act.put, pz1, pz2, pz3]
          refine tk 13 ?_; try simp only [Act.put, pz1, pz2, pz3]
          refine wpAnyH_done (by kernel_rfl) ?_ _
          refine NoPanic.normal ?_
          go_wp2_with fail
          go_roundw
          case rel => exact ⟨k + 1, by omega, by go_num, Lib.hid (take_all HK.out HY.out HP.out), below_dn HBr 1⟩
          case measure => simp [intOf]; omega
        · have HP : Hid (lessS y.nm x.nm = false) := Lib.hid hp
          have HCN : Hid (cntLt l x = k) := Lib.hid (cntLt_of x l k HK.out (Or.inr ⟨y, HY.out, HP.out⟩))
          go_upto_region 2 with fail
          refine wp_region_noPanic ?_
          refine wp_region_held_drew (S := (fun w_ => w_.cell? ⟨w.heap.size, 1, none⟩ = some (.string x.nm) ∧ w_.cell? ⟨b1, o1 + k * 2 + 1, none⟩ = some (.string y.nm))) (by kernel_rfl) ?_ (fun hHeld => ?_)
          · (first | with_reducible exact QD | with_reducible assumption)
          refine tk 0 ?_; try simp only [Act.put, pz1, pz2, pz3]
          refine tk 1 ?_; try simp only [Act.put, pz1, pz2, pz3]
          refine tk 2 ?_; try simp only [Act.put, pz1, pz2, pz3]
          refine tk 3 ?_; try simp only [Act.put, pz1, pz2, pz3]
          refine tk 4 ?_; try simp only [Act.put, pz1, pz2, pz3]
          refine tk 5 ?_; try simp only [Act.put, pz1, pz2, pz3]
          refine tk 6 ?_; try simp only [Act.put, pz1, pz2, pz3]
          refine tk 7 ?_; try simp only [Act.put, pz1, pz2, pz3]
          refine tk 8 ?_; try simp only [Act.put, pz1, pz2, pz3]
          refine tk 9 ?_; try simp only [Act.put, pz1, pz2, pz3]
          refine tk 10 ?_; try simp only [Act.put, pz1, pz2, pz3]
          refine tk 11 ?_; try simp only [Act.put, pz1, pz2, pz3]
          refine tk 12 ?_; try simp only [Act.put, pz1, pz2, pz3]
          refine tk 13 ?_; try simp only [Act.put, pz1, pz2, pz3]
          refine wpAnyH_done (by kernel_rfl) ?_ _
          refine NoPanic.normal ?_
          go_wp2_with fail
          go_meet
          exact ⟨k, rfl, HCN, hk, below_dn HBr 1⟩
      · have hjn : k = n := by omega
        subst hjn
        have HCN : Hid (cntLt l x = k) := Lib.hid (cntLt_of x l k HK.out (Or.inl HN.out.symm))
        have QD := xb1
        have i2 : ¬ (k : Int) < (k : Int) := by omega
        go_upto_region 2 with fail
        refine wp_region_noPanic ?_
        refine wp_region_held_drew (S := (fun w_ => w_.cell? ⟨w.heap.size, 1, none⟩ = some (.string x.nm))) (by kernel_rfl) ?_ (fun hHeld => ?_)
        · (first | with_reducible exact QD | with_reducible assumption)
        refine tk 0 ?_; try simp only [Act.put, pz1, pz2, pz3]
        refine tk 1 ?_; try simp only [Act.put, pz1, pz2, pz3]
        refine tk 2 ?_; try simp only [Act.put, pz1, pz2, pz3]
        refine tk 3 ?_; try simp only [Act.put, pz1, pz2, pz3]
        refine tk 4 ?_; try simp only [Act.put, pz1, pz2, pz3]
        refine tu 5 ?_
        try simp only [Act.put, pz1, pz2, pz3]
        refine tu 6 ?_
        try simp only [Act.put, pz1, pz2, pz3]
        refine tu 7 ?_
        try simp only [Act.put, pz1, pz2, pz3]
        refine tu 8 ?_
        try simp only [Act.put, pz1, pz2, pz3]
        refine tu 9 ?_
        try simp only [Act.put, pz1, pz2, pz3]
        refine tu 10 ?_
        try simp only [Act.put, pz1, pz2, pz3]
        refine tu 11 ?_
        try simp only [Act.put, pz1, pz2, pz3]
        refine tu 12 ?_
        try simp only [Act.put, pz1, pz2, pz3]
        refine tk 13 ?_; try simp only [Act.put, pz1, pz2, pz3]
        refine wpAnyH_done (by kernel_rfl) ?_ _
        refine NoPanic.normal ?_
        go_wp2_with fail
        go_meet
        exact ⟨k, rfl, HCN, hk, below_dn HBr 1⟩
  case rest =>
    obtain ⟨k, rfl, HC, hk, hb⟩ := hcut
    have XBc := XB.below hb XB.lt
    have hLc : SlE 2 wc w.heap.size A (l.map itC) := hL.below (hb.mono (Nat.le_of_lt hlw))
    have hgx : w.heap.size < wc.heap.size := XBc.lt
    have xb0 : wc.cell? ⟨w.heap.size, 0, none⟩ = some (.int .i64 x.id) := by have := XBc.cell_ 0; simpa using this
    have xb1 : wc.cell? ⟨w.heap.size, 1, none⟩ = some (.string x.nm) := by have := XBc.cell_ 1; simpa using this
    have hC2 : ∀ e ∈ l.map itC, e.length = 2 := fun e he => by obtain ⟨y, _, rfl⟩ := List.mem_map.1 he; rfl
    have hle : (l.map itC).length = n := by rw [List.length_map, HN.out]
    have one1 : ∀ u ∈ ((l.map itC).take k).flatten, u.oneCell' = true := fun u hu => by
      obtain ⟨e, he, hu2⟩ := List.mem_flatten.1 hu
      obtain ⟨y, _, rfl⟩ := List.mem_map.1 (List.mem_of_mem_take he)
      exact itC_one y u hu2
    have one2 : ∀ u ∈ ((l.map itC).drop k).flatten, u.oneCell' = true := fun u hu => by
      obtain ⟨e, he, hu2⟩ := List.mem_flatten.1 hu
      obtain ⟨y, _, rfl⟩ := List.mem_map.1 (List.mem_of_mem_drop he)
      exact itC_one y u hu2
    have hkl : k ≤ (l.map itC).length := by omega
    have hlw2 : w.heap.size ≤ wc.heap.size := by omega
    have HLC := Lib.hid hLc
    have HC2 := Lib.hid hC2
    have HLE := Lib.hid hle
    have hbw : Below w.heap.size w wc := HB.trans (hb.mono (Nat.le_of_lt hlw))
    have i0 : (0 : Int) ≤ (k : Int) := by omega
    have i1 : (k : Int) ≤ (n : Int) := by omega
    have i2 : (k : Int) ≤ (c : Int) := by omega
    clear XB XBc HB hb hL hLc hC2 hle hlw
    have QD : wc.drew.cell? ⟨w.heap.size, 0, none⟩ = some (.int .i64 x.id) ∧ wc.drew.cell? ⟨w.heap.size, 1, none⟩ = some (.string x.nm) := ⟨xb0, xb1⟩
    have QA : (wc.drew.alloc (.cells #[.int .i64 x.id, .string x.nm] 64)).cell? ⟨w.heap.size, 0, none⟩ = some (.int .i64 x.id) ∧ (wc.drew.alloc (.cells #[.int .i64 x.id, .string x.nm] 64)).cell? ⟨w.heap.size, 1, none⟩ = some (.string x.nm) := ⟨((Below.refl wc.heap.size wc.drew).alloc (Nat.le_refl _) _).cell (p := ⟨w.heap.size, 0, none⟩) hgx |>.trans xb0, ((Below.refl wc.heap.size wc.drew).alloc (Nat.le_refl _) _).cell (p := ⟨w.heap.size, 1, none⟩) hgx |>.trans xb1⟩
    go_upto_region 4 with fail
    refine wp_region_noPanic ?_
    refine wp_region_held_drew (S := (fun w_ => w_.cell? ⟨w.heap.size, 0, none⟩ = some (.int .i64 x.id) ∧ w_.cell? ⟨w.heap.size, 1, none⟩ = some (.string x.nm))) (by kernel_rfl) ?_ (fun hHeld => ?_)
    · (first | with_reducible exact QD | exact QA | with_reducible exact Q25 | exact QA25 | with_reducible exact Q28 | with_reducible exact Q32)
    refine tk 0 ?_; try simp only [Act.put, pz1, pz2, pz3]
    refine tk 1 ?_; try simp only [Act.put, pz1, pz2, pz3]
    refine tk 2 ?_; try simp only [Act.put, pz1, pz2, pz3]
    refine tk 4 ?_; try simp only [Act.put, pz1, pz2, pz3]
    refine tk 7 ?_; try simp only [Act.put, pz1, pz2, pz3]
    refine tk 8 ?_; try simp only [Act.put, pz1, pz2, pz3]
    refine tk 9 ?_; try simp only [Act.put, pz1, pz2, pz3]
    refine wpAnyH_ready (rs := [3, 5]) (by kernel_rfl) (by simp) ?_
    refine (AllReadyH.cons (o := ⟨some 25, .call { callee := .builtin .append, args := #[.const (.slice none 0 0), .tmp 24], argTypes := #[36, 36] }, 36, "ref.go:284", #[⟨2, .data⟩], none⟩) rfl (fun K hK => ?_) (AllReadyH.cons (o := ⟨some 27, .buildSlice 36 1 #[(0, .tmp 26)], 36, "ref.go:284", #[⟨4, .data⟩], none⟩) rfl (fun K hK => ?_) AllReadyH.nil))
    · obtain ⟨ti0, hi, hz0, hz1, hz2⟩ := info_parts infoIt
      refine step_app _ rfl (.const (.slice none 0 0)) (.tmp 24) _ rfl wc.heap.size 64 ti0 _ 2 24 Tryz.underlying36 hi hz0 hz1 hz2 rfl (by decide) (.slice none 0 0) 0 [] rfl (World.ownsRow_nil _ _ _ _) _ k _ ((l.map itC).take k).flatten rfl (by first | exact rd_take (HLC.out.below ((below_dr wc).mono hlw2)) HC2.out hkl (fun b o h h0 => h) | exact rd_take (HLC.out.below (((below_dr wc).trans ((Below.refl _ wc.drew).alloc (Nat.le_refl _) _)).mono hlw2)) HC2.out hkl (fun b o h h0 => h)) one1 (by unfold maxLen; omega) (by omega) (by first | exact Nat.le_refl _ | (simp; omega) | simp) ?_
      intro v25 w25 ho25 hg25 hv25
      clear hi hz0 hz1 hz2 hv25
      have b25 : Below wc.heap.size wc w25 := by
        first
        | exact (below_dr wc).grown hg25 (Nat.le_refl _) (fun j hj => by simp [Value.ownBlock] at hj)
        | exact ((below_dr wc).trans ((Below.refl _ wc.drew).alloc (Nat.le_refl _) _)).grown hg25 (by simp) (fun j hj => by simp [Value.ownBlock] at hj)
      have Q25 : w25.cell? ⟨w.heap.size, 0, none⟩ = some (.int .i64 x.id) ∧ w25.cell? ⟨w.heap.size, 1, none⟩ = some (.string x.nm) := ⟨(b25.cell (p := ⟨w.heap.size, 0, none⟩) hgx).trans xb0, (b25.cell (p := ⟨w.heap.size, 1, none⟩) hgx).trans xb1⟩
      have QA25 : (w25.alloc (.cells #[.int .i64 x.id, .string x.nm] 64)).cell? ⟨w.heap.size, 0, none⟩ = some (.int .i64 x.id) ∧ (w25.alloc (.cells #[.int .i64 x.id, .string x.nm] 64)).cell? ⟨w.heap.size, 1, none⟩ = some (.string x.nm) := ⟨((b25.alloc b25.size _).cell (p := ⟨w.heap.size, 0, none⟩) hgx).trans xb0, ((b25.alloc b25.size _).cell (p := ⟨w.heap.size, 1, none⟩) hgx).trans xb1⟩
      try have rdX : Rd w25 (some ⟨wc.heap.size, 0, none⟩) 1 2 (itC x) := ⟨rfl, Or.inr ⟨_, 0, rfl, fun j u hj => hg25.cell (((rd_new2 wc.drew (.int .i64 x.id) (.string x.nm) 64 rfl).cellOf j u hj)) (by simp [Value.ownBlock])⟩⟩
      refine hK.out _ _ ?_ (fun hNew => ?_)
      · (first | with_reducible exact QD | exact QA | with_reducible exact Q25 | exact QA25 | with_reducible exact Q28 | with_reducible exact Q32)
      clear hK K hHeld
      have hHeld := hNew
      clear hNew
      try simp only [Act.put, pz1, pz2, pz3]
      refine wpAnyH_ready (rs := [5]) (by kernel_rfl) (by simp) ?_
      refine AllReadyH.cons (o := ⟨some 27, .buildSlice 36 1 #[(0, .tmp 26)], 36, "ref.go:284", #[⟨4, .data⟩], none⟩) rfl (fun K hK => ?_) AllReadyH.nil
      go_simp
      refine hK.out _ _ ?_ (fun hNew => ?_)
      · (first | with_reducible exact QD | exact QA | with_reducible exact Q25 | exact QA25 | with_reducible exact Q28 | with_reducible exact Q32)
      clear hK K hHeld
      have hHeld := hNew
      clear hNew
      try simp only [Act.put, pz1, pz2, pz3]
      refine wpAnyH_ready (rs := [6]) (by kernel_rfl) (by simp) ?_
      refine AllReadyH.cons (o := ⟨some 28, .call { callee := .builtin .append, args := #[.tmp 25, .tmp 27], argTypes := #[36, 36] }, 36, "ref.go:284", #[⟨3, .data⟩, ⟨5, .data⟩, ⟨3, .chain⟩], none⟩) rfl (fun K hK => ?_) AllReadyH.nil
      obtain ⟨ti0, hi, hz0, hz1, hz2⟩ := info_parts infoIt
      refine step_app _ rfl (.tmp 25) (.tmp 27) _ rfl wc.heap.size 64 ti0 _ 2 24 Tryz.underlying36 hi hz0 hz1 hz2 rfl (by decide) v25 (0 + k) ([] ++ ((l.map itC).take k).flatten) rfl (by first | exact ho25 | exact ho25.alloc _) _ 1 _ (itC x) rfl (by first | exact rd_new2 _ _ _ _ rfl | exact rdX) (itC_one x) (by unfold maxLen; omega) (by omega) (by have := b25.size; first | omega | (simp; omega)) ?_
      intro v28 w28 ho28 hg28 hv28
      clear hi hz0 hz1 hz2 hv28
      have b28 : Below wc.heap.size wc w28 := by
        first
        | exact b25.trans ((below_app (Nat.le_refl _) b25.size ho25 hg28))
        | exact (b25.alloc b25.size _).trans (below_app (Nat.le_refl _) (by have := b25.size; simp; omega) (ho25.alloc _) hg28)
      have Q28 : w28.cell? ⟨w.heap.size, 0, none⟩ = some (.int .i64 x.id) ∧ w28.cell? ⟨w.heap.size, 1, none⟩ = some (.string x.nm) := ⟨(b28.cell (p := ⟨w.heap.size, 0, none⟩) hgx).trans xb0, (b28.cell (p := ⟨w.heap.size, 1, none⟩) hgx).trans xb1⟩
      refine hK.out _ _ ?_ (fun hNew => ?_)
      · (first | with_reducible exact QD | exact QA | with_reducible exact Q25 | exact QA25 | with_reducible exact Q28 | with_reducible exact Q32)
      clear hK K hHeld
      have hHeld := hNew
      clear hNew
      try simp only [Act.put, pz1, pz2, pz3]
      refine wpAnyH_ready (rs := [10]) (by kernel_rfl) (by simp) ?_
      refine AllReadyH.cons (o := ⟨some 32, .call { callee := .builtin .append, args := #[.tmp 28, .tmp 31], argTypes := #[36, 36] }, 36, "ref.go:284", #[⟨6, .data⟩, ⟨9, .data⟩, ⟨6, .chain⟩], none⟩) rfl (fun K hK => ?_) AllReadyH.nil
      obtain ⟨ti0, hi, hz0, hz1, hz2⟩ := info_parts infoIt
      refine step_app _ rfl (.tmp 28) (.tmp 31) _ rfl wc.heap.size 64 ti0 _ 2 24 Tryz.underlying36 hi hz0 hz1 hz2 rfl (by decide) v28 (0 + k + 1) ([] ++ ((l.map itC).take k).flatten ++ itC x) rfl ho28 _ (n - k) _ ((l.map itC).drop k).flatten rfl (by have h := rd_drop (k := k) (A' := if c = k then A else Option.map (fun x => Addr.add x (k * 2)) A) (HLC.out.below (b28.mono hlw2)) HC2.out ((fun b o h h0 => by have h9 := HLE.out; rw [if_neg (by omega), h]; simp [Addr.add])); rwa [HLE.out] at h) one2 (by unfold maxLen; omega) (by omega) b28.size ?_
      intro v32 w32 ho32 hg32 hv32
      clear hi hz0 hz1 hz2 hv32
      generalize (if c = k then A else Option.map (fun x => Addr.add x (k * 2)) A) = A31
      obtain ⟨A32, c32, rfl, q32, q33⟩ := own_shape ho32
      have b32 : Below wc.heap.size wc w32 := b28.trans (below_app (Nat.le_refl _) b28.size ho28 hg32)
      have Q32 : w32.cell? ⟨w.heap.size, 0, none⟩ = some (.int .i64 x.id) ∧ w32.cell? ⟨w.heap.size, 1, none⟩ = some (.string x.nm) := ⟨(b32.cell (p := ⟨w.heap.size, 0, none⟩) hgx).trans xb0, (b32.cell (p := ⟨w.heap.size, 1, none⟩) hgx).trans xb1⟩
      refine hK.out _ _ ?_ (fun hNew => ?_)
      · (first | with_reducible exact QD | exact QA | with_reducible exact Q25 | exact QA25 | with_reducible exact Q28 | with_reducible exact Q32)
      clear hK K hHeld
      have hHeld := hNew
      clear hNew
      try simp only [Act.put, pz1, pz2, pz3]
      refine tk 11 ?_; try simp only [Act.put, pz1, pz2, pz3]
      refine wpAnyH_done (by kernel_rfl) ?_ _
      refine NoPanic.normal ?_
      go_wp2_with fail
      go_ret
      refine ⟨A32, c32, (by show Ending.returned (.slice A32 (k + 1 + (n - k)) c32) = _; rw [show k + 1 + (n - k) = n + 1 by omega]), ?_, by omega, by omega, hbw.trans (b32.mono hlw2)⟩
      have hfl : [] ++ ((l.map itC).take k).flatten ++ itC x ++ ((l.map itC).drop k).flatten = ((insI l x).map itC).flatten := by
        unfold insI
        rw [HC.out]
        simp [List.map_append, List.map_take, List.map_drop]
      rw [hfl] at ho32
      exact sle_of_own ho32 (fun e he => by obtain ⟨y, _, rfl⟩ := List.mem_map.1 he; rfl) (by decide)
    · go_simp
      refine hK.out _ _ ?_ (fun hNew => ?_)
      · (first | with_reducible exact QD | exact QA | with_reducible exact Q25 | exact QA25 | with_reducible exact Q28 | with_reducible exact Q32)
      clear hK K hHeld
      have hHeld := hNew
      clear hNew
      try simp only [Act.put, pz1, pz2, pz3]
      refine wpAnyH_ready (rs := [3]) (by kernel_rfl) (by simp) ?_
      refine AllReadyH.cons (o := ⟨some 25, .call { callee := .builtin .append, args := #[.const (.slice none 0 0), .tmp 24], argTypes := #[36, 36] }, 36, "ref.go:284", #[⟨2, .data⟩], none⟩) rfl (fun K hK => ?_) AllReadyH.nil
      obtain ⟨ti0, hi, hz0, hz1, hz2⟩ := info_parts infoIt
      refine step_app _ rfl (.const (.slice none 0 0)) (.tmp 24) _ rfl wc.heap.size 64 ti0 _ 2 24 Tryz.underlying36 hi hz0 hz1 hz2 rfl (by decide) (.slice none 0 0) 0 [] rfl (World.ownsRow_nil _ _ _ _) _ k _ ((l.map itC).take k).flatten rfl (by first | exact rd_take (HLC.out.below ((below_dr wc).mono hlw2)) HC2.out hkl (fun b o h h0 => h) | exact rd_take (HLC.out.below (((below_dr wc).trans ((Below.refl _ wc.drew).alloc (Nat.le_refl _) _)).mono hlw2)) HC2.out hkl (fun b o h h0 => h)) one1 (by unfold maxLen; omega) (by omega) (by first | exact Nat.le_refl _ | (simp; omega) | simp) ?_
      intro v25 w25 ho25 hg25 hv25
      clear hi hz0 hz1 hz2 hv25
      have b25 : Below wc.heap.size wc w25 := by
        first
        | exact (below_dr wc).grown hg25 (Nat.le_refl _) (fun j hj => by simp [Value.ownBlock] at hj)
        | exact ((below_dr wc).trans ((Below.refl _ wc.drew).alloc (Nat.le_refl _) _)).grown hg25 (by simp) (fun j hj => by simp [Value.ownBlock] at hj)
      have Q25 : w25.cell? ⟨w.heap.size, 0, none⟩ = some (.int .i64 x.id) ∧ w25.cell? ⟨w.heap.size, 1, none⟩ = some (.string x.nm) := ⟨(b25.cell (p := ⟨w.heap.size, 0, none⟩) hgx).trans xb0, (b25.cell (p := ⟨w.heap.size, 1, none⟩) hgx).trans xb1⟩
      have QA25 : (w25.alloc (.cells #[.int .i64 x.id, .string x.nm] 64)).cell? ⟨w.heap.size, 0, none⟩ = some (.int .i64 x.id) ∧ (w25.alloc (.cells #[.int .i64 x.id, .string x.nm] 64)).cell? ⟨w.heap.size, 1, none⟩ = some (.string x.nm) := ⟨((b25.alloc b25.size _).cell (p := ⟨w.heap.size, 0, none⟩) hgx).trans xb0, ((b25.alloc b25.size _).cell (p := ⟨w.heap.size, 1, none⟩) hgx).trans xb1⟩
      try have rdX : Rd w25 (some ⟨wc.heap.size, 0, none⟩) 1 2 (itC x) := ⟨rfl, Or.inr ⟨_, 0, rfl, fun j u hj => hg25.cell (((rd_new2 wc.drew (.int .i64 x.id) (.string x.nm) 64 rfl).cellOf j u hj)) (by simp [Value.ownBlock])⟩⟩
      refine hK.out _ _ ?_ (fun hNew => ?_)
      · (first | with_reducible exact QD | exact QA | with_reducible exact Q25 | exact QA25 | with_reducible exact Q28 | with_reducible exact Q32)
      clear hK K hHeld
      have hHeld := hNew
      clear hNew
      try simp only [Act.put, pz1, pz2, pz3]
      refine wpAnyH_ready (rs := [6]) (by kernel_rfl) (by simp) ?_
      refine AllReadyH.cons (o := ⟨some 28, .call { callee := .builtin .append, args := #[.tmp 25, .tmp 27], argTypes := #[36, 36] }, 36, "ref.go:284", #[⟨3, .data⟩, ⟨5, .data⟩, ⟨3, .chain⟩], none⟩) rfl (fun K hK => ?_) AllReadyH.nil
      obtain ⟨ti0, hi, hz0, hz1, hz2⟩ := info_parts infoIt
      refine step_app _ rfl (.tmp 25) (.tmp 27) _ rfl wc.heap.size 64 ti0 _ 2 24 Tryz.underlying36 hi hz0 hz1 hz2 rfl (by decide) v25 (0 + k) ([] ++ ((l.map itC).take k).flatten) rfl (by first | exact ho25 | exact ho25.alloc _) _ 1 _ (itC x) rfl (by first | exact rd_new2 _ _ _ _ rfl | exact rdX) (itC_one x) (by unfold maxLen; omega) (by omega) (by have := b25.size; first | omega | (simp; omega)) ?_
      intro v28 w28 ho28 hg28 hv28
      clear hi hz0 hz1 hz2 hv28
      have b28 : Below wc.heap.size wc w28 := by
        first
        | exact b25.trans ((below_app (Nat.le_refl _) b25.size ho25 hg28))
        | exact (b25.alloc b25.size _).trans (below_app (Nat.le_refl _) (by have := b25.size; simp; omega) (ho25.alloc _) hg28)
      have Q28 : w28.cell? ⟨w.heap.size, 0, none⟩ = some (.int .i64 x.id) ∧ w28.cell? ⟨w.heap.size, 1, none⟩ = some (.string x.nm) := ⟨(b28.cell (p := ⟨w.heap.size, 0, none⟩) hgx).trans xb0, (b28.cell (p := ⟨w.heap.size, 1, none⟩) hgx).trans xb1⟩
      refine hK.out _ _ ?_ (fun hNew => ?_)
      · (first | with_reducible exact QD | exact QA | with_reducible exact Q25 | exact QA25 | with_reducible exact Q28 | with_reducible exact Q32)
      clear hK K hHeld
      have hHeld := hNew
      clear hNew
      try simp only [Act.put, pz1, pz2, pz3]
      refine wpAnyH_ready (rs := [10]) (by kernel_rfl) (by simp) ?_
      refine AllReadyH.cons (o := ⟨some 32, .call { callee := .builtin .append, args := #[.tmp 28, .tmp 31], argTypes := #[36, 36] }, 36, "ref.go:284", #[⟨6, .data⟩, ⟨9, .data⟩, ⟨6, .chain⟩], none⟩) rfl (fun K hK => ?_) AllReadyH.nil
      obtain ⟨ti0, hi, hz0, hz1, hz2⟩ := info_parts infoIt
      refine step_app _ rfl (.tmp 28) (.tmp 31) _ rfl wc.heap.size 64 ti0 _ 2 24 Tryz.underlying36 hi hz0 hz1 hz2 rfl (by decide) v28 (0 + k + 1) ([] ++ ((l.map itC).take k).flatten ++ itC x) rfl ho28 _ (n - k) _ ((l.map itC).drop k).flatten rfl (by have h := rd_drop (k := k) (A' := if c = k then A else Option.map (fun x => Addr.add x (k * 2)) A) (HLC.out.below (b28.mono hlw2)) HC2.out ((fun b o h h0 => by have h9 := HLE.out; rw [if_neg (by omega), h]; simp [Addr.add])); rwa [HLE.out] at h) one2 (by unfold maxLen; omega) (by omega) b28.size ?_
      intro v32 w32 ho32 hg32 hv32
      clear hi hz0 hz1 hz2 hv32
      generalize (if c = k then A else Option.map (fun x => Addr.add x (k * 2)) A) = A31
      obtain ⟨A32, c32, rfl, q32, q33⟩ := own_shape ho32
      have b32 : Below wc.heap.size wc w32 := b28.trans (below_app (Nat.le_refl _) b28.size ho28 hg32)
      have Q32 : w32.cell? ⟨w.heap.size, 0, none⟩ = some (.int .i64 x.id) ∧ w32.cell? ⟨w.heap.size, 1, none⟩ = some (.string x.nm) := ⟨(b32.cell (p := ⟨w.heap.size, 0, none⟩) hgx).trans xb0, (b32.cell (p := ⟨w.heap.size, 1, none⟩) hgx).trans xb1⟩
      refine hK.out _ _ ?_ (fun hNew => ?_)
      · (first | with_reducible exact QD | exact QA | with_reducible exact Q25 | exact QA25 | with_reducible exact Q28 | with_reducible exact Q32)
      clear hK K hHeld
      have hHeld := hNew
      clear hNew
      try simp only [Act.put, pz1, pz2, pz3]
      refine tk 11 ?_; try simp only [Act.put, pz1, pz2, pz3]
      refine wpAnyH_done (by kernel_rfl) ?_ _
      refine NoPanic.normal ?_
      go_wp2_with fail
      go_ret
      refine ⟨A32, c32, (by show Ending.returned (.slice A32 (k + 1 + (n - k)) c32) = _; rw [show k + 1 + (n - k) = n + 1 by omega]), ?_, by omega, by omega, hbw.trans (b32.mono hlw2)⟩
      have hfl : [] ++ ((l.map itC).take k).flatten ++ itC x ++ ((l.map itC).drop k).flatten = ((insI l x).map itC).flatten := by
        unfold insI
        rw [HC.out]
        simp [List.map_append, List.map_take, List.map_drop]
      rw [hfl] at ho32
      exact sle_of_own ho32 (fun e he => by obtain ⟨y, _, rfl⟩ := List.mem_map.1 he; rfl) (by decide)
end Go.Proofs.YtokhapafpjejaaaGreatDoor
namespace Go.Proofs.YtokhapafpjejaaaGreatDoor
open Go.ChangeShapes Go.WideShapes Go.ChangeAt Go.RowKit
theorem rmay_any3 (s : ByteArray) (B : Bool) (w : World) (hs : s.size ≤ 100000) (hB : nameB s.data.toList = B) :
    Calls Tryz.prog 73 #[.string s] w fun e w' => e = .returned (.bool B) ∧ w = w' := by
  have hsz := size_L s
  have HS : Hid (s.size ≤ 100000) := Lib.hid hs
  by_cases h1 : s.size < 1
  · rw [name_short (by omega)] at hB
    subst hB
    have q1 : (s.size : Int) < 1 := by omega
    clear hs hsz h1
    go_enter Tryz.func73, Tryz.ntmps73
    go_wp2
    go_ret
    exact ⟨rfl, rfl⟩
  have q1 : ¬ (s.size : Int) < 1 := by omega
  by_cases h2 : 20 < s.size
  · rw [name_short (by omega)] at hB
    subst hB
    have q2 : (20 : Int) < (s.size : Int) := by omega
    clear hs hsz h1 h2
    go_enter Tryz.func73, Tryz.ntmps73
    go_wp2
    go_ret
    exact ⟨rfl, rfl⟩
  have q2 : ¬ (20 : Int) < (s.size : Int) := by omega
  have a0 : 0 < s.size := by omega
  have a1 : s.size - 1 < s.size := by omega
  obtain ⟨V, hV⟩ : ∃ V, validL s.data.toList = V := ⟨_, rfl⟩
  obtain ⟨P, hP⟩ : ∃ V, (btL s.data.toList 0 == 32) = V := ⟨_, rfl⟩
  obtain ⟨F, hF⟩ : ∃ V, (btL s.data.toList (s.data.toList.length - 1) == 32) = V := ⟨_, rfl⟩
  obtain ⟨A, hA⟩ : ∃ V, mayFrom s.data.toList s.data.toList.length 0 = V := ⟨_, rfl⟩
  have hB2 : (!P && (!F && A)) = B := by
    have := name_parts (by omega) (by omega) hV hP hF rfl
    rw [← hB, this, ← hA, may_split, show okFrom s.data.toList s.data.toList.length 0 = V from hV]
  have at0 : (((s[0]'a0).toNat : Int) == 32) = P := by
    rw [at_L s 0 a0, ← hP, Bool.eq_iff_iff, beq_iff_eq, beq_iff_eq]
    omega
  have at1 : (((s[s.size - 1]'a1).toNat : Int) == 32) = F := by
    rw [at_L s _ a1, ← hF, hsz, Bool.eq_iff_iff, beq_iff_eq, beq_iff_eq]
    omega
  obtain ⟨L, hL⟩ : ∃ L, s.data.toList = L := ⟨_, rfl⟩
  rw [hL] at hA hsz
  have HLS := Lib.hid hL
  have AT0 := Lib.hid at0
  have AT1 := Lib.hid at1
  have HB2 := Lib.hid hB2
  have hA0 : mayFrom L L.length 0 = A := hA
  have HA := Lib.hid hA0
  have HSZ := Lib.hid hsz
  clear hV hP hF hL hs h1 hA hB hB2 at0 at1 hA0 hsz h2
  have z0 : (0 : Int) < (s.size : Int) := by omega
  have z1 : (0 : Int) ≤ (s.size : Int) - 1 := by omega
  go_enter Tryz.func73, Tryz.ntmps73
  go_upto_region 1 with fail
  go_cut [26] (fun v wx => v = .bool (P || F) ∧ wx = w)
  case first =>
    go_wp2
    all_goals (go_meet; refine ⟨?_, rfl⟩; (rw [← AT0.out, ← AT1.out] <;> first | rfl | simp [*]))
  case rest =>
  obtain ⟨rfl, rfl⟩ := hcut
  cases hD : (P || F)
  case true =>
    have hb : B = false := by
      rw [← HB2.out]
      cases P
      · simp only [Bool.false_or] at hD
        rw [hD]
        rfl
      · rfl
    subst hb
    clear hD
    go_wp2
    go_ret
    exact ⟨rfl, rfl⟩
  have hb : A = B := by
    rw [← HB2.out]
    cases P
    · simp only [Bool.false_or] at hD
      rw [hD]
      rfl
    · cases hD
  subst hb
  clear hD HB2
  go_wp2_with fail
  go_loop [3] (fun i => ∃ p b : Nat, i = .int .i64 p ∧ Hid (mayFrom L b p = A ∧ L.length ≤ p + b ∧ p ≤ L.length)) (fun i => s.size - (intOf i).toNat)
  case atStart => exact ⟨0, L.length, rfl, Lib.hid ⟨HA.out, by omega, by omega⟩⟩
  case round =>
    obtain ⟨p, b, rfl, HI⟩ := hrel
    obtain ⟨i2, i3, i5⟩ := HI.out
    have hsz := HSZ.out
    by_cases hlt : p < L.length
    · obtain ⟨b', rfl⟩ : ∃ b', b = b' + 1 := ⟨b - 1, by omega⟩
      have hp2 : p < s.size := by omega
      have j0 : (p : Int) < (s.size : Int) := by omega
      rw [mayFrom, if_pos hlt] at i2
      obtain ⟨R, N, hrn⟩ : ∃ R N, r1L L p = (R, N) := ⟨_, _, rfl⟩
      have HRN : Hid (r1L s.data.toList p = (R, N)) := Lib.hid (by rw [HLS.out]; exact hrn)
      unfold r1L at hrn
      by_cases hb : badL L p = true
      · rw [if_pos hb] at hrn i2
        simp only [Prod.mk.injEq] at hrn
        obtain ⟨rfl, rfl⟩ := hrn
        subst i2
        clear i3 i5 hb hlt hsz HA
        go_wp2_with (go_at_call 96; refine (rune1_any s p _ _ _ hp2 HS.out HRN.out).mono ?_; rintro e' w1 ⟨rfl, rfl⟩)
        go_ret
        exact ⟨rfl, rfl⟩
      · rw [if_neg hb] at hrn i2
        have hb' : badL L p = false := by simpa using hb
        have hw := runed_w (good_of hb') (by omega)
        rw [hrn] at hw i2
        simp only [] at hw i2
        have n0 : ((N : Int) == 0) = false := by simp; omega
        have k1 : p + N ≤ 100000 := by have := HS.out; omega
        have k3 : 1 ≤ N := hw.1
        have hle : p + N ≤ L.length := by omega
        clear i5 hb hb' hw hrn HA
        by_cases hm : mayR R = true
        · rw [if_pos hm] at i2
          have HK : Hid (mayFrom L b' (p + N) = A ∧ L.length ≤ p + N + b' ∧ p + N ≤ L.length) := Lib.hid ⟨i2, by omega, hle⟩
          have hr : (32 ≤ R ∧ R < 127 ∧ R ≠ 47) ∨ (32 ≤ R ∧ 160 ≤ R ∧ R ≠ 47) := by
            unfold mayR at hm
            simp only [Bool.and_eq_true, Bool.not_eq_true', Bool.or_eq_false_iff, Bool.and_eq_false_iff, decide_eq_false_iff_not, beq_eq_false_iff_ne] at hm
            omega
          clear i2 i3 hm hlt hsz hle
          rcases hr with ⟨r1, r2, r3⟩ | ⟨r1, r2, r3⟩
          · have t1 : ¬ (R : Int) < 32 := by omega
            have t2 : ¬ (127 : Int) ≤ (R : Int) := by omega
            have t3 : ((R : Int) == 47) = false := by simp; omega
            clear r1 r2 r3
            go_wp2_with (go_at_call 96; refine (rune1_any s p _ _ _ hp2 HS.out HRN.out).mono ?_; rintro e' w1 ⟨rfl, rfl⟩)
            go_round
            case rel => exact ⟨p + N, b', by go_num, HK⟩
            case measure => simp [intOf]; omega
          · have t1 : ¬ (R : Int) < 32 := by omega
            have t2 : (127 : Int) ≤ (R : Int) := by omega
            have t4 : ¬ (R : Int) < 160 := by omega
            have t3 : ((R : Int) == 47) = false := by simp; omega
            clear r1 r2 r3
            go_wp2_with (go_at_call 96; refine (rune1_any s p _ _ _ hp2 HS.out HRN.out).mono ?_; rintro e' w1 ⟨rfl, rfl⟩)
            go_round
            case rel => exact ⟨p + N, b', by go_num, HK⟩
            case measure => simp [intOf]; omega
        · rw [if_neg hm] at i2
          subst i2
          have hr : R < 32 ∨ (32 ≤ R ∧ R < 127 ∧ R = 47) ∨ (127 ≤ R ∧ R < 160) := by
            unfold mayR at hm
            simp only [Bool.and_eq_true, Bool.not_eq_true', Bool.or_eq_false_iff, Bool.and_eq_false_iff, decide_eq_false_iff_not, beq_eq_false_iff_ne] at hm
            omega
          clear i3 hm hlt hsz hle
          rcases hr with r1 | ⟨r1, r2, rfl⟩ | ⟨r1, r2⟩
          · have t1 : (R : Int) < 32 := by omega
            clear r1
            go_wp2_with (go_at_call 96; refine (rune1_any s p _ _ _ hp2 HS.out HRN.out).mono ?_; rintro e' w1 ⟨rfl, rfl⟩)
            go_ret
            exact ⟨rfl, rfl⟩
          · clear r1 r2
            go_wp2_with (go_at_call 96; refine (rune1_any s p _ _ _ hp2 HS.out HRN.out).mono ?_; rintro e' w1 ⟨rfl, rfl⟩)
            go_ret
            exact ⟨rfl, rfl⟩
          · have t1 : ¬ (R : Int) < 32 := by omega
            have t2 : (127 : Int) ≤ (R : Int) := by omega
            have t4 : (R : Int) < 160 := by omega
            clear r1 r2
            go_wp2_with (go_at_call 96; refine (rune1_any s p _ _ _ hp2 HS.out HRN.out).mono ?_; rintro e' w1 ⟨rfl, rfl⟩)
            go_ret
            exact ⟨rfl, rfl⟩
    · have j0 : ¬ (p : Int) < (s.size : Int) := by omega
      have hv : A = true := by
        rw [← i2]
        cases b with
        | zero => rfl
        | succ b => rw [mayFrom, if_neg hlt]
      subst hv
      clear i2 i3 i5 hlt hsz
      go_wp2
      go_ret
      exact ⟨rfl, rfl⟩
end Go.Proofs.YtokhapafpjejaaaGreatDoor
namespace Go.Proofs.YtokhapafpjejaaaGreatDoor
open Go.ChangeShapes Go.WideShapes Go.ChangeAt Go.RowKit
attribute [local go_sem ↓] Go.wp_at_zero Go.wp_at_succ
theorem rBook_any (s : Sf) (v : Value) (x : Int) (w : World) (hS : ShR w w.heap.size v s) (hsm : s.bs.length ≤ 100000 ∧ s.ts.length ≤ 100000) :
    Calls Tryz.prog 53 #[v, .int .i64 x] w fun e' w' => e' = .returned (.int .i64 (bookAt s x)) ∧ Below w.heap.size w w' := by
  have hS0 := hS
  obtain ⟨Ab, cb, An, cn, rfl, hB, hN, hcb, hmb, hcn, hmn⟩ := hS.ex
  clear hS
  have HB : Below w.heap.size w (w.alloc (.cells #[.int .i64 s.nb, .int .i64 s.nn, .int .i64 s.ns, .slice Ab s.bs.length cb, .slice An s.ts.length cn] 25)) := ((Below.refl w.heap.size w).alloc (by first | (simp; done) | (simp; omega)) _)
  have B1 : Blk (w.alloc (.cells #[.int .i64 s.nb, .int .i64 s.nn, .int .i64 s.ns, .slice Ab s.bs.length cb, .slice An s.ts.length cn] 25)) w.heap.size 25 #[.int .i64 s.nb, .int .i64 s.nn, .int .i64 s.ns, .slice Ab s.bs.length cb, .slice An s.ts.length cn] := Blk.new_ w 25 #[.int .i64 s.nb, .int .i64 s.nn, .int .i64 s.ns, .slice Ab s.bs.length cb, .slice An s.ts.length cn]
  obtain ⟨n, hn⟩ : ∃ n, s.bs.length = n := ⟨_, rfl⟩
  have hnm : n ≤ 100000 := by rw [← hn]; exact hsm.1
  have HN := Lib.hid hn
  rw [hn] at HB B1 ⊢
  have H0 : Hid ((s.bs.take 0).any (fun b : Bk => b.id == x) = false) := Lib.hid rfl
  clear hn hsm hS0
  go_enter Tryz.func53, Tryz.ntmps53
  go_wp2_with fail
  go_loop [5] (fun i => ∃ k : Nat, k ≤ n ∧ i = .int .i64 k ∧ Hid ((s.bs.take k).any (fun b : Bk => b.id == x) = false)) (fun i => n - (intOf i).toNat)
  case atStart => exact ⟨0, by omega, rfl, H0⟩
  case round =>
    obtain ⟨k, hk, rfl, HK⟩ := hrel
    clear H0
    by_cases hlt : k < n
    · have hlx : k < s.bs.length := by have := HN.out; omega
      have i0 : (0 : Int) ≤ (k : Int) := by omega
      have i1 : (k : Int) < (n : Int) := by omega
      obtain ⟨y, hx⟩ : ∃ y, s.bs[k]? = some y := ⟨_, List.getElem?_eq_getElem hlx⟩
      have he : (s.bs.map bkC)[k]? = some (bkC y) := by rw [List.getElem?_map, hx]; rfl
      obtain ⟨b1, o1, rfl, l1, q1⟩ := SlE.at_ hB (by rw [List.length_map]; omega)
      have y0 : World.cell? ((w.alloc (.cells #[.int .i64 s.nb, .int .i64 s.nn, .int .i64 s.ns, .slice (some ⟨b1, o1, none⟩) n cb, .slice An s.ts.length cn] 25))) ⟨b1, o1 + k * 2, none⟩ = some (.int .i64 y.id) := (HB.cell (p := ⟨b1, _, none⟩) l1).trans (q1 k _ he 0 _ rfl)
      have y1 : World.cell? ((w.alloc (.cells #[.int .i64 s.nb, .int .i64 s.nn, .int .i64 s.ns, .slice (some ⟨b1, o1, none⟩) n cb, .slice An s.ts.length cn] 25))) ⟨b1, o1 + k * 2 + 1, none⟩ = some (.string y.nm) := (HB.cell (p := ⟨b1, _, none⟩) l1).trans (q1 k _ he 1 _ rfl)
      have HX := Lib.hid hx
      clear hx q1 he hlx
      rcases (by cases hq : (y.id == x) <;> simp : (y.id == x) = true ∨ (y.id == x) = false) with hp | hp
      · have HP := Lib.hid hp
        go_wp2_with fail
        go_ret
        exact ⟨by rw [show bookAt s x = (k : Int) from idxP_at HK.out HX.out HP.out]; rfl, HB⟩
      · have HP := Lib.hid hp
        go_wp2_with fail
        go_round
        case rel => exact ⟨k + 1, by omega, by go_num, Lib.hid (any_next HK.out HX.out HP.out)⟩
        case measure => simp [intOf]; omega
    · have hjn : k = n := by omega
      subst hjn
      go_wp2_with fail
      go_ret
      refine ⟨?_, HB⟩
      have := HK.out
      rw [List.take_of_length_le (by rw [HN.out]; exact Nat.le_refl _)] at this
      rw [show bookAt s x = -1 from idxP_no this]
      rfl
theorem rNote_any (s : Sf) (v : Value) (x : Int) (w : World) (hS : ShR w w.heap.size v s) (hsm : s.bs.length ≤ 100000 ∧ s.ts.length ≤ 100000) :
    Calls Tryz.prog 57 #[v, .int .i64 x] w fun e' w' => e' = .returned (.int .i64 (noteAt s x)) ∧ Below w.heap.size w w' := by
  have hS0 := hS
  obtain ⟨Ab, cb, An, cn, rfl, hB, hN, hcb, hmb, hcn, hmn⟩ := hS.ex
  clear hS
  have HB : Below w.heap.size w (w.alloc (.cells #[.int .i64 s.nb, .int .i64 s.nn, .int .i64 s.ns, .slice Ab s.bs.length cb, .slice An s.ts.length cn] 25)) := ((Below.refl w.heap.size w).alloc (by first | (simp; done) | (simp; omega)) _)
  have B1 : Blk (w.alloc (.cells #[.int .i64 s.nb, .int .i64 s.nn, .int .i64 s.ns, .slice Ab s.bs.length cb, .slice An s.ts.length cn] 25)) w.heap.size 25 #[.int .i64 s.nb, .int .i64 s.nn, .int .i64 s.ns, .slice Ab s.bs.length cb, .slice An s.ts.length cn] := Blk.new_ w 25 #[.int .i64 s.nb, .int .i64 s.nn, .int .i64 s.ns, .slice Ab s.bs.length cb, .slice An s.ts.length cn]
  obtain ⟨es, hel, hse, hnt⟩ := hN.ex
  obtain ⟨n, hn⟩ : ∃ n, s.ts.length = n := ⟨_, rfl⟩
  have hnm : n ≤ 100000 := by rw [← hn]; exact hsm.2
  have HN := Lib.hid hn
  rw [hn] at HB B1 ⊢
  have H0 : Hid ((s.ts.take 0).any (fun b : Nt => b.id == x) = false) := Lib.hid rfl
  clear hn hsm hS0
  go_enter Tryz.func57, Tryz.ntmps57
  go_wp2_with fail
  go_loop [5] (fun i => ∃ k : Nat, k ≤ n ∧ i = .int .i64 k ∧ Hid ((s.ts.take k).any (fun b : Nt => b.id == x) = false)) (fun i => n - (intOf i).toNat)
  case atStart => exact ⟨0, by omega, rfl, H0⟩
  case round =>
    obtain ⟨k, hk, rfl, HK⟩ := hrel
    clear H0
    by_cases hlt : k < n
    · have hlx : k < s.ts.length := by have := HN.out; omega
      have i0 : (0 : Int) ≤ (k : Int) := by omega
      have i1 : (k : Int) < (n : Int) := by omega
      obtain ⟨y, hx⟩ : ∃ y, s.ts[k]? = some y := ⟨_, List.getElem?_eq_getElem hlx⟩
      obtain ⟨e0, he⟩ : ∃ e, es[k]? = some e := ⟨_, List.getElem?_eq_getElem (by omega)⟩
      obtain ⟨At, ct, As, cs, rfl, -⟩ := (hnt k y e0 hx he).ex
      obtain ⟨b1, o1, rfl, l1, q1⟩ := hse.at_ (by omega)
      have y0 : World.cell? ((w.alloc (.cells #[.int .i64 s.nb, .int .i64 s.nn, .int .i64 s.ns, .slice Ab s.bs.length cb, .slice (some ⟨b1, o1, none⟩) n cn] 25))) ⟨b1, o1 + k * 5, none⟩ = some (.int .i64 y.id) := (HB.cell (p := ⟨b1, _, none⟩) l1).trans (q1 k _ he 0 _ rfl)
      have y1 : World.cell? ((w.alloc (.cells #[.int .i64 s.nb, .int .i64 s.nn, .int .i64 s.ns, .slice Ab s.bs.length cb, .slice (some ⟨b1, o1, none⟩) n cn] 25))) ⟨b1, o1 + k * 5 + 1, none⟩ = some (.int .i64 y.bk) := (HB.cell (p := ⟨b1, _, none⟩) l1).trans (q1 k _ he 1 _ rfl)
      have y2 : World.cell? ((w.alloc (.cells #[.int .i64 s.nb, .int .i64 s.nn, .int .i64 s.ns, .slice Ab s.bs.length cb, .slice (some ⟨b1, o1, none⟩) n cn] 25))) ⟨b1, o1 + k * 5 + 2, none⟩ = some (.string y.nm) := (HB.cell (p := ⟨b1, _, none⟩) l1).trans (q1 k _ he 2 _ rfl)
      have y3 : World.cell? ((w.alloc (.cells #[.int .i64 s.nb, .int .i64 s.nn, .int .i64 s.ns, .slice Ab s.bs.length cb, .slice (some ⟨b1, o1, none⟩) n cn] 25))) ⟨b1, o1 + k * 5 + 3, none⟩ = some (.slice At y.tg.length ct) := (HB.cell (p := ⟨b1, _, none⟩) l1).trans (q1 k _ he 3 _ rfl)
      have y4 : World.cell? ((w.alloc (.cells #[.int .i64 s.nb, .int .i64 s.nn, .int .i64 s.ns, .slice Ab s.bs.length cb, .slice (some ⟨b1, o1, none⟩) n cn] 25))) ⟨b1, o1 + k * 5 + 4, none⟩ = some (.slice As y.sh.length cs) := (HB.cell (p := ⟨b1, _, none⟩) l1).trans (q1 k _ he 4 _ rfl)
      have HX := Lib.hid hx
      clear hx q1 he hlx
      rcases (by cases hq : (y.id == x) <;> simp : (y.id == x) = true ∨ (y.id == x) = false) with hp | hp
      · have HP := Lib.hid hp
        go_wp2_with fail
        go_ret
        exact ⟨by rw [show noteAt s x = (k : Int) from idxP_at HK.out HX.out HP.out]; rfl, HB⟩
      · have HP := Lib.hid hp
        go_wp2_with fail
        go_round
        case rel => exact ⟨k + 1, by omega, by go_num, Lib.hid (any_next HK.out HX.out HP.out)⟩
        case measure => simp [intOf]; omega
    · have hjn : k = n := by omega
      subst hjn
      go_wp2_with fail
      go_ret
      refine ⟨?_, HB⟩
      have := HK.out
      rw [List.take_of_length_le (by rw [HN.out]; exact Nat.le_refl _)] at this
      rw [show noteAt s x = -1 from idxP_no this]
      rfl
theorem rBookName_any (s : Sf) (v : Value) (dd : Int) (x : ByteArray) (w : World) (hS : ShR w w.heap.size v s) (hsm : s.bs.length ≤ 100000 ∧ s.ts.length ≤ 100000) (hx : x.size ≤ 100000) (c : Int) (hc : cond (mayN x) (cond (bookTk s x dd) 7 0) 6 = c) :
    Calls Tryz.prog 64 #[v, .int .i64 dd, .string x] w fun e' w' => e' = .returned (.int .i64 c) ∧ Below w.heap.size w w' := by
  have hS0 := hS
  obtain ⟨Ab, cb, An, cn, rfl, hB, hN, hcb, hmb, hcn, hmn⟩ := hS.ex
  clear hS
  have HB : Below w.heap.size w (w.alloc (.cells #[.int .i64 s.nb, .int .i64 s.nn, .int .i64 s.ns, .slice Ab s.bs.length cb, .slice An s.ts.length cn] 25)) := ((Below.refl w.heap.size w).alloc (by first | (simp; done) | (simp; omega)) _)
  have B1 : Blk (w.alloc (.cells #[.int .i64 s.nb, .int .i64 s.nn, .int .i64 s.ns, .slice Ab s.bs.length cb, .slice An s.ts.length cn] 25)) w.heap.size 25 #[.int .i64 s.nb, .int .i64 s.nn, .int .i64 s.ns, .slice Ab s.bs.length cb, .slice An s.ts.length cn] := Blk.new_ w 25 #[.int .i64 s.nb, .int .i64 s.nn, .int .i64 s.ns, .slice Ab s.bs.length cb, .slice An s.ts.length cn]
  obtain ⟨n, hn⟩ : ∃ n, s.bs.length = n := ⟨_, rfl⟩
  have hnm : n ≤ 100000 := by rw [← hn]; exact hsm.1
  have HN := Lib.hid hn
  rw [hn] at HB B1 ⊢
  have H0 : Hid ((s.bs.take 0).any (fun b : Bk => (sameS b.nm x && b.id != dd)) = false) := Lib.hid rfl
  have htk : bookTk s x dd = s.bs.any (fun b : Bk => (sameS b.nm x && b.id != dd)) := by
    rfl
  rw [htk] at hc
  obtain ⟨N, hNm⟩ : ∃ N, mayN x = N := ⟨_, rfl⟩
  rw [hNm] at hc
  have HNM : Hid (nameB x.data.toList = N) := Lib.hid hNm
  have HC := Lib.hid hc
  clear hn hsm hS0 htk hNm hc
  cases N
  · skip
    go_enter Tryz.func64, Tryz.ntmps64
    go_wp2_with (go_at_call 73; ((with_reducible refine (rmay_any3 x _ _ hx HNM.out).mono ?_); rintro e' wN ⟨rfl, rfl⟩))
    go_ret
    exact ⟨by rw [← HC.out]; rfl, HB⟩
  · skip
    go_enter Tryz.func64, Tryz.ntmps64
    go_wp2_with (go_at_call 73; ((with_reducible refine (rmay_any3 x _ _ hx HNM.out).mono ?_); rintro e' wN ⟨rfl, rfl⟩))
    go_loop [7] (fun i => ∃ k : Nat, k ≤ n ∧ i = .int .i64 k ∧ Hid ((s.bs.take k).any (fun b : Bk => (sameS b.nm x && b.id != dd)) = false)) (fun i => n - (intOf i).toNat)
    case atStart => exact ⟨0, by omega, rfl, H0⟩
    case round =>
      obtain ⟨k, hk, rfl, HK⟩ := hrel
      clear H0
      by_cases hlt : k < n
      · have hlx : k < s.bs.length := by have := HN.out; omega
        have i0 : (0 : Int) ≤ (k : Int) := by omega
        have i1 : (k : Int) < (n : Int) := by omega
        obtain ⟨y, hx⟩ : ∃ y, s.bs[k]? = some y := ⟨_, List.getElem?_eq_getElem hlx⟩
        have he : (s.bs.map bkC)[k]? = some (bkC y) := by rw [List.getElem?_map, hx]; rfl
        obtain ⟨b1, o1, rfl, l1, q1⟩ := SlE.at_ hB (by rw [List.length_map]; omega)
        have y0 : World.cell? ((w.alloc (.cells #[.int .i64 s.nb, .int .i64 s.nn, .int .i64 s.ns, .slice (some ⟨b1, o1, none⟩) n cb, .slice An s.ts.length cn] 25))) ⟨b1, o1 + k * 2, none⟩ = some (.int .i64 y.id) := (HB.cell (p := ⟨b1, _, none⟩) l1).trans (q1 k _ he 0 _ rfl)
        have y1 : World.cell? ((w.alloc (.cells #[.int .i64 s.nb, .int .i64 s.nn, .int .i64 s.ns, .slice (some ⟨b1, o1, none⟩) n cb, .slice An s.ts.length cn] 25))) ⟨b1, o1 + k * 2 + 1, none⟩ = some (.string y.nm) := (HB.cell (p := ⟨b1, _, none⟩) l1).trans (q1 k _ he 1 _ rfl)
        have HX := Lib.hid hx
        clear hx q1 he hlx
        rcases (by cases hq : (y.nm.toList == x.toList) <;> simp : (y.nm.toList == x.toList) = true ∨ (y.nm.toList == x.toList) = false) with h0 | h0
        · skip
          rcases (by cases hq : (y.id != dd) <;> simp : (y.id != dd) = true ∨ (y.id != dd) = false) with h2 | h2
          · skip
            go_wp2_with fail
            go_ret
            refine ⟨?_, HB⟩
            have hp : (sameS y.nm x && y.id != dd) = true := by simp [sameS, h0, h2]
            rw [← HC.out, List.any_eq_true.2 ⟨y, List.mem_of_getElem? HX.out, hp⟩]
            rfl
          · skip
            have HP : Hid ((sameS y.nm x && y.id != dd) = false) := Lib.hid (by simp [sameS, h2])
            go_wp2_with fail
            go_round
            case rel => exact ⟨k + 1, by omega, by go_num, Lib.hid (any_next HK.out HX.out HP.out)⟩
            case measure => simp [intOf]; omega
        · skip
          have HP : Hid ((sameS y.nm x && y.id != dd) = false) := Lib.hid (by simp [sameS, h0])
          go_wp2_with fail
          go_round
          case rel => exact ⟨k + 1, by omega, by go_num, Lib.hid (any_next HK.out HX.out HP.out)⟩
          case measure => simp [intOf]; omega
      · have hjn : k = n := by omega
        subst hjn
        go_wp2_with fail
        go_ret
        refine ⟨?_, HB⟩
        have := HK.out
        rw [List.take_of_length_le (by rw [HN.out]; exact Nat.le_refl _)] at this
        rw [← HC.out, this]
        rfl
theorem rNoteName_any (s : Sf) (v : Value) (z : Int) (dd : Int) (x : ByteArray) (w : World) (hS : ShR w w.heap.size v s) (hsm : s.bs.length ≤ 100000 ∧ s.ts.length ≤ 100000) (hx : x.size ≤ 100000) (c : Int) (hc : cond (mayN x) (cond (noteTk s z x dd) 7 0) 6 = c) :
    Calls Tryz.prog 70 #[v, .int .i64 z, .int .i64 dd, .string x] w fun e' w' => e' = .returned (.int .i64 c) ∧ Below w.heap.size w w' := by
  have hS0 := hS
  obtain ⟨Ab, cb, An, cn, rfl, hB, hN, hcb, hmb, hcn, hmn⟩ := hS.ex
  clear hS
  have HB : Below w.heap.size w (w.alloc (.cells #[.int .i64 s.nb, .int .i64 s.nn, .int .i64 s.ns, .slice Ab s.bs.length cb, .slice An s.ts.length cn] 25)) := ((Below.refl w.heap.size w).alloc (by first | (simp; done) | (simp; omega)) _)
  have B1 : Blk (w.alloc (.cells #[.int .i64 s.nb, .int .i64 s.nn, .int .i64 s.ns, .slice Ab s.bs.length cb, .slice An s.ts.length cn] 25)) w.heap.size 25 #[.int .i64 s.nb, .int .i64 s.nn, .int .i64 s.ns, .slice Ab s.bs.length cb, .slice An s.ts.length cn] := Blk.new_ w 25 #[.int .i64 s.nb, .int .i64 s.nn, .int .i64 s.ns, .slice Ab s.bs.length cb, .slice An s.ts.length cn]
  obtain ⟨es, hel, hse, hnt⟩ := hN.ex
  obtain ⟨n, hn⟩ : ∃ n, s.ts.length = n := ⟨_, rfl⟩
  have hnm : n ≤ 100000 := by rw [← hn]; exact hsm.2
  have HN := Lib.hid hn
  rw [hn] at HB B1 ⊢
  have H0 : Hid ((s.ts.take 0).any (fun b : Nt => (sameS b.nm x && (b.bk == z && b.id != dd))) = false) := Lib.hid rfl
  have htk : noteTk s z x dd = s.ts.any (fun b : Nt => (sameS b.nm x && (b.bk == z && b.id != dd))) := by
    unfold noteTk
    congr 1
    funext b
    cases (b.bk == z) <;> cases (sameS b.nm x) <;> rfl
  rw [htk] at hc
  obtain ⟨N, hNm⟩ : ∃ N, mayN x = N := ⟨_, rfl⟩
  rw [hNm] at hc
  have HNM : Hid (nameB x.data.toList = N) := Lib.hid hNm
  have HC := Lib.hid hc
  clear hn hsm hS0 htk hNm hc
  cases N
  · skip
    go_enter Tryz.func70, Tryz.ntmps70
    go_wp2_with (go_at_call 73; ((with_reducible refine (rmay_any3 x _ _ hx HNM.out).mono ?_); rintro e' wN ⟨rfl, rfl⟩))
    go_ret
    exact ⟨by rw [← HC.out]; rfl, HB⟩
  · skip
    go_enter Tryz.func70, Tryz.ntmps70
    go_wp2_with (go_at_call 73; ((with_reducible refine (rmay_any3 x _ _ hx HNM.out).mono ?_); rintro e' wN ⟨rfl, rfl⟩))
    go_loop [9] (fun i => ∃ k : Nat, k ≤ n ∧ i = .int .i64 k ∧ Hid ((s.ts.take k).any (fun b : Nt => (sameS b.nm x && (b.bk == z && b.id != dd))) = false)) (fun i => n - (intOf i).toNat)
    case atStart => exact ⟨0, by omega, rfl, H0⟩
    case round =>
      obtain ⟨k, hk, rfl, HK⟩ := hrel
      clear H0
      by_cases hlt : k < n
      · have hlx : k < s.ts.length := by have := HN.out; omega
        have i0 : (0 : Int) ≤ (k : Int) := by omega
        have i1 : (k : Int) < (n : Int) := by omega
        obtain ⟨y, hx⟩ : ∃ y, s.ts[k]? = some y := ⟨_, List.getElem?_eq_getElem hlx⟩
        obtain ⟨e0, he⟩ : ∃ e, es[k]? = some e := ⟨_, List.getElem?_eq_getElem (by omega)⟩
        obtain ⟨At, ct, As, cs, rfl, -⟩ := (hnt k y e0 hx he).ex
        obtain ⟨b1, o1, rfl, l1, q1⟩ := hse.at_ (by omega)
        have y0 : World.cell? ((w.alloc (.cells #[.int .i64 s.nb, .int .i64 s.nn, .int .i64 s.ns, .slice Ab s.bs.length cb, .slice (some ⟨b1, o1, none⟩) n cn] 25))) ⟨b1, o1 + k * 5, none⟩ = some (.int .i64 y.id) := (HB.cell (p := ⟨b1, _, none⟩) l1).trans (q1 k _ he 0 _ rfl)
        have y1 : World.cell? ((w.alloc (.cells #[.int .i64 s.nb, .int .i64 s.nn, .int .i64 s.ns, .slice Ab s.bs.length cb, .slice (some ⟨b1, o1, none⟩) n cn] 25))) ⟨b1, o1 + k * 5 + 1, none⟩ = some (.int .i64 y.bk) := (HB.cell (p := ⟨b1, _, none⟩) l1).trans (q1 k _ he 1 _ rfl)
        have y2 : World.cell? ((w.alloc (.cells #[.int .i64 s.nb, .int .i64 s.nn, .int .i64 s.ns, .slice Ab s.bs.length cb, .slice (some ⟨b1, o1, none⟩) n cn] 25))) ⟨b1, o1 + k * 5 + 2, none⟩ = some (.string y.nm) := (HB.cell (p := ⟨b1, _, none⟩) l1).trans (q1 k _ he 2 _ rfl)
        have y3 : World.cell? ((w.alloc (.cells #[.int .i64 s.nb, .int .i64 s.nn, .int .i64 s.ns, .slice Ab s.bs.length cb, .slice (some ⟨b1, o1, none⟩) n cn] 25))) ⟨b1, o1 + k * 5 + 3, none⟩ = some (.slice At y.tg.length ct) := (HB.cell (p := ⟨b1, _, none⟩) l1).trans (q1 k _ he 3 _ rfl)
        have y4 : World.cell? ((w.alloc (.cells #[.int .i64 s.nb, .int .i64 s.nn, .int .i64 s.ns, .slice Ab s.bs.length cb, .slice (some ⟨b1, o1, none⟩) n cn] 25))) ⟨b1, o1 + k * 5 + 4, none⟩ = some (.slice As y.sh.length cs) := (HB.cell (p := ⟨b1, _, none⟩) l1).trans (q1 k _ he 4 _ rfl)
        have HX := Lib.hid hx
        clear hx q1 he hlx
        rcases (by cases hq : (y.nm.toList == x.toList) <;> simp : (y.nm.toList == x.toList) = true ∨ (y.nm.toList == x.toList) = false) with h0 | h0
        · skip
          rcases (by cases hq : (y.bk == z) <;> simp : (y.bk == z) = true ∨ (y.bk == z) = false) with h1 | h1
          · skip
            rcases (by cases hq : (y.id != dd) <;> simp : (y.id != dd) = true ∨ (y.id != dd) = false) with h2 | h2
            · skip
              go_wp2_with fail
              go_ret
              refine ⟨?_, HB⟩
              have hp : (sameS y.nm x && (y.bk == z && y.id != dd)) = true := by simp [sameS, h0, h1, h2]
              rw [← HC.out, List.any_eq_true.2 ⟨y, List.mem_of_getElem? HX.out, hp⟩]
              rfl
            · skip
              have HP : Hid ((sameS y.nm x && (y.bk == z && y.id != dd)) = false) := Lib.hid (by simp [sameS, h2])
              go_wp2_with fail
              go_round
              case rel => exact ⟨k + 1, by omega, by go_num, Lib.hid (any_next HK.out HX.out HP.out)⟩
              case measure => simp [intOf]; omega
          · skip
            have HP : Hid ((sameS y.nm x && (y.bk == z && y.id != dd)) = false) := Lib.hid (by simp [sameS, h1])
            go_wp2_with fail
            go_round
            case rel => exact ⟨k + 1, by omega, by go_num, Lib.hid (any_next HK.out HX.out HP.out)⟩
            case measure => simp [intOf]; omega
        · skip
          have HP : Hid ((sameS y.nm x && (y.bk == z && y.id != dd)) = false) := Lib.hid (by simp [sameS, h0])
          go_wp2_with fail
          go_round
          case rel => exact ⟨k + 1, by omega, by go_num, Lib.hid (any_next HK.out HX.out HP.out)⟩
          case measure => simp [intOf]; omega
      · have hjn : k = n := by omega
        subst hjn
        go_wp2_with fail
        go_ret
        refine ⟨?_, HB⟩
        have := HK.out
        rw [List.take_of_length_le (by rw [HN.out]; exact Nat.le_refl _)] at this
        rw [← HC.out, this]
        rfl
end Go.Proofs.YtokhapafpjejaaaGreatDoor
