/- The law ShelfLists. -/
import Derived.Test.YtokhapafpjejaaaDoorLs2
set_option linter.unusedSimpArgs false
set_option linter.unusedVariables false
set_option maxRecDepth 100000
set_option maxHeartbeats 16000000
namespace Go.Proofs.YtokhapafpjejaaaDoor
open Go.ChangeShapes Go.WideShapes Go.ChangeAt Go.RowKit
attribute [local go_sem ↓] Go.wp_at_zero Go.wp_at_succ
theorem less_not {p c : ByteArray} (h : Op.bytesLess p.toList c.toList = true) : Op.bytesLess c.toList p.toList = false ∧ (c.toList == p.toList) = false := by
  constructor
  · cases h2 : Op.bytesLess c.toList p.toList
    · rfl
    · rw [cmp_less] at h h2
      exact absurd (cmpB_trans _ _ _ (of_decide_eq_true h) (of_decide_eq_true h2)) (by rw [cmpB_refl]; decide)
  · rw [beq_eq_false_iff_ne]
    intro he
    rw [he, less_irr] at h
    cases h
theorem cntB_le (ts : List Nt) (L : List Int) (k : Nat) : cntB ts (L.take k) ≤ cntB ts L := by
  unfold cntB
  conv => rhs; rw [← List.take_append_drop k L]
  rw [List.map_append, List.sum_append]
  omega
def cntI (s : Sf) (its : List It) (i : Nat) : Int := ((cntB s.ts ((its.map It.id).take i) : Nat) : Int)
theorem keepQ {w w' : World} {g b o : Nat} {v0 v1 v2 v3 v4 u : Value} (h : w.cell? ⟨g, 0, none⟩ = some v0 ∧ w.cell? ⟨g, 1, none⟩ = some v1 ∧ w.cell? ⟨g, 2, none⟩ = some v2 ∧ w.cell? ⟨g, 3, none⟩ = some v3 ∧ w.cell? ⟨g, 4, none⟩ = some v4 ∧ w.cell? ⟨b, o, none⟩ = some u) (hb : Below w.heap.size w w') (hg : g < w.heap.size) (hl : b < w.heap.size) :
    w'.cell? ⟨g, 0, none⟩ = some v0 ∧ w'.cell? ⟨g, 1, none⟩ = some v1 ∧ w'.cell? ⟨g, 2, none⟩ = some v2 ∧ w'.cell? ⟨g, 3, none⟩ = some v3 ∧ w'.cell? ⟨g, 4, none⟩ = some v4 ∧ w'.cell? ⟨b, o, none⟩ = some u :=
  ⟨(hb.cell (p := ⟨g, 0, none⟩) hg).trans h.1, (hb.cell (p := ⟨g, 1, none⟩) hg).trans h.2.1, (hb.cell (p := ⟨g, 2, none⟩) hg).trans h.2.2.1, (hb.cell (p := ⟨g, 3, none⟩) hg).trans h.2.2.2.1, (hb.cell (p := ⟨g, 4, none⟩) hg).trans h.2.2.2.2.1, (hb.cell (p := ⟨b, o, none⟩) hl).trans h.2.2.2.2.2⟩
theorem w64 (x : Int) (h1 : -9223372036854775808 ≤ x) (h2 : x ≤ 9223372036854775807) : wrap64 x = x := by unfold wrap64; omega
theorem below_drew (w : World) : Below w.heap.size w w.drew := below_dn (Below.refl w.heap.size w) 1
theorem keep_cell {w w' : World} {g o : Nat} {v : Value} (h : w.cell? ⟨g, o, none⟩ = some v) (hb : Below w.heap.size w w') (hg : g < w.heap.size) : w'.cell? ⟨g, o, none⟩ = some v := (hb.cell (p := ⟨g, o, none⟩) hg).trans h
theorem lists_walk (s : Sf) (v : Value) (w : World) (hS : ShR w w.heap.size v s) (hT : Tabs w) :
    Calls Tryd.prog 4 #[v] w fun e' w' => e' = .returned (.bool true) ∧ Below w.heap.size w w' := by
  have hS0 := hS
  obtain ⟨Ab, cb, An, cn, rfl, hB, hN, hcb, hmb, hcn, hmn⟩ := hS.ex
  clear hS
  have HB : Below w.heap.size w (w.alloc (.cells #[.int .i64 s.nb, .int .i64 s.nn, .int .i64 s.ns, .slice Ab s.bs.length cb, .slice An s.ts.length cn] 25)) := ((Below.refl w.heap.size w).alloc (by first | (simp; done) | (simp; omega)) _)
  have B1 : Blk (w.alloc (.cells #[.int .i64 s.nb, .int .i64 s.nn, .int .i64 s.ns, .slice Ab s.bs.length cb, .slice An s.ts.length cn] 25)) w.heap.size 25 #[.int .i64 s.nb, .int .i64 s.nn, .int .i64 s.ns, .slice Ab s.bs.length cb, .slice An s.ts.length cn] := Blk.new_ w 25 #[.int .i64 s.nb, .int .i64 s.nn, .int .i64 s.ns, .slice Ab s.bs.length cb, .slice An s.ts.length cn]
  have S1 : ShR (w.alloc (.cells #[.int .i64 s.nb, .int .i64 s.nn, .int .i64 s.ns, .slice Ab s.bs.length cb, .slice An s.ts.length cn] 25)) ((w.alloc (.cells #[.int .i64 s.nb, .int .i64 s.nn, .int .i64 s.ns, .slice Ab s.bs.length cb, .slice An s.ts.length cn] 25))).heap.size (.agg #[.int .i64 s.nb, .int .i64 s.nn, .int .i64 s.ns, .slice Ab s.bs.length cb, .slice An s.ts.length cn]) s := hS0.next HB
  have T1 := hT.next HB
  obtain ⟨G, hG⟩ : ∃ G, greatS s = G := ⟨_, rfl⟩
  obtain ⟨M, hM⟩ : ∃ M, mayS s = M := ⟨_, rfl⟩
  have HG := Lib.hid hG
  have HM := Lib.hid hM
  clear hG hM hS0 hT hB hN hcb hmb hcn hmn
  cases G
  · cases M
    · skip
      go_enter Tryd.func4, Tryd.ntmps4
      go_wp2_with (first | (go_at_call 6; go_loud (((with_reducible refine (greatShelf_any s _ _ S1 _ HG.out).mono ?_); rintro e' w2 ⟨rfl, bx⟩; have S1 := S1.next bx; have T1 := T1.next bx; have B1 := B1.below bx B1.lt; have HB := btr HB HB.size bx; (try clear k0 k1 k2 k3 k4); have k0 := B1.cell_ 0; have k1 := B1.cell_ 1; have k2 := B1.cell_ 2; have k3 := B1.cell_ 3; have k4 := B1.cell_ 4; simp at k0 k1 k2 k3 k4; clear bx))) | (go_at_call 7; go_loud (((with_reducible refine (smay_any s _ _ S1 T1 _ HM.out).mono ?_); rintro e' w3 ⟨rfl, bx⟩; have S1 := S1.next bx; have T1 := T1.next bx; have B1 := B1.below bx B1.lt; have HB := btr HB HB.size bx; (try clear k0 k1 k2 k3 k4); have k0 := B1.cell_ 0; have k1 := B1.cell_ 1; have k2 := B1.cell_ 2; have k3 := B1.cell_ 3; have k4 := B1.cell_ 4; simp at k0 k1 k2 k3 k4; clear bx))) | (go_at_call 8; go_loud (((with_reducible refine (awake_any _ T1).mono ?_); rintro e' wA ⟨rfl, bx⟩; have HB := btr HB HB.size bx))))
      go_ret
      exact ⟨rfl, HB⟩
    · have HMF := Lib.hid (mayF_of HM.out)
      go_enter Tryd.func4, Tryd.ntmps4
      go_upto_region 3 with (first | (go_at_call 6; go_loud (((with_reducible refine (greatShelf_any s _ _ S1 _ HG.out).mono ?_); rintro e' w2 ⟨rfl, bx⟩; have S1 := S1.next bx; have T1 := T1.next bx; have B1 := B1.below bx B1.lt; have HB := btr HB HB.size bx; (try clear k0 k1 k2 k3 k4); have k0 := B1.cell_ 0; have k1 := B1.cell_ 1; have k2 := B1.cell_ 2; have k3 := B1.cell_ 3; have k4 := B1.cell_ 4; simp at k0 k1 k2 k3 k4; clear bx))) | (go_at_call 7; go_loud (((with_reducible refine (smay_any s _ _ S1 T1 _ HM.out).mono ?_); rintro e' w3 ⟨rfl, bx⟩; have S1 := S1.next bx; have T1 := T1.next bx; have B1 := B1.below bx B1.lt; have HB := btr HB HB.size bx; (try clear k0 k1 k2 k3 k4); have k0 := B1.cell_ 0; have k1 := B1.cell_ 1; have k2 := B1.cell_ 2; have k3 := B1.cell_ 3; have k4 := B1.cell_ 4; simp at k0 k1 k2 k3 k4; clear bx))))
      go_upto_region 4 with (go_at_call 15; go_loud (((with_reducible refine (books_any s _ _ S1 T1 HM.out (by have := HMF.out.bl; omega)).mono ?_); rintro e' w4 ⟨A, c, its, rfl, hp, ho, hrow, hlc, hcm, bx⟩; have S1 := S1.next bx; have T1 := T1.next bx; have B1 := B1.below bx B1.lt; have HB := btr HB HB.size bx; (try clear k0 k1 k2 k3 k4); have k0 := B1.cell_ 0; have k1 := B1.cell_ 1; have k2 := B1.cell_ 2; have k3 := B1.cell_ 3; have k4 := B1.cell_ 4; simp at k0 k1 k2 k3 k4; clear bx)))
      have hL := lstF_of HMF.out hp ho
      obtain ⟨l, hl⟩ : ∃ l, its.length = l := ⟨_, rfl⟩
      rw [hl] at hlc ⊢
      have HLL := Lib.hid hl
      have HL := Lib.hid hL
      have HROW := Lib.hid hrow
      have hl6 : l ≤ 6 := by have h1 := hL.len; have h2 := HMF.out.bl; omega
      have HCB : Hid (∀ q, 0 ≤ cntI s its q ∧ cntI s its q ≤ 12) := Lib.hid (fun q => by
        unfold cntI
        have h1 := cntB_le s.ts (its.map It.id) q
        have h2 := hL.all
        have h3 := HMF.out.tl
        omega)
      clear hp ho hl hL hrow hlc hcm
      go_wp2_with fail
      go_loopw [4, 5] (fun nv iv wr => ∃ i : Nat, i ≤ l ∧ iv = .int .i64 i ∧ nv = .int .i64 (cntI s its i) ∧ Below w4.heap.size w4 wr) (fun _ iv _ => l - (intOf iv).toNat)
      case atStart => exact ⟨0, by omega, rfl, rfl, Below.refl _ _⟩
      case round =>
        obtain ⟨i, hi, rfl, rfl, hb4⟩ := hrel
        obtain ⟨wo, hwo⟩ : ∃ V : World, V = wr := ⟨_, rfl⟩
        subst hwo
        have SO := S1.next hb4
        have TO := T1.next hb4
        have BO := B1.below hb4 B1.lt
        have HBO := btr HB HB.size hb4
        have rowO := SlE.next HROW.out hb4
        clear S1 T1 B1 HB k0 k1 k2 k3 k4
        have k0 := BO.cell_ 0
        have k1 := BO.cell_ 1
        have k2 := BO.cell_ 2
        have k3 := BO.cell_ 3
        have k4 := BO.cell_ 4
        simp at k0 k1 k2 k3 k4
        by_cases hlt : i < l
        · have hlx : i < its.length := by have := HLL.out; omega
          obtain ⟨x, hx⟩ : ∃ x, its[i]? = some x := ⟨_, List.getElem?_eq_getElem hlx⟩
          obtain ⟨b1, o1, rfl, l1, q1⟩ := rowO.at_ (by rw [List.length_map]; omega)
          have he : (its.map itC)[i]? = some (itC x) := by rw [List.getElem?_map, hx]; rfl
          have y0 := q1 i _ he 0 _ rfl
          have y1 := q1 i _ he 1 _ rfl
          simp only [Nat.add_zero] at y0
          have i0 : (0 : Int) ≤ (i : Int) := by omega
          have i1 : (i : Int) < (l : Int) := by omega
          have HBA := Lib.hid (HL.out.book x (List.mem_of_getElem? hx))
          have HX := Lib.hid hx
          have HQ1 := Lib.hid q1
          clear he hx hlx q1
          go_upto_region 8 with fail
          have SD := SO.next (below_drew wo)
          have TD := TO.next (below_drew wo)
          have Q8 : wo.drew.cell? ⟨w.heap.size, 0, none⟩ = some (.int .i64 s.nb) ∧ wo.drew.cell? ⟨w.heap.size, 1, none⟩ = some (.int .i64 s.nn) ∧ wo.drew.cell? ⟨w.heap.size, 2, none⟩ = some (.int .i64 s.ns) ∧ wo.drew.cell? ⟨w.heap.size, 3, none⟩ = some (.slice Ab s.bs.length cb) ∧ wo.drew.cell? ⟨w.heap.size, 4, none⟩ = some (.slice An s.ts.length cn) ∧ wo.drew.cell? ⟨b1, o1 + i * 2, none⟩ = some (.int .i64 x.id) := ⟨drew_cell k0, drew_cell k1, drew_cell k2, drew_cell k3, drew_cell k4, drew_cell y0⟩
          have hgD : w.heap.size < wo.drew.heap.size := BO.lt
          have hlD : b1 < wo.drew.heap.size := l1
          refine wp_region_noPanic ?_
          refine wp_region_held_drew (S := (fun w_ => w_.cell? ⟨w.heap.size, 0, none⟩ = some (.int .i64 s.nb) ∧ w_.cell? ⟨w.heap.size, 1, none⟩ = some (.int .i64 s.nn) ∧ w_.cell? ⟨w.heap.size, 2, none⟩ = some (.int .i64 s.ns) ∧ w_.cell? ⟨w.heap.size, 3, none⟩ = some (.slice Ab s.bs.length cb) ∧ w_.cell? ⟨w.heap.size, 4, none⟩ = some (.slice An s.ts.length cn) ∧ w_.cell? ⟨b1, o1 + i * 2, none⟩ = some (.int .i64 x.id))) (by kernel_rfl) ?_ (fun hHeld => ?_)
          · (first | with_reducible exact Q8 | with_reducible exact Q8e)
          refine tk 0 ⟨some 30, .load 25 (.tmp 1), 25, "law.go:177", #[], none⟩ ?_; try simp only [Act.put, pz1, pz2, pz3]
          refine tk 1 ⟨some 31, .move (.tmp 3), 43, "law.go:177", #[], none⟩ ?_; try simp only [Act.put, pz1, pz2, pz3]
          refine tk 2 ⟨some 32, .move (.tmp 5), 3, "law.go:177", #[], none⟩ ?_; try simp only [Act.put, pz1, pz2, pz3]
          refine tk 3 ⟨some 33, .indexAddr 43 (.tmp 31) (.tmp 32), 0, "law.go:177", #[⟨1, .data⟩, ⟨2, .data⟩], none⟩ ?_; try simp only [Act.put, pz1, pz2, pz3]
          refine tk 4 ⟨some 34, .fieldAddr 48 (.tmp 33) 0, 0, "law.go:177", #[⟨3, .data⟩], none⟩ ?_; try simp only [Act.put, pz1, pz2, pz3]
          refine tk 5 ⟨some 35, .load 3 (.tmp 34), 3, "law.go:177", #[⟨4, .data⟩], none⟩ ?_; try simp only [Act.put, pz1, pz2, pz3]
          refine wpAnyH_ready (rs := [6]) (by kernel_rfl) (by simp) ?_
          refine AllReadyH.cons (o := ⟨some 36, .call { callee := .value (.func 16), args := #[.tmp 30, .tmp 35], argTypes := #[25, 3] }, 45, "law.go:177", #[⟨0, .data⟩, ⟨5, .data⟩], none⟩) rfl (fun K hK => ?_) AllReadyH.nil
          go_simp
          (go_at_call 16; go_loud (((with_reducible refine (notes_any s _ x.id _ SD TD HM.out HBA.out (by have := HMF.out.tl; omega)).mono ?_); rintro e' w5 ⟨A2, c2, ns, rfl, hp2, ho2, hrow2, hlc2, hcm2, b5⟩)))
          have Q8e := keepQ Q8 b5 hgD hlD
          go_wp2_with fail
          refine hK.out _ _ ?_ (fun hNew => ?_)
          · (first | with_reducible exact Q8 | with_reducible exact Q8e)
          clear hK K hHeld
          have hHeld := hNew
          clear hNew
          try simp only [Act.put, pz1, pz2, pz3]
          refine tk 7 ⟨some 29, .move (.tmp 36), 45, "law.go:177", #[⟨6, .data⟩], none⟩ ?_; try simp only [Act.put, pz1, pz2, pz3]
          refine tk 8 ⟨some 37, .extract (.tmp 29) 0, 43, "law.go:177", #[⟨7, .data⟩], none⟩ ?_; try simp only [Act.put, pz1, pz2, pz3]
          refine tk 9 ⟨some 38, .extract (.tmp 29) 1, 28, "law.go:177", #[⟨7, .data⟩, { on := 10, ground := Ground.gcOnly Departure.lateStores }], none⟩ ?_; try simp only [Act.put, pz1, pz2, pz3]
          refine tk 10 ⟨some 6, .assign (.tmp 37), 43, "law.go:177", #[⟨8, .data⟩, ⟨6, .chain⟩, ⟨0, .phase⟩, ⟨1, .phase⟩, ⟨2, .phase⟩, ⟨3, .phase⟩, ⟨4, .phase⟩, ⟨5, .phase⟩, ⟨6, .phase⟩, ⟨7, .phase⟩, ⟨8, .phase⟩, { on := 9, ground := Ground.textOnly Departure.lateStores }], none⟩ ?_; try simp only [Act.put, pz1, pz2, pz3]
          refine tk 11 ⟨some 7, .assign (.tmp 38), 28, "law.go:177", #[⟨9, .data⟩, ⟨10, .chain⟩, ⟨0, .phase⟩, ⟨1, .phase⟩, ⟨2, .phase⟩, ⟨3, .phase⟩, ⟨4, .phase⟩, ⟨5, .phase⟩, ⟨6, .phase⟩, ⟨7, .phase⟩, ⟨8, .phase⟩, ⟨9, .phase⟩, ⟨10, .phase⟩], none⟩ ?_; try simp only [Act.put, pz1, pz2, pz3]
          refine wpAnyH_done (by kernel_rfl) ?_ _
          refine NoPanic.normal ?_
          go_wp2_with fail
          have hbM := btr (below_drew wo) (below_drew wo).size b5
          have SM := SD.next b5
          have TM := TD.next b5
          have BM := BO.below hbM BO.lt
          have z0 := keep_cell y0 hbM l1
          have z1 := keep_cell y1 hbM l1
          have l1M : b1 < w5.heap.size := Nat.lt_of_lt_of_le l1 hbM.size
          have HN := Lib.hid (ntsF_of HMF.out x.id hp2 ho2)
          have HR2 := Lib.hid hrow2
          obtain ⟨m, hm⟩ : ∃ m, ns.length = m := ⟨_, rfl⟩
          rw [hm] at hlc2 ⊢
          have HMM := Lib.hid hm
          have hm12 : m ≤ 12 := by
            have h1 := HN.out.len
            have h2 := List.length_filter_le (fun n : Nt => n.bk == x.id) s.ts
            have h3 := HMF.out.tl
            omega
          clear SD TD Q8 Q8e hgD hlD b5 hp2 ho2 hrow2 hlc2 hcm2 hm k0 k1 k2 k3 k4 y0 y1 SO TO
          rcases (by omega : i = 0 ∨ 0 < i) with hi0 | hi0
          · have hdz : decide (0 < i) = false := decide_eq_false (by omega)
            clear hi0
            have Q9 : True := trivial
            refine wp_region_noPanic ?_
            refine wp_region_held_drew (S := (fun w_ => True)) (by kernel_rfl) ?_ (fun hHeld => ?_)
            · (first | trivial | with_reducible exact Q9D)
            refine tk 0 ⟨some 39, .move (.tmp 7), 28, "law.go:178", #[], none⟩ ?_; try simp only [Act.put, pz1, pz2, pz3]
            refine tk 1 ⟨some 40, .binOp .neq 28 (.tmp 39) (.const (.int .i64 0)) 28, 4, "law.go:178", #[⟨0, .data⟩], none⟩ ?_; try simp only [Act.put, pz1, pz2, pz3]
            refine tk 2 ⟨some 41, .move (.tmp 40), 4, "law.go:178", #[⟨1, .data⟩], none⟩ ?_; try simp only [Act.put, pz1, pz2, pz3]
            refine tk 3 ⟨some 42, .move (.tmp 5), 3, "law.go:178", #[⟨2, .guard⟩], some (2, false)⟩ ?_; try simp only [Act.put, pz1, pz2, pz3]
            refine tk 4 ⟨some 43, .binOp .gtr 3 (.tmp 42) (.const (.int .i64 0)) 3, 4, "law.go:178", #[⟨3, .data⟩, ⟨2, .guard⟩], some (2, false)⟩ ?_; try simp only [Act.put, pz1, pz2, pz3]
            refine tk 5 ⟨some 44, .move (.tmp 43), 4, "law.go:178", #[⟨4, .data⟩, ⟨2, .chain⟩, ⟨2, .guard⟩], some (2, false)⟩ ?_; try simp only [Act.put, pz1, pz2, pz3]
            refine tu 6 ⟨some 45, .move (.tmp 3), 43, "law.go:178", #[⟨5, .guard⟩], some (5, true)⟩ ?_
            try simp only [Act.put, pz1, pz2, pz3]
            refine tu 7 ⟨some 46, .move (.tmp 5), 3, "law.go:178", #[⟨5, .guard⟩], some (5, true)⟩ ?_
            try simp only [Act.put, pz1, pz2, pz3]
            refine tu 8 ⟨some 47, .indexAddr 43 (.tmp 45) (.tmp 46), 0, "law.go:178", #[⟨6, .data⟩, ⟨7, .data⟩, ⟨5, .guard⟩], some (5, true)⟩ ?_
            try simp only [Act.put, pz1, pz2, pz3]
            refine tu 9 ⟨some 48, .fieldAddr 48 (.tmp 47) 1, 0, "law.go:178", #[⟨8, .data⟩, ⟨5, .guard⟩], some (5, true)⟩ ?_
            try simp only [Act.put, pz1, pz2, pz3]
            refine tu 10 ⟨some 49, .load 9 (.tmp 48), 9, "law.go:178", #[⟨9, .data⟩, ⟨5, .guard⟩], some (5, true)⟩ ?_
            try simp only [Act.put, pz1, pz2, pz3]
            refine tu 11 ⟨some 50, .move (.tmp 3), 43, "law.go:178", #[⟨5, .guard⟩], some (5, true)⟩ ?_
            try simp only [Act.put, pz1, pz2, pz3]
            refine tu 12 ⟨some 51, .move (.tmp 5), 3, "law.go:178", #[⟨5, .guard⟩], some (5, true)⟩ ?_
            try simp only [Act.put, pz1, pz2, pz3]
            refine tu 13 ⟨some 52, .binOp .sub 3 (.tmp 51) (.const (.int .i64 1)) 3, 3, "law.go:178", #[⟨12, .data⟩, ⟨5, .guard⟩], some (5, true)⟩ ?_
            try simp only [Act.put, pz1, pz2, pz3]
            refine tu 14 ⟨some 53, .indexAddr 43 (.tmp 50) (.tmp 52), 0, "law.go:178", #[⟨11, .data⟩, ⟨13, .data⟩, ⟨5, .guard⟩], some (5, true)⟩ ?_
            try simp only [Act.put, pz1, pz2, pz3]
            refine tu 15 ⟨some 54, .fieldAddr 48 (.tmp 53) 1, 0, "law.go:178", #[⟨14, .data⟩, ⟨5, .guard⟩], some (5, true)⟩ ?_
            try simp only [Act.put, pz1, pz2, pz3]
            refine tu 16 ⟨some 55, .load 9 (.tmp 54), 9, "law.go:178", #[⟨15, .data⟩, ⟨5, .guard⟩], some (5, true)⟩ ?_
            try simp only [Act.put, pz1, pz2, pz3]
            refine tu 17 ⟨some 56, .binOp .leq 9 (.tmp 49) (.tmp 55) 9, 4, "law.go:178", #[⟨10, .data⟩, ⟨16, .data⟩, ⟨5, .guard⟩], some (5, true)⟩ ?_
            try simp only [Act.put, pz1, pz2, pz3]
            refine tk 18 ⟨some 57, .pick (.tmp 44) (.tmp 56) (.const (.bool false)), 4, "law.go:178", #[⟨5, .data⟩, ⟨17, .data⟩, ⟨2, .guard⟩], some (2, false)⟩ ?_; try simp only [Act.put, pz1, pz2, pz3]
            refine tk 19 ⟨some 58, .pick (.tmp 41) (.const (.bool true)) (.tmp 57), 4, "law.go:178", #[⟨2, .data⟩, ⟨18, .data⟩], none⟩ ?_; try simp only [Act.put, pz1, pz2, pz3]
            refine wpAnyH_done (by kernel_rfl) ?_ _
            refine NoPanic.normal ?_
            go_wp2_with fail
            obtain ⟨wn, hwn⟩ : ∃ V : World, V = w5.drew := ⟨_, rfl⟩
            have hDn := below_drew w5
            rw [← hwn] at hDn ⊢
            have SN := SM.next hDn
            have TN := TM.next hDn
            have BN := BM.below hDn BM.lt
            have yn := keep_cell z0 hDn l1M
            have hbN := btr hbM hbM.size hDn
            have hrn := SlE.next HR2.out hDn
            have hRN := Lib.hid hrn
            have hln : b1 < wn.heap.size := Nat.lt_of_lt_of_le l1M hDn.size
            clear hwn hDn SM TM BM z0 z1 hbM HR2 hrn l1M
            go_loopw [4, 8] (fun nv kv wr => ∃ k : Nat, k ≤ m ∧ kv = .int .i64 k ∧ nv = .int .i64 (cntI s its i + k) ∧ Below wn.heap.size wn wr) (fun _ kv _ => m - (intOf kv).toNat)
            case atStart => exact ⟨0, by omega, rfl, by simp, Below.refl _ _⟩
            case round =>
              obtain ⟨k, hk, rfl, rfl, hbn⟩ := hrel
              obtain ⟨wq, hwq⟩ : ∃ V : World, V = wr := ⟨_, rfl⟩
              subst hwq
              have SP := SN.next hbn
              have TP := TN.next hbn
              have BP := BN.below hbn BN.lt
              have yp := keep_cell yn hbn hln
              have hlp : b1 < wq.heap.size := Nat.lt_of_lt_of_le hln hbn.size
              have hbP := btr hbN hbN.size hbn
              have rowP := SlE.next hRN.out hbn
              have k0 := BP.cell_ 0
              have k1 := BP.cell_ 1
              have k2 := BP.cell_ 2
              have k3 := BP.cell_ 3
              have k4 := BP.cell_ 4
              simp at k0 k1 k2 k3 k4
              clear SN TN BN yn hbN hln
              by_cases hlk : k < m
              · have hlx : k < ns.length := by have := HMM.out; omega
                obtain ⟨y, hy⟩ : ∃ y, ns[k]? = some y := ⟨_, List.getElem?_eq_getElem hlx⟩
                obtain ⟨n, hn, hnb, hny⟩ := HN.out.note y (List.mem_of_getElem? hy)
                obtain ⟨kk, hkk, hnk⟩ := noteAt_of HMF.out hn
                obtain ⟨b2, o2, rfl, l2, q2⟩ := rowP.at_ (by rw [List.length_map]; omega)
                have he : (ns.map itC)[k]? = some (itC (ntIt n)) := by rw [List.getElem?_map, hy, hny]; rfl
                have u0 : wq.cell? ⟨b2, o2 + k * 2, none⟩ = some (.int .i64 n.id) := q2 k _ he 0 _ rfl
                have u1 : wq.cell? ⟨b2, o2 + k * 2 + 1, none⟩ = some (.string n.nm) := q2 k _ he 1 _ rfl
                have j0 : (0 : Int) ≤ (k : Int) := by omega
                have j1 : (k : Int) < (m : Int) := by omega
                have HK := Lib.hid hkk
                have HNK : Hid (s.ts[kk]? = some n) := Lib.hid hnk
                have HNB := Lib.hid hnb
                have HY : Hid (ns[k]? = some (ntIt n)) := Lib.hid (by rw [hy, hny])
                have HQ2 := Lib.hid q2
                clear he hlx hy hn hnb hny hkk hnk q2
                go_upto_region 14 with fail
                have SQ := SP.next (below_drew wq)
                have TQ := TP.next (below_drew wq)
                have SQ2 := SQ.next ((Below.refl _ _).alloc (Nat.le_refl _) (.cells #[.int .i64 0, .int .i64 0, .string ⟨#[]⟩, .slice none 0 0, .slice none 0 0] 38))
                have TQ2 := TQ.next ((Below.refl _ _).alloc (Nat.le_refl _) (.cells #[.int .i64 0, .int .i64 0, .string ⟨#[]⟩, .slice none 0 0, .slice none 0 0] 38))
                have hAL : Below wq.heap.size wq (wq.alloc (.cells #[.int .i64 0, .int .i64 0, .string ⟨#[]⟩, .slice none 0 0, .slice none 0 0] 38)).drew := drew_below ((Below.refl _ _).alloc (Nat.le_refl _) _)
                have SQ3 := SP.next hAL
                have TQ3 := TP.next hAL
                have HZ2 : Below wq.heap.size wq (wq.drew.alloc (.cells #[.int .i64 0, .int .i64 0, .string ⟨#[]⟩, .slice none 0 0, .slice none 0 0] 38)) := (below_drew wq).alloc (Nat.le_refl _) _
                have BZ2 : Blk (wq.drew.alloc (.cells #[.int .i64 0, .int .i64 0, .string ⟨#[]⟩, .slice none 0 0, .slice none 0 0] 38)) wq.heap.size 38 #[.int .i64 0, .int .i64 0, .string ⟨#[]⟩, .slice none 0 0, .slice none 0 0] := Blk.new_ wq.drew 38 #[.int .i64 0, .int .i64 0, .string ⟨#[]⟩, .slice none 0 0, .slice none 0 0]
                have BZ3 : Blk (wq.alloc (.cells #[.int .i64 0, .int .i64 0, .string ⟨#[]⟩, .slice none 0 0, .slice none 0 0] 38)).drew wq.heap.size 38 #[.int .i64 0, .int .i64 0, .string ⟨#[]⟩, .slice none 0 0, .slice none 0 0] := drew_blk (Blk.new_ wq 38 #[.int .i64 0, .int .i64 0, .string ⟨#[]⟩, .slice none 0 0, .slice none 0 0])
                have QP : wq.cell? ⟨w.heap.size, 0, none⟩ = some (.int .i64 s.nb) ∧ wq.cell? ⟨w.heap.size, 1, none⟩ = some (.int .i64 s.nn) ∧ wq.cell? ⟨w.heap.size, 2, none⟩ = some (.int .i64 s.ns) ∧ wq.cell? ⟨w.heap.size, 3, none⟩ = some (.slice Ab s.bs.length cb) ∧ wq.cell? ⟨w.heap.size, 4, none⟩ = some (.slice An s.ts.length cn) ∧ wq.cell? ⟨b2, o2 + k * 2, none⟩ = some (.int .i64 n.id) := ⟨k0, k1, k2, k3, k4, u0⟩
                have QA := keepQ QP (below_drew wq) BP.lt l2
                have QB := keepQ QA ((Below.refl wq.drew.heap.size wq.drew).alloc (Nat.le_refl _) (.cells #[.int .i64 0, .int .i64 0, .string ⟨#[]⟩, .slice none 0 0, .slice none 0 0] 38)) BP.lt l2
                have QC := keepQ QP hAL BP.lt l2
                refine wp_region_noPanic ?_
                refine wp_region_held_drew (S := (fun w_ => w_.cell? ⟨w.heap.size, 0, none⟩ = some (.int .i64 s.nb) ∧ w_.cell? ⟨w.heap.size, 1, none⟩ = some (.int .i64 s.nn) ∧ w_.cell? ⟨w.heap.size, 2, none⟩ = some (.int .i64 s.ns) ∧ w_.cell? ⟨w.heap.size, 3, none⟩ = some (.slice Ab s.bs.length cb) ∧ w_.cell? ⟨w.heap.size, 4, none⟩ = some (.slice An s.ts.length cn) ∧ w_.cell? ⟨b2, o2 + k * 2, none⟩ = some (.int .i64 n.id))) (by kernel_rfl) ?_ (fun hHeld => ?_)
                · (first | with_reducible exact QA | with_reducible exact QB | with_reducible exact QC | with_reducible exact QD | with_reducible exact QE | with_reducible exact QF | exact QG | show False)
                refine tk 0 ⟨some 66, .load 25 (.tmp 1), 25, "law.go:182", #[], none⟩ ?_; try simp only [Act.put, pz1, pz2, pz3]
                refine tk 1 ⟨some 67, .move (.tmp 6), 43, "law.go:182", #[], none⟩ ?_; try simp only [Act.put, pz1, pz2, pz3]
                refine tk 2 ⟨some 68, .move (.tmp 8), 3, "law.go:182", #[], none⟩ ?_; try simp only [Act.put, pz1, pz2, pz3]
                refine tk 3 ⟨some 69, .indexAddr 43 (.tmp 67) (.tmp 68), 0, "law.go:182", #[⟨1, .data⟩, ⟨2, .data⟩], none⟩ ?_; try simp only [Act.put, pz1, pz2, pz3]
                refine tk 4 ⟨some 70, .fieldAddr 48 (.tmp 69) 0, 0, "law.go:182", #[⟨3, .data⟩], none⟩ ?_; try simp only [Act.put, pz1, pz2, pz3]
                refine tk 5 ⟨some 71, .load 3 (.tmp 70), 3, "law.go:182", #[⟨4, .data⟩], none⟩ ?_; try simp only [Act.put, pz1, pz2, pz3]
                refine wpAnyH_ready (rs := [6, 10]) (by kernel_rfl) (by simp) ?_
                refine (AllReadyH.cons (o := ⟨some 72, .call { callee := .value (.func 13), args := #[.tmp 66, .tmp 71], argTypes := #[25, 3] }, 39, "law.go:182", #[⟨0, .data⟩, ⟨5, .data⟩], none⟩) rfl (fun K hK => ?_) (AllReadyH.cons (o := ⟨some 9, .alloc 38, 0, "law.go:182", #[], none⟩) rfl (fun K hK => ?_) AllReadyH.nil))
                · go_simp
                  (go_at_call 13; go_loud ((first | (with_reducible refine (find_yes s _ n.id _ SQ TQ HM.out kk n HK.out HNK.out).mono ?_) | (with_reducible refine (find_yes s _ n.id _ SQ2 TQ2 HM.out kk n HK.out HNK.out).mono ?_) | (with_reducible refine (find_yes s _ n.id _ SQ3 TQ3 HM.out kk n HK.out HNK.out).mono ?_)); rintro e' w7 ⟨v1, v2, rfl, p1, p2, b7⟩; obtain ⟨A7, c7, rfl, -, -⟩ := own_shape p1; obtain ⟨A8, c8, rfl, -, -⟩ := own_shape p2; first | ((have QD := keepQ QA b7 BP.lt l2); (have QE := keepQ QD ((Below.refl w7.heap.size w7).alloc (Nat.le_refl _) (.cells #[.int .i64 0, .int .i64 0, .string ⟨#[]⟩, .slice none 0 0, .slice none 0 0] 38)) (Nat.lt_of_lt_of_le BP.lt b7.size) (Nat.lt_of_lt_of_le l2 b7.size)); (have QF := keepQ QD ((Below.refl w7.heap.size w7).alloc (Nat.le_refl _) (.cells #[.int .i64 n.id, .int .i64 n.bk, .string n.nm, .slice A7 n.tg.length c7, .slice A8 n.sh.length c8] 38)) (Nat.lt_of_lt_of_le BP.lt b7.size) (Nat.lt_of_lt_of_le l2 b7.size))) | ((have QD := keepQ QB b7 (by have := BP.lt; simp; omega) (by simp; omega)); (have B9 := BZ2.below b7 BZ2.lt); (have hb7 := (HZ2.trans (b7.mono HZ2.size))); (have r0 := B9.cell_ 0); (have t0 := B9.free 0); (have r1 := B9.cell_ 1); (have t1 := B9.free 1); (have r2 := B9.cell_ 2); (have t2 := B9.free 2); (have r3 := B9.cell_ 3); (have t3 := B9.free 3); (have r4 := B9.cell_ 4); (have t4 := B9.free 4); simp at r0 r1 r2 r3 r4; (have hbf := st5_below hb7 (Nat.le_refl wq.heap.size) 0 (.int .i64 n.id) (.int .i64 n.bk) (.string n.nm) (.slice A7 n.tg.length c7) (.slice A8 n.sh.length c8) hb7.size); (have QG := keepQ QP hbf BP.lt l2)) | ((have QD := keepQ QC b7 (by have := BP.lt; simp; omega) (by simp; omega)); (have B9 := BZ3.below b7 BZ3.lt); (have hb7 := (hAL.trans (b7.mono hAL.size))); (have r0 := B9.cell_ 0); (have t0 := B9.free 0); (have r1 := B9.cell_ 1); (have t1 := B9.free 1); (have r2 := B9.cell_ 2); (have t2 := B9.free 2); (have r3 := B9.cell_ 3); (have t3 := B9.free 3); (have r4 := B9.cell_ 4); (have t4 := B9.free 4); simp at r0 r1 r2 r3 r4; (have hbf := st5_below hb7 (Nat.le_refl wq.heap.size) 0 (.int .i64 n.id) (.int .i64 n.bk) (.string n.nm) (.slice A7 n.tg.length c7) (.slice A8 n.sh.length c8) hb7.size); (have QG := keepQ QP hbf BP.lt l2))))
                  go_wp2_with fail
                  refine hK.out _ _ ?_ (fun hNew => ?_)
                  · (first | with_reducible exact QA | with_reducible exact QB | with_reducible exact QC | with_reducible exact QD | with_reducible exact QE | with_reducible exact QF | exact QG | show False)
                  clear hK K hHeld
                  have hHeld := hNew
                  clear hNew
                  try simp only [Act.put, pz1, pz2, pz3]
                  refine tk 7 ⟨some 65, .move (.tmp 72), 39, "law.go:182", #[⟨6, .data⟩], none⟩ ?_; try simp only [Act.put, pz1, pz2, pz3]
                  refine tk 8 ⟨some 73, .extract (.tmp 65) 0, 38, "law.go:182", #[⟨7, .data⟩], none⟩ ?_; try simp only [Act.put, pz1, pz2, pz3]
                  refine tk 9 ⟨some 74, .extract (.tmp 65) 1, 4, "law.go:182", #[⟨7, .data⟩, { on := 11, ground := Ground.gcOnly Departure.lateStores }], none⟩ ?_; try simp only [Act.put, pz1, pz2, pz3]
                  refine wpAnyH_ready (rs := [10]) (by kernel_rfl) (by simp) ?_
                  refine AllReadyH.cons (o := ⟨some 9, .alloc 38, 0, "law.go:182", #[], none⟩) rfl (fun K hK => ?_) AllReadyH.nil
                  go_simp
                  refine hK.out _ _ ?_ (fun hNew => ?_)
                  · (first | with_reducible exact QA | with_reducible exact QB | with_reducible exact QC | with_reducible exact QD | with_reducible exact QE | with_reducible exact QF | exact QG | show False)
                  clear hK K hHeld
                  have hHeld := hNew
                  clear hNew
                  try simp only [Act.put, pz1, pz2, pz3]
                  refine wpAnyH_ready (rs := [11]) (by kernel_rfl) (by simp) ?_
                  refine AllReadyH.cons (o := ⟨none, .store 38 (.tmp 9) (.tmp 73), 0, "law.go:182", #[⟨10, .data⟩, ⟨8, .data⟩, ⟨6, .chain⟩, ⟨0, .phase⟩, ⟨1, .phase⟩, ⟨2, .phase⟩, ⟨3, .phase⟩, ⟨4, .phase⟩, ⟨5, .phase⟩, ⟨6, .phase⟩, ⟨7, .phase⟩, ⟨8, .phase⟩, { on := 9, ground := Ground.textOnly Departure.lateStores }, ⟨10, .phase⟩], none⟩) rfl (fun K hK => ?_) AllReadyH.nil
                  go_simp
                  refine hK.out _ _ ?_ (fun hNew => ?_)
                  · (first | with_reducible exact QA | with_reducible exact QB | with_reducible exact QC | with_reducible exact QD | with_reducible exact QE | with_reducible exact QF | exact QG | show False)
                  clear hK K hHeld
                  have hHeld := hNew
                  clear hNew
                  try simp only [Act.put, pz1, pz2, pz3]
                  refine tk 12 ⟨some 10, .assign (.tmp 74), 4, "law.go:182", #[⟨9, .data⟩, ⟨11, .chain⟩, ⟨0, .phase⟩, ⟨1, .phase⟩, ⟨2, .phase⟩, ⟨3, .phase⟩, ⟨4, .phase⟩, ⟨5, .phase⟩, ⟨6, .phase⟩, ⟨7, .phase⟩, ⟨8, .phase⟩, ⟨9, .phase⟩, ⟨10, .phase⟩, ⟨11, .phase⟩], none⟩ ?_; try simp only [Act.put, pz1, pz2, pz3]
                  refine wpAnyH_done (by kernel_rfl) ?_ _
                  refine NoPanic.normal ?_
                  go_upto_region 15 with fail
                  have B9 : Blk (w7.alloc (.cells #[.int .i64 n.id, .int .i64 n.bk, .string n.nm, .slice A7 n.tg.length c7, .slice A8 n.sh.length c8] 38)) w7.heap.size 38 #[.int .i64 n.id, .int .i64 n.bk, .string n.nm, .slice A7 n.tg.length c7, .slice A8 n.sh.length c8] := Blk.new_ w7 38 #[.int .i64 n.id, .int .i64 n.bk, .string n.nm, .slice A7 n.tg.length c7, .slice A8 n.sh.length c8]
                  have hbf : Below wq.heap.size wq (w7.alloc (.cells #[.int .i64 n.id, .int .i64 n.bk, .string n.nm, .slice A7 n.tg.length c7, .slice A8 n.sh.length c8] 38)) := (btr (below_drew wq) (below_drew wq).size b7).alloc (btr (below_drew wq) (below_drew wq).size b7).size _
                  obtain ⟨wf, hwf⟩ : ∃ V : World, V = w7.alloc (.cells #[.int .i64 n.id, .int .i64 n.bk, .string n.nm, .slice A7 n.tg.length c7, .slice A8 n.sh.length c8] 38) := ⟨_, rfl⟩
                  obtain ⟨g9, hg9⟩ : ∃ V : Nat, V = w7.heap.size := ⟨_, rfl⟩
                  rw [← hwf, ← hg9] at B9
                  rw [← hwf] at hbf
                  rw [← hwf, ← hg9]
                  clear hwf hg9 QP QA QB QC QD QE QF hHeld b7 p1 p2 SQ TQ SQ2 TQ2 SQ3 TQ3 hAL HZ2 BZ2 BZ3
                  have yf := keep_cell yp hbf hlp
                  have uf := keep_cell u1 hbf l2
                  have c1 : wf.cell? ⟨g9, 1, none⟩ = some (.int .i64 x.id) := by rw [← HNB.out]; exact B9.cell_ 1
                  have c2 : wf.cell? ⟨g9, 2, none⟩ = some (.string n.nm) := B9.cell_ 2
                  have hbZ := btr hbn hbn.size hbf
                  clear B9 u0 u1 SP TP BP k0 k1 k2 k3 k4 yp
                  rcases (by omega : k = 0 ∨ 0 < k) with hk0 | hk0
                  · have hdk : decide (0 < k) = false := decide_eq_false (by omega)
                    clear hk0
                    have Q15 : wf.cell? ⟨b1, o1 + i * 2, none⟩ = some (.int .i64 x.id) ∧ wf.cell? ⟨b2, o2 + k * 2 + 1, none⟩ = some (.string n.nm) ∧ wf.cell? ⟨g9, 1, none⟩ = some (.int .i64 x.id) ∧ wf.cell? ⟨g9, 2, none⟩ = some (.string n.nm) := ⟨yf, uf, c1, c2⟩
                    have Q15D : wf.drew.cell? ⟨b1, o1 + i * 2, none⟩ = some (.int .i64 x.id) ∧ wf.drew.cell? ⟨b2, o2 + k * 2 + 1, none⟩ = some (.string n.nm) ∧ wf.drew.cell? ⟨g9, 1, none⟩ = some (.int .i64 x.id) ∧ wf.drew.cell? ⟨g9, 2, none⟩ = some (.string n.nm) := ⟨drew_cell Q15.1, drew_cell Q15.2.1, drew_cell Q15.2.2.1, drew_cell Q15.2.2.2⟩
                    clear Q15 yf uf c1 c2
                    refine wp_region_noPanic ?_
                    refine wp_region_held_drew (S := (fun w_ => w_.cell? ⟨b1, o1 + i * 2, none⟩ = some (.int .i64 x.id) ∧ w_.cell? ⟨b2, o2 + k * 2 + 1, none⟩ = some (.string n.nm) ∧ w_.cell? ⟨g9, 1, none⟩ = some (.int .i64 x.id) ∧ w_.cell? ⟨g9, 2, none⟩ = some (.string n.nm))) (by kernel_rfl) ?_ (fun hHeld => ?_)
                    · (first | with_reducible exact Q15D)
                    refine tk 0 ⟨some 75, .move (.tmp 10), 4, "law.go:183", #[], none⟩ ?_; try simp only [Act.put, pz1, pz2, pz3]
                    refine tk 1 ⟨some 76, .unOp .not 4 (.tmp 75), 4, "law.go:183", #[⟨0, .data⟩], none⟩ ?_; try simp only [Act.put, pz1, pz2, pz3]
                    refine tk 2 ⟨some 77, .move (.tmp 76), 4, "law.go:183", #[⟨1, .data⟩], none⟩ ?_; try simp only [Act.put, pz1, pz2, pz3]
                    refine tk 3 ⟨some 78, .fieldAddr 38 (.tmp 9) 1, 0, "law.go:183", #[⟨2, .guard⟩], some (2, false)⟩ ?_; try simp only [Act.put, pz1, pz2, pz3]
                    refine tk 4 ⟨some 79, .load 3 (.tmp 78), 3, "law.go:183", #[⟨3, .data⟩, ⟨2, .guard⟩], some (2, false)⟩ ?_; try simp only [Act.put, pz1, pz2, pz3]
                    refine tk 5 ⟨some 80, .move (.tmp 3), 43, "law.go:183", #[⟨2, .guard⟩], some (2, false)⟩ ?_; try simp only [Act.put, pz1, pz2, pz3]
                    refine tk 6 ⟨some 81, .move (.tmp 5), 3, "law.go:183", #[⟨2, .guard⟩], some (2, false)⟩ ?_; try simp only [Act.put, pz1, pz2, pz3]
                    refine tk 7 ⟨some 82, .indexAddr 43 (.tmp 80) (.tmp 81), 0, "law.go:183", #[⟨5, .data⟩, ⟨6, .data⟩, ⟨2, .guard⟩], some (2, false)⟩ ?_; try simp only [Act.put, pz1, pz2, pz3]
                    refine tk 8 ⟨some 83, .fieldAddr 48 (.tmp 82) 0, 0, "law.go:183", #[⟨7, .data⟩, ⟨2, .guard⟩], some (2, false)⟩ ?_; try simp only [Act.put, pz1, pz2, pz3]
                    refine tk 9 ⟨some 84, .load 3 (.tmp 83), 3, "law.go:183", #[⟨8, .data⟩, ⟨2, .guard⟩], some (2, false)⟩ ?_; try simp only [Act.put, pz1, pz2, pz3]
                    refine tk 10 ⟨some 85, .binOp .neq 3 (.tmp 79) (.tmp 84) 3, 4, "law.go:183", #[⟨4, .data⟩, ⟨9, .data⟩, ⟨2, .guard⟩], some (2, false)⟩ ?_; try simp only [Act.put, pz1, pz2, pz3]
                    refine tk 11 ⟨some 86, .pick (.tmp 77) (.const (.bool true)) (.tmp 85), 4, "law.go:183", #[⟨2, .data⟩, ⟨10, .data⟩], none⟩ ?_; try simp only [Act.put, pz1, pz2, pz3]
                    refine tk 12 ⟨some 87, .move (.tmp 86), 4, "law.go:183", #[⟨11, .data⟩, ⟨2, .chain⟩], none⟩ ?_; try simp only [Act.put, pz1, pz2, pz3]
                    refine tk 13 ⟨some 88, .fieldAddr 38 (.tmp 9) 2, 0, "law.go:183", #[⟨12, .guard⟩], some (12, false)⟩ ?_; try simp only [Act.put, pz1, pz2, pz3]
                    refine tk 14 ⟨some 89, .load 9 (.tmp 88), 9, "law.go:183", #[⟨13, .data⟩, ⟨12, .guard⟩], some (12, false)⟩ ?_; try simp only [Act.put, pz1, pz2, pz3]
                    refine tk 15 ⟨some 90, .move (.tmp 6), 43, "law.go:183", #[⟨12, .guard⟩], some (12, false)⟩ ?_; try simp only [Act.put, pz1, pz2, pz3]
                    refine tk 16 ⟨some 91, .move (.tmp 8), 3, "law.go:183", #[⟨12, .guard⟩], some (12, false)⟩ ?_; try simp only [Act.put, pz1, pz2, pz3]
                    refine tk 17 ⟨some 92, .indexAddr 43 (.tmp 90) (.tmp 91), 0, "law.go:183", #[⟨15, .data⟩, ⟨16, .data⟩, ⟨12, .guard⟩], some (12, false)⟩ ?_; try simp only [Act.put, pz1, pz2, pz3]
                    refine tk 18 ⟨some 93, .fieldAddr 48 (.tmp 92) 1, 0, "law.go:183", #[⟨17, .data⟩, ⟨12, .guard⟩], some (12, false)⟩ ?_; try simp only [Act.put, pz1, pz2, pz3]
                    refine tk 19 ⟨some 94, .load 9 (.tmp 93), 9, "law.go:183", #[⟨18, .data⟩, ⟨12, .guard⟩], some (12, false)⟩ ?_; try simp only [Act.put, pz1, pz2, pz3]
                    refine tk 20 ⟨some 95, .binOp .neq 9 (.tmp 89) (.tmp 94) 9, 4, "law.go:183", #[⟨14, .data⟩, ⟨19, .data⟩, ⟨12, .guard⟩], some (12, false)⟩ ?_; try simp only [Act.put, pz1, pz2, pz3]
                    refine tk 21 ⟨some 96, .pick (.tmp 87) (.const (.bool true)) (.tmp 95), 4, "law.go:183", #[⟨12, .data⟩, ⟨20, .data⟩], none⟩ ?_; try simp only [Act.put, pz1, pz2, pz3]
                    refine tk 22 ⟨some 97, .move (.tmp 96), 4, "law.go:183", #[⟨21, .data⟩, ⟨12, .chain⟩], none⟩ ?_; try simp only [Act.put, pz1, pz2, pz3]
                    refine tk 23 ⟨some 98, .move (.tmp 8), 3, "law.go:183", #[⟨22, .guard⟩], some (22, false)⟩ ?_; try simp only [Act.put, pz1, pz2, pz3]
                    refine tk 24 ⟨some 99, .binOp .gtr 3 (.tmp 98) (.const (.int .i64 0)) 3, 4, "law.go:183", #[⟨23, .data⟩, ⟨22, .guard⟩], some (22, false)⟩ ?_; try simp only [Act.put, pz1, pz2, pz3]
                    refine tk 25 ⟨some 100, .move (.tmp 99), 4, "law.go:183", #[⟨24, .data⟩, ⟨22, .chain⟩, ⟨22, .guard⟩], some (22, false)⟩ ?_; try simp only [Act.put, pz1, pz2, pz3]
                    refine tu 26 ⟨some 101, .move (.tmp 6), 43, "law.go:183", #[⟨25, .guard⟩], some (25, true)⟩ ?_
                    try simp only [Act.put, pz1, pz2, pz3]
                    refine tu 27 ⟨some 102, .move (.tmp 8), 3, "law.go:183", #[⟨25, .guard⟩], some (25, true)⟩ ?_
                    try simp only [Act.put, pz1, pz2, pz3]
                    refine tu 28 ⟨some 103, .indexAddr 43 (.tmp 101) (.tmp 102), 0, "law.go:183", #[⟨26, .data⟩, ⟨27, .data⟩, ⟨25, .guard⟩], some (25, true)⟩ ?_
                    try simp only [Act.put, pz1, pz2, pz3]
                    refine tu 29 ⟨some 104, .fieldAddr 48 (.tmp 103) 1, 0, "law.go:183", #[⟨28, .data⟩, ⟨25, .guard⟩], some (25, true)⟩ ?_
                    try simp only [Act.put, pz1, pz2, pz3]
                    refine tu 30 ⟨some 105, .load 9 (.tmp 104), 9, "law.go:183", #[⟨29, .data⟩, ⟨25, .guard⟩], some (25, true)⟩ ?_
                    try simp only [Act.put, pz1, pz2, pz3]
                    refine tu 31 ⟨some 106, .move (.tmp 6), 43, "law.go:183", #[⟨25, .guard⟩], some (25, true)⟩ ?_
                    try simp only [Act.put, pz1, pz2, pz3]
                    refine tu 32 ⟨some 107, .move (.tmp 8), 3, "law.go:183", #[⟨25, .guard⟩], some (25, true)⟩ ?_
                    try simp only [Act.put, pz1, pz2, pz3]
                    refine tu 33 ⟨some 108, .binOp .sub 3 (.tmp 107) (.const (.int .i64 1)) 3, 3, "law.go:183", #[⟨32, .data⟩, ⟨25, .guard⟩], some (25, true)⟩ ?_
                    try simp only [Act.put, pz1, pz2, pz3]
                    refine tu 34 ⟨some 109, .indexAddr 43 (.tmp 106) (.tmp 108), 0, "law.go:183", #[⟨31, .data⟩, ⟨33, .data⟩, ⟨25, .guard⟩], some (25, true)⟩ ?_
                    try simp only [Act.put, pz1, pz2, pz3]
                    refine tu 35 ⟨some 110, .fieldAddr 48 (.tmp 109) 1, 0, "law.go:183", #[⟨34, .data⟩, ⟨25, .guard⟩], some (25, true)⟩ ?_
                    try simp only [Act.put, pz1, pz2, pz3]
                    refine tu 36 ⟨some 111, .load 9 (.tmp 110), 9, "law.go:183", #[⟨35, .data⟩, ⟨25, .guard⟩], some (25, true)⟩ ?_
                    try simp only [Act.put, pz1, pz2, pz3]
                    refine tu 37 ⟨some 112, .binOp .leq 9 (.tmp 105) (.tmp 111) 9, 4, "law.go:183", #[⟨30, .data⟩, ⟨36, .data⟩, ⟨25, .guard⟩], some (25, true)⟩ ?_
                    try simp only [Act.put, pz1, pz2, pz3]
                    refine tk 38 ⟨some 113, .pick (.tmp 100) (.tmp 112) (.const (.bool false)), 4, "law.go:183", #[⟨25, .data⟩, ⟨37, .data⟩, ⟨22, .guard⟩], some (22, false)⟩ ?_; try simp only [Act.put, pz1, pz2, pz3]
                    refine tk 39 ⟨some 114, .pick (.tmp 97) (.const (.bool true)) (.tmp 113), 4, "law.go:183", #[⟨22, .data⟩, ⟨38, .data⟩], none⟩ ?_; try simp only [Act.put, pz1, pz2, pz3]
                    refine wpAnyH_done (by kernel_rfl) ?_ _
                    refine NoPanic.normal ?_
                    go_wp2_with fail
                    go_roundw
                    case rel => exact ⟨k + 1, by omega, by go_num, (by rw [show cntI s its i + ((k + 1 : Nat) : Int) = cntI s its i + (k : Int) + 1 by omega]; have := HCB.out i; rw [w64 _ (by omega) (by omega)]), (by first | exact hbZ | exact drew_below hbZ)⟩
                    case measure => simp [intOf]; omega
                  · obtain ⟨j9, hj9⟩ : ∃ j, k = j + 1 := ⟨k - 1, by omega⟩
                    obtain ⟨z, hz⟩ : ∃ z, ns[j9]? = some z := ⟨_, List.getElem?_eq_getElem (by have := HMM.out; omega)⟩
                    have hez : (ns.map itC)[j9]? = some (itC z) := by rw [List.getElem?_map, hz]; rfl
                    have zf := keep_cell (HQ2.out j9 _ hez 1 _ rfl) hbf l2
                    have hless2 := less_not (HN.out.less j9 z (ntIt n) hz (by rw [← hj9]; exact HY.out))
                    have hA2 : Op.bytesLess n.nm.toList z.nm.toList = false := hless2.1
                    have hE2 : (n.nm.toList == z.nm.toList) = false := hless2.2
                    have m00 : (0 : Int) ≤ (j9 : Int) := by omega
                    have m01 : (j9 : Int) < (m : Int) := by omega
                    have msub : (k : Int) - 1 = (j9 : Int) := by omega
                    have mwr : IntKind.i64.wrap (j9 : Int) = (j9 : Int) := wrapS _ (by omega) (by omega)
                    have mpos : (0 : Int) < (k : Int) := by omega
                    have Q15D : wf.drew.cell? ⟨b1, o1 + i * 2, none⟩ = some (.int .i64 x.id) ∧ wf.drew.cell? ⟨b2, o2 + k * 2 + 1, none⟩ = some (.string n.nm) ∧ wf.drew.cell? ⟨g9, 1, none⟩ = some (.int .i64 x.id) ∧ wf.drew.cell? ⟨g9, 2, none⟩ = some (.string n.nm) ∧ wf.drew.cell? ⟨b2, o2 + j9 * 2 + 1, none⟩ = some (.string z.nm) := ⟨drew_cell yf, drew_cell uf, drew_cell c1, drew_cell c2, drew_cell zf⟩
                    clear yf uf c1 c2 zf
                    clear hez hless2 hj9 hz
                    refine wp_region_noPanic ?_
                    refine wp_region_held_drew (S := (fun w_ => w_.cell? ⟨b1, o1 + i * 2, none⟩ = some (.int .i64 x.id) ∧ w_.cell? ⟨b2, o2 + k * 2 + 1, none⟩ = some (.string n.nm) ∧ w_.cell? ⟨g9, 1, none⟩ = some (.int .i64 x.id) ∧ w_.cell? ⟨g9, 2, none⟩ = some (.string n.nm) ∧ w_.cell? ⟨b2, o2 + j9 * 2 + 1, none⟩ = some (.string z.nm))) (by kernel_rfl) ?_ (fun hHeld => ?_)
                    · (first | with_reducible exact Q15D)
                    refine tk 0 ⟨some 75, .move (.tmp 10), 4, "law.go:183", #[], none⟩ ?_; try simp only [Act.put, pz1, pz2, pz3]
                    refine tk 1 ⟨some 76, .unOp .not 4 (.tmp 75), 4, "law.go:183", #[⟨0, .data⟩], none⟩ ?_; try simp only [Act.put, pz1, pz2, pz3]
                    refine tk 2 ⟨some 77, .move (.tmp 76), 4, "law.go:183", #[⟨1, .data⟩], none⟩ ?_; try simp only [Act.put, pz1, pz2, pz3]
                    refine tk 3 ⟨some 78, .fieldAddr 38 (.tmp 9) 1, 0, "law.go:183", #[⟨2, .guard⟩], some (2, false)⟩ ?_; try simp only [Act.put, pz1, pz2, pz3]
                    refine tk 4 ⟨some 79, .load 3 (.tmp 78), 3, "law.go:183", #[⟨3, .data⟩, ⟨2, .guard⟩], some (2, false)⟩ ?_; try simp only [Act.put, pz1, pz2, pz3]
                    refine tk 5 ⟨some 80, .move (.tmp 3), 43, "law.go:183", #[⟨2, .guard⟩], some (2, false)⟩ ?_; try simp only [Act.put, pz1, pz2, pz3]
                    refine tk 6 ⟨some 81, .move (.tmp 5), 3, "law.go:183", #[⟨2, .guard⟩], some (2, false)⟩ ?_; try simp only [Act.put, pz1, pz2, pz3]
                    refine tk 7 ⟨some 82, .indexAddr 43 (.tmp 80) (.tmp 81), 0, "law.go:183", #[⟨5, .data⟩, ⟨6, .data⟩, ⟨2, .guard⟩], some (2, false)⟩ ?_; try simp only [Act.put, pz1, pz2, pz3]
                    refine tk 8 ⟨some 83, .fieldAddr 48 (.tmp 82) 0, 0, "law.go:183", #[⟨7, .data⟩, ⟨2, .guard⟩], some (2, false)⟩ ?_; try simp only [Act.put, pz1, pz2, pz3]
                    refine tk 9 ⟨some 84, .load 3 (.tmp 83), 3, "law.go:183", #[⟨8, .data⟩, ⟨2, .guard⟩], some (2, false)⟩ ?_; try simp only [Act.put, pz1, pz2, pz3]
                    refine tk 10 ⟨some 85, .binOp .neq 3 (.tmp 79) (.tmp 84) 3, 4, "law.go:183", #[⟨4, .data⟩, ⟨9, .data⟩, ⟨2, .guard⟩], some (2, false)⟩ ?_; try simp only [Act.put, pz1, pz2, pz3]
                    refine tk 11 ⟨some 86, .pick (.tmp 77) (.const (.bool true)) (.tmp 85), 4, "law.go:183", #[⟨2, .data⟩, ⟨10, .data⟩], none⟩ ?_; try simp only [Act.put, pz1, pz2, pz3]
                    refine tk 12 ⟨some 87, .move (.tmp 86), 4, "law.go:183", #[⟨11, .data⟩, ⟨2, .chain⟩], none⟩ ?_; try simp only [Act.put, pz1, pz2, pz3]
                    refine tk 13 ⟨some 88, .fieldAddr 38 (.tmp 9) 2, 0, "law.go:183", #[⟨12, .guard⟩], some (12, false)⟩ ?_; try simp only [Act.put, pz1, pz2, pz3]
                    refine tk 14 ⟨some 89, .load 9 (.tmp 88), 9, "law.go:183", #[⟨13, .data⟩, ⟨12, .guard⟩], some (12, false)⟩ ?_; try simp only [Act.put, pz1, pz2, pz3]
                    refine tk 15 ⟨some 90, .move (.tmp 6), 43, "law.go:183", #[⟨12, .guard⟩], some (12, false)⟩ ?_; try simp only [Act.put, pz1, pz2, pz3]
                    refine tk 16 ⟨some 91, .move (.tmp 8), 3, "law.go:183", #[⟨12, .guard⟩], some (12, false)⟩ ?_; try simp only [Act.put, pz1, pz2, pz3]
                    refine tk 17 ⟨some 92, .indexAddr 43 (.tmp 90) (.tmp 91), 0, "law.go:183", #[⟨15, .data⟩, ⟨16, .data⟩, ⟨12, .guard⟩], some (12, false)⟩ ?_; try simp only [Act.put, pz1, pz2, pz3]
                    refine tk 18 ⟨some 93, .fieldAddr 48 (.tmp 92) 1, 0, "law.go:183", #[⟨17, .data⟩, ⟨12, .guard⟩], some (12, false)⟩ ?_; try simp only [Act.put, pz1, pz2, pz3]
                    refine tk 19 ⟨some 94, .load 9 (.tmp 93), 9, "law.go:183", #[⟨18, .data⟩, ⟨12, .guard⟩], some (12, false)⟩ ?_; try simp only [Act.put, pz1, pz2, pz3]
                    refine tk 20 ⟨some 95, .binOp .neq 9 (.tmp 89) (.tmp 94) 9, 4, "law.go:183", #[⟨14, .data⟩, ⟨19, .data⟩, ⟨12, .guard⟩], some (12, false)⟩ ?_; try simp only [Act.put, pz1, pz2, pz3]
                    refine tk 21 ⟨some 96, .pick (.tmp 87) (.const (.bool true)) (.tmp 95), 4, "law.go:183", #[⟨12, .data⟩, ⟨20, .data⟩], none⟩ ?_; try simp only [Act.put, pz1, pz2, pz3]
                    refine tk 22 ⟨some 97, .move (.tmp 96), 4, "law.go:183", #[⟨21, .data⟩, ⟨12, .chain⟩], none⟩ ?_; try simp only [Act.put, pz1, pz2, pz3]
                    refine tk 23 ⟨some 98, .move (.tmp 8), 3, "law.go:183", #[⟨22, .guard⟩], some (22, false)⟩ ?_; try simp only [Act.put, pz1, pz2, pz3]
                    refine tk 24 ⟨some 99, .binOp .gtr 3 (.tmp 98) (.const (.int .i64 0)) 3, 4, "law.go:183", #[⟨23, .data⟩, ⟨22, .guard⟩], some (22, false)⟩ ?_; try simp only [Act.put, pz1, pz2, pz3]
                    refine tk 25 ⟨some 100, .move (.tmp 99), 4, "law.go:183", #[⟨24, .data⟩, ⟨22, .chain⟩, ⟨22, .guard⟩], some (22, false)⟩ ?_; try simp only [Act.put, pz1, pz2, pz3]
                    refine tk 26 ⟨some 101, .move (.tmp 6), 43, "law.go:183", #[⟨25, .guard⟩], some (25, true)⟩ ?_; try simp only [Act.put, pz1, pz2, pz3]
                    refine tk 27 ⟨some 102, .move (.tmp 8), 3, "law.go:183", #[⟨25, .guard⟩], some (25, true)⟩ ?_; try simp only [Act.put, pz1, pz2, pz3]
                    refine tk 28 ⟨some 103, .indexAddr 43 (.tmp 101) (.tmp 102), 0, "law.go:183", #[⟨26, .data⟩, ⟨27, .data⟩, ⟨25, .guard⟩], some (25, true)⟩ ?_; try simp only [Act.put, pz1, pz2, pz3]
                    refine tk 29 ⟨some 104, .fieldAddr 48 (.tmp 103) 1, 0, "law.go:183", #[⟨28, .data⟩, ⟨25, .guard⟩], some (25, true)⟩ ?_; try simp only [Act.put, pz1, pz2, pz3]
                    refine tk 30 ⟨some 105, .load 9 (.tmp 104), 9, "law.go:183", #[⟨29, .data⟩, ⟨25, .guard⟩], some (25, true)⟩ ?_; try simp only [Act.put, pz1, pz2, pz3]
                    refine tk 31 ⟨some 106, .move (.tmp 6), 43, "law.go:183", #[⟨25, .guard⟩], some (25, true)⟩ ?_; try simp only [Act.put, pz1, pz2, pz3]
                    refine tk 32 ⟨some 107, .move (.tmp 8), 3, "law.go:183", #[⟨25, .guard⟩], some (25, true)⟩ ?_; try simp only [Act.put, pz1, pz2, pz3]
                    refine tk 33 ⟨some 108, .binOp .sub 3 (.tmp 107) (.const (.int .i64 1)) 3, 3, "law.go:183", #[⟨32, .data⟩, ⟨25, .guard⟩], some (25, true)⟩ ?_; try simp only [Act.put, pz1, pz2, pz3]
                    refine tk 34 ⟨some 109, .indexAddr 43 (.tmp 106) (.tmp 108), 0, "law.go:183", #[⟨31, .data⟩, ⟨33, .data⟩, ⟨25, .guard⟩], some (25, true)⟩ ?_; try simp only [Act.put, pz1, pz2, pz3]
                    refine tk 35 ⟨some 110, .fieldAddr 48 (.tmp 109) 1, 0, "law.go:183", #[⟨34, .data⟩, ⟨25, .guard⟩], some (25, true)⟩ ?_; try simp only [Act.put, pz1, pz2, pz3]
                    refine tk 36 ⟨some 111, .load 9 (.tmp 110), 9, "law.go:183", #[⟨35, .data⟩, ⟨25, .guard⟩], some (25, true)⟩ ?_; try simp only [Act.put, pz1, pz2, pz3]
                    refine tk 37 ⟨some 112, .binOp .leq 9 (.tmp 105) (.tmp 111) 9, 4, "law.go:183", #[⟨30, .data⟩, ⟨36, .data⟩, ⟨25, .guard⟩], some (25, true)⟩ ?_; try simp only [Act.put, pz1, pz2, pz3]
                    refine tk 38 ⟨some 113, .pick (.tmp 100) (.tmp 112) (.const (.bool false)), 4, "law.go:183", #[⟨25, .data⟩, ⟨37, .data⟩, ⟨22, .guard⟩], some (22, false)⟩ ?_; try simp only [Act.put, pz1, pz2, pz3]
                    refine tk 39 ⟨some 114, .pick (.tmp 97) (.const (.bool true)) (.tmp 113), 4, "law.go:183", #[⟨22, .data⟩, ⟨38, .data⟩], none⟩ ?_; try simp only [Act.put, pz1, pz2, pz3]
                    refine wpAnyH_done (by kernel_rfl) ?_ _
                    refine NoPanic.normal ?_
                    go_wp2_with fail
                    go_roundw
                    case rel => exact ⟨k + 1, by omega, by go_num, (by rw [show cntI s its i + ((k + 1 : Nat) : Int) = cntI s its i + (k : Int) + 1 by omega]; have := HCB.out i; rw [w64 _ (by omega) (by omega)]), (by first | exact hbZ | exact drew_below hbZ)⟩
                    case measure => simp [intOf]; omega
                · go_simp
                  refine hK.out _ _ ?_ (fun hNew => ?_)
                  · (first | with_reducible exact QA | with_reducible exact QB | with_reducible exact QC | with_reducible exact QD | with_reducible exact QE | with_reducible exact QF | exact QG | show False)
                  clear hK K hHeld
                  have hHeld := hNew
                  clear hNew
                  try simp only [Act.put, pz1, pz2, pz3]
                  refine wpAnyH_ready (rs := [6]) (by kernel_rfl) (by simp) ?_
                  refine AllReadyH.cons (o := ⟨some 72, .call { callee := .value (.func 13), args := #[.tmp 66, .tmp 71], argTypes := #[25, 3] }, 39, "law.go:182", #[⟨0, .data⟩, ⟨5, .data⟩], none⟩) rfl (fun K hK => ?_) AllReadyH.nil
                  go_simp
                  (go_at_call 13; go_loud ((first | (with_reducible refine (find_yes s _ n.id _ SQ TQ HM.out kk n HK.out HNK.out).mono ?_) | (with_reducible refine (find_yes s _ n.id _ SQ2 TQ2 HM.out kk n HK.out HNK.out).mono ?_) | (with_reducible refine (find_yes s _ n.id _ SQ3 TQ3 HM.out kk n HK.out HNK.out).mono ?_)); rintro e' w7 ⟨v1, v2, rfl, p1, p2, b7⟩; obtain ⟨A7, c7, rfl, -, -⟩ := own_shape p1; obtain ⟨A8, c8, rfl, -, -⟩ := own_shape p2; first | ((have QD := keepQ QA b7 BP.lt l2); (have QE := keepQ QD ((Below.refl w7.heap.size w7).alloc (Nat.le_refl _) (.cells #[.int .i64 0, .int .i64 0, .string ⟨#[]⟩, .slice none 0 0, .slice none 0 0] 38)) (Nat.lt_of_lt_of_le BP.lt b7.size) (Nat.lt_of_lt_of_le l2 b7.size)); (have QF := keepQ QD ((Below.refl w7.heap.size w7).alloc (Nat.le_refl _) (.cells #[.int .i64 n.id, .int .i64 n.bk, .string n.nm, .slice A7 n.tg.length c7, .slice A8 n.sh.length c8] 38)) (Nat.lt_of_lt_of_le BP.lt b7.size) (Nat.lt_of_lt_of_le l2 b7.size))) | ((have QD := keepQ QB b7 (by have := BP.lt; simp; omega) (by simp; omega)); (have B9 := BZ2.below b7 BZ2.lt); (have hb7 := (HZ2.trans (b7.mono HZ2.size))); (have r0 := B9.cell_ 0); (have t0 := B9.free 0); (have r1 := B9.cell_ 1); (have t1 := B9.free 1); (have r2 := B9.cell_ 2); (have t2 := B9.free 2); (have r3 := B9.cell_ 3); (have t3 := B9.free 3); (have r4 := B9.cell_ 4); (have t4 := B9.free 4); simp at r0 r1 r2 r3 r4; (have hbf := st5_below hb7 (Nat.le_refl wq.heap.size) 0 (.int .i64 n.id) (.int .i64 n.bk) (.string n.nm) (.slice A7 n.tg.length c7) (.slice A8 n.sh.length c8) hb7.size); (have QG := keepQ QP hbf BP.lt l2)) | ((have QD := keepQ QC b7 (by have := BP.lt; simp; omega) (by simp; omega)); (have B9 := BZ3.below b7 BZ3.lt); (have hb7 := (hAL.trans (b7.mono hAL.size))); (have r0 := B9.cell_ 0); (have t0 := B9.free 0); (have r1 := B9.cell_ 1); (have t1 := B9.free 1); (have r2 := B9.cell_ 2); (have t2 := B9.free 2); (have r3 := B9.cell_ 3); (have t3 := B9.free 3); (have r4 := B9.cell_ 4); (have t4 := B9.free 4); simp at r0 r1 r2 r3 r4; (have hbf := st5_below hb7 (Nat.le_refl wq.heap.size) 0 (.int .i64 n.id) (.int .i64 n.bk) (.string n.nm) (.slice A7 n.tg.length c7) (.slice A8 n.sh.length c8) hb7.size); (have QG := keepQ QP hbf BP.lt l2))))
                  go_wp2_with fail
                  refine hK.out _ _ ?_ (fun hNew => ?_)
                  · (first | with_reducible exact QA | with_reducible exact QB | with_reducible exact QC | with_reducible exact QD | with_reducible exact QE | with_reducible exact QF | exact QG | show False)
                  clear hK K hHeld
                  have hHeld := hNew
                  clear hNew
                  try simp only [Act.put, pz1, pz2, pz3]
                  refine tk 7 ⟨some 65, .move (.tmp 72), 39, "law.go:182", #[⟨6, .data⟩], none⟩ ?_; try simp only [Act.put, pz1, pz2, pz3]
                  refine tk 8 ⟨some 73, .extract (.tmp 65) 0, 38, "law.go:182", #[⟨7, .data⟩], none⟩ ?_; try simp only [Act.put, pz1, pz2, pz3]
                  refine tk 9 ⟨some 74, .extract (.tmp 65) 1, 4, "law.go:182", #[⟨7, .data⟩, { on := 11, ground := Ground.gcOnly Departure.lateStores }], none⟩ ?_; try simp only [Act.put, pz1, pz2, pz3]
                  refine wpAnyH_ready (rs := [11]) (by kernel_rfl) (by simp) ?_
                  refine AllReadyH.cons (o := ⟨none, .store 38 (.tmp 9) (.tmp 73), 0, "law.go:182", #[⟨10, .data⟩, ⟨8, .data⟩, ⟨6, .chain⟩, ⟨0, .phase⟩, ⟨1, .phase⟩, ⟨2, .phase⟩, ⟨3, .phase⟩, ⟨4, .phase⟩, ⟨5, .phase⟩, ⟨6, .phase⟩, ⟨7, .phase⟩, ⟨8, .phase⟩, { on := 9, ground := Ground.textOnly Departure.lateStores }, ⟨10, .phase⟩], none⟩) rfl (fun K hK => ?_) AllReadyH.nil
                  go_simp
                  refine hK.out _ _ ?_ (fun hNew => ?_)
                  · (first | with_reducible exact QA | with_reducible exact QB | with_reducible exact QC | with_reducible exact QD | with_reducible exact QE | with_reducible exact QF | exact QG | show False)
                  clear hK K hHeld
                  have hHeld := hNew
                  clear hNew
                  try simp only [Act.put, pz1, pz2, pz3]
                  refine tk 12 ⟨some 10, .assign (.tmp 74), 4, "law.go:182", #[⟨9, .data⟩, ⟨11, .chain⟩, ⟨0, .phase⟩, ⟨1, .phase⟩, ⟨2, .phase⟩, ⟨3, .phase⟩, ⟨4, .phase⟩, ⟨5, .phase⟩, ⟨6, .phase⟩, ⟨7, .phase⟩, ⟨8, .phase⟩, ⟨9, .phase⟩, ⟨10, .phase⟩, ⟨11, .phase⟩], none⟩ ?_; try simp only [Act.put, pz1, pz2, pz3]
                  refine wpAnyH_done (by kernel_rfl) ?_ _
                  refine NoPanic.normal ?_
                  go_upto_region 15 with fail
                  have B9f := B9.st5_ (.int .i64 n.id) (.int .i64 n.bk) (.string n.nm) (.slice A7 n.tg.length c7) (.slice A8 n.sh.length c8)
                  clear B9
                  have B9 := B9f
                  change Code.wp _ _ _ _ (st5 w7 wq.heap.size 0 (.int .i64 n.id) (.int .i64 n.bk) (.string n.nm) (.slice A7 n.tg.length c7) (.slice A8 n.sh.length c8))
                  obtain ⟨wf, hwf⟩ : ∃ V : World, V = st5 w7 wq.heap.size 0 (.int .i64 n.id) (.int .i64 n.bk) (.string n.nm) (.slice A7 n.tg.length c7) (.slice A8 n.sh.length c8) := ⟨_, rfl⟩
                  rw [← hwf] at B9 hbf ⊢
                  obtain ⟨g9, hg9⟩ : ∃ V : Nat, V = wq.heap.size := ⟨_, rfl⟩
                  rw [← hg9] at B9 ⊢
                  clear hwf hg9 B9f QP QA QB QC QD QG hHeld b7 p1 p2 SQ TQ SQ2 TQ2 SQ3 TQ3 hAL HZ2 BZ2 BZ3 hb7 r0 r1 r2 r3 r4 t0 t1 t2 t3 t4
                  have yf := keep_cell yp hbf hlp
                  have uf := keep_cell u1 hbf l2
                  have c1 : wf.cell? ⟨g9, 1, none⟩ = some (.int .i64 x.id) := by rw [← HNB.out]; exact B9.cell_ 1
                  have c2 : wf.cell? ⟨g9, 2, none⟩ = some (.string n.nm) := B9.cell_ 2
                  have hbZ := btr hbn hbn.size hbf
                  clear B9 u0 u1 SP TP BP k0 k1 k2 k3 k4 yp
                  rcases (by omega : k = 0 ∨ 0 < k) with hk0 | hk0
                  · have hdk : decide (0 < k) = false := decide_eq_false (by omega)
                    clear hk0
                    have Q15 : wf.cell? ⟨b1, o1 + i * 2, none⟩ = some (.int .i64 x.id) ∧ wf.cell? ⟨b2, o2 + k * 2 + 1, none⟩ = some (.string n.nm) ∧ wf.cell? ⟨g9, 1, none⟩ = some (.int .i64 x.id) ∧ wf.cell? ⟨g9, 2, none⟩ = some (.string n.nm) := ⟨yf, uf, c1, c2⟩
                    have Q15D : wf.drew.cell? ⟨b1, o1 + i * 2, none⟩ = some (.int .i64 x.id) ∧ wf.drew.cell? ⟨b2, o2 + k * 2 + 1, none⟩ = some (.string n.nm) ∧ wf.drew.cell? ⟨g9, 1, none⟩ = some (.int .i64 x.id) ∧ wf.drew.cell? ⟨g9, 2, none⟩ = some (.string n.nm) := ⟨drew_cell Q15.1, drew_cell Q15.2.1, drew_cell Q15.2.2.1, drew_cell Q15.2.2.2⟩
                    clear Q15 yf uf c1 c2
                    refine wp_region_noPanic ?_
                    refine wp_region_held_drew (S := (fun w_ => w_.cell? ⟨b1, o1 + i * 2, none⟩ = some (.int .i64 x.id) ∧ w_.cell? ⟨b2, o2 + k * 2 + 1, none⟩ = some (.string n.nm) ∧ w_.cell? ⟨g9, 1, none⟩ = some (.int .i64 x.id) ∧ w_.cell? ⟨g9, 2, none⟩ = some (.string n.nm))) (by kernel_rfl) ?_ (fun hHeld => ?_)
                    · (first | with_reducible exact Q15D)
                    refine tk 0 ⟨some 75, .move (.tmp 10), 4, "law.go:183", #[], none⟩ ?_; try simp only [Act.put, pz1, pz2, pz3]
                    refine tk 1 ⟨some 76, .unOp .not 4 (.tmp 75), 4, "law.go:183", #[⟨0, .data⟩], none⟩ ?_; try simp only [Act.put, pz1, pz2, pz3]
                    refine tk 2 ⟨some 77, .move (.tmp 76), 4, "law.go:183", #[⟨1, .data⟩], none⟩ ?_; try simp only [Act.put, pz1, pz2, pz3]
                    refine tk 3 ⟨some 78, .fieldAddr 38 (.tmp 9) 1, 0, "law.go:183", #[⟨2, .guard⟩], some (2, false)⟩ ?_; try simp only [Act.put, pz1, pz2, pz3]
                    refine tk 4 ⟨some 79, .load 3 (.tmp 78), 3, "law.go:183", #[⟨3, .data⟩, ⟨2, .guard⟩], some (2, false)⟩ ?_; try simp only [Act.put, pz1, pz2, pz3]
                    refine tk 5 ⟨some 80, .move (.tmp 3), 43, "law.go:183", #[⟨2, .guard⟩], some (2, false)⟩ ?_; try simp only [Act.put, pz1, pz2, pz3]
                    refine tk 6 ⟨some 81, .move (.tmp 5), 3, "law.go:183", #[⟨2, .guard⟩], some (2, false)⟩ ?_; try simp only [Act.put, pz1, pz2, pz3]
                    refine tk 7 ⟨some 82, .indexAddr 43 (.tmp 80) (.tmp 81), 0, "law.go:183", #[⟨5, .data⟩, ⟨6, .data⟩, ⟨2, .guard⟩], some (2, false)⟩ ?_; try simp only [Act.put, pz1, pz2, pz3]
                    refine tk 8 ⟨some 83, .fieldAddr 48 (.tmp 82) 0, 0, "law.go:183", #[⟨7, .data⟩, ⟨2, .guard⟩], some (2, false)⟩ ?_; try simp only [Act.put, pz1, pz2, pz3]
                    refine tk 9 ⟨some 84, .load 3 (.tmp 83), 3, "law.go:183", #[⟨8, .data⟩, ⟨2, .guard⟩], some (2, false)⟩ ?_; try simp only [Act.put, pz1, pz2, pz3]
                    refine tk 10 ⟨some 85, .binOp .neq 3 (.tmp 79) (.tmp 84) 3, 4, "law.go:183", #[⟨4, .data⟩, ⟨9, .data⟩, ⟨2, .guard⟩], some (2, false)⟩ ?_; try simp only [Act.put, pz1, pz2, pz3]
                    refine tk 11 ⟨some 86, .pick (.tmp 77) (.const (.bool true)) (.tmp 85), 4, "law.go:183", #[⟨2, .data⟩, ⟨10, .data⟩], none⟩ ?_; try simp only [Act.put, pz1, pz2, pz3]
                    refine tk 12 ⟨some 87, .move (.tmp 86), 4, "law.go:183", #[⟨11, .data⟩, ⟨2, .chain⟩], none⟩ ?_; try simp only [Act.put, pz1, pz2, pz3]
                    refine tk 13 ⟨some 88, .fieldAddr 38 (.tmp 9) 2, 0, "law.go:183", #[⟨12, .guard⟩], some (12, false)⟩ ?_; try simp only [Act.put, pz1, pz2, pz3]
                    refine tk 14 ⟨some 89, .load 9 (.tmp 88), 9, "law.go:183", #[⟨13, .data⟩, ⟨12, .guard⟩], some (12, false)⟩ ?_; try simp only [Act.put, pz1, pz2, pz3]
                    refine tk 15 ⟨some 90, .move (.tmp 6), 43, "law.go:183", #[⟨12, .guard⟩], some (12, false)⟩ ?_; try simp only [Act.put, pz1, pz2, pz3]
                    refine tk 16 ⟨some 91, .move (.tmp 8), 3, "law.go:183", #[⟨12, .guard⟩], some (12, false)⟩ ?_; try simp only [Act.put, pz1, pz2, pz3]
                    refine tk 17 ⟨some 92, .indexAddr 43 (.tmp 90) (.tmp 91), 0, "law.go:183", #[⟨15, .data⟩, ⟨16, .data⟩, ⟨12, .guard⟩], some (12, false)⟩ ?_; try simp only [Act.put, pz1, pz2, pz3]
                    refine tk 18 ⟨some 93, .fieldAddr 48 (.tmp 92) 1, 0, "law.go:183", #[⟨17, .data⟩, ⟨12, .guard⟩], some (12, false)⟩ ?_; try simp only [Act.put, pz1, pz2, pz3]
                    refine tk 19 ⟨some 94, .load 9 (.tmp 93), 9, "law.go:183", #[⟨18, .data⟩, ⟨12, .guard⟩], some (12, false)⟩ ?_; try simp only [Act.put, pz1, pz2, pz3]
                    refine tk 20 ⟨some 95, .binOp .neq 9 (.tmp 89) (.tmp 94) 9, 4, "law.go:183", #[⟨14, .data⟩, ⟨19, .data⟩, ⟨12, .guard⟩], some (12, false)⟩ ?_; try simp only [Act.put, pz1, pz2, pz3]
                    refine tk 21 ⟨some 96, .pick (.tmp 87) (.const (.bool true)) (.tmp 95), 4, "law.go:183", #[⟨12, .data⟩, ⟨20, .data⟩], none⟩ ?_; try simp only [Act.put, pz1, pz2, pz3]
                    refine tk 22 ⟨some 97, .move (.tmp 96), 4, "law.go:183", #[⟨21, .data⟩, ⟨12, .chain⟩], none⟩ ?_; try simp only [Act.put, pz1, pz2, pz3]
                    refine tk 23 ⟨some 98, .move (.tmp 8), 3, "law.go:183", #[⟨22, .guard⟩], some (22, false)⟩ ?_; try simp only [Act.put, pz1, pz2, pz3]
                    refine tk 24 ⟨some 99, .binOp .gtr 3 (.tmp 98) (.const (.int .i64 0)) 3, 4, "law.go:183", #[⟨23, .data⟩, ⟨22, .guard⟩], some (22, false)⟩ ?_; try simp only [Act.put, pz1, pz2, pz3]
                    refine tk 25 ⟨some 100, .move (.tmp 99), 4, "law.go:183", #[⟨24, .data⟩, ⟨22, .chain⟩, ⟨22, .guard⟩], some (22, false)⟩ ?_; try simp only [Act.put, pz1, pz2, pz3]
                    refine tu 26 ⟨some 101, .move (.tmp 6), 43, "law.go:183", #[⟨25, .guard⟩], some (25, true)⟩ ?_
                    try simp only [Act.put, pz1, pz2, pz3]
                    refine tu 27 ⟨some 102, .move (.tmp 8), 3, "law.go:183", #[⟨25, .guard⟩], some (25, true)⟩ ?_
                    try simp only [Act.put, pz1, pz2, pz3]
                    refine tu 28 ⟨some 103, .indexAddr 43 (.tmp 101) (.tmp 102), 0, "law.go:183", #[⟨26, .data⟩, ⟨27, .data⟩, ⟨25, .guard⟩], some (25, true)⟩ ?_
                    try simp only [Act.put, pz1, pz2, pz3]
                    refine tu 29 ⟨some 104, .fieldAddr 48 (.tmp 103) 1, 0, "law.go:183", #[⟨28, .data⟩, ⟨25, .guard⟩], some (25, true)⟩ ?_
                    try simp only [Act.put, pz1, pz2, pz3]
                    refine tu 30 ⟨some 105, .load 9 (.tmp 104), 9, "law.go:183", #[⟨29, .data⟩, ⟨25, .guard⟩], some (25, true)⟩ ?_
                    try simp only [Act.put, pz1, pz2, pz3]
                    refine tu 31 ⟨some 106, .move (.tmp 6), 43, "law.go:183", #[⟨25, .guard⟩], some (25, true)⟩ ?_
                    try simp only [Act.put, pz1, pz2, pz3]
                    refine tu 32 ⟨some 107, .move (.tmp 8), 3, "law.go:183", #[⟨25, .guard⟩], some (25, true)⟩ ?_
                    try simp only [Act.put, pz1, pz2, pz3]
                    refine tu 33 ⟨some 108, .binOp .sub 3 (.tmp 107) (.const (.int .i64 1)) 3, 3, "law.go:183", #[⟨32, .data⟩, ⟨25, .guard⟩], some (25, true)⟩ ?_
                    try simp only [Act.put, pz1, pz2, pz3]
                    refine tu 34 ⟨some 109, .indexAddr 43 (.tmp 106) (.tmp 108), 0, "law.go:183", #[⟨31, .data⟩, ⟨33, .data⟩, ⟨25, .guard⟩], some (25, true)⟩ ?_
                    try simp only [Act.put, pz1, pz2, pz3]
                    refine tu 35 ⟨some 110, .fieldAddr 48 (.tmp 109) 1, 0, "law.go:183", #[⟨34, .data⟩, ⟨25, .guard⟩], some (25, true)⟩ ?_
                    try simp only [Act.put, pz1, pz2, pz3]
                    refine tu 36 ⟨some 111, .load 9 (.tmp 110), 9, "law.go:183", #[⟨35, .data⟩, ⟨25, .guard⟩], some (25, true)⟩ ?_
                    try simp only [Act.put, pz1, pz2, pz3]
                    refine tu 37 ⟨some 112, .binOp .leq 9 (.tmp 105) (.tmp 111) 9, 4, "law.go:183", #[⟨30, .data⟩, ⟨36, .data⟩, ⟨25, .guard⟩], some (25, true)⟩ ?_
                    try simp only [Act.put, pz1, pz2, pz3]
                    refine tk 38 ⟨some 113, .pick (.tmp 100) (.tmp 112) (.const (.bool false)), 4, "law.go:183", #[⟨25, .data⟩, ⟨37, .data⟩, ⟨22, .guard⟩], some (22, false)⟩ ?_; try simp only [Act.put, pz1, pz2, pz3]
                    refine tk 39 ⟨some 114, .pick (.tmp 97) (.const (.bool true)) (.tmp 113), 4, "law.go:183", #[⟨22, .data⟩, ⟨38, .data⟩], none⟩ ?_; try simp only [Act.put, pz1, pz2, pz3]
                    refine wpAnyH_done (by kernel_rfl) ?_ _
                    refine NoPanic.normal ?_
                    go_wp2_with fail
                    go_roundw
                    case rel => exact ⟨k + 1, by omega, by go_num, (by rw [show cntI s its i + ((k + 1 : Nat) : Int) = cntI s its i + (k : Int) + 1 by omega]; have := HCB.out i; rw [w64 _ (by omega) (by omega)]), (by first | exact hbZ | exact drew_below hbZ)⟩
                    case measure => simp [intOf]; omega
                  · obtain ⟨j9, hj9⟩ : ∃ j, k = j + 1 := ⟨k - 1, by omega⟩
                    obtain ⟨z, hz⟩ : ∃ z, ns[j9]? = some z := ⟨_, List.getElem?_eq_getElem (by have := HMM.out; omega)⟩
                    have hez : (ns.map itC)[j9]? = some (itC z) := by rw [List.getElem?_map, hz]; rfl
                    have zf := keep_cell (HQ2.out j9 _ hez 1 _ rfl) hbf l2
                    have hless2 := less_not (HN.out.less j9 z (ntIt n) hz (by rw [← hj9]; exact HY.out))
                    have hA2 : Op.bytesLess n.nm.toList z.nm.toList = false := hless2.1
                    have hE2 : (n.nm.toList == z.nm.toList) = false := hless2.2
                    have m00 : (0 : Int) ≤ (j9 : Int) := by omega
                    have m01 : (j9 : Int) < (m : Int) := by omega
                    have msub : (k : Int) - 1 = (j9 : Int) := by omega
                    have mwr : IntKind.i64.wrap (j9 : Int) = (j9 : Int) := wrapS _ (by omega) (by omega)
                    have mpos : (0 : Int) < (k : Int) := by omega
                    have Q15D : wf.drew.cell? ⟨b1, o1 + i * 2, none⟩ = some (.int .i64 x.id) ∧ wf.drew.cell? ⟨b2, o2 + k * 2 + 1, none⟩ = some (.string n.nm) ∧ wf.drew.cell? ⟨g9, 1, none⟩ = some (.int .i64 x.id) ∧ wf.drew.cell? ⟨g9, 2, none⟩ = some (.string n.nm) ∧ wf.drew.cell? ⟨b2, o2 + j9 * 2 + 1, none⟩ = some (.string z.nm) := ⟨drew_cell yf, drew_cell uf, drew_cell c1, drew_cell c2, drew_cell zf⟩
                    clear yf uf c1 c2 zf
                    clear hez hless2 hj9 hz
                    refine wp_region_noPanic ?_
                    refine wp_region_held_drew (S := (fun w_ => w_.cell? ⟨b1, o1 + i * 2, none⟩ = some (.int .i64 x.id) ∧ w_.cell? ⟨b2, o2 + k * 2 + 1, none⟩ = some (.string n.nm) ∧ w_.cell? ⟨g9, 1, none⟩ = some (.int .i64 x.id) ∧ w_.cell? ⟨g9, 2, none⟩ = some (.string n.nm) ∧ w_.cell? ⟨b2, o2 + j9 * 2 + 1, none⟩ = some (.string z.nm))) (by kernel_rfl) ?_ (fun hHeld => ?_)
                    · (first | with_reducible exact Q15D)
                    refine tk 0 ⟨some 75, .move (.tmp 10), 4, "law.go:183", #[], none⟩ ?_; try simp only [Act.put, pz1, pz2, pz3]
                    refine tk 1 ⟨some 76, .unOp .not 4 (.tmp 75), 4, "law.go:183", #[⟨0, .data⟩], none⟩ ?_; try simp only [Act.put, pz1, pz2, pz3]
                    refine tk 2 ⟨some 77, .move (.tmp 76), 4, "law.go:183", #[⟨1, .data⟩], none⟩ ?_; try simp only [Act.put, pz1, pz2, pz3]
                    refine tk 3 ⟨some 78, .fieldAddr 38 (.tmp 9) 1, 0, "law.go:183", #[⟨2, .guard⟩], some (2, false)⟩ ?_; try simp only [Act.put, pz1, pz2, pz3]
                    refine tk 4 ⟨some 79, .load 3 (.tmp 78), 3, "law.go:183", #[⟨3, .data⟩, ⟨2, .guard⟩], some (2, false)⟩ ?_; try simp only [Act.put, pz1, pz2, pz3]
                    refine tk 5 ⟨some 80, .move (.tmp 3), 43, "law.go:183", #[⟨2, .guard⟩], some (2, false)⟩ ?_; try simp only [Act.put, pz1, pz2, pz3]
                    refine tk 6 ⟨some 81, .move (.tmp 5), 3, "law.go:183", #[⟨2, .guard⟩], some (2, false)⟩ ?_; try simp only [Act.put, pz1, pz2, pz3]
                    refine tk 7 ⟨some 82, .indexAddr 43 (.tmp 80) (.tmp 81), 0, "law.go:183", #[⟨5, .data⟩, ⟨6, .data⟩, ⟨2, .guard⟩], some (2, false)⟩ ?_; try simp only [Act.put, pz1, pz2, pz3]
                    refine tk 8 ⟨some 83, .fieldAddr 48 (.tmp 82) 0, 0, "law.go:183", #[⟨7, .data⟩, ⟨2, .guard⟩], some (2, false)⟩ ?_; try simp only [Act.put, pz1, pz2, pz3]
                    refine tk 9 ⟨some 84, .load 3 (.tmp 83), 3, "law.go:183", #[⟨8, .data⟩, ⟨2, .guard⟩], some (2, false)⟩ ?_; try simp only [Act.put, pz1, pz2, pz3]
                    refine tk 10 ⟨some 85, .binOp .neq 3 (.tmp 79) (.tmp 84) 3, 4, "law.go:183", #[⟨4, .data⟩, ⟨9, .data⟩, ⟨2, .guard⟩], some (2, false)⟩ ?_; try simp only [Act.put, pz1, pz2, pz3]
                    refine tk 11 ⟨some 86, .pick (.tmp 77) (.const (.bool true)) (.tmp 85), 4, "law.go:183", #[⟨2, .data⟩, ⟨10, .data⟩], none⟩ ?_; try simp only [Act.put, pz1, pz2, pz3]
                    refine tk 12 ⟨some 87, .move (.tmp 86), 4, "law.go:183", #[⟨11, .data⟩, ⟨2, .chain⟩], none⟩ ?_; try simp only [Act.put, pz1, pz2, pz3]
                    refine tk 13 ⟨some 88, .fieldAddr 38 (.tmp 9) 2, 0, "law.go:183", #[⟨12, .guard⟩], some (12, false)⟩ ?_; try simp only [Act.put, pz1, pz2, pz3]
                    refine tk 14 ⟨some 89, .load 9 (.tmp 88), 9, "law.go:183", #[⟨13, .data⟩, ⟨12, .guard⟩], some (12, false)⟩ ?_; try simp only [Act.put, pz1, pz2, pz3]
                    refine tk 15 ⟨some 90, .move (.tmp 6), 43, "law.go:183", #[⟨12, .guard⟩], some (12, false)⟩ ?_; try simp only [Act.put, pz1, pz2, pz3]
                    refine tk 16 ⟨some 91, .move (.tmp 8), 3, "law.go:183", #[⟨12, .guard⟩], some (12, false)⟩ ?_; try simp only [Act.put, pz1, pz2, pz3]
                    refine tk 17 ⟨some 92, .indexAddr 43 (.tmp 90) (.tmp 91), 0, "law.go:183", #[⟨15, .data⟩, ⟨16, .data⟩, ⟨12, .guard⟩], some (12, false)⟩ ?_; try simp only [Act.put, pz1, pz2, pz3]
                    refine tk 18 ⟨some 93, .fieldAddr 48 (.tmp 92) 1, 0, "law.go:183", #[⟨17, .data⟩, ⟨12, .guard⟩], some (12, false)⟩ ?_; try simp only [Act.put, pz1, pz2, pz3]
                    refine tk 19 ⟨some 94, .load 9 (.tmp 93), 9, "law.go:183", #[⟨18, .data⟩, ⟨12, .guard⟩], some (12, false)⟩ ?_; try simp only [Act.put, pz1, pz2, pz3]
                    refine tk 20 ⟨some 95, .binOp .neq 9 (.tmp 89) (.tmp 94) 9, 4, "law.go:183", #[⟨14, .data⟩, ⟨19, .data⟩, ⟨12, .guard⟩], some (12, false)⟩ ?_; try simp only [Act.put, pz1, pz2, pz3]
                    refine tk 21 ⟨some 96, .pick (.tmp 87) (.const (.bool true)) (.tmp 95), 4, "law.go:183", #[⟨12, .data⟩, ⟨20, .data⟩], none⟩ ?_; try simp only [Act.put, pz1, pz2, pz3]
                    refine tk 22 ⟨some 97, .move (.tmp 96), 4, "law.go:183", #[⟨21, .data⟩, ⟨12, .chain⟩], none⟩ ?_; try simp only [Act.put, pz1, pz2, pz3]
                    refine tk 23 ⟨some 98, .move (.tmp 8), 3, "law.go:183", #[⟨22, .guard⟩], some (22, false)⟩ ?_; try simp only [Act.put, pz1, pz2, pz3]
                    refine tk 24 ⟨some 99, .binOp .gtr 3 (.tmp 98) (.const (.int .i64 0)) 3, 4, "law.go:183", #[⟨23, .data⟩, ⟨22, .guard⟩], some (22, false)⟩ ?_; try simp only [Act.put, pz1, pz2, pz3]
                    refine tk 25 ⟨some 100, .move (.tmp 99), 4, "law.go:183", #[⟨24, .data⟩, ⟨22, .chain⟩, ⟨22, .guard⟩], some (22, false)⟩ ?_; try simp only [Act.put, pz1, pz2, pz3]
                    refine tk 26 ⟨some 101, .move (.tmp 6), 43, "law.go:183", #[⟨25, .guard⟩], some (25, true)⟩ ?_; try simp only [Act.put, pz1, pz2, pz3]
                    refine tk 27 ⟨some 102, .move (.tmp 8), 3, "law.go:183", #[⟨25, .guard⟩], some (25, true)⟩ ?_; try simp only [Act.put, pz1, pz2, pz3]
                    refine tk 28 ⟨some 103, .indexAddr 43 (.tmp 101) (.tmp 102), 0, "law.go:183", #[⟨26, .data⟩, ⟨27, .data⟩, ⟨25, .guard⟩], some (25, true)⟩ ?_; try simp only [Act.put, pz1, pz2, pz3]
                    refine tk 29 ⟨some 104, .fieldAddr 48 (.tmp 103) 1, 0, "law.go:183", #[⟨28, .data⟩, ⟨25, .guard⟩], some (25, true)⟩ ?_; try simp only [Act.put, pz1, pz2, pz3]
                    refine tk 30 ⟨some 105, .load 9 (.tmp 104), 9, "law.go:183", #[⟨29, .data⟩, ⟨25, .guard⟩], some (25, true)⟩ ?_; try simp only [Act.put, pz1, pz2, pz3]
                    refine tk 31 ⟨some 106, .move (.tmp 6), 43, "law.go:183", #[⟨25, .guard⟩], some (25, true)⟩ ?_; try simp only [Act.put, pz1, pz2, pz3]
                    refine tk 32 ⟨some 107, .move (.tmp 8), 3, "law.go:183", #[⟨25, .guard⟩], some (25, true)⟩ ?_; try simp only [Act.put, pz1, pz2, pz3]
                    refine tk 33 ⟨some 108, .binOp .sub 3 (.tmp 107) (.const (.int .i64 1)) 3, 3, "law.go:183", #[⟨32, .data⟩, ⟨25, .guard⟩], some (25, true)⟩ ?_; try simp only [Act.put, pz1, pz2, pz3]
                    refine tk 34 ⟨some 109, .indexAddr 43 (.tmp 106) (.tmp 108), 0, "law.go:183", #[⟨31, .data⟩, ⟨33, .data⟩, ⟨25, .guard⟩], some (25, true)⟩ ?_; try simp only [Act.put, pz1, pz2, pz3]
                    refine tk 35 ⟨some 110, .fieldAddr 48 (.tmp 109) 1, 0, "law.go:183", #[⟨34, .data⟩, ⟨25, .guard⟩], some (25, true)⟩ ?_; try simp only [Act.put, pz1, pz2, pz3]
                    refine tk 36 ⟨some 111, .load 9 (.tmp 110), 9, "law.go:183", #[⟨35, .data⟩, ⟨25, .guard⟩], some (25, true)⟩ ?_; try simp only [Act.put, pz1, pz2, pz3]
                    refine tk 37 ⟨some 112, .binOp .leq 9 (.tmp 105) (.tmp 111) 9, 4, "law.go:183", #[⟨30, .data⟩, ⟨36, .data⟩, ⟨25, .guard⟩], some (25, true)⟩ ?_; try simp only [Act.put, pz1, pz2, pz3]
                    refine tk 38 ⟨some 113, .pick (.tmp 100) (.tmp 112) (.const (.bool false)), 4, "law.go:183", #[⟨25, .data⟩, ⟨37, .data⟩, ⟨22, .guard⟩], some (22, false)⟩ ?_; try simp only [Act.put, pz1, pz2, pz3]
                    refine tk 39 ⟨some 114, .pick (.tmp 97) (.const (.bool true)) (.tmp 113), 4, "law.go:183", #[⟨22, .data⟩, ⟨38, .data⟩], none⟩ ?_; try simp only [Act.put, pz1, pz2, pz3]
                    refine wpAnyH_done (by kernel_rfl) ?_ _
                    refine NoPanic.normal ?_
                    go_wp2_with fail
                    go_roundw
                    case rel => exact ⟨k + 1, by omega, by go_num, (by rw [show cntI s its i + ((k + 1 : Nat) : Int) = cntI s its i + (k : Int) + 1 by omega]; have := HCB.out i; rw [w64 _ (by omega) (by omega)]), (by first | exact hbZ | exact drew_below hbZ)⟩
                    case measure => simp [intOf]; omega
              · skip
                have hkm : k = m := by omega
                subst hkm
                have hadd : cntI s its i + (k : Int) = cntI s its (i + 1) := by
                  unfold cntI
                  have h1 := cntB_next (ts := s.ts) (L := its.map It.id) (k := i) (x := x.id) (by rw [List.getElem?_map, HX.out]; rfl)
                  have h2 := HN.out.len
                  have h3 := HMM.out
                  omega
                rw [hadd]
                have hbQ := btr hb4 hb4.size hbP
                have HCB2 := HCB.out (i + 1)
                go_wp2_with fail
                go_roundw
                case rel => exact ⟨i + 1, by omega, by go_num, rfl, hbQ⟩
                case measure => simp [intOf]; omega
          · obtain ⟨j, hj⟩ : ∃ j, i = j + 1 := ⟨i - 1, by omega⟩
            obtain ⟨xp, hxp⟩ : ∃ xp, its[j]? = some xp := ⟨_, List.getElem?_eq_getElem (by have := HLL.out; omega)⟩
            have hep : (its.map itC)[j]? = some (itC xp) := by rw [List.getElem?_map, hxp]; rfl
            have zp := keep_cell (HQ1.out j _ hep 1 _ rfl) hbM l1
            have hless := less_not (HL.out.less j xp x hxp (by rw [← hj]; exact HX.out))
            have hA := hless.1
            have hE := hless.2
            have j00 : (0 : Int) ≤ (j : Int) := by omega
            have j01 : (j : Int) < (l : Int) := by omega
            have jsub : (i : Int) - 1 = (j : Int) := by omega
            have jwr : IntKind.i64.wrap (j : Int) = (j : Int) := wrapS _ (by omega) (by omega)
            have jpos : (0 : Int) < (i : Int) := by omega
            have HJ := Lib.hid hj
            have Q9 : w5.cell? ⟨b1, o1 + i * 2 + 1, none⟩ = some (.string x.nm) ∧ w5.cell? ⟨b1, o1 + j * 2 + 1, none⟩ = some (.string xp.nm) := ⟨z1, zp⟩
            have Q9D : w5.drew.cell? ⟨b1, o1 + i * 2 + 1, none⟩ = some (.string x.nm) ∧ w5.drew.cell? ⟨b1, o1 + j * 2 + 1, none⟩ = some (.string xp.nm) := ⟨drew_cell z1, drew_cell zp⟩
            clear hep hless hj hxp
            refine wp_region_noPanic ?_
            refine wp_region_held_drew (S := (fun w_ => w_.cell? ⟨b1, o1 + i * 2 + 1, none⟩ = some (.string x.nm) ∧ w_.cell? ⟨b1, o1 + j * 2 + 1, none⟩ = some (.string xp.nm))) (by kernel_rfl) ?_ (fun hHeld => ?_)
            · (first | trivial | with_reducible exact Q9D)
            refine tk 0 ⟨some 39, .move (.tmp 7), 28, "law.go:178", #[], none⟩ ?_; try simp only [Act.put, pz1, pz2, pz3]
            refine tk 1 ⟨some 40, .binOp .neq 28 (.tmp 39) (.const (.int .i64 0)) 28, 4, "law.go:178", #[⟨0, .data⟩], none⟩ ?_; try simp only [Act.put, pz1, pz2, pz3]
            refine tk 2 ⟨some 41, .move (.tmp 40), 4, "law.go:178", #[⟨1, .data⟩], none⟩ ?_; try simp only [Act.put, pz1, pz2, pz3]
            refine tk 3 ⟨some 42, .move (.tmp 5), 3, "law.go:178", #[⟨2, .guard⟩], some (2, false)⟩ ?_; try simp only [Act.put, pz1, pz2, pz3]
            refine tk 4 ⟨some 43, .binOp .gtr 3 (.tmp 42) (.const (.int .i64 0)) 3, 4, "law.go:178", #[⟨3, .data⟩, ⟨2, .guard⟩], some (2, false)⟩ ?_; try simp only [Act.put, pz1, pz2, pz3]
            refine tk 5 ⟨some 44, .move (.tmp 43), 4, "law.go:178", #[⟨4, .data⟩, ⟨2, .chain⟩, ⟨2, .guard⟩], some (2, false)⟩ ?_; try simp only [Act.put, pz1, pz2, pz3]
            refine tk 6 ⟨some 45, .move (.tmp 3), 43, "law.go:178", #[⟨5, .guard⟩], some (5, true)⟩ ?_; try simp only [Act.put, pz1, pz2, pz3]
            refine tk 7 ⟨some 46, .move (.tmp 5), 3, "law.go:178", #[⟨5, .guard⟩], some (5, true)⟩ ?_; try simp only [Act.put, pz1, pz2, pz3]
            refine tk 8 ⟨some 47, .indexAddr 43 (.tmp 45) (.tmp 46), 0, "law.go:178", #[⟨6, .data⟩, ⟨7, .data⟩, ⟨5, .guard⟩], some (5, true)⟩ ?_; try simp only [Act.put, pz1, pz2, pz3]
            refine tk 9 ⟨some 48, .fieldAddr 48 (.tmp 47) 1, 0, "law.go:178", #[⟨8, .data⟩, ⟨5, .guard⟩], some (5, true)⟩ ?_; try simp only [Act.put, pz1, pz2, pz3]
            refine tk 10 ⟨some 49, .load 9 (.tmp 48), 9, "law.go:178", #[⟨9, .data⟩, ⟨5, .guard⟩], some (5, true)⟩ ?_; try simp only [Act.put, pz1, pz2, pz3]
            refine tk 11 ⟨some 50, .move (.tmp 3), 43, "law.go:178", #[⟨5, .guard⟩], some (5, true)⟩ ?_; try simp only [Act.put, pz1, pz2, pz3]
            refine tk 12 ⟨some 51, .move (.tmp 5), 3, "law.go:178", #[⟨5, .guard⟩], some (5, true)⟩ ?_; try simp only [Act.put, pz1, pz2, pz3]
            refine tk 13 ⟨some 52, .binOp .sub 3 (.tmp 51) (.const (.int .i64 1)) 3, 3, "law.go:178", #[⟨12, .data⟩, ⟨5, .guard⟩], some (5, true)⟩ ?_; try simp only [Act.put, pz1, pz2, pz3]
            refine tk 14 ⟨some 53, .indexAddr 43 (.tmp 50) (.tmp 52), 0, "law.go:178", #[⟨11, .data⟩, ⟨13, .data⟩, ⟨5, .guard⟩], some (5, true)⟩ ?_; try simp only [Act.put, pz1, pz2, pz3]
            refine tk 15 ⟨some 54, .fieldAddr 48 (.tmp 53) 1, 0, "law.go:178", #[⟨14, .data⟩, ⟨5, .guard⟩], some (5, true)⟩ ?_; try simp only [Act.put, pz1, pz2, pz3]
            refine tk 16 ⟨some 55, .load 9 (.tmp 54), 9, "law.go:178", #[⟨15, .data⟩, ⟨5, .guard⟩], some (5, true)⟩ ?_; try simp only [Act.put, pz1, pz2, pz3]
            refine tk 17 ⟨some 56, .binOp .leq 9 (.tmp 49) (.tmp 55) 9, 4, "law.go:178", #[⟨10, .data⟩, ⟨16, .data⟩, ⟨5, .guard⟩], some (5, true)⟩ ?_; try simp only [Act.put, pz1, pz2, pz3]
            refine tk 18 ⟨some 57, .pick (.tmp 44) (.tmp 56) (.const (.bool false)), 4, "law.go:178", #[⟨5, .data⟩, ⟨17, .data⟩, ⟨2, .guard⟩], some (2, false)⟩ ?_; try simp only [Act.put, pz1, pz2, pz3]
            refine tk 19 ⟨some 58, .pick (.tmp 41) (.const (.bool true)) (.tmp 57), 4, "law.go:178", #[⟨2, .data⟩, ⟨18, .data⟩], none⟩ ?_; try simp only [Act.put, pz1, pz2, pz3]
            refine wpAnyH_done (by kernel_rfl) ?_ _
            refine NoPanic.normal ?_
            go_wp2_with fail
            obtain ⟨wn, hwn⟩ : ∃ V : World, V = w5.drew := ⟨_, rfl⟩
            have hDn := below_drew w5
            rw [← hwn] at hDn ⊢
            have SN := SM.next hDn
            have TN := TM.next hDn
            have BN := BM.below hDn BM.lt
            have yn := keep_cell z0 hDn l1M
            have hbN := btr hbM hbM.size hDn
            have hrn := SlE.next HR2.out hDn
            have hRN := Lib.hid hrn
            have hln : b1 < wn.heap.size := Nat.lt_of_lt_of_le l1M hDn.size
            clear hwn hDn SM TM BM z0 z1 hbM HR2 hrn l1M
            go_loopw [4, 8] (fun nv kv wr => ∃ k : Nat, k ≤ m ∧ kv = .int .i64 k ∧ nv = .int .i64 (cntI s its i + k) ∧ Below wn.heap.size wn wr) (fun _ kv _ => m - (intOf kv).toNat)
            case atStart => exact ⟨0, by omega, rfl, by simp, Below.refl _ _⟩
            case round =>
              obtain ⟨k, hk, rfl, rfl, hbn⟩ := hrel
              obtain ⟨wq, hwq⟩ : ∃ V : World, V = wr := ⟨_, rfl⟩
              subst hwq
              have SP := SN.next hbn
              have TP := TN.next hbn
              have BP := BN.below hbn BN.lt
              have yp := keep_cell yn hbn hln
              have hlp : b1 < wq.heap.size := Nat.lt_of_lt_of_le hln hbn.size
              have hbP := btr hbN hbN.size hbn
              have rowP := SlE.next hRN.out hbn
              have k0 := BP.cell_ 0
              have k1 := BP.cell_ 1
              have k2 := BP.cell_ 2
              have k3 := BP.cell_ 3
              have k4 := BP.cell_ 4
              simp at k0 k1 k2 k3 k4
              clear SN TN BN yn hbN hln
              by_cases hlk : k < m
              · have hlx : k < ns.length := by have := HMM.out; omega
                obtain ⟨y, hy⟩ : ∃ y, ns[k]? = some y := ⟨_, List.getElem?_eq_getElem hlx⟩
                obtain ⟨n, hn, hnb, hny⟩ := HN.out.note y (List.mem_of_getElem? hy)
                obtain ⟨kk, hkk, hnk⟩ := noteAt_of HMF.out hn
                obtain ⟨b2, o2, rfl, l2, q2⟩ := rowP.at_ (by rw [List.length_map]; omega)
                have he : (ns.map itC)[k]? = some (itC (ntIt n)) := by rw [List.getElem?_map, hy, hny]; rfl
                have u0 : wq.cell? ⟨b2, o2 + k * 2, none⟩ = some (.int .i64 n.id) := q2 k _ he 0 _ rfl
                have u1 : wq.cell? ⟨b2, o2 + k * 2 + 1, none⟩ = some (.string n.nm) := q2 k _ he 1 _ rfl
                have j0 : (0 : Int) ≤ (k : Int) := by omega
                have j1 : (k : Int) < (m : Int) := by omega
                have HK := Lib.hid hkk
                have HNK : Hid (s.ts[kk]? = some n) := Lib.hid hnk
                have HNB := Lib.hid hnb
                have HY : Hid (ns[k]? = some (ntIt n)) := Lib.hid (by rw [hy, hny])
                have HQ2 := Lib.hid q2
                clear he hlx hy hn hnb hny hkk hnk q2
                go_upto_region 14 with fail
                have SQ := SP.next (below_drew wq)
                have TQ := TP.next (below_drew wq)
                have SQ2 := SQ.next ((Below.refl _ _).alloc (Nat.le_refl _) (.cells #[.int .i64 0, .int .i64 0, .string ⟨#[]⟩, .slice none 0 0, .slice none 0 0] 38))
                have TQ2 := TQ.next ((Below.refl _ _).alloc (Nat.le_refl _) (.cells #[.int .i64 0, .int .i64 0, .string ⟨#[]⟩, .slice none 0 0, .slice none 0 0] 38))
                have hAL : Below wq.heap.size wq (wq.alloc (.cells #[.int .i64 0, .int .i64 0, .string ⟨#[]⟩, .slice none 0 0, .slice none 0 0] 38)).drew := drew_below ((Below.refl _ _).alloc (Nat.le_refl _) _)
                have SQ3 := SP.next hAL
                have TQ3 := TP.next hAL
                have HZ2 : Below wq.heap.size wq (wq.drew.alloc (.cells #[.int .i64 0, .int .i64 0, .string ⟨#[]⟩, .slice none 0 0, .slice none 0 0] 38)) := (below_drew wq).alloc (Nat.le_refl _) _
                have BZ2 : Blk (wq.drew.alloc (.cells #[.int .i64 0, .int .i64 0, .string ⟨#[]⟩, .slice none 0 0, .slice none 0 0] 38)) wq.heap.size 38 #[.int .i64 0, .int .i64 0, .string ⟨#[]⟩, .slice none 0 0, .slice none 0 0] := Blk.new_ wq.drew 38 #[.int .i64 0, .int .i64 0, .string ⟨#[]⟩, .slice none 0 0, .slice none 0 0]
                have BZ3 : Blk (wq.alloc (.cells #[.int .i64 0, .int .i64 0, .string ⟨#[]⟩, .slice none 0 0, .slice none 0 0] 38)).drew wq.heap.size 38 #[.int .i64 0, .int .i64 0, .string ⟨#[]⟩, .slice none 0 0, .slice none 0 0] := drew_blk (Blk.new_ wq 38 #[.int .i64 0, .int .i64 0, .string ⟨#[]⟩, .slice none 0 0, .slice none 0 0])
                have QP : wq.cell? ⟨w.heap.size, 0, none⟩ = some (.int .i64 s.nb) ∧ wq.cell? ⟨w.heap.size, 1, none⟩ = some (.int .i64 s.nn) ∧ wq.cell? ⟨w.heap.size, 2, none⟩ = some (.int .i64 s.ns) ∧ wq.cell? ⟨w.heap.size, 3, none⟩ = some (.slice Ab s.bs.length cb) ∧ wq.cell? ⟨w.heap.size, 4, none⟩ = some (.slice An s.ts.length cn) ∧ wq.cell? ⟨b2, o2 + k * 2, none⟩ = some (.int .i64 n.id) := ⟨k0, k1, k2, k3, k4, u0⟩
                have QA := keepQ QP (below_drew wq) BP.lt l2
                have QB := keepQ QA ((Below.refl wq.drew.heap.size wq.drew).alloc (Nat.le_refl _) (.cells #[.int .i64 0, .int .i64 0, .string ⟨#[]⟩, .slice none 0 0, .slice none 0 0] 38)) BP.lt l2
                have QC := keepQ QP hAL BP.lt l2
                refine wp_region_noPanic ?_
                refine wp_region_held_drew (S := (fun w_ => w_.cell? ⟨w.heap.size, 0, none⟩ = some (.int .i64 s.nb) ∧ w_.cell? ⟨w.heap.size, 1, none⟩ = some (.int .i64 s.nn) ∧ w_.cell? ⟨w.heap.size, 2, none⟩ = some (.int .i64 s.ns) ∧ w_.cell? ⟨w.heap.size, 3, none⟩ = some (.slice Ab s.bs.length cb) ∧ w_.cell? ⟨w.heap.size, 4, none⟩ = some (.slice An s.ts.length cn) ∧ w_.cell? ⟨b2, o2 + k * 2, none⟩ = some (.int .i64 n.id))) (by kernel_rfl) ?_ (fun hHeld => ?_)
                · (first | with_reducible exact QA | with_reducible exact QB | with_reducible exact QC | with_reducible exact QD | with_reducible exact QE | with_reducible exact QF | exact QG | show False)
                refine tk 0 ⟨some 66, .load 25 (.tmp 1), 25, "law.go:182", #[], none⟩ ?_; try simp only [Act.put, pz1, pz2, pz3]
                refine tk 1 ⟨some 67, .move (.tmp 6), 43, "law.go:182", #[], none⟩ ?_; try simp only [Act.put, pz1, pz2, pz3]
                refine tk 2 ⟨some 68, .move (.tmp 8), 3, "law.go:182", #[], none⟩ ?_; try simp only [Act.put, pz1, pz2, pz3]
                refine tk 3 ⟨some 69, .indexAddr 43 (.tmp 67) (.tmp 68), 0, "law.go:182", #[⟨1, .data⟩, ⟨2, .data⟩], none⟩ ?_; try simp only [Act.put, pz1, pz2, pz3]
                refine tk 4 ⟨some 70, .fieldAddr 48 (.tmp 69) 0, 0, "law.go:182", #[⟨3, .data⟩], none⟩ ?_; try simp only [Act.put, pz1, pz2, pz3]
                refine tk 5 ⟨some 71, .load 3 (.tmp 70), 3, "law.go:182", #[⟨4, .data⟩], none⟩ ?_; try simp only [Act.put, pz1, pz2, pz3]
                refine wpAnyH_ready (rs := [6, 10]) (by kernel_rfl) (by simp) ?_
                refine (AllReadyH.cons (o := ⟨some 72, .call { callee := .value (.func 13), args := #[.tmp 66, .tmp 71], argTypes := #[25, 3] }, 39, "law.go:182", #[⟨0, .data⟩, ⟨5, .data⟩], none⟩) rfl (fun K hK => ?_) (AllReadyH.cons (o := ⟨some 9, .alloc 38, 0, "law.go:182", #[], none⟩) rfl (fun K hK => ?_) AllReadyH.nil))
                · go_simp
                  (go_at_call 13; go_loud ((first | (with_reducible refine (find_yes s _ n.id _ SQ TQ HM.out kk n HK.out HNK.out).mono ?_) | (with_reducible refine (find_yes s _ n.id _ SQ2 TQ2 HM.out kk n HK.out HNK.out).mono ?_) | (with_reducible refine (find_yes s _ n.id _ SQ3 TQ3 HM.out kk n HK.out HNK.out).mono ?_)); rintro e' w7 ⟨v1, v2, rfl, p1, p2, b7⟩; obtain ⟨A7, c7, rfl, -, -⟩ := own_shape p1; obtain ⟨A8, c8, rfl, -, -⟩ := own_shape p2; first | ((have QD := keepQ QA b7 BP.lt l2); (have QE := keepQ QD ((Below.refl w7.heap.size w7).alloc (Nat.le_refl _) (.cells #[.int .i64 0, .int .i64 0, .string ⟨#[]⟩, .slice none 0 0, .slice none 0 0] 38)) (Nat.lt_of_lt_of_le BP.lt b7.size) (Nat.lt_of_lt_of_le l2 b7.size)); (have QF := keepQ QD ((Below.refl w7.heap.size w7).alloc (Nat.le_refl _) (.cells #[.int .i64 n.id, .int .i64 n.bk, .string n.nm, .slice A7 n.tg.length c7, .slice A8 n.sh.length c8] 38)) (Nat.lt_of_lt_of_le BP.lt b7.size) (Nat.lt_of_lt_of_le l2 b7.size))) | ((have QD := keepQ QB b7 (by have := BP.lt; simp; omega) (by simp; omega)); (have B9 := BZ2.below b7 BZ2.lt); (have hb7 := (HZ2.trans (b7.mono HZ2.size))); (have r0 := B9.cell_ 0); (have t0 := B9.free 0); (have r1 := B9.cell_ 1); (have t1 := B9.free 1); (have r2 := B9.cell_ 2); (have t2 := B9.free 2); (have r3 := B9.cell_ 3); (have t3 := B9.free 3); (have r4 := B9.cell_ 4); (have t4 := B9.free 4); simp at r0 r1 r2 r3 r4; (have hbf := st5_below hb7 (Nat.le_refl wq.heap.size) 0 (.int .i64 n.id) (.int .i64 n.bk) (.string n.nm) (.slice A7 n.tg.length c7) (.slice A8 n.sh.length c8) hb7.size); (have QG := keepQ QP hbf BP.lt l2)) | ((have QD := keepQ QC b7 (by have := BP.lt; simp; omega) (by simp; omega)); (have B9 := BZ3.below b7 BZ3.lt); (have hb7 := (hAL.trans (b7.mono hAL.size))); (have r0 := B9.cell_ 0); (have t0 := B9.free 0); (have r1 := B9.cell_ 1); (have t1 := B9.free 1); (have r2 := B9.cell_ 2); (have t2 := B9.free 2); (have r3 := B9.cell_ 3); (have t3 := B9.free 3); (have r4 := B9.cell_ 4); (have t4 := B9.free 4); simp at r0 r1 r2 r3 r4; (have hbf := st5_below hb7 (Nat.le_refl wq.heap.size) 0 (.int .i64 n.id) (.int .i64 n.bk) (.string n.nm) (.slice A7 n.tg.length c7) (.slice A8 n.sh.length c8) hb7.size); (have QG := keepQ QP hbf BP.lt l2))))
                  go_wp2_with fail
                  refine hK.out _ _ ?_ (fun hNew => ?_)
                  · (first | with_reducible exact QA | with_reducible exact QB | with_reducible exact QC | with_reducible exact QD | with_reducible exact QE | with_reducible exact QF | exact QG | show False)
                  clear hK K hHeld
                  have hHeld := hNew
                  clear hNew
                  try simp only [Act.put, pz1, pz2, pz3]
                  refine tk 7 ⟨some 65, .move (.tmp 72), 39, "law.go:182", #[⟨6, .data⟩], none⟩ ?_; try simp only [Act.put, pz1, pz2, pz3]
                  refine tk 8 ⟨some 73, .extract (.tmp 65) 0, 38, "law.go:182", #[⟨7, .data⟩], none⟩ ?_; try simp only [Act.put, pz1, pz2, pz3]
                  refine tk 9 ⟨some 74, .extract (.tmp 65) 1, 4, "law.go:182", #[⟨7, .data⟩, { on := 11, ground := Ground.gcOnly Departure.lateStores }], none⟩ ?_; try simp only [Act.put, pz1, pz2, pz3]
                  refine wpAnyH_ready (rs := [10]) (by kernel_rfl) (by simp) ?_
                  refine AllReadyH.cons (o := ⟨some 9, .alloc 38, 0, "law.go:182", #[], none⟩) rfl (fun K hK => ?_) AllReadyH.nil
                  go_simp
                  refine hK.out _ _ ?_ (fun hNew => ?_)
                  · (first | with_reducible exact QA | with_reducible exact QB | with_reducible exact QC | with_reducible exact QD | with_reducible exact QE | with_reducible exact QF | exact QG | show False)
                  clear hK K hHeld
                  have hHeld := hNew
                  clear hNew
                  try simp only [Act.put, pz1, pz2, pz3]
                  refine wpAnyH_ready (rs := [11]) (by kernel_rfl) (by simp) ?_
                  refine AllReadyH.cons (o := ⟨none, .store 38 (.tmp 9) (.tmp 73), 0, "law.go:182", #[⟨10, .data⟩, ⟨8, .data⟩, ⟨6, .chain⟩, ⟨0, .phase⟩, ⟨1, .phase⟩, ⟨2, .phase⟩, ⟨3, .phase⟩, ⟨4, .phase⟩, ⟨5, .phase⟩, ⟨6, .phase⟩, ⟨7, .phase⟩, ⟨8, .phase⟩, { on := 9, ground := Ground.textOnly Departure.lateStores }, ⟨10, .phase⟩], none⟩) rfl (fun K hK => ?_) AllReadyH.nil
                  go_simp
                  refine hK.out _ _ ?_ (fun hNew => ?_)
                  · (first | with_reducible exact QA | with_reducible exact QB | with_reducible exact QC | with_reducible exact QD | with_reducible exact QE | with_reducible exact QF | exact QG | show False)
                  clear hK K hHeld
                  have hHeld := hNew
                  clear hNew
                  try simp only [Act.put, pz1, pz2, pz3]
                  refine tk 12 ⟨some 10, .assign (.tmp 74), 4, "law.go:182", #[⟨9, .data⟩, ⟨11, .chain⟩, ⟨0, .phase⟩, ⟨1, .phase⟩, ⟨2, .phase⟩, ⟨3, .phase⟩, ⟨4, .phase⟩, ⟨5, .phase⟩, ⟨6, .phase⟩, ⟨7, .phase⟩, ⟨8, .phase⟩, ⟨9, .phase⟩, ⟨10, .phase⟩, ⟨11, .phase⟩], none⟩ ?_; try simp only [Act.put, pz1, pz2, pz3]
                  refine wpAnyH_done (by kernel_rfl) ?_ _
                  refine NoPanic.normal ?_
                  go_upto_region 15 with fail
                  have B9 : Blk (w7.alloc (.cells #[.int .i64 n.id, .int .i64 n.bk, .string n.nm, .slice A7 n.tg.length c7, .slice A8 n.sh.length c8] 38)) w7.heap.size 38 #[.int .i64 n.id, .int .i64 n.bk, .string n.nm, .slice A7 n.tg.length c7, .slice A8 n.sh.length c8] := Blk.new_ w7 38 #[.int .i64 n.id, .int .i64 n.bk, .string n.nm, .slice A7 n.tg.length c7, .slice A8 n.sh.length c8]
                  have hbf : Below wq.heap.size wq (w7.alloc (.cells #[.int .i64 n.id, .int .i64 n.bk, .string n.nm, .slice A7 n.tg.length c7, .slice A8 n.sh.length c8] 38)) := (btr (below_drew wq) (below_drew wq).size b7).alloc (btr (below_drew wq) (below_drew wq).size b7).size _
                  obtain ⟨wf, hwf⟩ : ∃ V : World, V = w7.alloc (.cells #[.int .i64 n.id, .int .i64 n.bk, .string n.nm, .slice A7 n.tg.length c7, .slice A8 n.sh.length c8] 38) := ⟨_, rfl⟩
                  obtain ⟨g9, hg9⟩ : ∃ V : Nat, V = w7.heap.size := ⟨_, rfl⟩
                  rw [← hwf, ← hg9] at B9
                  rw [← hwf] at hbf
                  rw [← hwf, ← hg9]
                  clear hwf hg9 QP QA QB QC QD QE QF hHeld b7 p1 p2 SQ TQ SQ2 TQ2 SQ3 TQ3 hAL HZ2 BZ2 BZ3
                  have yf := keep_cell yp hbf hlp
                  have uf := keep_cell u1 hbf l2
                  have c1 : wf.cell? ⟨g9, 1, none⟩ = some (.int .i64 x.id) := by rw [← HNB.out]; exact B9.cell_ 1
                  have c2 : wf.cell? ⟨g9, 2, none⟩ = some (.string n.nm) := B9.cell_ 2
                  have hbZ := btr hbn hbn.size hbf
                  clear B9 u0 u1 SP TP BP k0 k1 k2 k3 k4 yp
                  rcases (by omega : k = 0 ∨ 0 < k) with hk0 | hk0
                  · have hdk : decide (0 < k) = false := decide_eq_false (by omega)
                    clear hk0
                    have Q15 : wf.cell? ⟨b1, o1 + i * 2, none⟩ = some (.int .i64 x.id) ∧ wf.cell? ⟨b2, o2 + k * 2 + 1, none⟩ = some (.string n.nm) ∧ wf.cell? ⟨g9, 1, none⟩ = some (.int .i64 x.id) ∧ wf.cell? ⟨g9, 2, none⟩ = some (.string n.nm) := ⟨yf, uf, c1, c2⟩
                    have Q15D : wf.drew.cell? ⟨b1, o1 + i * 2, none⟩ = some (.int .i64 x.id) ∧ wf.drew.cell? ⟨b2, o2 + k * 2 + 1, none⟩ = some (.string n.nm) ∧ wf.drew.cell? ⟨g9, 1, none⟩ = some (.int .i64 x.id) ∧ wf.drew.cell? ⟨g9, 2, none⟩ = some (.string n.nm) := ⟨drew_cell Q15.1, drew_cell Q15.2.1, drew_cell Q15.2.2.1, drew_cell Q15.2.2.2⟩
                    clear Q15 yf uf c1 c2
                    refine wp_region_noPanic ?_
                    refine wp_region_held_drew (S := (fun w_ => w_.cell? ⟨b1, o1 + i * 2, none⟩ = some (.int .i64 x.id) ∧ w_.cell? ⟨b2, o2 + k * 2 + 1, none⟩ = some (.string n.nm) ∧ w_.cell? ⟨g9, 1, none⟩ = some (.int .i64 x.id) ∧ w_.cell? ⟨g9, 2, none⟩ = some (.string n.nm))) (by kernel_rfl) ?_ (fun hHeld => ?_)
                    · (first | with_reducible exact Q15D)
                    refine tk 0 ⟨some 75, .move (.tmp 10), 4, "law.go:183", #[], none⟩ ?_; try simp only [Act.put, pz1, pz2, pz3]
                    refine tk 1 ⟨some 76, .unOp .not 4 (.tmp 75), 4, "law.go:183", #[⟨0, .data⟩], none⟩ ?_; try simp only [Act.put, pz1, pz2, pz3]
                    refine tk 2 ⟨some 77, .move (.tmp 76), 4, "law.go:183", #[⟨1, .data⟩], none⟩ ?_; try simp only [Act.put, pz1, pz2, pz3]
                    refine tk 3 ⟨some 78, .fieldAddr 38 (.tmp 9) 1, 0, "law.go:183", #[⟨2, .guard⟩], some (2, false)⟩ ?_; try simp only [Act.put, pz1, pz2, pz3]
                    refine tk 4 ⟨some 79, .load 3 (.tmp 78), 3, "law.go:183", #[⟨3, .data⟩, ⟨2, .guard⟩], some (2, false)⟩ ?_; try simp only [Act.put, pz1, pz2, pz3]
                    refine tk 5 ⟨some 80, .move (.tmp 3), 43, "law.go:183", #[⟨2, .guard⟩], some (2, false)⟩ ?_; try simp only [Act.put, pz1, pz2, pz3]
                    refine tk 6 ⟨some 81, .move (.tmp 5), 3, "law.go:183", #[⟨2, .guard⟩], some (2, false)⟩ ?_; try simp only [Act.put, pz1, pz2, pz3]
                    refine tk 7 ⟨some 82, .indexAddr 43 (.tmp 80) (.tmp 81), 0, "law.go:183", #[⟨5, .data⟩, ⟨6, .data⟩, ⟨2, .guard⟩], some (2, false)⟩ ?_; try simp only [Act.put, pz1, pz2, pz3]
                    refine tk 8 ⟨some 83, .fieldAddr 48 (.tmp 82) 0, 0, "law.go:183", #[⟨7, .data⟩, ⟨2, .guard⟩], some (2, false)⟩ ?_; try simp only [Act.put, pz1, pz2, pz3]
                    refine tk 9 ⟨some 84, .load 3 (.tmp 83), 3, "law.go:183", #[⟨8, .data⟩, ⟨2, .guard⟩], some (2, false)⟩ ?_; try simp only [Act.put, pz1, pz2, pz3]
                    refine tk 10 ⟨some 85, .binOp .neq 3 (.tmp 79) (.tmp 84) 3, 4, "law.go:183", #[⟨4, .data⟩, ⟨9, .data⟩, ⟨2, .guard⟩], some (2, false)⟩ ?_; try simp only [Act.put, pz1, pz2, pz3]
                    refine tk 11 ⟨some 86, .pick (.tmp 77) (.const (.bool true)) (.tmp 85), 4, "law.go:183", #[⟨2, .data⟩, ⟨10, .data⟩], none⟩ ?_; try simp only [Act.put, pz1, pz2, pz3]
                    refine tk 12 ⟨some 87, .move (.tmp 86), 4, "law.go:183", #[⟨11, .data⟩, ⟨2, .chain⟩], none⟩ ?_; try simp only [Act.put, pz1, pz2, pz3]
                    refine tk 13 ⟨some 88, .fieldAddr 38 (.tmp 9) 2, 0, "law.go:183", #[⟨12, .guard⟩], some (12, false)⟩ ?_; try simp only [Act.put, pz1, pz2, pz3]
                    refine tk 14 ⟨some 89, .load 9 (.tmp 88), 9, "law.go:183", #[⟨13, .data⟩, ⟨12, .guard⟩], some (12, false)⟩ ?_; try simp only [Act.put, pz1, pz2, pz3]
                    refine tk 15 ⟨some 90, .move (.tmp 6), 43, "law.go:183", #[⟨12, .guard⟩], some (12, false)⟩ ?_; try simp only [Act.put, pz1, pz2, pz3]
                    refine tk 16 ⟨some 91, .move (.tmp 8), 3, "law.go:183", #[⟨12, .guard⟩], some (12, false)⟩ ?_; try simp only [Act.put, pz1, pz2, pz3]
                    refine tk 17 ⟨some 92, .indexAddr 43 (.tmp 90) (.tmp 91), 0, "law.go:183", #[⟨15, .data⟩, ⟨16, .data⟩, ⟨12, .guard⟩], some (12, false)⟩ ?_; try simp only [Act.put, pz1, pz2, pz3]
                    refine tk 18 ⟨some 93, .fieldAddr 48 (.tmp 92) 1, 0, "law.go:183", #[⟨17, .data⟩, ⟨12, .guard⟩], some (12, false)⟩ ?_; try simp only [Act.put, pz1, pz2, pz3]
                    refine tk 19 ⟨some 94, .load 9 (.tmp 93), 9, "law.go:183", #[⟨18, .data⟩, ⟨12, .guard⟩], some (12, false)⟩ ?_; try simp only [Act.put, pz1, pz2, pz3]
                    refine tk 20 ⟨some 95, .binOp .neq 9 (.tmp 89) (.tmp 94) 9, 4, "law.go:183", #[⟨14, .data⟩, ⟨19, .data⟩, ⟨12, .guard⟩], some (12, false)⟩ ?_; try simp only [Act.put, pz1, pz2, pz3]
                    refine tk 21 ⟨some 96, .pick (.tmp 87) (.const (.bool true)) (.tmp 95), 4, "law.go:183", #[⟨12, .data⟩, ⟨20, .data⟩], none⟩ ?_; try simp only [Act.put, pz1, pz2, pz3]
                    refine tk 22 ⟨some 97, .move (.tmp 96), 4, "law.go:183", #[⟨21, .data⟩, ⟨12, .chain⟩], none⟩ ?_; try simp only [Act.put, pz1, pz2, pz3]
                    refine tk 23 ⟨some 98, .move (.tmp 8), 3, "law.go:183", #[⟨22, .guard⟩], some (22, false)⟩ ?_; try simp only [Act.put, pz1, pz2, pz3]
                    refine tk 24 ⟨some 99, .binOp .gtr 3 (.tmp 98) (.const (.int .i64 0)) 3, 4, "law.go:183", #[⟨23, .data⟩, ⟨22, .guard⟩], some (22, false)⟩ ?_; try simp only [Act.put, pz1, pz2, pz3]
                    refine tk 25 ⟨some 100, .move (.tmp 99), 4, "law.go:183", #[⟨24, .data⟩, ⟨22, .chain⟩, ⟨22, .guard⟩], some (22, false)⟩ ?_; try simp only [Act.put, pz1, pz2, pz3]
                    refine tu 26 ⟨some 101, .move (.tmp 6), 43, "law.go:183", #[⟨25, .guard⟩], some (25, true)⟩ ?_
                    try simp only [Act.put, pz1, pz2, pz3]
                    refine tu 27 ⟨some 102, .move (.tmp 8), 3, "law.go:183", #[⟨25, .guard⟩], some (25, true)⟩ ?_
                    try simp only [Act.put, pz1, pz2, pz3]
                    refine tu 28 ⟨some 103, .indexAddr 43 (.tmp 101) (.tmp 102), 0, "law.go:183", #[⟨26, .data⟩, ⟨27, .data⟩, ⟨25, .guard⟩], some (25, true)⟩ ?_
                    try simp only [Act.put, pz1, pz2, pz3]
                    refine tu 29 ⟨some 104, .fieldAddr 48 (.tmp 103) 1, 0, "law.go:183", #[⟨28, .data⟩, ⟨25, .guard⟩], some (25, true)⟩ ?_
                    try simp only [Act.put, pz1, pz2, pz3]
                    refine tu 30 ⟨some 105, .load 9 (.tmp 104), 9, "law.go:183", #[⟨29, .data⟩, ⟨25, .guard⟩], some (25, true)⟩ ?_
                    try simp only [Act.put, pz1, pz2, pz3]
                    refine tu 31 ⟨some 106, .move (.tmp 6), 43, "law.go:183", #[⟨25, .guard⟩], some (25, true)⟩ ?_
                    try simp only [Act.put, pz1, pz2, pz3]
                    refine tu 32 ⟨some 107, .move (.tmp 8), 3, "law.go:183", #[⟨25, .guard⟩], some (25, true)⟩ ?_
                    try simp only [Act.put, pz1, pz2, pz3]
                    refine tu 33 ⟨some 108, .binOp .sub 3 (.tmp 107) (.const (.int .i64 1)) 3, 3, "law.go:183", #[⟨32, .data⟩, ⟨25, .guard⟩], some (25, true)⟩ ?_
                    try simp only [Act.put, pz1, pz2, pz3]
                    refine tu 34 ⟨some 109, .indexAddr 43 (.tmp 106) (.tmp 108), 0, "law.go:183", #[⟨31, .data⟩, ⟨33, .data⟩, ⟨25, .guard⟩], some (25, true)⟩ ?_
                    try simp only [Act.put, pz1, pz2, pz3]
                    refine tu 35 ⟨some 110, .fieldAddr 48 (.tmp 109) 1, 0, "law.go:183", #[⟨34, .data⟩, ⟨25, .guard⟩], some (25, true)⟩ ?_
                    try simp only [Act.put, pz1, pz2, pz3]
                    refine tu 36 ⟨some 111, .load 9 (.tmp 110), 9, "law.go:183", #[⟨35, .data⟩, ⟨25, .guard⟩], some (25, true)⟩ ?_
                    try simp only [Act.put, pz1, pz2, pz3]
                    refine tu 37 ⟨some 112, .binOp .leq 9 (.tmp 105) (.tmp 111) 9, 4, "law.go:183", #[⟨30, .data⟩, ⟨36, .data⟩, ⟨25, .guard⟩], some (25, true)⟩ ?_
                    try simp only [Act.put, pz1, pz2, pz3]
                    refine tk 38 ⟨some 113, .pick (.tmp 100) (.tmp 112) (.const (.bool false)), 4, "law.go:183", #[⟨25, .data⟩, ⟨37, .data⟩, ⟨22, .guard⟩], some (22, false)⟩ ?_; try simp only [Act.put, pz1, pz2, pz3]
                    refine tk 39 ⟨some 114, .pick (.tmp 97) (.const (.bool true)) (.tmp 113), 4, "law.go:183", #[⟨22, .data⟩, ⟨38, .data⟩], none⟩ ?_; try simp only [Act.put, pz1, pz2, pz3]
                    refine wpAnyH_done (by kernel_rfl) ?_ _
                    refine NoPanic.normal ?_
                    go_wp2_with fail
                    go_roundw
                    case rel => exact ⟨k + 1, by omega, by go_num, (by rw [show cntI s its i + ((k + 1 : Nat) : Int) = cntI s its i + (k : Int) + 1 by omega]; have := HCB.out i; rw [w64 _ (by omega) (by omega)]), (by first | exact hbZ | exact drew_below hbZ)⟩
                    case measure => simp [intOf]; omega
                  · obtain ⟨j9, hj9⟩ : ∃ j, k = j + 1 := ⟨k - 1, by omega⟩
                    obtain ⟨z, hz⟩ : ∃ z, ns[j9]? = some z := ⟨_, List.getElem?_eq_getElem (by have := HMM.out; omega)⟩
                    have hez : (ns.map itC)[j9]? = some (itC z) := by rw [List.getElem?_map, hz]; rfl
                    have zf := keep_cell (HQ2.out j9 _ hez 1 _ rfl) hbf l2
                    have hless2 := less_not (HN.out.less j9 z (ntIt n) hz (by rw [← hj9]; exact HY.out))
                    have hA2 : Op.bytesLess n.nm.toList z.nm.toList = false := hless2.1
                    have hE2 : (n.nm.toList == z.nm.toList) = false := hless2.2
                    have m00 : (0 : Int) ≤ (j9 : Int) := by omega
                    have m01 : (j9 : Int) < (m : Int) := by omega
                    have msub : (k : Int) - 1 = (j9 : Int) := by omega
                    have mwr : IntKind.i64.wrap (j9 : Int) = (j9 : Int) := wrapS _ (by omega) (by omega)
                    have mpos : (0 : Int) < (k : Int) := by omega
                    have Q15D : wf.drew.cell? ⟨b1, o1 + i * 2, none⟩ = some (.int .i64 x.id) ∧ wf.drew.cell? ⟨b2, o2 + k * 2 + 1, none⟩ = some (.string n.nm) ∧ wf.drew.cell? ⟨g9, 1, none⟩ = some (.int .i64 x.id) ∧ wf.drew.cell? ⟨g9, 2, none⟩ = some (.string n.nm) ∧ wf.drew.cell? ⟨b2, o2 + j9 * 2 + 1, none⟩ = some (.string z.nm) := ⟨drew_cell yf, drew_cell uf, drew_cell c1, drew_cell c2, drew_cell zf⟩
                    clear yf uf c1 c2 zf
                    clear hez hless2 hj9 hz
                    refine wp_region_noPanic ?_
                    refine wp_region_held_drew (S := (fun w_ => w_.cell? ⟨b1, o1 + i * 2, none⟩ = some (.int .i64 x.id) ∧ w_.cell? ⟨b2, o2 + k * 2 + 1, none⟩ = some (.string n.nm) ∧ w_.cell? ⟨g9, 1, none⟩ = some (.int .i64 x.id) ∧ w_.cell? ⟨g9, 2, none⟩ = some (.string n.nm) ∧ w_.cell? ⟨b2, o2 + j9 * 2 + 1, none⟩ = some (.string z.nm))) (by kernel_rfl) ?_ (fun hHeld => ?_)
                    · (first | with_reducible exact Q15D)
                    refine tk 0 ⟨some 75, .move (.tmp 10), 4, "law.go:183", #[], none⟩ ?_; try simp only [Act.put, pz1, pz2, pz3]
                    refine tk 1 ⟨some 76, .unOp .not 4 (.tmp 75), 4, "law.go:183", #[⟨0, .data⟩], none⟩ ?_; try simp only [Act.put, pz1, pz2, pz3]
                    refine tk 2 ⟨some 77, .move (.tmp 76), 4, "law.go:183", #[⟨1, .data⟩], none⟩ ?_; try simp only [Act.put, pz1, pz2, pz3]
                    refine tk 3 ⟨some 78, .fieldAddr 38 (.tmp 9) 1, 0, "law.go:183", #[⟨2, .guard⟩], some (2, false)⟩ ?_; try simp only [Act.put, pz1, pz2, pz3]
                    refine tk 4 ⟨some 79, .load 3 (.tmp 78), 3, "law.go:183", #[⟨3, .data⟩, ⟨2, .guard⟩], some (2, false)⟩ ?_; try simp only [Act.put, pz1, pz2, pz3]
                    refine tk 5 ⟨some 80, .move (.tmp 3), 43, "law.go:183", #[⟨2, .guard⟩], some (2, false)⟩ ?_; try simp only [Act.put, pz1, pz2, pz3]
                    refine tk 6 ⟨some 81, .move (.tmp 5), 3, "law.go:183", #[⟨2, .guard⟩], some (2, false)⟩ ?_; try simp only [Act.put, pz1, pz2, pz3]
                    refine tk 7 ⟨some 82, .indexAddr 43 (.tmp 80) (.tmp 81), 0, "law.go:183", #[⟨5, .data⟩, ⟨6, .data⟩, ⟨2, .guard⟩], some (2, false)⟩ ?_; try simp only [Act.put, pz1, pz2, pz3]
                    refine tk 8 ⟨some 83, .fieldAddr 48 (.tmp 82) 0, 0, "law.go:183", #[⟨7, .data⟩, ⟨2, .guard⟩], some (2, false)⟩ ?_; try simp only [Act.put, pz1, pz2, pz3]
                    refine tk 9 ⟨some 84, .load 3 (.tmp 83), 3, "law.go:183", #[⟨8, .data⟩, ⟨2, .guard⟩], some (2, false)⟩ ?_; try simp only [Act.put, pz1, pz2, pz3]
                    refine tk 10 ⟨some 85, .binOp .neq 3 (.tmp 79) (.tmp 84) 3, 4, "law.go:183", #[⟨4, .data⟩, ⟨9, .data⟩, ⟨2, .guard⟩], some (2, false)⟩ ?_; try simp only [Act.put, pz1, pz2, pz3]
                    refine tk 11 ⟨some 86, .pick (.tmp 77) (.const (.bool true)) (.tmp 85), 4, "law.go:183", #[⟨2, .data⟩, ⟨10, .data⟩], none⟩ ?_; try simp only [Act.put, pz1, pz2, pz3]
                    refine tk 12 ⟨some 87, .move (.tmp 86), 4, "law.go:183", #[⟨11, .data⟩, ⟨2, .chain⟩], none⟩ ?_; try simp only [Act.put, pz1, pz2, pz3]
                    refine tk 13 ⟨some 88, .fieldAddr 38 (.tmp 9) 2, 0, "law.go:183", #[⟨12, .guard⟩], some (12, false)⟩ ?_; try simp only [Act.put, pz1, pz2, pz3]
                    refine tk 14 ⟨some 89, .load 9 (.tmp 88), 9, "law.go:183", #[⟨13, .data⟩, ⟨12, .guard⟩], some (12, false)⟩ ?_; try simp only [Act.put, pz1, pz2, pz3]
                    refine tk 15 ⟨some 90, .move (.tmp 6), 43, "law.go:183", #[⟨12, .guard⟩], some (12, false)⟩ ?_; try simp only [Act.put, pz1, pz2, pz3]
                    refine tk 16 ⟨some 91, .move (.tmp 8), 3, "law.go:183", #[⟨12, .guard⟩], some (12, false)⟩ ?_; try simp only [Act.put, pz1, pz2, pz3]
                    refine tk 17 ⟨some 92, .indexAddr 43 (.tmp 90) (.tmp 91), 0, "law.go:183", #[⟨15, .data⟩, ⟨16, .data⟩, ⟨12, .guard⟩], some (12, false)⟩ ?_; try simp only [Act.put, pz1, pz2, pz3]
                    refine tk 18 ⟨some 93, .fieldAddr 48 (.tmp 92) 1, 0, "law.go:183", #[⟨17, .data⟩, ⟨12, .guard⟩], some (12, false)⟩ ?_; try simp only [Act.put, pz1, pz2, pz3]
                    refine tk 19 ⟨some 94, .load 9 (.tmp 93), 9, "law.go:183", #[⟨18, .data⟩, ⟨12, .guard⟩], some (12, false)⟩ ?_; try simp only [Act.put, pz1, pz2, pz3]
                    refine tk 20 ⟨some 95, .binOp .neq 9 (.tmp 89) (.tmp 94) 9, 4, "law.go:183", #[⟨14, .data⟩, ⟨19, .data⟩, ⟨12, .guard⟩], some (12, false)⟩ ?_; try simp only [Act.put, pz1, pz2, pz3]
                    refine tk 21 ⟨some 96, .pick (.tmp 87) (.const (.bool true)) (.tmp 95), 4, "law.go:183", #[⟨12, .data⟩, ⟨20, .data⟩], none⟩ ?_; try simp only [Act.put, pz1, pz2, pz3]
                    refine tk 22 ⟨some 97, .move (.tmp 96), 4, "law.go:183", #[⟨21, .data⟩, ⟨12, .chain⟩], none⟩ ?_; try simp only [Act.put, pz1, pz2, pz3]
                    refine tk 23 ⟨some 98, .move (.tmp 8), 3, "law.go:183", #[⟨22, .guard⟩], some (22, false)⟩ ?_; try simp only [Act.put, pz1, pz2, pz3]
                    refine tk 24 ⟨some 99, .binOp .gtr 3 (.tmp 98) (.const (.int .i64 0)) 3, 4, "law.go:183", #[⟨23, .data⟩, ⟨22, .guard⟩], some (22, false)⟩ ?_; try simp only [Act.put, pz1, pz2, pz3]
                    refine tk 25 ⟨some 100, .move (.tmp 99), 4, "law.go:183", #[⟨24, .data⟩, ⟨22, .chain⟩, ⟨22, .guard⟩], some (22, false)⟩ ?_; try simp only [Act.put, pz1, pz2, pz3]
                    refine tk 26 ⟨some 101, .move (.tmp 6), 43, "law.go:183", #[⟨25, .guard⟩], some (25, true)⟩ ?_; try simp only [Act.put, pz1, pz2, pz3]
                    refine tk 27 ⟨some 102, .move (.tmp 8), 3, "law.go:183", #[⟨25, .guard⟩], some (25, true)⟩ ?_; try simp only [Act.put, pz1, pz2, pz3]
                    refine tk 28 ⟨some 103, .indexAddr 43 (.tmp 101) (.tmp 102), 0, "law.go:183", #[⟨26, .data⟩, ⟨27, .data⟩, ⟨25, .guard⟩], some (25, true)⟩ ?_; try simp only [Act.put, pz1, pz2, pz3]
                    refine tk 29 ⟨some 104, .fieldAddr 48 (.tmp 103) 1, 0, "law.go:183", #[⟨28, .data⟩, ⟨25, .guard⟩], some (25, true)⟩ ?_; try simp only [Act.put, pz1, pz2, pz3]
                    refine tk 30 ⟨some 105, .load 9 (.tmp 104), 9, "law.go:183", #[⟨29, .data⟩, ⟨25, .guard⟩], some (25, true)⟩ ?_; try simp only [Act.put, pz1, pz2, pz3]
                    refine tk 31 ⟨some 106, .move (.tmp 6), 43, "law.go:183", #[⟨25, .guard⟩], some (25, true)⟩ ?_; try simp only [Act.put, pz1, pz2, pz3]
                    refine tk 32 ⟨some 107, .move (.tmp 8), 3, "law.go:183", #[⟨25, .guard⟩], some (25, true)⟩ ?_; try simp only [Act.put, pz1, pz2, pz3]
                    refine tk 33 ⟨some 108, .binOp .sub 3 (.tmp 107) (.const (.int .i64 1)) 3, 3, "law.go:183", #[⟨32, .data⟩, ⟨25, .guard⟩], some (25, true)⟩ ?_; try simp only [Act.put, pz1, pz2, pz3]
                    refine tk 34 ⟨some 109, .indexAddr 43 (.tmp 106) (.tmp 108), 0, "law.go:183", #[⟨31, .data⟩, ⟨33, .data⟩, ⟨25, .guard⟩], some (25, true)⟩ ?_; try simp only [Act.put, pz1, pz2, pz3]
                    refine tk 35 ⟨some 110, .fieldAddr 48 (.tmp 109) 1, 0, "law.go:183", #[⟨34, .data⟩, ⟨25, .guard⟩], some (25, true)⟩ ?_; try simp only [Act.put, pz1, pz2, pz3]
                    refine tk 36 ⟨some 111, .load 9 (.tmp 110), 9, "law.go:183", #[⟨35, .data⟩, ⟨25, .guard⟩], some (25, true)⟩ ?_; try simp only [Act.put, pz1, pz2, pz3]
                    refine tk 37 ⟨some 112, .binOp .leq 9 (.tmp 105) (.tmp 111) 9, 4, "law.go:183", #[⟨30, .data⟩, ⟨36, .data⟩, ⟨25, .guard⟩], some (25, true)⟩ ?_; try simp only [Act.put, pz1, pz2, pz3]
                    refine tk 38 ⟨some 113, .pick (.tmp 100) (.tmp 112) (.const (.bool false)), 4, "law.go:183", #[⟨25, .data⟩, ⟨37, .data⟩, ⟨22, .guard⟩], some (22, false)⟩ ?_; try simp only [Act.put, pz1, pz2, pz3]
                    refine tk 39 ⟨some 114, .pick (.tmp 97) (.const (.bool true)) (.tmp 113), 4, "law.go:183", #[⟨22, .data⟩, ⟨38, .data⟩], none⟩ ?_; try simp only [Act.put, pz1, pz2, pz3]
                    refine wpAnyH_done (by kernel_rfl) ?_ _
                    refine NoPanic.normal ?_
                    go_wp2_with fail
                    go_roundw
                    case rel => exact ⟨k + 1, by omega, by go_num, (by rw [show cntI s its i + ((k + 1 : Nat) : Int) = cntI s its i + (k : Int) + 1 by omega]; have := HCB.out i; rw [w64 _ (by omega) (by omega)]), (by first | exact hbZ | exact drew_below hbZ)⟩
                    case measure => simp [intOf]; omega
                · go_simp
                  refine hK.out _ _ ?_ (fun hNew => ?_)
                  · (first | with_reducible exact QA | with_reducible exact QB | with_reducible exact QC | with_reducible exact QD | with_reducible exact QE | with_reducible exact QF | exact QG | show False)
                  clear hK K hHeld
                  have hHeld := hNew
                  clear hNew
                  try simp only [Act.put, pz1, pz2, pz3]
                  refine wpAnyH_ready (rs := [6]) (by kernel_rfl) (by simp) ?_
                  refine AllReadyH.cons (o := ⟨some 72, .call { callee := .value (.func 13), args := #[.tmp 66, .tmp 71], argTypes := #[25, 3] }, 39, "law.go:182", #[⟨0, .data⟩, ⟨5, .data⟩], none⟩) rfl (fun K hK => ?_) AllReadyH.nil
                  go_simp
                  (go_at_call 13; go_loud ((first | (with_reducible refine (find_yes s _ n.id _ SQ TQ HM.out kk n HK.out HNK.out).mono ?_) | (with_reducible refine (find_yes s _ n.id _ SQ2 TQ2 HM.out kk n HK.out HNK.out).mono ?_) | (with_reducible refine (find_yes s _ n.id _ SQ3 TQ3 HM.out kk n HK.out HNK.out).mono ?_)); rintro e' w7 ⟨v1, v2, rfl, p1, p2, b7⟩; obtain ⟨A7, c7, rfl, -, -⟩ := own_shape p1; obtain ⟨A8, c8, rfl, -, -⟩ := own_shape p2; first | ((have QD := keepQ QA b7 BP.lt l2); (have QE := keepQ QD ((Below.refl w7.heap.size w7).alloc (Nat.le_refl _) (.cells #[.int .i64 0, .int .i64 0, .string ⟨#[]⟩, .slice none 0 0, .slice none 0 0] 38)) (Nat.lt_of_lt_of_le BP.lt b7.size) (Nat.lt_of_lt_of_le l2 b7.size)); (have QF := keepQ QD ((Below.refl w7.heap.size w7).alloc (Nat.le_refl _) (.cells #[.int .i64 n.id, .int .i64 n.bk, .string n.nm, .slice A7 n.tg.length c7, .slice A8 n.sh.length c8] 38)) (Nat.lt_of_lt_of_le BP.lt b7.size) (Nat.lt_of_lt_of_le l2 b7.size))) | ((have QD := keepQ QB b7 (by have := BP.lt; simp; omega) (by simp; omega)); (have B9 := BZ2.below b7 BZ2.lt); (have hb7 := (HZ2.trans (b7.mono HZ2.size))); (have r0 := B9.cell_ 0); (have t0 := B9.free 0); (have r1 := B9.cell_ 1); (have t1 := B9.free 1); (have r2 := B9.cell_ 2); (have t2 := B9.free 2); (have r3 := B9.cell_ 3); (have t3 := B9.free 3); (have r4 := B9.cell_ 4); (have t4 := B9.free 4); simp at r0 r1 r2 r3 r4; (have hbf := st5_below hb7 (Nat.le_refl wq.heap.size) 0 (.int .i64 n.id) (.int .i64 n.bk) (.string n.nm) (.slice A7 n.tg.length c7) (.slice A8 n.sh.length c8) hb7.size); (have QG := keepQ QP hbf BP.lt l2)) | ((have QD := keepQ QC b7 (by have := BP.lt; simp; omega) (by simp; omega)); (have B9 := BZ3.below b7 BZ3.lt); (have hb7 := (hAL.trans (b7.mono hAL.size))); (have r0 := B9.cell_ 0); (have t0 := B9.free 0); (have r1 := B9.cell_ 1); (have t1 := B9.free 1); (have r2 := B9.cell_ 2); (have t2 := B9.free 2); (have r3 := B9.cell_ 3); (have t3 := B9.free 3); (have r4 := B9.cell_ 4); (have t4 := B9.free 4); simp at r0 r1 r2 r3 r4; (have hbf := st5_below hb7 (Nat.le_refl wq.heap.size) 0 (.int .i64 n.id) (.int .i64 n.bk) (.string n.nm) (.slice A7 n.tg.length c7) (.slice A8 n.sh.length c8) hb7.size); (have QG := keepQ QP hbf BP.lt l2))))
                  go_wp2_with fail
                  refine hK.out _ _ ?_ (fun hNew => ?_)
                  · (first | with_reducible exact QA | with_reducible exact QB | with_reducible exact QC | with_reducible exact QD | with_reducible exact QE | with_reducible exact QF | exact QG | show False)
                  clear hK K hHeld
                  have hHeld := hNew
                  clear hNew
                  try simp only [Act.put, pz1, pz2, pz3]
                  refine tk 7 ⟨some 65, .move (.tmp 72), 39, "law.go:182", #[⟨6, .data⟩], none⟩ ?_; try simp only [Act.put, pz1, pz2, pz3]
                  refine tk 8 ⟨some 73, .extract (.tmp 65) 0, 38, "law.go:182", #[⟨7, .data⟩], none⟩ ?_; try simp only [Act.put, pz1, pz2, pz3]
                  refine tk 9 ⟨some 74, .extract (.tmp 65) 1, 4, "law.go:182", #[⟨7, .data⟩, { on := 11, ground := Ground.gcOnly Departure.lateStores }], none⟩ ?_; try simp only [Act.put, pz1, pz2, pz3]
                  refine wpAnyH_ready (rs := [11]) (by kernel_rfl) (by simp) ?_
                  refine AllReadyH.cons (o := ⟨none, .store 38 (.tmp 9) (.tmp 73), 0, "law.go:182", #[⟨10, .data⟩, ⟨8, .data⟩, ⟨6, .chain⟩, ⟨0, .phase⟩, ⟨1, .phase⟩, ⟨2, .phase⟩, ⟨3, .phase⟩, ⟨4, .phase⟩, ⟨5, .phase⟩, ⟨6, .phase⟩, ⟨7, .phase⟩, ⟨8, .phase⟩, { on := 9, ground := Ground.textOnly Departure.lateStores }, ⟨10, .phase⟩], none⟩) rfl (fun K hK => ?_) AllReadyH.nil
                  go_simp
                  refine hK.out _ _ ?_ (fun hNew => ?_)
                  · (first | with_reducible exact QA | with_reducible exact QB | with_reducible exact QC | with_reducible exact QD | with_reducible exact QE | with_reducible exact QF | exact QG | show False)
                  clear hK K hHeld
                  have hHeld := hNew
                  clear hNew
                  try simp only [Act.put, pz1, pz2, pz3]
                  refine tk 12 ⟨some 10, .assign (.tmp 74), 4, "law.go:182", #[⟨9, .data⟩, ⟨11, .chain⟩, ⟨0, .phase⟩, ⟨1, .phase⟩, ⟨2, .phase⟩, ⟨3, .phase⟩, ⟨4, .phase⟩, ⟨5, .phase⟩, ⟨6, .phase⟩, ⟨7, .phase⟩, ⟨8, .phase⟩, ⟨9, .phase⟩, ⟨10, .phase⟩, ⟨11, .phase⟩], none⟩ ?_; try simp only [Act.put, pz1, pz2, pz3]
                  refine wpAnyH_done (by kernel_rfl) ?_ _
                  refine NoPanic.normal ?_
                  go_upto_region 15 with fail
                  have B9f := B9.st5_ (.int .i64 n.id) (.int .i64 n.bk) (.string n.nm) (.slice A7 n.tg.length c7) (.slice A8 n.sh.length c8)
                  clear B9
                  have B9 := B9f
                  change Code.wp _ _ _ _ (st5 w7 wq.heap.size 0 (.int .i64 n.id) (.int .i64 n.bk) (.string n.nm) (.slice A7 n.tg.length c7) (.slice A8 n.sh.length c8))
                  obtain ⟨wf, hwf⟩ : ∃ V : World, V = st5 w7 wq.heap.size 0 (.int .i64 n.id) (.int .i64 n.bk) (.string n.nm) (.slice A7 n.tg.length c7) (.slice A8 n.sh.length c8) := ⟨_, rfl⟩
                  rw [← hwf] at B9 hbf ⊢
                  obtain ⟨g9, hg9⟩ : ∃ V : Nat, V = wq.heap.size := ⟨_, rfl⟩
                  rw [← hg9] at B9 ⊢
                  clear hwf hg9 B9f QP QA QB QC QD QG hHeld b7 p1 p2 SQ TQ SQ2 TQ2 SQ3 TQ3 hAL HZ2 BZ2 BZ3 hb7 r0 r1 r2 r3 r4 t0 t1 t2 t3 t4
                  have yf := keep_cell yp hbf hlp
                  have uf := keep_cell u1 hbf l2
                  have c1 : wf.cell? ⟨g9, 1, none⟩ = some (.int .i64 x.id) := by rw [← HNB.out]; exact B9.cell_ 1
                  have c2 : wf.cell? ⟨g9, 2, none⟩ = some (.string n.nm) := B9.cell_ 2
                  have hbZ := btr hbn hbn.size hbf
                  clear B9 u0 u1 SP TP BP k0 k1 k2 k3 k4 yp
                  rcases (by omega : k = 0 ∨ 0 < k) with hk0 | hk0
                  · have hdk : decide (0 < k) = false := decide_eq_false (by omega)
                    clear hk0
                    have Q15 : wf.cell? ⟨b1, o1 + i * 2, none⟩ = some (.int .i64 x.id) ∧ wf.cell? ⟨b2, o2 + k * 2 + 1, none⟩ = some (.string n.nm) ∧ wf.cell? ⟨g9, 1, none⟩ = some (.int .i64 x.id) ∧ wf.cell? ⟨g9, 2, none⟩ = some (.string n.nm) := ⟨yf, uf, c1, c2⟩
                    have Q15D : wf.drew.cell? ⟨b1, o1 + i * 2, none⟩ = some (.int .i64 x.id) ∧ wf.drew.cell? ⟨b2, o2 + k * 2 + 1, none⟩ = some (.string n.nm) ∧ wf.drew.cell? ⟨g9, 1, none⟩ = some (.int .i64 x.id) ∧ wf.drew.cell? ⟨g9, 2, none⟩ = some (.string n.nm) := ⟨drew_cell Q15.1, drew_cell Q15.2.1, drew_cell Q15.2.2.1, drew_cell Q15.2.2.2⟩
                    clear Q15 yf uf c1 c2
                    refine wp_region_noPanic ?_
                    refine wp_region_held_drew (S := (fun w_ => w_.cell? ⟨b1, o1 + i * 2, none⟩ = some (.int .i64 x.id) ∧ w_.cell? ⟨b2, o2 + k * 2 + 1, none⟩ = some (.string n.nm) ∧ w_.cell? ⟨g9, 1, none⟩ = some (.int .i64 x.id) ∧ w_.cell? ⟨g9, 2, none⟩ = some (.string n.nm))) (by kernel_rfl) ?_ (fun hHeld => ?_)
                    · (first | with_reducible exact Q15D)
                    refine tk 0 ⟨some 75, .move (.tmp 10), 4, "law.go:183", #[], none⟩ ?_; try simp only [Act.put, pz1, pz2, pz3]
                    refine tk 1 ⟨some 76, .unOp .not 4 (.tmp 75), 4, "law.go:183", #[⟨0, .data⟩], none⟩ ?_; try simp only [Act.put, pz1, pz2, pz3]
                    refine tk 2 ⟨some 77, .move (.tmp 76), 4, "law.go:183", #[⟨1, .data⟩], none⟩ ?_; try simp only [Act.put, pz1, pz2, pz3]
                    refine tk 3 ⟨some 78, .fieldAddr 38 (.tmp 9) 1, 0, "law.go:183", #[⟨2, .guard⟩], some (2, false)⟩ ?_; try simp only [Act.put, pz1, pz2, pz3]
                    refine tk 4 ⟨some 79, .load 3 (.tmp 78), 3, "law.go:183", #[⟨3, .data⟩, ⟨2, .guard⟩], some (2, false)⟩ ?_; try simp only [Act.put, pz1, pz2, pz3]
                    refine tk 5 ⟨some 80, .move (.tmp 3), 43, "law.go:183", #[⟨2, .guard⟩], some (2, false)⟩ ?_; try simp only [Act.put, pz1, pz2, pz3]
                    refine tk 6 ⟨some 81, .move (.tmp 5), 3, "law.go:183", #[⟨2, .guard⟩], some (2, false)⟩ ?_; try simp only [Act.put, pz1, pz2, pz3]
                    refine tk 7 ⟨some 82, .indexAddr 43 (.tmp 80) (.tmp 81), 0, "law.go:183", #[⟨5, .data⟩, ⟨6, .data⟩, ⟨2, .guard⟩], some (2, false)⟩ ?_; try simp only [Act.put, pz1, pz2, pz3]
                    refine tk 8 ⟨some 83, .fieldAddr 48 (.tmp 82) 0, 0, "law.go:183", #[⟨7, .data⟩, ⟨2, .guard⟩], some (2, false)⟩ ?_; try simp only [Act.put, pz1, pz2, pz3]
                    refine tk 9 ⟨some 84, .load 3 (.tmp 83), 3, "law.go:183", #[⟨8, .data⟩, ⟨2, .guard⟩], some (2, false)⟩ ?_; try simp only [Act.put, pz1, pz2, pz3]
                    refine tk 10 ⟨some 85, .binOp .neq 3 (.tmp 79) (.tmp 84) 3, 4, "law.go:183", #[⟨4, .data⟩, ⟨9, .data⟩, ⟨2, .guard⟩], some (2, false)⟩ ?_; try simp only [Act.put, pz1, pz2, pz3]
                    refine tk 11 ⟨some 86, .pick (.tmp 77) (.const (.bool true)) (.tmp 85), 4, "law.go:183", #[⟨2, .data⟩, ⟨10, .data⟩], none⟩ ?_; try simp only [Act.put, pz1, pz2, pz3]
                    refine tk 12 ⟨some 87, .move (.tmp 86), 4, "law.go:183", #[⟨11, .data⟩, ⟨2, .chain⟩], none⟩ ?_; try simp only [Act.put, pz1, pz2, pz3]
                    refine tk 13 ⟨some 88, .fieldAddr 38 (.tmp 9) 2, 0, "law.go:183", #[⟨12, .guard⟩], some (12, false)⟩ ?_; try simp only [Act.put, pz1, pz2, pz3]
                    refine tk 14 ⟨some 89, .load 9 (.tmp 88), 9, "law.go:183", #[⟨13, .data⟩, ⟨12, .guard⟩], some (12, false)⟩ ?_; try simp only [Act.put, pz1, pz2, pz3]
                    refine tk 15 ⟨some 90, .move (.tmp 6), 43, "law.go:183", #[⟨12, .guard⟩], some (12, false)⟩ ?_; try simp only [Act.put, pz1, pz2, pz3]
                    refine tk 16 ⟨some 91, .move (.tmp 8), 3, "law.go:183", #[⟨12, .guard⟩], some (12, false)⟩ ?_; try simp only [Act.put, pz1, pz2, pz3]
                    refine tk 17 ⟨some 92, .indexAddr 43 (.tmp 90) (.tmp 91), 0, "law.go:183", #[⟨15, .data⟩, ⟨16, .data⟩, ⟨12, .guard⟩], some (12, false)⟩ ?_; try simp only [Act.put, pz1, pz2, pz3]
                    refine tk 18 ⟨some 93, .fieldAddr 48 (.tmp 92) 1, 0, "law.go:183", #[⟨17, .data⟩, ⟨12, .guard⟩], some (12, false)⟩ ?_; try simp only [Act.put, pz1, pz2, pz3]
                    refine tk 19 ⟨some 94, .load 9 (.tmp 93), 9, "law.go:183", #[⟨18, .data⟩, ⟨12, .guard⟩], some (12, false)⟩ ?_; try simp only [Act.put, pz1, pz2, pz3]
                    refine tk 20 ⟨some 95, .binOp .neq 9 (.tmp 89) (.tmp 94) 9, 4, "law.go:183", #[⟨14, .data⟩, ⟨19, .data⟩, ⟨12, .guard⟩], some (12, false)⟩ ?_; try simp only [Act.put, pz1, pz2, pz3]
                    refine tk 21 ⟨some 96, .pick (.tmp 87) (.const (.bool true)) (.tmp 95), 4, "law.go:183", #[⟨12, .data⟩, ⟨20, .data⟩], none⟩ ?_; try simp only [Act.put, pz1, pz2, pz3]
                    refine tk 22 ⟨some 97, .move (.tmp 96), 4, "law.go:183", #[⟨21, .data⟩, ⟨12, .chain⟩], none⟩ ?_; try simp only [Act.put, pz1, pz2, pz3]
                    refine tk 23 ⟨some 98, .move (.tmp 8), 3, "law.go:183", #[⟨22, .guard⟩], some (22, false)⟩ ?_; try simp only [Act.put, pz1, pz2, pz3]
                    refine tk 24 ⟨some 99, .binOp .gtr 3 (.tmp 98) (.const (.int .i64 0)) 3, 4, "law.go:183", #[⟨23, .data⟩, ⟨22, .guard⟩], some (22, false)⟩ ?_; try simp only [Act.put, pz1, pz2, pz3]
                    refine tk 25 ⟨some 100, .move (.tmp 99), 4, "law.go:183", #[⟨24, .data⟩, ⟨22, .chain⟩, ⟨22, .guard⟩], some (22, false)⟩ ?_; try simp only [Act.put, pz1, pz2, pz3]
                    refine tu 26 ⟨some 101, .move (.tmp 6), 43, "law.go:183", #[⟨25, .guard⟩], some (25, true)⟩ ?_
                    try simp only [Act.put, pz1, pz2, pz3]
                    refine tu 27 ⟨some 102, .move (.tmp 8), 3, "law.go:183", #[⟨25, .guard⟩], some (25, true)⟩ ?_
                    try simp only [Act.put, pz1, pz2, pz3]
                    refine tu 28 ⟨some 103, .indexAddr 43 (.tmp 101) (.tmp 102), 0, "law.go:183", #[⟨26, .data⟩, ⟨27, .data⟩, ⟨25, .guard⟩], some (25, true)⟩ ?_
                    try simp only [Act.put, pz1, pz2, pz3]
                    refine tu 29 ⟨some 104, .fieldAddr 48 (.tmp 103) 1, 0, "law.go:183", #[⟨28, .data⟩, ⟨25, .guard⟩], some (25, true)⟩ ?_
                    try simp only [Act.put, pz1, pz2, pz3]
                    refine tu 30 ⟨some 105, .load 9 (.tmp 104), 9, "law.go:183", #[⟨29, .data⟩, ⟨25, .guard⟩], some (25, true)⟩ ?_
                    try simp only [Act.put, pz1, pz2, pz3]
                    refine tu 31 ⟨some 106, .move (.tmp 6), 43, "law.go:183", #[⟨25, .guard⟩], some (25, true)⟩ ?_
                    try simp only [Act.put, pz1, pz2, pz3]
                    refine tu 32 ⟨some 107, .move (.tmp 8), 3, "law.go:183", #[⟨25, .guard⟩], some (25, true)⟩ ?_
                    try simp only [Act.put, pz1, pz2, pz3]
                    refine tu 33 ⟨some 108, .binOp .sub 3 (.tmp 107) (.const (.int .i64 1)) 3, 3, "law.go:183", #[⟨32, .data⟩, ⟨25, .guard⟩], some (25, true)⟩ ?_
                    try simp only [Act.put, pz1, pz2, pz3]
                    refine tu 34 ⟨some 109, .indexAddr 43 (.tmp 106) (.tmp 108), 0, "law.go:183", #[⟨31, .data⟩, ⟨33, .data⟩, ⟨25, .guard⟩], some (25, true)⟩ ?_
                    try simp only [Act.put, pz1, pz2, pz3]
                    refine tu 35 ⟨some 110, .fieldAddr 48 (.tmp 109) 1, 0, "law.go:183", #[⟨34, .data⟩, ⟨25, .guard⟩], some (25, true)⟩ ?_
                    try simp only [Act.put, pz1, pz2, pz3]
                    refine tu 36 ⟨some 111, .load 9 (.tmp 110), 9, "law.go:183", #[⟨35, .data⟩, ⟨25, .guard⟩], some (25, true)⟩ ?_
                    try simp only [Act.put, pz1, pz2, pz3]
                    refine tu 37 ⟨some 112, .binOp .leq 9 (.tmp 105) (.tmp 111) 9, 4, "law.go:183", #[⟨30, .data⟩, ⟨36, .data⟩, ⟨25, .guard⟩], some (25, true)⟩ ?_
                    try simp only [Act.put, pz1, pz2, pz3]
                    refine tk 38 ⟨some 113, .pick (.tmp 100) (.tmp 112) (.const (.bool false)), 4, "law.go:183", #[⟨25, .data⟩, ⟨37, .data⟩, ⟨22, .guard⟩], some (22, false)⟩ ?_; try simp only [Act.put, pz1, pz2, pz3]
                    refine tk 39 ⟨some 114, .pick (.tmp 97) (.const (.bool true)) (.tmp 113), 4, "law.go:183", #[⟨22, .data⟩, ⟨38, .data⟩], none⟩ ?_; try simp only [Act.put, pz1, pz2, pz3]
                    refine wpAnyH_done (by kernel_rfl) ?_ _
                    refine NoPanic.normal ?_
                    go_wp2_with fail
                    go_roundw
                    case rel => exact ⟨k + 1, by omega, by go_num, (by rw [show cntI s its i + ((k + 1 : Nat) : Int) = cntI s its i + (k : Int) + 1 by omega]; have := HCB.out i; rw [w64 _ (by omega) (by omega)]), (by first | exact hbZ | exact drew_below hbZ)⟩
                    case measure => simp [intOf]; omega
                  · obtain ⟨j9, hj9⟩ : ∃ j, k = j + 1 := ⟨k - 1, by omega⟩
                    obtain ⟨z, hz⟩ : ∃ z, ns[j9]? = some z := ⟨_, List.getElem?_eq_getElem (by have := HMM.out; omega)⟩
                    have hez : (ns.map itC)[j9]? = some (itC z) := by rw [List.getElem?_map, hz]; rfl
                    have zf := keep_cell (HQ2.out j9 _ hez 1 _ rfl) hbf l2
                    have hless2 := less_not (HN.out.less j9 z (ntIt n) hz (by rw [← hj9]; exact HY.out))
                    have hA2 : Op.bytesLess n.nm.toList z.nm.toList = false := hless2.1
                    have hE2 : (n.nm.toList == z.nm.toList) = false := hless2.2
                    have m00 : (0 : Int) ≤ (j9 : Int) := by omega
                    have m01 : (j9 : Int) < (m : Int) := by omega
                    have msub : (k : Int) - 1 = (j9 : Int) := by omega
                    have mwr : IntKind.i64.wrap (j9 : Int) = (j9 : Int) := wrapS _ (by omega) (by omega)
                    have mpos : (0 : Int) < (k : Int) := by omega
                    have Q15D : wf.drew.cell? ⟨b1, o1 + i * 2, none⟩ = some (.int .i64 x.id) ∧ wf.drew.cell? ⟨b2, o2 + k * 2 + 1, none⟩ = some (.string n.nm) ∧ wf.drew.cell? ⟨g9, 1, none⟩ = some (.int .i64 x.id) ∧ wf.drew.cell? ⟨g9, 2, none⟩ = some (.string n.nm) ∧ wf.drew.cell? ⟨b2, o2 + j9 * 2 + 1, none⟩ = some (.string z.nm) := ⟨drew_cell yf, drew_cell uf, drew_cell c1, drew_cell c2, drew_cell zf⟩
                    clear yf uf c1 c2 zf
                    clear hez hless2 hj9 hz
                    refine wp_region_noPanic ?_
                    refine wp_region_held_drew (S := (fun w_ => w_.cell? ⟨b1, o1 + i * 2, none⟩ = some (.int .i64 x.id) ∧ w_.cell? ⟨b2, o2 + k * 2 + 1, none⟩ = some (.string n.nm) ∧ w_.cell? ⟨g9, 1, none⟩ = some (.int .i64 x.id) ∧ w_.cell? ⟨g9, 2, none⟩ = some (.string n.nm) ∧ w_.cell? ⟨b2, o2 + j9 * 2 + 1, none⟩ = some (.string z.nm))) (by kernel_rfl) ?_ (fun hHeld => ?_)
                    · (first | with_reducible exact Q15D)
                    refine tk 0 ⟨some 75, .move (.tmp 10), 4, "law.go:183", #[], none⟩ ?_; try simp only [Act.put, pz1, pz2, pz3]
                    refine tk 1 ⟨some 76, .unOp .not 4 (.tmp 75), 4, "law.go:183", #[⟨0, .data⟩], none⟩ ?_; try simp only [Act.put, pz1, pz2, pz3]
                    refine tk 2 ⟨some 77, .move (.tmp 76), 4, "law.go:183", #[⟨1, .data⟩], none⟩ ?_; try simp only [Act.put, pz1, pz2, pz3]
                    refine tk 3 ⟨some 78, .fieldAddr 38 (.tmp 9) 1, 0, "law.go:183", #[⟨2, .guard⟩], some (2, false)⟩ ?_; try simp only [Act.put, pz1, pz2, pz3]
                    refine tk 4 ⟨some 79, .load 3 (.tmp 78), 3, "law.go:183", #[⟨3, .data⟩, ⟨2, .guard⟩], some (2, false)⟩ ?_; try simp only [Act.put, pz1, pz2, pz3]
                    refine tk 5 ⟨some 80, .move (.tmp 3), 43, "law.go:183", #[⟨2, .guard⟩], some (2, false)⟩ ?_; try simp only [Act.put, pz1, pz2, pz3]
                    refine tk 6 ⟨some 81, .move (.tmp 5), 3, "law.go:183", #[⟨2, .guard⟩], some (2, false)⟩ ?_; try simp only [Act.put, pz1, pz2, pz3]
                    refine tk 7 ⟨some 82, .indexAddr 43 (.tmp 80) (.tmp 81), 0, "law.go:183", #[⟨5, .data⟩, ⟨6, .data⟩, ⟨2, .guard⟩], some (2, false)⟩ ?_; try simp only [Act.put, pz1, pz2, pz3]
                    refine tk 8 ⟨some 83, .fieldAddr 48 (.tmp 82) 0, 0, "law.go:183", #[⟨7, .data⟩, ⟨2, .guard⟩], some (2, false)⟩ ?_; try simp only [Act.put, pz1, pz2, pz3]
                    refine tk 9 ⟨some 84, .load 3 (.tmp 83), 3, "law.go:183", #[⟨8, .data⟩, ⟨2, .guard⟩], some (2, false)⟩ ?_; try simp only [Act.put, pz1, pz2, pz3]
                    refine tk 10 ⟨some 85, .binOp .neq 3 (.tmp 79) (.tmp 84) 3, 4, "law.go:183", #[⟨4, .data⟩, ⟨9, .data⟩, ⟨2, .guard⟩], some (2, false)⟩ ?_; try simp only [Act.put, pz1, pz2, pz3]
                    refine tk 11 ⟨some 86, .pick (.tmp 77) (.const (.bool true)) (.tmp 85), 4, "law.go:183", #[⟨2, .data⟩, ⟨10, .data⟩], none⟩ ?_; try simp only [Act.put, pz1, pz2, pz3]
                    refine tk 12 ⟨some 87, .move (.tmp 86), 4, "law.go:183", #[⟨11, .data⟩, ⟨2, .chain⟩], none⟩ ?_; try simp only [Act.put, pz1, pz2, pz3]
                    refine tk 13 ⟨some 88, .fieldAddr 38 (.tmp 9) 2, 0, "law.go:183", #[⟨12, .guard⟩], some (12, false)⟩ ?_; try simp only [Act.put, pz1, pz2, pz3]
                    refine tk 14 ⟨some 89, .load 9 (.tmp 88), 9, "law.go:183", #[⟨13, .data⟩, ⟨12, .guard⟩], some (12, false)⟩ ?_; try simp only [Act.put, pz1, pz2, pz3]
                    refine tk 15 ⟨some 90, .move (.tmp 6), 43, "law.go:183", #[⟨12, .guard⟩], some (12, false)⟩ ?_; try simp only [Act.put, pz1, pz2, pz3]
                    refine tk 16 ⟨some 91, .move (.tmp 8), 3, "law.go:183", #[⟨12, .guard⟩], some (12, false)⟩ ?_; try simp only [Act.put, pz1, pz2, pz3]
                    refine tk 17 ⟨some 92, .indexAddr 43 (.tmp 90) (.tmp 91), 0, "law.go:183", #[⟨15, .data⟩, ⟨16, .data⟩, ⟨12, .guard⟩], some (12, false)⟩ ?_; try simp only [Act.put, pz1, pz2, pz3]
                    refine tk 18 ⟨some 93, .fieldAddr 48 (.tmp 92) 1, 0, "law.go:183", #[⟨17, .data⟩, ⟨12, .guard⟩], some (12, false)⟩ ?_; try simp only [Act.put, pz1, pz2, pz3]
                    refine tk 19 ⟨some 94, .load 9 (.tmp 93), 9, "law.go:183", #[⟨18, .data⟩, ⟨12, .guard⟩], some (12, false)⟩ ?_; try simp only [Act.put, pz1, pz2, pz3]
                    refine tk 20 ⟨some 95, .binOp .neq 9 (.tmp 89) (.tmp 94) 9, 4, "law.go:183", #[⟨14, .data⟩, ⟨19, .data⟩, ⟨12, .guard⟩], some (12, false)⟩ ?_; try simp only [Act.put, pz1, pz2, pz3]
                    refine tk 21 ⟨some 96, .pick (.tmp 87) (.const (.bool true)) (.tmp 95), 4, "law.go:183", #[⟨12, .data⟩, ⟨20, .data⟩], none⟩ ?_; try simp only [Act.put, pz1, pz2, pz3]
                    refine tk 22 ⟨some 97, .move (.tmp 96), 4, "law.go:183", #[⟨21, .data⟩, ⟨12, .chain⟩], none⟩ ?_; try simp only [Act.put, pz1, pz2, pz3]
                    refine tk 23 ⟨some 98, .move (.tmp 8), 3, "law.go:183", #[⟨22, .guard⟩], some (22, false)⟩ ?_; try simp only [Act.put, pz1, pz2, pz3]
                    refine tk 24 ⟨some 99, .binOp .gtr 3 (.tmp 98) (.const (.int .i64 0)) 3, 4, "law.go:183", #[⟨23, .data⟩, ⟨22, .guard⟩], some (22, false)⟩ ?_; try simp only [Act.put, pz1, pz2, pz3]
                    refine tk 25 ⟨some 100, .move (.tmp 99), 4, "law.go:183", #[⟨24, .data⟩, ⟨22, .chain⟩, ⟨22, .guard⟩], some (22, false)⟩ ?_; try simp only [Act.put, pz1, pz2, pz3]
                    refine tk 26 ⟨some 101, .move (.tmp 6), 43, "law.go:183", #[⟨25, .guard⟩], some (25, true)⟩ ?_; try simp only [Act.put, pz1, pz2, pz3]
                    refine tk 27 ⟨some 102, .move (.tmp 8), 3, "law.go:183", #[⟨25, .guard⟩], some (25, true)⟩ ?_; try simp only [Act.put, pz1, pz2, pz3]
                    refine tk 28 ⟨some 103, .indexAddr 43 (.tmp 101) (.tmp 102), 0, "law.go:183", #[⟨26, .data⟩, ⟨27, .data⟩, ⟨25, .guard⟩], some (25, true)⟩ ?_; try simp only [Act.put, pz1, pz2, pz3]
                    refine tk 29 ⟨some 104, .fieldAddr 48 (.tmp 103) 1, 0, "law.go:183", #[⟨28, .data⟩, ⟨25, .guard⟩], some (25, true)⟩ ?_; try simp only [Act.put, pz1, pz2, pz3]
                    refine tk 30 ⟨some 105, .load 9 (.tmp 104), 9, "law.go:183", #[⟨29, .data⟩, ⟨25, .guard⟩], some (25, true)⟩ ?_; try simp only [Act.put, pz1, pz2, pz3]
                    refine tk 31 ⟨some 106, .move (.tmp 6), 43, "law.go:183", #[⟨25, .guard⟩], some (25, true)⟩ ?_; try simp only [Act.put, pz1, pz2, pz3]
                    refine tk 32 ⟨some 107, .move (.tmp 8), 3, "law.go:183", #[⟨25, .guard⟩], some (25, true)⟩ ?_; try simp only [Act.put, pz1, pz2, pz3]
                    refine tk 33 ⟨some 108, .binOp .sub 3 (.tmp 107) (.const (.int .i64 1)) 3, 3, "law.go:183", #[⟨32, .data⟩, ⟨25, .guard⟩], some (25, true)⟩ ?_; try simp only [Act.put, pz1, pz2, pz3]
                    refine tk 34 ⟨some 109, .indexAddr 43 (.tmp 106) (.tmp 108), 0, "law.go:183", #[⟨31, .data⟩, ⟨33, .data⟩, ⟨25, .guard⟩], some (25, true)⟩ ?_; try simp only [Act.put, pz1, pz2, pz3]
                    refine tk 35 ⟨some 110, .fieldAddr 48 (.tmp 109) 1, 0, "law.go:183", #[⟨34, .data⟩, ⟨25, .guard⟩], some (25, true)⟩ ?_; try simp only [Act.put, pz1, pz2, pz3]
                    refine tk 36 ⟨some 111, .load 9 (.tmp 110), 9, "law.go:183", #[⟨35, .data⟩, ⟨25, .guard⟩], some (25, true)⟩ ?_; try simp only [Act.put, pz1, pz2, pz3]
                    refine tk 37 ⟨some 112, .binOp .leq 9 (.tmp 105) (.tmp 111) 9, 4, "law.go:183", #[⟨30, .data⟩, ⟨36, .data⟩, ⟨25, .guard⟩], some (25, true)⟩ ?_; try simp only [Act.put, pz1, pz2, pz3]
                    refine tk 38 ⟨some 113, .pick (.tmp 100) (.tmp 112) (.const (.bool false)), 4, "law.go:183", #[⟨25, .data⟩, ⟨37, .data⟩, ⟨22, .guard⟩], some (22, false)⟩ ?_; try simp only [Act.put, pz1, pz2, pz3]
                    refine tk 39 ⟨some 114, .pick (.tmp 97) (.const (.bool true)) (.tmp 113), 4, "law.go:183", #[⟨22, .data⟩, ⟨38, .data⟩], none⟩ ?_; try simp only [Act.put, pz1, pz2, pz3]
                    refine wpAnyH_done (by kernel_rfl) ?_ _
                    refine NoPanic.normal ?_
                    go_wp2_with fail
                    go_roundw
                    case rel => exact ⟨k + 1, by omega, by go_num, (by rw [show cntI s its i + ((k + 1 : Nat) : Int) = cntI s its i + (k : Int) + 1 by omega]; have := HCB.out i; rw [w64 _ (by omega) (by omega)]), (by first | exact hbZ | exact drew_below hbZ)⟩
                    case measure => simp [intOf]; omega
              · skip
                have hkm : k = m := by omega
                subst hkm
                have hadd : cntI s its i + (k : Int) = cntI s its (i + 1) := by
                  unfold cntI
                  have h1 := cntB_next (ts := s.ts) (L := its.map It.id) (k := i) (x := x.id) (by rw [List.getElem?_map, HX.out]; rfl)
                  have h2 := HN.out.len
                  have h3 := HMM.out
                  omega
                rw [hadd]
                have hbQ := btr hb4 hb4.size hbP
                have HCB2 := HCB.out (i + 1)
                go_wp2_with fail
                go_roundw
                case rel => exact ⟨i + 1, by omega, by go_num, rfl, hbQ⟩
                case measure => simp [intOf]; omega
        · have hil : i = l := by omega
          subst hil
          have e2 : cntI s its i = (s.ts.length : Int) := by
            unfold cntI
            rw [List.take_of_length_le (by rw [List.length_map, HLL.out]; exact Nat.le_refl _), HL.out.all]
          have e1 : i = s.bs.length := by rw [← HLL.out, HL.out.len]
          rw [e2]
          subst e1
          have HB0 : Hid (bookAt s 0 < 0) := Lib.hid (by
            by_cases h : bookAt s 0 < 0
            · exact h
            · obtain ⟨b, hb, he⟩ := (book_is (s := s) 0).1 (by omega)
              have := (HMF.out.bs b hb).1
              omega)
          go_wp2_with (first | (go_at_call 16; go_loud (((with_reducible refine (notes_none s _ 0 _ SO TO HM.out HB0.out).mono ?_); rintro e' wN ⟨rfl, bx⟩; have SO := SO.next bx; have TO := TO.next bx; have BO := BO.below bx BO.lt; have HBO := btr HBO HBO.size bx; (try clear k0 k1 k2 k3 k4); have k0 := BO.cell_ 0; have k1 := BO.cell_ 1; have k2 := BO.cell_ 2; have k3 := BO.cell_ 3; have k4 := BO.cell_ 4; simp at k0 k1 k2 k3 k4; clear bx))) | (go_at_call 8; go_loud (((with_reducible refine (awake_any _ TO).mono ?_); rintro e' wA ⟨rfl, bx⟩; have HBO := btr HBO HBO.size bx))))
          go_ret
          exact ⟨rfl, HBO⟩
  · skip
    go_enter Tryd.func4, Tryd.ntmps4
    go_wp2_with (first | (go_at_call 6; go_loud (((with_reducible refine (greatShelf_any s _ _ S1 _ HG.out).mono ?_); rintro e' w2 ⟨rfl, bx⟩; have S1 := S1.next bx; have T1 := T1.next bx; have B1 := B1.below bx B1.lt; have HB := btr HB HB.size bx; (try clear k0 k1 k2 k3 k4); have k0 := B1.cell_ 0; have k1 := B1.cell_ 1; have k2 := B1.cell_ 2; have k3 := B1.cell_ 3; have k4 := B1.cell_ 4; simp at k0 k1 k2 k3 k4; clear bx))) | (go_at_call 7; go_loud (((with_reducible refine (smay_any s _ _ S1 T1 _ HM.out).mono ?_); rintro e' w3 ⟨rfl, bx⟩; have S1 := S1.next bx; have T1 := T1.next bx; have B1 := B1.below bx B1.lt; have HB := btr HB HB.size bx; (try clear k0 k1 k2 k3 k4); have k0 := B1.cell_ 0; have k1 := B1.cell_ 1; have k2 := B1.cell_ 2; have k3 := B1.cell_ 3; have k4 := B1.cell_ 4; simp at k0 k1 k2 k3 k4; clear bx))) | (go_at_call 8; go_loud (((with_reducible refine (awake_any _ T1).mono ?_); rintro e' wA ⟨rfl, bx⟩; have HB := btr HB HB.size bx))))
    go_ret
    exact ⟨rfl, HB⟩
end Go.Proofs.YtokhapafpjejaaaDoor
