/- keep. -/
import Derived.Test.YtnpinkbbkhllaaaGreatDoorDn2
import Derived.Test.YtnpinkbbkhllaaaGreatDoorDn1
import Derived.Test.YtnpinkbbkhllaaaGreatDoorRows
import Derived.SevenTiedAt
import Derived.LaidHandle
import Derived.Lib.LaidIn
import Derived.Lib.LaidU8T
import Derived.PinnedBridge
import Derived.ChangeMaps5
set_option linter.unusedSimpArgs false
set_option linter.unusedVariables false
set_option maxRecDepth 100000
set_option maxHeartbeats 16000000
namespace Go.Proofs.YtnpinkbbkhllaaaGreatDoor
open Go.ChangeShapes Go.WideShapes Go.ChangeAt Go.RowKit
attribute [local go_sem ↓] Go.wp_at_zero Go.wp_at_succ
theorem drewS (w : World) : w.drew.heap.size = w.heap.size := rfl
theorem grownD {w w' : World} (row : Option Nat) (h : Below w.heap.size w w') : w.grownBy w' row := ⟨h.os, h.tape, h.output, h.size, fun k hk _ => h.block k hk⟩
theorem gtrD {w w1 w2 : World} {row : Option Nat} (h : w.grownBy w1 row) (h2 : w1.grownBy w2 row) : w.grownBy w2 row := ⟨by rw [h2.os, h.os], by rw [h2.tape, h.tape], by rw [h2.output, h.output], Nat.le_trans h.size h2.size, fun k hk hne => (h2.block k (Nat.lt_of_lt_of_le hk h.size) hne).trans (h.block k hk hne)⟩
theorem gtr2D {w w1 w2 : World} {row row2 : Option Nat} (h : w.grownBy w1 row) (h2 : w1.grownBy w2 row2) (hr : ∀ k, row2 = some k → w.heap.size ≤ k) : w.grownBy w2 row := ⟨by rw [h2.os, h.os], by rw [h2.tape, h.tape], by rw [h2.output, h.output], Nat.le_trans h.size h2.size, fun k hk hne => (h2.block k (Nat.lt_of_lt_of_le hk h.size) (fun e => by have := hr k e.symm; omega)).trans (h.block k hk hne)⟩
structure DeskW (w : World) (gd base : Nat) (s : Sf) : Prop where
  ex : ∃ (Ab : Option Addr) (cb : Nat) (An : Option Addr) (cn : Nat) (vm : Value), Blk w gd 54 #[.int .i64 8, .int .i64 4, .int .i64 32, .int .i64 0, .int .i64 2, .int .i64 s.nb, .int .i64 s.nn, .int .i64 s.ns, (.slice Ab s.bs.length cb), (.slice An s.ts.length cn), vm] ∧ ShW w base (.agg #[.int .i64 s.nb, .int .i64 s.nn, .int .i64 s.ns, .slice Ab s.bs.length cb, .slice An s.ts.length cn]) s
theorem DeskW.toI {w : World} {gd base : Nat} {s : Sf} (h : DeskW w gd base s) : DeskI w gd s := by
  obtain ⟨Ab, cb, An, cn, vm, h1, h2⟩ := h.ex
  exact ⟨Ab, cb, An, cn, vm, h1, h2.toR⟩
theorem ShW.farD {w w' : World} {base g : Nat} {v : Value} {s : Sf} (h : ShW w base v s) (hg : w.grownBy w' (some g)) (hlt : g < base) : ShW w' base v s := by
  obtain ⟨vb, vn, es, rfl, h1, h2, h3, h4⟩ := h
  exact ShW.make (BksW.far h1 hg hlt) (NtsW.far ⟨es, h2, h3, h4⟩ hg hlt)
theorem keep_no (gd : Nat) (x0 x1 x2 : Int) (A1 A2 : Option Addr) (n1 c1 n2 c2 : Nat) (ob nn c : Int) (hc : c ≠ 0) (w : World) :
    Calls Tryz.prog 36 #[.pointer (some ⟨gd, 0, none⟩), .agg #[.int .i64 x0, .int .i64 x1, .int .i64 x2, .slice A1 n1 c1, .slice A2 n2 c2, .int .i64 ob, .slice none 0 0, .int .i64 nn], .int .i64 c] w fun e' w' => e' = .returned (.agg #[.int .i64 c, .int .i64 0, .slice none 0 0, .slice none 0 0, .slice none 0 0]) ∧ Below w.heap.size w w' := by
  go_enter Tryz.func36, Tryz.ntmps36
  go_wp2_with fail
  change bodyPost _ _ _ _ _ ((w.alloc (.cells #[.int .i64 x0, .int .i64 x1, .int .i64 x2, .slice A1 n1 c1, .slice A2 n2 c2, .int .i64 ob, .slice none 0 0, .int .i64 nn] 60)).alloc (.cells #[.int .i64 c, .int .i64 0, .slice none 0 0, .slice none 0 0, .slice none 0 0] 32))
  have B2u : Blk ((w.alloc (.cells #[.int .i64 x0, .int .i64 x1, .int .i64 x2, .slice A1 n1 c1, .slice A2 n2 c2, .int .i64 ob, .slice none 0 0, .int .i64 nn] 60)).alloc (.cells #[.int .i64 c, .int .i64 0, .slice none 0 0, .slice none 0 0, .slice none 0 0] 32)) (w.heap.size + 1) 32 #[.int .i64 c, .int .i64 0, .slice none 0 0, .slice none 0 0, .slice none 0 0] := by
    have := Blk.new_ (w.alloc (.cells #[.int .i64 x0, .int .i64 x1, .int .i64 x2, .slice A1 n1 c1, .slice A2 n2 c2, .int .i64 ob, .slice none 0 0, .int .i64 nn] 60)) 32 #[.int .i64 c, .int .i64 0, .slice none 0 0, .slice none 0 0, .slice none 0 0]
    simpa using this
  have hb2 : Below w.heap.size w ((w.alloc (.cells #[.int .i64 x0, .int .i64 x1, .int .i64 x2, .slice A1 n1 c1, .slice A2 n2 c2, .int .i64 ob, .slice none 0 0, .int .i64 nn] 60)).alloc (.cells #[.int .i64 c, .int .i64 0, .slice none 0 0, .slice none 0 0, .slice none 0 0] 32)) := ((Below.refl _ w).alloc (Nat.le_refl _) _).alloc (by simp) _
  generalize ((w.alloc (.cells #[.int .i64 x0, .int .i64 x1, .int .i64 x2, .slice A1 n1 c1, .slice A2 n2 c2, .int .i64 ob, .slice none 0 0, .int .i64 nn] 60)).alloc (.cells #[.int .i64 c, .int .i64 0, .slice none 0 0, .slice none 0 0, .slice none 0 0] 32)) = Wd at B2u hb2 ⊢
  apply bodyPost_ret (v := .agg #[.int .i64 c, .int .i64 0, .slice none 0 0, .slice none 0 0, .slice none 0 0])
  · exact results_cell_row Tryz.results36 _ Wd (w.heap.size + 1) 32 _ (0, 0) _ rfl B2u Tryz.underlying32 rfl (by kernel_rfl)
  · rfl
  · exact ⟨rfl, hb2⟩
theorem keep_ok (s0 s : Sf) (gd base : Nat) (A1 A2 : Option Addr) (c1 c2 : Nat) (nn : Int) (w : World) (hD : DeskI w gd s0) (hV : ShW w base (.agg #[.int .i64 s.nb, .int .i64 s.nn, .int .i64 s.ns, .slice A1 s.bs.length c1, .slice A2 0 c2]) s) (hlt : gd < base) (hT : Tabs w) (hF : MayF s) (ht : s.ts = []) (N : Nat) (hN : (shL s).length = N) (hl : N ≤ 32) :
    Calls Tryz.prog 36 #[.pointer (some ⟨gd, 0, none⟩), .agg #[.int .i64 s.nb, .int .i64 s.nn, .int .i64 s.ns, .slice A1 s.bs.length c1, .slice A2 0 c2, .int .i64 0, .slice none 0 0, .int .i64 nn], .int .i64 0] w fun e' w' => e' = .returned (.agg #[.int .i64 0, .int .i64 nn, .slice none 0 0, .slice none 0 0, .slice none 0 0]) ∧ DeskW w' gd base s ∧ w.grownBy w' (some gd) := by
  obtain ⟨Ab, cb, An, cn, vm, B7, -⟩ := hD.ex
  have hgd := B7.lt
  have HV := Lib.hid hV
  have HTs := Lib.hid ht
  have HF := Lib.hid hF
  have HN := Lib.hid hN
  have hT0 := hT
  have HB : Below w.heap.size w ((w.alloc (.cells #[.int .i64 s.nb, .int .i64 s.nn, .int .i64 s.ns, .slice A1 s.bs.length c1, .slice A2 0 c2, .int .i64 0, .slice none 0 0, .int .i64 nn] 60)).alloc (.cells #[.int .i64 0, .int .i64 0, .slice none 0 0, .slice none 0 0, .slice none 0 0] 32)) := ((Below.refl _ w).alloc (Nat.le_refl _) _).alloc (by simp) _
  have B4 : Blk ((w.alloc (.cells #[.int .i64 s.nb, .int .i64 s.nn, .int .i64 s.ns, .slice A1 s.bs.length c1, .slice A2 0 c2, .int .i64 0, .slice none 0 0, .int .i64 nn] 60)).alloc (.cells #[.int .i64 0, .int .i64 0, .slice none 0 0, .slice none 0 0, .slice none 0 0] 32)) w.heap.size 60 #[.int .i64 s.nb, .int .i64 s.nn, .int .i64 s.ns, .slice A1 s.bs.length c1, .slice A2 0 c2, .int .i64 0, .slice none 0 0, .int .i64 nn] := (Blk.new_ w 60 #[.int .i64 s.nb, .int .i64 s.nn, .int .i64 s.ns, .slice A1 s.bs.length c1, .slice A2 0 c2, .int .i64 0, .slice none 0 0, .int .i64 nn]).alloc_ _
  have B6 : Blk ((w.alloc (.cells #[.int .i64 s.nb, .int .i64 s.nn, .int .i64 s.ns, .slice A1 s.bs.length c1, .slice A2 0 c2, .int .i64 0, .slice none 0 0, .int .i64 nn] 60)).alloc (.cells #[.int .i64 0, .int .i64 0, .slice none 0 0, .slice none 0 0, .slice none 0 0] 32)) (w.heap.size + 1) 32 #[.int .i64 0, .int .i64 0, .slice none 0 0, .slice none 0 0, .slice none 0 0] := by
    have := Blk.new_ (w.alloc (.cells #[.int .i64 s.nb, .int .i64 s.nn, .int .i64 s.ns, .slice A1 s.bs.length c1, .slice A2 0 c2, .int .i64 0, .slice none 0 0, .int .i64 nn] 60)) 32 #[.int .i64 0, .int .i64 0, .slice none 0 0, .slice none 0 0, .slice none 0 0]
    simpa using this
  replace B7 := B7.below HB hgd
  clear hD hV ht hF hN hT
  go_enter Tryz.func36, Tryz.ntmps36
  go_upto_region 3 with fail
  obtain ⟨W, hW⟩ : ∃ V : World, V = ((w.alloc (.cells #[.int .i64 s.nb, .int .i64 s.nn, .int .i64 s.ns, .slice A1 s.bs.length c1, .slice A2 0 c2, .int .i64 0, .slice none 0 0, .int .i64 nn] 60)).alloc (.cells #[.int .i64 0, .int .i64 0, .slice none 0 0, .slice none 0 0, .slice none 0 0] 32)) := ⟨_, rfl⟩
  change Code.wp _ _ _ _ ((w.alloc (.cells #[.int .i64 s.nb, .int .i64 s.nn, .int .i64 s.ns, .slice A1 s.bs.length c1, .slice A2 0 c2, .int .i64 0, .slice none 0 0, .int .i64 nn] 60)).alloc (.cells #[.int .i64 0, .int .i64 0, .slice none 0 0, .slice none 0 0, .slice none 0 0] 32))
  rw [← hW] at HB B4 B6 B7 ⊢
  clear hW
  replace B4 := drew_blk B4
  replace B7 := drew_blk B7
  have Q0 : W.drew.cell? ⟨gd, 0, none⟩ = some (.int .i64 8) ∧ W.drew.cell? ⟨gd, 1, none⟩ = some (.int .i64 4) ∧ W.drew.cell? ⟨gd, 2, none⟩ = some (.int .i64 32) ∧ W.drew.cell? ⟨gd, 3, none⟩ = some (.int .i64 0) ∧ W.drew.cell? ⟨gd, 4, none⟩ = some (.int .i64 2) ∧ W.drew.cell? ⟨w.heap.size, 0, none⟩ = some (.int .i64 s.nb) ∧ W.drew.cell? ⟨w.heap.size, 1, none⟩ = some (.int .i64 s.nn) ∧ W.drew.cell? ⟨w.heap.size, 2, none⟩ = some (.int .i64 s.ns) ∧ W.drew.cell? ⟨w.heap.size, 3, none⟩ = some (.slice A1 s.bs.length c1) ∧ W.drew.cell? ⟨w.heap.size, 4, none⟩ = some (.slice A2 0 c2) := ⟨(by have h := B7.cell_ 0; simpa using h), (by have h := B7.cell_ 1; simpa using h), (by have h := B7.cell_ 2; simpa using h), (by have h := B7.cell_ 3; simpa using h), (by have h := B7.cell_ 4; simpa using h), (by have h := B4.cell_ 0; simpa using h), (by have h := B4.cell_ 1; simpa using h), (by have h := B4.cell_ 2; simpa using h), (by have h := B4.cell_ 3; simpa using h), (by have h := B4.cell_ 4; simpa using h)⟩
  have SQ : Hid (∀ o, (W.drew.alloc o).cell? ⟨gd, 0, none⟩ = some (.int .i64 8) ∧ (W.drew.alloc o).cell? ⟨gd, 1, none⟩ = some (.int .i64 4) ∧ (W.drew.alloc o).cell? ⟨gd, 2, none⟩ = some (.int .i64 32) ∧ (W.drew.alloc o).cell? ⟨gd, 3, none⟩ = some (.int .i64 0) ∧ (W.drew.alloc o).cell? ⟨gd, 4, none⟩ = some (.int .i64 2) ∧ (W.drew.alloc o).cell? ⟨w.heap.size, 0, none⟩ = some (.int .i64 s.nb) ∧ (W.drew.alloc o).cell? ⟨w.heap.size, 1, none⟩ = some (.int .i64 s.nn) ∧ (W.drew.alloc o).cell? ⟨w.heap.size, 2, none⟩ = some (.int .i64 s.ns) ∧ (W.drew.alloc o).cell? ⟨w.heap.size, 3, none⟩ = some (.slice A1 s.bs.length c1) ∧ (W.drew.alloc o).cell? ⟨w.heap.size, 4, none⟩ = some (.slice A2 0 c2)) := Lib.hid fun o => by
    have B4 := B4.alloc_ o
    have B7 := B7.alloc_ o
    exact ⟨(by have h := B7.cell_ 0; simpa using h), (by have h := B7.cell_ 1; simpa using h), (by have h := B7.cell_ 2; simpa using h), (by have h := B7.cell_ 3; simpa using h), (by have h := B7.cell_ 4; simpa using h), (by have h := B4.cell_ 0; simpa using h), (by have h := B4.cell_ 1; simpa using h), (by have h := B4.cell_ 2; simpa using h), (by have h := B4.cell_ 3; simpa using h), (by have h := B4.cell_ 4; simpa using h)⟩
  have SQ2 : Hid (∀ o o2, ((W.drew.alloc o).alloc o2).cell? ⟨gd, 0, none⟩ = some (.int .i64 8) ∧ ((W.drew.alloc o).alloc o2).cell? ⟨gd, 1, none⟩ = some (.int .i64 4) ∧ ((W.drew.alloc o).alloc o2).cell? ⟨gd, 2, none⟩ = some (.int .i64 32) ∧ ((W.drew.alloc o).alloc o2).cell? ⟨gd, 3, none⟩ = some (.int .i64 0) ∧ ((W.drew.alloc o).alloc o2).cell? ⟨gd, 4, none⟩ = some (.int .i64 2) ∧ ((W.drew.alloc o).alloc o2).cell? ⟨w.heap.size, 0, none⟩ = some (.int .i64 s.nb) ∧ ((W.drew.alloc o).alloc o2).cell? ⟨w.heap.size, 1, none⟩ = some (.int .i64 s.nn) ∧ ((W.drew.alloc o).alloc o2).cell? ⟨w.heap.size, 2, none⟩ = some (.int .i64 s.ns) ∧ ((W.drew.alloc o).alloc o2).cell? ⟨w.heap.size, 3, none⟩ = some (.slice A1 s.bs.length c1) ∧ ((W.drew.alloc o).alloc o2).cell? ⟨w.heap.size, 4, none⟩ = some (.slice A2 0 c2)) := Lib.hid fun o o2 => by
    have B4 := (B4.alloc_ o).alloc_ o2
    have B7 := (B7.alloc_ o).alloc_ o2
    exact ⟨(by have h := B7.cell_ 0; simpa using h), (by have h := B7.cell_ 1; simpa using h), (by have h := B7.cell_ 2; simpa using h), (by have h := B7.cell_ 3; simpa using h), (by have h := B7.cell_ 4; simpa using h), (by have h := B4.cell_ 0; simpa using h), (by have h := B4.cell_ 1; simpa using h), (by have h := B4.cell_ 2; simpa using h), (by have h := B4.cell_ 3; simpa using h), (by have h := B4.cell_ 4; simpa using h)⟩
  refine wp_region_noPanic ?_
  refine wp_region_held_drew (S := (fun w_ => w_.cell? ⟨gd, 0, none⟩ = some (.int .i64 8) ∧ w_.cell? ⟨gd, 1, none⟩ = some (.int .i64 4) ∧ w_.cell? ⟨gd, 2, none⟩ = some (.int .i64 32) ∧ w_.cell? ⟨gd, 3, none⟩ = some (.int .i64 0) ∧ w_.cell? ⟨gd, 4, none⟩ = some (.int .i64 2) ∧ w_.cell? ⟨w.heap.size, 0, none⟩ = some (.int .i64 s.nb) ∧ w_.cell? ⟨w.heap.size, 1, none⟩ = some (.int .i64 s.nn) ∧ w_.cell? ⟨w.heap.size, 2, none⟩ = some (.int .i64 s.ns) ∧ w_.cell? ⟨w.heap.size, 3, none⟩ = some (.slice A1 s.bs.length c1) ∧ w_.cell? ⟨w.heap.size, 4, none⟩ = some (.slice A2 0 c2))) (by kernel_rfl) ?_ (fun hHeld => ?_)
  · (first | with_reducible exact Q0 | exact SQ.out _ | exact SQ2.out _ _ | assumption)
  refine tk 0 ?_; try simp only [Act.put, pz1, pz2, pz3]
  refine tk 1 ?_; try simp only [Act.put, pz1, pz2, pz3]
  refine tk 2 ?_; try simp only [Act.put, pz1, pz2, pz3]
  refine tk 3 ?_; try simp only [Act.put, pz1, pz2, pz3]
  refine tk 4 ?_; try simp only [Act.put, pz1, pz2, pz3]
  refine tk 5 ?_; try simp only [Act.put, pz1, pz2, pz3]
  refine wpAnyH_ready (rs := [6]) (by kernel_rfl) (by simp) ?_
  refine AllReadyH.cons (o := ⟨some 20, .makeMap 52 none, 52, "desk.go:229", #[], none⟩) rfl (fun K hK => ?_) AllReadyH.nil
  go_simp
  refine hK.out _ _ ?_ (fun hNew => ?_)
  · (first | with_reducible exact Q0 | exact SQ.out _ | exact SQ2.out _ _ | assumption)
  clear hK K hHeld
  have hHeld := hNew
  clear hNew
  try simp only [Act.put, pz1, pz2, pz3]
  refine tk 7 ?_; try simp only [Act.put, pz1, pz2, pz3]
  refine wpAnyH_ready (rs := [8]) (by kernel_rfl) (by simp) ?_
  refine AllReadyH.cons (o := ⟨some 22, .box 54 (.tmp 21), 22, "desk.go:229", #[⟨7, .data⟩], none⟩) rfl (fun K hK => ?_) AllReadyH.nil
  go_simp
  refine hK.out _ _ ?_ (fun hNew => ?_)
  · (first | with_reducible exact Q0 | exact SQ.out _ | exact SQ2.out _ _ | assumption)
  clear hK K hHeld
  have hHeld := hNew
  clear hNew
  try simp only [Act.put, pz1, pz2, pz3]
  refine tk 9 ?_; try simp only [Act.put, pz1, pz2, pz3]
  refine wpAnyH_done (by kernel_rfl) ?_ _
  refine NoPanic.normal ?_
  clear hHeld
  have h00 : s.ts.length = 0 := by rw [HTs.out]; rfl
  obtain ⟨gm, hgm⟩ : ∃ g, W.heap.size = g := ⟨_, rfl⟩
  change Exit.then _ _ _ _ ((W.drew.alloc (.map #[] 0)).alloc (.cells #[.int .i64 8, .int .i64 4, .int .i64 32, .int .i64 0, .int .i64 2, .int .i64 s.nb, .int .i64 s.nn, .int .i64 s.ns, .slice A1 s.bs.length c1, .slice A2 0 c2, .map (some W.heap.size)] 54))
  have bx : Below W.heap.size W ((W.drew.alloc (.map #[] 0)).alloc (.cells #[.int .i64 8, .int .i64 4, .int .i64 32, .int .i64 0, .int .i64 2, .int .i64 s.nb, .int .i64 s.nn, .int .i64 s.ns, .slice A1 s.bs.length c1, .slice A2 0 c2, .map (some W.heap.size)] 54)) := ((below_dr W).alloc (Nat.le_refl _) _).alloc (by simp [drewS]) _
  have BA := Blk.new_ (W.drew.alloc (.map #[] 0)) 54 #[.int .i64 8, .int .i64 4, .int .i64 32, .int .i64 0, .int .i64 2, .int .i64 s.nb, .int .i64 s.nn, .int .i64 s.ns, .slice A1 s.bs.length c1, .slice A2 0 c2, .map (some W.heap.size)]
  have hga : (W.drew.alloc (.map #[] 0)).heap.size = gm + 1 := by simp [drewS, hgm]
  rw [hga, hgm] at BA
  replace HB := btr HB HB.size bx
  replace B6 := B6.below bx B6.lt
  replace B4 : Blk _ _ _ _ := Blk.below (w := W) B4 bx B4.lt
  replace B7 : Blk _ _ _ _ := Blk.below (w := W) B7 bx B7.lt
  clear bx Q0 SQ SQ2
  rw [hgm] at HB B4 B6 B7
  rw [hgm]
  obtain ⟨wq, hwq⟩ : ∃ V : World, V = (W.drew.alloc (.map #[] 0)).alloc (.cells #[.int .i64 8, .int .i64 4, .int .i64 32, .int .i64 0, .int .i64 2, .int .i64 s.nb, .int .i64 s.nn, .int .i64 s.ns, .slice A1 s.bs.length c1, .slice A2 0 c2, .map (some gm)] 54) := ⟨_, rfl⟩
  rw [← hwq] at HB B4 B6 B7 BA ⊢
  clear hwq hga
  (try clear a0 a1 a2 a3 a4 a5 a6 a7 a8 a9 a10 m0 m1 m2 m3 m4 m5 m6 m7 m8 m9 m10 p0 p1 p2 p3 p4 d0 d1 d2 d3 d4 d5 d6 d7); obtain ⟨a0, a1, a2, a3, a4, a5, a6, a7, a8, a9, a10⟩ := cell11 BA; obtain ⟨m0, m1, m2, m3, m4, m5, m6, m7, m8, m9, m10⟩ := cell11 B7; obtain ⟨p0, p1, p2, p3, p4⟩ := cell5D B6; have d0 := B4.cell_ 0; have d1 := B4.cell_ 1; have d2 := B4.cell_ 2; have d3 := B4.cell_ 3; have d4 := B4.cell_ 4; have d5 := B4.cell_ 5; have d6 := B4.cell_ 6; have d7 := B4.cell_ 7; simp at d0 d1 d2 d3 d4 d5 d6 d7
  go_wp2_with (go_at_call 41; ((with_reducible refine (obj_nil s _ _ (HV.out.below HB).toR HTs.out).mono ?_); rintro e' wN ⟨rfl, bx⟩; have HB := btr HB HB.size bx; have B4 := B4.below bx B4.lt; have B6 := B6.below bx B6.lt; have B7 := B7.below bx B7.lt; have BA := BA.below bx BA.lt; clear bx; (try clear a0 a1 a2 a3 a4 a5 a6 a7 a8 a9 a10 m0 m1 m2 m3 m4 m5 m6 m7 m8 m9 m10 p0 p1 p2 p3 p4 d0 d1 d2 d3 d4 d5 d6 d7); obtain ⟨a0, a1, a2, a3, a4, a5, a6, a7, a8, a9, a10⟩ := cell11 BA; obtain ⟨m0, m1, m2, m3, m4, m5, m6, m7, m8, m9, m10⟩ := cell11 B7; obtain ⟨p0, p1, p2, p3, p4⟩ := cell5D B6; have d0 := B4.cell_ 0; have d1 := B4.cell_ 1; have d2 := B4.cell_ 2; have d3 := B4.cell_ 3; have d4 := B4.cell_ 4; have d5 := B4.cell_ 5; have d6 := B4.cell_ 6; have d7 := B4.cell_ 7; simp at d0 d1 d2 d3 d4 d5 d6 d7))
  go_loop [27] (fun i => i = .int .i64 0) (fun i => 0)
  case atStart => rfl
  case round =>
    obtain rfl := hrel
    go_upto_region 11 with fail
    replace HB := drew_below HB
    replace B4 := drew_blk B4
    replace B6 := drew_blk B6
    replace B7 := drew_blk B7
    replace BA := drew_blk BA
    (try clear a0 a1 a2 a3 a4 a5 a6 a7 a8 a9 a10 m0 m1 m2 m3 m4 m5 m6 m7 m8 m9 m10 p0 p1 p2 p3 p4 d0 d1 d2 d3 d4 d5 d6 d7); obtain ⟨a0, a1, a2, a3, a4, a5, a6, a7, a8, a9, a10⟩ := cell11 BA; obtain ⟨m0, m1, m2, m3, m4, m5, m6, m7, m8, m9, m10⟩ := cell11 B7; obtain ⟨p0, p1, p2, p3, p4⟩ := cell5D B6; have d0 := B4.cell_ 0; have d1 := B4.cell_ 1; have d2 := B4.cell_ 2; have d3 := B4.cell_ 3; have d4 := B4.cell_ 4; have d5 := B4.cell_ 5; have d6 := B4.cell_ 6; have d7 := B4.cell_ 7; simp at d0 d1 d2 d3 d4 d5 d6 d7
    refine wp_region_noPanic ?_
    refine wp_region_held_drew (S := (fun _ => True)) (by kernel_rfl) ?_ (fun hHeld => ?_)
    · exact trivial
    refine tk 0 ?_; try simp only [Act.put, pz1, pz2, pz3]
    refine tk 2 ?_; try simp only [Act.put, pz1, pz2, pz3]
    refine tk 3 ?_; try simp only [Act.put, pz1, pz2, pz3]
    refine tk 4 ?_; try simp only [Act.put, pz1, pz2, pz3]
    refine wpAnyH_ready (rs := [1, 5]) (by kernel_rfl) (by simp) ?_
    refine (AllReadyH.cons (o := ⟨some 56, .call { callee := .value (.func 9), args := #[.tmp 55], argTypes := #[22] }, 3, "desk.go:236", #[⟨0, .data⟩], none⟩) rfl (fun K hK => ?_) (AllReadyH.cons (o := ⟨some 60, .load 48 (.tmp 59), 48, "desk.go:236", #[⟨4, .data⟩], none⟩) rfl (fun K hK => ?_) AllReadyH.nil))
    · go_simp
      (first | (go_at_call 9; ((with_reducible refine (need_small s _ _ ⟨A1, c1, A2, c2, .map (some gm), (by rw [h00]; exact BA), (by rw [h00]; exact (HV.out.below HB).toR)⟩ (Tabs.next hT0 HB) HF.out HTs.out N HN.out hl).mono ?_); rintro e' wN ⟨rfl, bx⟩; have HB := btr HB HB.size bx; have B4 := B4.below bx B4.lt; have B6 := B6.below bx B6.lt; have B7 := B7.below bx B7.lt; have BA := BA.below bx BA.lt; clear bx; (try clear a0 a1 a2 a3 a4 a5 a6 a7 a8 a9 a10 m0 m1 m2 m3 m4 m5 m6 m7 m8 m9 m10 p0 p1 p2 p3 p4 d0 d1 d2 d3 d4 d5 d6 d7); obtain ⟨a0, a1, a2, a3, a4, a5, a6, a7, a8, a9, a10⟩ := cell11 BA; obtain ⟨m0, m1, m2, m3, m4, m5, m6, m7, m8, m9, m10⟩ := cell11 B7; obtain ⟨p0, p1, p2, p3, p4⟩ := cell5D B6; have d0 := B4.cell_ 0; have d1 := B4.cell_ 1; have d2 := B4.cell_ 2; have d3 := B4.cell_ 3; have d4 := B4.cell_ 4; have d5 := B4.cell_ 5; have d6 := B4.cell_ 6; have d7 := B4.cell_ 7; simp at d0 d1 d2 d3 d4 d5 d6 d7)) | (go_at_call 48; ((with_reducible refine (lgs _).mono ?_); rintro e' wN ⟨rfl, bx⟩; have HB := btr HB HB.size bx; have B4 := B4.below bx B4.lt; have B6 := B6.below bx B6.lt; have B7 := B7.below bx B7.lt; have BA := BA.below bx BA.lt; clear bx; (try clear a0 a1 a2 a3 a4 a5 a6 a7 a8 a9 a10 m0 m1 m2 m3 m4 m5 m6 m7 m8 m9 m10 p0 p1 p2 p3 p4 d0 d1 d2 d3 d4 d5 d6 d7); obtain ⟨a0, a1, a2, a3, a4, a5, a6, a7, a8, a9, a10⟩ := cell11 BA; obtain ⟨m0, m1, m2, m3, m4, m5, m6, m7, m8, m9, m10⟩ := cell11 B7; obtain ⟨p0, p1, p2, p3, p4⟩ := cell5D B6; have d0 := B4.cell_ 0; have d1 := B4.cell_ 1; have d2 := B4.cell_ 2; have d3 := B4.cell_ 3; have d4 := B4.cell_ 4; have d5 := B4.cell_ 5; have d6 := B4.cell_ 6; have d7 := B4.cell_ 7; simp at d0 d1 d2 d3 d4 d5 d6 d7)))
      go_wp2_with fail
      refine hK.out _ _ ?_ (fun hNew => ?_)
      · exact trivial
      clear hK K hHeld
      have hHeld := hNew
      clear hNew
      try simp only [Act.put, pz1, pz2, pz3]
      refine wpAnyH_ready (rs := [5]) (by kernel_rfl) (by simp) ?_
      refine AllReadyH.cons (o := ⟨some 60, .load 48 (.tmp 59), 48, "desk.go:236", #[⟨4, .data⟩], none⟩) rfl (fun K hK => ?_) AllReadyH.nil
      go_simp
      refine hK.out _ _ ?_ (fun hNew => ?_)
      · exact trivial
      clear hK K hHeld
      have hHeld := hNew
      clear hNew
      try simp only [Act.put, pz1, pz2, pz3]
      refine wpAnyH_ready (rs := [6]) (by kernel_rfl) (by simp) ?_
      refine AllReadyH.cons (o := ⟨some 61, .call { callee := .value (.func 48), args := #[.tmp 60], argTypes := #[48] }, 3, "desk.go:236", #[⟨5, .data⟩, ⟨1, .chain⟩], none⟩) rfl (fun K hK => ?_) AllReadyH.nil
      go_simp
      (go_at_call 48; ((with_reducible refine (lgs _).mono ?_); rintro e' wN ⟨rfl, bx⟩; have HB := btr HB HB.size bx; have B4 := B4.below bx B4.lt; have B6 := B6.below bx B6.lt; have B7 := B7.below bx B7.lt; have BA := BA.below bx BA.lt; clear bx; (try clear a0 a1 a2 a3 a4 a5 a6 a7 a8 a9 a10 m0 m1 m2 m3 m4 m5 m6 m7 m8 m9 m10 p0 p1 p2 p3 p4 d0 d1 d2 d3 d4 d5 d6 d7); obtain ⟨a0, a1, a2, a3, a4, a5, a6, a7, a8, a9, a10⟩ := cell11 BA; obtain ⟨m0, m1, m2, m3, m4, m5, m6, m7, m8, m9, m10⟩ := cell11 B7; obtain ⟨p0, p1, p2, p3, p4⟩ := cell5D B6; have d0 := B4.cell_ 0; have d1 := B4.cell_ 1; have d2 := B4.cell_ 2; have d3 := B4.cell_ 3; have d4 := B4.cell_ 4; have d5 := B4.cell_ 5; have d6 := B4.cell_ 6; have d7 := B4.cell_ 7; simp at d0 d1 d2 d3 d4 d5 d6 d7))
      go_wp2_with fail
      refine hK.out _ _ ?_ (fun hNew => ?_)
      · exact trivial
      clear hK K hHeld
      have hHeld := hNew
      clear hNew
      try simp only [Act.put, pz1, pz2, pz3]
      refine tk 7 ?_; try simp only [Act.put, pz1, pz2, pz3]
      refine wpAnyH_done (by kernel_rfl) ?_ _
      refine NoPanic.normal ?_
      clear hHeld
      have f0 := B7.free 0; have f1 := B7.free 1; have f2 := B7.free 2; have f3 := B7.free 3; have f4 := B7.free 4; have f5 := B7.free 5; have f6 := B7.free 6; have f7 := B7.free 7; have f8 := B7.free 8; have f9 := B7.free 9; have f10 := B7.free 10; have e0 := B6.free 0; have e1 := B6.free 1; have e2 := B6.free 2; have e3 := B6.free 3; have e4 := B6.free 4
      go_wp2_with fail
      change bodyPost _ _ _ _ _ (st5 ((((((((((((wN).setCell ⟨gd, 0, none⟩ (.int .i64 8)).setCell ⟨gd, 1, none⟩ (.int .i64 4)).setCell ⟨gd, 2, none⟩ (.int .i64 32)).setCell ⟨gd, 3, none⟩ (.int .i64 0)).setCell ⟨gd, 4, none⟩ (.int .i64 2)).setCell ⟨gd, 5, none⟩ (.int .i64 s.nb)).setCell ⟨gd, 6, none⟩ (.int .i64 s.nn)).setCell ⟨gd, 7, none⟩ (.int .i64 s.ns)).setCell ⟨gd, 8, none⟩ (.slice A1 s.bs.length c1)).setCell ⟨gd, 9, none⟩ (.slice A2 0 c2)).setCell ⟨gd, 10, none⟩ (.map (some gm))) (w.heap.size + 1) 0 (.int .i64 0) (.int .i64 nn) (.slice none 0 0) (.slice none 0 0) (.slice none 0 0))
      have hgr : wN.grownBy ((((((((((((wN).setCell ⟨gd, 0, none⟩ (.int .i64 8)).setCell ⟨gd, 1, none⟩ (.int .i64 4)).setCell ⟨gd, 2, none⟩ (.int .i64 32)).setCell ⟨gd, 3, none⟩ (.int .i64 0)).setCell ⟨gd, 4, none⟩ (.int .i64 2)).setCell ⟨gd, 5, none⟩ (.int .i64 s.nb)).setCell ⟨gd, 6, none⟩ (.int .i64 s.nn)).setCell ⟨gd, 7, none⟩ (.int .i64 s.ns)).setCell ⟨gd, 8, none⟩ (.slice A1 s.bs.length c1)).setCell ⟨gd, 9, none⟩ (.slice A2 0 c2)).setCell ⟨gd, 10, none⟩ (.map (some gm))) (some gd) := grown_set (grown_set (grown_set (grown_set (grown_set (grown_set (grown_set (grown_set (grown_set (grown_set (set1_grown wN gd 0 (.int .i64 8)) _ _) _ _) _ _) _ _) _ _) _ _) _ _) _ _) _ _) _ _
      have BG := (((((((((((B7).set_ 0 (.int .i64 8)).set_ 1 (.int .i64 4)).set_ 2 (.int .i64 32)).set_ 3 (.int .i64 0)).set_ 4 (.int .i64 2)).set_ 5 (.int .i64 s.nb)).set_ 6 (.int .i64 s.nn)).set_ 7 (.int .i64 s.ns)).set_ 8 (.slice A1 s.bs.length c1)).set_ 9 (.slice A2 0 c2)).set_ 10 (.map (some gm))
      simp only [List.setIfInBounds_toArray, List.set_cons_zero, List.set_cons_succ] at BG
      obtain ⟨wz, hwz⟩ : ∃ V : World, V = (((((((((((wN).setCell ⟨gd, 0, none⟩ (.int .i64 8)).setCell ⟨gd, 1, none⟩ (.int .i64 4)).setCell ⟨gd, 2, none⟩ (.int .i64 32)).setCell ⟨gd, 3, none⟩ (.int .i64 0)).setCell ⟨gd, 4, none⟩ (.int .i64 2)).setCell ⟨gd, 5, none⟩ (.int .i64 s.nb)).setCell ⟨gd, 6, none⟩ (.int .i64 s.nn)).setCell ⟨gd, 7, none⟩ (.int .i64 s.ns)).setCell ⟨gd, 8, none⟩ (.slice A1 s.bs.length c1)).setCell ⟨gd, 9, none⟩ (.slice A2 0 c2)).setCell ⟨gd, 10, none⟩ (.map (some gm)) := ⟨_, rfl⟩
      rw [← hwz] at hgr BG ⊢
      have B6z := B6.grownR hgr (fun e => by injection e; omega)
      have B2u := B6z.st5_ (.int .i64 0) (.int .i64 nn) (.slice none 0 0) (.slice none 0 0) (.slice none 0 0)
      have hg2 := st5_grown wz (w.heap.size + 1) 0 (.int .i64 0) (.int .i64 nn) (.slice none 0 0) (.slice none 0 0) (.slice none 0 0)
      have hG := gtr2D (gtrD (grownD (some gd) HB) hgr) hg2 (fun k e => by cases e; omega)
      have BG2 := BG.grownR hg2 (fun e => by injection e; omega)
      generalize st5 wz (w.heap.size + 1) 0 (.int .i64 0) (.int .i64 nn) (.slice none 0 0) (.slice none 0 0) (.slice none 0 0) = Wd at B2u hg2 hG BG2 ⊢
      apply bodyPost_ret (v := .agg #[.int .i64 0, .int .i64 nn, .slice none 0 0, .slice none 0 0, .slice none 0 0])
      · exact results_cell_row Tryz.results36 _ Wd (w.heap.size + 1) 32 _ (0, 0) _ rfl B2u Tryz.underlying32 rfl (by kernel_rfl)
      · rfl
      · exact ⟨rfl, ⟨A1, c1, A2, c2, .map (some gm), (by rw [h00]; exact BG2), (by rw [h00]; exact HV.out.farD hG hlt)⟩, hG⟩
    · go_simp
      refine hK.out _ _ ?_ (fun hNew => ?_)
      · exact trivial
      clear hK K hHeld
      have hHeld := hNew
      clear hNew
      try simp only [Act.put, pz1, pz2, pz3]
      refine wpAnyH_ready (rs := [1]) (by kernel_rfl) (by simp) ?_
      refine AllReadyH.cons (o := ⟨some 56, .call { callee := .value (.func 9), args := #[.tmp 55], argTypes := #[22] }, 3, "desk.go:236", #[⟨0, .data⟩], none⟩) rfl (fun K hK => ?_) AllReadyH.nil
      go_simp
      (go_at_call 9; ((with_reducible refine (need_small s _ _ ⟨A1, c1, A2, c2, .map (some gm), (by rw [h00]; exact BA), (by rw [h00]; exact (HV.out.below HB).toR)⟩ (Tabs.next hT0 HB) HF.out HTs.out N HN.out hl).mono ?_); rintro e' wN ⟨rfl, bx⟩; have HB := btr HB HB.size bx; have B4 := B4.below bx B4.lt; have B6 := B6.below bx B6.lt; have B7 := B7.below bx B7.lt; have BA := BA.below bx BA.lt; clear bx; (try clear a0 a1 a2 a3 a4 a5 a6 a7 a8 a9 a10 m0 m1 m2 m3 m4 m5 m6 m7 m8 m9 m10 p0 p1 p2 p3 p4 d0 d1 d2 d3 d4 d5 d6 d7); obtain ⟨a0, a1, a2, a3, a4, a5, a6, a7, a8, a9, a10⟩ := cell11 BA; obtain ⟨m0, m1, m2, m3, m4, m5, m6, m7, m8, m9, m10⟩ := cell11 B7; obtain ⟨p0, p1, p2, p3, p4⟩ := cell5D B6; have d0 := B4.cell_ 0; have d1 := B4.cell_ 1; have d2 := B4.cell_ 2; have d3 := B4.cell_ 3; have d4 := B4.cell_ 4; have d5 := B4.cell_ 5; have d6 := B4.cell_ 6; have d7 := B4.cell_ 7; simp at d0 d1 d2 d3 d4 d5 d6 d7))
      go_wp2_with fail
      refine hK.out _ _ ?_ (fun hNew => ?_)
      · exact trivial
      clear hK K hHeld
      have hHeld := hNew
      clear hNew
      try simp only [Act.put, pz1, pz2, pz3]
      refine wpAnyH_ready (rs := [6]) (by kernel_rfl) (by simp) ?_
      refine AllReadyH.cons (o := ⟨some 61, .call { callee := .value (.func 48), args := #[.tmp 60], argTypes := #[48] }, 3, "desk.go:236", #[⟨5, .data⟩, ⟨1, .chain⟩], none⟩) rfl (fun K hK => ?_) AllReadyH.nil
      go_simp
      (go_at_call 48; ((with_reducible refine (lgs _).mono ?_); rintro e' wN ⟨rfl, bx⟩; have HB := btr HB HB.size bx; have B4 := B4.below bx B4.lt; have B6 := B6.below bx B6.lt; have B7 := B7.below bx B7.lt; have BA := BA.below bx BA.lt; clear bx; (try clear a0 a1 a2 a3 a4 a5 a6 a7 a8 a9 a10 m0 m1 m2 m3 m4 m5 m6 m7 m8 m9 m10 p0 p1 p2 p3 p4 d0 d1 d2 d3 d4 d5 d6 d7); obtain ⟨a0, a1, a2, a3, a4, a5, a6, a7, a8, a9, a10⟩ := cell11 BA; obtain ⟨m0, m1, m2, m3, m4, m5, m6, m7, m8, m9, m10⟩ := cell11 B7; obtain ⟨p0, p1, p2, p3, p4⟩ := cell5D B6; have d0 := B4.cell_ 0; have d1 := B4.cell_ 1; have d2 := B4.cell_ 2; have d3 := B4.cell_ 3; have d4 := B4.cell_ 4; have d5 := B4.cell_ 5; have d6 := B4.cell_ 6; have d7 := B4.cell_ 7; simp at d0 d1 d2 d3 d4 d5 d6 d7))
      go_wp2_with fail
      refine hK.out _ _ ?_ (fun hNew => ?_)
      · exact trivial
      clear hK K hHeld
      have hHeld := hNew
      clear hNew
      try simp only [Act.put, pz1, pz2, pz3]
      refine tk 7 ?_; try simp only [Act.put, pz1, pz2, pz3]
      refine wpAnyH_done (by kernel_rfl) ?_ _
      refine NoPanic.normal ?_
      clear hHeld
      have f0 := B7.free 0; have f1 := B7.free 1; have f2 := B7.free 2; have f3 := B7.free 3; have f4 := B7.free 4; have f5 := B7.free 5; have f6 := B7.free 6; have f7 := B7.free 7; have f8 := B7.free 8; have f9 := B7.free 9; have f10 := B7.free 10; have e0 := B6.free 0; have e1 := B6.free 1; have e2 := B6.free 2; have e3 := B6.free 3; have e4 := B6.free 4
      go_wp2_with fail
      change bodyPost _ _ _ _ _ (st5 ((((((((((((wN).setCell ⟨gd, 0, none⟩ (.int .i64 8)).setCell ⟨gd, 1, none⟩ (.int .i64 4)).setCell ⟨gd, 2, none⟩ (.int .i64 32)).setCell ⟨gd, 3, none⟩ (.int .i64 0)).setCell ⟨gd, 4, none⟩ (.int .i64 2)).setCell ⟨gd, 5, none⟩ (.int .i64 s.nb)).setCell ⟨gd, 6, none⟩ (.int .i64 s.nn)).setCell ⟨gd, 7, none⟩ (.int .i64 s.ns)).setCell ⟨gd, 8, none⟩ (.slice A1 s.bs.length c1)).setCell ⟨gd, 9, none⟩ (.slice A2 0 c2)).setCell ⟨gd, 10, none⟩ (.map (some gm))) (w.heap.size + 1) 0 (.int .i64 0) (.int .i64 nn) (.slice none 0 0) (.slice none 0 0) (.slice none 0 0))
      have hgr : wN.grownBy ((((((((((((wN).setCell ⟨gd, 0, none⟩ (.int .i64 8)).setCell ⟨gd, 1, none⟩ (.int .i64 4)).setCell ⟨gd, 2, none⟩ (.int .i64 32)).setCell ⟨gd, 3, none⟩ (.int .i64 0)).setCell ⟨gd, 4, none⟩ (.int .i64 2)).setCell ⟨gd, 5, none⟩ (.int .i64 s.nb)).setCell ⟨gd, 6, none⟩ (.int .i64 s.nn)).setCell ⟨gd, 7, none⟩ (.int .i64 s.ns)).setCell ⟨gd, 8, none⟩ (.slice A1 s.bs.length c1)).setCell ⟨gd, 9, none⟩ (.slice A2 0 c2)).setCell ⟨gd, 10, none⟩ (.map (some gm))) (some gd) := grown_set (grown_set (grown_set (grown_set (grown_set (grown_set (grown_set (grown_set (grown_set (grown_set (set1_grown wN gd 0 (.int .i64 8)) _ _) _ _) _ _) _ _) _ _) _ _) _ _) _ _) _ _) _ _
      have BG := (((((((((((B7).set_ 0 (.int .i64 8)).set_ 1 (.int .i64 4)).set_ 2 (.int .i64 32)).set_ 3 (.int .i64 0)).set_ 4 (.int .i64 2)).set_ 5 (.int .i64 s.nb)).set_ 6 (.int .i64 s.nn)).set_ 7 (.int .i64 s.ns)).set_ 8 (.slice A1 s.bs.length c1)).set_ 9 (.slice A2 0 c2)).set_ 10 (.map (some gm))
      simp only [List.setIfInBounds_toArray, List.set_cons_zero, List.set_cons_succ] at BG
      obtain ⟨wz, hwz⟩ : ∃ V : World, V = (((((((((((wN).setCell ⟨gd, 0, none⟩ (.int .i64 8)).setCell ⟨gd, 1, none⟩ (.int .i64 4)).setCell ⟨gd, 2, none⟩ (.int .i64 32)).setCell ⟨gd, 3, none⟩ (.int .i64 0)).setCell ⟨gd, 4, none⟩ (.int .i64 2)).setCell ⟨gd, 5, none⟩ (.int .i64 s.nb)).setCell ⟨gd, 6, none⟩ (.int .i64 s.nn)).setCell ⟨gd, 7, none⟩ (.int .i64 s.ns)).setCell ⟨gd, 8, none⟩ (.slice A1 s.bs.length c1)).setCell ⟨gd, 9, none⟩ (.slice A2 0 c2)).setCell ⟨gd, 10, none⟩ (.map (some gm)) := ⟨_, rfl⟩
      rw [← hwz] at hgr BG ⊢
      have B6z := B6.grownR hgr (fun e => by injection e; omega)
      have B2u := B6z.st5_ (.int .i64 0) (.int .i64 nn) (.slice none 0 0) (.slice none 0 0) (.slice none 0 0)
      have hg2 := st5_grown wz (w.heap.size + 1) 0 (.int .i64 0) (.int .i64 nn) (.slice none 0 0) (.slice none 0 0) (.slice none 0 0)
      have hG := gtr2D (gtrD (grownD (some gd) HB) hgr) hg2 (fun k e => by cases e; omega)
      have BG2 := BG.grownR hg2 (fun e => by injection e; omega)
      generalize st5 wz (w.heap.size + 1) 0 (.int .i64 0) (.int .i64 nn) (.slice none 0 0) (.slice none 0 0) (.slice none 0 0) = Wd at B2u hg2 hG BG2 ⊢
      apply bodyPost_ret (v := .agg #[.int .i64 0, .int .i64 nn, .slice none 0 0, .slice none 0 0, .slice none 0 0])
      · exact results_cell_row Tryz.results36 _ Wd (w.heap.size + 1) 32 _ (0, 0) _ rfl B2u Tryz.underlying32 rfl (by kernel_rfl)
      · rfl
      · exact ⟨rfl, ⟨A1, c1, A2, c2, .map (some gm), (by rw [h00]; exact BG2), (by rw [h00]; exact HV.out.farD hG hlt)⟩, hG⟩
theorem DeskW.farW {w w' : World} {gd base g : Nat} {s : Sf} (h : DeskW w gd base s) (hg : w.grownBy w' (some g)) (hlt : g < base) (hne : g ≠ gd) : DeskW w' gd base s := by
  obtain ⟨Ab, cb, An, cn, vm, h1, h2⟩ := h.ex
  exact ⟨Ab, cb, An, cn, vm, h1.grownR hg (fun e => by injection e; omega), h2.farD hg hlt⟩
end Go.Proofs.YtnpinkbbkhllaaaGreatDoor
namespace Go.Proofs.YtnpinkbbkhllaaaGreatDoor
open Go.ChangeShapes Go.WideShapes Go.ChangeAt Go.RowKit
attribute [local go_sem ↓] Go.wp_at_zero Go.wp_at_succ
def nmA : ByteArray := ⟨#[97]⟩
def sfA : Sf := ⟨2, 1, 1, [⟨1, ⟨#[97]⟩⟩], []⟩
theorem mkA : makeS sfE1 ⟨#[97]⟩ = sfA := rfl
theorem mcA : makeC sfE1 ⟨#[97]⟩ = 0 := by decide +kernel
theorem mcB : makeC sfA ⟨#[97]⟩ = 7 := by decide +kernel
theorem mfA : MayF sfA := mayF_of (by decide +kernel)
theorem msA : mayS sfA = true := by decide +kernel
theorem szA : (shL sfA).length = 16 := by decide +kernel
theorem cell6 {w : World} {g : Nat} {t : TypeId} {a b c d e f : Value} (h : Blk w g t #[a, b, c, d, e, f]) : w.cell? ⟨g, 0, none⟩ = some a ∧ w.cell? ⟨g, 1, none⟩ = some b ∧ w.cell? ⟨g, 2, none⟩ = some c ∧ w.cell? ⟨g, 3, none⟩ = some d ∧ w.cell? ⟨g, 4, none⟩ = some e ∧ w.cell? ⟨g, 5, none⟩ = some f := by
  have h0 := h.cell_ 0
  have h1 := h.cell_ 1
  have h2 := h.cell_ 2
  have h3 := h.cell_ 3
  have h4 := h.cell_ 4
  have h5 := h.cell_ 5
  simp at h0 h1 h2 h3 h4 h5
  exact ⟨h0, h1, h2, h3, h4, h5⟩
theorem do_nil (x : Int) (zc : Value) (w : World) : Calls Tryz.prog 6 #[.pointer none, .agg #[.int .i64 x, .int .i64 0, .int .i64 0, .string ⟨#[]⟩, zc, .slice none 0 0]] w fun e' w' => e' = .returned (.agg #[.int .i64 1, .int .i64 0, .slice none 0 0, .slice none 0 0, .slice none 0 0]) ∧ Below w.heap.size w w' := by
  go_enter Tryz.func6, Tryz.ntmps6
  go_wp2_with fail
  change bodyPost _ _ _ _ _ (((w.alloc (.cells #[.int .i64 x, .int .i64 0, .int .i64 0, .string ⟨#[]⟩, zc, .slice none 0 0] 36)).alloc (.cells #[.int .i64 1, .int .i64 0, .slice none 0 0, .slice none 0 0, .slice none 0 0] 32)).alloc (.cells #[.int .i64 0, .int .i64 0, .int .i64 0, .slice none 0 0, .slice none 0 0, .int .i64 0, .slice none 0 0, .int .i64 0] 60))
  have B2u : Blk (((w.alloc (.cells #[.int .i64 x, .int .i64 0, .int .i64 0, .string ⟨#[]⟩, zc, .slice none 0 0] 36)).alloc (.cells #[.int .i64 1, .int .i64 0, .slice none 0 0, .slice none 0 0, .slice none 0 0] 32)).alloc (.cells #[.int .i64 0, .int .i64 0, .int .i64 0, .slice none 0 0, .slice none 0 0, .int .i64 0, .slice none 0 0, .int .i64 0] 60)) (w.heap.size + 1) 32 #[.int .i64 1, .int .i64 0, .slice none 0 0, .slice none 0 0, .slice none 0 0] := by
    have := (Blk.new_ (w.alloc (.cells #[.int .i64 x, .int .i64 0, .int .i64 0, .string ⟨#[]⟩, zc, .slice none 0 0] 36)) 32 #[.int .i64 1, .int .i64 0, .slice none 0 0, .slice none 0 0, .slice none 0 0]).alloc_ (.cells #[.int .i64 0, .int .i64 0, .int .i64 0, .slice none 0 0, .slice none 0 0, .int .i64 0, .slice none 0 0, .int .i64 0] 60)
    simpa using this
  have hb2 : Below w.heap.size w (((w.alloc (.cells #[.int .i64 x, .int .i64 0, .int .i64 0, .string ⟨#[]⟩, zc, .slice none 0 0] 36)).alloc (.cells #[.int .i64 1, .int .i64 0, .slice none 0 0, .slice none 0 0, .slice none 0 0] 32)).alloc (.cells #[.int .i64 0, .int .i64 0, .int .i64 0, .slice none 0 0, .slice none 0 0, .int .i64 0, .slice none 0 0, .int .i64 0] 60)) := (((Below.refl _ w).alloc (Nat.le_refl _) _).alloc (by simp) _).alloc (by simp; omega) _
  generalize (((w.alloc (.cells #[.int .i64 x, .int .i64 0, .int .i64 0, .string ⟨#[]⟩, zc, .slice none 0 0] 36)).alloc (.cells #[.int .i64 1, .int .i64 0, .slice none 0 0, .slice none 0 0, .slice none 0 0] 32)).alloc (.cells #[.int .i64 0, .int .i64 0, .int .i64 0, .slice none 0 0, .slice none 0 0, .int .i64 0, .slice none 0 0, .int .i64 0] 60)) = Wd at B2u hb2 ⊢
  apply bodyPost_ret (v := .agg #[.int .i64 1, .int .i64 0, .slice none 0 0, .slice none 0 0, .slice none 0 0])
  · exact results_cell_row Tryz.results6 _ Wd (w.heap.size + 1) 32 _ (0, 0) _ rfl B2u Tryz.underlying32 rfl (by kernel_rfl)
  · rfl
  · exact ⟨rfl, hb2⟩
theorem do_book1 (gd : Nat) (zc : Value) (w : World) (hD : DeskI w gd sfE1) (hT : Tabs w) :
    Calls Tryz.prog 6 #[.pointer (some ⟨gd, 0, none⟩), .agg #[.int .i64 1, .int .i64 0, .int .i64 0, .string ⟨#[97]⟩, zc, .slice none 0 0]] w fun e' w' => e' = .returned (.agg #[.int .i64 0, .int .i64 1, .slice none 0 0, .slice none 0 0, .slice none 0 0]) ∧ DeskI w' gd sfA ∧ w.grownBy w' (some gd) := by
  obtain ⟨Ab, cb, An, cn, vm, B7, hS⟩ := hD.ex
  have hgd := B7.lt
  have hD0 := hD
  have hS0 := hS
  have hT0 := hT
  have HB : Below w.heap.size w (((w.alloc (.cells #[.int .i64 1, .int .i64 0, .int .i64 0, .string ⟨#[97]⟩, zc, .slice none 0 0] 36)).alloc (.cells #[.int .i64 0, .int .i64 0, .slice none 0 0, .slice none 0 0, .slice none 0 0] 32)).alloc (.cells #[.int .i64 0, .int .i64 0, .int .i64 0, .slice none 0 0, .slice none 0 0, .int .i64 0, .slice none 0 0, .int .i64 0] 60)) := (((Below.refl _ w).alloc (Nat.le_refl _) _).alloc (by simp) _).alloc (by simp; omega) _
  have B3 : Blk (((w.alloc (.cells #[.int .i64 1, .int .i64 0, .int .i64 0, .string ⟨#[97]⟩, zc, .slice none 0 0] 36)).alloc (.cells #[.int .i64 0, .int .i64 0, .slice none 0 0, .slice none 0 0, .slice none 0 0] 32)).alloc (.cells #[.int .i64 0, .int .i64 0, .int .i64 0, .slice none 0 0, .slice none 0 0, .int .i64 0, .slice none 0 0, .int .i64 0] 60)) w.heap.size 36 #[.int .i64 1, .int .i64 0, .int .i64 0, .string ⟨#[97]⟩, zc, .slice none 0 0] := ((Blk.new_ w 36 #[.int .i64 1, .int .i64 0, .int .i64 0, .string ⟨#[97]⟩, zc, .slice none 0 0]).alloc_ _).alloc_ _
  have B4 : Blk (((w.alloc (.cells #[.int .i64 1, .int .i64 0, .int .i64 0, .string ⟨#[97]⟩, zc, .slice none 0 0] 36)).alloc (.cells #[.int .i64 0, .int .i64 0, .slice none 0 0, .slice none 0 0, .slice none 0 0] 32)).alloc (.cells #[.int .i64 0, .int .i64 0, .int .i64 0, .slice none 0 0, .slice none 0 0, .int .i64 0, .slice none 0 0, .int .i64 0] 60)) (w.heap.size + 1) 32 #[.int .i64 0, .int .i64 0, .slice none 0 0, .slice none 0 0, .slice none 0 0] := by
    have := (Blk.new_ (w.alloc (.cells #[.int .i64 1, .int .i64 0, .int .i64 0, .string ⟨#[97]⟩, zc, .slice none 0 0] 36)) 32 #[.int .i64 0, .int .i64 0, .slice none 0 0, .slice none 0 0, .slice none 0 0]).alloc_ (.cells #[.int .i64 0, .int .i64 0, .int .i64 0, .slice none 0 0, .slice none 0 0, .int .i64 0, .slice none 0 0, .int .i64 0] 60)
    simpa using this
  have B5 : Blk (((w.alloc (.cells #[.int .i64 1, .int .i64 0, .int .i64 0, .string ⟨#[97]⟩, zc, .slice none 0 0] 36)).alloc (.cells #[.int .i64 0, .int .i64 0, .slice none 0 0, .slice none 0 0, .slice none 0 0] 32)).alloc (.cells #[.int .i64 0, .int .i64 0, .int .i64 0, .slice none 0 0, .slice none 0 0, .int .i64 0, .slice none 0 0, .int .i64 0] 60)) (w.heap.size + 2) 60 #[.int .i64 0, .int .i64 0, .int .i64 0, .slice none 0 0, .slice none 0 0, .int .i64 0, .slice none 0 0, .int .i64 0] := by
    have := Blk.new_ ((w.alloc (.cells #[.int .i64 1, .int .i64 0, .int .i64 0, .string ⟨#[97]⟩, zc, .slice none 0 0] 36)).alloc (.cells #[.int .i64 0, .int .i64 0, .slice none 0 0, .slice none 0 0, .slice none 0 0] 32)) 60 #[.int .i64 0, .int .i64 0, .int .i64 0, .slice none 0 0, .slice none 0 0, .int .i64 0, .slice none 0 0, .int .i64 0]
    simpa using this
  replace B7 := B7.below HB hgd
  clear hD hS hT
  (try clear k0 k1 k2 k3 k4 k5 p0 p1 p2 p3 p4 e0 e1 e2 e3 e4 d0 d1 d2 d3 d4 d5 d6 d7 z0 z1 z2 z3 z4 z5 z6 z7 m0 m1 m2 m3 m4 m5 m6 m7 m8 m9 m10); obtain ⟨k0, k1, k2, k3, k4, k5⟩ := cell6 B3; obtain ⟨p0, p1, p2, p3, p4⟩ := cell5D B4; have e0 := B4.free 0; have e1 := B4.free 1; have e2 := B4.free 2; have e3 := B4.free 3; have e4 := B4.free 4; have d0 := B5.cell_ 0; have d1 := B5.cell_ 1; have d2 := B5.cell_ 2; have d3 := B5.cell_ 3; have d4 := B5.cell_ 4; have d5 := B5.cell_ 5; have d6 := B5.cell_ 6; have d7 := B5.cell_ 7; simp at d0 d1 d2 d3 d4 d5 d6 d7; have z0 := B5.free 0; have z1 := B5.free 1; have z2 := B5.free 2; have z3 := B5.free 3; have z4 := B5.free 4; have z5 := B5.free 5; have z6 := B5.free 6; have z7 := B5.free 7; obtain ⟨m0, m1, m2, m3, m4, m5, m6, m7, m8, m9, m10⟩ := cell11 B7
  go_enter Tryz.func6, Tryz.ntmps6
  go_upto_region 8 with fail
  replace HB := drew_below HB
  replace B3 := drew_blk B3
  replace B4 := drew_blk B4
  replace B5 := drew_blk B5
  replace B7 := drew_blk B7
  (try clear k0 k1 k2 k3 k4 k5 p0 p1 p2 p3 p4 e0 e1 e2 e3 e4 d0 d1 d2 d3 d4 d5 d6 d7 z0 z1 z2 z3 z4 z5 z6 z7 m0 m1 m2 m3 m4 m5 m6 m7 m8 m9 m10); obtain ⟨k0, k1, k2, k3, k4, k5⟩ := cell6 B3; obtain ⟨p0, p1, p2, p3, p4⟩ := cell5D B4; have e0 := B4.free 0; have e1 := B4.free 1; have e2 := B4.free 2; have e3 := B4.free 3; have e4 := B4.free 4; have d0 := B5.cell_ 0; have d1 := B5.cell_ 1; have d2 := B5.cell_ 2; have d3 := B5.cell_ 3; have d4 := B5.cell_ 4; have d5 := B5.cell_ 5; have d6 := B5.cell_ 6; have d7 := B5.cell_ 7; simp at d0 d1 d2 d3 d4 d5 d6 d7; have z0 := B5.free 0; have z1 := B5.free 1; have z2 := B5.free 2; have z3 := B5.free 3; have z4 := B5.free 4; have z5 := B5.free 5; have z6 := B5.free 6; have z7 := B5.free 7; obtain ⟨m0, m1, m2, m3, m4, m5, m6, m7, m8, m9, m10⟩ := cell11 B7
  refine wp_region_noPanic ?_
  refine wp_region_held_drew (S := (fun _ => True)) (by kernel_rfl) ?_ (fun hHeld => ?_)
  · exact trivial
  refine tk 0 ?_; try simp only [Act.put, pz1, pz2, pz3]
  refine tk 1 ?_; try simp only [Act.put, pz1, pz2, pz3]
  refine tk 2 ?_; try simp only [Act.put, pz1, pz2, pz3]
  refine tk 4 ?_; try simp only [Act.put, pz1, pz2, pz3]
  refine wpAnyH_ready (rs := [3, 5]) (by kernel_rfl) (by simp) ?_
  refine (AllReadyH.cons (o := ⟨some 21, .load 41 (.tmp 20), 41, "desk.go:148", #[⟨2, .data⟩], none⟩) rfl (fun K hK => ?_) (AllReadyH.cons (o := ⟨some 23, .load 9 (.tmp 22), 9, "desk.go:148", #[⟨4, .data⟩], none⟩) rfl (fun K hK => ?_) AllReadyH.nil))
  · go_simp
    refine hK.out _ _ ?_ (fun hNew => ?_)
    · exact trivial
    clear hK K hHeld
    have hHeld := hNew
    clear hNew
    try simp only [Act.put, pz1, pz2, pz3]
    refine wpAnyH_ready (rs := [5]) (by kernel_rfl) (by simp) ?_
    refine AllReadyH.cons (o := ⟨some 23, .load 9 (.tmp 22), 9, "desk.go:148", #[⟨4, .data⟩], none⟩) rfl (fun K hK => ?_) AllReadyH.nil
    go_simp
    refine hK.out _ _ ?_ (fun hNew => ?_)
    · exact trivial
    clear hK K hHeld
    have hHeld := hNew
    clear hNew
    try simp only [Act.put, pz1, pz2, pz3]
    refine wpAnyH_ready (rs := [6]) (by kernel_rfl) (by simp) ?_
    refine AllReadyH.cons (o := ⟨some 24, .call { callee := .value (.func 19), args := #[.tmp 21, .tmp 23], argTypes := #[41, 9] }, 61, "desk.go:148", #[⟨3, .data⟩, ⟨5, .data⟩], none⟩) rfl (fun K hK => ?_) AllReadyH.nil
    go_simp
    (go_at_call 19; ((with_reducible refine (make_yes sfE1 _ ⟨#[97]⟩ _ ((hS0.below HB).mono HB.size) (Tabs.next hT0 HB) mcA).mono ?_); rintro e' wN ⟨v', rfl, hV, bx⟩; rw [mkA] at hV; have hV2 := hV; obtain ⟨A1, c1, A2, c2, hv, -⟩ := hV.parts; have hv2 : v' = .agg #[.int .i64 2, .int .i64 1, .int .i64 1, .slice A1 1 c1, .slice A2 0 c2] := hv; subst hv2; clear hV hv; have hV3 : ∃ base : Nat, w.heap.size + 2 < base ∧ ShW wN base (.agg #[.int .i64 2, .int .i64 1, .int .i64 1, .slice A1 1 c1, .slice A2 0 c2]) sfA := ⟨_, B5.lt, hV2⟩; clear hV2; have HB := btr HB HB.size bx; have B3 := B3.below bx B3.lt; have B4 := B4.below bx B4.lt; have B5 := B5.below bx B5.lt; have B7 := B7.below bx B7.lt; clear bx; (try clear k0 k1 k2 k3 k4 k5 p0 p1 p2 p3 p4 e0 e1 e2 e3 e4 d0 d1 d2 d3 d4 d5 d6 d7 z0 z1 z2 z3 z4 z5 z6 z7 m0 m1 m2 m3 m4 m5 m6 m7 m8 m9 m10); obtain ⟨k0, k1, k2, k3, k4, k5⟩ := cell6 B3; obtain ⟨p0, p1, p2, p3, p4⟩ := cell5D B4; have e0 := B4.free 0; have e1 := B4.free 1; have e2 := B4.free 2; have e3 := B4.free 3; have e4 := B4.free 4; have d0 := B5.cell_ 0; have d1 := B5.cell_ 1; have d2 := B5.cell_ 2; have d3 := B5.cell_ 3; have d4 := B5.cell_ 4; have d5 := B5.cell_ 5; have d6 := B5.cell_ 6; have d7 := B5.cell_ 7; simp at d0 d1 d2 d3 d4 d5 d6 d7; have z0 := B5.free 0; have z1 := B5.free 1; have z2 := B5.free 2; have z3 := B5.free 3; have z4 := B5.free 4; have z5 := B5.free 5; have z6 := B5.free 6; have z7 := B5.free 7; obtain ⟨m0, m1, m2, m3, m4, m5, m6, m7, m8, m9, m10⟩ := cell11 B7))
    go_wp2_with fail
    refine hK.out _ _ ?_ (fun hNew => ?_)
    · exact trivial
    clear hK K hHeld
    have hHeld := hNew
    clear hNew
    try simp only [Act.put, pz1, pz2, pz3]
    refine tk 7 ?_; try simp only [Act.put, pz1, pz2, pz3]
    refine tk 8 ?_; try simp only [Act.put, pz1, pz2, pz3]
    refine tk 9 ?_; try simp only [Act.put, pz1, pz2, pz3]
    refine tk 10 ?_; try simp only [Act.put, pz1, pz2, pz3]
    refine tk 11 ?_; try simp only [Act.put, pz1, pz2, pz3]
    refine wpAnyH_ready (rs := [12]) (by kernel_rfl) (by simp) ?_
    refine AllReadyH.cons (o := ⟨none, .store 41 (.tmp 28) (.tmp 25), 0, "desk.go:148", #[⟨11, .data⟩, ⟨8, .data⟩, ⟨6, .chain⟩, ⟨0, .phase⟩, ⟨1, .phase⟩, ⟨2, .phase⟩, ⟨3, .phase⟩, ⟨4, .phase⟩, ⟨5, .phase⟩, ⟨6, .phase⟩, ⟨7, .phase⟩, ⟨8, .phase⟩, { on := 9, ground := Ground.textOnly Departure.lateStores }, { on := 10, ground := Ground.textOnly Departure.lateStores }], none⟩) rfl (fun K hK => ?_) AllReadyH.nil
    go_simp
    refine hK.out _ _ ?_ (fun hNew => ?_)
    · exact trivial
    clear hK K hHeld
    have hHeld := hNew
    clear hNew
    try simp only [Act.put, pz1, pz2, pz3]
    refine tk 13 ?_; try simp only [Act.put, pz1, pz2, pz3]
    refine wpAnyH_ready (rs := [14]) (by kernel_rfl) (by simp) ?_
    refine AllReadyH.cons (o := ⟨none, .store 3 (.tmp 29) (.tmp 26), 0, "desk.go:148", #[⟨13, .data⟩, ⟨9, .data⟩, ⟨12, .chain⟩, ⟨0, .phase⟩, ⟨1, .phase⟩, ⟨2, .phase⟩, ⟨3, .phase⟩, ⟨4, .phase⟩, ⟨5, .phase⟩, ⟨6, .phase⟩, ⟨7, .phase⟩, ⟨8, .phase⟩, ⟨9, .phase⟩, { on := 10, ground := Ground.textOnly Departure.lateStores }, ⟨11, .phase⟩, ⟨12, .phase⟩], none⟩) rfl (fun K hK => ?_) AllReadyH.nil
    go_simp
    refine hK.out _ _ ?_ (fun hNew => ?_)
    · exact trivial
    clear hK K hHeld
    have hHeld := hNew
    clear hNew
    try simp only [Act.put, pz1, pz2, pz3]
    refine tk 15 ?_; try simp only [Act.put, pz1, pz2, pz3]
    refine wpAnyH_done (by kernel_rfl) ?_ _
    refine NoPanic.normal ?_
    clear hHeld
    obtain ⟨base, hlb, hV⟩ := hV3
    change Exit.inBlock 0 _ Exit.normal _ (((((((wN).setCell ⟨w.heap.size + 2, 0, none⟩ (.int .i64 2)).setCell ⟨w.heap.size + 2, 1, none⟩ (.int .i64 1)).setCell ⟨w.heap.size + 2, 2, none⟩ (.int .i64 1)).setCell ⟨w.heap.size + 2, 3, none⟩ (.slice A1 1 c1)).setCell ⟨w.heap.size + 2, 4, none⟩ (.slice A2 0 c2)).setCell ⟨w.heap.size + 2, 7, none⟩ (.int .i64 1))
    have hg5 : wN.grownBy (((((((wN).setCell ⟨w.heap.size + 2, 0, none⟩ (.int .i64 2)).setCell ⟨w.heap.size + 2, 1, none⟩ (.int .i64 1)).setCell ⟨w.heap.size + 2, 2, none⟩ (.int .i64 1)).setCell ⟨w.heap.size + 2, 3, none⟩ (.slice A1 1 c1)).setCell ⟨w.heap.size + 2, 4, none⟩ (.slice A2 0 c2)).setCell ⟨w.heap.size + 2, 7, none⟩ (.int .i64 1)) (some (w.heap.size + 2)) := grown_set (grown_set (grown_set (grown_set (grown_set (set1_grown wN (w.heap.size + 2) 0 (.int .i64 2)) _ _) _ _) _ _) _ _) _ _
    have B5z := ((((((B5).set_ 0 (.int .i64 2)).set_ 1 (.int .i64 1)).set_ 2 (.int .i64 1)).set_ 3 (.slice A1 1 c1)).set_ 4 (.slice A2 0 c2)).set_ 7 (.int .i64 1)
    simp only [List.setIfInBounds_toArray, List.set_cons_zero, List.set_cons_succ] at B5z
    obtain ⟨wz, hwz⟩ : ∃ V : World, V = ((((((wN).setCell ⟨w.heap.size + 2, 0, none⟩ (.int .i64 2)).setCell ⟨w.heap.size + 2, 1, none⟩ (.int .i64 1)).setCell ⟨w.heap.size + 2, 2, none⟩ (.int .i64 1)).setCell ⟨w.heap.size + 2, 3, none⟩ (.slice A1 1 c1)).setCell ⟨w.heap.size + 2, 4, none⟩ (.slice A2 0 c2)).setCell ⟨w.heap.size + 2, 7, none⟩ (.int .i64 1) := ⟨_, rfl⟩
    rw [← hwz] at hg5 B5z ⊢
    clear hwz
    have HBz := below_grown HB hg5 (Nat.le_add_right _ 2) HB.size
    have B4z := B4.grownR hg5 (fun e => by injection e; omega)
    have hVz := hV.farD hg5 hlb
    (try clear k0 k1 k2 k3 k4 k5 p0 p1 p2 p3 p4 e0 e1 e2 e3 e4 d0 d1 d2 d3 d4 d5 d6 d7 z0 z1 z2 z3 z4 z5 z6 z7 m0 m1 m2 m3 m4 m5 m6 m7 m8 m9 m10)
    have d0 := B5z.cell_ 0
    have d1 := B5z.cell_ 1
    have d2 := B5z.cell_ 2
    have d3 := B5z.cell_ 3
    have d4 := B5z.cell_ 4
    have d5 := B5z.cell_ 5
    have d6 := B5z.cell_ 6
    have d7 := B5z.cell_ 7
    simp at d0 d1 d2 d3 d4 d5 d6 d7
    have TK : Calls Tryz.prog 36 #[.pointer (some ⟨gd, 0, none⟩), .agg #[.int .i64 2, .int .i64 1, .int .i64 1, .slice A1 1 c1, .slice A2 0 c2, .int .i64 0, .slice none 0 0, .int .i64 1], .int .i64 0] wz _ := keep_ok sfE1 sfA gd base A1 A2 c1 c2 1 wz (hD0.next HBz) hVz (by omega) (Tabs.next hT0 HBz) mfA rfl 16 szA (by decide)
    go_wp2_with (go_at_call 36; ((with_reducible refine TK.mono ?_); rintro e' w9 ⟨rfl, hDW, hgr⟩; (have B4y := B4z.grownR hgr (fun e => by injection e; omega)); clear d0 d1 d2 d3 d4 d5 d6 d7; obtain ⟨p0, p1, p2, p3, p4⟩ := cell5D B4y; have e0 := B4y.free 0; have e1 := B4y.free 1; have e2 := B4y.free 2; have e3 := B4y.free 3; have e4 := B4y.free 4))
    change bodyPost _ _ _ _ _ (st5 w9 (w.heap.size + 1) 0 (.int .i64 0) (.int .i64 1) (.slice none 0 0) (.slice none 0 0) (.slice none 0 0))
    have B2u := B4y.st5_ (.int .i64 0) (.int .i64 1) (.slice none 0 0) (.slice none 0 0) (.slice none 0 0)
    have hg2 := st5_grown w9 (w.heap.size + 1) 0 (.int .i64 0) (.int .i64 1) (.slice none 0 0) (.slice none 0 0) (.slice none 0 0)
    have hG := gtr2D (gtrD (grownD (some gd) HBz) hgr) hg2 (fun k e => by cases e; omega)
    have hDX := hDW.farW hg2 (by omega) (by omega)
    generalize st5 w9 (w.heap.size + 1) 0 (.int .i64 0) (.int .i64 1) (.slice none 0 0) (.slice none 0 0) (.slice none 0 0) = Wd at B2u hg2 hG hDX ⊢
    apply bodyPost_ret (v := .agg #[.int .i64 0, .int .i64 1, .slice none 0 0, .slice none 0 0, .slice none 0 0])
    · exact results_cell_row Tryz.results6 _ Wd (w.heap.size + 1) 32 _ (0, 0) _ rfl B2u Tryz.underlying32 rfl (by kernel_rfl)
    · rfl
    · exact ⟨rfl, hDX.toI, hG⟩
  · go_simp
    refine hK.out _ _ ?_ (fun hNew => ?_)
    · exact trivial
    clear hK K hHeld
    have hHeld := hNew
    clear hNew
    try simp only [Act.put, pz1, pz2, pz3]
    refine wpAnyH_ready (rs := [3]) (by kernel_rfl) (by simp) ?_
    refine AllReadyH.cons (o := ⟨some 21, .load 41 (.tmp 20), 41, "desk.go:148", #[⟨2, .data⟩], none⟩) rfl (fun K hK => ?_) AllReadyH.nil
    go_simp
    refine hK.out _ _ ?_ (fun hNew => ?_)
    · exact trivial
    clear hK K hHeld
    have hHeld := hNew
    clear hNew
    try simp only [Act.put, pz1, pz2, pz3]
    refine wpAnyH_ready (rs := [6]) (by kernel_rfl) (by simp) ?_
    refine AllReadyH.cons (o := ⟨some 24, .call { callee := .value (.func 19), args := #[.tmp 21, .tmp 23], argTypes := #[41, 9] }, 61, "desk.go:148", #[⟨3, .data⟩, ⟨5, .data⟩], none⟩) rfl (fun K hK => ?_) AllReadyH.nil
    go_simp
    (go_at_call 19; ((with_reducible refine (make_yes sfE1 _ ⟨#[97]⟩ _ ((hS0.below HB).mono HB.size) (Tabs.next hT0 HB) mcA).mono ?_); rintro e' wN ⟨v', rfl, hV, bx⟩; rw [mkA] at hV; have hV2 := hV; obtain ⟨A1, c1, A2, c2, hv, -⟩ := hV.parts; have hv2 : v' = .agg #[.int .i64 2, .int .i64 1, .int .i64 1, .slice A1 1 c1, .slice A2 0 c2] := hv; subst hv2; clear hV hv; have hV3 : ∃ base : Nat, w.heap.size + 2 < base ∧ ShW wN base (.agg #[.int .i64 2, .int .i64 1, .int .i64 1, .slice A1 1 c1, .slice A2 0 c2]) sfA := ⟨_, B5.lt, hV2⟩; clear hV2; have HB := btr HB HB.size bx; have B3 := B3.below bx B3.lt; have B4 := B4.below bx B4.lt; have B5 := B5.below bx B5.lt; have B7 := B7.below bx B7.lt; clear bx; (try clear k0 k1 k2 k3 k4 k5 p0 p1 p2 p3 p4 e0 e1 e2 e3 e4 d0 d1 d2 d3 d4 d5 d6 d7 z0 z1 z2 z3 z4 z5 z6 z7 m0 m1 m2 m3 m4 m5 m6 m7 m8 m9 m10); obtain ⟨k0, k1, k2, k3, k4, k5⟩ := cell6 B3; obtain ⟨p0, p1, p2, p3, p4⟩ := cell5D B4; have e0 := B4.free 0; have e1 := B4.free 1; have e2 := B4.free 2; have e3 := B4.free 3; have e4 := B4.free 4; have d0 := B5.cell_ 0; have d1 := B5.cell_ 1; have d2 := B5.cell_ 2; have d3 := B5.cell_ 3; have d4 := B5.cell_ 4; have d5 := B5.cell_ 5; have d6 := B5.cell_ 6; have d7 := B5.cell_ 7; simp at d0 d1 d2 d3 d4 d5 d6 d7; have z0 := B5.free 0; have z1 := B5.free 1; have z2 := B5.free 2; have z3 := B5.free 3; have z4 := B5.free 4; have z5 := B5.free 5; have z6 := B5.free 6; have z7 := B5.free 7; obtain ⟨m0, m1, m2, m3, m4, m5, m6, m7, m8, m9, m10⟩ := cell11 B7))
    go_wp2_with fail
    refine hK.out _ _ ?_ (fun hNew => ?_)
    · exact trivial
    clear hK K hHeld
    have hHeld := hNew
    clear hNew
    try simp only [Act.put, pz1, pz2, pz3]
    refine tk 7 ?_; try simp only [Act.put, pz1, pz2, pz3]
    refine tk 8 ?_; try simp only [Act.put, pz1, pz2, pz3]
    refine tk 9 ?_; try simp only [Act.put, pz1, pz2, pz3]
    refine tk 10 ?_; try simp only [Act.put, pz1, pz2, pz3]
    refine tk 11 ?_; try simp only [Act.put, pz1, pz2, pz3]
    refine wpAnyH_ready (rs := [12]) (by kernel_rfl) (by simp) ?_
    refine AllReadyH.cons (o := ⟨none, .store 41 (.tmp 28) (.tmp 25), 0, "desk.go:148", #[⟨11, .data⟩, ⟨8, .data⟩, ⟨6, .chain⟩, ⟨0, .phase⟩, ⟨1, .phase⟩, ⟨2, .phase⟩, ⟨3, .phase⟩, ⟨4, .phase⟩, ⟨5, .phase⟩, ⟨6, .phase⟩, ⟨7, .phase⟩, ⟨8, .phase⟩, { on := 9, ground := Ground.textOnly Departure.lateStores }, { on := 10, ground := Ground.textOnly Departure.lateStores }], none⟩) rfl (fun K hK => ?_) AllReadyH.nil
    go_simp
    refine hK.out _ _ ?_ (fun hNew => ?_)
    · exact trivial
    clear hK K hHeld
    have hHeld := hNew
    clear hNew
    try simp only [Act.put, pz1, pz2, pz3]
    refine tk 13 ?_; try simp only [Act.put, pz1, pz2, pz3]
    refine wpAnyH_ready (rs := [14]) (by kernel_rfl) (by simp) ?_
    refine AllReadyH.cons (o := ⟨none, .store 3 (.tmp 29) (.tmp 26), 0, "desk.go:148", #[⟨13, .data⟩, ⟨9, .data⟩, ⟨12, .chain⟩, ⟨0, .phase⟩, ⟨1, .phase⟩, ⟨2, .phase⟩, ⟨3, .phase⟩, ⟨4, .phase⟩, ⟨5, .phase⟩, ⟨6, .phase⟩, ⟨7, .phase⟩, ⟨8, .phase⟩, ⟨9, .phase⟩, { on := 10, ground := Ground.textOnly Departure.lateStores }, ⟨11, .phase⟩, ⟨12, .phase⟩], none⟩) rfl (fun K hK => ?_) AllReadyH.nil
    go_simp
    refine hK.out _ _ ?_ (fun hNew => ?_)
    · exact trivial
    clear hK K hHeld
    have hHeld := hNew
    clear hNew
    try simp only [Act.put, pz1, pz2, pz3]
    refine tk 15 ?_; try simp only [Act.put, pz1, pz2, pz3]
    refine wpAnyH_done (by kernel_rfl) ?_ _
    refine NoPanic.normal ?_
    clear hHeld
    obtain ⟨base, hlb, hV⟩ := hV3
    change Exit.inBlock 0 _ Exit.normal _ (((((((wN).setCell ⟨w.heap.size + 2, 0, none⟩ (.int .i64 2)).setCell ⟨w.heap.size + 2, 1, none⟩ (.int .i64 1)).setCell ⟨w.heap.size + 2, 2, none⟩ (.int .i64 1)).setCell ⟨w.heap.size + 2, 3, none⟩ (.slice A1 1 c1)).setCell ⟨w.heap.size + 2, 4, none⟩ (.slice A2 0 c2)).setCell ⟨w.heap.size + 2, 7, none⟩ (.int .i64 1))
    have hg5 : wN.grownBy (((((((wN).setCell ⟨w.heap.size + 2, 0, none⟩ (.int .i64 2)).setCell ⟨w.heap.size + 2, 1, none⟩ (.int .i64 1)).setCell ⟨w.heap.size + 2, 2, none⟩ (.int .i64 1)).setCell ⟨w.heap.size + 2, 3, none⟩ (.slice A1 1 c1)).setCell ⟨w.heap.size + 2, 4, none⟩ (.slice A2 0 c2)).setCell ⟨w.heap.size + 2, 7, none⟩ (.int .i64 1)) (some (w.heap.size + 2)) := grown_set (grown_set (grown_set (grown_set (grown_set (set1_grown wN (w.heap.size + 2) 0 (.int .i64 2)) _ _) _ _) _ _) _ _) _ _
    have B5z := ((((((B5).set_ 0 (.int .i64 2)).set_ 1 (.int .i64 1)).set_ 2 (.int .i64 1)).set_ 3 (.slice A1 1 c1)).set_ 4 (.slice A2 0 c2)).set_ 7 (.int .i64 1)
    simp only [List.setIfInBounds_toArray, List.set_cons_zero, List.set_cons_succ] at B5z
    obtain ⟨wz, hwz⟩ : ∃ V : World, V = ((((((wN).setCell ⟨w.heap.size + 2, 0, none⟩ (.int .i64 2)).setCell ⟨w.heap.size + 2, 1, none⟩ (.int .i64 1)).setCell ⟨w.heap.size + 2, 2, none⟩ (.int .i64 1)).setCell ⟨w.heap.size + 2, 3, none⟩ (.slice A1 1 c1)).setCell ⟨w.heap.size + 2, 4, none⟩ (.slice A2 0 c2)).setCell ⟨w.heap.size + 2, 7, none⟩ (.int .i64 1) := ⟨_, rfl⟩
    rw [← hwz] at hg5 B5z ⊢
    clear hwz
    have HBz := below_grown HB hg5 (Nat.le_add_right _ 2) HB.size
    have B4z := B4.grownR hg5 (fun e => by injection e; omega)
    have hVz := hV.farD hg5 hlb
    (try clear k0 k1 k2 k3 k4 k5 p0 p1 p2 p3 p4 e0 e1 e2 e3 e4 d0 d1 d2 d3 d4 d5 d6 d7 z0 z1 z2 z3 z4 z5 z6 z7 m0 m1 m2 m3 m4 m5 m6 m7 m8 m9 m10)
    have d0 := B5z.cell_ 0
    have d1 := B5z.cell_ 1
    have d2 := B5z.cell_ 2
    have d3 := B5z.cell_ 3
    have d4 := B5z.cell_ 4
    have d5 := B5z.cell_ 5
    have d6 := B5z.cell_ 6
    have d7 := B5z.cell_ 7
    simp at d0 d1 d2 d3 d4 d5 d6 d7
    have TK : Calls Tryz.prog 36 #[.pointer (some ⟨gd, 0, none⟩), .agg #[.int .i64 2, .int .i64 1, .int .i64 1, .slice A1 1 c1, .slice A2 0 c2, .int .i64 0, .slice none 0 0, .int .i64 1], .int .i64 0] wz _ := keep_ok sfE1 sfA gd base A1 A2 c1 c2 1 wz (hD0.next HBz) hVz (by omega) (Tabs.next hT0 HBz) mfA rfl 16 szA (by decide)
    go_wp2_with (go_at_call 36; ((with_reducible refine TK.mono ?_); rintro e' w9 ⟨rfl, hDW, hgr⟩; (have B4y := B4z.grownR hgr (fun e => by injection e; omega)); clear d0 d1 d2 d3 d4 d5 d6 d7; obtain ⟨p0, p1, p2, p3, p4⟩ := cell5D B4y; have e0 := B4y.free 0; have e1 := B4y.free 1; have e2 := B4y.free 2; have e3 := B4y.free 3; have e4 := B4y.free 4))
    change bodyPost _ _ _ _ _ (st5 w9 (w.heap.size + 1) 0 (.int .i64 0) (.int .i64 1) (.slice none 0 0) (.slice none 0 0) (.slice none 0 0))
    have B2u := B4y.st5_ (.int .i64 0) (.int .i64 1) (.slice none 0 0) (.slice none 0 0) (.slice none 0 0)
    have hg2 := st5_grown w9 (w.heap.size + 1) 0 (.int .i64 0) (.int .i64 1) (.slice none 0 0) (.slice none 0 0) (.slice none 0 0)
    have hG := gtr2D (gtrD (grownD (some gd) HBz) hgr) hg2 (fun k e => by cases e; omega)
    have hDX := hDW.farW hg2 (by omega) (by omega)
    generalize st5 w9 (w.heap.size + 1) 0 (.int .i64 0) (.int .i64 1) (.slice none 0 0) (.slice none 0 0) (.slice none 0 0) = Wd at B2u hg2 hG hDX ⊢
    apply bodyPost_ret (v := .agg #[.int .i64 0, .int .i64 1, .slice none 0 0, .slice none 0 0, .slice none 0 0])
    · exact results_cell_row Tryz.results6 _ Wd (w.heap.size + 1) 32 _ (0, 0) _ rfl B2u Tryz.underlying32 rfl (by kernel_rfl)
    · rfl
    · exact ⟨rfl, hDX.toI, hG⟩
theorem do_book2 (gd : Nat) (zc : Value) (w : World) (hD : DeskI w gd sfA) (hT : Tabs w) :
    Calls Tryz.prog 6 #[.pointer (some ⟨gd, 0, none⟩), .agg #[.int .i64 1, .int .i64 0, .int .i64 0, .string ⟨#[97]⟩, zc, .slice none 0 0]] w fun e' w' => e' = .returned (.agg #[.int .i64 7, .int .i64 0, .slice none 0 0, .slice none 0 0, .slice none 0 0]) ∧ Below w.heap.size w w' := by
  obtain ⟨Ab, cb, An, cn, vm, B7, hS⟩ := hD.ex
  have hgd := B7.lt
  have hD0 := hD
  have hS0 := hS
  have hT0 := hT
  have HB : Below w.heap.size w (((w.alloc (.cells #[.int .i64 1, .int .i64 0, .int .i64 0, .string ⟨#[97]⟩, zc, .slice none 0 0] 36)).alloc (.cells #[.int .i64 0, .int .i64 0, .slice none 0 0, .slice none 0 0, .slice none 0 0] 32)).alloc (.cells #[.int .i64 0, .int .i64 0, .int .i64 0, .slice none 0 0, .slice none 0 0, .int .i64 0, .slice none 0 0, .int .i64 0] 60)) := (((Below.refl _ w).alloc (Nat.le_refl _) _).alloc (by simp) _).alloc (by simp; omega) _
  have B3 : Blk (((w.alloc (.cells #[.int .i64 1, .int .i64 0, .int .i64 0, .string ⟨#[97]⟩, zc, .slice none 0 0] 36)).alloc (.cells #[.int .i64 0, .int .i64 0, .slice none 0 0, .slice none 0 0, .slice none 0 0] 32)).alloc (.cells #[.int .i64 0, .int .i64 0, .int .i64 0, .slice none 0 0, .slice none 0 0, .int .i64 0, .slice none 0 0, .int .i64 0] 60)) w.heap.size 36 #[.int .i64 1, .int .i64 0, .int .i64 0, .string ⟨#[97]⟩, zc, .slice none 0 0] := ((Blk.new_ w 36 #[.int .i64 1, .int .i64 0, .int .i64 0, .string ⟨#[97]⟩, zc, .slice none 0 0]).alloc_ _).alloc_ _
  have B4 : Blk (((w.alloc (.cells #[.int .i64 1, .int .i64 0, .int .i64 0, .string ⟨#[97]⟩, zc, .slice none 0 0] 36)).alloc (.cells #[.int .i64 0, .int .i64 0, .slice none 0 0, .slice none 0 0, .slice none 0 0] 32)).alloc (.cells #[.int .i64 0, .int .i64 0, .int .i64 0, .slice none 0 0, .slice none 0 0, .int .i64 0, .slice none 0 0, .int .i64 0] 60)) (w.heap.size + 1) 32 #[.int .i64 0, .int .i64 0, .slice none 0 0, .slice none 0 0, .slice none 0 0] := by
    have := (Blk.new_ (w.alloc (.cells #[.int .i64 1, .int .i64 0, .int .i64 0, .string ⟨#[97]⟩, zc, .slice none 0 0] 36)) 32 #[.int .i64 0, .int .i64 0, .slice none 0 0, .slice none 0 0, .slice none 0 0]).alloc_ (.cells #[.int .i64 0, .int .i64 0, .int .i64 0, .slice none 0 0, .slice none 0 0, .int .i64 0, .slice none 0 0, .int .i64 0] 60)
    simpa using this
  have B5 : Blk (((w.alloc (.cells #[.int .i64 1, .int .i64 0, .int .i64 0, .string ⟨#[97]⟩, zc, .slice none 0 0] 36)).alloc (.cells #[.int .i64 0, .int .i64 0, .slice none 0 0, .slice none 0 0, .slice none 0 0] 32)).alloc (.cells #[.int .i64 0, .int .i64 0, .int .i64 0, .slice none 0 0, .slice none 0 0, .int .i64 0, .slice none 0 0, .int .i64 0] 60)) (w.heap.size + 2) 60 #[.int .i64 0, .int .i64 0, .int .i64 0, .slice none 0 0, .slice none 0 0, .int .i64 0, .slice none 0 0, .int .i64 0] := by
    have := Blk.new_ ((w.alloc (.cells #[.int .i64 1, .int .i64 0, .int .i64 0, .string ⟨#[97]⟩, zc, .slice none 0 0] 36)).alloc (.cells #[.int .i64 0, .int .i64 0, .slice none 0 0, .slice none 0 0, .slice none 0 0] 32)) 60 #[.int .i64 0, .int .i64 0, .int .i64 0, .slice none 0 0, .slice none 0 0, .int .i64 0, .slice none 0 0, .int .i64 0]
    simpa using this
  replace B7 := B7.below HB hgd
  clear hD hS hT
  (try clear k0 k1 k2 k3 k4 k5 p0 p1 p2 p3 p4 e0 e1 e2 e3 e4 d0 d1 d2 d3 d4 d5 d6 d7 z0 z1 z2 z3 z4 z5 z6 z7 m0 m1 m2 m3 m4 m5 m6 m7 m8 m9 m10); obtain ⟨k0, k1, k2, k3, k4, k5⟩ := cell6 B3; obtain ⟨p0, p1, p2, p3, p4⟩ := cell5D B4; have e0 := B4.free 0; have e1 := B4.free 1; have e2 := B4.free 2; have e3 := B4.free 3; have e4 := B4.free 4; have d0 := B5.cell_ 0; have d1 := B5.cell_ 1; have d2 := B5.cell_ 2; have d3 := B5.cell_ 3; have d4 := B5.cell_ 4; have d5 := B5.cell_ 5; have d6 := B5.cell_ 6; have d7 := B5.cell_ 7; simp at d0 d1 d2 d3 d4 d5 d6 d7; have z0 := B5.free 0; have z1 := B5.free 1; have z2 := B5.free 2; have z3 := B5.free 3; have z4 := B5.free 4; have z5 := B5.free 5; have z6 := B5.free 6; have z7 := B5.free 7; obtain ⟨m0, m1, m2, m3, m4, m5, m6, m7, m8, m9, m10⟩ := cell11 B7
  go_enter Tryz.func6, Tryz.ntmps6
  go_upto_region 8 with fail
  replace HB := drew_below HB
  replace B3 := drew_blk B3
  replace B4 := drew_blk B4
  replace B5 := drew_blk B5
  replace B7 := drew_blk B7
  (try clear k0 k1 k2 k3 k4 k5 p0 p1 p2 p3 p4 e0 e1 e2 e3 e4 d0 d1 d2 d3 d4 d5 d6 d7 z0 z1 z2 z3 z4 z5 z6 z7 m0 m1 m2 m3 m4 m5 m6 m7 m8 m9 m10); obtain ⟨k0, k1, k2, k3, k4, k5⟩ := cell6 B3; obtain ⟨p0, p1, p2, p3, p4⟩ := cell5D B4; have e0 := B4.free 0; have e1 := B4.free 1; have e2 := B4.free 2; have e3 := B4.free 3; have e4 := B4.free 4; have d0 := B5.cell_ 0; have d1 := B5.cell_ 1; have d2 := B5.cell_ 2; have d3 := B5.cell_ 3; have d4 := B5.cell_ 4; have d5 := B5.cell_ 5; have d6 := B5.cell_ 6; have d7 := B5.cell_ 7; simp at d0 d1 d2 d3 d4 d5 d6 d7; have z0 := B5.free 0; have z1 := B5.free 1; have z2 := B5.free 2; have z3 := B5.free 3; have z4 := B5.free 4; have z5 := B5.free 5; have z6 := B5.free 6; have z7 := B5.free 7; obtain ⟨m0, m1, m2, m3, m4, m5, m6, m7, m8, m9, m10⟩ := cell11 B7
  refine wp_region_noPanic ?_
  refine wp_region_held_drew (S := (fun _ => True)) (by kernel_rfl) ?_ (fun hHeld => ?_)
  · exact trivial
  refine tk 0 ?_; try simp only [Act.put, pz1, pz2, pz3]
  refine tk 1 ?_; try simp only [Act.put, pz1, pz2, pz3]
  refine tk 2 ?_; try simp only [Act.put, pz1, pz2, pz3]
  refine tk 4 ?_; try simp only [Act.put, pz1, pz2, pz3]
  refine wpAnyH_ready (rs := [3, 5]) (by kernel_rfl) (by simp) ?_
  refine (AllReadyH.cons (o := ⟨some 21, .load 41 (.tmp 20), 41, "desk.go:148", #[⟨2, .data⟩], none⟩) rfl (fun K hK => ?_) (AllReadyH.cons (o := ⟨some 23, .load 9 (.tmp 22), 9, "desk.go:148", #[⟨4, .data⟩], none⟩) rfl (fun K hK => ?_) AllReadyH.nil))
  · go_simp
    refine hK.out _ _ ?_ (fun hNew => ?_)
    · exact trivial
    clear hK K hHeld
    have hHeld := hNew
    clear hNew
    try simp only [Act.put, pz1, pz2, pz3]
    refine wpAnyH_ready (rs := [5]) (by kernel_rfl) (by simp) ?_
    refine AllReadyH.cons (o := ⟨some 23, .load 9 (.tmp 22), 9, "desk.go:148", #[⟨4, .data⟩], none⟩) rfl (fun K hK => ?_) AllReadyH.nil
    go_simp
    refine hK.out _ _ ?_ (fun hNew => ?_)
    · exact trivial
    clear hK K hHeld
    have hHeld := hNew
    clear hNew
    try simp only [Act.put, pz1, pz2, pz3]
    refine wpAnyH_ready (rs := [6]) (by kernel_rfl) (by simp) ?_
    refine AllReadyH.cons (o := ⟨some 24, .call { callee := .value (.func 19), args := #[.tmp 21, .tmp 23], argTypes := #[41, 9] }, 61, "desk.go:148", #[⟨3, .data⟩, ⟨5, .data⟩], none⟩) rfl (fun K hK => ?_) AllReadyH.nil
    go_simp
    (go_at_call 19; ((with_reducible refine (make_no sfA _ ⟨#[97]⟩ _ ((hS0.below HB).mono HB.size) (Tabs.next hT0 HB) 7 mcB (by decide)).mono ?_); rintro e' wN ⟨rfl, bx⟩; have HB := btr HB HB.size bx; have B3 := B3.below bx B3.lt; have B4 := B4.below bx B4.lt; have B5 := B5.below bx B5.lt; have B7 := B7.below bx B7.lt; clear bx; (try clear k0 k1 k2 k3 k4 k5 p0 p1 p2 p3 p4 e0 e1 e2 e3 e4 d0 d1 d2 d3 d4 d5 d6 d7 z0 z1 z2 z3 z4 z5 z6 z7 m0 m1 m2 m3 m4 m5 m6 m7 m8 m9 m10); obtain ⟨k0, k1, k2, k3, k4, k5⟩ := cell6 B3; obtain ⟨p0, p1, p2, p3, p4⟩ := cell5D B4; have e0 := B4.free 0; have e1 := B4.free 1; have e2 := B4.free 2; have e3 := B4.free 3; have e4 := B4.free 4; have d0 := B5.cell_ 0; have d1 := B5.cell_ 1; have d2 := B5.cell_ 2; have d3 := B5.cell_ 3; have d4 := B5.cell_ 4; have d5 := B5.cell_ 5; have d6 := B5.cell_ 6; have d7 := B5.cell_ 7; simp at d0 d1 d2 d3 d4 d5 d6 d7; have z0 := B5.free 0; have z1 := B5.free 1; have z2 := B5.free 2; have z3 := B5.free 3; have z4 := B5.free 4; have z5 := B5.free 5; have z6 := B5.free 6; have z7 := B5.free 7; obtain ⟨m0, m1, m2, m3, m4, m5, m6, m7, m8, m9, m10⟩ := cell11 B7))
    go_wp2_with fail
    refine hK.out _ _ ?_ (fun hNew => ?_)
    · exact trivial
    clear hK K hHeld
    have hHeld := hNew
    clear hNew
    try simp only [Act.put, pz1, pz2, pz3]
    refine tk 7 ?_; try simp only [Act.put, pz1, pz2, pz3]
    refine tk 8 ?_; try simp only [Act.put, pz1, pz2, pz3]
    refine tk 9 ?_; try simp only [Act.put, pz1, pz2, pz3]
    refine tk 10 ?_; try simp only [Act.put, pz1, pz2, pz3]
    refine tk 11 ?_; try simp only [Act.put, pz1, pz2, pz3]
    refine wpAnyH_ready (rs := [12]) (by kernel_rfl) (by simp) ?_
    refine AllReadyH.cons (o := ⟨none, .store 41 (.tmp 28) (.tmp 25), 0, "desk.go:148", #[⟨11, .data⟩, ⟨8, .data⟩, ⟨6, .chain⟩, ⟨0, .phase⟩, ⟨1, .phase⟩, ⟨2, .phase⟩, ⟨3, .phase⟩, ⟨4, .phase⟩, ⟨5, .phase⟩, ⟨6, .phase⟩, ⟨7, .phase⟩, ⟨8, .phase⟩, { on := 9, ground := Ground.textOnly Departure.lateStores }, { on := 10, ground := Ground.textOnly Departure.lateStores }], none⟩) rfl (fun K hK => ?_) AllReadyH.nil
    go_simp
    refine hK.out _ _ ?_ (fun hNew => ?_)
    · exact trivial
    clear hK K hHeld
    have hHeld := hNew
    clear hNew
    try simp only [Act.put, pz1, pz2, pz3]
    refine tk 13 ?_; try simp only [Act.put, pz1, pz2, pz3]
    refine wpAnyH_ready (rs := [14]) (by kernel_rfl) (by simp) ?_
    refine AllReadyH.cons (o := ⟨none, .store 3 (.tmp 29) (.tmp 26), 0, "desk.go:148", #[⟨13, .data⟩, ⟨9, .data⟩, ⟨12, .chain⟩, ⟨0, .phase⟩, ⟨1, .phase⟩, ⟨2, .phase⟩, ⟨3, .phase⟩, ⟨4, .phase⟩, ⟨5, .phase⟩, ⟨6, .phase⟩, ⟨7, .phase⟩, ⟨8, .phase⟩, ⟨9, .phase⟩, { on := 10, ground := Ground.textOnly Departure.lateStores }, ⟨11, .phase⟩, ⟨12, .phase⟩], none⟩) rfl (fun K hK => ?_) AllReadyH.nil
    go_simp
    refine hK.out _ _ ?_ (fun hNew => ?_)
    · exact trivial
    clear hK K hHeld
    have hHeld := hNew
    clear hNew
    try simp only [Act.put, pz1, pz2, pz3]
    refine tk 15 ?_; try simp only [Act.put, pz1, pz2, pz3]
    refine wpAnyH_done (by kernel_rfl) ?_ _
    refine NoPanic.normal ?_
    clear hHeld
    change Exit.inBlock 0 _ Exit.normal _ (((((((wN).setCell ⟨w.heap.size + 2, 0, none⟩ (.int .i64 0)).setCell ⟨w.heap.size + 2, 1, none⟩ (.int .i64 0)).setCell ⟨w.heap.size + 2, 2, none⟩ (.int .i64 0)).setCell ⟨w.heap.size + 2, 3, none⟩ (.slice none 0 0)).setCell ⟨w.heap.size + 2, 4, none⟩ (.slice none 0 0)).setCell ⟨w.heap.size + 2, 7, none⟩ (.int .i64 0))
    have hg5 : wN.grownBy (((((((wN).setCell ⟨w.heap.size + 2, 0, none⟩ (.int .i64 0)).setCell ⟨w.heap.size + 2, 1, none⟩ (.int .i64 0)).setCell ⟨w.heap.size + 2, 2, none⟩ (.int .i64 0)).setCell ⟨w.heap.size + 2, 3, none⟩ (.slice none 0 0)).setCell ⟨w.heap.size + 2, 4, none⟩ (.slice none 0 0)).setCell ⟨w.heap.size + 2, 7, none⟩ (.int .i64 0)) (some (w.heap.size + 2)) := grown_set (grown_set (grown_set (grown_set (grown_set (set1_grown wN (w.heap.size + 2) 0 (.int .i64 0)) _ _) _ _) _ _) _ _) _ _
    have B5z := ((((((B5).set_ 0 (.int .i64 0)).set_ 1 (.int .i64 0)).set_ 2 (.int .i64 0)).set_ 3 (.slice none 0 0)).set_ 4 (.slice none 0 0)).set_ 7 (.int .i64 0)
    simp only [List.setIfInBounds_toArray, List.set_cons_zero, List.set_cons_succ] at B5z
    obtain ⟨wz, hwz⟩ : ∃ V : World, V = ((((((wN).setCell ⟨w.heap.size + 2, 0, none⟩ (.int .i64 0)).setCell ⟨w.heap.size + 2, 1, none⟩ (.int .i64 0)).setCell ⟨w.heap.size + 2, 2, none⟩ (.int .i64 0)).setCell ⟨w.heap.size + 2, 3, none⟩ (.slice none 0 0)).setCell ⟨w.heap.size + 2, 4, none⟩ (.slice none 0 0)).setCell ⟨w.heap.size + 2, 7, none⟩ (.int .i64 0) := ⟨_, rfl⟩
    rw [← hwz] at hg5 B5z ⊢
    clear hwz
    have HBz := below_grown HB hg5 (Nat.le_add_right _ 2) HB.size
    have B4z := B4.grownR hg5 (fun e => by injection e; omega)
    (try clear k0 k1 k2 k3 k4 k5 p0 p1 p2 p3 p4 e0 e1 e2 e3 e4 d0 d1 d2 d3 d4 d5 d6 d7 z0 z1 z2 z3 z4 z5 z6 z7 m0 m1 m2 m3 m4 m5 m6 m7 m8 m9 m10)
    have d0 := B5z.cell_ 0
    have d1 := B5z.cell_ 1
    have d2 := B5z.cell_ 2
    have d3 := B5z.cell_ 3
    have d4 := B5z.cell_ 4
    have d5 := B5z.cell_ 5
    have d6 := B5z.cell_ 6
    have d7 := B5z.cell_ 7
    simp at d0 d1 d2 d3 d4 d5 d6 d7
    go_wp2_with (go_at_call 36; ((with_reducible refine (keep_no gd 0 0 0 none none 0 0 0 0 0 0 7 (by decide) wz).mono ?_); rintro e' w9 ⟨rfl, bx⟩; (have B4y := B4z.below bx B4z.lt); (have HBy := btr HBz HBz.size bx); clear bx d0 d1 d2 d3 d4 d5 d6 d7; obtain ⟨p0, p1, p2, p3, p4⟩ := cell5D B4y; have e0 := B4y.free 0; have e1 := B4y.free 1; have e2 := B4y.free 2; have e3 := B4y.free 3; have e4 := B4y.free 4))
    change bodyPost _ _ _ _ _ (st5 w9 (w.heap.size + 1) 0 (.int .i64 7) (.int .i64 0) (.slice none 0 0) (.slice none 0 0) (.slice none 0 0))
    have B2u := B4y.st5_ (.int .i64 7) (.int .i64 0) (.slice none 0 0) (.slice none 0 0) (.slice none 0 0)
    have hg2 := st5_grown w9 (w.heap.size + 1) 0 (.int .i64 7) (.int .i64 0) (.slice none 0 0) (.slice none 0 0) (.slice none 0 0)
    have hb2 := below_grown HBy hg2 (Nat.le_add_right _ 1) HBy.size
    generalize st5 w9 (w.heap.size + 1) 0 (.int .i64 7) (.int .i64 0) (.slice none 0 0) (.slice none 0 0) (.slice none 0 0) = Wd at B2u hg2 hb2 ⊢
    apply bodyPost_ret (v := .agg #[.int .i64 7, .int .i64 0, .slice none 0 0, .slice none 0 0, .slice none 0 0])
    · exact results_cell_row Tryz.results6 _ Wd (w.heap.size + 1) 32 _ (0, 0) _ rfl B2u Tryz.underlying32 rfl (by kernel_rfl)
    · rfl
    · exact ⟨rfl, hb2⟩
  · go_simp
    refine hK.out _ _ ?_ (fun hNew => ?_)
    · exact trivial
    clear hK K hHeld
    have hHeld := hNew
    clear hNew
    try simp only [Act.put, pz1, pz2, pz3]
    refine wpAnyH_ready (rs := [3]) (by kernel_rfl) (by simp) ?_
    refine AllReadyH.cons (o := ⟨some 21, .load 41 (.tmp 20), 41, "desk.go:148", #[⟨2, .data⟩], none⟩) rfl (fun K hK => ?_) AllReadyH.nil
    go_simp
    refine hK.out _ _ ?_ (fun hNew => ?_)
    · exact trivial
    clear hK K hHeld
    have hHeld := hNew
    clear hNew
    try simp only [Act.put, pz1, pz2, pz3]
    refine wpAnyH_ready (rs := [6]) (by kernel_rfl) (by simp) ?_
    refine AllReadyH.cons (o := ⟨some 24, .call { callee := .value (.func 19), args := #[.tmp 21, .tmp 23], argTypes := #[41, 9] }, 61, "desk.go:148", #[⟨3, .data⟩, ⟨5, .data⟩], none⟩) rfl (fun K hK => ?_) AllReadyH.nil
    go_simp
    (go_at_call 19; ((with_reducible refine (make_no sfA _ ⟨#[97]⟩ _ ((hS0.below HB).mono HB.size) (Tabs.next hT0 HB) 7 mcB (by decide)).mono ?_); rintro e' wN ⟨rfl, bx⟩; have HB := btr HB HB.size bx; have B3 := B3.below bx B3.lt; have B4 := B4.below bx B4.lt; have B5 := B5.below bx B5.lt; have B7 := B7.below bx B7.lt; clear bx; (try clear k0 k1 k2 k3 k4 k5 p0 p1 p2 p3 p4 e0 e1 e2 e3 e4 d0 d1 d2 d3 d4 d5 d6 d7 z0 z1 z2 z3 z4 z5 z6 z7 m0 m1 m2 m3 m4 m5 m6 m7 m8 m9 m10); obtain ⟨k0, k1, k2, k3, k4, k5⟩ := cell6 B3; obtain ⟨p0, p1, p2, p3, p4⟩ := cell5D B4; have e0 := B4.free 0; have e1 := B4.free 1; have e2 := B4.free 2; have e3 := B4.free 3; have e4 := B4.free 4; have d0 := B5.cell_ 0; have d1 := B5.cell_ 1; have d2 := B5.cell_ 2; have d3 := B5.cell_ 3; have d4 := B5.cell_ 4; have d5 := B5.cell_ 5; have d6 := B5.cell_ 6; have d7 := B5.cell_ 7; simp at d0 d1 d2 d3 d4 d5 d6 d7; have z0 := B5.free 0; have z1 := B5.free 1; have z2 := B5.free 2; have z3 := B5.free 3; have z4 := B5.free 4; have z5 := B5.free 5; have z6 := B5.free 6; have z7 := B5.free 7; obtain ⟨m0, m1, m2, m3, m4, m5, m6, m7, m8, m9, m10⟩ := cell11 B7))
    go_wp2_with fail
    refine hK.out _ _ ?_ (fun hNew => ?_)
    · exact trivial
    clear hK K hHeld
    have hHeld := hNew
    clear hNew
    try simp only [Act.put, pz1, pz2, pz3]
    refine tk 7 ?_; try simp only [Act.put, pz1, pz2, pz3]
    refine tk 8 ?_; try simp only [Act.put, pz1, pz2, pz3]
    refine tk 9 ?_; try simp only [Act.put, pz1, pz2, pz3]
    refine tk 10 ?_; try simp only [Act.put, pz1, pz2, pz3]
    refine tk 11 ?_; try simp only [Act.put, pz1, pz2, pz3]
    refine wpAnyH_ready (rs := [12]) (by kernel_rfl) (by simp) ?_
    refine AllReadyH.cons (o := ⟨none, .store 41 (.tmp 28) (.tmp 25), 0, "desk.go:148", #[⟨11, .data⟩, ⟨8, .data⟩, ⟨6, .chain⟩, ⟨0, .phase⟩, ⟨1, .phase⟩, ⟨2, .phase⟩, ⟨3, .phase⟩, ⟨4, .phase⟩, ⟨5, .phase⟩, ⟨6, .phase⟩, ⟨7, .phase⟩, ⟨8, .phase⟩, { on := 9, ground := Ground.textOnly Departure.lateStores }, { on := 10, ground := Ground.textOnly Departure.lateStores }], none⟩) rfl (fun K hK => ?_) AllReadyH.nil
    go_simp
    refine hK.out _ _ ?_ (fun hNew => ?_)
    · exact trivial
    clear hK K hHeld
    have hHeld := hNew
    clear hNew
    try simp only [Act.put, pz1, pz2, pz3]
    refine tk 13 ?_; try simp only [Act.put, pz1, pz2, pz3]
    refine wpAnyH_ready (rs := [14]) (by kernel_rfl) (by simp) ?_
    refine AllReadyH.cons (o := ⟨none, .store 3 (.tmp 29) (.tmp 26), 0, "desk.go:148", #[⟨13, .data⟩, ⟨9, .data⟩, ⟨12, .chain⟩, ⟨0, .phase⟩, ⟨1, .phase⟩, ⟨2, .phase⟩, ⟨3, .phase⟩, ⟨4, .phase⟩, ⟨5, .phase⟩, ⟨6, .phase⟩, ⟨7, .phase⟩, ⟨8, .phase⟩, ⟨9, .phase⟩, { on := 10, ground := Ground.textOnly Departure.lateStores }, ⟨11, .phase⟩, ⟨12, .phase⟩], none⟩) rfl (fun K hK => ?_) AllReadyH.nil
    go_simp
    refine hK.out _ _ ?_ (fun hNew => ?_)
    · exact trivial
    clear hK K hHeld
    have hHeld := hNew
    clear hNew
    try simp only [Act.put, pz1, pz2, pz3]
    refine tk 15 ?_; try simp only [Act.put, pz1, pz2, pz3]
    refine wpAnyH_done (by kernel_rfl) ?_ _
    refine NoPanic.normal ?_
    clear hHeld
    change Exit.inBlock 0 _ Exit.normal _ (((((((wN).setCell ⟨w.heap.size + 2, 0, none⟩ (.int .i64 0)).setCell ⟨w.heap.size + 2, 1, none⟩ (.int .i64 0)).setCell ⟨w.heap.size + 2, 2, none⟩ (.int .i64 0)).setCell ⟨w.heap.size + 2, 3, none⟩ (.slice none 0 0)).setCell ⟨w.heap.size + 2, 4, none⟩ (.slice none 0 0)).setCell ⟨w.heap.size + 2, 7, none⟩ (.int .i64 0))
    have hg5 : wN.grownBy (((((((wN).setCell ⟨w.heap.size + 2, 0, none⟩ (.int .i64 0)).setCell ⟨w.heap.size + 2, 1, none⟩ (.int .i64 0)).setCell ⟨w.heap.size + 2, 2, none⟩ (.int .i64 0)).setCell ⟨w.heap.size + 2, 3, none⟩ (.slice none 0 0)).setCell ⟨w.heap.size + 2, 4, none⟩ (.slice none 0 0)).setCell ⟨w.heap.size + 2, 7, none⟩ (.int .i64 0)) (some (w.heap.size + 2)) := grown_set (grown_set (grown_set (grown_set (grown_set (set1_grown wN (w.heap.size + 2) 0 (.int .i64 0)) _ _) _ _) _ _) _ _) _ _
    have B5z := ((((((B5).set_ 0 (.int .i64 0)).set_ 1 (.int .i64 0)).set_ 2 (.int .i64 0)).set_ 3 (.slice none 0 0)).set_ 4 (.slice none 0 0)).set_ 7 (.int .i64 0)
    simp only [List.setIfInBounds_toArray, List.set_cons_zero, List.set_cons_succ] at B5z
    obtain ⟨wz, hwz⟩ : ∃ V : World, V = ((((((wN).setCell ⟨w.heap.size + 2, 0, none⟩ (.int .i64 0)).setCell ⟨w.heap.size + 2, 1, none⟩ (.int .i64 0)).setCell ⟨w.heap.size + 2, 2, none⟩ (.int .i64 0)).setCell ⟨w.heap.size + 2, 3, none⟩ (.slice none 0 0)).setCell ⟨w.heap.size + 2, 4, none⟩ (.slice none 0 0)).setCell ⟨w.heap.size + 2, 7, none⟩ (.int .i64 0) := ⟨_, rfl⟩
    rw [← hwz] at hg5 B5z ⊢
    clear hwz
    have HBz := below_grown HB hg5 (Nat.le_add_right _ 2) HB.size
    have B4z := B4.grownR hg5 (fun e => by injection e; omega)
    (try clear k0 k1 k2 k3 k4 k5 p0 p1 p2 p3 p4 e0 e1 e2 e3 e4 d0 d1 d2 d3 d4 d5 d6 d7 z0 z1 z2 z3 z4 z5 z6 z7 m0 m1 m2 m3 m4 m5 m6 m7 m8 m9 m10)
    have d0 := B5z.cell_ 0
    have d1 := B5z.cell_ 1
    have d2 := B5z.cell_ 2
    have d3 := B5z.cell_ 3
    have d4 := B5z.cell_ 4
    have d5 := B5z.cell_ 5
    have d6 := B5z.cell_ 6
    have d7 := B5z.cell_ 7
    simp at d0 d1 d2 d3 d4 d5 d6 d7
    go_wp2_with (go_at_call 36; ((with_reducible refine (keep_no gd 0 0 0 none none 0 0 0 0 0 0 7 (by decide) wz).mono ?_); rintro e' w9 ⟨rfl, bx⟩; (have B4y := B4z.below bx B4z.lt); (have HBy := btr HBz HBz.size bx); clear bx d0 d1 d2 d3 d4 d5 d6 d7; obtain ⟨p0, p1, p2, p3, p4⟩ := cell5D B4y; have e0 := B4y.free 0; have e1 := B4y.free 1; have e2 := B4y.free 2; have e3 := B4y.free 3; have e4 := B4y.free 4))
    change bodyPost _ _ _ _ _ (st5 w9 (w.heap.size + 1) 0 (.int .i64 7) (.int .i64 0) (.slice none 0 0) (.slice none 0 0) (.slice none 0 0))
    have B2u := B4y.st5_ (.int .i64 7) (.int .i64 0) (.slice none 0 0) (.slice none 0 0) (.slice none 0 0)
    have hg2 := st5_grown w9 (w.heap.size + 1) 0 (.int .i64 7) (.int .i64 0) (.slice none 0 0) (.slice none 0 0) (.slice none 0 0)
    have hb2 := below_grown HBy hg2 (Nat.le_add_right _ 1) HBy.size
    generalize st5 w9 (w.heap.size + 1) 0 (.int .i64 7) (.int .i64 0) (.slice none 0 0) (.slice none 0 0) (.slice none 0 0) = Wd at B2u hg2 hb2 ⊢
    apply bodyPost_ret (v := .agg #[.int .i64 7, .int .i64 0, .slice none 0 0, .slice none 0 0, .slice none 0 0])
    · exact results_cell_row Tryz.results6 _ Wd (w.heap.size + 1) 32 _ (0, 0) _ rfl B2u Tryz.underlying32 rfl (by kernel_rfl)
    · rfl
    · exact ⟨rfl, hb2⟩
theorem sle_off {W : World} {B g : Nat} {t : TypeId} {A : Option Addr} {x : ByteArray} (h : SlE 2 W B A [[.int .i64 1, .string x]]) (hB : Blk W g t #[.int .i64 0, .int .i64 0, .slice none 0 0, .slice none 0 0, .slice none 0 0]) : ∃ b off, A = some ⟨b, off, none⟩ ∧ b < B ∧ b ≠ g := by
  obtain ⟨b, off, e, hlt, hc⟩ := h.at_ (by simp)
  refine ⟨b, off, e, hlt, ?_⟩
  rintro rfl
  have h1 := hc 0 _ rfl 0 _ rfl
  rw [hB.cell_] at h1
  rcases off with _ | _ | _ | _ | _ | off <;> simp at h1
theorem SlE.keepD {C : Nat} {w w' : World} {B g : Nat} {A : Option Addr} {es : List (List Value)} (h : SlE C w B A es) (hg : w.grownBy w' (some g)) (hB : B ≤ w.heap.size) (hne : ∀ b off, A = some ⟨b, off, none⟩ → b ≠ g) : SlE C w' B A es := by
  rcases h with h | ⟨b, off, e, hlt, hc⟩
  · exact Or.inl h
  · exact Or.inr ⟨b, off, e, hlt, fun k x hx j u hu => (World.cell?_of_block (a := ⟨b, _, none⟩) (hg.block b (by omega) (fun e2 => hne b off e (by injection e2)))).trans (hc k x hx j u hu)⟩
theorem do_books (gd : Nat) (zc : Value) (w : World) (hD : DeskI w gd sfA) (hT : Tabs w) :
    Calls Tryz.prog 6 #[.pointer (some ⟨gd, 0, none⟩), .agg #[.int .i64 14, .int .i64 0, .int .i64 0, .string ⟨#[]⟩, zc, .slice none 0 0]] w fun e' w' => ∃ A c, e' = .returned (.agg #[.int .i64 0, .int .i64 0, .slice A 1 c, .slice none 0 0, .slice none 0 0]) ∧ SlE 2 w' w'.heap.size A [[.int .i64 1, .string ⟨#[97]⟩]] ∧ Below w.heap.size w w' := by
  obtain ⟨Ab, cb, An, cn, vm, B7, hS⟩ := hD.ex
  have hgd := B7.lt
  have hD0 := hD
  have hS0 := hS
  have hT0 := hT
  have HB : Below w.heap.size w (((w.alloc (.cells #[.int .i64 14, .int .i64 0, .int .i64 0, .string ⟨#[]⟩, zc, .slice none 0 0] 36)).alloc (.cells #[.int .i64 0, .int .i64 0, .slice none 0 0, .slice none 0 0, .slice none 0 0] 32)).alloc (.cells #[.int .i64 0, .int .i64 0, .int .i64 0, .slice none 0 0, .slice none 0 0, .int .i64 0, .slice none 0 0, .int .i64 0] 60)) := (((Below.refl _ w).alloc (Nat.le_refl _) _).alloc (by simp) _).alloc (by simp; omega) _
  have B3 : Blk (((w.alloc (.cells #[.int .i64 14, .int .i64 0, .int .i64 0, .string ⟨#[]⟩, zc, .slice none 0 0] 36)).alloc (.cells #[.int .i64 0, .int .i64 0, .slice none 0 0, .slice none 0 0, .slice none 0 0] 32)).alloc (.cells #[.int .i64 0, .int .i64 0, .int .i64 0, .slice none 0 0, .slice none 0 0, .int .i64 0, .slice none 0 0, .int .i64 0] 60)) w.heap.size 36 #[.int .i64 14, .int .i64 0, .int .i64 0, .string ⟨#[]⟩, zc, .slice none 0 0] := ((Blk.new_ w 36 #[.int .i64 14, .int .i64 0, .int .i64 0, .string ⟨#[]⟩, zc, .slice none 0 0]).alloc_ _).alloc_ _
  have B4 : Blk (((w.alloc (.cells #[.int .i64 14, .int .i64 0, .int .i64 0, .string ⟨#[]⟩, zc, .slice none 0 0] 36)).alloc (.cells #[.int .i64 0, .int .i64 0, .slice none 0 0, .slice none 0 0, .slice none 0 0] 32)).alloc (.cells #[.int .i64 0, .int .i64 0, .int .i64 0, .slice none 0 0, .slice none 0 0, .int .i64 0, .slice none 0 0, .int .i64 0] 60)) (w.heap.size + 1) 32 #[.int .i64 0, .int .i64 0, .slice none 0 0, .slice none 0 0, .slice none 0 0] := by
    have := (Blk.new_ (w.alloc (.cells #[.int .i64 14, .int .i64 0, .int .i64 0, .string ⟨#[]⟩, zc, .slice none 0 0] 36)) 32 #[.int .i64 0, .int .i64 0, .slice none 0 0, .slice none 0 0, .slice none 0 0]).alloc_ (.cells #[.int .i64 0, .int .i64 0, .int .i64 0, .slice none 0 0, .slice none 0 0, .int .i64 0, .slice none 0 0, .int .i64 0] 60)
    simpa using this
  have B5 : Blk (((w.alloc (.cells #[.int .i64 14, .int .i64 0, .int .i64 0, .string ⟨#[]⟩, zc, .slice none 0 0] 36)).alloc (.cells #[.int .i64 0, .int .i64 0, .slice none 0 0, .slice none 0 0, .slice none 0 0] 32)).alloc (.cells #[.int .i64 0, .int .i64 0, .int .i64 0, .slice none 0 0, .slice none 0 0, .int .i64 0, .slice none 0 0, .int .i64 0] 60)) (w.heap.size + 2) 60 #[.int .i64 0, .int .i64 0, .int .i64 0, .slice none 0 0, .slice none 0 0, .int .i64 0, .slice none 0 0, .int .i64 0] := by
    have := Blk.new_ ((w.alloc (.cells #[.int .i64 14, .int .i64 0, .int .i64 0, .string ⟨#[]⟩, zc, .slice none 0 0] 36)).alloc (.cells #[.int .i64 0, .int .i64 0, .slice none 0 0, .slice none 0 0, .slice none 0 0] 32)) 60 #[.int .i64 0, .int .i64 0, .int .i64 0, .slice none 0 0, .slice none 0 0, .int .i64 0, .slice none 0 0, .int .i64 0]
    simpa using this
  replace B7 := B7.below HB hgd
  clear hD hS hT
  (try clear k0 k1 k2 k3 k4 k5 p0 p1 p2 p3 p4 e0 e1 e2 e3 e4 d0 d1 d2 d3 d4 d5 d6 d7 z0 z1 z2 z3 z4 z5 z6 z7 m0 m1 m2 m3 m4 m5 m6 m7 m8 m9 m10); obtain ⟨k0, k1, k2, k3, k4, k5⟩ := cell6 B3; obtain ⟨p0, p1, p2, p3, p4⟩ := cell5D B4; have e0 := B4.free 0; have e1 := B4.free 1; have e2 := B4.free 2; have e3 := B4.free 3; have e4 := B4.free 4; have d0 := B5.cell_ 0; have d1 := B5.cell_ 1; have d2 := B5.cell_ 2; have d3 := B5.cell_ 3; have d4 := B5.cell_ 4; have d5 := B5.cell_ 5; have d6 := B5.cell_ 6; have d7 := B5.cell_ 7; simp at d0 d1 d2 d3 d4 d5 d6 d7; have z0 := B5.free 0; have z1 := B5.free 1; have z2 := B5.free 2; have z3 := B5.free 3; have z4 := B5.free 4; have z5 := B5.free 5; have z6 := B5.free 6; have z7 := B5.free 7; obtain ⟨m0, m1, m2, m3, m4, m5, m6, m7, m8, m9, m10⟩ := cell11 B7
  go_enter Tryz.func6, Tryz.ntmps6
  go_wp2_with (go_at_call 32; ((with_reducible refine (books_any sfA _ _ ((hS0.below HB).mono HB.size) (Tabs.next hT0 HB) msA (by decide)).mono ?_); rintro e' wN ⟨A, c, its, rfl, hpm, -, hsl, hci, hcm, bx⟩; have hit : its = [⟨1, ⟨#[97]⟩⟩] := List.perm_singleton.1 hpm; subst hit; clear hpm; have HB := btr HB HB.size bx; have B3 := B3.below bx B3.lt; have B4 := B4.below bx B4.lt; have B5 := B5.below bx B5.lt; have B7 := B7.below bx B7.lt; clear bx; (try clear k0 k1 k2 k3 k4 k5 p0 p1 p2 p3 p4 e0 e1 e2 e3 e4 d0 d1 d2 d3 d4 d5 d6 d7 z0 z1 z2 z3 z4 z5 z6 z7 m0 m1 m2 m3 m4 m5 m6 m7 m8 m9 m10); obtain ⟨k0, k1, k2, k3, k4, k5⟩ := cell6 B3; obtain ⟨p0, p1, p2, p3, p4⟩ := cell5D B4; have e0 := B4.free 0; have e1 := B4.free 1; have e2 := B4.free 2; have e3 := B4.free 3; have e4 := B4.free 4; have d0 := B5.cell_ 0; have d1 := B5.cell_ 1; have d2 := B5.cell_ 2; have d3 := B5.cell_ 3; have d4 := B5.cell_ 4; have d5 := B5.cell_ 5; have d6 := B5.cell_ 6; have d7 := B5.cell_ 7; simp at d0 d1 d2 d3 d4 d5 d6 d7; have z0 := B5.free 0; have z1 := B5.free 1; have z2 := B5.free 2; have z3 := B5.free 3; have z4 := B5.free 4; have z5 := B5.free 5; have z6 := B5.free 6; have z7 := B5.free 7; obtain ⟨m0, m1, m2, m3, m4, m5, m6, m7, m8, m9, m10⟩ := cell11 B7))
  change bodyPost _ _ _ _ _ (st5 wN (w.heap.size + 1) 0 (.int .i64 0) (.int .i64 0) (.slice A 1 c) (.slice none 0 0) (.slice none 0 0))
  have B2u := B4.st5_ (.int .i64 0) (.int .i64 0) (.slice A 1 c) (.slice none 0 0) (.slice none 0 0)
  have hg2 := st5_grown wN (w.heap.size + 1) 0 (.int .i64 0) (.int .i64 0) (.slice A 1 c) (.slice none 0 0) (.slice none 0 0)
  have hb2 := below_grown HB hg2 (Nat.le_add_right _ 1) HB.size
  have hsl2 : SlE 2 wN wN.heap.size A [[.int .i64 1, .string ⟨#[97]⟩]] := hsl
  obtain ⟨b9, o9, hA9, -, hne9⟩ := sle_off hsl2 B4
  have hsl3 := (hsl2.keepD hg2 (Nat.le_refl _) (fun b off e => by rw [hA9] at e; cases e; exact hne9)).mono hg2.size
  generalize st5 wN (w.heap.size + 1) 0 (.int .i64 0) (.int .i64 0) (.slice A 1 c) (.slice none 0 0) (.slice none 0 0) = Wd at B2u hg2 hb2 hsl3 ⊢
  apply bodyPost_ret (v := .agg #[.int .i64 0, .int .i64 0, .slice A 1 c, .slice none 0 0, .slice none 0 0])
  · exact results_cell_row Tryz.results6 _ Wd (w.heap.size + 1) 32 _ (0, 0) _ rfl B2u Tryz.underlying32 rfl (by kernel_rfl)
  · rfl
  · exact ⟨A, c, rfl, hsl3, hb2⟩
end Go.Proofs.YtnpinkbbkhllaaaGreatDoor
namespace Go.Proofs.YtnpinkbbkhllaaaGreatDoor
open Go.ChangeShapes Go.WideShapes Go.ChangeAt Go.RowKit
attribute [local go_sem ↓] Go.wp_at_zero Go.wp_at_succ
theorem mayB_z : mayB 0 0 0 0 0 = false := by decide +kernel
theorem new_bad (w : World) : Calls Tryz.prog 12 #[.agg #[.int .i64 0, .int .i64 0, .int .i64 0, .int .i64 0, .int .i64 0]] w fun e' w' => e' = .returned (.pointer none) ∧ Below w.heap.size w w' := by
  have HB : Below w.heap.size w (w.alloc (.cells #[.int .i64 0, .int .i64 0, .int .i64 0, .int .i64 0, .int .i64 0] 48)) := (Below.refl w.heap.size w).alloc (Nat.le_refl _) _
  have B1 : Blk (w.alloc (.cells #[.int .i64 0, .int .i64 0, .int .i64 0, .int .i64 0, .int .i64 0] 48)) w.heap.size 48 #[.int .i64 0, .int .i64 0, .int .i64 0, .int .i64 0, .int .i64 0] := Blk.new_ w 48 #[.int .i64 0, .int .i64 0, .int .i64 0, .int .i64 0, .int .i64 0]
  go_enter Tryz.func12, Tryz.ntmps12
  go_upto_region 1 with fail
  replace HB := drew_below HB
  replace B1 := drew_blk B1
  (try clear g0 g1 g2 g3 g4); obtain ⟨g0, g1, g2, g3, g4⟩ := cell5D B1
  refine wp_region_noPanic ?_
  refine wp_region_held_drew (S := (fun _ => True)) (by kernel_rfl) ?_ (fun hHeld => ?_)
  · exact trivial
  refine wpAnyH_ready (rs := [0, 1]) (by kernel_rfl) (by simp) ?_
  refine (AllReadyH.cons (o := ⟨some 4, .load 48 (.tmp 1), 48, "desk.go:26", #[], none⟩) rfl (fun K hK => ?_) (AllReadyH.cons (o := ⟨some 5, .call { callee := .value (.func 46), args := #[], argTypes := #[] }, 41, "desk.go:26", #[], none⟩) rfl (fun K hK => ?_) AllReadyH.nil))
  · go_simp
    refine hK.out _ _ ?_ (fun hNew => ?_)
    · exact trivial
    clear hK K hHeld
    have hHeld := hNew
    clear hNew
    try simp only [Act.put, pz1, pz2, pz3]
    refine wpAnyH_ready (rs := [1]) (by kernel_rfl) (by simp) ?_
    refine AllReadyH.cons (o := ⟨some 5, .call { callee := .value (.func 46), args := #[], argTypes := #[] }, 41, "desk.go:26", #[], none⟩) rfl (fun K hK => ?_) AllReadyH.nil
    go_simp
    (go_at_call 46; ((with_reducible refine (empty_any _).mono ?_); rintro e' wN ⟨rfl, bx⟩; have HB := btr HB HB.size bx; have B1 := B1.below bx B1.lt; clear bx; (try clear g0 g1 g2 g3 g4); obtain ⟨g0, g1, g2, g3, g4⟩ := cell5D B1))
    go_wp2_with fail
    refine hK.out _ _ ?_ (fun hNew => ?_)
    · exact trivial
    clear hK K hHeld
    have hHeld := hNew
    clear hNew
    try simp only [Act.put, pz1, pz2, pz3]
    refine tk 2 ?_; try simp only [Act.put, pz1, pz2, pz3]
    refine wpAnyH_ready (rs := [3]) (by kernel_rfl) (by simp) ?_
    refine AllReadyH.cons (o := ⟨some 7, .box 54 (.tmp 6), 22, "desk.go:26", #[⟨2, .data⟩], none⟩) rfl (fun K hK => ?_) AllReadyH.nil
    go_simp
    refine hK.out _ _ ?_ (fun hNew => ?_)
    · exact trivial
    clear hK K hHeld
    have hHeld := hNew
    clear hNew
    try simp only [Act.put, pz1, pz2, pz3]
    refine tk 4 ?_; try simp only [Act.put, pz1, pz2, pz3]
    refine wpAnyH_done (by kernel_rfl) ?_ _
    refine NoPanic.normal ?_
    clear hHeld
    have bx : Below wN.heap.size wN (wN.alloc (.cells #[.int .i64 0, .int .i64 0, .int .i64 0, .int .i64 0, .int .i64 0, .int .i64 1, .int .i64 1, .int .i64 1, .slice none 0 0, .slice none 0 0, .map none] 54)) := (Below.refl _ _).alloc (Nat.le_refl _) _
    have HB := btr HB HB.size bx
    have B1 := B1.below bx B1.lt
    clear bx
    (try clear g0 g1 g2 g3 g4); obtain ⟨g0, g1, g2, g3, g4⟩ := cell5D B1
    go_upto_region 2 with fail
    replace HB := drew_below HB
    replace B1 := drew_blk B1
    (try clear g0 g1 g2 g3 g4); obtain ⟨g0, g1, g2, g3, g4⟩ := cell5D B1
    refine wp_region_noPanic ?_
    refine wp_region_held_drew (S := (fun _ => True)) (by kernel_rfl) ?_ (fun hHeld => ?_)
    · exact trivial
    refine wpAnyH_ready (rs := [0]) (by kernel_rfl) (by simp) ?_
    refine AllReadyH.cons (o := ⟨some 8, .load 48 (.tmp 1), 48, "desk.go:27", #[], none⟩) rfl (fun K hK => ?_) AllReadyH.nil
    go_simp
    refine hK.out _ _ ?_ (fun hNew => ?_)
    · exact trivial
    clear hK K hHeld
    have hHeld := hNew
    clear hNew
    try simp only [Act.put, pz1, pz2, pz3]
    refine wpAnyH_ready (rs := [1]) (by kernel_rfl) (by simp) ?_
    refine AllReadyH.cons (o := ⟨some 9, .call { callee := .value (.func 47), args := #[.tmp 8], argTypes := #[48] }, 4, "desk.go:27", #[⟨0, .data⟩], none⟩) rfl (fun K hK => ?_) AllReadyH.nil
    go_simp
    (go_at_call 47; ((with_reducible refine (gmay9_any 0 0 0 0 0 _).mono ?_); rintro e' wN ⟨rfl, bx⟩; rw [mayB_z]; have HB := btr HB HB.size bx; have B1 := B1.below bx B1.lt; clear bx; (try clear g0 g1 g2 g3 g4); obtain ⟨g0, g1, g2, g3, g4⟩ := cell5D B1))
    go_wp2_with fail
    refine hK.out _ _ ?_ (fun hNew => ?_)
    · exact trivial
    clear hK K hHeld
    have hHeld := hNew
    clear hNew
    try simp only [Act.put, pz1, pz2, pz3]
    refine tk 2 ?_; try simp only [Act.put, pz1, pz2, pz3]
    refine tk 3 ?_; try simp only [Act.put, pz1, pz2, pz3]
    refine tu 4 ?_
    try simp only [Act.put, pz1, pz2, pz3]
    refine tu 5 ?_
    try simp only [Act.put, pz1, pz2, pz3]
    refine tu 6 ?_
    try simp only [Act.put, pz1, pz2, pz3]
    refine tu 7 ?_
    try simp only [Act.put, pz1, pz2, pz3]
    refine tu 8 ?_
    try simp only [Act.put, pz1, pz2, pz3]
    refine tk 9 ?_; try simp only [Act.put, pz1, pz2, pz3]
    refine wpAnyH_done (by kernel_rfl) ?_ _
    refine NoPanic.normal ?_
    clear hHeld
    go_wp2_with fail
    go_ret
    exact ⟨rfl, HB⟩
  · go_simp
    (go_at_call 46; ((with_reducible refine (empty_any _).mono ?_); rintro e' wN ⟨rfl, bx⟩; have HB := btr HB HB.size bx; have B1 := B1.below bx B1.lt; clear bx; (try clear g0 g1 g2 g3 g4); obtain ⟨g0, g1, g2, g3, g4⟩ := cell5D B1))
    go_wp2_with fail
    refine hK.out _ _ ?_ (fun hNew => ?_)
    · exact trivial
    clear hK K hHeld
    have hHeld := hNew
    clear hNew
    try simp only [Act.put, pz1, pz2, pz3]
    refine wpAnyH_ready (rs := [0]) (by kernel_rfl) (by simp) ?_
    refine AllReadyH.cons (o := ⟨some 4, .load 48 (.tmp 1), 48, "desk.go:26", #[], none⟩) rfl (fun K hK => ?_) AllReadyH.nil
    go_simp
    refine hK.out _ _ ?_ (fun hNew => ?_)
    · exact trivial
    clear hK K hHeld
    have hHeld := hNew
    clear hNew
    try simp only [Act.put, pz1, pz2, pz3]
    refine tk 2 ?_; try simp only [Act.put, pz1, pz2, pz3]
    refine wpAnyH_ready (rs := [3]) (by kernel_rfl) (by simp) ?_
    refine AllReadyH.cons (o := ⟨some 7, .box 54 (.tmp 6), 22, "desk.go:26", #[⟨2, .data⟩], none⟩) rfl (fun K hK => ?_) AllReadyH.nil
    go_simp
    refine hK.out _ _ ?_ (fun hNew => ?_)
    · exact trivial
    clear hK K hHeld
    have hHeld := hNew
    clear hNew
    try simp only [Act.put, pz1, pz2, pz3]
    refine tk 4 ?_; try simp only [Act.put, pz1, pz2, pz3]
    refine wpAnyH_done (by kernel_rfl) ?_ _
    refine NoPanic.normal ?_
    clear hHeld
    have bx : Below wN.heap.size wN (wN.alloc (.cells #[.int .i64 0, .int .i64 0, .int .i64 0, .int .i64 0, .int .i64 0, .int .i64 1, .int .i64 1, .int .i64 1, .slice none 0 0, .slice none 0 0, .map none] 54)) := (Below.refl _ _).alloc (Nat.le_refl _) _
    have HB := btr HB HB.size bx
    have B1 := B1.below bx B1.lt
    clear bx
    (try clear g0 g1 g2 g3 g4); obtain ⟨g0, g1, g2, g3, g4⟩ := cell5D B1
    go_upto_region 2 with fail
    replace HB := drew_below HB
    replace B1 := drew_blk B1
    (try clear g0 g1 g2 g3 g4); obtain ⟨g0, g1, g2, g3, g4⟩ := cell5D B1
    refine wp_region_noPanic ?_
    refine wp_region_held_drew (S := (fun _ => True)) (by kernel_rfl) ?_ (fun hHeld => ?_)
    · exact trivial
    refine wpAnyH_ready (rs := [0]) (by kernel_rfl) (by simp) ?_
    refine AllReadyH.cons (o := ⟨some 8, .load 48 (.tmp 1), 48, "desk.go:27", #[], none⟩) rfl (fun K hK => ?_) AllReadyH.nil
    go_simp
    refine hK.out _ _ ?_ (fun hNew => ?_)
    · exact trivial
    clear hK K hHeld
    have hHeld := hNew
    clear hNew
    try simp only [Act.put, pz1, pz2, pz3]
    refine wpAnyH_ready (rs := [1]) (by kernel_rfl) (by simp) ?_
    refine AllReadyH.cons (o := ⟨some 9, .call { callee := .value (.func 47), args := #[.tmp 8], argTypes := #[48] }, 4, "desk.go:27", #[⟨0, .data⟩], none⟩) rfl (fun K hK => ?_) AllReadyH.nil
    go_simp
    (go_at_call 47; ((with_reducible refine (gmay9_any 0 0 0 0 0 _).mono ?_); rintro e' wN ⟨rfl, bx⟩; rw [mayB_z]; have HB := btr HB HB.size bx; have B1 := B1.below bx B1.lt; clear bx; (try clear g0 g1 g2 g3 g4); obtain ⟨g0, g1, g2, g3, g4⟩ := cell5D B1))
    go_wp2_with fail
    refine hK.out _ _ ?_ (fun hNew => ?_)
    · exact trivial
    clear hK K hHeld
    have hHeld := hNew
    clear hNew
    try simp only [Act.put, pz1, pz2, pz3]
    refine tk 2 ?_; try simp only [Act.put, pz1, pz2, pz3]
    refine tk 3 ?_; try simp only [Act.put, pz1, pz2, pz3]
    refine tu 4 ?_
    try simp only [Act.put, pz1, pz2, pz3]
    refine tu 5 ?_
    try simp only [Act.put, pz1, pz2, pz3]
    refine tu 6 ?_
    try simp only [Act.put, pz1, pz2, pz3]
    refine tu 7 ?_
    try simp only [Act.put, pz1, pz2, pz3]
    refine tu 8 ?_
    try simp only [Act.put, pz1, pz2, pz3]
    refine tk 9 ?_; try simp only [Act.put, pz1, pz2, pz3]
    refine wpAnyH_done (by kernel_rfl) ?_ _
    refine NoPanic.normal ?_
    clear hHeld
    go_wp2_with fail
    go_ret
    exact ⟨rfl, HB⟩
theorem eqi_nd (d gd : Nat) (w : World) : (Op.equalIn (d + 1) 22 (.pointer none) (.pointer (some ⟨gd, 0, none⟩))).run Tryz.prog w = .ok false w := by
  simp [Op.equalIn, run_underlying (P := Tryz.prog) (show Tryz.prog.underlying 22 = some (.pointer 54) by kernel_rfl)]
theorem eql_nd (gd : Nat) (w : World) : (binOp .eql 22 (.pointer none) (.pointer (some ⟨gd, 0, none⟩))).run Tryz.prog w = .ok (.bool false) w := by
  have h2 : (Op.equal 22 (.pointer none) (.pointer (some ⟨gd, 0, none⟩))).run Tryz.prog w = .ok false w := eqi_nd 9999 gd w
  simp only [binOp]
  simp [h2]
theorem sheet_nil (z : Int) (w : World) : Calls Tryz.prog 4 #[.pointer none, .int .i64 z] w fun e' w' => e' = .returned (.tuple #[.slice none 0 0, .bool false]) ∧ Below w.heap.size w w' := by
  go_enter Tryz.func4, Tryz.ntmps4
  go_wp2
  go_ret2
  exact ⟨rfl, Below.refl _ _⟩
theorem shelf_nil (w : World) : Calls Tryz.prog 8 #[.pointer none] w fun e' w' => e' = .returned (.agg #[.int .i64 0, .int .i64 0, .int .i64 0, .slice none 0 0, .slice none 0 0]) ∧ Below w.heap.size w w' := by
  go_enter Tryz.func8, Tryz.ntmps8
  go_wp2_with fail
  change bodyPost _ _ _ _ _ (w.alloc (.cells #[.int .i64 0, .int .i64 0, .int .i64 0, .slice none 0 0, .slice none 0 0] 41))
  have B2u : Blk (w.alloc (.cells #[.int .i64 0, .int .i64 0, .int .i64 0, .slice none 0 0, .slice none 0 0] 41)) w.heap.size 41 #[.int .i64 0, .int .i64 0, .int .i64 0, .slice none 0 0, .slice none 0 0] := Blk.new_ w 41 #[.int .i64 0, .int .i64 0, .int .i64 0, .slice none 0 0, .slice none 0 0]
  have hb2 : Below w.heap.size w (w.alloc (.cells #[.int .i64 0, .int .i64 0, .int .i64 0, .slice none 0 0, .slice none 0 0] 41)) := (Below.refl _ w).alloc (Nat.le_refl _) _
  generalize w.alloc (.cells #[.int .i64 0, .int .i64 0, .int .i64 0, .slice none 0 0, .slice none 0 0] 41) = Wd at B2u hb2 ⊢
  apply bodyPost_ret (v := .agg #[.int .i64 0, .int .i64 0, .int .i64 0, .slice none 0 0, .slice none 0 0])
  · exact results_cell_row Tryz.results8 _ Wd w.heap.size 41 _ (0, 0) _ rfl B2u Tryz.underlying41 rfl (by kernel_rfl)
  · rfl
  · exact ⟨rfl, hb2⟩
theorem need_nil (w : World) : Calls Tryz.prog 9 #[.pointer none] w fun e' w' => e' = .returned (.int .i64 0) ∧ Below w.heap.size w w' := by
  go_enter Tryz.func9, Tryz.ntmps9
  go_wp2
  go_ret
  exact ⟨rfl, Below.refl _ _⟩
theorem copy_nil (w : World) : Calls Tryz.prog 10 #[.pointer none] w fun e' w' => e' = .returned (.pointer none) ∧ Below w.heap.size w w' := by
  go_enter Tryz.func10, Tryz.ntmps10
  go_wp2
  go_ret
  exact ⟨rfl, Below.refl _ _⟩
theorem same_nn (w : World) : Calls Tryz.prog 11 #[.pointer none, .pointer none] w fun e' w' => e' = .returned (.bool true) ∧ Below w.heap.size w w' := by
  go_enter Tryz.func11, Tryz.ntmps11
  go_wp2
  go_ret
  exact ⟨rfl, Below.refl _ _⟩
theorem same_nd (gd : Nat) (w : World) : Calls Tryz.prog 11 #[.pointer none, .pointer (some ⟨gd, 0, none⟩)] w fun e' w' => e' = .returned (.bool false) ∧ Below w.heap.size w w' := by
  have hq := fun W => eql_nd gd W
  go_enter Tryz.func11, Tryz.ntmps11
  go_wp2
  go_ret
  exact ⟨rfl, Below.refl _ _⟩
theorem small20 (w : World) : Calls Tryz.prog 13 #[] w fun e' w' => e' = .returned (.agg #[.int .i64 8, .int .i64 4, .int .i64 32, .int .i64 0, .int .i64 2]) ∧ Below w.heap.size w w' := by
  go_enter Tryz.func13, Tryz.ntmps13
  go_wp2
  exact bodyPost_ret (v := .agg #[.int .i64 8, .int .i64 4, .int .i64 32, .int .i64 0, .int .i64 2]) (by simp [results, Tryz.results13, go_sem]) rfl ⟨rfl, (Below.refl _ _).alloc (Nat.le_refl _) _⟩
theorem sheet_nn (w : World) : Calls Tryz.prog 18 #[.slice none 0 0, .slice none 0 0] w fun e' w' => e' = .returned (.bool true) ∧ Below w.heap.size w w' := by
  go_enter Tryz.func18, Tryz.ntmps18
  go_wp2
  go_loop [5] (fun i => i = .int .i64 0) (fun i => 0)
  case atStart => rfl
  case round =>
    obtain rfl := hrel
    go_wp2
    go_ret
    exact ⟨rfl, Below.refl _ _⟩
theorem texts_nn (w : World) : Calls Tryz.prog 17 #[.slice none 0 0, .slice none 0 0] w fun e' w' => e' = .returned (.bool true) ∧ Below w.heap.size w w' := sameTexts_yes [] none none 0 0 w (by decide) (Or.inl rfl) (Or.inl rfl)
theorem sameReply_yes (c n : Int) (L : List It) (m : Nat) (hm : L.length = m) (m1 : m ≤ 1000) (A1 A2 : Option Addr) (k1 k2 : Nat) (w : World) (h1 : SlE 2 w w.heap.size A1 (L.map itC)) (h2 : SlE 2 w w.heap.size A2 (L.map itC)) :
    Calls Tryz.prog 5 #[.agg #[.int .i64 c, .int .i64 n, .slice A1 m k1, .slice none 0 0, .slice none 0 0], .agg #[.int .i64 c, .int .i64 n, .slice A2 m k2, .slice none 0 0, .slice none 0 0]] w fun e' w' => e' = .returned (.bool true) ∧ Below w.heap.size w w' := by
  have HM := Lib.hid hm
  have H1 := Lib.hid h1
  have H2 := Lib.hid h2
  have HB : Below w.heap.size w ((w.alloc (.cells #[.int .i64 c, .int .i64 n, .slice A1 m k1, .slice none 0 0, .slice none 0 0] 32)).alloc (.cells #[.int .i64 c, .int .i64 n, .slice A2 m k2, .slice none 0 0, .slice none 0 0] 32)) := ((Below.refl _ w).alloc (Nat.le_refl _) _).alloc (by simp) _
  have B1 : Blk ((w.alloc (.cells #[.int .i64 c, .int .i64 n, .slice A1 m k1, .slice none 0 0, .slice none 0 0] 32)).alloc (.cells #[.int .i64 c, .int .i64 n, .slice A2 m k2, .slice none 0 0, .slice none 0 0] 32)) w.heap.size 32 #[.int .i64 c, .int .i64 n, .slice A1 m k1, .slice none 0 0, .slice none 0 0] := (Blk.new_ w 32 #[.int .i64 c, .int .i64 n, .slice A1 m k1, .slice none 0 0, .slice none 0 0]).alloc_ _
  have B2 : Blk ((w.alloc (.cells #[.int .i64 c, .int .i64 n, .slice A1 m k1, .slice none 0 0, .slice none 0 0] 32)).alloc (.cells #[.int .i64 c, .int .i64 n, .slice A2 m k2, .slice none 0 0, .slice none 0 0] 32)) (w.heap.size + 1) 32 #[.int .i64 c, .int .i64 n, .slice A2 m k2, .slice none 0 0, .slice none 0 0] := by
    have := Blk.new_ (w.alloc (.cells #[.int .i64 c, .int .i64 n, .slice A1 m k1, .slice none 0 0, .slice none 0 0] 32)) 32 #[.int .i64 c, .int .i64 n, .slice A2 m k2, .slice none 0 0, .slice none 0 0]
    simpa using this
  (try clear k0 k1_ k2_ k3 k4 r0 r1 r2 r3 r4); obtain ⟨k0, k1_, k2_, k3, k4⟩ := cell5D B1; obtain ⟨r0, r1, r2, r3, r4⟩ := cell5D B2
  clear hm h1 h2
  go_enter Tryz.func5, Tryz.ntmps5
  go_wp2_with (first | (go_at_call 16; ((with_reducible refine (sameItems_yes L _ _ m _ _ _ HM.out (by omega) (SlE.mono (SlE.below H1.out HB) HB.size) (SlE.mono (SlE.below H2.out HB) HB.size)).mono ?_); rintro e' wN ⟨rfl, bx⟩; have HB := btr HB HB.size bx; have B1 := B1.below bx B1.lt; have B2 := B2.below bx B2.lt; clear bx; (try clear k0 k1_ k2_ k3 k4 r0 r1 r2 r3 r4); obtain ⟨k0, k1_, k2_, k3, k4⟩ := cell5D B1; obtain ⟨r0, r1, r2, r3, r4⟩ := cell5D B2)) | (go_at_call 17; ((with_reducible refine (texts_nn _).mono ?_); rintro e' wN ⟨rfl, bx⟩; have HB := btr HB HB.size bx; have B1 := B1.below bx B1.lt; have B2 := B2.below bx B2.lt; clear bx; (try clear k0 k1_ k2_ k3 k4 r0 r1 r2 r3 r4); obtain ⟨k0, k1_, k2_, k3, k4⟩ := cell5D B1; obtain ⟨r0, r1, r2, r3, r4⟩ := cell5D B2)) | (go_at_call 18; ((with_reducible refine (sheet_nn _).mono ?_); rintro e' wN ⟨rfl, bx⟩; have HB := btr HB HB.size bx; have B1 := B1.below bx B1.lt; have B2 := B2.below bx B2.lt; clear bx; (try clear k0 k1_ k2_ k3 k4 r0 r1 r2 r3 r4); obtain ⟨k0, k1_, k2_, k3, k4⟩ := cell5D B1; obtain ⟨r0, r1, r2, r3, r4⟩ := cell5D B2)))
  go_ret
  exact ⟨rfl, HB⟩
theorem sle_nil {w : World} {B : Nat} {A : Option Addr} : SlE 2 w B A (([] : List It).map itC) := Or.inl rfl
theorem sle_it (w : World) : SlE 2 (w.alloc (.cells #[.int .i64 1, .string ⟨#[97]⟩] 92)) (w.alloc (.cells #[.int .i64 1, .string ⟨#[97]⟩] 92)).heap.size (some ⟨w.heap.size, 0, none⟩) (([⟨1, ⟨#[97]⟩⟩] : List It).map itC) := by
  refine Or.inr ⟨w.heap.size, 0, rfl, by simp, fun k x hk j u hu => ?_⟩
  cases k with
  | succ k => simp at hk
  | zero =>
    simp at hk
    subst hk
    rw [Joins.cell_of_block (heap_alloc_new w _)]
    simpa [itC] using hu
theorem awake20 (w : World) (hT : Tabs w) : Calls Tryz.prog 14 #[] w fun e' w' => e' = .returned (.bool true) ∧ Below w.heap.size w w' := by
  have hT0 := hT
  have HB : Below w.heap.size w w := Below.refl _ _
  clear hT
  go_enter Tryz.func14, Tryz.ntmps14
  go_upto_region 4 with (first | (go_at_call 13; ((with_reducible refine (small20 _).mono ?_); rintro e' wN ⟨rfl, bx⟩; have HB := btr HB HB.size bx; clear bx)) | (go_at_call 12; ((with_reducible refine (new_small _ (Tabs.next hT0 HB)).mono ?_); rintro e' wN ⟨gd, rfl, hgd, HD, bx⟩; have hgd := Nat.le_trans HB.size hgd; have HB := btr HB HB.size bx; clear bx)))
  go_upto_region 5 with (go_at_call 6; ((with_reducible refine (do_book1 gd _ _ HD (Tabs.next hT0 HB)).mono ?_); rintro e' wN ⟨rfl, hD2, hG⟩; have HB := below_grown HB hG hgd HB.size; clear HD hG; have HD := hD2; clear hD2; have bx : Below wN.heap.size wN (wN.alloc (.cells #[.int .i64 0, .int .i64 1, .slice none 0 0, .slice none 0 0, .slice none 0 0] 32)) := (Below.refl _ _).alloc (Nat.le_refl _) _; have C1 : Blk (wN.alloc (.cells #[.int .i64 0, .int .i64 1, .slice none 0 0, .slice none 0 0, .slice none 0 0] 32)) wN.heap.size 32 #[.int .i64 0, .int .i64 1, .slice none 0 0, .slice none 0 0, .slice none 0 0] := Blk.new_ _ _ _; have HB := btr HB HB.size bx; have HD := HD.next bx; clear bx; obtain ⟨ka0, ka1, ka2, ka3, ka4⟩ := cell5D C1))
  go_upto_region 6 with (go_at_call 6; ((with_reducible refine (do_book2 gd _ _ HD (Tabs.next hT0 HB)).mono ?_); rintro e' wN ⟨rfl, bx⟩; have HB := btr HB HB.size bx; have HD := HD.next bx; have C1 := C1.below bx C1.lt; clear bx; (try clear ka0 ka1 ka2 ka3 ka4); obtain ⟨ka0, ka1, ka2, ka3, ka4⟩ := cell5D C1; have bx : Below wN.heap.size wN (wN.alloc (.cells #[.int .i64 7, .int .i64 0, .slice none 0 0, .slice none 0 0, .slice none 0 0] 32)) := (Below.refl _ _).alloc (Nat.le_refl _) _; have C2 : Blk (wN.alloc (.cells #[.int .i64 7, .int .i64 0, .slice none 0 0, .slice none 0 0, .slice none 0 0] 32)) wN.heap.size 32 #[.int .i64 7, .int .i64 0, .slice none 0 0, .slice none 0 0, .slice none 0 0] := Blk.new_ _ _ _; have HB := btr HB HB.size bx; have HD := HD.next bx; have C1 := C1.below bx C1.lt; clear bx; (try clear ka0 ka1 ka2 ka3 ka4); obtain ⟨ka0, ka1, ka2, ka3, ka4⟩ := cell5D C1; obtain ⟨kb0, kb1, kb2, kb3, kb4⟩ := cell5D C2))
  go_upto_region 7 with (go_at_call 6; ((with_reducible refine (do_books gd _ _ HD (Tabs.next hT0 HB)).mono ?_); rintro e' wN ⟨A3, c3, rfl, hsl, bx⟩; have HB := btr HB HB.size bx; have HD := HD.next bx; have C1 := C1.below bx C1.lt; have C2 := C2.below bx C2.lt; clear bx; (try clear ka0 ka1 ka2 ka3 ka4 kb0 kb1 kb2 kb3 kb4); obtain ⟨ka0, ka1, ka2, ka3, ka4⟩ := cell5D C1; obtain ⟨kb0, kb1, kb2, kb3, kb4⟩ := cell5D C2; have hsz9 := Nat.le_refl wN.heap.size; have bx : Below wN.heap.size wN (wN.alloc (.cells #[.int .i64 0, .int .i64 0, .slice A3 1 c3, .slice none 0 0, .slice none 0 0] 32)) := (Below.refl _ _).alloc (Nat.le_refl _) _; have C3 : Blk (wN.alloc (.cells #[.int .i64 0, .int .i64 0, .slice A3 1 c3, .slice none 0 0, .slice none 0 0] 32)) wN.heap.size 32 #[.int .i64 0, .int .i64 0, .slice A3 1 c3, .slice none 0 0, .slice none 0 0] := Blk.new_ _ _ _; have hsl := SlE.next hsl bx; have HB := btr HB HB.size bx; have HD := HD.next bx; have C1 := C1.below bx C1.lt; have C2 := C2.below bx C2.lt; clear bx; (try clear ka0 ka1 ka2 ka3 ka4 kb0 kb1 kb2 kb3 kb4); obtain ⟨ka0, ka1, ka2, ka3, ka4⟩ := cell5D C1; obtain ⟨kb0, kb1, kb2, kb3, kb4⟩ := cell5D C2; obtain ⟨kc0, kc1, kc2, kc3, kc4⟩ := cell5D C3))
  go_wp2_with (first | (go_at_call 5; ((with_reducible refine (sameReply_yes _ _ [] 0 rfl (by decide) _ _ _ _ _ sle_nil sle_nil).mono ?_); rintro e' wN ⟨rfl, bx⟩; have HB := btr HB HB.size bx; have HD := HD.next bx; have C1 := C1.below bx C1.lt; have C2 := C2.below bx C2.lt; have C3 := C3.below bx C3.lt; have hsl := SlE.next hsl bx; clear bx; (try clear ka0 ka1 ka2 ka3 ka4 kb0 kb1 kb2 kb3 kb4 kc0 kc1 kc2 kc3 kc4); obtain ⟨ka0, ka1, ka2, ka3, ka4⟩ := cell5D C1; obtain ⟨kb0, kb1, kb2, kb3, kb4⟩ := cell5D C2; obtain ⟨kc0, kc1, kc2, kc3, kc4⟩ := cell5D C3)) | (go_at_call 5; ((with_reducible refine (sameReply_yes _ _ [⟨1, ⟨#[97]⟩⟩] 1 rfl (by decide) _ _ _ _ _ (SlE.next hsl ((Below.refl _ _).alloc (Nat.le_refl _) (.cells #[.int .i64 1, .string ⟨#[97]⟩] 92))) (sle_it _)).mono ?_); rintro e' wN ⟨rfl, bx⟩; have bx := ((Below.refl _ _).alloc (Nat.le_refl _) (.cells #[.int .i64 1, .string ⟨#[97]⟩] 92)).trans (bx.mono (by simp)); clear hsl; have HB := btr HB HB.size bx; have HD := HD.next bx; have C1 := C1.below bx C1.lt; have C2 := C2.below bx C2.lt; have C3 := C3.below bx C3.lt; clear bx; (try clear ka0 ka1 ka2 ka3 ka4 kb0 kb1 kb2 kb3 kb4 kc0 kc1 kc2 kc3 kc4); obtain ⟨ka0, ka1, ka2, ka3, ka4⟩ := cell5D C1; obtain ⟨kb0, kb1, kb2, kb3, kb4⟩ := cell5D C2; obtain ⟨kc0, kc1, kc2, kc3, kc4⟩ := cell5D C3)) | (go_at_call 9; ((with_reducible refine (need_small sfA gd _ HD (Tabs.next hT0 HB) mfA rfl 16 szA (by decide)).mono ?_); rintro e' wN ⟨rfl, bx⟩; have HB := btr HB HB.size bx; have HD := HD.next bx; have C1 := C1.below bx C1.lt; have C2 := C2.below bx C2.lt; have C3 := C3.below bx C3.lt; clear bx; (try clear ka0 ka1 ka2 ka3 ka4 kb0 kb1 kb2 kb3 kb4 kc0 kc1 kc2 kc3 kc4); obtain ⟨ka0, ka1, ka2, ka3, ka4⟩ := cell5D C1; obtain ⟨kb0, kb1, kb2, kb3, kb4⟩ := cell5D C2; obtain ⟨kc0, kc1, kc2, kc3, kc4⟩ := cell5D C3)) | (go_at_call 12; ((with_reducible refine (new_bad _).mono ?_); rintro e' wN ⟨rfl, bx⟩; have HB := btr HB HB.size bx; clear bx)))
  go_ret
  exact ⟨rfl, HB⟩
def sfZ2 : Sf := ⟨0, 0, 0, [], []⟩
theorem shr_zz (w : World) : ShR w w.heap.size (.agg #[.int .i64 0, .int .i64 0, .int .i64 0, .slice none 0 0, .slice none 0 0]) sfZ2 := ⟨none, 0, none, 0, rfl, Or.inl rfl, ⟨[], rfl, Or.inl rfl, fun k n e h => by simp [sfZ2] at h⟩, by decide, by decide, by decide, by decide⟩
theorem none_walk (y : Int) (w : World) (hy : i64in y) (hT : Tabs w) : Calls Tryz.prog 3 #[.int .i64 y] w fun e' w' => e' = .returned (.bool true) ∧ Below w.heap.size w w' := by
  have hT0 := hT
  have HB : Below w.heap.size w w := Below.refl _ _
  clear hT
  go_enter Tryz.func3, Tryz.ntmps3
  go_wp2_with (first | (go_at_call 4; ((with_reducible refine (sheet_nil _ _).mono ?_); rintro e' wN ⟨rfl, bx⟩; have HB := btr HB HB.size bx; clear bx)) | (go_at_call 6; ((with_reducible refine (do_nil _ _ _).mono ?_); rintro e' wN ⟨rfl, bx⟩; have HB := btr HB HB.size bx; clear bx)) | (go_at_call 5; ((with_reducible refine (sameReply_yes _ _ [] 0 rfl (by decide) _ _ _ _ _ sle_nil sle_nil).mono ?_); rintro e' wN ⟨rfl, bx⟩; have HB := btr HB HB.size bx; clear bx)) | (go_at_call 8; ((with_reducible refine (shelf_nil _).mono ?_); rintro e' wN ⟨rfl, bx⟩; have HB := btr HB HB.size bx; clear bx)) | (go_at_call 7; ((with_reducible refine (sameShelf_yes sfZ2 _ _ _ (shr_zz _) (shr_zz _) (by decide) (by decide) (by intro n hn; simp [sfZ2] at hn)).mono ?_); rintro e' wN ⟨rfl, bx⟩; have HB := btr HB HB.size bx; clear bx)) | (go_at_call 9; ((with_reducible refine (need_nil _).mono ?_); rintro e' wN ⟨rfl, bx⟩; have HB := btr HB HB.size bx; clear bx)) | (go_at_call 10; ((with_reducible refine (copy_nil _).mono ?_); rintro e' wN ⟨rfl, bx⟩; have HB := btr HB HB.size bx; clear bx)) | (go_at_call 11; ((with_reducible refine (same_nn _).mono ?_); rintro e' wN ⟨rfl, bx⟩; have HB := btr HB HB.size bx; clear bx)) | (go_at_call 11; ((with_reducible refine (same_nd _ _).mono ?_); rintro e' wN ⟨rfl, bx⟩; have HB := btr HB HB.size bx; clear bx)) | (go_at_call 13; ((with_reducible refine (small20 _).mono ?_); rintro e' wN ⟨rfl, bx⟩; have HB := btr HB HB.size bx; clear bx)) | (go_at_call 12; ((with_reducible refine (new_small _ (Tabs.next hT0 HB)).mono ?_); rintro e' wN ⟨gd, rfl, -, -, bx⟩; have HB := btr HB HB.size bx; clear bx)) | (go_at_call 14; ((with_reducible refine (awake20 _ (Tabs.next hT0 HB)).mono ?_); rintro e' wN ⟨rfl, bx⟩; have HB := btr HB HB.size bx; clear bx)))
  go_ret
  exact ⟨rfl, HB⟩
end Go.Proofs.YtnpinkbbkhllaaaGreatDoor
namespace Go.Proofs.YtnpinkbbkhllaaaGreatDoor
open Go.ChangeShapes Go.WideShapes Go.ChangeAt Go.RowKit
theorem acc_eq : Rows.laid_unicode_utf8_acceptRanges = Lib.acceptData := by kernel_rfl
theorem first_eq : Rows.laid_unicode_utf8_first = Lib.firstData := Pinned.utf8First_eq
def laidTabs : List (String × DataW Unit) := [("unicode/utf8.acceptRanges", Lib.acceptData), ("unicode/utf8.first", Lib.firstData)]
theorem laid_eq : [("unicode/utf8.acceptRanges", Rows.laid_unicode_utf8_acceptRanges), ("unicode/utf8.first", Rows.laid_unicode_utf8_first)] = laidTabs := by rw [acc_eq, first_eq]; rfl
noncomputable def laidWorld (os : Os) : World :=
  let w0 := World.holding Tryz.prog os ⟨#[], #[], []⟩
  let put (h : Array Obj) (g : Nat) (cs : Array Value) : Array Obj := h.modify g fun
    | .cells _ t frozen => .cells cs t frozen
    | o => o
  let h1 := put w0.heap 0 (Lib.firstTab.map fun z => Value.int .u8 z).toArray
  let h2 := put h1 1 ((List.range 16).flatMap fun i => [Value.int .u8 (Lib.accLo i), Value.int .u8 (Lib.accHi i)]).toArray
  { w0 with heap := h2 }
theorem noHandle (w : World) : laidMetH Tryz.prog laidTabs w ↔ laidMet Tryz.prog laidTabs w := by
  have e : (laidTabs.filter fun x => x.2.handleName?.isSome) = [] := by kernel_rfl
  unfold laidMetH
  rw [e]
theorem laid_met (os : Os) (args : Array Value) : laidMetH Tryz.prog [("unicode/utf8.acceptRanges", Rows.laid_unicode_utf8_acceptRanges), ("unicode/utf8.first", Rows.laid_unicode_utf8_first)] ((laidWorld os).forCall (fun _ _ => 0) ⟨#[], args, []⟩).memory := by
  rw [laid_eq, noHandle]
  exact (LaidIn.of_run (l := laidTabs) [0, 1] 8 (by kernel_rfl) (by kernel_rfl) (by kernel_rfl) (by kernel_rfl)).met
theorem tabs_of {W : World} (h : laidMetH Tryz.prog [("unicode/utf8.acceptRanges", Rows.laid_unicode_utf8_acceptRanges), ("unicode/utf8.first", Rows.laid_unicode_utf8_first)] W) : Tabs W := by
  rw [laid_eq, noHandle] at h
  exact utf8Tabs_of_readsT (U8Types.of196 Tryz.laysValid) ⟨by kernel_rfl, by kernel_rfl, by kernel_rfl, by kernel_rfl, by kernel_rfl, by kernel_rfl, by kernel_rfl⟩ (Lib.laidMet.reads h (.tail _ (.head _))) (Lib.laidMet.reads h (.head _))
end Go.Proofs.YtnpinkbbkhllaaaGreatDoor
