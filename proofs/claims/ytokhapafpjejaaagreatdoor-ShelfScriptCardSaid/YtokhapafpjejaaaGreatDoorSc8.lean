/- The law ShelfScript. -/
import Derived.Test.YtokhapafpjejaaaGreatDoorSc7
import Derived.Test.YtokhapafpjejaaaGreatDoorSc1
import Derived.Test.YtokhapafpjejaaaGreatDoorRows
import Derived.SevenTiedAt
import Derived.LaidHandle
import Derived.Lib.LaidIn
import Derived.Lib.LaidU8T
import Derived.PinnedBridge
import Derived.ChangeMaps5
set_option linter.unusedSimpArgs false
set_option linter.unusedVariables false
set_option maxRecDepth 100000
set_option maxHeartbeats 16000000
namespace Go.Proofs.YtokhapafpjejaaaGreatDoor
open Go.ChangeShapes Go.WideShapes Go.ChangeAt Go.RowKit
attribute [local go_sem ↓] Go.wp_at_zero Go.wp_at_succ
theorem great60_any (l : List Ac) (A : Option Addr) (cp : Nat) (w : World) (hS : SlE 4 w w.heap.size A (l.map acC)) (hc : l.length ≤ cp) (hm : cp ≤ maxLen) (T : Bool) (hT : greatA l 60 = T) :
    Calls Tryz.prog 6 #[.slice A l.length cp, .int .i64 60] w fun e' w' => e' = .returned (.bool T) ∧ Below w.heap.size w w' := by
  refine (great_any l 60 (by decide) A cp w hS hc hm T hT).mono ?_
  rintro e' w' ⟨h, h2⟩
  exact ⟨h, by rw [h2]; exact Below.refl _ _⟩
theorem sf0W (w : World) (base : Nat) : ShW w base (.agg #[.int .i64 1, .int .i64 1, .int .i64 1, .slice none 0 0, .slice none 0 0]) sf0 := ShW.make (s := sf0) (w := w) (base := base) (vb := .slice none 0 0) (vn := .slice none 0 0) (World.ownsRow_nil _ _ _ _) ⟨[], rfl, World.ownsRow_nil _ _ _ _, fun k n e a _ => by simp [sf0] at a⟩
theorem script_walk (A : Option Addr) (cp : Nat) (l : List Ac) (w : World) (hc : l.length ≤ cp) (hm : cp ≤ maxLen) (hS : SlE 4 w w.heap.size A (l.map acC)) (hT : Tabs w) :
    Calls Tryz.prog 4 #[.slice A l.length cp] w fun e' w' => e' = .returned (.bool true) ∧ Below w.heap.size w w' := by
  obtain ⟨G, hG⟩ : ∃ G, greatA l 60 = G := ⟨_, rfl⟩
  have HG := Lib.hid hG
  cases G
  · obtain ⟨hl60, hbig⟩ : ¬ 60 < l.length ∧ l.any bigA = false := by
      unfold greatA at hG
      rw [Bool.or_eq_false_iff, decide_eq_false_iff_not] at hG
      exact hG
    have HBG := Lib.hid hbig
    clear hbig hG
    go_enter Tryz.func4, Tryz.ntmps4
    go_upto_region 4 with (first | (go_at_call 6; ((with_reducible refine (great60_any l _ _ _ hS hc hm _ HG.out).mono ?_); rintro e' w1 ⟨rfl, b1⟩)) | (go_at_call 26; ((with_reducible refine (empty_any _).mono ?_); rintro e' wE ⟨rfl, bE⟩; have HB := btr b1 b1.size bE)))
    have B3 : Blk (wE.alloc (.cells #[.int .i64 1, .int .i64 1, .int .i64 1, .slice none 0 0, .slice none 0 0] 25)) wE.heap.size 25 #[.int .i64 1, .int .i64 1, .int .i64 1, .slice none 0 0, .slice none 0 0] := Blk.new_ wE 25 #[.int .i64 1, .int .i64 1, .int .i64 1, .slice none 0 0, .slice none 0 0]
    have HB2 : Below w.heap.size w (wE.alloc (.cells #[.int .i64 1, .int .i64 1, .int .i64 1, .slice none 0 0, .slice none 0 0] 25)) := HB.alloc HB.size _
    have hsz : wE.heap.size < (wE.alloc (.cells #[.int .i64 1, .int .i64 1, .int .i64 1, .slice none 0 0, .slice none 0 0] 25)).heap.size := by simp
    have hlow := HB.size
    obtain ⟨W, hW⟩ : ∃ V : World, V = wE.alloc (.cells #[.int .i64 1, .int .i64 1, .int .i64 1, .slice none 0 0, .slice none 0 0] 25) := ⟨_, rfl⟩
    change Code.wp _ _ _ _ (wE.alloc (.cells #[.int .i64 1, .int .i64 1, .int .i64 1, .slice none 0 0, .slice none 0 0] 25))
    rw [← hW] at B3 HB2 hsz ⊢
    clear hW HB b1 bE
    have QD : W.drew.cell? ⟨wE.heap.size, 0, none⟩ = some (.int .i64 1) ∧ W.drew.cell? ⟨wE.heap.size, 1, none⟩ = some (.int .i64 1) ∧ W.drew.cell? ⟨wE.heap.size, 2, none⟩ = some (.int .i64 1) ∧ W.drew.cell? ⟨wE.heap.size, 3, none⟩ = some (.slice none 0 0) ∧ W.drew.cell? ⟨wE.heap.size, 4, none⟩ = some (.slice none 0 0) := ⟨drew_cell (B3.cell_ 0), drew_cell (B3.cell_ 1), drew_cell (B3.cell_ 2), drew_cell (B3.cell_ 3), drew_cell (B3.cell_ 4)⟩
    refine wp_region_noPanic ?_
    refine wp_region_held_drew (S := (fun w_ => w_.cell? ⟨wE.heap.size, 0, none⟩ = some (.int .i64 1) ∧ w_.cell? ⟨wE.heap.size, 1, none⟩ = some (.int .i64 1) ∧ w_.cell? ⟨wE.heap.size, 2, none⟩ = some (.int .i64 1) ∧ w_.cell? ⟨wE.heap.size, 3, none⟩ = some (.slice none 0 0) ∧ w_.cell? ⟨wE.heap.size, 4, none⟩ = some (.slice none 0 0))) (by kernel_rfl) ?_ (fun hHeld => ?_)
    · (first | with_reducible exact QD | with_reducible exact Q4 | with_reducible exact Q5)
    refine tk 0 ⟨some 17, .load 25 (.tmp 3), 25, "law.go:108", #[], none⟩ ?_; try simp only [Act.put, pz1, pz2, pz3]
    refine wpAnyH_ready (rs := [1]) (by kernel_rfl) (by simp) ?_
    refine AllReadyH.cons (o := ⟨some 18, .call { callee := .value (.func 27), args := #[], argTypes := #[] }, 25, "law.go:108", #[], none⟩) rfl (fun K hK => ?_) AllReadyH.nil
    go_simp
    (first | (go_at_call 27; ((with_reducible refine (rempty_any _).mono ?_); rintro e' w4 ⟨rfl, b4⟩; have b4 := btr (below_dr W) (Nat.le_refl _) b4; have B4 := B3.below b4 B3.lt; have Q4 : w4.cell? ⟨wE.heap.size, 0, none⟩ = some (.int .i64 1) ∧ w4.cell? ⟨wE.heap.size, 1, none⟩ = some (.int .i64 1) ∧ w4.cell? ⟨wE.heap.size, 2, none⟩ = some (.int .i64 1) ∧ w4.cell? ⟨wE.heap.size, 3, none⟩ = some (.slice none 0 0) ∧ w4.cell? ⟨wE.heap.size, 4, none⟩ = some (.slice none 0 0) := ⟨B4.cell_ 0, B4.cell_ 1, B4.cell_ 2, B4.cell_ 3, B4.cell_ 4⟩)) | (go_at_call 25; ((with_reducible refine (sameShelf_yes sf0 _ _ _ (ShR.zero _) (ShR.zero _) (by simp [sf0]) (by simp [sf0]) (by simp [sf0])).mono ?_); rintro e' w5 ⟨rfl, b5⟩; have b5 := btr b4 b4.size b5; have B5 := B3.below b5 B3.lt; have Q5 : w5.cell? ⟨wE.heap.size, 0, none⟩ = some (.int .i64 1) ∧ w5.cell? ⟨wE.heap.size, 1, none⟩ = some (.int .i64 1) ∧ w5.cell? ⟨wE.heap.size, 2, none⟩ = some (.int .i64 1) ∧ w5.cell? ⟨wE.heap.size, 3, none⟩ = some (.slice none 0 0) ∧ w5.cell? ⟨wE.heap.size, 4, none⟩ = some (.slice none 0 0) := ⟨B5.cell_ 0, B5.cell_ 1, B5.cell_ 2, B5.cell_ 3, B5.cell_ 4⟩)))
    go_wp2_with fail
    refine hK.out _ _ ?_ (fun hNew => ?_)
    · (first | with_reducible exact QD | with_reducible exact Q4 | with_reducible exact Q5)
    clear hK K hHeld
    have hHeld := hNew
    clear hNew
    try simp only [Act.put, pz1, pz2, pz3]
    refine wpAnyH_ready (rs := [2]) (by kernel_rfl) (by simp) ?_
    refine AllReadyH.cons (o := ⟨some 19, .call { callee := .value (.func 25), args := #[.tmp 17, .tmp 18], argTypes := #[25, 25] }, 4, "law.go:108", #[⟨0, .data⟩, ⟨1, .data⟩, ⟨1, .chain⟩], none⟩) rfl (fun K hK => ?_) AllReadyH.nil
    go_simp
    (first | (go_at_call 27; ((with_reducible refine (rempty_any _).mono ?_); rintro e' w4 ⟨rfl, b4⟩; have b4 := btr (below_dr W) (Nat.le_refl _) b4; have B4 := B3.below b4 B3.lt; have Q4 : w4.cell? ⟨wE.heap.size, 0, none⟩ = some (.int .i64 1) ∧ w4.cell? ⟨wE.heap.size, 1, none⟩ = some (.int .i64 1) ∧ w4.cell? ⟨wE.heap.size, 2, none⟩ = some (.int .i64 1) ∧ w4.cell? ⟨wE.heap.size, 3, none⟩ = some (.slice none 0 0) ∧ w4.cell? ⟨wE.heap.size, 4, none⟩ = some (.slice none 0 0) := ⟨B4.cell_ 0, B4.cell_ 1, B4.cell_ 2, B4.cell_ 3, B4.cell_ 4⟩)) | (go_at_call 25; ((with_reducible refine (sameShelf_yes sf0 _ _ _ (ShR.zero _) (ShR.zero _) (by simp [sf0]) (by simp [sf0]) (by simp [sf0])).mono ?_); rintro e' w5 ⟨rfl, b5⟩; have b5 := btr b4 b4.size b5; have B5 := B3.below b5 B3.lt; have Q5 : w5.cell? ⟨wE.heap.size, 0, none⟩ = some (.int .i64 1) ∧ w5.cell? ⟨wE.heap.size, 1, none⟩ = some (.int .i64 1) ∧ w5.cell? ⟨wE.heap.size, 2, none⟩ = some (.int .i64 1) ∧ w5.cell? ⟨wE.heap.size, 3, none⟩ = some (.slice none 0 0) ∧ w5.cell? ⟨wE.heap.size, 4, none⟩ = some (.slice none 0 0) := ⟨B5.cell_ 0, B5.cell_ 1, B5.cell_ 2, B5.cell_ 3, B5.cell_ 4⟩)))
    go_wp2_with fail
    refine hK.out _ _ ?_ (fun hNew => ?_)
    · (first | with_reducible exact QD | with_reducible exact Q4 | with_reducible exact Q5)
    clear hK K hHeld
    have hHeld := hNew
    clear hNew
    try simp only [Act.put, pz1, pz2, pz3]
    refine tk 3 ⟨some 20, .unOp .not 4 (.tmp 19), 4, "law.go:108", #[⟨2, .data⟩], none⟩ ?_; try simp only [Act.put, pz1, pz2, pz3]
    refine wpAnyH_done (by kernel_rfl) ?_ _
    refine NoPanic.normal ?_
    obtain ⟨n, hn⟩ : ∃ n, l.length = n := ⟨_, rfl⟩
    have HLN := Lib.hid hn
    rw [hn] at hl60 hc ⊢
    clear hn
    have HB3 := btr HB2 HB2.size b5
    have hs5 := b5.size
    clear QD Q4 Q5 b4 B4 HB2
    go_wp2_with fail
    go_loopw [4, 5, 6] (fun bv nv iv wr => ∃ (k : Nat) (book note : Int) (s : Sf), bv = .int .i64 book ∧ nv = .int .i64 note ∧ iv = .int .i64 k ∧ k ≤ n ∧ BoxW wr wE.heap.size (wE.heap.size + 1) s ∧ Hid (ScF s book note) ∧ Below w.heap.size w wr ∧ wE.heap.size < wr.heap.size) (fun _ _ iv _ => n - (intOf iv).toNat)
    case atStart => exact ⟨0, 0, 0, sf0, rfl, rfl, rfl, Nat.zero_le _, ⟨none, 0, none, 0, B5, sf0W _ _⟩, Lib.hid ScF.zero, HB3, by omega⟩
    case round =>
      clear HB3 hs5 B5 b5 hsz B3
      obtain ⟨k, book, note, s, rfl, rfl, rfl, hk, ⟨Ab, cb, An, cn, B3, hW⟩, HF, HBr, hgr⟩ := hrel
      have i0 : (0 : Int) ≤ (k : Int) := by omega
      by_cases hlt : k < n
      · have i1 : (k : Int) < (n : Int) := by omega
        have hkl : k < l.length := by have := HLN.out; omega
        obtain ⟨a, ha⟩ : ∃ a, l[k]? = some a := ⟨_, List.getElem?_eq_getElem hkl⟩
        have hnm : a.nm.size ≤ 60 := by
          have h1 := List.any_eq_false.1 HBG.out a (List.mem_of_getElem? ha)
          unfold bigA at h1
          have h2 : ¬ 60 < a.nm.size := by simpa using h1
          omega
        have HX : Hid (a.nm.size ≤ 100000) := Lib.hid (by omega)
        have HNM := Lib.hid hnm
        have he : (l.map acC)[k]? = some (acC a) := by rw [List.getElem?_map, ha]; rfl
        obtain ⟨b1, o1, rfl, l1, q1⟩ := SlE.at_ hS (by rw [List.length_map]; omega)
        have y0 : wr.cell? ⟨b1, o1 + k * 4, none⟩ = some (.int .i64 a.d) := (HBr.cell (p := ⟨b1, _, none⟩) l1).trans (q1 k _ he 0 _ rfl)
        have y1 : wr.cell? ⟨b1, o1 + k * 4 + 1, none⟩ = some (.int .i64 a.a) := (HBr.cell (p := ⟨b1, _, none⟩) l1).trans (q1 k _ he 1 _ rfl)
        have y2 : wr.cell? ⟨b1, o1 + k * 4 + 2, none⟩ = some (.int .i64 a.b) := (HBr.cell (p := ⟨b1, _, none⟩) l1).trans (q1 k _ he 2 _ rfl)
        have y3 : wr.cell? ⟨b1, o1 + k * 4 + 3, none⟩ = some (.string a.nm) := (HBr.cell (p := ⟨b1, _, none⟩) l1).trans (q1 k _ he 3 _ rfl)
        obtain ⟨M1, hM1⟩ : ∃ M, s.bs.length = M := ⟨_, rfl⟩
        obtain ⟨M2, hM2⟩ : ∃ M, s.ts.length = M := ⟨_, rfl⟩
        have hM1b : M1 ≤ 6 := by rw [← hM1]; exact HF.out.may.bl
        have hM2b : M2 ≤ 12 := by rw [← hM2]; exact HF.out.may.tl
        rw [hM1, hM2] at B3 hW
        have HM1 := Lib.hid hM1
        have HM2 := Lib.hid hM2
        have HZ : Hid (SzF s) := Lib.hid (HF.out.sm.sz HF.out.may)
        obtain ⟨T, hRT⟩ : ∃ T, resS s a = T := ⟨_, rfl⟩
        obtain ⟨N1, hN1⟩ : ∃ N, T.bs.length = N := ⟨_, rfl⟩
        obtain ⟨N2, hN2⟩ : ∃ N, T.ts.length = N := ⟨_, rfl⟩
        have HRT := Lib.hid hRT
        have HN1 := Lib.hid hN1
        have HN2 := Lib.hid hN2
        clear hRT hN1 hN2 hM1 hM2 ha he q1 hkl hnm
        have k0 := B3.cell_ 0
        have k1 := B3.cell_ 1
        have k2 := B3.cell_ 2
        have k3 := B3.cell_ 3
        have k4 := B3.cell_ 4
        simp at k0 k1 k2 k3 k4
        go_upto_region 11 with fail
        have hbr : Below wr.heap.size wr (wr.alloc (.cells #[.int .i64 a.d, .int .i64 a.a, .int .i64 a.b, .string a.nm] 27)) := (Below.refl _ _).alloc (Nat.le_refl _) _
        have B3w := B3.below hbr B3.lt
        have hWw := hW.below hbr
        have B7 : Blk (wr.alloc (.cells #[.int .i64 a.d, .int .i64 a.a, .int .i64 a.b, .string a.nm] 27)) wr.heap.size 27 #[.int .i64 a.d, .int .i64 a.a, .int .i64 a.b, .string a.nm] := Blk.new_ wr 27 #[.int .i64 a.d, .int .i64 a.a, .int .i64 a.b, .string a.nm]
        have HBw := btr HBr HBr.size hbr
        have hsw := hbr.size
        obtain ⟨wx, hwx⟩ : ∃ V : World, V = wr.alloc (.cells #[.int .i64 a.d, .int .i64 a.a, .int .i64 a.b, .string a.nm] 27) := ⟨_, rfl⟩
        change Code.wp _ _ _ _ (wr.alloc (.cells #[.int .i64 a.d, .int .i64 a.a, .int .i64 a.b, .string a.nm] 27))
        rw [← hwx] at B3w hWw B7 HBw hsw ⊢
        clear hwx hbr B3 hW HBr k0 k1 k2 k3 k4 y0 y1 y2 y3
        have B3 := B3w
        have hW := hWw
        have HBr := HBw
        have S1 := hW.toR
        have T1 := hT.next HBr
        clear B3w hWw HBw
        have k0 := B3.cell_ 0
        have k1 := B3.cell_ 1
        have k2 := B3.cell_ 2
        have k3 := B3.cell_ 3
        have k4 := B3.cell_ 4
        simp at k0 k1 k2 k3 k4
        have z0 := B7.cell_ 0
        have z1 := B7.cell_ 1
        have z2 := B7.cell_ 2
        have z3 := B7.cell_ 3
        simp at z0 z1 z2 z3
        go_upto_region 12 with (go_at_call 9; ((with_reducible refine (both_any s _ a _ S1 T1 HZ.out HX.out).mono ?_); rintro e' w2 ⟨va, vb, rfl, hA, hV, b2⟩; rw [HRT.out] at hA hV; (obtain ⟨A5, c5, A6, c6, rfl, -⟩ := hA.parts); (obtain ⟨A7, c7, A8, c8, rfl, -⟩ := hV.parts); rw [HN1.out, HN2.out] at hA ⊢; clear hV; have B3 := B3.below b2 B3.lt; have hW := hW.below b2; have HBr := btr HBr HBr.size b2; have hs2 := b2.size; clear k0 k1 k2 k3 k4 z0 z1 z2 z3 b2 S1 T1))
        have hbr : Below w2.heap.size w2 ((w2.alloc (.cells #[.int .i64 T.nb, .int .i64 T.nn, .int .i64 T.ns, .slice A5 N1 c5, .slice A6 N2 c6] 25)).alloc (.cells #[.int .i64 T.nb, .int .i64 T.nn, .int .i64 T.ns, .slice A7 N1 c7, .slice A8 N2 c8] 25)) := ((Below.refl _ _).alloc (Nat.le_refl _) _).alloc (by simp) _
        have B3w := B3.below hbr B3.lt
        have hWw := hW.below hbr
        have hAw := (hA.below hbr).base_ (B' := wE.heap.size + 1) (by omega)
        have B8 : Blk ((w2.alloc (.cells #[.int .i64 T.nb, .int .i64 T.nn, .int .i64 T.ns, .slice A5 N1 c5, .slice A6 N2 c6] 25)).alloc (.cells #[.int .i64 T.nb, .int .i64 T.nn, .int .i64 T.ns, .slice A7 N1 c7, .slice A8 N2 c8] 25)) w2.heap.size 25 #[.int .i64 T.nb, .int .i64 T.nn, .int .i64 T.ns, .slice A5 N1 c5, .slice A6 N2 c6] := (Blk.new_ w2 25 #[.int .i64 T.nb, .int .i64 T.nn, .int .i64 T.ns, .slice A5 N1 c5, .slice A6 N2 c6]).alloc_ _
        have HBw := btr HBr HBr.size hbr
        have hs3 := hbr.size
        obtain ⟨w4, hw4⟩ : ∃ V : World, V = ((w2.alloc (.cells #[.int .i64 T.nb, .int .i64 T.nn, .int .i64 T.ns, .slice A5 N1 c5, .slice A6 N2 c6] 25)).alloc (.cells #[.int .i64 T.nb, .int .i64 T.nn, .int .i64 T.ns, .slice A7 N1 c7, .slice A8 N2 c8] 25)) := ⟨_, rfl⟩
        change Code.wp _ _ _ _ ((w2.alloc (.cells #[.int .i64 T.nb, .int .i64 T.nn, .int .i64 T.ns, .slice A5 N1 c5, .slice A6 N2 c6] 25)).alloc (.cells #[.int .i64 T.nb, .int .i64 T.nn, .int .i64 T.ns, .slice A7 N1 c7, .slice A8 N2 c8] 25))
        rw [← hw4] at B3w hWw hAw B8 HBw hs3 ⊢
        clear hw4 hbr B3 hW hA HBr
        have B3 := B3w
        have hW := hWw
        have hA := hAw
        have HBr := HBw
        clear B3w hWw hAw HBw
        have k0 := B3.cell_ 0
        have k1 := B3.cell_ 1
        have k2 := B3.cell_ 2
        have k3 := B3.cell_ 3
        have k4 := B3.cell_ 4
        simp at k0 k1 k2 k3 k4
        have u0 := B8.cell_ 0
        have u1 := B8.cell_ 1
        have u2 := B8.cell_ 2
        have u3 := B8.cell_ 3
        have u4 := B8.cell_ 4
        simp at u0 u1 u2 u3 u4
        rcases res_cases s a with hz | ⟨hz1, hz2⟩
        · have hnb : (T.nb == 0) = true := by rw [← HRT.out, hz]; rfl
          clear hz
          go_wp2_with fail
          go_roundw
          case rel => exact ⟨k + 1, book, note, s, rfl, rfl, by go_num, by omega, by unfold BoxW; rw [HM1.out, HM2.out]; exact ⟨_, _, _, _, B3, hW⟩, HF, HBr, by omega⟩
          case measure => simp [intOf]; omega
        · have HNX : Hid (NxF s T) := Lib.hid (by rw [← HRT.out, hz2]; exact act_next hz1)
          have HSM2 : Hid (SmF T) := Lib.hid (by rw [← HRT.out, hz2]; exact sm_next HF.out.sm HNM.out hz1)
          have HMT : Hid (mayS T = true) := Lib.hid (mayS_conv HNX.out.may)
          have hnb : (T.nb == 0) = false := by have := HNX.out.may.nb.1; simp; omega
          have hn1 : ¬ T.nb < s.nb := by have := HNX.out.nb; omega
          have hn2 : ¬ T.nn < s.nn := by have := HNX.out.nn; omega
          have hn3 : (T.ns != s.ns) = false := by rw [HNX.out.ns]; simp
          clear hz1 hz2
          have SA := hA.toR
          have T4 := hT.next HBr
          go_upto_region 17 with (go_at_call 10; ((with_reducible refine (smay_any T _ _ SA T4 true HMT.out).mono ?_); rintro e' w5 ⟨rfl, b5⟩; have B3 := B3.below b5 B3.lt; have B8 := B8.below b5 B8.lt; have hA := hA.below b5; have HBr := btr HBr HBr.size b5; have hs5 := b5.size; (clear k0 k1 k2 k3 k4 u0 u1 u2 u3 u4 b5 SA T4); have k0 := B3.cell_ 0; have k1 := B3.cell_ 1; have k2 := B3.cell_ 2; have k3 := B3.cell_ 3; have k4 := B3.cell_ 4; have fk0 := B3.free 0; have fk1 := B3.free 1; have fk2 := B3.free 2; have fk3 := B3.free 3; have fk4 := B3.free 4; simp at k0 k1 k2 k3 k4; have u0 := B8.cell_ 0; have u1 := B8.cell_ 1; have u2 := B8.cell_ 2; have u3 := B8.cell_ 3; have u4 := B8.cell_ 4; simp at u0 u1 u2 u3 u4))
          by_cases hgb : N1 > M1
          · obtain ⟨b, hTb, hbi, hbn⟩ := HNX.out.bs (by rw [HN1.out, HM1.out]; exact hgb)
            have HBI := Lib.hid hbi
            have HBN := Lib.hid hbn
            have hn1 : N1 = M1 + 1 := by rw [← HN1.out, hTb, List.length_append, HM1.out]; rfl
            obtain ⟨A5b, hA5, x0, hx1⟩ : ∃ gA, A5 = some ⟨gA, 0, none⟩ ∧ w5.cell? ⟨gA, M1 * 2, none⟩ = some (.int .i64 b.id) ∧ True := by
              obtain ⟨vb, vn, es, he, h1, h2, h3, h4⟩ := hA
              injection he with he
              have he3 : (.slice A5 N1 c5 : Value) = vb := by have := congrArg (fun a => a[3]?) he; simpa using this
              subst he3
              rw [HN1.out] at h1
              rcases h1.2 with ⟨h, h0⟩ | ⟨g, c, cu, h, hb, _⟩
              · omega
              · injection h with h5 h6 h7
                subst h5
                have hget : (T.bs.map bkC)[M1]? = some (bkC b) := by
                  rw [List.getElem?_map, hTb, List.getElem?_append_right (by rw [HM1.out]; exact Nat.le_refl _), HM1.out]
                  simp
                exact ⟨g, rfl, own_cellE h1 (bkC_two _) hget (j := 0) rfl, trivial⟩
            subst hA5
            have hbk : ¬ b.id ≤ book := by have h1 := HF.out.bk; rw [hbi]; omega
            clear hTb hbi hbn hx1
            subst hn1
            have m1 : (0 : Int) ≤ (M1 : Int) := by omega
            by_cases hgn : N2 > M2
            · obtain ⟨nb_, hTb, hbi, hbn⟩ := HNX.out.ts (by rw [HN2.out, HM2.out]; exact hgn)
              have HNI := Lib.hid hbi
              have HNN_ := Lib.hid hbn
              have hn2 : N2 = M2 + 1 := by rw [← HN2.out, hTb, List.length_append, HM2.out]; rfl
              obtain ⟨A6b, hA6, x1, hx1⟩ : ∃ gA, A6 = some ⟨gA, 0, none⟩ ∧ w5.cell? ⟨gA, M2 * 5, none⟩ = some (.int .i64 nb_.id) ∧ True := by
                obtain ⟨vb, vn, es, he, h1, h2, h3, h4⟩ := hA
                injection he with he
                have he3 : (.slice A6 N2 c6 : Value) = vn := by have := congrArg (fun a => a[4]?) he; simpa using this
                subst he3
                rw [HN2.out] at h2 h3
                rcases h3.2 with ⟨h, h0⟩ | ⟨g, c, cu, h, hb, _⟩
                · omega
                · injection h with h5 h6 h7
                  subst h5
                  have hget : T.ts[M2]? = some nb_ := by
                    rw [hTb, List.getElem?_append_right (by rw [HM2.out]; exact Nat.le_refl _), HM2.out]
                    simp
                  have hge := List.getElem?_eq_getElem (l := es) (i := M2) (by omega)
                  obtain ⟨vt, vs, hev, -, -⟩ := h4 M2 nb_ _ hget hge
                  rw [hev] at hge
                  exact ⟨g, rfl, own_cellE h3 (es_five (by rw [HN2.out]; exact h2) h4) hge (j := 0) rfl, trivial⟩
              subst hA6
              have hnk : ¬ nb_.id ≤ note := by have h1 := HF.out.nt; rw [hbi]; omega
              clear hTb hbi hbn hx1
              subst hn2
              have m2 : (0 : Int) ≤ (M2 : Int) := by omega
              go_wp2_with fail
              have hg3 := st5_grown w5 wE.heap.size 0 (.int .i64 T.nb) (.int .i64 T.nn) (.int .i64 T.ns) (.slice (some ⟨A5b, 0, none⟩) (M1 + 1) c5) (.slice (some ⟨A6b, 0, none⟩) (M2 + 1) c6)
              have B9 := B3.st5_ (.int .i64 T.nb) (.int .i64 T.nn) (.int .i64 T.ns) (.slice (some ⟨A5b, 0, none⟩) (M1 + 1) c5) (.slice (some ⟨A6b, 0, none⟩) (M2 + 1) c6)
              have hW9 := hA.far hg3 (by omega)
              have HB9 := below_grown HBr hg3 (by omega) HBr.size
              have hs9 := hg3.size
              go_roundw
              case rel =>
                refine ⟨k + 1, b.id, nb_.id, T, rfl, rfl, by go_num, by omega, ?_, ⟨HNX.out.may, HSM2.out, by have h1 := HBN.out; have h2 := HBI.out; omega, by have h1 := HNN_.out; have h2 := HNI.out; omega⟩, HB9, Nat.lt_of_lt_of_le (by omega) hs9⟩
                unfold BoxW
                rw [HN1.out, HN2.out]
                exact ⟨_, _, _, _, B9, hW9.base_ (by omega)⟩
              case measure => simp [intOf]; omega
            · have hle2 : N2 ≤ M2 := by omega
              clear hgn
              have hnlt2 : ¬ M2 < N2 := by omega
              go_wp2_with fail
              have hg3 := st5_grown w5 wE.heap.size 0 (.int .i64 T.nb) (.int .i64 T.nn) (.int .i64 T.ns) (.slice (some ⟨A5b, 0, none⟩) (M1 + 1) c5) (.slice A6 N2 c6)
              have B9 := B3.st5_ (.int .i64 T.nb) (.int .i64 T.nn) (.int .i64 T.ns) (.slice (some ⟨A5b, 0, none⟩) (M1 + 1) c5) (.slice A6 N2 c6)
              have hW9 := hA.far hg3 (by omega)
              have HB9 := below_grown HBr hg3 (by omega) HBr.size
              have hs9 := hg3.size
              go_roundw
              case rel =>
                refine ⟨k + 1, b.id, note, T, rfl, rfl, by go_num, by omega, ?_, ⟨HNX.out.may, HSM2.out, by have h1 := HBN.out; have h2 := HBI.out; omega, by have := HNX.out.nn; have := HF.out.nt; omega⟩, HB9, Nat.lt_of_lt_of_le (by omega) hs9⟩
                unfold BoxW
                rw [HN1.out, HN2.out]
                exact ⟨_, _, _, _, B9, hW9.base_ (by omega)⟩
              case measure => simp [intOf]; omega
          · have hle : N1 ≤ M1 := by omega
            clear hgb
            have hnlt : ¬ M1 < N1 := by omega
            by_cases hgn : N2 > M2
            · obtain ⟨nb_, hTb, hbi, hbn⟩ := HNX.out.ts (by rw [HN2.out, HM2.out]; exact hgn)
              have HNI := Lib.hid hbi
              have HNN_ := Lib.hid hbn
              have hn2 : N2 = M2 + 1 := by rw [← HN2.out, hTb, List.length_append, HM2.out]; rfl
              obtain ⟨A6b, hA6, x1, hx1⟩ : ∃ gA, A6 = some ⟨gA, 0, none⟩ ∧ w5.cell? ⟨gA, M2 * 5, none⟩ = some (.int .i64 nb_.id) ∧ True := by
                obtain ⟨vb, vn, es, he, h1, h2, h3, h4⟩ := hA
                injection he with he
                have he3 : (.slice A6 N2 c6 : Value) = vn := by have := congrArg (fun a => a[4]?) he; simpa using this
                subst he3
                rw [HN2.out] at h2 h3
                rcases h3.2 with ⟨h, h0⟩ | ⟨g, c, cu, h, hb, _⟩
                · omega
                · injection h with h5 h6 h7
                  subst h5
                  have hget : T.ts[M2]? = some nb_ := by
                    rw [hTb, List.getElem?_append_right (by rw [HM2.out]; exact Nat.le_refl _), HM2.out]
                    simp
                  have hge := List.getElem?_eq_getElem (l := es) (i := M2) (by omega)
                  obtain ⟨vt, vs, hev, -, -⟩ := h4 M2 nb_ _ hget hge
                  rw [hev] at hge
                  exact ⟨g, rfl, own_cellE h3 (es_five (by rw [HN2.out]; exact h2) h4) hge (j := 0) rfl, trivial⟩
              subst hA6
              have hnk : ¬ nb_.id ≤ note := by have h1 := HF.out.nt; rw [hbi]; omega
              clear hTb hbi hbn hx1
              subst hn2
              have m2 : (0 : Int) ≤ (M2 : Int) := by omega
              go_wp2_with fail
              have hg3 := st5_grown w5 wE.heap.size 0 (.int .i64 T.nb) (.int .i64 T.nn) (.int .i64 T.ns) (.slice A5 N1 c5) (.slice (some ⟨A6b, 0, none⟩) (M2 + 1) c6)
              have B9 := B3.st5_ (.int .i64 T.nb) (.int .i64 T.nn) (.int .i64 T.ns) (.slice A5 N1 c5) (.slice (some ⟨A6b, 0, none⟩) (M2 + 1) c6)
              have hW9 := hA.far hg3 (by omega)
              have HB9 := below_grown HBr hg3 (by omega) HBr.size
              have hs9 := hg3.size
              go_roundw
              case rel =>
                refine ⟨k + 1, book, nb_.id, T, rfl, rfl, by go_num, by omega, ?_, ⟨HNX.out.may, HSM2.out, by have := HNX.out.nb; have := HF.out.bk; omega, by have h1 := HNN_.out; have h2 := HNI.out; omega⟩, HB9, Nat.lt_of_lt_of_le (by omega) hs9⟩
                unfold BoxW
                rw [HN1.out, HN2.out]
                exact ⟨_, _, _, _, B9, hW9.base_ (by omega)⟩
              case measure => simp [intOf]; omega
            · have hle2 : N2 ≤ M2 := by omega
              clear hgn
              have hnlt2 : ¬ M2 < N2 := by omega
              go_wp2_with fail
              have hg3 := st5_grown w5 wE.heap.size 0 (.int .i64 T.nb) (.int .i64 T.nn) (.int .i64 T.ns) (.slice A5 N1 c5) (.slice A6 N2 c6)
              have B9 := B3.st5_ (.int .i64 T.nb) (.int .i64 T.nn) (.int .i64 T.ns) (.slice A5 N1 c5) (.slice A6 N2 c6)
              have hW9 := hA.far hg3 (by omega)
              have HB9 := below_grown HBr hg3 (by omega) HBr.size
              have hs9 := hg3.size
              go_roundw
              case rel =>
                refine ⟨k + 1, book, note, T, rfl, rfl, by go_num, by omega, ?_, ⟨HNX.out.may, HSM2.out, by have := HNX.out.nb; have := HF.out.bk; omega, by have := HNX.out.nn; have := HF.out.nt; omega⟩, HB9, Nat.lt_of_lt_of_le (by omega) hs9⟩
                unfold BoxW
                rw [HN1.out, HN2.out]
                exact ⟨_, _, _, _, B9, hW9.base_ (by omega)⟩
              case measure => simp [intOf]; omega
      · have hjn : k = n := by omega
        subst hjn
        have HB := HBr
        have T1 := hT.next HB
        clear HBr B3 hW
        go_wp2_with (go_at_call 7; ((with_reducible refine (awake_any _ T1).mono ?_); rintro e' wA ⟨rfl, bA⟩; have HB := btr HB HB.size bA))
        go_ret
        exact ⟨rfl, HB⟩
  · clear hG
    go_enter Tryz.func4, Tryz.ntmps4
    go_wp2_with (first | (go_at_call 6; ((with_reducible refine (great60_any l _ _ _ hS hc hm _ HG.out).mono ?_); rintro e' w1 ⟨rfl, b1⟩; have HB := b1; have T1 := hT.next b1)) | (go_at_call 7; ((with_reducible refine (awake_any _ T1).mono ?_); rintro e' wA ⟨rfl, bA⟩; have HB := btr HB HB.size bA)))
    go_ret
    exact ⟨rfl, HB⟩
end Go.Proofs.YtokhapafpjejaaaGreatDoor
namespace Go.Proofs.YtokhapafpjejaaaGreatDoor
open Go.ChangeShapes Go.WideShapes Go.ChangeAt Go.RowKit
theorem acc_eq : Rows.laid_unicode_utf8_acceptRanges = Lib.acceptData := by kernel_rfl
theorem first_eq : Rows.laid_unicode_utf8_first = Lib.firstData := Pinned.utf8First_eq
def laidTabs : List (String × DataW Unit) := [("unicode/utf8.acceptRanges", Lib.acceptData), ("unicode/utf8.first", Lib.firstData)]
theorem laid_eq : [("unicode/utf8.acceptRanges", Rows.laid_unicode_utf8_acceptRanges), ("unicode/utf8.first", Rows.laid_unicode_utf8_first)] = laidTabs := by rw [acc_eq, first_eq]; rfl
noncomputable def laidWorld (os : Os) : World :=
  let w0 := World.holding Tryz.prog os ⟨#[], #[], []⟩
  let put (h : Array Obj) (g : Nat) (cs : Array Value) : Array Obj := h.modify g fun
    | .cells _ t frozen => .cells cs t frozen
    | o => o
  let h1 := put w0.heap 0 (Lib.firstTab.map fun z => Value.int .u8 z).toArray
  let h2 := put h1 1 ((List.range 16).flatMap fun i => [Value.int .u8 (Lib.accLo i), Value.int .u8 (Lib.accHi i)]).toArray
  { w0 with heap := h2 }
theorem noHandle (w : World) : laidMetH Tryz.prog laidTabs w ↔ laidMet Tryz.prog laidTabs w := by
  have e : (laidTabs.filter fun x => x.2.handleName?.isSome) = [] := by kernel_rfl
  unfold laidMetH
  rw [e]
theorem laid_met (os : Os) (args : Array Value) : laidMetH Tryz.prog [("unicode/utf8.acceptRanges", Rows.laid_unicode_utf8_acceptRanges), ("unicode/utf8.first", Rows.laid_unicode_utf8_first)] ((laidWorld os).forCall (fun _ _ => 0) ⟨#[], args, []⟩).memory := by
  rw [laid_eq, noHandle]
  exact (LaidIn.of_run (l := laidTabs) [0, 1] 8 (by kernel_rfl) (by kernel_rfl) (by kernel_rfl) (by kernel_rfl)).met
theorem tabs_of {W : World} (h : laidMetH Tryz.prog [("unicode/utf8.acceptRanges", Rows.laid_unicode_utf8_acceptRanges), ("unicode/utf8.first", Rows.laid_unicode_utf8_first)] W) : Tabs W := by
  rw [laid_eq, noHandle] at h
  exact utf8Tabs_of_readsT (U8Types.of196 Tryz.laysValid) ⟨by kernel_rfl, by kernel_rfl, by kernel_rfl, by kernel_rfl, by kernel_rfl, by kernel_rfl, by kernel_rfl⟩ (Lib.laidMet.reads h (.tail _ (.head _))) (Lib.laidMet.reads h (.head _))
end Go.Proofs.YtokhapafpjejaaaGreatDoor
