/- The books and the notes of a shelf that may be. -/
import Derived.Test.YteokeghenjobaaaGreatDoorZy1
import Derived.Shelf.SlSortCmp.WholeK
import Derived.Shelf.SlSortCmp.NoneTotal
import Derived.Shelf.Small.Strs
import Derived.StillTailTactics
import Derived.Sort.OwnSorted
import Derived.Lib.OwnBridge
import Derived.Lib.RowBridge
import Derived.Shelf.Slices.In.SortNone
import Derived.Shelf.RegionOpenPlain
import Derived.Shelf.Strings.Search2
import Derived.Shelf.Strings.Prefix
import Derived.ScopeJumps
import Derived.WalkMore
import Derived.Shelf.SlGeneric
import Derived.Shelf.SlIter.Nil
import Derived.Shelf.SortM.Plain
import Derived.Shelf.SortM.SortNone
import Derived.Shelf.SlicesQ.IndexFunc
import Derived.Shelf.SlicesE.IndexFunc
import Derived.Ground.GgzProg
import Derived.Ground.SlgmProg
import Derived.Ground.SlgfProg
import Derived.Test.YteokeghenjobaaaGreatDoorProg
import Derived.Deep.RegionHeld3
import Derived.Deep.DrawnRows
import Derived.Deep.DeepCutAuto
set_option linter.unusedSimpArgs false
set_option linter.unusedVariables false
set_option maxRecDepth 100000
set_option maxHeartbeats 16000000
namespace Go.Proofs.YteokeghenjobaaaGreatDoor
open Go.ChangeShapes Go.WideShapes Go.ChangeAt Go.RowKit
attribute [local go_sem ↓] Go.wp_at_zero Go.wp_at_succ
theorem books_next {s : Sf} {bf : Int} {l : List Bk} {k : Nat} {b : Bk} (h : l[k]? = some b) : booksFrom s bf (l.drop k) = (inI b.id (bf + 1) (s.nb - 1) && (mayN b.nm && (!bookTk s b.nm b.id && booksFrom s b.id (l.drop (k + 1))))) := by
  rw [drop_next h]
  rfl
theorem notes_next {s : Sf} {bf : Int} {l : List Nt} {k : Nat} {b : Nt} (h : l[k]? = some b) : notesFrom s bf (l.drop k) = (inI b.id (bf + 1) (s.nn - 1) && (mayNt s b && notesFrom s b.id (l.drop (k + 1)))) := by
  rw [drop_next h]
  rfl
theorem inI_bd {x lo hi : Int} (h : inI x lo hi = true) : lo ≤ x ∧ x ≤ hi := by
  simpa [inI] using h
theorem mayNote_at (s : Sf) (v : Value) (n : Nt) (At : Option Addr) (ct : Nat) (As : Option Addr) (cs : Nat) (w : World) (hS : ShR w w.heap.size v s) (hN0 : NtIn w w.heap.size n (ntC n (.slice At n.tg.length ct) (.slice As n.sh.length cs))) (hT : Tabs w) (T : Bool) (hB0 : mayNt s n = T) :
    Calls Tryz.prog 95 #[v, .agg #[.int .i64 n.id, .int .i64 n.bk, .string n.nm, .slice At n.tg.length ct, .slice As n.sh.length cs]] w fun e' w' => e' = .returned (.bool T) ∧ Below w.heap.size w w' := mayNote_any s v n _ w hS hN0 hT T hB0
theorem mayBooks_any (s : Sf) (v : Value) (w : World) (hS : ShR w w.heap.size v s) (hT : Tabs w) (h1 : 1 ≤ s.nb) (h2 : s.nb ≤ 65536) (T : Bool) (hT0 : (decide (s.bs.length ≤ 6) && booksFrom s 0 s.bs) = T) :
    Calls Tryz.prog 66 #[v] w fun e' w' => e' = .returned (.bool T) ∧ Below w.heap.size w w' := by
  have hS0 := hS
  obtain ⟨Ab, cb, An, cn, rfl, hB, hN, hcb, hmb, hcn, hmn⟩ := hS.ex
  clear hS
  obtain ⟨n, hn⟩ : ∃ n, s.bs.length = n := ⟨_, rfl⟩
  rw [hn] at hT0
  have HB : Below w.heap.size w (w.alloc (.cells #[.int .i64 s.nb, .int .i64 s.nn, .int .i64 s.ns, .slice Ab s.bs.length cb, .slice An s.ts.length cn] 25)) := ((Below.refl w.heap.size w).alloc (by first | (simp; done) | (simp; omega)) _)
  have B1 : Blk (w.alloc (.cells #[.int .i64 s.nb, .int .i64 s.nn, .int .i64 s.ns, .slice Ab s.bs.length cb, .slice An s.ts.length cn] 25)) w.heap.size 25 #[.int .i64 s.nb, .int .i64 s.nn, .int .i64 s.ns, .slice Ab s.bs.length cb, .slice An s.ts.length cn] := Blk.new_ w 25 #[.int .i64 s.nb, .int .i64 s.nn, .int .i64 s.ns, .slice Ab s.bs.length cb, .slice An s.ts.length cn]
  rw [hn] at hS0 B1 HB ⊢
  have HT := Lib.hid hT
  have HN := Lib.hid hn
  clear hn hT
  by_cases h4 : n ≤ 6
  · rw [decide_eq_true h4, Bool.true_and] at hT0
    have HTG : Hid (booksFrom s 0 (s.bs.drop 0) = T) := Lib.hid (by rw [List.drop_zero]; exact hT0)
    clear hT0
    go_enter Tryz.func66, Tryz.ntmps66
    go_wp2_with fail
    go_loopw [3, 13] (fun bv i wr => ∃ (k : Nat) (bf : Int), k ≤ n ∧ i = .int .i64 k ∧ bv = .int .i64 bf ∧ 0 ≤ bf ∧ bf ≤ 65535 ∧ Hid (booksFrom s bf (s.bs.drop k) = T) ∧ Below w.heap.size w wr ∧ Blk wr w.heap.size 25 #[.int .i64 s.nb, .int .i64 s.nn, .int .i64 s.ns, .slice Ab n cb, .slice An s.ts.length cn]) (fun _ i _ => n - (intOf i).toNat)
    case atStart => exact ⟨0, 0, by omega, rfl, rfl, by omega, by omega, HTG, HB, B1⟩
    case round =>
      obtain ⟨k, bf, hk, rfl, rfl, f0, f1, HK, HBr, Br⟩ := hrel
      clear HTG HB B1
      have B1 := Br
      clear Br
      have T1 := HT.out.next HBr
      have S1 := hS0.next HBr
      have k0 := B1.cell_ 0
      have k1 := B1.cell_ 1
      have k2 := B1.cell_ 2
      have k3 := B1.cell_ 3
      have k4 := B1.cell_ 4
      simp at k0 k1 k2 k3 k4
      by_cases hlt : k < n
      · have hlx : k < s.bs.length := by have := HN.out; omega
        have i0 : (0 : Int) ≤ (k : Int) := by omega
        have i1 : (k : Int) < (n : Int) := by omega
        obtain ⟨x, hx⟩ : ∃ x, s.bs[k]? = some x := ⟨_, List.getElem?_eq_getElem hlx⟩
        obtain ⟨b1, o1, rfl, l1, q1⟩ := SlE.at_ hB (by rw [List.length_map]; omega)
        have he : (s.bs.map bkC)[k]? = some (bkC x) := by rw [List.getElem?_map, hx]; rfl
        have y0 : wr.cell? ⟨b1, o1 + k * 2 + 0, none⟩ = some (.int .i64 x.id) := (HBr.cell (p := ⟨b1, _, none⟩) l1).trans (q1 k _ he 0 _ rfl)
        have y1 : wr.cell? ⟨b1, o1 + k * 2 + 1, none⟩ = some (.string x.nm) := (HBr.cell (p := ⟨b1, _, none⟩) l1).trans (q1 k _ he 1 _ rfl)
        simp only [Nat.add_zero] at y0
        have a1 : Below wr.heap.size wr (wr.alloc (.cells #[.int .i64 x.id, .string x.nm] 60)) := (Below.refl _ _).alloc (Nat.le_refl _) _
        have B2 : Blk (wr.alloc (.cells #[.int .i64 x.id, .string x.nm] 60)) wr.heap.size 60 #[.int .i64 x.id, .string x.nm] := Blk.new_ _ _ _
        have S1 := S1.next a1
        have T1 := T1.next a1
        have B1 := B1.below a1 B1.lt
        have HBr := btr HBr HBr.size a1
        clear a1 k0 k1 k2 k3 k4
        have ht := books_next hx (s := s) (bf := bf)
        rw [HK.out] at ht
        obtain ⟨R, hR⟩ : ∃ R, inI x.id (bf + 1) (s.nb - 1) = R := ⟨_, rfl⟩
        have HR := Lib.hid hR
        rw [hR] at ht
        obtain ⟨M, hM⟩ : ∃ M, mayN x.nm = M := ⟨_, rfl⟩
        have HM : Hid (nameB x.nm.data.toList = M) := Lib.hid hM
        obtain ⟨K, hK⟩ : ∃ K, bookTk s x.nm x.id = K := ⟨_, rfl⟩
        have HK2 := Lib.hid hK
        rw [hM, hK] at ht
        have HTT := Lib.hid ht
        clear ht hR hM hK q1 he hx hlx
        have k0 := B1.cell_ 0; have k1 := B1.cell_ 1; have k2 := B1.cell_ 2; have k3 := B1.cell_ 3; have k4 := B1.cell_ 4; have m0 := B2.cell_ 0; have m1 := B2.cell_ 1; simp at k0 k1 k2 k3 k4 m0 m1
        cases R
        · skip
          go_wp2_with (first | (go_at_call 65; ((with_reducible refine (within_any _ _ _ _ _ HR.out).mono ?_); rintro e' w3 ⟨rfl, rfl⟩)) | (go_at_call 93; ((with_reducible refine (nmay_any x.nm _ _ T1 HM.out).mono ?_); rintro e' w4 ⟨rfl, b4⟩; have S1 := S1.next b4; have T1 := T1.next b4; have B1 := B1.below b4 B1.lt; have B2 := B2.below b4 B2.lt; have HBr := btr HBr HBr.size b4; (try clear k0 k1 k2 k3 k4 m0 m1); have k0 := B1.cell_ 0; have k1 := B1.cell_ 1; have k2 := B1.cell_ 2; have k3 := B1.cell_ 3; have k4 := B1.cell_ 4; have m0 := B2.cell_ 0; have m1 := B2.cell_ 1; simp at k0 k1 k2 k3 k4 m0 m1; clear b4)) | (go_at_call 94; ((with_reducible refine (bTaken_any s _ x.nm x.id _ S1 _ HK2.out).mono ?_); rintro e' w5 ⟨rfl, b5⟩; have S1 := S1.next b5; have T1 := T1.next b5; have B1 := B1.below b5 B1.lt; have B2 := B2.below b5 B2.lt; have HBr := btr HBr HBr.size b5; (try clear k0 k1 k2 k3 k4 m0 m1); have k0 := B1.cell_ 0; have k1 := B1.cell_ 1; have k2 := B1.cell_ 2; have k3 := B1.cell_ 3; have k4 := B1.cell_ 4; have m0 := B2.cell_ 0; have m1 := B2.cell_ 1; simp at k0 k1 k2 k3 k4 m0 m1; clear b5)))
          go_ret
          exact ⟨by rw [HTT.out]; rfl, HBr⟩
        · cases M
          · skip
            go_wp2_with (first | (go_at_call 65; ((with_reducible refine (within_any _ _ _ _ _ HR.out).mono ?_); rintro e' w3 ⟨rfl, rfl⟩)) | (go_at_call 93; ((with_reducible refine (nmay_any x.nm _ _ T1 HM.out).mono ?_); rintro e' w4 ⟨rfl, b4⟩; have S1 := S1.next b4; have T1 := T1.next b4; have B1 := B1.below b4 B1.lt; have B2 := B2.below b4 B2.lt; have HBr := btr HBr HBr.size b4; (try clear k0 k1 k2 k3 k4 m0 m1); have k0 := B1.cell_ 0; have k1 := B1.cell_ 1; have k2 := B1.cell_ 2; have k3 := B1.cell_ 3; have k4 := B1.cell_ 4; have m0 := B2.cell_ 0; have m1 := B2.cell_ 1; simp at k0 k1 k2 k3 k4 m0 m1; clear b4)) | (go_at_call 94; ((with_reducible refine (bTaken_any s _ x.nm x.id _ S1 _ HK2.out).mono ?_); rintro e' w5 ⟨rfl, b5⟩; have S1 := S1.next b5; have T1 := T1.next b5; have B1 := B1.below b5 B1.lt; have B2 := B2.below b5 B2.lt; have HBr := btr HBr HBr.size b5; (try clear k0 k1 k2 k3 k4 m0 m1); have k0 := B1.cell_ 0; have k1 := B1.cell_ 1; have k2 := B1.cell_ 2; have k3 := B1.cell_ 3; have k4 := B1.cell_ 4; have m0 := B2.cell_ 0; have m1 := B2.cell_ 1; simp at k0 k1 k2 k3 k4 m0 m1; clear b5)))
            go_ret
            exact ⟨by rw [HTT.out]; rfl, HBr⟩
          · cases K
            · skip
              have hr := inI_bd HR.out
              have g0 := hr.1
              have g1 := hr.2
              clear hr
              go_wp2_with (first | (go_at_call 65; ((with_reducible refine (within_any _ _ _ _ _ HR.out).mono ?_); rintro e' w3 ⟨rfl, rfl⟩)) | (go_at_call 93; ((with_reducible refine (nmay_any x.nm _ _ T1 HM.out).mono ?_); rintro e' w4 ⟨rfl, b4⟩; have S1 := S1.next b4; have T1 := T1.next b4; have B1 := B1.below b4 B1.lt; have B2 := B2.below b4 B2.lt; have HBr := btr HBr HBr.size b4; (try clear k0 k1 k2 k3 k4 m0 m1); have k0 := B1.cell_ 0; have k1 := B1.cell_ 1; have k2 := B1.cell_ 2; have k3 := B1.cell_ 3; have k4 := B1.cell_ 4; have m0 := B2.cell_ 0; have m1 := B2.cell_ 1; simp at k0 k1 k2 k3 k4 m0 m1; clear b4)) | (go_at_call 94; ((with_reducible refine (bTaken_any s _ x.nm x.id _ S1 _ HK2.out).mono ?_); rintro e' w5 ⟨rfl, b5⟩; have S1 := S1.next b5; have T1 := T1.next b5; have B1 := B1.below b5 B1.lt; have B2 := B2.below b5 B2.lt; have HBr := btr HBr HBr.size b5; (try clear k0 k1 k2 k3 k4 m0 m1); have k0 := B1.cell_ 0; have k1 := B1.cell_ 1; have k2 := B1.cell_ 2; have k3 := B1.cell_ 3; have k4 := B1.cell_ 4; have m0 := B2.cell_ 0; have m1 := B2.cell_ 1; simp at k0 k1 k2 k3 k4 m0 m1; clear b5)))
              go_roundw
              case rel => exact ⟨k + 1, x.id, by omega, by go_num, rfl, by omega, by omega, Lib.hid (by rw [HTT.out]; rfl), HBr, B1⟩
              case measure => simp [intOf]; omega
            · skip
              go_wp2_with (first | (go_at_call 65; ((with_reducible refine (within_any _ _ _ _ _ HR.out).mono ?_); rintro e' w3 ⟨rfl, rfl⟩)) | (go_at_call 93; ((with_reducible refine (nmay_any x.nm _ _ T1 HM.out).mono ?_); rintro e' w4 ⟨rfl, b4⟩; have S1 := S1.next b4; have T1 := T1.next b4; have B1 := B1.below b4 B1.lt; have B2 := B2.below b4 B2.lt; have HBr := btr HBr HBr.size b4; (try clear k0 k1 k2 k3 k4 m0 m1); have k0 := B1.cell_ 0; have k1 := B1.cell_ 1; have k2 := B1.cell_ 2; have k3 := B1.cell_ 3; have k4 := B1.cell_ 4; have m0 := B2.cell_ 0; have m1 := B2.cell_ 1; simp at k0 k1 k2 k3 k4 m0 m1; clear b4)) | (go_at_call 94; ((with_reducible refine (bTaken_any s _ x.nm x.id _ S1 _ HK2.out).mono ?_); rintro e' w5 ⟨rfl, b5⟩; have S1 := S1.next b5; have T1 := T1.next b5; have B1 := B1.below b5 B1.lt; have B2 := B2.below b5 B2.lt; have HBr := btr HBr HBr.size b5; (try clear k0 k1 k2 k3 k4 m0 m1); have k0 := B1.cell_ 0; have k1 := B1.cell_ 1; have k2 := B1.cell_ 2; have k3 := B1.cell_ 3; have k4 := B1.cell_ 4; have m0 := B2.cell_ 0; have m1 := B2.cell_ 1; simp at k0 k1 k2 k3 k4 m0 m1; clear b5)))
              go_ret
              exact ⟨by rw [HTT.out]; rfl, HBr⟩
      · have hjn : k = n := by omega
        subst hjn
        have ht := HK.out
        rw [← HN.out, List.drop_length] at ht
        have HTT := Lib.hid ht
        clear hlt ht
        go_wp2_with fail
        go_ret
        exact ⟨by rw [← HTT.out]; rfl, HBr⟩
  · rw [decide_eq_false h4, Bool.false_and] at hT0
    subst hT0
    have q4 : (6 : Int) < (n : Int) := by omega
    clear h4 hS0
    go_enter Tryz.func66, Tryz.ntmps66
    go_wp2
    go_ret
    exact ⟨rfl, HB⟩
theorem mayNotes_any (s : Sf) (v : Value) (w : World) (hS : ShR w w.heap.size v s) (hT : Tabs w) (h1 : 1 ≤ s.nn) (h2 : s.nn ≤ 65536) (T : Bool) (hT0 : (decide (s.ts.length ≤ 12) && notesFrom s 0 s.ts) = T) :
    Calls Tryz.prog 67 #[v] w fun e' w' => e' = .returned (.bool T) ∧ Below w.heap.size w w' := by
  have hS0 := hS
  obtain ⟨Ab, cb, An, cn, rfl, hB, hN, hcb, hmb, hcn, hmn⟩ := hS.ex
  clear hS
  obtain ⟨n, hn⟩ : ∃ n, s.ts.length = n := ⟨_, rfl⟩
  rw [hn] at hT0
  have HB : Below w.heap.size w (w.alloc (.cells #[.int .i64 s.nb, .int .i64 s.nn, .int .i64 s.ns, .slice Ab s.bs.length cb, .slice An s.ts.length cn] 25)) := ((Below.refl w.heap.size w).alloc (by first | (simp; done) | (simp; omega)) _)
  have B1 : Blk (w.alloc (.cells #[.int .i64 s.nb, .int .i64 s.nn, .int .i64 s.ns, .slice Ab s.bs.length cb, .slice An s.ts.length cn] 25)) w.heap.size 25 #[.int .i64 s.nb, .int .i64 s.nn, .int .i64 s.ns, .slice Ab s.bs.length cb, .slice An s.ts.length cn] := Blk.new_ w 25 #[.int .i64 s.nb, .int .i64 s.nn, .int .i64 s.ns, .slice Ab s.bs.length cb, .slice An s.ts.length cn]
  rw [hn] at hS0 B1 HB ⊢
  have HT := Lib.hid hT
  have HN := Lib.hid hn
  clear hn hT
  by_cases h4 : n ≤ 12
  · rw [decide_eq_true h4, Bool.true_and] at hT0
    have HTG : Hid (notesFrom s 0 (s.ts.drop 0) = T) := Lib.hid (by rw [List.drop_zero]; exact hT0)
    clear hT0
    obtain ⟨es, hel, hse, hnt⟩ := hN.ex
    go_enter Tryz.func67, Tryz.ntmps67
    go_wp2_with fail
    go_loopw [3, 13] (fun bv i wr => ∃ (k : Nat) (bf : Int), k ≤ n ∧ i = .int .i64 k ∧ bv = .int .i64 bf ∧ 0 ≤ bf ∧ bf ≤ 65535 ∧ Hid (notesFrom s bf (s.ts.drop k) = T) ∧ Below w.heap.size w wr ∧ Blk wr w.heap.size 25 #[.int .i64 s.nb, .int .i64 s.nn, .int .i64 s.ns, .slice Ab s.bs.length cb, .slice An n cn]) (fun _ i _ => n - (intOf i).toNat)
    case atStart => exact ⟨0, 0, by omega, rfl, rfl, by omega, by omega, HTG, HB, B1⟩
    case round =>
      obtain ⟨k, bf, hk, rfl, rfl, f0, f1, HK, HBr, Br⟩ := hrel
      clear HTG HB B1
      have B1 := Br
      clear Br
      have T1 := HT.out.next HBr
      have S1 := hS0.next HBr
      have k0 := B1.cell_ 0
      have k1 := B1.cell_ 1
      have k2 := B1.cell_ 2
      have k3 := B1.cell_ 3
      have k4 := B1.cell_ 4
      simp at k0 k1 k2 k3 k4
      by_cases hlt : k < n
      · have hlx : k < s.ts.length := by have := HN.out; omega
        have i0 : (0 : Int) ≤ (k : Int) := by omega
        have i1 : (k : Int) < (n : Int) := by omega
        obtain ⟨x, hx⟩ : ∃ x, s.ts[k]? = some x := ⟨_, List.getElem?_eq_getElem hlx⟩
        obtain ⟨e0, he⟩ : ∃ e, es[k]? = some e := ⟨_, List.getElem?_eq_getElem (by omega)⟩
        have hin := hnt k x e0 hx he
        obtain ⟨At, ct, As, cs, rfl, -⟩ := hin.ex
        obtain ⟨b1, o1, rfl, l1, q1⟩ := hse.at_ (by omega)
        have N1 := (hin.below HBr).mono HBr.size
        have y0 : wr.cell? ⟨b1, o1 + k * 5 + 0, none⟩ = some (.int .i64 x.id) := (HBr.cell (p := ⟨b1, _, none⟩) l1).trans (q1 k _ he 0 _ rfl)
        have y1 : wr.cell? ⟨b1, o1 + k * 5 + 1, none⟩ = some (.int .i64 x.bk) := (HBr.cell (p := ⟨b1, _, none⟩) l1).trans (q1 k _ he 1 _ rfl)
        have y2 : wr.cell? ⟨b1, o1 + k * 5 + 2, none⟩ = some (.string x.nm) := (HBr.cell (p := ⟨b1, _, none⟩) l1).trans (q1 k _ he 2 _ rfl)
        have y3 : wr.cell? ⟨b1, o1 + k * 5 + 3, none⟩ = some (.slice At x.tg.length ct) := (HBr.cell (p := ⟨b1, _, none⟩) l1).trans (q1 k _ he 3 _ rfl)
        have y4 : wr.cell? ⟨b1, o1 + k * 5 + 4, none⟩ = some (.slice As x.sh.length cs) := (HBr.cell (p := ⟨b1, _, none⟩) l1).trans (q1 k _ he 4 _ rfl)
        simp only [Nat.add_zero] at y0
        have a1 : Below wr.heap.size wr (wr.alloc (.cells #[.int .i64 x.id, .int .i64 x.bk, .string x.nm, .slice At x.tg.length ct, .slice As x.sh.length cs] 54)) := (Below.refl _ _).alloc (Nat.le_refl _) _
        have B2 : Blk (wr.alloc (.cells #[.int .i64 x.id, .int .i64 x.bk, .string x.nm, .slice At x.tg.length ct, .slice As x.sh.length cs] 54)) wr.heap.size 54 #[.int .i64 x.id, .int .i64 x.bk, .string x.nm, .slice At x.tg.length ct, .slice As x.sh.length cs] := Blk.new_ _ _ _
        have S1 := S1.next a1
        have T1 := T1.next a1
        have B1 := B1.below a1 B1.lt
        have HBr := btr HBr HBr.size a1
        have N1 := (N1.below a1).mono a1.size
        clear a1 k0 k1 k2 k3 k4
        have ht := notes_next hx (s := s) (bf := bf)
        rw [HK.out] at ht
        obtain ⟨R, hR⟩ : ∃ R, inI x.id (bf + 1) (s.nn - 1) = R := ⟨_, rfl⟩
        have HR := Lib.hid hR
        rw [hR] at ht
        obtain ⟨M, hM⟩ : ∃ M, mayNt s x = M := ⟨_, rfl⟩
        have HM := Lib.hid hM
        rw [hM] at ht
        have HX := Lib.hid hx
        have HTT := Lib.hid ht
        clear ht hR hM q1 he hx hlx
        have k0 := B1.cell_ 0; have k1 := B1.cell_ 1; have k2 := B1.cell_ 2; have k3 := B1.cell_ 3; have k4 := B1.cell_ 4; have m0 := B2.cell_ 0; have m1 := B2.cell_ 1; have m2 := B2.cell_ 2; have m3 := B2.cell_ 3; have m4 := B2.cell_ 4; simp at k0 k1 k2 k3 k4 m0 m1 m2 m3 m4
        cases R
        · skip
          go_wp2_with (first | (go_at_call 65; ((with_reducible refine (within_any _ _ _ _ _ HR.out).mono ?_); rintro e' w3 ⟨rfl, rfl⟩)) | (go_at_call 95; ((with_reducible refine (mayNote_at s _ x At ct As cs _ S1 N1 T1 _ HM.out).mono ?_); rintro e' w4 ⟨rfl, b4⟩; have S1 := S1.next b4; have T1 := T1.next b4; have B1 := B1.below b4 B1.lt; have B2 := B2.below b4 B2.lt; have HBr := btr HBr HBr.size b4; (try clear k0 k1 k2 k3 k4 m0 m1 m2 m3 m4); have k0 := B1.cell_ 0; have k1 := B1.cell_ 1; have k2 := B1.cell_ 2; have k3 := B1.cell_ 3; have k4 := B1.cell_ 4; have m0 := B2.cell_ 0; have m1 := B2.cell_ 1; have m2 := B2.cell_ 2; have m3 := B2.cell_ 3; have m4 := B2.cell_ 4; simp at k0 k1 k2 k3 k4 m0 m1 m2 m3 m4; clear b4)))
          go_ret
          exact ⟨by rw [HTT.out]; rfl, HBr⟩
        · cases M
          · skip
            go_wp2_with (first | (go_at_call 65; ((with_reducible refine (within_any _ _ _ _ _ HR.out).mono ?_); rintro e' w3 ⟨rfl, rfl⟩)) | (go_at_call 95; ((with_reducible refine (mayNote_at s _ x At ct As cs _ S1 N1 T1 _ HM.out).mono ?_); rintro e' w4 ⟨rfl, b4⟩; have S1 := S1.next b4; have T1 := T1.next b4; have B1 := B1.below b4 B1.lt; have B2 := B2.below b4 B2.lt; have HBr := btr HBr HBr.size b4; (try clear k0 k1 k2 k3 k4 m0 m1 m2 m3 m4); have k0 := B1.cell_ 0; have k1 := B1.cell_ 1; have k2 := B1.cell_ 2; have k3 := B1.cell_ 3; have k4 := B1.cell_ 4; have m0 := B2.cell_ 0; have m1 := B2.cell_ 1; have m2 := B2.cell_ 2; have m3 := B2.cell_ 3; have m4 := B2.cell_ 4; simp at k0 k1 k2 k3 k4 m0 m1 m2 m3 m4; clear b4)))
            go_ret
            exact ⟨by rw [HTT.out]; rfl, HBr⟩
          · skip
            have hr := inI_bd HR.out
            have g0 := hr.1
            have g1 := hr.2
            clear hr
            go_wp2_with (first | (go_at_call 65; ((with_reducible refine (within_any _ _ _ _ _ HR.out).mono ?_); rintro e' w3 ⟨rfl, rfl⟩)) | (go_at_call 95; ((with_reducible refine (mayNote_at s _ x At ct As cs _ S1 N1 T1 _ HM.out).mono ?_); rintro e' w4 ⟨rfl, b4⟩; have S1 := S1.next b4; have T1 := T1.next b4; have B1 := B1.below b4 B1.lt; have B2 := B2.below b4 B2.lt; have HBr := btr HBr HBr.size b4; (try clear k0 k1 k2 k3 k4 m0 m1 m2 m3 m4); have k0 := B1.cell_ 0; have k1 := B1.cell_ 1; have k2 := B1.cell_ 2; have k3 := B1.cell_ 3; have k4 := B1.cell_ 4; have m0 := B2.cell_ 0; have m1 := B2.cell_ 1; have m2 := B2.cell_ 2; have m3 := B2.cell_ 3; have m4 := B2.cell_ 4; simp at k0 k1 k2 k3 k4 m0 m1 m2 m3 m4; clear b4)))
            go_roundw
            case rel => exact ⟨k + 1, x.id, by omega, by go_num, rfl, by omega, by omega, Lib.hid (by rw [HTT.out]; rfl), HBr, B1⟩
            case measure => simp [intOf]; omega
      · have hjn : k = n := by omega
        subst hjn
        have ht := HK.out
        rw [← HN.out, List.drop_length] at ht
        have HTT := Lib.hid ht
        clear hlt ht
        go_wp2_with fail
        go_ret
        exact ⟨by rw [← HTT.out]; rfl, HBr⟩
  · rw [decide_eq_false h4, Bool.false_and] at hT0
    subst hT0
    have q4 : (12 : Int) < (n : Int) := by omega
    clear h4 hS0
    go_enter Tryz.func67, Tryz.ntmps67
    go_wp2
    go_ret
    exact ⟨rfl, HB⟩
end Go.Proofs.YteokeghenjobaaaGreatDoor
namespace Go.Proofs.YteokeghenjobaaaGreatDoor
open Go.ChangeShapes Go.WideShapes Go.ChangeAt Go.RowKit
attribute [local go_sem ↓] Go.wp_at_zero Go.wp_at_succ
theorem own_cur {w : World} {base g n : Nat} {e : TypeId} {xs : List Value} (h : w.ownsRow base e 1 (.slice (some ⟨g, 0, none⟩) n n) n xs) : w.heap[g]? = some (.cells xs.toArray e (0, 0)) := by
  obtain ⟨hl, h⟩ := h
  rcases h with ⟨h0, _⟩ | ⟨g', cap, cur, hv, _, hh, hnc, _, hsz, ht⟩
  · cases h0
  · cases hv
    have : cur = xs.toArray := by
      rw [← ht]
      have hl2 : cur.toList.length = n * 1 := by simpa using hsz
      rw [List.take_of_length_le (by omega)]
    rw [← this]
    exact hh
theorem infoBool : (Tryz.prog.info? 4).map (fun i => (i.zero, i.size, i.bytes)) = some (some (.bool false), 1, 1) := by kernel_rfl
def takV (n : Nat) (seen : List Int) : Array Value := ((List.range n).map fun (i : Nat) => Value.bool (seen.contains (i : Int))).toArray
theorem takV_get (n : Nat) (seen : List Int) (k : Nat) (h : k < n) : (takV n seen)[k]? = some (.bool (seen.contains (k : Int))) := by
  unfold takV
  rw [List.getElem?_toArray, List.getElem?_map, List.getElem?_range h]
  rfl
theorem takV_nil (n : Nat) : (List.replicate n (Value.bool false)).toArray = takV n [] := by
  apply Array.ext_getElem?
  intro i
  by_cases hi : i < n
  · rw [takV_get _ _ _ hi, List.getElem?_toArray, List.getElem?_replicate, if_pos hi]
    rfl
  · rw [Array.getElem?_eq_none (by simp; omega), Array.getElem?_eq_none (by simp [takV]; omega)]
theorem takV_set (n : Nat) (seen : List Int) (k : Nat) (h : k < n) : (takV n seen).setIfInBounds k (.bool true) = takV n ((k : Int) :: seen) := by
  apply Array.ext_getElem?
  intro i
  rw [Array.getElem?_setIfInBounds]
  have hs : (takV n seen).size = n := by simp [takV]
  by_cases hik : k = i
  · subst hik
    rw [if_pos rfl, if_pos (by omega), takV_get _ _ _ h]
    simp
  · rw [if_neg hik]
    by_cases hi : i < n
    · rw [takV_get _ _ _ hi, takV_get _ _ _ hi, List.contains_cons]
      have : ((i : Int) == (k : Int)) = false := by
        simp only [beq_eq_false_iff_ne, ne_eq]
        omega
      rw [this, Bool.false_or]
    · rw [Array.getElem?_eq_none (by omega), Array.getElem?_eq_none (by simp [takV]; omega)]
theorem sh_next {ns : Int} {seen : List Int} {l : List Int} {j : Nat} {y : Int} {r : List Nt} (h : l[j]? = some y) : (sheetsIn ns seen (l.drop j) && sheetsFrom ns ((l.drop j).reverse ++ seen) r) = (inI y 1 (ns - 1) && (!seen.contains y && (sheetsIn ns (y :: seen) (l.drop (j + 1)) && sheetsFrom ns ((l.drop (j + 1)).reverse ++ (y :: seen)) r))) := by
  rw [drop_next h]
  have e : (y :: l.drop (j + 1)).reverse ++ seen = (l.drop (j + 1)).reverse ++ (y :: seen) := by simp
  rw [e]
  show ((inI y 1 (ns - 1) && (!seen.contains y && sheetsIn ns (y :: seen) (l.drop (j + 1)))) && _) = _
  rw [Bool.and_assoc, Bool.and_assoc]
theorem sh_end {ns : Int} {seen : List Int} {l : List Int} {r : List Nt} : (sheetsIn ns seen (l.drop l.length) && sheetsFrom ns ((l.drop l.length).reverse ++ seen) r) = sheetsFrom ns seen r := by
  rw [List.drop_length]
  rfl
theorem shs_next {ns : Int} {seen : List Int} {l : List Nt} {k : Nat} {x : Nt} (h : l[k]? = some x) : sheetsFrom ns seen (l.drop k) = (decide (x.sh.length ≤ 8) && (sheetsIn ns seen (x.sh.drop 0) && sheetsFrom ns ((x.sh.drop 0).reverse ++ seen) (l.drop (k + 1)))) := by
  rw [drop_next h]
  rfl
theorem maySheets_any (s : Sf) (v : Value) (w : World) (hS : ShR w w.heap.size v s) (h1 : 1 ≤ s.ns) (h2 : s.ns ≤ 4096) (T : Bool) (hT0 : sheetsFrom s.ns [] s.ts = T) :
    Calls Tryz.prog 68 #[v] w fun e' w' => e' = .returned (.bool T) ∧ Below w.heap.size w w' := by
  obtain ⟨Ab, cb, An, cn, rfl, hB, hN, hcb, hmb, hcn, hmn⟩ := hS.ex
  clear hS
  obtain ⟨m, hm⟩ : ∃ m, s.ts.length = m := ⟨_, rfl⟩
  obtain ⟨N, hNs⟩ : ∃ N : Nat, s.ns = (N : Int) := ⟨s.ns.toNat, by omega⟩
  have n1 : 1 ≤ N := by omega
  have n2 : N ≤ 4096 := by omega
  have HB : Below w.heap.size w (w.alloc (.cells #[.int .i64 s.nb, .int .i64 s.nn, .int .i64 s.ns, .slice Ab s.bs.length cb, .slice An s.ts.length cn] 25)) := ((Below.refl w.heap.size w).alloc (by first | (simp; done) | (simp; omega)) _)
  have B1 : Blk (w.alloc (.cells #[.int .i64 s.nb, .int .i64 s.nn, .int .i64 s.ns, .slice Ab s.bs.length cb, .slice An s.ts.length cn] 25)) w.heap.size 25 #[.int .i64 s.nb, .int .i64 s.nn, .int .i64 s.ns, .slice Ab s.bs.length cb, .slice An s.ts.length cn] := Blk.new_ w 25 #[.int .i64 s.nb, .int .i64 s.nn, .int .i64 s.ns, .slice Ab s.bs.length cb, .slice An s.ts.length cn]
  rw [hm] at B1 HB hcn ⊢
  rw [hNs] at B1 HB h1 h2 hT0 ⊢
  have m9 : m ≤ 9223372036854775807 := by
    have h0 : cn ≤ maxLen := hmn
    unfold maxLen at h0
    omega
  have HM := Lib.hid hm
  have HTG : Hid (sheetsFrom (N : Int) [] (s.ts.drop 0) = T) := Lib.hid (by rw [List.drop_zero]; exact hT0)
  have HNS := Lib.hid hNs
  obtain ⟨es, hel, hse, hnt⟩ := hN.ex
  have HEL := Lib.hid hel
  clear hT0 hm hNs hel
  have i0 : (0 : Int) ≤ (N : Int) := by omega
  have i1 : (N : Int) ≤ 4096 := by omega
  go_enter Tryz.func68, Tryz.ntmps68
  go_upto_region 2 with (at_make; obtain ⟨ti0, hi, hz0, hz1, hz2⟩ := info_parts infoBool; refine wpList_make_full _ rfl _ _ 115 rfl (w.heap.size + 1) 4 ti0 (.bool false) 1 Tryz.underlying115 hi hz0 hz1 _ _ _ _ N rfl rfl rfl rfl (by rw [hz2]; omega) (by unfold maxLen; omega) (by simp) ?_; intro w1 hown1 hgrow1; clear hi hz0 hz1 hz2)
  have hsz : ((w.alloc (.cells #[.int .i64 s.nb, .int .i64 s.nn, .int .i64 (N : Int), .slice Ab s.bs.length cb, .slice An m cn] 25))).heap.size = w.heap.size + 1 := by simp
  have hcur := own_cur hown1
  rw [hsz] at hcur
  rw [show (madeCells (Value.bool false).cells (N * 1)).toList = List.replicate (N * 1) (Value.bool false) from toList_madeCells_one _ _, Nat.mul_one, takV_nil] at hcur
  have hb1 : Below (w.heap.size + 1) ((w.alloc (.cells #[.int .i64 s.nb, .int .i64 s.nn, .int .i64 (N : Int), .slice Ab s.bs.length cb, .slice An m cn] 25))) w1 := (Below.refl _ _).grown hgrow1 (by simp) (fun j hj => by cases hj)
  have HB1 : Below w.heap.size w w1 := HB.trans (hb1.mono (by omega))
  have B1' := B1.below hb1 (by omega)
  have R1 : Blk w1 (w.heap.size + 1) 4 (takV N []) := hcur
  clear hcur hown1 hgrow1 hb1 B1 HB
  have B1 := B1'
  clear B1'
  have k0 := B1.cell_ 0
  have k1 := B1.cell_ 1
  have k2 := B1.cell_ 2
  have k3 := B1.cell_ 3
  have k4 := B1.cell_ 4
  simp at k0 k1 k2 k3 k4
  go_wp2_with fail
  go_loopw [14] (fun i wr => ∃ (k : Nat) (seen : List Int), k ≤ m ∧ i = .int .i64 k ∧ Hid (sheetsFrom (N : Int) seen (s.ts.drop k) = T) ∧ Below w.heap.size w wr ∧ Blk wr w.heap.size 25 #[.int .i64 s.nb, .int .i64 s.nn, .int .i64 (N : Int), .slice Ab s.bs.length cb, .slice An m cn] ∧ Blk wr (w.heap.size + 1) 4 (takV N seen)) (fun i _ => m - (intOf i).toNat)
  case atStart => exact ⟨0, [], by omega, rfl, HTG, HB1, B1, R1⟩
  case round =>
    obtain ⟨k, seen, hk, rfl, HK, HBr, Br, Rr⟩ := hrel
    clear HTG HB1 B1 R1 k0 k1 k2 k3 k4 w1
    have k0 := Br.cell_ 0
    have k1 := Br.cell_ 1
    have k2 := Br.cell_ 2
    have k3 := Br.cell_ 3
    have k4 := Br.cell_ 4
    simp at k0 k1 k2 k3 k4
    by_cases hlt : k < m
    · have hlx : k < s.ts.length := by have := HM.out; omega
      have j0 : (0 : Int) ≤ (k : Int) := by omega
      have j1 : (k : Int) < (m : Int) := by omega
      obtain ⟨x, hx⟩ : ∃ x, s.ts[k]? = some x := ⟨_, List.getElem?_eq_getElem hlx⟩
      obtain ⟨e0, he⟩ : ∃ e, es[k]? = some e := ⟨_, List.getElem?_eq_getElem (by have := HEL.out; omega)⟩
      have hin := hnt k x e0 hx he
      obtain ⟨At, ct, As, cs, rfl, -, hAs, -, -, hsc, hsm⟩ := hin.ex
      obtain ⟨b1, o1, rfl, l1, q1⟩ := hse.at_ (by have := HEL.out; omega)
      have y0 : wr.cell? ⟨b1, o1 + k * 5 + 0, none⟩ = some (.int .i64 x.id) := (HBr.cell (p := ⟨b1, _, none⟩) l1).trans (q1 k _ he 0 _ rfl)
      have y1 : wr.cell? ⟨b1, o1 + k * 5 + 1, none⟩ = some (.int .i64 x.bk) := (HBr.cell (p := ⟨b1, _, none⟩) l1).trans (q1 k _ he 1 _ rfl)
      have y2 : wr.cell? ⟨b1, o1 + k * 5 + 2, none⟩ = some (.string x.nm) := (HBr.cell (p := ⟨b1, _, none⟩) l1).trans (q1 k _ he 2 _ rfl)
      have y3 : wr.cell? ⟨b1, o1 + k * 5 + 3, none⟩ = some (.slice At x.tg.length ct) := (HBr.cell (p := ⟨b1, _, none⟩) l1).trans (q1 k _ he 3 _ rfl)
      have y4 : wr.cell? ⟨b1, o1 + k * 5 + 4, none⟩ = some (.slice As x.sh.length cs) := (HBr.cell (p := ⟨b1, _, none⟩) l1).trans (q1 k _ he 4 _ rfl)
      simp only [Nat.add_zero] at y0
      have a1 : Below wr.heap.size wr (wr.alloc (.cells #[.int .i64 x.id, .int .i64 x.bk, .string x.nm, .slice At x.tg.length ct, .slice As x.sh.length cs] 54)) := (Below.refl _ _).alloc (Nat.le_refl _) _
      have B2 : Blk (wr.alloc (.cells #[.int .i64 x.id, .int .i64 x.bk, .string x.nm, .slice At x.tg.length ct, .slice As x.sh.length cs] 54)) wr.heap.size 54 #[.int .i64 x.id, .int .i64 x.bk, .string x.nm, .slice At x.tg.length ct, .slice As x.sh.length cs] := Blk.new_ _ _ _
      have B1 := Br.below a1 Br.lt
      have R1 := Rr.below a1 Rr.lt
      have HBr := btr HBr HBr.size a1
      have g2 : w.heap.size + 1 < wr.heap.size := Rr.lt
      clear a1 k0 k1 k2 k3 k4 Br Rr
      have k0 := B1.cell_ 0
      have k1 := B1.cell_ 1
      have k2 := B1.cell_ 2
      have k3 := B1.cell_ 3
      have k4 := B1.cell_ 4
      simp at k0 k1 k2 k3 k4
      have ht := shs_next hx (ns := (N : Int)) (seen := seen)
      rw [HK.out] at ht
      obtain ⟨q, hq⟩ : ∃ q, x.sh.length = q := ⟨_, rfl⟩
      have HQ := Lib.hid hq
      rw [hq] at ht hsc B1 R1 HBr B2 y4
      by_cases h8 : q ≤ 8
      · rw [decide_eq_true h8, Bool.true_and] at ht
        have HT0 := Lib.hid ht.symm
        clear ht hq hx he q1 hin
        go_wp2_with fail
        go_loopw [25] (fun i wq => ∃ (j : Nat) (sn : List Int), j ≤ q ∧ i = .int .i64 j ∧ Hid ((sheetsIn (N : Int) sn (x.sh.drop j) && sheetsFrom (N : Int) ((x.sh.drop j).reverse ++ sn) (s.ts.drop (k + 1))) = T) ∧ Below w.heap.size w wq ∧ Blk wq w.heap.size 25 #[.int .i64 s.nb, .int .i64 s.nn, .int .i64 (N : Int), .slice Ab s.bs.length cb, .slice (some ⟨b1, o1, none⟩) m cn] ∧ Blk wq (w.heap.size + 1) 4 (takV N sn)) (fun i _ => q - (intOf i).toNat)
        case atStart => exact ⟨0, seen, by omega, rfl, HT0, HBr, B1, R1⟩
        case round =>
          obtain ⟨j, sn, hj, rfl, HJ, HBq, Bq, Rq⟩ := hrel
          clear HT0 HBr B1 R1 k0 k1 k2 k3 k4 B2
          have k0 := Bq.cell_ 0
          have k1 := Bq.cell_ 1
          have k2 := Bq.cell_ 2
          have k3 := Bq.cell_ 3
          have k4 := Bq.cell_ 4
          simp at k0 k1 k2 k3 k4
          by_cases hlq : j < q
          · have hlj : j < x.sh.length := by have := HQ.out; omega
            have u0 : (0 : Int) ≤ (j : Int) := by omega
            have u1 : (j : Int) < (q : Int) := by omega
            obtain ⟨z, hz⟩ : ∃ z, x.sh[j]? = some z := ⟨_, List.getElem?_eq_getElem hlj⟩
            obtain ⟨b2, o2, rfl, l2, q2⟩ := (hAs.below HBq).at_ (by rw [List.length_map]; omega)
            have cz : wr.cell? ⟨b2, o2 + j, none⟩ = some (.int .i64 z) := q2 j _ (by rw [List.getElem?_map, hz]; rfl)
            have hs := sh_next hz (ns := (N : Int)) (seen := sn) (r := s.ts.drop (k + 1))
            rw [HJ.out] at hs
            obtain ⟨R, hR⟩ : ∃ R, inI z 1 ((N : Int) - 1) = R := ⟨_, rfl⟩
            have HR := Lib.hid hR
            rw [hR] at hs
            cases R
            · have HTT := Lib.hid hs
              clear hs hR hz q2
              go_wp2_with (go_at_call 65; ((with_reducible refine (within_any _ _ _ _ _ HR.out).mono ?_); rintro e' w3 ⟨rfl, rfl⟩))
              go_ret
              exact ⟨by rw [HTT.out]; rfl, HBq⟩
            · have hr := inI_bd hR
              obtain ⟨Z, rfl⟩ : ∃ Z : Nat, z = (Z : Int) := ⟨z.toNat, by omega⟩
              have z1 : 1 ≤ Z := by omega
              have z2 : Z < N := by omega
              have z3 : (0 : Int) ≤ (Z : Int) := by omega
              have z4 : (Z : Int) < (N : Int) := by omega
              obtain ⟨S, hS⟩ : ∃ S, sn.contains (Z : Int) = S := ⟨_, rfl⟩
              have ct1 : wr.cell? ⟨w.heap.size + 1, Z, none⟩ = some (.bool S) := by rw [Rq.cell_, takV_get N sn Z z2, hS]
              rw [hS] at hs
              cases S
              · have HTT := Lib.hid hs.symm
                have HST := takV_set N sn Z z2
                have RZ := Rq.set_ Z (.bool true)
                rw [HST] at RZ
                have BZ := Bq.far (p := ⟨w.heap.size + 1, Z, none⟩) (by show w.heap.size ≠ w.heap.size + 1; omega) (.bool true)
                have fz := Rq.free Z
                have HRZ := Lib.hid RZ
                have HBZ := Lib.hid BZ
                have HRL := Rq.lt
                clear hs hR hz q2 hr HST RZ BZ hS
                go_wp2_with (go_at_call 65; ((with_reducible refine (within_any _ _ _ _ _ HR.out).mono ?_); rintro e' w3 ⟨rfl, rfl⟩))
                go_roundw
                case rel => exact ⟨j + 1, (Z : Int) :: sn, by omega, by go_num, Lib.hid HTT.out, HBq.setCell (p := ⟨w.heap.size + 1, Z, none⟩) (by show w.heap.size ≤ w.heap.size + 1; omega) _, HBZ.out, HRZ.out⟩
                case measure => simp [intOf]; omega
              · have HTT := Lib.hid hs
                clear hs hR hz q2 hr hS
                go_wp2_with (go_at_call 65; ((with_reducible refine (within_any _ _ _ _ _ HR.out).mono ?_); rintro e' w3 ⟨rfl, rfl⟩))
                go_ret
                exact ⟨by rw [HTT.out]; rfl, HBq⟩
          · have hjn : j = q := by omega
            subst hjn
            have hs := HJ.out
            rw [← HQ.out, sh_end] at hs
            have HTT := Lib.hid hs
            clear hlq hs
            go_wp2_with fail
            go_roundw
            case rel => exact ⟨k + 1, sn, by omega, by go_num, HTT, HBq, Bq, Rq⟩
            case measure => simp [intOf]; omega
      · rw [decide_eq_false h8, Bool.false_and] at ht
        have HT0 := Lib.hid ht
        have p8 : (8 : Int) < (q : Int) := by omega
        clear ht hq hx he q1 hin
        go_wp2_with fail
        go_ret
        exact ⟨by rw [HT0.out]; rfl, HBr⟩
    · have hjn : k = m := by omega
      subst hjn
      have ht := HK.out
      rw [← HM.out, List.drop_length] at ht
      have HTT := Lib.hid ht
      clear hlt ht
      go_wp2_with fail
      go_ret
      exact ⟨by rw [← HTT.out]; rfl, HBr⟩
end Go.Proofs.YteokeghenjobaaaGreatDoor
namespace Go.Proofs.YteokeghenjobaaaGreatDoor
open Go.ChangeShapes Go.WideShapes Go.ChangeAt Go.RowKit
attribute [local go_sem ↓] Go.wp_at_zero Go.wp_at_succ
theorem smay_any (s : Sf) (v : Value) (w : World) (hS : ShR w w.heap.size v s) (hT : Tabs w) (T : Bool) (hT0 : mayS s = T) :
    Calls Tryz.prog 28 #[v] w fun e' w' => e' = .returned (.bool T) ∧ Below w.heap.size w w' := by
  have hS0 := hS
  obtain ⟨Ab, cb, An, cn, rfl, hB, hN, hcb, hmb, hcn, hmn⟩ := hS.ex
  clear hS
  have HB : Below w.heap.size w (w.alloc (.cells #[.int .i64 s.nb, .int .i64 s.nn, .int .i64 s.ns, .slice Ab s.bs.length cb, .slice An s.ts.length cn] 25)) := ((Below.refl w.heap.size w).alloc (by first | (simp; done) | (simp; omega)) _)
  have B1 : Blk (w.alloc (.cells #[.int .i64 s.nb, .int .i64 s.nn, .int .i64 s.ns, .slice Ab s.bs.length cb, .slice An s.ts.length cn] 25)) w.heap.size 25 #[.int .i64 s.nb, .int .i64 s.nn, .int .i64 s.ns, .slice Ab s.bs.length cb, .slice An s.ts.length cn] := Blk.new_ w 25 #[.int .i64 s.nb, .int .i64 s.nn, .int .i64 s.ns, .slice Ab s.bs.length cb, .slice An s.ts.length cn]
  have S1 : ShR (w.alloc (.cells #[.int .i64 s.nb, .int .i64 s.nn, .int .i64 s.ns, .slice Ab s.bs.length cb, .slice An s.ts.length cn] 25)) ((w.alloc (.cells #[.int .i64 s.nb, .int .i64 s.nn, .int .i64 s.ns, .slice Ab s.bs.length cb, .slice An s.ts.length cn] 25))).heap.size (.agg #[.int .i64 s.nb, .int .i64 s.nn, .int .i64 s.ns, .slice Ab s.bs.length cb, .slice An s.ts.length cn]) s := hS0.next HB
  have T1 := hT.next HB
  clear hS0 hT hB hN hcb hmb hcn hmn
  obtain ⟨R1, h1⟩ : ∃ R, inI s.nb 1 65536 = R := ⟨_, rfl⟩
  obtain ⟨R2, h2⟩ : ∃ R, inI s.nn 1 65536 = R := ⟨_, rfl⟩
  obtain ⟨R3, h3⟩ : ∃ R, inI s.ns 1 4096 = R := ⟨_, rfl⟩
  obtain ⟨R4, h4⟩ : ∃ R, (decide (s.bs.length ≤ 6) && booksFrom s 0 s.bs) = R := ⟨_, rfl⟩
  obtain ⟨R5, h5⟩ : ∃ R, (decide (s.ts.length ≤ 12) && notesFrom s 0 s.ts) = R := ⟨_, rfl⟩
  obtain ⟨R6, h6⟩ : ∃ R, sheetsFrom s.ns [] s.ts = R := ⟨_, rfl⟩
  unfold mayS at hT0
  rw [h1, h2, h3, h4, h5, h6] at hT0
  have H0 := Lib.hid hT0
  have H1 := Lib.hid h1
  have H2 := Lib.hid h2
  have H3 := Lib.hid h3
  have H4 := Lib.hid h4
  have H5 := Lib.hid h5
  have H6 := Lib.hid h6
  clear hT0 h1 h2 h3 h4 h5 h6
  cases R1
  · skip
    go_enter Tryz.func28, Tryz.ntmps28
    go_wp2_with (first | (go_at_call 65; ((with_reducible refine (within_any s.nb _ _ _ _ H1.out).mono ?_); rintro e' w3 ⟨rfl, rfl⟩)) | (go_at_call 65; ((with_reducible refine (within_any s.nn _ _ _ _ H2.out).mono ?_); rintro e' w3 ⟨rfl, rfl⟩)) | (go_at_call 65; ((with_reducible refine (within_any s.ns _ _ _ _ H3.out).mono ?_); rintro e' w3 ⟨rfl, rfl⟩)))
    go_ret
    exact ⟨by rw [← H0.out]; rfl, HB⟩
  · skip
    cases R2
    · skip
      go_enter Tryz.func28, Tryz.ntmps28
      go_wp2_with (first | (go_at_call 65; ((with_reducible refine (within_any s.nb _ _ _ _ H1.out).mono ?_); rintro e' w3 ⟨rfl, rfl⟩)) | (go_at_call 65; ((with_reducible refine (within_any s.nn _ _ _ _ H2.out).mono ?_); rintro e' w3 ⟨rfl, rfl⟩)) | (go_at_call 65; ((with_reducible refine (within_any s.ns _ _ _ _ H3.out).mono ?_); rintro e' w3 ⟨rfl, rfl⟩)))
      go_ret
      exact ⟨by rw [← H0.out]; rfl, HB⟩
    · skip
      cases R3
      · skip
        go_enter Tryz.func28, Tryz.ntmps28
        go_wp2_with (first | (go_at_call 65; ((with_reducible refine (within_any s.nb _ _ _ _ H1.out).mono ?_); rintro e' w3 ⟨rfl, rfl⟩)) | (go_at_call 65; ((with_reducible refine (within_any s.nn _ _ _ _ H2.out).mono ?_); rintro e' w3 ⟨rfl, rfl⟩)) | (go_at_call 65; ((with_reducible refine (within_any s.ns _ _ _ _ H3.out).mono ?_); rintro e' w3 ⟨rfl, rfl⟩)))
        go_ret
        exact ⟨by rw [← H0.out]; rfl, HB⟩
      · skip
        cases R4
        · skip
          go_enter Tryz.func28, Tryz.ntmps28
          go_wp2_with (first | (go_at_call 65; ((with_reducible refine (within_any s.nb _ _ _ _ H1.out).mono ?_); rintro e' w3 ⟨rfl, rfl⟩)) | (go_at_call 65; ((with_reducible refine (within_any s.nn _ _ _ _ H2.out).mono ?_); rintro e' w3 ⟨rfl, rfl⟩)) | (go_at_call 65; ((with_reducible refine (within_any s.ns _ _ _ _ H3.out).mono ?_); rintro e' w3 ⟨rfl, rfl⟩)) | (go_at_call 66; ((with_reducible refine (mayBooks_any s _ _ S1 T1 (by have := inI_bd H1.out; omega) (by have := inI_bd H1.out; omega) _ H4.out).mono ?_); rintro e' w4 ⟨rfl, b4⟩; have S1 := S1.next b4; have T1 := T1.next b4; have B1 := B1.below b4 B1.lt; have HB := btr HB HB.size b4; (try clear k0 k1 k2 k3 k4); have k0 := B1.cell_ 0; have k1 := B1.cell_ 1; have k2 := B1.cell_ 2; have k3 := B1.cell_ 3; have k4 := B1.cell_ 4; simp at k0 k1 k2 k3 k4; clear b4)))
          go_ret
          exact ⟨by rw [← H0.out]; rfl, HB⟩
        · skip
          cases R5
          · skip
            go_enter Tryz.func28, Tryz.ntmps28
            go_wp2_with (first | (go_at_call 65; ((with_reducible refine (within_any s.nb _ _ _ _ H1.out).mono ?_); rintro e' w3 ⟨rfl, rfl⟩)) | (go_at_call 65; ((with_reducible refine (within_any s.nn _ _ _ _ H2.out).mono ?_); rintro e' w3 ⟨rfl, rfl⟩)) | (go_at_call 65; ((with_reducible refine (within_any s.ns _ _ _ _ H3.out).mono ?_); rintro e' w3 ⟨rfl, rfl⟩)) | (go_at_call 66; ((with_reducible refine (mayBooks_any s _ _ S1 T1 (by have := inI_bd H1.out; omega) (by have := inI_bd H1.out; omega) _ H4.out).mono ?_); rintro e' w4 ⟨rfl, b4⟩; have S1 := S1.next b4; have T1 := T1.next b4; have B1 := B1.below b4 B1.lt; have HB := btr HB HB.size b4; (try clear k0 k1 k2 k3 k4); have k0 := B1.cell_ 0; have k1 := B1.cell_ 1; have k2 := B1.cell_ 2; have k3 := B1.cell_ 3; have k4 := B1.cell_ 4; simp at k0 k1 k2 k3 k4; clear b4)) | (go_at_call 67; ((with_reducible refine (mayNotes_any s _ _ S1 T1 (by have := inI_bd H2.out; omega) (by have := inI_bd H2.out; omega) _ H5.out).mono ?_); rintro e' w5 ⟨rfl, b5⟩; have S1 := S1.next b5; have T1 := T1.next b5; have B1 := B1.below b5 B1.lt; have HB := btr HB HB.size b5; (try clear k0 k1 k2 k3 k4); have k0 := B1.cell_ 0; have k1 := B1.cell_ 1; have k2 := B1.cell_ 2; have k3 := B1.cell_ 3; have k4 := B1.cell_ 4; simp at k0 k1 k2 k3 k4; clear b5)))
            go_ret
            exact ⟨by rw [← H0.out]; rfl, HB⟩
          · skip
            cases R6
            · skip
              go_enter Tryz.func28, Tryz.ntmps28
              go_wp2_with (first | (go_at_call 65; ((with_reducible refine (within_any s.nb _ _ _ _ H1.out).mono ?_); rintro e' w3 ⟨rfl, rfl⟩)) | (go_at_call 65; ((with_reducible refine (within_any s.nn _ _ _ _ H2.out).mono ?_); rintro e' w3 ⟨rfl, rfl⟩)) | (go_at_call 65; ((with_reducible refine (within_any s.ns _ _ _ _ H3.out).mono ?_); rintro e' w3 ⟨rfl, rfl⟩)) | (go_at_call 66; ((with_reducible refine (mayBooks_any s _ _ S1 T1 (by have := inI_bd H1.out; omega) (by have := inI_bd H1.out; omega) _ H4.out).mono ?_); rintro e' w4 ⟨rfl, b4⟩; have S1 := S1.next b4; have T1 := T1.next b4; have B1 := B1.below b4 B1.lt; have HB := btr HB HB.size b4; (try clear k0 k1 k2 k3 k4); have k0 := B1.cell_ 0; have k1 := B1.cell_ 1; have k2 := B1.cell_ 2; have k3 := B1.cell_ 3; have k4 := B1.cell_ 4; simp at k0 k1 k2 k3 k4; clear b4)) | (go_at_call 67; ((with_reducible refine (mayNotes_any s _ _ S1 T1 (by have := inI_bd H2.out; omega) (by have := inI_bd H2.out; omega) _ H5.out).mono ?_); rintro e' w5 ⟨rfl, b5⟩; have S1 := S1.next b5; have T1 := T1.next b5; have B1 := B1.below b5 B1.lt; have HB := btr HB HB.size b5; (try clear k0 k1 k2 k3 k4); have k0 := B1.cell_ 0; have k1 := B1.cell_ 1; have k2 := B1.cell_ 2; have k3 := B1.cell_ 3; have k4 := B1.cell_ 4; simp at k0 k1 k2 k3 k4; clear b5)) | (go_at_call 68; ((with_reducible refine (maySheets_any s _ _ S1 (by have := inI_bd H3.out; omega) (by have := inI_bd H3.out; omega) _ H6.out).mono ?_); rintro e' w6 ⟨rfl, b6⟩; have S1 := S1.next b6; have T1 := T1.next b6; have B1 := B1.below b6 B1.lt; have HB := btr HB HB.size b6; (try clear k0 k1 k2 k3 k4); have k0 := B1.cell_ 0; have k1 := B1.cell_ 1; have k2 := B1.cell_ 2; have k3 := B1.cell_ 3; have k4 := B1.cell_ 4; simp at k0 k1 k2 k3 k4; clear b6)))
              go_ret
              exact ⟨by rw [← H0.out]; rfl, HB⟩
            · skip
              go_enter Tryz.func28, Tryz.ntmps28
              go_wp2_with (first | (go_at_call 65; ((with_reducible refine (within_any s.nb _ _ _ _ H1.out).mono ?_); rintro e' w3 ⟨rfl, rfl⟩)) | (go_at_call 65; ((with_reducible refine (within_any s.nn _ _ _ _ H2.out).mono ?_); rintro e' w3 ⟨rfl, rfl⟩)) | (go_at_call 65; ((with_reducible refine (within_any s.ns _ _ _ _ H3.out).mono ?_); rintro e' w3 ⟨rfl, rfl⟩)) | (go_at_call 66; ((with_reducible refine (mayBooks_any s _ _ S1 T1 (by have := inI_bd H1.out; omega) (by have := inI_bd H1.out; omega) _ H4.out).mono ?_); rintro e' w4 ⟨rfl, b4⟩; have S1 := S1.next b4; have T1 := T1.next b4; have B1 := B1.below b4 B1.lt; have HB := btr HB HB.size b4; (try clear k0 k1 k2 k3 k4); have k0 := B1.cell_ 0; have k1 := B1.cell_ 1; have k2 := B1.cell_ 2; have k3 := B1.cell_ 3; have k4 := B1.cell_ 4; simp at k0 k1 k2 k3 k4; clear b4)) | (go_at_call 67; ((with_reducible refine (mayNotes_any s _ _ S1 T1 (by have := inI_bd H2.out; omega) (by have := inI_bd H2.out; omega) _ H5.out).mono ?_); rintro e' w5 ⟨rfl, b5⟩; have S1 := S1.next b5; have T1 := T1.next b5; have B1 := B1.below b5 B1.lt; have HB := btr HB HB.size b5; (try clear k0 k1 k2 k3 k4); have k0 := B1.cell_ 0; have k1 := B1.cell_ 1; have k2 := B1.cell_ 2; have k3 := B1.cell_ 3; have k4 := B1.cell_ 4; simp at k0 k1 k2 k3 k4; clear b5)) | (go_at_call 68; ((with_reducible refine (maySheets_any s _ _ S1 (by have := inI_bd H3.out; omega) (by have := inI_bd H3.out; omega) _ H6.out).mono ?_); rintro e' w6 ⟨rfl, b6⟩; have S1 := S1.next b6; have T1 := T1.next b6; have B1 := B1.below b6 B1.lt; have HB := btr HB HB.size b6; (try clear k0 k1 k2 k3 k4); have k0 := B1.cell_ 0; have k1 := B1.cell_ 1; have k2 := B1.cell_ 2; have k3 := B1.cell_ 3; have k4 := B1.cell_ 4; simp at k0 k1 k2 k3 k4; clear b6)))
              go_ret
              exact ⟨by rw [← H0.out]; rfl, HB⟩
end Go.Proofs.YteokeghenjobaaaGreatDoor
namespace Go.Proofs.YteokeghenjobaaaGreatDoor
open Go.ChangeShapes Go.WideShapes Go.ChangeAt Go.RowKit
attribute [local go_sem ↓] Go.wp_at_zero Go.wp_at_succ
structure It where
  id : Int
  nm : ByteArray
instance : Inhabited It := ⟨⟨0, ByteArray.empty⟩⟩
def itC (x : It) : List Value := [.int .i64 x.id, .string x.nm]
def cmpI (x y : It) : Int := Lib.compareBytes x.nm.data.toList y.nm.data.toList
theorem cmpB_refl : ∀ l : List UInt8, Lib.compareBytes l l = 0
  | [] => rfl
  | a :: l => by
    unfold Lib.compareBytes
    rw [if_neg (UInt8.lt_irrefl a), if_neg (UInt8.lt_irrefl a)]
    exact cmpB_refl l
theorem cmpB_trans : ∀ a b c : List UInt8, Lib.compareBytes a b < 0 → Lib.compareBytes b c < 0 → Lib.compareBytes a c < 0
  | [], [], _, h, _ => by simp [Lib.compareBytes] at h
  | [], _ :: _, [], _, h => by simp [Lib.compareBytes] at h
  | [], _ :: _, _ :: _, _, _ => by simp [Lib.compareBytes]
  | _ :: _, [], _, h, _ => by simp [Lib.compareBytes] at h
  | _ :: _, _ :: _, [], _, h => by simp [Lib.compareBytes] at h
  | x :: a, y :: b, z :: c, h1, h2 => by
    unfold Lib.compareBytes at h1 h2 ⊢
    simp only [UInt8.lt_iff_toNat_lt] at h1 h2 ⊢
    by_cases p1 : x.toNat < y.toNat
    · by_cases p2 : y.toNat < z.toNat
      · rw [if_pos (by omega)]; decide
      · rw [if_neg p2] at h2
        by_cases p3 : z.toNat < y.toNat
        · rw [if_pos p3] at h2; exact absurd h2 (by decide)
        · rw [if_pos (by omega)]; decide
    · rw [if_neg p1] at h1
      by_cases p4 : y.toNat < x.toNat
      · rw [if_pos p4] at h1; exact absurd h1 (by decide)
      · rw [if_neg p4] at h1
        by_cases p2 : y.toNat < z.toNat
        · rw [if_pos (by omega)]; decide
        · rw [if_neg p2] at h2
          by_cases p3 : z.toNat < y.toNat
          · rw [if_pos p3] at h2; exact absurd h2 (by decide)
          · rw [if_neg p3] at h2
            rw [if_neg (by omega), if_neg (by omega)]
            exact cmpB_trans a b c h1 h2
theorem cmpB_ntrans : ∀ a b c : List UInt8, ¬ Lib.compareBytes a b < 0 → ¬ Lib.compareBytes b c < 0 → ¬ Lib.compareBytes a c < 0
  | [], [], c, _, h => h
  | [], _ :: _, _, h, _ => by simp [Lib.compareBytes] at h
  | _ :: _, [], [], _, _ => by simp [Lib.compareBytes]
  | _ :: _, [], _ :: _, _, h => by simp [Lib.compareBytes] at h
  | _ :: _, _ :: _, [], _, _ => by simp [Lib.compareBytes]
  | x :: a, y :: b, z :: c, h1, h2 => by
    unfold Lib.compareBytes at h1 h2 ⊢
    simp only [UInt8.lt_iff_toNat_lt] at h1 h2 ⊢
    by_cases p1 : x.toNat < y.toNat
    · rw [if_pos p1] at h1; exact absurd (by decide) h1
    · rw [if_neg p1] at h1
      by_cases p2 : y.toNat < z.toNat
      · rw [if_pos p2] at h2; exact absurd (by decide) h2
      · rw [if_neg p2] at h2
        rw [if_neg (by omega)]
        by_cases p3 : z.toNat < x.toNat
        · rw [if_pos p3]; decide
        · rw [if_neg p3]
          rw [if_neg (by omega)] at h1 h2
          exact cmpB_ntrans a b c h1 h2
theorem cmpS_any (a b : ByteArray) (w : World) : Calls Tryz.prog 43 #[.string a, .string b] w fun e w' => e = .returned (.int .i64 (Lib.compareBytes a.data.toList b.data.toList)) ∧ w' = w := Any.strings_Compare Tryz.laysCmp a b w
theorem below_sortK {α : Type} [Inhabited α] {B blk off n k : Nat} {enc : α → List Value} {d : Array α} {os : Array Obj} {w : World} (hB : B ≤ blk) (hb : blk < w.heap.size) : Below B w (sortWorldK enc k w blk off n d os) := by
  refine ⟨rfl, rfl, rfl, ?_, fun j hj => ?_⟩
  · simp [sortWorldK, Sort.grow, Sort.putRowK, Sort.putRow, Sort.mapBlock, Sort.ahead]
  · simp only [sortWorldK, Sort.grow, Sort.putRowK, Sort.putRow, Sort.mapBlock, Sort.ahead]
    rw [Array.getElem?_append_left (by simp; omega), Array.getElem?_modify, if_neg (by omega)]
end Go.Proofs.YteokeghenjobaaaGreatDoor
namespace Go.Proofs.YteokeghenjobaaaGreatDoor
open Go.ChangeShapes Go.WideShapes Go.ChangeAt Go.RowKit
attribute [local go_sem ↓] Go.wp_at_zero Go.wp_at_succ
theorem itC_one : ∀ x, ∀ v ∈ itC x, v.oneCell' = true := by
  intro x v hv
  simp [itC] at hv
  rcases hv with rfl | rfl <;> rfl
def OrdI (l : List It) : Prop := l.Pairwise fun a b => cmpI b a < 0 → False
end Go.Proofs.YteokeghenjobaaaGreatDoor
namespace Go.Proofs.YteokeghenjobaaaGreatDoor
open Go.ChangeShapes Go.WideShapes Go.ChangeAt Go.RowKit
attribute [local go_sem ↓] Go.wp_at_zero Go.wp_at_succ
def RowI (w : World) (base : Nat) (v : Value) (L : List It) : Prop := w.ownsRow base 50 2 v L.length (L.flatMap itC)
theorem infoIt : (Tryz.prog.info? 50).map (fun i => (i.zero, i.size, i.bytes)) = some (some (.agg #[.int .i64 0, .string ByteArray.empty]), 2, 24) := by kernel_rfl
theorem flat_getI : ∀ (L : List It) (k j : Nat) (x : It), L[k]? = some x → j < 2 → (L.flatMap itC)[k * 2 + j]? = (itC x)[j]?
  | [], k, _, _, h, _ => by simp at h
  | y :: L, 0, j, x, h, hj => by
    simp at h
    subst h
    rw [List.flatMap_cons, List.getElem?_append_left (by simp [itC]; omega)]
    simp
  | y :: L, k + 1, j, x, h, hj => by
    rw [List.flatMap_cons, List.getElem?_append_right (by simp [itC]; omega), show (k + 1) * 2 + j - (itC y).length = k * 2 + j by simp [itC]; omega]
    exact flat_getI L k j x (by simpa using h) hj
theorem one1I (x : It) : ∀ u ∈ itC x, u.oneCell' = true := itC_one x
theorem rd_newI (w : World) (x : It) {g : Nat} (hg : g = w.heap.size) : Rd (w.alloc (.cells #[.int .i64 x.id, .string x.nm] 50)) (some ⟨g, 0, none⟩) 1 2 (itC x) := by
  subst hg
  refine ⟨rfl, Or.inr ⟨_, 0, rfl, fun j u hj => ?_⟩⟩
  rw [Joins.cell_of_block (heap_alloc_new w _), Nat.zero_add]
  simpa [itC] using hj
theorem RowI.snoc {w : World} {base : Nat} {v : Value} {L : List It} {x : It} (h : w.ownsRow base 50 2 v (L.length + 1) (L.flatMap itC ++ itC x)) : RowI w base v (L ++ [x]) := by
  unfold RowI
  rw [List.length_append, List.flatMap_append]
  simpa using h
theorem RowI.holds {w : World} {base : Nat} {v : Value} {L : List It} (h : RowI w base v L) : (v = .slice none 0 0 ∧ L = []) ∨ ∃ g cap, v = .slice (some ⟨g, 0, none⟩) L.length cap ∧ base ≤ g ∧ g < w.heap.size ∧ L.length ≤ cap ∧ cap ≤ maxLen ∧ Sort.HoldsK itC 2 w g 0 L.toArray := by
  obtain ⟨hl, h⟩ := h
  rcases h with ⟨hv, h0⟩ | ⟨g, cap, cur, hv, hb, hh, hc, hm, hs, ht⟩
  · exact Or.inl ⟨hv, List.eq_nil_of_length_eq_zero h0⟩
  · have hB : Blk w g 50 cur := hh
    refine Or.inr ⟨g, cap, hv, hb, hB.lt, hc, hm, fun j hj => ⟨?_, hB.free _⟩⟩
    have hj2 : j < L.length * 2 := by simpa using hj
    have hk : j / 2 < L.length := by omega
    have hx : L[j / 2]? = some L[j / 2] := List.getElem?_eq_getElem hk
    have hg := flat_getI L (j / 2) (j % 2) _ hx (by omega)
    rw [show j / 2 * 2 + j % 2 = j by omega, ← ht, List.getElem?_take, if_pos (by omega)] at hg
    rw [hB.cell_, Nat.zero_add, Sort.get_flatK _ _ _ _ (by simpa using hj2)]
    rw [Array.getElem?_toList] at hg
    rw [hg, getElem!_pos L.toArray (j / 2) (by simpa using hk)]
    have hj3 : j % 2 < (itC L[j / 2]).length := by show j % 2 < 2; omega
    rw [List.getElem?_eq_getElem hj3]
    simp [hj3]
def bkIt (b : Bk) : It := ⟨b.id, b.nm⟩
end Go.Proofs.YteokeghenjobaaaGreatDoor
namespace Go.Proofs.YteokeghenjobaaaGreatDoor
open Go.ChangeShapes Go.WideShapes Go.ChangeAt Go.RowKit
attribute [local go_sem ↓] Go.wp_at_zero Go.wp_at_succ
theorem own_cellE {w : World} {base C n c g : Nat} {e : TypeId} {es : List (List Value)} (h : w.ownsRow base e C (.slice (some ⟨g, 0, none⟩) n c) n es.flatten) (hC : ∀ x ∈ es, x.length = C) {k : Nat} {x : List Value} (hk : es[k]? = some x) {j : Nat} {u : Value} (hu : x[j]? = some u) : w.cell? ⟨g, k * C + j, none⟩ = some u := by
  have hj : j < C := by
    rw [← hC x (List.mem_of_getElem? hk)]
    exact (List.getElem?_eq_some_iff.1 hu).1
  have h1 := flat_at es hC k x hk j hj
  rw [hu] at h1
  have hlt2 : k * C + j < es.flatten.length := (List.getElem?_eq_some_iff.1 h1).1
  rw [h.cellAt (k * C + j) (by rw [← h.1]; exact hlt2), h1]
theorem grown_set {w w1 : World} {g : Nat} (hg : w.grownBy w1 (some g)) (i : Nat) (u : Value) : w.grownBy (w1.setCell ⟨g, i, none⟩ u) (some g) := by
  have hb := (Below.refl (0 : Nat) w1).setCell (p := ⟨g, i, none⟩) (Nat.zero_le _) u
  exact ⟨hb.os.trans hg.os, hb.tape.trans hg.tape, hb.output.trans hg.output, Nat.le_trans hg.size hb.size, fun k hk hne => (Below.heap_setCell w1 ⟨g, i, none⟩ u k (fun e => hne (by rw [e]))).trans (hg.block k hk hne)⟩
def st5 (w : World) (g o : Nat) (a0 a1 a2 a3 a4 : Value) : World := World.setCell (World.setCell (World.setCell (World.setCell (World.setCell w ⟨g, o, none⟩ a0) ⟨g, o + 1, none⟩ a1) ⟨g, o + 2, none⟩ a2) ⟨g, o + 3, none⟩ a3) ⟨g, o + 4, none⟩ a4
theorem st5_own {w : World} {base n c g : Nat} {e : TypeId} {es : List (List Value)} (h : w.ownsRow base e 5 (.slice (some ⟨g, 0, none⟩) n c) n es.flatten) (hC : ∀ x ∈ es, x.length = 5) {k : Nat} {x : List Value} (hk : es[k]? = some x) (a0 a1 a2 a3 a4 : Value) : (st5 w g (k * 5) a0 a1 a2 a3 a4).ownsRow base e 5 (.slice (some ⟨g, 0, none⟩) n c) n (es.set k [a0, a1, a2, a3, a4]).flatten ∧ w.grownBy (st5 w g (k * 5) a0 a1 a2 a3 a4) (some g) := by
  obtain ⟨p0, p1, p2, p3, p4, rfl⟩ := len5 (hC x (List.mem_of_getElem? hk))
  rw [← set_five es k p0 p1 p2 p3 p4 a0 a1 a2 a3 a4 hk hC]
  exact ⟨(((((h.stored (k * 5 + 0) a0).1.stored (k * 5 + 1) a1).1.stored (k * 5 + 2) a2).1.stored (k * 5 + 3) a3).1.stored (k * 5 + 4) a4).1, grown_set (grown_set (grown_set (grown_set (grown_set (World.grownBy.refl w _) _ _) _ _) _ _) _ _) _ _⟩
theorem below_grown {B g : Nat} {w w1 w2 : World} (h : Below B w w1) (hg : w1.grownBy w2 (some g)) (hB : B ≤ g) (h0 : B ≤ w1.heap.size) : Below B w w2 := h.grown hg h0 (fun k hk => by cases hk; exact hB)
theorem Blk.grown {w w' : World} {g g2 : Nat} {t : TypeId} {cs : Array Value} (h : Blk w g t cs) (hg : w.grownBy w' (some g2)) (hne : g ≠ g2) : Blk w' g t cs := (hg.block g h.lt (fun e => hne (by cases e; rfl))).trans h
theorem own_off {w : World} {base C n g : Nat} {e : TypeId} {v : Value} {xs : List Value} (h : w.ownsRow base e C v n xs) (hg : g < base) : v.ownBlock = none ∨ v.ownBlock ≠ some g := by
  right
  intro hv
  have := (h.lt g hv).1
  omega
structure CloneI (s : Sf) (vb : Value) (A : Option Addr) (cn : Nat) (w0 : World) (B0 : Nat) (k : Nat) (wr : World) : Prop where
  box : Blk wr B0 25 #[.int .i64 s.nb, .int .i64 s.nn, .int .i64 s.ns, vb, .slice A s.ts.length cn]
  res : Blk wr (B0 + 1) 25 #[.int .i64 0, .int .i64 0, .int .i64 0, .slice none 0 0, .slice none 0 0]
  ob : wr.ownsRow (B0 + 2) 60 2 vb s.bs.length (s.bs.map bkC).flatten
  es : ∃ es : List (List Value), es.length = s.ts.length ∧ (∀ x ∈ es, x.length = 5) ∧ wr.ownsRow (B0 + 2) 54 5 (.slice A s.ts.length cn) s.ts.length es.flatten ∧ (∀ (j : Nat) (n : Nt) (e : List Value), j < k → s.ts[j]? = some n → es[j]? = some e → NtW wr (B0 + 2) n e) ∧ (∀ (j : Nat) (n : Nt) (e : List Value), k ≤ j → s.ts[j]? = some n → es[j]? = some e → NtIn wr B0 n e)
  be : Below B0 w0 wr
  sz : B0 + 2 ≤ wr.heap.size
theorem CloneI.below {s : Sf} {vb : Value} {A : Option Addr} {cn : Nat} {w0 wr wr' : World} {B0 k : Nat} (h : CloneI s vb A cn w0 B0 k wr) (hb : Below wr.heap.size wr wr') : CloneI s vb A cn w0 B0 k wr' := by
  obtain ⟨es, h1, h2, h3, h4, h5⟩ := h.es
  exact ⟨h.box.below hb h.box.lt, h.res.below hb h.res.lt, own_belowW h.ob hb, ⟨es, h1, h2, own_belowW h3 hb, fun j n e a b c => (h4 j n e a b c).below hb, fun j n e a b c => (h5 j n e a b c).below (hb.mono (by have := h.sz; omega))⟩, h.be.trans (hb.mono (by have := h.sz; omega)), by have := hb.size; have := h.sz; omega⟩
theorem CloneI.step {s : Sf} {vb : Value} {gn cn : Nat} {w0 wr w5 : World} {B0 k : Nat} (h : CloneI s vb (some ⟨gn, 0, none⟩) cn w0 B0 k wr) {n : Nt} (hn : s.ts[k]? = some n) {v1 v2 : Value} (hb : Below wr.heap.size wr w5) (h1 : w5.ownsRow wr.heap.size 9 1 v1 n.tg.length (n.tg.map strV)) (h2 : w5.ownsRow wr.heap.size 3 1 v2 n.sh.length (n.sh.map (Value.int .i64))) (hgn : B0 + 2 ≤ gn) :
    CloneI s vb (some ⟨gn, 0, none⟩) cn w0 B0 (k + 1) (st5 w5 gn (k * 5) (.int .i64 n.id) (.int .i64 n.bk) (.string n.nm) v1 v2) := by
  obtain ⟨hbox, hres, hob, ⟨es, hel, hC, hon, hnew, hold⟩, hbe, hsz⟩ := h
  have hkl : k < es.length := by
    have := (List.getElem?_eq_some_iff.1 hn).1
    omega
  have hk := List.getElem?_eq_getElem hkl
  have hon5 := own_belowW hon hb
  obtain ⟨q1, q2⟩ := st5_own hon5 hC hk (.int .i64 n.id) (.int .i64 n.bk) (.string n.nm) v1 v2
  have hB5 : Below B0 w0 w5 := hbe.trans (hb.mono (by omega))
  refine ⟨(hbox.below hb hbox.lt).grown q2 (by omega), (hres.below hb hres.lt).grown q2 (by omega), (own_belowW hob hb).kept q2 (own_apart (own_belowW hob hb) hon5 (by decide)), ⟨_, by rw [List.length_set]; exact hel, ?_, q1, ?_, ?_⟩, below_grown hB5 q2 (by omega) (by have := hb.size; omega), by have := hb.size; have := q2.size; omega⟩
  · intro x hx
    rcases List.mem_or_eq_of_mem_set hx with h | rfl
    · exact hC x h
    · rfl
  · intro j m e hj hm he
    rw [List.getElem?_set] at he
    split at he
    · rename_i hjk
      subst hjk
      rw [hn] at hm
      cases hm
      simp only [hkl, if_true, Option.some.injEq] at he
      subst he
      exact NtW.kept (w := w5) ⟨v1, v2, rfl, own_base h1 hsz, own_base h2 hsz⟩ hon5 q2 (by decide) (by decide)
    · exact ((hnew j m e (by omega) hm he).below hb).kept hon5 q2 (by decide) (by decide)
  · intro j m e hj hm he
    rw [List.getElem?_set, if_neg (by omega)] at he
    have h3 := hold j m e (by omega) hm he
    exact (h3.below (hb.mono (by omega))).below (below_grown (Below.refl _ _) q2 (by omega) (by have := hb.size; omega))
end Go.Proofs.YteokeghenjobaaaGreatDoor
namespace Go.Proofs.YteokeghenjobaaaGreatDoor
open Go.ChangeShapes Go.WideShapes Go.ChangeAt Go.RowKit
attribute [local go_sem ↓] Go.wp_at_zero Go.wp_at_succ
def bigS (x : ByteArray) : Bool := decide (60 < x.size)
def greatT (l : List ByteArray) : Bool := decide (8 < l.length) || l.any bigS
theorem take_all {α : Type} {l : List α} {k : Nat} {x : α} {p : α → Prop} (h : ∀ y ∈ l.take k, p y) (hx : l[k]? = some x) (hp : p x) : ∀ y ∈ l.take (k + 1), p y := by
  intro y hy
  rw [List.take_add_one, hx, List.mem_append] at hy
  rcases hy with hy | hy
  · exact h y hy
  · simp at hy
    subst hy
    exact hp
theorem greatTexts_any (l : List ByteArray) (A : Option Addr) (cp : Nat) (w : World) (hS : Sl w w.heap.size A (l.map strV)) (hc : l.length ≤ cp) (hm : cp ≤ maxLen) (T : Bool) (hT : greatT l = T) :
    Calls Tryz.prog 33 #[.slice A l.length cp, .int .i64 8, .int .i64 60] w fun e' w' => e' = .returned (.bool T) ∧ w' = w := by
  obtain ⟨n, hn⟩ : ∃ n, l.length = n := ⟨_, rfl⟩
  unfold greatT at hT
  rw [hn] at hc hT ⊢
  have HT := Lib.hid hT
  clear hT
  have HN := Lib.hid hn
  clear hn
  have hz : (0 : Int) ≤ (n : Int) := by omega
  by_cases h8 : n ≤ 8
  · have h8i : (n : Int) ≤ 8 := by omega
    have H0 : Hid ((l.take 0).any bigS = false) := Lib.hid rfl
    go_enter Tryz.func33, Tryz.ntmps33
    go_wp2_with fail
    go_loop [7] (fun i => ∃ k : Nat, k ≤ n ∧ i = .int .i64 k ∧ Hid ((l.take k).any bigS = false)) (fun i => n - (intOf i).toNat)
    case atStart => exact ⟨0, by omega, rfl, H0⟩
    case round =>
      obtain ⟨k, hk, rfl, HK⟩ := hrel
      clear H0
      by_cases hlt : k < n
      · have hlx : k < l.length := by have := HN.out; omega
        obtain ⟨b1, o1, rfl, l1, q1⟩ := hS.at_ (by rw [List.length_map]; omega)
        obtain ⟨x, hx⟩ : ∃ x, l[k]? = some x := ⟨_, List.getElem?_eq_getElem hlx⟩
        have cx : w.cell? ⟨b1, o1 + k, none⟩ = some (.string x) := q1 k _ (by rw [List.getElem?_map, hx]; rfl)
        have i0 : (0 : Int) ≤ (k : Int) := by omega
        have i1 : (k : Int) < (n : Int) := by omega
        have HX := Lib.hid hx
        clear q1 hx hlx
        by_cases h60 : 60 < x.size
        · have g60 : (60 : Int) < (x.size : Int) := by omega
          have hTt : T = true := by
            rw [← HT.out, List.any_eq_true.2 ⟨x, List.mem_of_getElem? HX.out, decide_eq_true h60⟩, Bool.or_true]
          have HTT := Lib.hid hTt
          clear h60 hTt
          go_wp2_with fail
          go_ret
          exact ⟨by rw [HTT.out]; rfl, by first | rfl | trivial⟩
        · have g60 : ¬ (60 : Int) < (x.size : Int) := by omega
          have H60 : Hid (bigS x = false) := Lib.hid (decide_eq_false h60)
          clear h60
          go_wp2_with fail
          go_round
          case rel => exact ⟨k + 1, by omega, by go_num, Lib.hid (any_next HK.out HX.out H60.out)⟩
          case measure => simp [intOf]; omega
      · have hjn : k = n := by omega
        subst hjn
        clear hlt
        have g8 : ¬ (8 : Int) < (k : Int) := by omega
        go_wp2_with fail
        go_ret
        refine ⟨?_, by first | rfl | trivial⟩
        have := HK.out
        rw [List.take_of_length_le (by rw [HN.out]; exact Nat.le_refl _)] at this
        rw [← HT.out, this, decide_eq_false (by omega)]
        rfl
  · have h8i : ¬ (n : Int) ≤ 8 := by omega
    have h9i : (8 : Int) < (n : Int) := by omega
    have h0i : (0 : Int) < (n : Int) := by omega
    have hTt : T = true := by rw [← HT.out, decide_eq_true (by omega), Bool.true_or]
    have HTT := Lib.hid hTt
    clear hTt
    go_enter Tryz.func33, Tryz.ntmps33
    go_wp2_with fail
    go_loop [7] (fun i => i = .int .i64 0) (fun i => 0)
    case atStart => rfl
    case round =>
      obtain rfl := hrel
      go_wp2_with fail
      go_ret
      exact ⟨by rw [HTT.out]; rfl, by first | rfl | trivial⟩
end Go.Proofs.YteokeghenjobaaaGreatDoor
namespace Go.Proofs.YteokeghenjobaaaGreatDoor
open Go.ChangeShapes Go.WideShapes Go.ChangeAt Go.RowKit
attribute [local go_sem ↓] Go.wp_at_zero Go.wp_at_succ
def bigB (b : Bk) : Bool := decide (60 < b.nm.size)
def bigN (x : Nt) : Bool := decide (60 < x.nm.size) || (greatT x.tg || decide (12 < x.sh.length))
def greatS (s : Sf) : Bool := (decide (s.bs.length ≤ 10) && s.bs.any bigB) || ((decide (s.ts.length ≤ 16) && s.ts.any bigN) || (decide (10 < s.bs.length) || decide (16 < s.ts.length)))
theorem gS_b {s : Sf} (h : s.bs.length ≤ 10) (h2 : s.bs.any bigB = true) : greatS s = true := by simp [greatS, h, h2]
theorem gS_n {s : Sf} (h : s.ts.length ≤ 16) (h2 : s.ts.any bigN = true) : greatS s = true := by simp [greatS, h, h2]
theorem gS_1 {s : Sf} (h : 10 < s.bs.length) : greatS s = true := by simp [greatS, h]
theorem gS_2 {s : Sf} (h : 16 < s.ts.length) : greatS s = true := by simp [greatS, h]
theorem gS_0 {s : Sf} (h1 : s.bs.any bigB = false) (h2 : s.ts.any bigN = false) (h3 : s.bs.length ≤ 10) (h4 : s.ts.length ≤ 16) : greatS s = false := by
  unfold greatS
  rw [h1, h2, decide_eq_false (by omega : ¬ 10 < s.bs.length), decide_eq_false (by omega : ¬ 16 < s.ts.length)]
  simp
theorem greatShelf_any (s : Sf) (v : Value) (w : World) (hS : ShR w w.heap.size v s) (T : Bool) (hT : greatS s = T) :
    Calls Tryz.prog 9 #[v] w fun e' w' => e' = .returned (.bool T) ∧ Below w.heap.size w w' := by
  have HT := Lib.hid hT
  clear hT
  obtain ⟨Ab, cb, An, cn, rfl, hB, hN, hcb, hmb, hcn, hmn⟩ := hS.ex
  clear hS
  obtain ⟨n, hn⟩ : ∃ n, s.bs.length = n := ⟨_, rfl⟩
  obtain ⟨m, hm⟩ : ∃ m, s.ts.length = m := ⟨_, rfl⟩
  obtain ⟨es, hel, hse, hnt⟩ := hN.ex
  have HB : Below w.heap.size w (w.alloc (.cells #[.int .i64 s.nb, .int .i64 s.nn, .int .i64 s.ns, .slice Ab s.bs.length cb, .slice An s.ts.length cn] 25)) := ((Below.refl w.heap.size w).alloc (by first | (simp; done) | (simp; omega)) _)
  have B1 : Blk (w.alloc (.cells #[.int .i64 s.nb, .int .i64 s.nn, .int .i64 s.ns, .slice Ab s.bs.length cb, .slice An s.ts.length cn] 25)) w.heap.size 25 #[.int .i64 s.nb, .int .i64 s.nn, .int .i64 s.ns, .slice Ab s.bs.length cb, .slice An s.ts.length cn] := Blk.new_ w 25 #[.int .i64 s.nb, .int .i64 s.nn, .int .i64 s.ns, .slice Ab s.bs.length cb, .slice An s.ts.length cn]
  rw [hn, hm] at HB B1 ⊢
  have m9 : n ≤ 9223372036854775807 ∧ m ≤ 9223372036854775807 := by
    have h0 : cb ≤ maxLen := hmb
    have h1 : cn ≤ maxLen := hmn
    unfold maxLen at h0 h1
    omega
  have m91 := m9.1
  have m92 := m9.2
  rw [hm] at hel
  have HN := Lib.hid hn
  have HM := Lib.hid hm
  have HEL := Lib.hid hel
  have k0 := B1.cell_ 0
  have k1 := B1.cell_ 1
  have k2 := B1.cell_ 2
  have k3 := B1.cell_ 3
  have k4 := B1.cell_ 4
  simp at k0 k1 k2 k3 k4
  have zn : (0 : Int) ≤ (n : Int) := by omega
  have zm : (0 : Int) ≤ (m : Int) := by omega
  have H0 : Hid ((s.bs.take 0).any bigB = false) := Lib.hid rfl
  have M0 : Hid ((s.ts.take 0).any bigN = false) := Lib.hid rfl
  clear hn hm hel m9
  go_enter Tryz.func9, Tryz.ntmps9
  go_wp2_with fail
  go_loop [3] (fun i => ∃ k : Nat, k ≤ n ∧ i = .int .i64 k ∧ (k = 0 ∨ n ≤ 10) ∧ Hid ((s.bs.take k).any bigB = false)) (fun i => n - (intOf i).toNat)
  case atStart => exact ⟨0, by omega, rfl, Or.inl rfl, H0⟩
  case round =>
    obtain ⟨k, hk, rfl, hk0, HK⟩ := hrel
    clear H0
    by_cases hlt : k < n
    · by_cases h10 : n ≤ 10
      · have hlx : k < s.bs.length := by have := HN.out; omega
        have g10 : (n : Int) ≤ 10 := by omega
        have i0 : (0 : Int) ≤ (k : Int) := by omega
        have i1 : (k : Int) < (n : Int) := by omega
        obtain ⟨x, hx⟩ : ∃ x, s.bs[k]? = some x := ⟨_, List.getElem?_eq_getElem hlx⟩
        obtain ⟨b1, o1, rfl, l1, q1⟩ := SlE.at_ hB (by rw [List.length_map]; omega)
        have he : (s.bs.map bkC)[k]? = some (bkC x) := by rw [List.getElem?_map, hx]; rfl
        have y1 : World.cell? (w.alloc (.cells #[.int .i64 s.nb, .int .i64 s.nn, .int .i64 s.ns, .slice (some ⟨b1, o1, none⟩) n cb, .slice An m cn] 25)) ⟨b1, o1 + k * 2 + 1, none⟩ = some (.string x.nm) := (HB.cell (p := ⟨b1, _, none⟩) l1).trans (q1 k _ he 1 _ rfl)
        have HX := Lib.hid hx
        clear q1 he hx hlx
        by_cases h60 : 60 < x.nm.size
        · have g60 : (60 : Int) < (x.nm.size : Int) := by omega
          have HTT : Hid (T = true) := Lib.hid (HT.out.symm.trans (gS_b (by have := HN.out; omega) (List.any_eq_true.2 ⟨x, List.mem_of_getElem? HX.out, decide_eq_true h60⟩)))
          clear h60
          go_wp2_with fail
          go_ret
          exact ⟨by rw [HTT.out]; rfl, HB⟩
        · have g60 : ¬ (60 : Int) < (x.nm.size : Int) := by omega
          have H60 : Hid (bigB x = false) := Lib.hid (decide_eq_false h60)
          clear h60
          go_wp2_with fail
          go_round
          case rel => exact ⟨k + 1, by omega, by go_num, Or.inr h10, Lib.hid (any_next HK.out HX.out H60.out)⟩
          case measure => simp [intOf]; omega
      · have g10 : ¬ (n : Int) ≤ 10 := by omega
        have i1 : (k : Int) < (n : Int) := by omega
        have gn : (10 : Int) < (n : Int) := by omega
        have HTT : Hid (T = true) := Lib.hid (HT.out.symm.trans (gS_1 (by have := HN.out; omega)))
        clear h10
        go_wp2_with fail
        go_loop [4] (fun i => ∃ q : Nat, q ≤ m ∧ i = .int .i64 q ∧ (q = 0 ∨ m ≤ 16) ∧ Hid ((s.ts.take q).any bigN = false)) (fun i => m - (intOf i).toNat)
        case atStart => exact ⟨0, by omega, rfl, Or.inl rfl, M0⟩
        case round =>
          obtain ⟨q, hq, rfl, hq0, HQ⟩ := hrel
          clear M0
          by_cases hlq : q < m
          · by_cases h16 : m ≤ 16
            · have hlx : q < s.ts.length := by have := HM.out; omega
              have g16 : (m : Int) ≤ 16 := by omega
              have j0 : (0 : Int) ≤ (q : Int) := by omega
              have j1 : (q : Int) < (m : Int) := by omega
              obtain ⟨x, hx⟩ : ∃ x, s.ts[q]? = some x := ⟨_, List.getElem?_eq_getElem hlx⟩
              obtain ⟨e0, he⟩ : ∃ e, es[q]? = some e := ⟨_, List.getElem?_eq_getElem (by have := HEL.out; omega)⟩
              obtain ⟨At, ct, As, cs, rfl, hAt, -, htc, htm, -⟩ := (hnt q x e0 hx he).ex
              obtain ⟨b2, o2, rfl, l2, q2⟩ := hse.at_ (by have := HEL.out; omega)
              have z0 : World.cell? (w.alloc (.cells #[.int .i64 s.nb, .int .i64 s.nn, .int .i64 s.ns, .slice Ab n cb, .slice (some ⟨b2, o2, none⟩) m cn] 25)) ⟨b2, o2 + q * 5 + 0, none⟩ = some (.int .i64 x.id) := (HB.cell (p := ⟨b2, _, none⟩) l2).trans (q2 q _ he 0 _ rfl)
              have z1 : World.cell? (w.alloc (.cells #[.int .i64 s.nb, .int .i64 s.nn, .int .i64 s.ns, .slice Ab n cb, .slice (some ⟨b2, o2, none⟩) m cn] 25)) ⟨b2, o2 + q * 5 + 1, none⟩ = some (.int .i64 x.bk) := (HB.cell (p := ⟨b2, _, none⟩) l2).trans (q2 q _ he 1 _ rfl)
              have z2 : World.cell? (w.alloc (.cells #[.int .i64 s.nb, .int .i64 s.nn, .int .i64 s.ns, .slice Ab n cb, .slice (some ⟨b2, o2, none⟩) m cn] 25)) ⟨b2, o2 + q * 5 + 2, none⟩ = some (.string x.nm) := (HB.cell (p := ⟨b2, _, none⟩) l2).trans (q2 q _ he 2 _ rfl)
              have z3 : World.cell? (w.alloc (.cells #[.int .i64 s.nb, .int .i64 s.nn, .int .i64 s.ns, .slice Ab n cb, .slice (some ⟨b2, o2, none⟩) m cn] 25)) ⟨b2, o2 + q * 5 + 3, none⟩ = some (.slice At x.tg.length ct) := (HB.cell (p := ⟨b2, _, none⟩) l2).trans (q2 q _ he 3 _ rfl)
              have z4 : World.cell? (w.alloc (.cells #[.int .i64 s.nb, .int .i64 s.nn, .int .i64 s.ns, .slice Ab n cb, .slice (some ⟨b2, o2, none⟩) m cn] 25)) ⟨b2, o2 + q * 5 + 4, none⟩ = some (.slice As x.sh.length cs) := (HB.cell (p := ⟨b2, _, none⟩) l2).trans (q2 q _ he 4 _ rfl)
              have A1 := (hAt.below HB).mono_ HB.size
              have HX := Lib.hid hx
              obtain ⟨G, hG⟩ : ∃ G, greatT x.tg = G := ⟨_, rfl⟩
              have HG := Lib.hid hG
              clear q2 he hx hlx hG
              by_cases h60 : 60 < x.nm.size
              · have g60 : (60 : Int) < (x.nm.size : Int) := by omega
                clear h60
                go_wp2_with (go_at_call 33; ((with_reducible refine (greatTexts_any x.tg _ _ _ A1 htc htm _ HG.out).mono ?_); rintro e' wN ⟨rfl, rfl⟩))
                go_ret
                exact ⟨by rw [HTT.out]; rfl, HB⟩
              · have g60 : ¬ (60 : Int) < (x.nm.size : Int) := by omega
                cases G
                · by_cases h12 : 12 < x.sh.length
                  · have g12 : (12 : Int) < (x.sh.length : Int) := by omega
                    clear h12
                    go_wp2_with (go_at_call 33; ((with_reducible refine (greatTexts_any x.tg _ _ _ A1 htc htm _ HG.out).mono ?_); rintro e' wN ⟨rfl, rfl⟩))
                    go_ret
                    exact ⟨by rw [HTT.out]; rfl, HB⟩
                  · have g12 : ¬ (12 : Int) < (x.sh.length : Int) := by omega
                    have H60 : Hid (bigN x = false) := Lib.hid (by unfold bigN; rw [decide_eq_false h60, HG.out, decide_eq_false h12]; rfl)
                    clear h60 h12
                    go_wp2_with (go_at_call 33; ((with_reducible refine (greatTexts_any x.tg _ _ _ A1 htc htm _ HG.out).mono ?_); rintro e' wN ⟨rfl, rfl⟩))
                    go_round
                    case rel => exact ⟨q + 1, by omega, by go_num, Or.inr h16, Lib.hid (any_next HQ.out HX.out H60.out)⟩
                    case measure => simp [intOf]; omega
                · skip
                  go_wp2_with (go_at_call 33; ((with_reducible refine (greatTexts_any x.tg _ _ _ A1 htc htm _ HG.out).mono ?_); rintro e' wN ⟨rfl, rfl⟩))
                  go_ret
                  exact ⟨by rw [HTT.out]; rfl, HB⟩
            · have g16 : ¬ (m : Int) ≤ 16 := by omega
              have j1 : (q : Int) < (m : Int) := by omega
              have gm : (16 : Int) < (m : Int) := by omega
              have HTT : Hid (T = true) := Lib.hid (HT.out.symm.trans (gS_2 (by have := HM.out; omega)))
              clear h16
              go_wp2_with fail
              go_ret
              exact ⟨by rw [HTT.out]; rfl, HB⟩
          · have hjm : q = m := by omega
            subst hjm
            have g16 : ¬ (16 : Int) < (q : Int) := by omega
            clear hlq
            go_wp2_with fail
            go_ret
            exact ⟨by rw [HTT.out]; rfl, HB⟩
    · have hjn : k = n := by omega
      subst hjn
      have HKK : Hid (s.bs.any bigB = false) := Lib.hid (by have := HK.out; rwa [List.take_of_length_le (by rw [HN.out]; exact Nat.le_refl _)] at this)
      have h10 : k ≤ 10 := by omega
      have gn : ¬ (10 : Int) < (k : Int) := by omega
      clear hlt HK
      go_wp2_with fail
      go_loop [4] (fun i => ∃ q : Nat, q ≤ m ∧ i = .int .i64 q ∧ (q = 0 ∨ m ≤ 16) ∧ Hid ((s.ts.take q).any bigN = false)) (fun i => m - (intOf i).toNat)
      case atStart => exact ⟨0, by omega, rfl, Or.inl rfl, M0⟩
      case round =>
        obtain ⟨q, hq, rfl, hq0, HQ⟩ := hrel
        clear M0
        by_cases hlq : q < m
        · by_cases h16 : m ≤ 16
          · have hlx : q < s.ts.length := by have := HM.out; omega
            have g16 : (m : Int) ≤ 16 := by omega
            have j0 : (0 : Int) ≤ (q : Int) := by omega
            have j1 : (q : Int) < (m : Int) := by omega
            obtain ⟨x, hx⟩ : ∃ x, s.ts[q]? = some x := ⟨_, List.getElem?_eq_getElem hlx⟩
            obtain ⟨e0, he⟩ : ∃ e, es[q]? = some e := ⟨_, List.getElem?_eq_getElem (by have := HEL.out; omega)⟩
            obtain ⟨At, ct, As, cs, rfl, hAt, -, htc, htm, -⟩ := (hnt q x e0 hx he).ex
            obtain ⟨b2, o2, rfl, l2, q2⟩ := hse.at_ (by have := HEL.out; omega)
            have z0 : World.cell? (w.alloc (.cells #[.int .i64 s.nb, .int .i64 s.nn, .int .i64 s.ns, .slice Ab k cb, .slice (some ⟨b2, o2, none⟩) m cn] 25)) ⟨b2, o2 + q * 5 + 0, none⟩ = some (.int .i64 x.id) := (HB.cell (p := ⟨b2, _, none⟩) l2).trans (q2 q _ he 0 _ rfl)
            have z1 : World.cell? (w.alloc (.cells #[.int .i64 s.nb, .int .i64 s.nn, .int .i64 s.ns, .slice Ab k cb, .slice (some ⟨b2, o2, none⟩) m cn] 25)) ⟨b2, o2 + q * 5 + 1, none⟩ = some (.int .i64 x.bk) := (HB.cell (p := ⟨b2, _, none⟩) l2).trans (q2 q _ he 1 _ rfl)
            have z2 : World.cell? (w.alloc (.cells #[.int .i64 s.nb, .int .i64 s.nn, .int .i64 s.ns, .slice Ab k cb, .slice (some ⟨b2, o2, none⟩) m cn] 25)) ⟨b2, o2 + q * 5 + 2, none⟩ = some (.string x.nm) := (HB.cell (p := ⟨b2, _, none⟩) l2).trans (q2 q _ he 2 _ rfl)
            have z3 : World.cell? (w.alloc (.cells #[.int .i64 s.nb, .int .i64 s.nn, .int .i64 s.ns, .slice Ab k cb, .slice (some ⟨b2, o2, none⟩) m cn] 25)) ⟨b2, o2 + q * 5 + 3, none⟩ = some (.slice At x.tg.length ct) := (HB.cell (p := ⟨b2, _, none⟩) l2).trans (q2 q _ he 3 _ rfl)
            have z4 : World.cell? (w.alloc (.cells #[.int .i64 s.nb, .int .i64 s.nn, .int .i64 s.ns, .slice Ab k cb, .slice (some ⟨b2, o2, none⟩) m cn] 25)) ⟨b2, o2 + q * 5 + 4, none⟩ = some (.slice As x.sh.length cs) := (HB.cell (p := ⟨b2, _, none⟩) l2).trans (q2 q _ he 4 _ rfl)
            have A1 := (hAt.below HB).mono_ HB.size
            have HX := Lib.hid hx
            obtain ⟨G, hG⟩ : ∃ G, greatT x.tg = G := ⟨_, rfl⟩
            have HG := Lib.hid hG
            clear q2 he hx hlx hG
            by_cases h60 : 60 < x.nm.size
            · have g60 : (60 : Int) < (x.nm.size : Int) := by omega
              have HTT : Hid (T = true) := Lib.hid (HT.out.symm.trans (gS_n (by have := HM.out; omega) (List.any_eq_true.2 ⟨x, List.mem_of_getElem? HX.out, by unfold bigN; rw [decide_eq_true h60]; simp⟩)))
              clear h60
              go_wp2_with (go_at_call 33; ((with_reducible refine (greatTexts_any x.tg _ _ _ A1 htc htm _ HG.out).mono ?_); rintro e' wN ⟨rfl, rfl⟩))
              go_ret
              exact ⟨by rw [HTT.out]; rfl, HB⟩
            · have g60 : ¬ (60 : Int) < (x.nm.size : Int) := by omega
              cases G
              · by_cases h12 : 12 < x.sh.length
                · have g12 : (12 : Int) < (x.sh.length : Int) := by omega
                  have HTT : Hid (T = true) := Lib.hid (HT.out.symm.trans (gS_n (by have := HM.out; omega) (List.any_eq_true.2 ⟨x, List.mem_of_getElem? HX.out, by unfold bigN; rw [decide_eq_true h12]; simp⟩)))
                  clear h12
                  go_wp2_with (go_at_call 33; ((with_reducible refine (greatTexts_any x.tg _ _ _ A1 htc htm _ HG.out).mono ?_); rintro e' wN ⟨rfl, rfl⟩))
                  go_ret
                  exact ⟨by rw [HTT.out]; rfl, HB⟩
                · have g12 : ¬ (12 : Int) < (x.sh.length : Int) := by omega
                  have H60 : Hid (bigN x = false) := Lib.hid (by unfold bigN; rw [decide_eq_false h60, HG.out, decide_eq_false h12]; rfl)
                  clear h60 h12
                  go_wp2_with (go_at_call 33; ((with_reducible refine (greatTexts_any x.tg _ _ _ A1 htc htm _ HG.out).mono ?_); rintro e' wN ⟨rfl, rfl⟩))
                  go_round
                  case rel => exact ⟨q + 1, by omega, by go_num, Or.inr h16, Lib.hid (any_next HQ.out HX.out H60.out)⟩
                  case measure => simp [intOf]; omega
              · skip
                have HTT : Hid (T = true) := Lib.hid (HT.out.symm.trans (gS_n (by have := HM.out; omega) (List.any_eq_true.2 ⟨x, List.mem_of_getElem? HX.out, by unfold bigN; rw [HG.out]; simp⟩)))
                go_wp2_with (go_at_call 33; ((with_reducible refine (greatTexts_any x.tg _ _ _ A1 htc htm _ HG.out).mono ?_); rintro e' wN ⟨rfl, rfl⟩))
                go_ret
                exact ⟨by rw [HTT.out]; rfl, HB⟩
          · have g16 : ¬ (m : Int) ≤ 16 := by omega
            have j1 : (q : Int) < (m : Int) := by omega
            have gm : (16 : Int) < (m : Int) := by omega
            have HTT : Hid (T = true) := Lib.hid (HT.out.symm.trans (gS_2 (by have := HM.out; omega)))
            clear h16
            go_wp2_with fail
            go_ret
            exact ⟨by rw [HTT.out]; rfl, HB⟩
        · have hjm : q = m := by omega
          subst hjm
          have g16 : ¬ (16 : Int) < (q : Int) := by omega
          have gn2 : ¬ (10 : Int) < (k : Int) := by omega
          have HTT : Hid (T = false) := Lib.hid (HT.out.symm.trans (gS_0 HKK.out (by have := HQ.out; rwa [List.take_of_length_le (by rw [HM.out]; exact Nat.le_refl _)] at this) (by have := HN.out; omega) (by have := HM.out; omega)))
          clear hlq
          go_wp2_with fail
          go_ret
          exact ⟨by rw [HTT.out]; rfl, HB⟩
end Go.Proofs.YteokeghenjobaaaGreatDoor
namespace Go.Proofs.YteokeghenjobaaaGreatDoor
open Go.ChangeShapes Go.WideShapes Go.ChangeAt Go.RowKit
attribute [local go_sem ↓] Go.wp_at_zero Go.wp_at_succ
def ntIt (n : Nt) : It := ⟨n.id, n.nm⟩
def ofBook (s : Sf) (x : Int) : List Nt := s.ts.filter fun n => n.bk == x
theorem filter_yes {α : Type} {p : α → Bool} {l : List α} {k : Nat} {x : α} (h : l[k]? = some x) (hp : p x = true) : (l.take (k + 1)).filter p = (l.take k).filter p ++ [x] := by
  rw [List.take_add_one, h, List.filter_append]
  simp [hp]
theorem filter_no {α : Type} {p : α → Bool} {l : List α} {k : Nat} {x : α} (h : l[k]? = some x) (hp : p x = false) : (l.take (k + 1)).filter p = (l.take k).filter p := by
  rw [List.take_add_one, h, List.filter_append]
  simp [hp]
end Go.Proofs.YteokeghenjobaaaGreatDoor
namespace Go.Proofs.YteokeghenjobaaaGreatDoor
open Go.ChangeShapes Go.WideShapes Go.ChangeAt Go.RowKit
attribute [local go_sem ↓] Go.wp_at_zero Go.wp_at_succ
theorem books_all {s : Sf} : ∀ (l : List Bk) (bf : Int), booksFrom s bf l = true → (∀ b ∈ l, bf < b.id ∧ b.id ≤ s.nb - 1 ∧ mayN b.nm = true ∧ bookTk s b.nm b.id = false) ∧ l.Pairwise fun a b => a.id < b.id
  | [], _, _ => ⟨fun b hb => by simp at hb, List.Pairwise.nil⟩
  | x :: l, bf, h => by
    have h' : (inI x.id (bf + 1) (s.nb - 1) && (mayN x.nm && (!bookTk s x.nm x.id && booksFrom s x.id l))) = true := h
    simp only [Bool.and_eq_true, Bool.not_eq_true'] at h'
    obtain ⟨h1, h2, h3, h4⟩ := h'
    have hb := inI_bd h1
    obtain ⟨i1, i2⟩ := books_all l x.id h4
    refine ⟨fun b hm => ?_, List.Pairwise.cons (fun b hm => (i1 b hm).1) i2⟩
    rcases List.mem_cons.1 hm with rfl | hm
    · exact ⟨by omega, hb.2, h2, h3⟩
    · have := i1 b hm
      exact ⟨by omega, this.2⟩
theorem notes_all {s : Sf} : ∀ (l : List Nt) (bf : Int), notesFrom s bf l = true → (∀ b ∈ l, bf < b.id ∧ b.id ≤ s.nn - 1 ∧ mayNt s b = true) ∧ l.Pairwise fun a b => a.id < b.id
  | [], _, _ => ⟨fun b hb => by simp at hb, List.Pairwise.nil⟩
  | x :: l, bf, h => by
    have h' : (inI x.id (bf + 1) (s.nn - 1) && (mayNt s x && notesFrom s x.id l)) = true := h
    simp only [Bool.and_eq_true] at h'
    obtain ⟨h1, h2, h4⟩ := h'
    have hb := inI_bd h1
    obtain ⟨i1, i2⟩ := notes_all l x.id h4
    refine ⟨fun b hm => ?_, List.Pairwise.cons (fun b hm => (i1 b hm).1) i2⟩
    rcases List.mem_cons.1 hm with rfl | hm
    · exact ⟨by omega, hb.2, h2⟩
    · have := i1 b hm
      exact ⟨by omega, this.2⟩
structure MayF (s : Sf) : Prop where
  nb : 1 ≤ s.nb ∧ s.nb ≤ 65536
  nn : 1 ≤ s.nn ∧ s.nn ≤ 65536
  ns : 1 ≤ s.ns ∧ s.ns ≤ 4096
  bl : s.bs.length ≤ 6
  tl : s.ts.length ≤ 12
  bs : ∀ b ∈ s.bs, 0 < b.id ∧ b.id ≤ s.nb - 1 ∧ mayN b.nm = true ∧ bookTk s b.nm b.id = false
  bo : s.bs.Pairwise fun a b => a.id < b.id
  ts : ∀ n ∈ s.ts, 0 < n.id ∧ n.id ≤ s.nn - 1 ∧ mayNt s n = true
  tord : s.ts.Pairwise fun a b => a.id < b.id
  sh : sheetsFrom s.ns [] s.ts = true
theorem mayF_of {s : Sf} (h : mayS s = true) : MayF s := by
  unfold mayS at h
  simp only [Bool.and_eq_true, decide_eq_true_eq] at h
  obtain ⟨h1, h2, h3, ⟨h4, h5⟩, ⟨h6, h7⟩, h8⟩ := h
  exact ⟨inI_bd h1, inI_bd h2, inI_bd h3, h4, h6, (books_all _ _ h5).1, (books_all _ _ h5).2, (notes_all _ _ h7).1, (notes_all _ _ h7).2, h8⟩
theorem MayF.names {s : Sf} (h : MayF s) {a b : Bk} (ha : a ∈ s.bs) (hb : b ∈ s.bs) (he : a.nm.toList = b.nm.toList) : a.id = b.id := by
  have := (h.bs b hb).2.2.2
  unfold bookTk at this
  rw [List.any_eq_false] at this
  have h2 := this a ha
  simpa [sameS, he] using h2
theorem MayF.book {s : Sf} (h : MayF s) {n : Nt} (hn : n ∈ s.ts) : 0 ≤ bookAt s n.bk := by
  have := (h.ts n hn).2.2
  unfold mayNt at this
  simp only [Bool.and_eq_true, decide_eq_true_eq] at this
  exact this.2.1
end Go.Proofs.YteokeghenjobaaaGreatDoor
namespace Go.Proofs.YteokeghenjobaaaGreatDoor
open Go.ChangeShapes Go.WideShapes Go.ChangeAt Go.RowKit
attribute [local go_sem ↓] Go.wp_at_zero Go.wp_at_succ
theorem less_irr : ∀ x : List UInt8, Op.bytesLess x x = false
  | [] => rfl
  | a :: x => by
    unfold Op.bytesLess
    simp [less_irr x]
theorem cmp_less : ∀ a b : List UInt8, Op.bytesLess a b = decide (Lib.compareBytes a b < 0)
  | [], [] => rfl
  | [], _ :: _ => rfl
  | _ :: _, [] => rfl
  | x :: a, y :: b => by
    unfold Op.bytesLess Lib.compareBytes
    rw [cmp_less a b]
    simp only [UInt8.lt_iff_toNat_lt]
    by_cases p1 : x.toNat < y.toNat
    · simp [p1]
    · by_cases p2 : y.toNat < x.toNat
      · have : ¬ x = y := fun h => by rw [h] at p2; omega
        simp [p1, p2, this]
      · have : x = y := UInt8.toNat_inj.1 (by omega)
        simp [this]
theorem cmp_tri : ∀ a b : List UInt8, ¬ Lib.compareBytes a b < 0 → ¬ Lib.compareBytes b a < 0 → a = b
  | [], [], _, _ => rfl
  | [], _ :: _, h, _ => absurd (by simp [Lib.compareBytes]) h
  | _ :: _, [], _, h => absurd (by simp [Lib.compareBytes]) h
  | x :: a, y :: b, h1, h2 => by
    unfold Lib.compareBytes at h1 h2
    simp only [UInt8.lt_iff_toNat_lt] at h1 h2
    by_cases p1 : x.toNat < y.toNat
    · rw [if_pos p1] at h1; exact absurd (by decide) h1
    · by_cases p2 : y.toNat < x.toNat
      · rw [if_pos p2] at h2; exact absurd (by decide) h2
      · rw [if_neg p1, if_neg p2] at h1
        rw [if_neg p2, if_neg p1] at h2
        have : x = y := UInt8.toNat_inj.1 (by omega)
        rw [this, cmp_tri a b h1 h2]
def cntB (ts : List Nt) (L : List Int) : Nat := (L.map fun x => (ts.filter fun n => n.bk == x).length).sum
structure LstF (s : Sf) (its : List It) : Prop where
  len : its.length = s.bs.length
  book : ∀ x ∈ its, 0 ≤ bookAt s x.id
  less : ∀ (k : Nat) (x y : It), its[k]? = some x → its[k + 1]? = some y → Op.bytesLess x.nm.toList y.nm.toList = true
  all : cntB s.ts (its.map It.id) = s.ts.length
theorem book_is {s : Sf} (x : Int) : (0 ≤ bookAt s x) ↔ ∃ b ∈ s.bs, b.id = x := by
  have := idxP_ge (fun b : Bk => b.id == x) s.bs
  unfold bookAt
  constructor
  · intro h
    rw [decide_eq_true h] at this
    obtain ⟨b, hb, he⟩ := List.any_eq_true.1 this.symm
    exact ⟨b, hb, by simpa using he⟩
  · rintro ⟨b, hb, rfl⟩
    rw [List.any_eq_true.2 ⟨b, hb, by simp⟩] at this
    exact of_decide_eq_true this
structure NtsF (s : Sf) (x : Int) (its : List It) : Prop where
  len : its.length = (s.ts.filter fun n => n.bk == x).length
  note : ∀ y ∈ its, ∃ n ∈ s.ts, n.bk = x ∧ ntIt n = y
  less : ∀ (k : Nat) (y z : It), its[k]? = some y → its[k + 1]? = some z → Op.bytesLess y.nm.toList z.nm.toList = true
theorem MayF.nnames {s : Sf} (h : MayF s) {a b : Nt} (ha : a ∈ s.ts) (hb : b ∈ s.ts) (hk : a.bk = b.bk) (he : a.nm.toList = b.nm.toList) : a.id = b.id := by
  have h1 := (h.ts b hb).2.2
  unfold mayNt at h1
  simp only [Bool.and_eq_true, Bool.not_eq_true'] at h1
  have h2 := h1.2.2.1
  unfold noteTk at h2
  rw [List.any_eq_false] at h2
  have h3 := h2 a ha
  simpa [sameS, he, hk] using h3
end Go.Proofs.YteokeghenjobaaaGreatDoor
namespace Go.Proofs.YteokeghenjobaaaGreatDoor
open Go.ChangeShapes Go.WideShapes Go.ChangeAt Go.RowKit
attribute [local go_sem ↓] Go.wp_at_zero Go.wp_at_succ
theorem results_cell1 {P : Program} {fn : Func} {p q : Tmp} {ty : TypeId} (h : fn.results = #[.cell p ty, .tmp q]) (tmps : Array Value) (w : World) (g : Nat) (t : TypeId) (cs : Array Value) (fr : Nat × Nat) (d : TypeDesc)
    (hp : tmps.getD p undef = .pointer (some ⟨g, 0, none⟩)) (hg : w.heap[g]? = some (.cells cs t fr))
    (hu : P.underlying ty = some d) (hd : (match d with | .struct _ | .array _ _ => true | _ => false) = true) (hi : (P.info? ty).map (·.size) = some cs.size) :
    (results fn tmps).run P w = .ok (.tuple #[.agg cs, tmps.getD q undef]) w := by
  have hp' : tmps[p]?.getD undef = .pointer (some ⟨g, 0, none⟩) := by simpa using hp
  simp [results, h, hp', asAddr, run_loadVar_row w g t ty cs fr d hg hu hd hi]
theorem Blk.st5_ {w : World} {g : Nat} {t : TypeId} {p0 p1 p2 p3 p4 : Value} (h : Blk w g t #[p0, p1, p2, p3, p4]) (a0 a1 a2 a3 a4 : Value) : Blk (st5 w g 0 a0 a1 a2 a3 a4) g t #[a0, a1, a2, a3, a4] := by
  have := (Blk.set_ (Blk.set_ (Blk.set_ (Blk.set_ (Blk.set_ h 0 a0) 1 a1) 2 a2) 3 a3) 4 a4)
  simpa [st5] using this
theorem st5_grown (w : World) (g o : Nat) (a0 a1 a2 a3 a4 : Value) : w.grownBy (st5 w g o a0 a1 a2 a3 a4) (some g) := grown_set (grown_set (grown_set (grown_set (grown_set (World.grownBy.refl w _) _ _) _ _) _ _) _ _) _ _
theorem st5_below {B g : Nat} {w w1 : World} (h : Below B w w1) (hB : B ≤ g) (o : Nat) (a0 a1 a2 a3 a4 : Value) (h0 : B ≤ w1.heap.size := by first | omega | exact (Below.size ‹_›)) : Below B w (st5 w1 g o a0 a1 a2 a3 a4) := below_grown h (st5_grown w1 g o a0 a1 a2 a3 a4) hB h0
def fullB (s : Sf) : Bool := decide (6 ≤ s.bs.length) || decide (65536 ≤ s.nb)
def makeC (s : Sf) (x : ByteArray) : Int := cond (mayS s) (cond (mayN x) (cond (bookTk s x 0) 7 (cond (fullB s) 3 0)) 6) 2
def makeS (s : Sf) (x : ByteArray) : Sf := { s with nb := s.nb + 1, bs := s.bs ++ [⟨s.nb, x⟩] }
end Go.Proofs.YteokeghenjobaaaGreatDoor
namespace Go.Proofs.YteokeghenjobaaaGreatDoor
open Go.ChangeShapes Go.WideShapes Go.ChangeAt Go.RowKit
attribute [local go_sem ↓] Go.wp_at_zero Go.wp_at_succ
theorem sheets_small {ns : Int} : ∀ (l : List Nt) (seen : List Int), sheetsFrom ns seen l = true → ∀ n ∈ l, n.sh.length ≤ 8
  | [], _, _, n, hn => by simp at hn
  | x :: l, seen, h, n, hn => by
    unfold sheetsFrom at h
    simp only [Bool.and_eq_true, decide_eq_true_eq] at h
    rcases List.mem_cons.1 hn with rfl | hn
    · exact h.1
    · exact sheets_small l _ h.2.2 n hn
theorem MayF.small {s : Sf} (h : MayF s) : ∀ n ∈ s.ts, n.tg.length ≤ 100000 ∧ n.sh.length ≤ 100000 := by
  intro n hn
  have h1 := (h.ts n hn).2.2
  unfold mayNt mayTg at h1
  simp only [Bool.and_eq_true, decide_eq_true_eq] at h1
  have h2 := sheets_small _ _ h.sh n hn
  have h3 := h1.2.2.2.1
  omega
def NtsW (w : World) (base : Nat) (vn : Value) (ts : List Nt) : Prop := ∃ es : List (List Value), es.length = ts.length ∧ w.ownsRow base 54 5 vn ts.length es.flatten ∧ ∀ (k : Nat) (n : Nt) (e : List Value), ts[k]? = some n → es[k]? = some e → NtW w base n e
def BksW (w : World) (base : Nat) (vb : Value) (bs : List Bk) : Prop := w.ownsRow base 60 2 vb bs.length (bs.map bkC).flatten
theorem NtsW.below {w w' : World} {base : Nat} {vn : Value} {ts : List Nt} (h : NtsW w base vn ts) (hb : Below w.heap.size w w') : NtsW w' base vn ts := by
  obtain ⟨es, h1, h2, h3⟩ := h
  exact ⟨es, h1, own_belowW h2 hb, fun k n e a b => (h3 k n e a b).below hb⟩
theorem NtsW.far {w w' : World} {base g : Nat} {vn : Value} {ts : List Nt} (h : NtsW w base vn ts) (hg : w.grownBy w' (some g)) (hb : g < base) : NtsW w' base vn ts := by
  obtain ⟨es, h1, h2, h3⟩ := h
  refine ⟨es, h1, h2.kept hg (own_off h2 hb), fun k n e a b => ?_⟩
  obtain ⟨vt, vs, r, q1, q2⟩ := h3 k n e a b
  exact ⟨vt, vs, r, q1.kept hg (own_off q1 hb), q2.kept hg (own_off q2 hb)⟩
theorem NtsW.apart {w w' : World} {base b2 C2 n2 : Nat} {vn v2 : Value} {ts : List Nt} {x2 : List Value} (h : NtsW w base vn ts) (h2 : w.ownsRow b2 60 C2 v2 n2 x2) (hg : w.grownBy w' v2.ownBlock) : NtsW w' base vn ts := by
  obtain ⟨es, h1, h3, h4⟩ := h
  exact ⟨es, h1, h3.kept hg (own_apart h3 h2 (by decide)), fun k n e a b => (h4 k n e a b).kept h2 hg (by decide) (by decide)⟩
theorem BksW.below {w w' : World} {base : Nat} {vb : Value} {bs : List Bk} (h : BksW w base vb bs) (hb : Below w.heap.size w w') : BksW w' base vb bs := own_belowW h hb
theorem BksW.far {w w' : World} {base g : Nat} {vb : Value} {bs : List Bk} (h : BksW w base vb bs) (hg : w.grownBy w' (some g)) (hb : g < base) : BksW w' base vb bs := World.ownsRow.kept h hg (own_off h hb)
theorem ShW.parts {w : World} {base : Nat} {v : Value} {s : Sf} (h : ShW w base v s) : ∃ (Ab : Option Addr) (cb : Nat) (An : Option Addr) (cn : Nat), v = .agg #[.int .i64 s.nb, .int .i64 s.nn, .int .i64 s.ns, .slice Ab s.bs.length cb, .slice An s.ts.length cn] ∧ BksW w base (.slice Ab s.bs.length cb) s.bs ∧ NtsW w base (.slice An s.ts.length cn) s.ts ∧ s.bs.length ≤ cb ∧ cb ≤ maxLen ∧ s.ts.length ≤ cn ∧ cn ≤ maxLen := by
  obtain ⟨vb, vn, es, rfl, h1, h2, h3, h4⟩ := h
  obtain ⟨Ab, cb, rfl, q1, q2⟩ := own_shape h1
  obtain ⟨An, cn, rfl, q3, q4⟩ := own_shape h3
  exact ⟨Ab, cb, An, cn, rfl, h1, ⟨es, h2, h3, h4⟩, q1, q2, q3, q4⟩
theorem ShW.make {w : World} {base : Nat} {s : Sf} {vb vn : Value} (h1 : BksW w base vb s.bs) (h2 : NtsW w base vn s.ts) : ShW w base (.agg #[.int .i64 s.nb, .int .i64 s.nn, .int .i64 s.ns, vb, vn]) s := by
  obtain ⟨es, q1, q2, q3⟩ := h2
  exact ⟨vb, vn, es, rfl, h1, q1, q2, q3⟩
theorem Blk.grownR {w w' : World} {g : Nat} {t : TypeId} {cs : Array Value} {row : Option Nat} (h : Blk w g t cs) (hg : w.grownBy w' row) (hne : row ≠ some g) : Blk w' g t cs := (hg.block g h.lt (fun e => hne e.symm)).trans h
theorem wrapS (x : Int) (h1 : -9223372036854775808 ≤ x) (h2 : x ≤ 9223372036854775807) : IntKind.i64.wrap x = x := by rw [IntKind.wrap_i64]; omega
theorem drew_cell {w : World} {p : Addr} {v : Value} (h : w.cell? p = some v) : w.drew.cell? p = some v := h
theorem drew_blk {w : World} {g : Nat} {t : TypeId} {cs : Array Value} (h : Blk w g t cs) : Blk w.drew g t cs := h
theorem drew_below {B : Nat} {w w' : World} (h : Below B w w') : Below B w w'.drew := below_dn h 1
theorem NtsW.drew_ {w : World} {base : Nat} {vn : Value} {ts : List Nt} (h : NtsW w base vn ts) : NtsW w.drew base vn ts := h.below (below_dn (Below.refl _ _) 1)
theorem set1_grown (w : World) (g i : Nat) (u : Value) : w.grownBy (w.setCell ⟨g, i, none⟩ u) (some g) := grown_set (World.grownBy.refl w _) _ _
end Go.Proofs.YteokeghenjobaaaGreatDoor
namespace Go.Proofs.YteokeghenjobaaaGreatDoor
open Go.ChangeShapes Go.WideShapes Go.ChangeAt Go.RowKit
attribute [local go_sem] Oper.semAt_some
theorem splitQ (s c : ByteArray) (w : World) : Calls Tryz.prog 90 #[.string s, .string c, .int .i64 0] w fun e' w' => e' = .returned (.func (.func 128) #[] #[.pointer (some ⟨w.heap.size + 1, 0, none⟩), .pointer (some ⟨w.heap.size, 0, none⟩), .pointer (some ⟨w.heap.size + 1 + 1, 0, none⟩)]) ∧ w' = (((w.alloc (.cells #[.string s] 9)).alloc (.cells #[.string c] 9)).alloc (.cells #[.int .i64 0] 3)) := by
  go_enter Tryz.func90, Tryz.ntmps90
  go_wp2
  go_ret
  exact ⟨rfl, rfl⟩
theorem splitS (s c : ByteArray) (w : World) : Calls Tryz.prog 56 #[.string s, .string c] w fun e' w' => e' = .returned (.func (.func 128) #[] #[.pointer (some ⟨w.heap.size + 1, 0, none⟩), .pointer (some ⟨w.heap.size, 0, none⟩), .pointer (some ⟨w.heap.size + 1 + 1, 0, none⟩)]) ∧ w' = (((w.alloc (.cells #[.string s] 9)).alloc (.cells #[.string c] 9)).alloc (.cells #[.int .i64 0] 3)) := by
  go_enter Tryz.func56, Tryz.ntmps56
  go_wp2_with (go_at_call 90; refine (splitQ _ _ _).mono ?_; rintro e w' ⟨rfl, rfl⟩)
  go_ret
  exact ⟨rfl, rfl⟩
theorem split_row (n : Nat) (hn : 1 ≤ n) (bp bs bv : Nat) (hne1 : bp ≠ bs) (hne2 : bv ≠ bs) (q : List UInt8) (hq : q.length < 4294967296) (w : World) (hp : Boxed w bp 9 (.string ⟨#[32]⟩)) (hs : Boxed w bs 9 (.string (bOf q))) (hv : Boxed w bv 3 (.int .i64 0)) :
    SeqRow Fence.wide n Tryz.prog 128 #[.pointer (some ⟨bp, 0, none⟩), .pointer (some ⟨bs, 0, none⟩), .pointer (some ⟨bv, 0, none⟩)] (fun x : List UInt8 => #[Value.string (bOf x)]) bs [bp, bs, bv] (splitL q) w := fun l J W hW hset hgrw hY h0 =>
  split1_in n hn l bp bs bv hne1 hne2 q hq J hset hgrw hY W ((hW.block bp hp.lt).trans hp) ((hW.block bs hs.lt).trans hs) ((hW.block bv hv.lt).trans hv) h0
theorem bOf_ne (y : UInt8) (l : List UInt8) : (bOf (y :: l)).toList.isEmpty = false := by
  rw [ByteArray.toList_eq]
  simp [bOf]
def rawW (q : List UInt8) (k : Nat) : List ByteArray := (((splitL q).take k).filter fun x => !x.isEmpty).map bOf
theorem rawW_hit {q x : List UInt8} {k : Nat} (h : (splitL q)[k]? = some x) (hx : x ≠ []) : rawW q (k + 1) = rawW q k ++ [bOf x] := by
  unfold rawW
  rw [List.take_add_one, h]
  cases x with
  | nil => exact absurd rfl hx
  | cons y l => simp
theorem rawW_miss {q : List UInt8} {k : Nat} (h : (splitL q)[k]? = some []) : rawW q (k + 1) = rawW q k := by
  unfold rawW
  rw [List.take_add_one, h]
  simp
theorem rawW_len (q : List UInt8) (k : Nat) : (rawW q k).length ≤ k := by
  unfold rawW
  rw [List.length_map]
  exact Nat.le_trans (List.length_filter_le _ _) (by simp; omega)
theorem infoSW : (Tryz.prog.info? 9).map (fun i => (i.zero, i.size, i.bytes)) = some (some (.string ByteArray.empty), 1, 16) := by kernel_rfl
theorem own_cells_at {w : World} {base C n g : Nat} {e : TypeId} {v : Value} {xs : List Value} (h : w.ownsRow base e C v n xs) (hv : v.ownBlock = some g) : ∃ cur, w.heap[g]? = some (.cells cur e (0, 0)) := by
  rcases h.2 with ⟨rfl, _⟩ | ⟨g', cap, cur, rfl, _, hb, _⟩
  · cases hv
  · cases hv
    exact ⟨cur, hb⟩
theorem putRow_grown {w : World} {g q : Nat} (d : Array (List UInt8)) : w.grownBy (Sort.putRow encStr (Sort.ahead w q) g 0 d) (some g) := by
  refine ⟨rfl, rfl, rfl, by simp [Sort.putRow, Sort.mapBlock, Sort.ahead], fun k hk hne => ?_⟩
  have : g ≠ k := fun e => hne (by rw [e])
  simp [Sort.putRow, Sort.mapBlock, Sort.ahead, Array.getElem?_modify, this]
theorem sortS_own (base : Nat) (v : Value) (ss : List (List UInt8)) (w : World) (h : w.ownsRow base 9 1 v ss.length (ss.map encStr)) (hl : ss.length < 1000000) :
    Calls Tryz.prog 57 #[v] w fun e' w' => e' = .returned (.tuple #[]) ∧ w'.ownsRow base 9 1 v ss.length ((ss.mergeSort fun x y => decide (x ≤ y)).map encStr) ∧ w.grownBy w' v.ownBlock := by
  by_cases hv : v = .slice none 0 0
  · subst hv
    have h0 : ss.length = 0 := by
      rcases h.2 with ⟨_, h0⟩ | ⟨g, cap, cur, hv, _⟩
      · exact h0
      · cases hv
    obtain rfl := List.eq_nil_of_length_eq_zero h0
    refine (Any.slices_Sort_string_none Tryz.laysSortS none 0 w).mono ?_
    rintro e' w' ⟨rfl, rfl⟩
    exact ⟨rfl, by simpa using World.ownsRow_nil _ _ _ _, rfl, rfl, rfl, Nat.le_refl _, fun _ _ _ => rfl⟩
  · rcases h.2 with ⟨h0, _⟩ | ⟨g, cap, cur, rfl, hbase, hb, h1, h2, h3, h4⟩
    · exact absurd h0 hv
    · obtain ⟨g', cap', he, _, hlt, _, _, _, hH⟩ := Lib.holds_of_ownsRow h hv
      injection he with he1 _ he3
      injection he1 with he1
      injection he1 with he1
      subst he1
      refine (Any.slices_Sort_string Tryz.laysSortS g 0 cap ss w hH hlt (by omega)).mono ?_
      rintro e' w' ⟨rfl, n, os, rfl⟩
      exact ⟨rfl, ownsRow_sorted (by simp) hbase hb h1 h2 h3, grownBy_sorted _⟩
theorem compactS_own (base : Nat) (v : Value) (ss : List (List UInt8)) (w : World) (h : w.ownsRow base 9 1 v ss.length (ss.map encStr)) (hl : ss.length < 1000000) :
    Calls Tryz.prog 58 #[v] w fun e' w' => ∃ v2, e' = .returned v2 ∧ w'.ownsRow base 9 1 v2 (Lib.compact ss).length ((Lib.compact ss).map encStr) ∧ w.grownBy w' v.ownBlock := by
  by_cases hv : v = .slice none 0 0
  · subst hv
    have h0 : ss.length = 0 := by
      rcases h.2 with ⟨_, h0⟩ | ⟨g, cap, cur, hv, _⟩
      · exact h0
      · cases hv
    obtain rfl := List.eq_nil_of_length_eq_zero h0
    refine (Any.slices_Compact_string_empty Tryz.laysCompact none 0 w).mono ?_
    rintro e' w' ⟨rfl, rfl⟩
    exact ⟨_, rfl, World.ownsRow_nil _ _ _ _, rfl, rfl, rfl, Nat.le_refl _, fun _ _ _ => rfl⟩
  · obtain ⟨g, cap, rfl, hbg, hlt, hnc, hcm, _, hH⟩ := Lib.holds_of_ownsRow h hv
    refine (Any.slices_Compact_string Tryz.laysCompact g 0 cap ss w hH (by omega) hnc).mono ?_
    rintro e' w' ⟨rfl, q, rfl⟩
    have hle := Lib.compact_length_le ss
    have hc := Lib.ownsRow_putRow (q := q) (k := (Lib.compact ss).length) (ys := Lib.compact ss ++ List.replicate (ss.length - (Lib.compact ss).length) []) h (by simp; omega) hle
    rw [List.take_left] at hc
    exact ⟨_, rfl, hc, putRow_grown _⟩
def rawL (q : List UInt8) : List (List UInt8) := (splitL q).filter fun x => !x.isEmpty
def wordsL (q : List UInt8) : List (List UInt8) := Lib.compact ((rawL q).mergeSort fun x y => decide (x ≤ y))
theorem rawW_all (q : List UInt8) : (rawW q (splitL q).length).map strV = (rawL q).map encStr := by
  unfold rawW rawL
  rw [List.take_length, List.map_map]
  rfl
theorem words_any (nm : List UInt8) (hq : nm.length ≤ 100000) (w : World) : Calls Tryz.prog 17 #[.string (bOf nm)] w fun e' w' => ∃ v, e' = .returned v ∧ w'.ownsRow w.heap.size 9 1 v (wordsL nm).length ((wordsL nm).map encStr) ∧ Below w.heap.size w w' := by
  refine (callsIn_wide (n := 4)).1 ?_
  refine callsIn_of_wp_marks Tryz.func17 rfl trivial ?_ rfl
  simp only [Tryz.ntmps17, List.size_toArray, List.length_cons, List.length_nil, Nat.reduceAdd, Nat.reduceSub, Array.replicate_succ, Array.replicate_zero, List.push_toArray, List.append_toArray, List.nil_append, List.cons_append]
  gi_wp2_with (refine ⟨trivial, ?_⟩; gi_at_call 56; refine (callsIn_wide.2 (splitS _ _ _)).mono ?_; rintro e w' ⟨rfl, rfl⟩)
  obtain ⟨i0, hi, hz0, hz1, hz2⟩ := info_parts infoSW
  have bW := Boxed.new w 38 (.slice none 0 0)
  have bS := Boxed.new (w.alloc (.cells #[.slice none 0 0] 38)) 9 (.string (bOf nm))
  have bP := Boxed.new ((w.alloc (.cells #[.slice none 0 0] 38)).alloc (.cells #[.string (bOf nm)] 9)) 9 (.string ⟨#[32]⟩)
  have bV := Boxed.new (((w.alloc (.cells #[.slice none 0 0] 38)).alloc (.cells #[.string (bOf nm)] 9)).alloc (.cells #[.string ⟨#[32]⟩] 9)) 3 (.int .i64 0)
  replace bW := ((bW.alloc (.cells #[.string (bOf nm)] 9)).alloc (.cells #[.string ⟨#[32]⟩] 9)).alloc (.cells #[.int .i64 0] 3)
  replace bS := (bS.alloc (.cells #[.string ⟨#[32]⟩] 9)).alloc (.cells #[.int .i64 0] 3)
  replace bP := bP.alloc (.cells #[.int .i64 0] 3)
  have hB0 : Below w.heap.size w ((((w.alloc (.cells #[.slice none 0 0] 38)).alloc (.cells #[.string (bOf nm)] 9)).alloc (.cells #[.string ⟨#[32]⟩] 9)).alloc (.cells #[.int .i64 0] 3)) := ((((Below.refl _ w).alloc (Nat.le_refl _) _).alloc (by simp) _).alloc (by simp; omega) _).alloc (by simp; omega) _
  have hsz4 : ((((w.alloc (.cells #[.slice none 0 0] 38)).alloc (.cells #[.string (bOf nm)] 9)).alloc (.cells #[.string ⟨#[32]⟩] 9)).alloc (.cells #[.int .i64 0] 3)).heap.size = w.heap.size + 4 := by simp
  simp only [World.size_alloc] at bS bP bV
  obtain ⟨w4, hw4⟩ : ∃ V : World, V = ((((w.alloc (.cells #[.slice none 0 0] 38)).alloc (.cells #[.string (bOf nm)] 9)).alloc (.cells #[.string ⟨#[32]⟩] 9)).alloc (.cells #[.int .i64 0] 3)) := ⟨_, rfl⟩
  rw [← hw4] at bW bS bP bV hB0 hsz4 ⊢
  clear hw4
  refine wpIn_range_row rfl (by decide) (gf := 128) (lb := #[.pointer (some ⟨w.heap.size + 1 + 1, 0, none⟩), .pointer (some ⟨w.heap.size + 1, 0, none⟩), .pointer (some ⟨w.heap.size + 1 + 1 + 1, 0, none⟩)]) rfl trivial (enters_of Tryz.func128 (by kernel_rfl) rfl)
    (split_row 3 (by decide) (w.heap.size + 1 + 1) (w.heap.size + 1) (w.heap.size + 1 + 1 + 1) (by omega) (by omega) nm (by omega) w4 bP bS bV) (Below.refl _ _) (by omega) (by intro b hb; simp at hb; omega) (fun _ => rfl)
    (fun k W => (∃ v, Boxed W w.heap.size 38 v ∧ W.ownsRow (w.heap.size + 4) 9 1 v (rawW nm k).length ((rawW nm k).map strV) ∧ True) ∧ (Below w.heap.size w W ∧ w.heap.size + 4 ≤ W.heap.size))
    (OwnFrom.and (Own.from (holdsRow_own (w.heap.size + 4) w.heap.size 38 9 1 (fun k => (rawW nm k).length) (fun k => (rawW nm k).map strV) (fun _ _ => True)) _) (OwnFrom.and (ownFrom_below (Nat.le_refl _) (by omega)) (fun s A B row hs hg _ => Nat.le_trans hs hg.size)))
    (fun k W u hs => by
      obtain ⟨⟨v, h1, h2, -⟩, h3, h4⟩ := hs
      exact ⟨⟨v, h1.kept (grownBy_setCell' W _ u) (by simp), h2.kept (grownBy_setCell' W _ u) (own_off h2 (by omega)), trivial⟩, h3.setCell (p := ⟨w.heap.size + 1, 0, none⟩) (by simp) _, Nat.le_trans h4 (grownBy_setCell' W (w.heap.size + 1) u).size⟩)
    ⟨⟨_, bW, World.ownsRow_nil _ _ _ _, trivial⟩, hB0, by omega⟩
    (fun x => { tmps := #[.string (bOf nm), undef, .slice none 0 0, .pointer (some ⟨w.heap.size, 0, none⟩), .string (bOf x), .string (bOf nm), .func (.func 128) #[] #[.pointer (some ⟨w.heap.size + 1 + 1, 0, none⟩), .pointer (some ⟨w.heap.size + 1, 0, none⟩), .pointer (some ⟨w.heap.size + 1 + 1 + 1, 0, none⟩)], .string (bOf x), undef, undef, undef, undef, undef, undef, undef, undef, undef, undef], defers := [] }) ?assign ?body ?done
  case assign =>
    intro l x W K hK
    gi_wp2
    exact hK
  case body =>
    rintro l k x W ⟨⟨v, hv, hrow, -⟩, hB, hsW4⟩ hx
    have hc := hv.cell
    have hf := hv.frozen
    cases x with
    | nil =>
      have e0 : bOf [] = ⟨#[]⟩ := rfl
      rw [e0]
      gi_wp2
      exact ⟨KeepsFrom.refl _ _, ⟨Nat.le_refl _, fun _ _ => rfl⟩, ⟨v, hv, by rw [rawW_miss hx]; exact hrow, trivial⟩, hB, hsW4⟩
    | cons y l2 =>
      obtain ⟨S, hS⟩ : ∃ S, bOf (y :: l2) = S := ⟨_, rfl⟩
      have hne : S.toList.isEmpty = false := by rw [← hS]; exact bOf_ne y l2
      have HIT := Lib.hid (rawW_hit hx (by simp))
      have HS := Lib.hid hS
      have hkl := rawW_len nm k
      have hkn : k < nm.length + 1 := Nat.lt_of_lt_of_le (List.getElem?_eq_some_iff.1 hx).1 (splitL_len nm)
      obtain ⟨L, hL⟩ : ∃ L, rawW nm k = L := ⟨_, rfl⟩
      rw [hL] at hrow hkl
      have HL := Lib.hid hL
      have hsW := hB.size
      clear hx hL
      rw [hS]
      clear hS
      gi_wp2_with (gi_at_builtin; refine wpListIn_append_own _ rfl _ _ 38 rfl (w.heap.size + 4) 9 i0 (.string ByteArray.empty) 1 16 Tryz.underlying38 hi hz0 hz1 hz2 rfl (by decide) _ _ _ rfl (hrow.alloc _) ⟨W.heap.size, 0, none⟩ 1 1 [strV S] rfl rfl (cell_one_new _ _ _) (by simp [Value.oneCell', strV]) (by unfold maxLen; omega) (by omega) (by simp; omega) ?_; intro v' w1 hown' hgrow _; obtain ⟨g', cap', rfl⟩ := ownsRow_succ hown'; obtain ⟨hv1, hv2, hr2, hk2, hb2⟩ := hv.appended (by decide) (own_base hrow (Nat.le_add_right _ 4)) hB.size (Nat.le_refl _) (own_base hown' (Nat.le_add_right _ 4)) hgrow; have hc1 := hv1.cell; have hf1 := hv1.frozen)
      have hr3 : (w1.setCell ⟨w.heap.size, 0, none⟩ (.slice (some ⟨g', 0, none⟩) (L.length + 1) cap')).ownsRow (w.heap.size + 4) 9 1 (.slice (some ⟨g', 0, none⟩) (L.length + 1) cap') (L.length + 1) (L.map strV ++ [strV S]) := hown'.kept (grownBy_setCell' w1 w.heap.size _) (own_off hown' (by omega))
      refine ⟨hk2.from _, ⟨hb2.size, fun b hb => ?_⟩, ⟨_, hv2, ?_, trivial⟩, hB.trans (hb2.mono (Nat.le_refl _)), Nat.le_trans hsW4 hb2.size⟩
      · have hgW := hgrow
        have hbl : b ≠ w.heap.size ∧ b < w.heap.size + 4 := by simp at hb; omega
        rw [Below.heap_setCell w1 _ _ b (by simpa using hbl.1)]
        have hnr : some b ≠ (Value.ownBlock _) := fun e => by have := hrow.lt b e.symm; omega
        exact (hgrow.block b (by simp; omega) hnr).trans (Below.heap_alloc W _ b (by omega))
      · show World.ownsRow _ _ _ _ _ (rawW nm (k + 1)).length ((rawW nm (k + 1)).map strV)
        rw [HIT.out, HL.out, HS.out, List.length_append, List.map_append]
        exact hr3
  case done =>
    rintro D W hD ⟨⟨v, hv, hrow, -⟩, hB, hsW4⟩ hK
    have hc := hv.cell
    have hl0 : (rawL nm).length < 1000000 := by
      have h1 := List.length_filter_le (fun x => !x.isEmpty) (splitL nm)
      have h2 := splitL_len nm
      unfold rawL
      omega
    have hrow2 : W.ownsRow (w.heap.size + 4) 9 1 v (rawL nm).length ((rawL nm).map encStr) := by
      have h1 := hrow
      rw [rawW_all] at h1
      rwa [show (rawW nm (splitL nm).length).length = (rawL nm).length by unfold rawW rawL; rw [List.take_length, List.length_map]] at h1
    clear hrow
    gi_wp2_with (first
      | (refine ⟨trivial, ?_⟩; gi_at_call 57; refine (callsIn_wide.2 (sortS_own _ _ _ _ hrow2 hl0)).mono ?_; rintro e w2 ⟨rfl, hr2, hg2⟩; have hv2 := hv.kept hg2 (fun e => by have := hrow2.lt _ e.symm; omega); have hc2 := hv2.cell)
      | (refine ⟨trivial, ?_⟩; gi_at_call 58; refine (callsIn_wide.2 (compactS_own (w.heap.size + 4) v ((rawL nm).mergeSort fun x y => decide (x ≤ y)) w2 (by rw [List.length_mergeSort]; exact hr2) (by rw [List.length_mergeSort]; exact hl0))).mono ?_; rintro e w3 ⟨v3, rfl, hr3, hg3⟩))
    have hne2 : some D ≠ v.ownBlock := fun e => by
      obtain ⟨cur, hcur⟩ := own_cells_at hrow2 e.symm
      rw [hcur] at hK
      cases hK
    have hK2 := (hg2.block D (Array.getElem?_eq_some_iff.1 hK).1 hne2).trans hK
    have hK3 := (hg3.block D (Array.getElem?_eq_some_iff.1 hK2).1 hne2).trans hK2
    have hrl : ∀ j, v.ownBlock = some j → w.heap.size ≤ j := fun j hj => by have := hrow2.lt j hj; omega
    have hB2 := hB.grown hg2 hB.size (fun j hj => hrl j hj)
    have hB3 := hB2.grown hg3 hB2.size (fun j hj => hrl j hj)
    have hB4 := hB3.grown (grownBy_putObj' w3 D (.deferred none)) hB3.size (fun j hj => by cases hj; omega)
    refine ⟨by simp, .inl ⟨_, _, rfl, run_takeDeferred hK3, ?_⟩⟩
    exact ⟨_, results_tmp rfl _ _ _, _, rfl, own_base (ownsRow_putObj hr3 (.deferred none) hK3 rfl) (by omega), hB4⟩
end Go.Proofs.YteokeghenjobaaaGreatDoor
namespace Go.Proofs.YteokeghenjobaaaGreatDoor
open Go.ChangeShapes Go.WideShapes Go.ChangeAt Go.RowKit
theorem get_ix {α : Type} [Inhabited α] (zs : List α) (j : Nat) (h : j < zs.length) : zs.toArray[j]! = zs[j] := by
  rw [getElem!_pos zs.toArray j (by simpa using h)]
  simp
theorem le_refl_ (a : List UInt8) : a ≤ a := List.le_refl a
theorem lt_of {a b : List UInt8} (h : a ≤ b) (hn : b ≠ a) : a < b := by
  rcases List.le_iff_lt_or_eq.1 h with h | h
  · exact h
  · exact absurd h.symm hn
theorem comp_facts (zs : List (List UInt8)) (hs : zs.Pairwise (· ≤ ·)) : ∀ m, m ≤ zs.length →
    (∀ x, x ∈ Lib.compactUpTo zs.toArray m ↔ x ∈ zs.take m) ∧ (Lib.compactUpTo zs.toArray m).Pairwise (· < ·) := by
  intro m
  induction m with
  | zero =>
    intro _
    refine ⟨fun x => by simp [Lib.compactUpTo], by simp [Lib.compactUpTo]⟩
  | succ m ih =>
    intro hm
    obtain ⟨i1, i2⟩ := ih (by omega)
    have hlt : m < zs.length := by omega
    rw [Lib.compactUpTo_succ, get_ix zs m hlt]
    have htk : zs.take (m + 1) = zs.take m ++ [zs[m]] := by rw [List.take_add_one, List.getElem?_eq_getElem hlt]; rfl
    have hle : ∀ x ∈ zs.take m, x ≤ zs[m] := by
      intro x hx
      obtain ⟨j, hj, rfl⟩ := List.mem_take_iff_getElem.1 hx
      exact List.pairwise_iff_getElem.1 hs j m (by omega) hlt (by omega)
    rw [htk]
    by_cases hk : Lib.keeps zs.toArray m = true
    · rw [if_pos hk]
      refine ⟨fun x => by rw [List.mem_append, List.mem_append, i1], ?_⟩
      rw [List.pairwise_append]
      refine ⟨i2, by simp, fun x hx y hy => ?_⟩
      rw [List.mem_singleton] at hy
      subst hy
      have hx2 := (i1 x).1 hx
      have hk2 := of_decide_eq_true hk
      rcases hk2 with h0 | h0
      · subst h0
        simp at hx2
      · by_cases hm0 : m = 0
        · subst hm0
          simp at hx2
        · rw [get_ix zs m hlt, get_ix zs (m - 1) (by omega)] at h0
          have h1 : x ≤ zs[m - 1] := by
            obtain ⟨j, hj, rfl⟩ := List.mem_take_iff_getElem.1 hx2
            by_cases hjm : j = m - 1
            · subst hjm
              exact le_refl_ _
            · exact List.pairwise_iff_getElem.1 hs j (m - 1) (by omega) (by omega) (by omega)
          have h2 : zs[m - 1] ≤ zs[m] := List.pairwise_iff_getElem.1 hs (m - 1) m (by omega) hlt (by omega)
          exact List.lt_of_le_of_lt h1 (lt_of h2 h0)
    · rw [if_neg hk, List.append_nil]
      refine ⟨fun x => ?_, i2⟩
      rw [i1, List.mem_append, List.mem_singleton]
      constructor
      · exact fun h => Or.inl h
      · rintro (h | rfl)
        · exact h
        · have hk2 := of_decide_eq_false (by simpa using hk : Lib.keeps zs.toArray m = false)
          rw [not_or] at hk2
          have hm0 : m ≠ 0 := hk2.1
          have he := Decidable.not_not.1 hk2.2
          rw [get_ix zs m hlt, get_ix zs (m - 1) (by omega)] at he
          rw [he]
          exact List.mem_take_iff_getElem.2 ⟨m - 1, by omega, rfl⟩
theorem words_facts (q : List UInt8) : (∀ x, x ∈ wordsL q ↔ x ∈ splitL q ∧ x ≠ []) ∧ (wordsL q).Pairwise (· < ·) := by
  have hs : ((rawL q).mergeSort fun x y => decide (x ≤ y)).Pairwise (· ≤ ·) := by
    have h := List.pairwise_mergeSort (le := fun (x y : List UInt8) => decide (x ≤ y)) (fun a b c h1 h2 => decide_eq_true (List.le_trans (of_decide_eq_true h1) (of_decide_eq_true h2))) (fun a b => by rcases List.le_total a b with h | h <;> simp [h]) (rawL q)
    exact h.imp (fun h => of_decide_eq_true h)
  obtain ⟨h1, h2⟩ := comp_facts _ hs _ (Nat.le_refl _)
  refine ⟨fun x => ?_, h2⟩
  show x ∈ Lib.compactUpTo _ _ ↔ _
  rw [h1, List.take_length, List.mem_mergeSort]
  unfold rawL
  rw [List.mem_filter]
  cases x <;> simp
theorem lt_irr (a : List UInt8) : ¬ a < a := List.lt_irrefl a
theorem rise_uniq {L M : List (List UInt8)} (h1 : L.Pairwise (· < ·)) (h2 : M.Pairwise (· < ·)) (h : ∀ x, x ∈ L ↔ x ∈ M) : L = M := by
  have nd : ∀ {K : List (List UInt8)}, K.Pairwise (· < ·) → K.Nodup := fun hk => hk.imp (fun {a b} h e => by subst e; exact lt_irr a h)
  have hp : L.Perm M := (List.perm_ext_iff_of_nodup (nd h1) (nd h2)).2 h
  exact List.Perm.eq_of_pairwise (le := (· < ·)) (fun a b _ _ x y => absurd (List.lt_trans x y) (lt_irr a)) h1 h2 hp
theorem words_of {q : List UInt8} {L : List (List UInt8)} (h1 : L.Pairwise (· < ·)) (h : ∀ x, x ∈ L ↔ x ∈ splitL q ∧ x ≠ []) : L = wordsL q :=
  rise_uniq h1 (words_facts q).2 (fun x => (h x).trans ((words_facts q).1 x).symm)
theorem words_mem (q x : List UInt8) : x ∈ wordsL q ↔ x ∈ splitL q ∧ x ≠ [] := (words_facts q).1 x
theorem words_rise (q : List UInt8) : (wordsL q).Pairwise (· < ·) := (words_facts q).2
theorem less_lt : ∀ a b : List UInt8, Op.bytesLess a b = decide (a < b)
  | _, [] => by unfold Op.bytesLess; symm; exact decide_eq_false (List.not_lt_nil _)
  | [], y :: b => by unfold Op.bytesLess; symm; exact decide_eq_true (List.nil_lt_cons y b)
  | x :: a, y :: b => by
    unfold Op.bytesLess
    rw [less_lt a b]
    by_cases h1 : x < y
    · simp [h1]
      exact List.cons_lt_cons_iff.2 (Or.inl h1)
    · by_cases h2 : x = y
      · subst h2
        simp [List.cons_lt_cons_iff, h1]
      · simp [h1, h2, List.cons_lt_cons_iff]
theorem read_split {q : List UInt8} (h0 : q ≠ []) (h : q.length ≤ 200) : readL q = trmsL (splitL q) := by
  unfold readL
  rw [if_neg (by omega), comb_split]
  cases q with
  | nil => exact absurd rfl h0
  | cons x l => simp
theorem read_len {q : List UInt8} {ts : List Trm} (h : readL q = some ts) : q.length ≤ 200 := by
  unfold readL at h
  by_cases h1 : 200 < q.length
  · rw [if_pos h1] at h
    cases h
  · omega
theorem read_one {t : List UInt8} (h0 : t ≠ []) (hb : ∀ x ∈ t, x ≠ 32) (hl : t.length ≤ 200) : readL t = (trmL t).map fun x => [x] := by
  rw [read_split h0 hl, splitL_no hb]
  show (trmL t).bind (fun x => (some []).map (x :: ·)) = _
  cases trmL t <;> rfl
theorem read_word {t : List UInt8} (h0 : t ≠ []) (hb : ∀ x ∈ t, x ≠ 32) (hl : t.length ≤ 200) (h1 : t.head? ≠ some 33) (h2 : t.head? ≠ some 35) (h3 : t.head? ≠ some 47) : readL t = some [⟨false, 0, t⟩] := by
  rw [read_one h0 hb hl]
  cases t with
  | nil => exact absurd rfl h0
  | cons x r =>
    rw [trmL_cons, if_neg (fun e => h1 (by rw [e]; rfl)), markP_cons, if_neg (fun e => e.elim (fun e => h2 (by rw [e]; rfl)) (fun e => h3 (by rw [e]; rfl)))]
    rfl
end Go.Proofs.YteokeghenjobaaaGreatDoor
namespace Go.Proofs.YteokeghenjobaaaGreatDoor
open Go.ChangeShapes Go.WideShapes Go.ChangeAt Go.RowKit
attribute [local go_sem] Oper.semAt_some
theorem wrapC {m : Nat} (h : m < 4294967296) : IntKind.i64.wrap ((m : Int) + 1) = ((m + 1 : Nat) : Int) := by
  rw [IntKind.wrap_i64]
  omega
theorem pre_one (l : List UInt8) (c : UInt8) : Lib.hasPrefix l [c] = decide (l.head? = some c) := by
  unfold Lib.hasPrefix
  cases l with
  | nil => rfl
  | cons x l =>
    simp [List.isPrefixOf]
    rw [Bool.eq_iff_iff]
    simp
    exact ⟨fun h => h.symm, fun h => h.symm⟩
theorem prefix_1 (l : List UInt8) (c : UInt8) (B : Bool) (hB : decide (l.head? = some c) = B) (w : World) : Calls Tryz.prog 69 #[.string (bOf l), .string ⟨#[c]⟩] w fun e' w' => e' = .returned (.bool B) ∧ w' = w := by
  have h := Any.strings_HasPrefix Tryz.laysPrefix (bOf l) ⟨#[c]⟩ w
  rw [bOf_l, pre_one, hB] at h
  exact h
theorem lindex_1 (l : List UInt8) (w : World) : Calls Tryz.prog 147 #[.string (bOf l), .string ⟨#[32]⟩] w fun e' w' => e' = .returned (.int .i64 (Lib.indexByte l 32)) ∧ w' = w := by
  have h := Any.stringslite_Index_one { Tryz.laysIndex with } (bOf l) 32 w
  rw [bOf_l] at h
  exact h
theorem lcut_no (l : List UInt8) (hl : ∀ x ∈ l, x ≠ 32) (w : World) : Calls Tryz.prog 97 #[.string (bOf l), .string ⟨#[32]⟩] w fun e' w' => e' = .returned (.tuple #[.string (bOf l), .string (bOf []), .bool false]) ∧ Below w.heap.size w w' := by
  have hi := lindex_1 l w
  rw [ix_none hl] at hi
  clear hl
  go_enter Tryz.func97, Tryz.ntmps97
  go_wp2_with (go_at_call 147; refine hi.mono ?_; rintro e w' ⟨rfl, rfl⟩)
  go_ret3
  exact ⟨rfl, Below.refl _ _⟩
theorem lcut_at (a r : List UInt8) (ha : ∀ x ∈ a, x ≠ 32) (hs : (a ++ 32 :: r).length < 4294967296) (w : World) : Calls Tryz.prog 97 #[.string (bOf (a ++ 32 :: r)), .string ⟨#[32]⟩] w fun e' w' => e' = .returned (.tuple #[.string (bOf a), .string (bOf r), .bool true]) ∧ Below w.heap.size w w' := by
  have hi := lindex_1 (a ++ 32 :: r) w
  rw [ix_some ha] at hi
  obtain ⟨m, hma⟩ : ∃ m, a.length = m := ⟨_, rfl⟩
  obtain ⟨S, hS⟩ : ∃ S, bOf (a ++ 32 :: r) = S := ⟨_, rfl⟩
  have hsz : S.size = m + 1 + r.length := by rw [← hS, bOf_size, ← hma]; simp; omega
  have e1 : S.extract 0 m = bOf a := by rw [← hS, ← hma]; exact bOf_take a _
  have e2 : S.extract (m + 1) S.size = bOf r := by rw [hsz, ← hS, ← hma]; exact bOf_drop a r
  rw [hS, hma] at hi
  rw [hS]
  have hmb : m < 4294967296 := by
    have : (a ++ 32 :: r).length = m + 1 + r.length := by rw [← hma]; simp; omega
    omega
  have w1 := wrapB hmb
  have w2 : IntKind.i64.wrap ((m : Int) + 1) = ((m + 1 : Nat) : Int) := wrapC hmb
  have mixed : Tryz.prog.follows .mixedOrders = true := by kernel_rfl
  have c1 : (0 : Int) ≤ (m : Int) := by omega
  have c2 : (m : Int) ≤ (S.size : Int) := by omega
  have c3 : (0 : Int) ≤ ((m + 1 : Nat) : Int) := by omega
  have c4 : ((m + 1 : Nat) : Int) ≤ (S.size : Int) := by omega
  clear ha hs hma hS hsz hmb
  go_enter Tryz.func97, Tryz.ntmps97
  go_wp2_with (go_at_call 147; refine hi.mono ?_; rintro e w' ⟨rfl, rfl⟩)
  go_region_o
  go_wp2
  go_ret3
  exact ⟨by first | rfl | show False, Below.drew (Below.refl _ _)⟩
theorem scut_no (l : List UInt8) (hl : ∀ x ∈ l, x ≠ 32) (w : World) : Calls Tryz.prog 70 #[.string (bOf l), .string ⟨#[32]⟩] w fun e' w' => e' = .returned (.tuple #[.string (bOf l), .string (bOf []), .bool false]) ∧ Below w.heap.size w w' := by
  go_enter Tryz.func70, Tryz.ntmps70
  go_wp2_with (go_at_call 97; refine (lcut_no l hl _).mono ?_; rintro e w' ⟨rfl, hb⟩)
  go_ret3
  exact ⟨rfl, hb⟩
theorem scut_at (a r : List UInt8) (ha : ∀ x ∈ a, x ≠ 32) (hs : (a ++ 32 :: r).length < 4294967296) (w : World) : Calls Tryz.prog 70 #[.string (bOf (a ++ 32 :: r)), .string ⟨#[32]⟩] w fun e' w' => e' = .returned (.tuple #[.string (bOf a), .string (bOf r), .bool true]) ∧ Below w.heap.size w w' := by
  go_enter Tryz.func70, Tryz.ntmps70
  go_wp2_with (go_at_call 97; refine (lcut_at a r ha hs _).mono ?_; rintro e w' ⟨rfl, hb⟩)
  go_ret3
  exact ⟨rfl, hb⟩
end Go.Proofs.YteokeghenjobaaaGreatDoor
namespace Go.Proofs.YteokeghenjobaaaGreatDoor
open Go.ChangeShapes Go.WideShapes Go.ChangeAt Go.RowKit
def jumpsQ (J : Nat → Act → World → Prop) (Q : Exit → Act → World → Prop) : Exit → Act → World → Prop
  | .goto l, a, w => J l a w
  | e, a, w => Q e a w
theorem jumpsQ_mono {J J' : Nat → Act → World → Prop} {Q : Exit → Act → World → Prop} (h : ∀ l a w, J l a w → J' l a w) : ∀ e a w, jumpsQ J Q e a w → jumpsQ J' Q e a w := by
  intro e a w hq
  cases e with
  | goto l => exact h l a w hq
  | normal => exact hq
  | exit id => exact hq
  | ret => exact hq
  | panic ch => exact hq
  | outgrown => exact hq
theorem wp_to {P : Program} {c : Code} {a : Act} {w : World} {Q Q' : Exit → Act → World → Prop} (h : c.wp P Q a w) (hq : ∀ e a w, Q e a w → Q' e a w) : c.wp P Q' a w := by
  intro b k cs
  obtain ⟨e, a1, w1, h1, h2⟩ := h b k cs
  exact ⟨e, a1, w1, hq _ _ _ h1, h2⟩
theorem wp_scope_many {P : Program} {c : Code} {a : Act} {w : World} {Q : Exit → Act → World → Prop} (J : Nat → Nat → Act → World → Prop)
    (pass : ∀ l n a' w', J l n a' w' → (∀ l' m a1 w1, m < n → J l' m a1 w1 → ∀ rest, findLabel c l' = some (.seq .skip rest) → rest.wp P (jumpsQ (fun l a w => ∃ m, m < n ∧ J l m a w) Q) a1 w1) → ∃ rest, findLabel c l = some (.seq .skip rest) ∧ rest.wp P (jumpsQ (fun l a w => ∃ m, m < n ∧ J l m a w) Q) a' w')
    (first : (∀ l n a' w', J l n a' w' → ∀ rest, findLabel c l = some (.seq .skip rest) → rest.wp P (jumpsQ (fun l a w => ∃ n, J l n a w) Q) a' w') → c.wp P (jumpsQ (fun l a w => ∃ n, J l n a w) Q) a w) : (Code.scope c).wp P Q a w := by
  have step : ∀ n l a w, J l n a w → ∃ rest, findLabel c l = some (.seq .skip rest) ∧ rest.wp P (jumpsQ (fun l a w => ∃ m, m < n ∧ J l m a w) Q) a w := by
    intro n
    induction n using Nat.strongRecOn with
    | _ n ih =>
      intro l a w h
      refine pass l n a w h (fun l' m a1 w1 hm hJ rest hr => ?_)
      obtain ⟨rest', hr', hw⟩ := ih m hm l' a1 w1 hJ
      rw [hr] at hr'
      cases hr'
      exact wp_to hw (jumpsQ_mono fun l a w ⟨k, hk, h⟩ => ⟨k, by omega, h⟩)
  have hfirst := first (fun l n a' w' hJ rest hr => by
    obtain ⟨rest', hr', hw⟩ := step n l a' w' hJ
    rw [hr] at hr'
    cases hr'
    exact wp_to hw (jumpsQ_mono fun l a w ⟨k, hk, h⟩ => ⟨k, h⟩))
  intro b k cs
  have key : ∀ n l a w, J l n a w → ∃ rest, findLabel c l = some rest ∧ ∃ e a' w', Q e a' w' ∧ Arrives P (lone (b.at a (.code rest :: .inScope c :: k)) cs w) b k cs e a' w' := by
    intro n
    induction n using Nat.strongRecOn with
    | _ n ih =>
      intro l a w hJ
      obtain ⟨rest, hr, hw⟩ := step n l a w hJ
      replace hw := wp_seq (x := .skip) (wp_skip hw)
      refine ⟨_, hr, ?_⟩
      obtain ⟨e, a₁, w₁, hq, harr⟩ := hw b (.inScope c :: k) cs
      cases e with
      | normal => exact ⟨.normal, a₁, w₁, hq, Steps.trans harr (.one step_inScope)⟩
      | exit id => exact ⟨.exit id, a₁, w₁, hq, fun k' hk => harr k' (by simp [exitTo, hk])⟩
      | goto l' =>
        obtain ⟨m, hlt, hJ'⟩ := hq
        obtain ⟨rest2, hr2, e₂, a₂, w₂, hq₂, harr₂⟩ := ih m hlt l' a₁ w₁ hJ'
        have hg : gotoIn l' (.inScope c :: k) = some (.code rest2 :: .inScope c :: k) := by simp [gotoIn, hr2]
        exact ⟨e₂, a₂, w₂, hq₂, .of_steps (harr _ hg) harr₂⟩
      | ret => exact ⟨_, a₁, w₁, hq, harr⟩
      | panic ch => exact ⟨_, a₁, w₁, hq, harr⟩
      | outgrown => exact ⟨_, a₁, w₁, hq, harr⟩
  obtain ⟨e, a₁, w₁, hq, harr⟩ := hfirst b (.inScope c :: k) cs
  cases e with
  | normal => exact ⟨.normal, a₁, w₁, hq, .head step_scope (Steps.trans harr (.one step_inScope))⟩
  | exit id => exact ⟨.exit id, a₁, w₁, hq, fun k' hk => .head step_scope (harr k' (by simp [exitTo, hk]))⟩
  | goto l' =>
    obtain ⟨m, hJ'⟩ := hq
    obtain ⟨rest2, hr2, e₂, a₂, w₂, hq₂, harr₂⟩ := key m l' a₁ w₁ hJ'
    have hg : gotoIn l' (.inScope c :: k) = some (.code rest2 :: .inScope c :: k) := by simp [gotoIn, hr2]
    exact ⟨e₂, a₂, w₂, hq₂, .of_steps (.head step_scope (harr _ hg)) harr₂⟩
  | ret => exact ⟨_, a₁, w₁, hq, .of_steps (.one step_scope) harr⟩
  | panic ch => exact ⟨_, a₁, w₁, hq, .of_steps (.one step_scope) harr⟩
  | outgrown => exact ⟨_, a₁, w₁, hq, .of_steps (.one step_scope) harr⟩
theorem jumpsQ_ret {J : Nat → Act → World → Prop} {Q : Exit → Act → World → Prop} {a : Act} {w : World} (h : Q .ret a w) : jumpsQ J Q .ret a w := h
end Go.Proofs.YteokeghenjobaaaGreatDoor
namespace Go.Proofs.YteokeghenjobaaaGreatDoor
open Go.ChangeShapes Go.WideShapes Go.ChangeAt Go.RowKit
attribute [local go_sem ↓] Go.wp_at_zero Go.wp_at_succ
attribute [local go_sem] Oper.semAt_some
def trC (t : Trm) : List Value := [.bool t.tn, .int .u8 (t.sg.toNat : Int), .string (bOf t.tx)]
def RowTm (w : World) (base : Nat) (v : Value) (L : List Trm) : Prop := w.ownsRow base 69 3 v L.length (L.flatMap trC)
theorem infoTr : (Tryz.prog.info? 69).map (fun i => (i.zero, i.size, i.bytes)) = some (some (.agg #[.bool false, .int .u8 0, .string ByteArray.empty]), 3, 24) := by kernel_rfl
theorem one1T (x : Trm) : ∀ u ∈ trC x, u.oneCell' = true := by
  intro u hu
  simp [trC] at hu
  rcases hu with rfl | rfl | rfl <;> rfl
theorem rd_newT (w : World) (x : Trm) {z : Int} (hz : z = (x.sg.toNat : Int)) {g : Nat} (hg : g = w.heap.size) : Rd (w.alloc (.cells #[.bool x.tn, .int .u8 z, .string (bOf x.tx)] 69)) (some ⟨g, 0, none⟩) 1 3 (trC x) := by
  subst hg
  subst hz
  refine ⟨rfl, Or.inr ⟨_, 0, rfl, fun j u hj => ?_⟩⟩
  rw [Joins.cell_of_block (heap_alloc_new w _), Nat.zero_add]
  simpa [trC] using hj
theorem RowTm.snoc {w : World} {base : Nat} {v : Value} {L : List Trm} {x : Trm} (h : w.ownsRow base 69 3 v (L.length + 1) (L.flatMap trC ++ trC x)) : RowTm w base v (L ++ [x]) := by
  unfold RowTm
  rw [List.length_append, List.flatMap_append]
  simpa using h
structure RdQ (w0 wr : World) (pre : List Trm) (v : Value) : Prop where
  hB : Below w0.heap.size w0 wr
  sz : w0.heap.size + 1 ≤ wr.heap.size
  row : RowTm wr (w0.heap.size + 1) v pre
theorem RdQ.below {w0 wr w' : World} {pre : List Trm} {v : Value} (h : RdQ w0 wr pre v) (hb : Below wr.heap.size wr w') : RdQ w0 w' pre v :=
  ⟨btr h.hB h.hB.size hb, Nat.le_trans h.sz hb.size, own_belowW h.row hb⟩
def J2 (w0 : World) (F : Option (List Trm)) (n : Nat) (a : Act) (wr : World) : Prop := ∃ (pre : List Trm) (rest : List UInt8) (v x0 x1 x2 : Value) (u : Nat → Value), a = { tmps := #[.string (bOf rest), u 1, u 2, u 3, v, .pointer (some ⟨w0.heap.size, 0, none⟩), u 6, u 7, u 8, u 9, u 10, u 11, u 12, u 13, u 14, u 15, u 16, u 17, u 18, u 19, u 20, u 21, u 22, u 23, u 24, u 25, u 26, u 27, u 28, u 29, u 30, u 31, u 32, u 33, u 34, u 35, u 36, u 37, u 38, u 39, u 40, u 41, u 42, u 43, u 44, u 45, u 46, u 47, u 48, u 49, u 50, u 51, u 52, u 53], defers := [] } ∧ RdQ w0 wr pre v ∧ Hid (pre.length + rest.length ≤ 200) ∧ Blk wr w0.heap.size 69 #[x0, x1, x2] ∧ Hid ((comb trmL rest).map (pre ++ ·) = F) ∧ 3 * rest.length + 3 ≤ n
theorem J2.mk {w0 : World} {F : Option (List Trm)} {n : Nat} {wr : World} {pre : List Trm} {rest : List UInt8} {v x0 x1 x2 : Value} {u1 u2 u3 u6 u7 u8 u9 u10 u11 u12 u13 u14 u15 u16 u17 u18 u19 u20 u21 u22 u23 u24 u25 u26 u27 u28 u29 u30 u31 u32 u33 u34 u35 u36 u37 u38 u39 u40 u41 u42 u43 u44 u45 u46 u47 u48 u49 u50 u51 u52 u53 : Value} (hh : RdQ w0 wr pre v ∧ Hid (pre.length + rest.length ≤ 200) ∧ Blk wr w0.heap.size 69 #[x0, x1, x2] ∧ Hid ((comb trmL rest).map (pre ++ ·) = F) ∧ 3 * rest.length + 3 ≤ n) : J2 w0 F n { tmps := #[.string (bOf rest), u1, u2, u3, v, .pointer (some ⟨w0.heap.size, 0, none⟩), u6, u7, u8, u9, u10, u11, u12, u13, u14, u15, u16, u17, u18, u19, u20, u21, u22, u23, u24, u25, u26, u27, u28, u29, u30, u31, u32, u33, u34, u35, u36, u37, u38, u39, u40, u41, u42, u43, u44, u45, u46, u47, u48, u49, u50, u51, u52, u53], defers := [] } wr :=
  ⟨pre, rest, v, x0, x1, x2,  fun i => (#[undef, u1, u2, u3, undef, undef, u6, u7, u8, u9, u10, u11, u12, u13, u14, u15, u16, u17, u18, u19, u20, u21, u22, u23, u24, u25, u26, u27, u28, u29, u30, u31, u32, u33, u34, u35, u36, u37, u38, u39, u40, u41, u42, u43, u44, u45, u46, u47, u48, u49, u50, u51, u52, u53] : Array Value).getD i undef, rfl, hh⟩
def J3 (w0 : World) (F : Option (List Trm)) (n : Nat) (a : Act) (wr : World) : Prop := ∃ (pre : List Trm) (rest : List UInt8) (v : Value) (tn : Bool) (u : Nat → Value), a = { tmps := #[.string (bOf rest), u 1, u 2, u 3, v, .pointer (some ⟨w0.heap.size, 0, none⟩), u 6, u 7, u 8, u 9, u 10, u 11, u 12, u 13, u 14, u 15, u 16, u 17, u 18, u 19, u 20, u 21, u 22, u 23, u 24, u 25, u 26, u 27, u 28, u 29, u 30, u 31, u 32, u 33, u 34, u 35, u 36, u 37, u 38, u 39, u 40, u 41, u 42, u 43, u 44, u 45, u 46, u 47, u 48, u 49, u 50, u 51, u 52, u 53], defers := [] } ∧ RdQ w0 wr pre v ∧ Hid (pre.length + rest.length ≤ 200) ∧ Blk wr w0.heap.size 69 #[.bool tn, .int .u8 0, .string ⟨#[]⟩] ∧ Hid ((comb (markP tn) rest).map (pre ++ ·) = F) ∧ 3 * rest.length + 2 ≤ n
theorem J3.mk {w0 : World} {F : Option (List Trm)} {n : Nat} {wr : World} {pre : List Trm} {rest : List UInt8} {v : Value} {tn : Bool} {u1 u2 u3 u6 u7 u8 u9 u10 u11 u12 u13 u14 u15 u16 u17 u18 u19 u20 u21 u22 u23 u24 u25 u26 u27 u28 u29 u30 u31 u32 u33 u34 u35 u36 u37 u38 u39 u40 u41 u42 u43 u44 u45 u46 u47 u48 u49 u50 u51 u52 u53 : Value} (hh : RdQ w0 wr pre v ∧ Hid (pre.length + rest.length ≤ 200) ∧ Blk wr w0.heap.size 69 #[.bool tn, .int .u8 0, .string ⟨#[]⟩] ∧ Hid ((comb (markP tn) rest).map (pre ++ ·) = F) ∧ 3 * rest.length + 2 ≤ n) : J3 w0 F n { tmps := #[.string (bOf rest), u1, u2, u3, v, .pointer (some ⟨w0.heap.size, 0, none⟩), u6, u7, u8, u9, u10, u11, u12, u13, u14, u15, u16, u17, u18, u19, u20, u21, u22, u23, u24, u25, u26, u27, u28, u29, u30, u31, u32, u33, u34, u35, u36, u37, u38, u39, u40, u41, u42, u43, u44, u45, u46, u47, u48, u49, u50, u51, u52, u53], defers := [] } wr :=
  ⟨pre, rest, v, tn,  fun i => (#[undef, u1, u2, u3, undef, undef, u6, u7, u8, u9, u10, u11, u12, u13, u14, u15, u16, u17, u18, u19, u20, u21, u22, u23, u24, u25, u26, u27, u28, u29, u30, u31, u32, u33, u34, u35, u36, u37, u38, u39, u40, u41, u42, u43, u44, u45, u46, u47, u48, u49, u50, u51, u52, u53] : Array Value).getD i undef, rfl, hh⟩
def J4 (w0 : World) (F : Option (List Trm)) (n : Nat) (a : Act) (wr : World) : Prop := ∃ (pre : List Trm) (rest : List UInt8) (v : Value) (tn : Bool) (sg : UInt8) (sz : Int) (u : Nat → Value), a = { tmps := #[.string (bOf rest), u 1, u 2, u 3, v, .pointer (some ⟨w0.heap.size, 0, none⟩), u 6, u 7, u 8, u 9, u 10, u 11, u 12, u 13, u 14, u 15, u 16, u 17, u 18, u 19, u 20, u 21, u 22, u 23, u 24, u 25, u 26, u 27, u 28, u 29, u 30, u 31, u 32, u 33, u 34, u 35, u 36, u 37, u 38, u 39, u 40, u 41, u 42, u 43, u 44, u 45, u 46, u 47, u 48, u 49, u 50, u 51, u 52, u 53], defers := [] } ∧ RdQ w0 wr pre v ∧ Hid (pre.length + rest.length ≤ 200) ∧ Blk wr w0.heap.size 69 #[.bool tn, .int .u8 sz, .string ⟨#[]⟩] ∧ Hid (sz = (sg.toNat : Int)) ∧ Hid ((comb (textP tn sg) rest).map (pre ++ ·) = F) ∧ 3 * rest.length + 1 ≤ n
theorem J4.mk {w0 : World} {F : Option (List Trm)} {n : Nat} {wr : World} {pre : List Trm} {rest : List UInt8} {v : Value} {tn : Bool} {sg : UInt8} {sz : Int} {u1 u2 u3 u6 u7 u8 u9 u10 u11 u12 u13 u14 u15 u16 u17 u18 u19 u20 u21 u22 u23 u24 u25 u26 u27 u28 u29 u30 u31 u32 u33 u34 u35 u36 u37 u38 u39 u40 u41 u42 u43 u44 u45 u46 u47 u48 u49 u50 u51 u52 u53 : Value} (hh : RdQ w0 wr pre v ∧ Hid (pre.length + rest.length ≤ 200) ∧ Blk wr w0.heap.size 69 #[.bool tn, .int .u8 sz, .string ⟨#[]⟩] ∧ Hid (sz = (sg.toNat : Int)) ∧ Hid ((comb (textP tn sg) rest).map (pre ++ ·) = F) ∧ 3 * rest.length + 1 ≤ n) : J4 w0 F n { tmps := #[.string (bOf rest), u1, u2, u3, v, .pointer (some ⟨w0.heap.size, 0, none⟩), u6, u7, u8, u9, u10, u11, u12, u13, u14, u15, u16, u17, u18, u19, u20, u21, u22, u23, u24, u25, u26, u27, u28, u29, u30, u31, u32, u33, u34, u35, u36, u37, u38, u39, u40, u41, u42, u43, u44, u45, u46, u47, u48, u49, u50, u51, u52, u53], defers := [] } wr :=
  ⟨pre, rest, v, tn, sg, sz,  fun i => (#[undef, u1, u2, u3, undef, undef, u6, u7, u8, u9, u10, u11, u12, u13, u14, u15, u16, u17, u18, u19, u20, u21, u22, u23, u24, u25, u26, u27, u28, u29, u30, u31, u32, u33, u34, u35, u36, u37, u38, u39, u40, u41, u42, u43, u44, u45, u46, u47, u48, u49, u50, u51, u52, u53] : Array Value).getD i undef, rfl, hh⟩
def J1 (w0 : World) (F : Option (List Trm)) (n : Nat) (a : Act) (wr : World) : Prop := ∃ (pre : List Trm) (v : Value) (u : Nat → Value), a = { tmps := #[u 0, u 1, u 2, u 3, v, u 5, u 6, u 7, u 8, u 9, u 10, u 11, u 12, u 13, u 14, u 15, u 16, u 17, u 18, u 19, u 20, u 21, u 22, u 23, u 24, u 25, u 26, u 27, u 28, u 29, u 30, u 31, u 32, u 33, u 34, u 35, u 36, u 37, u 38, u 39, u 40, u 41, u 42, u 43, u 44, u 45, u 46, u 47, u 48, u 49, u 50, u 51, u 52, u 53], defers := [] } ∧ RdQ w0 wr pre v ∧ Hid (F = some pre)
theorem J1.mk {w0 : World} {F : Option (List Trm)} {n : Nat} {wr : World} {pre : List Trm} {v : Value} {u0 u1 u2 u3 u5 u6 u7 u8 u9 u10 u11 u12 u13 u14 u15 u16 u17 u18 u19 u20 u21 u22 u23 u24 u25 u26 u27 u28 u29 u30 u31 u32 u33 u34 u35 u36 u37 u38 u39 u40 u41 u42 u43 u44 u45 u46 u47 u48 u49 u50 u51 u52 u53 : Value} (hh : RdQ w0 wr pre v ∧ Hid (F = some pre)) : J1 w0 F n { tmps := #[u0, u1, u2, u3, v, u5, u6, u7, u8, u9, u10, u11, u12, u13, u14, u15, u16, u17, u18, u19, u20, u21, u22, u23, u24, u25, u26, u27, u28, u29, u30, u31, u32, u33, u34, u35, u36, u37, u38, u39, u40, u41, u42, u43, u44, u45, u46, u47, u48, u49, u50, u51, u52, u53], defers := [] } wr :=
  ⟨pre, v,  fun i => (#[u0, u1, u2, u3, undef, u5, u6, u7, u8, u9, u10, u11, u12, u13, u14, u15, u16, u17, u18, u19, u20, u21, u22, u23, u24, u25, u26, u27, u28, u29, u30, u31, u32, u33, u34, u35, u36, u37, u38, u39, u40, u41, u42, u43, u44, u45, u46, u47, u48, u49, u50, u51, u52, u53] : Array Value).getD i undef, rfl, hh⟩
def J0 (w0 : World) (F : Option (List Trm)) (n : Nat) (a : Act) (wr : World) : Prop := ∃  (u : Nat → Value), a = { tmps := #[u 0, u 1, u 2, u 3, u 4, u 5, u 6, u 7, u 8, u 9, u 10, u 11, u 12, u 13, u 14, u 15, u 16, u 17, u 18, u 19, u 20, u 21, u 22, u 23, u 24, u 25, u 26, u 27, u 28, u 29, u 30, u 31, u 32, u 33, u 34, u 35, u 36, u 37, u 38, u 39, u 40, u 41, u 42, u 43, u 44, u 45, u 46, u 47, u 48, u 49, u 50, u 51, u 52, u 53], defers := [] } ∧ Below w0.heap.size w0 wr ∧ Hid (F = none)
theorem J0.mk {w0 : World} {F : Option (List Trm)} {n : Nat} {wr : World}  {u0 u1 u2 u3 u4 u5 u6 u7 u8 u9 u10 u11 u12 u13 u14 u15 u16 u17 u18 u19 u20 u21 u22 u23 u24 u25 u26 u27 u28 u29 u30 u31 u32 u33 u34 u35 u36 u37 u38 u39 u40 u41 u42 u43 u44 u45 u46 u47 u48 u49 u50 u51 u52 u53 : Value} (hh : Below w0.heap.size w0 wr ∧ Hid (F = none)) : J0 w0 F n { tmps := #[u0, u1, u2, u3, u4, u5, u6, u7, u8, u9, u10, u11, u12, u13, u14, u15, u16, u17, u18, u19, u20, u21, u22, u23, u24, u25, u26, u27, u28, u29, u30, u31, u32, u33, u34, u35, u36, u37, u38, u39, u40, u41, u42, u43, u44, u45, u46, u47, u48, u49, u50, u51, u52, u53], defers := [] } wr :=
  ⟨ fun i => (#[u0, u1, u2, u3, u4, u5, u6, u7, u8, u9, u10, u11, u12, u13, u14, u15, u16, u17, u18, u19, u20, u21, u22, u23, u24, u25, u26, u27, u28, u29, u30, u31, u32, u33, u34, u35, u36, u37, u38, u39, u40, u41, u42, u43, u44, u45, u46, u47, u48, u49, u50, u51, u52, u53] : Array Value).getD i undef, rfl, hh⟩
def JJ (w0 : World) (F : Option (List Trm)) (l n : Nat) (a : Act) (wr : World) : Prop :=
  (l = 2 ∧ J2 w0 F n a wr) ∨ (l = 3 ∧ J3 w0 F n a wr) ∨ (l = 4 ∧ J4 w0 F n a wr) ∨ (l = 1 ∧ J1 w0 F n a wr) ∨ (l = 0 ∧ J0 w0 F n a wr)
def RdT (w0 : World) (F : Option (List Trm)) (e' : Ending) (w' : World) : Prop := ∃ v B, e' = .returned (.tuple #[v, .bool B]) ∧ (∀ ts, F = some ts → B = true ∧ RowTm w' (w0.heap.size + 1) v ts) ∧ (F = none → B = false)
theorem cell3 {w : World} {g : Nat} {t : TypeId} {a b c : Value} (h : Blk w g t #[a, b, c]) : w.cell? ⟨g, 0, none⟩ = some a ∧ w.cell? ⟨g, 1, none⟩ = some b ∧ w.cell? ⟨g, 2, none⟩ = some c := by
  have h0 := h.cell_ 0
  have h1 := h.cell_ 1
  have h2 := h.cell_ 2
  simp at h0 h1 h2
  exact ⟨h0, h1, h2⟩
theorem set3 {w : World} {g : Nat} {t : TypeId} {x0 x1 x2 : Value} (h : Blk w g t #[x0, x1, x2]) (a b c : Value) :
    ∃ wz, wz = ((w.setCell ⟨g, 0, none⟩ a).setCell ⟨g, 1, none⟩ b).setCell ⟨g, 2, none⟩ c ∧ Blk wz g t #[a, b, c] ∧ w.grownBy wz (some g) := by
  have B1 := ((h.set_ 0 a).set_ 1 b).set_ 2 c
  simp at B1
  exact ⟨_, rfl, B1, grown_set (grown_set (set1_grown _ _ _ _) _ _) _ _⟩
theorem bOf_tail {x : UInt8} {l : List UInt8} {S : ByteArray} (h : bOf (x :: l) = S) : S.extract 1 S.size = bOf l ∧ 1 ≤ (S.size : Int) := by
  subst h
  constructor
  · apply ByteArray.ext
    apply Array.toList_inj.1
    simp [bOf, ByteArray.size]
  · rw [bOf_size, List.length_cons]
    omega
theorem bOf_head {x : UInt8} {l : List UInt8} {S : ByteArray} (h : bOf (x :: l) = S) : ∀ h : 0 < S.size, S[0]'h = x := by
  subst h
  intro h
  rfl
theorem RdQ.box {w0 wr w' : World} {pre : List Trm} {v : Value} (h : RdQ w0 wr pre v) (hg : wr.grownBy w' (some w0.heap.size)) : RdQ w0 w' pre v :=
  ⟨h.hB.grown hg h.hB.size (fun j hj => by cases hj; exact Nat.le_refl _), Nat.le_trans h.sz hg.size, World.ownsRow.kept h.row hg (own_off h.row (by omega))⟩
theorem read_any (q : List UInt8) (w0 : World) (F : Option (List Trm)) (hF : readL q = F) (hq : q.length ≤ 100000) :
    Calls Tryz.prog 35 #[.string (bOf q)] w0 fun e' w' => RdT w0 F e' w' ∧ Below w0.heap.size w0 w' := by
  have HF := Lib.hid hF
  clear hF
  go_enter Tryz.func35, Tryz.ntmps35
  go_wp2
  refine wp_scope_many (JJ w0 F) ?_ ?_
  · intro l N a' wr hJ hcut
    have HC := Lib.hid hcut
    clear hcut
    rcases hJ with ⟨rfl, hJ⟩ | ⟨rfl, hJ⟩ | ⟨rfl, hJ⟩ | ⟨rfl, hJ⟩ | ⟨rfl, hJ⟩
    · obtain ⟨pre, rest, v, x0, x1, x2, u, rfl, hQ, hlen, hBl, hF, hn⟩ := hJ
      refine ⟨_, (by simp only [findLabel, Nat.reduceBEq, if_true, if_false, Bool.false_eq_true]; rfl), ?_⟩
      obtain ⟨c0, c1, c2⟩ := cell3 hBl
      have f0 := hBl.free 0
      have f1 := hBl.free 1
      have f2 := hBl.free 2
      go_upto_region 7 with fail
      obtain ⟨wz, hwz, hBz, hgz⟩ := set3 hBl (.bool false) (.int .u8 0) (.string ⟨#[]⟩)
      rw [← hwz]
      replace hQ := hQ.box hgz
      clear hwz hBl hgz c0 c1 c2 f0 f1 f2
      have hBl := hBz
      clear hBz
      obtain ⟨c0, c1, c2⟩ := cell3 hBl
      have f0 := hBl.free 0
      have f1 := hBl.free 1
      have f2 := hBl.free 2
      by_cases hp : rest.head? = some 33
      · obtain ⟨l, rfl⟩ : ∃ l, rest = 33 :: l := by
          cases rest with
          | nil => cases hp
          | cons x l =>
            simp at hp
            exact ⟨l, by rw [hp]⟩
        have hP1 := prefix_1 (33 :: l) 33 true (by simp) wz
        obtain ⟨S, hS⟩ : ∃ S, bOf (33 :: l) = S := ⟨_, rfl⟩
        obtain ⟨e1, b1⟩ := bOf_tail hS
        rw [hS] at hP1 ⊢
        clear hp hS
        by_cases hp2 : l.head? = some 33
        · have HP := Lib.hid hp2
          clear hp2
          go_wp2_with (first | (go_at_call 69; refine hP1.mono ?_; rintro e' w' ⟨rfl, rfl⟩; clear hP1) | (go_at_call 69; refine (prefix_1 l 33 true (decide_eq_true HP.out) _).mono ?_; rintro e' w' ⟨rfl, rfl⟩))
          go_step3
          exact (show ∃ m, m < N ∧ JJ w0 F 0 m _ _ from ⟨0, by omega, Or.inr (Or.inr (Or.inr (Or.inr ⟨rfl, J0.mk ⟨(hQ.box (set1_grown _ _ _ _)).hB, Lib.hid (by rw [← hF.out]; cases l with | nil => cases HP.out | cons y l => have h := HP.out; simp at h; subst h; rw [comb_turn2]; rfl)⟩⟩)))⟩)
        · have HP := Lib.hid hp2
          clear hp2
          go_wp2_with (first | (go_at_call 69; refine hP1.mono ?_; rintro e' w' ⟨rfl, rfl⟩; clear hP1) | (go_at_call 69; refine (prefix_1 l 33 false (decide_eq_false HP.out) _).mono ?_; rintro e' w' ⟨rfl, rfl⟩))
          rename_i K hK
          go_step3
          show K _ _
          refine hK _ _ ?_
          exact HC.out 3 _ _ _ (show 3 * l.length + 2 < N by simp at hn; omega) (Or.inr (Or.inl ⟨rfl, J3.mk (pre := pre) (rest := l) (v := v) (tn := true) ⟨hQ.box (set1_grown _ _ _ _), Lib.hid (by have := hlen.out; simp at this; omega), by have h := hBl.set_ 0 (.bool true); simpa using h, Lib.hid (by rw [← hF.out, comb_turn HP.out]), Nat.le_refl _⟩⟩)) _ (by kernel_rfl)
      · have HP := Lib.hid hp
        clear hp
        go_wp2_with (go_at_call 69; refine (prefix_1 _ 33 false (decide_eq_false HP.out) _).mono ?_; rintro e' w' ⟨rfl, rfl⟩)
        go_step3
        exact (show ∃ m, m < N ∧ JJ w0 F 3 m _ _ from ⟨3 * rest.length + 2, by omega, Or.inr (Or.inl ⟨rfl, J3.mk ⟨hQ, hlen, hBl, Lib.hid (by rw [← hF.out, comb_plain HP.out]), Nat.le_refl _⟩⟩)⟩)
    · obtain ⟨pre, rest, v, tn, u, rfl, hQ, hlen, hBl, hF, hn⟩ := hJ
      refine ⟨_, (by simp only [findLabel, Nat.reduceBEq, if_true, if_false, Bool.false_eq_true]; rfl), ?_⟩
      obtain ⟨c0, c1, c2⟩ := cell3 hBl
      have f0 := hBl.free 0
      have f1 := hBl.free 1
      have f2 := hBl.free 2
      cases rest with
      | nil =>
        rw [show bOf [] = ⟨#[]⟩ from rfl]
        go_wp2_with fail
        go_step3
        exact (show ∃ m, m < N ∧ JJ w0 F 4 m _ _ from ⟨3 * 0 + 1, by omega, Or.inr (Or.inr (Or.inl ⟨rfl, J4.mk (pre := pre) (rest := []) (v := v) (tn := tn) (sg := 0) ⟨hQ, hlen, hBl, Lib.hid rfl, Lib.hid (by rw [← hF.out, comb_nomark (by simp) (by simp)]), Nat.le_refl _⟩⟩))⟩)
      | cons x l =>
        obtain ⟨S, hS⟩ : ∃ S, bOf (x :: l) = S := ⟨_, rfl⟩
        obtain ⟨e1, b1⟩ := bOf_tail hS
        have hne : S.toList.isEmpty = false := by rw [← hS]; exact bOf_ne x l
        have hix := bOf_head hS
        rw [hS]
        have HS := Lib.hid hS
        clear hS
        by_cases h1 : x = 35
        · subst h1
          have i1 : ∀ h : 0 < S.size, ((S[0]'h).toNat : Int) = 35 := fun h => by rw [hix h]; rfl
          clear hix
          go_wp2_with fail
          rename_i K hK
          go_step3
          show K _ _
          refine hK _ _ ?_
          exact HC.out 4 _ _ _ (show 3 * l.length + 1 < N by simp at hn; omega) (Or.inr (Or.inr (Or.inl ⟨rfl, J4.mk (pre := pre) (rest := l) (v := v) (tn := tn) (sg := 35) ⟨hQ.box (set1_grown _ _ _ _), Lib.hid (by have := hlen.out; simp at this; omega), by have h := hBl.set_ 1 (.int .u8 35); simpa using h, Lib.hid rfl, Lib.hid (by rw [← hF.out, comb_mark (Or.inl rfl)]), Nat.le_refl _⟩⟩))) _ (by kernel_rfl)
        · by_cases h2 : x = 47
          · subst h2
            have i1 : ∀ h : 0 < S.size, ((S[0]'h).toNat : Int) = 47 := fun h => by rw [hix h]; rfl
            clear hix
            go_wp2_with fail
            rename_i K hK
            go_step3
            show K _ _
            refine hK _ _ ?_
            exact HC.out 4 _ _ _ (show 3 * l.length + 1 < N by simp at hn; omega) (Or.inr (Or.inr (Or.inl ⟨rfl, J4.mk (pre := pre) (rest := l) (v := v) (tn := tn) (sg := 47) ⟨hQ.box (set1_grown _ _ _ _), Lib.hid (by have := hlen.out; simp at this; omega), by have h := hBl.set_ 1 (.int .u8 47); simpa using h, Lib.hid rfl, Lib.hid (by rw [← hF.out, comb_mark (Or.inr rfl)]), Nat.le_refl _⟩⟩))) _ (by kernel_rfl)
          · have j1 : ∀ h : 0 < S.size, ¬ ((S[0]'h).toNat : Int) = 35 := fun h => by rw [hix h]; intro e; exact h1 (UInt8.toNat_inj.1 (by rw [show (35 : UInt8).toNat = 35 from rfl]; omega))
            have j2 : ∀ h : 0 < S.size, ¬ ((S[0]'h).toNat : Int) = 47 := fun h => by rw [hix h]; intro e; exact h2 (UInt8.toNat_inj.1 (by rw [show (47 : UInt8).toNat = 47 from rfl]; omega))
            have i1 : ∀ h : 0 < S.size, (((S[0]'h).toNat : Int) != 35) = true := fun h => by simpa using j1 h
            have i2 : ∀ h : 0 < S.size, (((S[0]'h).toNat : Int) != 47) = true := fun h => by simpa using j2 h
            clear hix
            go_wp2_with fail
            have e := HS.out
            subst e
            go_step3
            exact (show ∃ m, m < N ∧ JJ w0 F 4 m _ _ from ⟨3 * (x :: l).length + 1, by omega, Or.inr (Or.inr (Or.inl ⟨rfl, J4.mk (pre := pre) (rest := x :: l) (v := v) (tn := tn) (sg := 0) ⟨hQ, hlen, hBl, Lib.hid rfl, Lib.hid (by rw [← hF.out, comb_nomark (by simpa using h1) (by simpa using h2)]), Nat.le_refl _⟩⟩))⟩)
    · obtain ⟨pre, rest, v, tn, sg, sz, u, rfl, hQ, hlen, hBl, HZ, hF, hn⟩ := hJ
      refine ⟨_, (by simp only [findLabel, Nat.reduceBEq, if_true, if_false, Bool.false_eq_true]; rfl), ?_⟩
      obtain ⟨c0, c1, c2⟩ := cell3 hBl
      have f0 := hBl.free 0
      have f1 := hBl.free 1
      have f2 := hBl.free 2
      rcases cut_at rest with hno | ⟨a, r, rfl, ha⟩
      · cases rest with
        | nil =>
          have hcut := scut_no [] hno
          clear hno
          rw [show bOf [] = ⟨#[]⟩ from rfl] at hcut ⊢
          go_wp2_with (go_at_call 70; refine (hcut _).mono ?_; rintro e' w4 ⟨rfl, hb⟩; clear hcut; (replace hQ := hQ.below hb); (have hBl4 := hBl.below hb hBl.lt); obtain ⟨c0, c1, c2⟩ := cell3 hBl4; have f2 := hBl4.free 2)
          go_step3
          exact (show ∃ m, m < N ∧ JJ w0 F 0 m _ _ from ⟨0, by omega, Or.inr (Or.inr (Or.inr (Or.inr ⟨rfl, J0.mk ⟨(hQ.box (set1_grown _ _ _ _)).hB, Lib.hid (by rw [← hF.out, comb_text_e1]; rfl)⟩⟩)))⟩)
        | cons x l =>
          obtain ⟨S, hS⟩ : ∃ S, bOf (x :: l) = S := ⟨_, rfl⟩
          have hne : S.toList.isEmpty = false := by rw [← hS]; exact bOf_ne _ _
          have hcut := scut_no (x :: l) hno
          rw [hS] at hcut ⊢
          have HS := Lib.hid hS
          have HN := Lib.hid hn
          clear hS hn 
          go_upto_region 15 with (go_at_call 70; refine (hcut _).mono ?_; rintro e' w4 ⟨rfl, hb⟩; clear hcut; replace hQ := hQ.below hb; (have hBl4 := hBl.below hb hBl.lt); obtain ⟨c0, c1, c2⟩ := cell3 hBl4; have f2 := hBl4.free 2)
          obtain ⟨wz, hwz⟩ : ∃ W : World, W = w4.setCell ⟨w0.heap.size, 2, none⟩ (.string S) := ⟨_, rfl⟩
          have hBz : Blk wz w0.heap.size 69 #[.bool tn, .int .u8 sz, .string S] := by rw [hwz]; have h := hBl4.set_ 2 (.string S); simpa using h
          replace hQ := hQ.box (set1_grown w4 w0.heap.size 2 (.string S))
          rw [← hwz] at hQ ⊢
          clear hwz c0 c1 c2 f2 hBl4 hb hBl
          obtain ⟨c0, c1, c2⟩ := cell3 hBz
          obtain ⟨L, hL⟩ : ∃ L, pre.length = L := ⟨_, rfl⟩
          have hon : wz.ownsRow (w0.heap.size + 1) 69 3 v L (pre.flatMap trC) := by rw [← hL]; exact hQ.row
          have hL2 : L ≤ 200 := by have := hlen.out; omega
          have hsz := hQ.sz
          have HL := Lib.hid hL
          clear hL
          go_wp2_with (at_builtin; obtain ⟨ti0, hi, hz0, hz1, hz2⟩ := info_parts infoTr; refine wpList_app _ rfl (.tmp 48) (.tmp 50) _ rfl (w0.heap.size + 1) 69 ti0 _ 3 24 Tryz.underlying63 hi hz0 hz1 hz2 rfl (by decide) _ L (pre.flatMap trC) rfl (hon.alloc _) _ 1 _ (trC ⟨tn, sg, x :: l⟩) rfl (by have e := HS.out; subst e; exact rd_newT _ ⟨tn, sg, x :: l⟩ HZ.out (by simp)) (one1T _) (by unfold maxLen; omega) (by omega) (by simp; omega) ?_; intro v' w'' ho' hg' hv'; clear hi hz0 hz1 hz2)
          have hQ3 : RdQ w0 w'' (pre ++ [⟨tn, sg, x :: l⟩]) v' := ⟨(hQ.hB.alloc hQ.hB.size _).trans (below_app (by omega) (by simp; omega) (hon.alloc _) hg'), by have := hg'.size; simp at this; omega, RowTm.snoc (by rw [HL.out]; exact ho')⟩
          have hBn : Blk w'' w0.heap.size 69 #[.bool tn, .int .u8 sz, .string S] := (hBz.alloc_ _).grownR hg' (fun e => by have := hon.lt _ e; omega)
          rename_i K hK
          go_step3
          show K _ _
          refine hK _ _ ?_
          exact HC.out 1 _ _ _ (show 0 < N by have hn := HN.out; omega) (Or.inr (Or.inr (Or.inr (Or.inl ⟨rfl, J1.mk (pre := pre ++ [⟨tn, sg, x :: l⟩]) (v := v') ⟨hQ3, Lib.hid (by rw [← hF.out, comb_text_no hno (by simp)]; rfl)⟩⟩)))) _ (by kernel_rfl)
      · have hr2 : r.length + a.length + 1 + pre.length ≤ 200 := by have := hlen.out; simp at this; omega
        cases a with
        | nil =>
          have hcut := scut_at [] r ha (by simp; omega)
          rw [List.nil_append] at hcut ⊢
          rw [show bOf [] = ⟨#[]⟩ from rfl] at hcut
          clear ha
          go_wp2_with (go_at_call 70; refine (hcut _).mono ?_; rintro e' w4 ⟨rfl, hb⟩; clear hcut; (replace hQ := hQ.below hb); (have hBl4 := hBl.below hb hBl.lt); obtain ⟨c0, c1, c2⟩ := cell3 hBl4; have f2 := hBl4.free 2)
          go_step3
          exact (show ∃ m, m < N ∧ JJ w0 F 0 m _ _ from ⟨0, by omega, Or.inr (Or.inr (Or.inr (Or.inr ⟨rfl, J0.mk ⟨(hQ.box (set1_grown _ _ _ _)).hB, Lib.hid (by rw [← hF.out, List.nil_append, comb_text_e2]; rfl)⟩⟩)))⟩)
        | cons x l =>
          obtain ⟨S, hS⟩ : ∃ S, bOf (x :: l) = S := ⟨_, rfl⟩
          have hne : S.toList.isEmpty = false := by rw [← hS]; exact bOf_ne _ _
          have hcut := scut_at (x :: l) r ha (by simp at hr2 ⊢; omega)
          rw [hS] at hcut
          have HS := Lib.hid hS
          have HN := Lib.hid hn
          have HR := Lib.hid hr2
          clear hS hn hr2
          go_upto_region 15 with (go_at_call 70; refine (hcut _).mono ?_; rintro e' w4 ⟨rfl, hb⟩; clear hcut; replace hQ := hQ.below hb; (have hBl4 := hBl.below hb hBl.lt); obtain ⟨c0, c1, c2⟩ := cell3 hBl4; have f2 := hBl4.free 2)
          obtain ⟨wz, hwz⟩ : ∃ W : World, W = w4.setCell ⟨w0.heap.size, 2, none⟩ (.string S) := ⟨_, rfl⟩
          have hBz : Blk wz w0.heap.size 69 #[.bool tn, .int .u8 sz, .string S] := by rw [hwz]; have h := hBl4.set_ 2 (.string S); simpa using h
          replace hQ := hQ.box (set1_grown w4 w0.heap.size 2 (.string S))
          rw [← hwz] at hQ ⊢
          clear hwz c0 c1 c2 f2 hBl4 hb hBl
          obtain ⟨c0, c1, c2⟩ := cell3 hBz
          obtain ⟨L, hL⟩ : ∃ L, pre.length = L := ⟨_, rfl⟩
          have hon : wz.ownsRow (w0.heap.size + 1) 69 3 v L (pre.flatMap trC) := by rw [← hL]; exact hQ.row
          have hL2 : L ≤ 200 := by have := hlen.out; omega
          have hsz := hQ.sz
          have HL := Lib.hid hL
          clear hL
          go_wp2_with (at_builtin; obtain ⟨ti0, hi, hz0, hz1, hz2⟩ := info_parts infoTr; refine wpList_app _ rfl (.tmp 48) (.tmp 50) _ rfl (w0.heap.size + 1) 69 ti0 _ 3 24 Tryz.underlying63 hi hz0 hz1 hz2 rfl (by decide) _ L (pre.flatMap trC) rfl (hon.alloc _) _ 1 _ (trC ⟨tn, sg, x :: l⟩) rfl (by have e := HS.out; subst e; exact rd_newT _ ⟨tn, sg, x :: l⟩ HZ.out (by simp)) (one1T _) (by unfold maxLen; omega) (by omega) (by simp; omega) ?_; intro v' w'' ho' hg' hv'; clear hi hz0 hz1 hz2)
          have hQ3 : RdQ w0 w'' (pre ++ [⟨tn, sg, x :: l⟩]) v' := ⟨(hQ.hB.alloc hQ.hB.size _).trans (below_app (by omega) (by simp; omega) (hon.alloc _) hg'), by have := hg'.size; simp at this; omega, RowTm.snoc (by rw [HL.out]; exact ho')⟩
          have hBn : Blk w'' w0.heap.size 69 #[.bool tn, .int .u8 sz, .string S] := (hBz.alloc_ _).grownR hg' (fun e => by have := hon.lt _ e; omega)
          go_step3
          exact (show ∃ m, m < N ∧ JJ w0 F 2 m _ _ from ⟨3 * r.length + 3, by have hn := HN.out; simp at hn; omega, Or.inl ⟨rfl, J2.mk (pre := pre ++ [⟨tn, sg, x :: l⟩]) (rest := r) (v := v') ⟨hQ3, Lib.hid (by have hr2 := HR.out; simp at hr2 ⊢; omega), hBn, Lib.hid (by rw [← hF.out, comb_text_at ha (by simp), Option.map_map]; congr 1; funext z; simp), Nat.le_refl _⟩⟩⟩)
    · obtain ⟨pre, v, u, rfl, hQ, hF⟩ := hJ
      refine ⟨_, (by simp only [findLabel, Nat.reduceBEq, if_true, if_false, Bool.false_eq_true]; rfl), ?_⟩
      go_wp2_with fail
      refine jumpsQ_ret ?_
      go_ret2
      exact ⟨⟨v, true, rfl, fun ts e => ⟨rfl, by have h := hF.out.symm.trans e; cases h; exact hQ.row⟩, fun e => by have h := hF.out.symm.trans e; cases h⟩, hQ.hB⟩
    · obtain ⟨u, rfl, hB, hF⟩ := hJ
      refine ⟨_, (by simp only [findLabel, Nat.reduceBEq, if_true, if_false, Bool.false_eq_true]; rfl), ?_⟩
      go_wp2_with fail
      refine jumpsQ_ret ?_
      go_ret2
      refine ⟨⟨.slice none 0 0, false, rfl, fun ts e => ?_, fun e => rfl⟩, hB⟩
      have h := hF.out.symm.trans e
      cases h
  · intro hcut
    have HC := Lib.hid hcut
    clear hcut
    obtain ⟨S, hS⟩ : ∃ S, bOf q = S := ⟨_, rfl⟩
    have hsz : (S.size : Int) = (q.length : Int) := by rw [← hS, bOf_size]
    rw [hS]
    have HS := Lib.hid hS
    by_cases h1 : 200 < q.length
    · have l1 : (200 : Int) < (S.size : Int) := by omega
      have HQ := Lib.hid h1
      clear h1 hsz hS hq
      go_wp2_with fail
      go_step3
      exact (show ∃ m, JJ w0 F 0 m _ _ from ⟨0, Or.inr (Or.inr (Or.inr (Or.inr ⟨rfl, J0.mk ⟨(Below.refl _ w0).alloc (Nat.le_refl _) _, Lib.hid (by rw [← HF.out]; unfold readL; rw [if_pos HQ.out])⟩⟩)))⟩)
    · have l1 : ¬ (200 : Int) < (S.size : Int) := by omega
      have HQ := Lib.hid h1
      cases q with
      | nil =>
        subst hS
        rw [show bOf [] = ⟨#[]⟩ from rfl] at *
        clear h1 hsz hq
        go_wp2_with fail
        go_step3
        exact (show ∃ m, JJ w0 F 1 m _ _ from ⟨0, Or.inr (Or.inr (Or.inr (Or.inl ⟨rfl, J1.mk (pre := []) ⟨⟨(Below.refl _ w0).alloc (Nat.le_refl _) _, by simp, World.ownsRow_nil _ _ _ _⟩, Lib.hid (by rw [← HF.out]; rfl)⟩⟩)))⟩)
      | cons x l =>
        have hne : S.toList.isEmpty = false := by rw [← hS]; exact bOf_ne _ _
        clear h1 hsz hS hq
        go_wp2_with fail
        have hb : Below w0.heap.size w0 (w0.alloc (.cells #[.bool false, .int .u8 0, .string ⟨#[]⟩] 69)) := (Below.refl _ w0).alloc (Nat.le_refl _) _
        have hB2 := Blk.new_ w0 69 #[.bool false, .int .u8 0, .string ByteArray.empty]
        have e := HS.out
        subst e
        rename_i K hK
        go_step3
        show K _ _
        refine hK _ _ ?_
        exact HC.out 2 _ _ _ (Or.inl ⟨rfl, J2.mk (pre := []) (rest := x :: l) (v := .slice none 0 0) ⟨⟨hb, by simp, World.ownsRow_nil _ _ _ _⟩, Lib.hid (by have := HQ.out; simp at this ⊢; omega), hB2, Lib.hid (by rw [← HF.out]; unfold readL; rw [if_neg HQ.out]; simp), Nat.le_refl _⟩⟩) _ (by kernel_rfl)
end Go.Proofs.YteokeghenjobaaaGreatDoor
namespace Go.Proofs
open Go.Shelf
def Tryz.laysCF_ren : Go.Shelf.Ren := ⟨fun | 8 => 98 | 6 => 148 | n => n, fun | 22 => 38 | 23 => 9 | 25 => 43 | 4 => 4 | 3 => 3 | 0 => 0 | n => n, fun | n => n⟩
theorem Tryz.laysCF : Go.Proofs.SlLaysH.n8 Tryz.prog Tryz.laysCF_ren := {
  mixed := by kernel_rfl
  f6 := ⟨Tryz.f148.name, by decide, Tryz.func148.trans (congrArg some (by kernel_rfl))⟩
  f8 := ⟨Tryz.f98.name, by decide, Tryz.func98.trans (congrArg some (by kernel_rfl))⟩
  t0 := Tryz.underlying0
  a0 := Tryz.isAgg0
  z0 := Tryz.sizeOf0
  v0 := Tryz.zeroValue0
  t3 := Tryz.underlying3
  a3 := Tryz.isAgg3
  z3 := Tryz.sizeOf3
  v3 := Tryz.zeroValue3
  t4 := Tryz.underlying4
  a4 := Tryz.isAgg4
  z4 := Tryz.sizeOf4
  v4 := Tryz.zeroValue4
  t22 := Tryz.underlying38
  a22 := Tryz.isAgg38
  z22 := Tryz.sizeOf38
  v22 := Tryz.zeroValue38
  a23 := Tryz.isAgg9
  z23 := Tryz.sizeOf9
  t25 := Tryz.underlying43
  a25 := Tryz.isAgg43
  z25 := Tryz.sizeOf43
  v25 := Tryz.zeroValue43 }
def Tryz.laysCT_ren : Go.Shelf.Ren := ⟨fun | 8 => 37 | 6 => 73 | n => n, fun | 22 => 63 | 23 => 69 | 25 => 71 | 4 => 4 | 3 => 3 | 0 => 0 | n => n, fun | n => n⟩
def Tryz.keysA_ren : Go.Shelf.Ren := ⟨fun | 7 => 55 | 10 => 89 | n => n, fun | 23 => 86 | 26 => 9 | 3 => 3 | 28 => 89 | 0 => 0 | 27 => 88 | 33 => 43 | 4 => 4 | n => n, fun | n => n⟩
theorem Tryz.keysA : Go.Proofs.SlLaysZ.n7 Tryz.prog Tryz.keysA_ren := {
  mixed := by kernel_rfl
  f7 := ⟨Tryz.f55.name, by decide, Tryz.func55.trans (congrArg some (by kernel_rfl))⟩
  f10 := ⟨Tryz.f89.name, by decide, Tryz.func89.trans (congrArg some (by kernel_rfl))⟩
  t0 := Tryz.underlying0
  a0 := Tryz.isAgg0
  z0 := Tryz.sizeOf0
  v0 := Tryz.zeroValue0
  t4 := Tryz.underlying4
  a4 := Tryz.isAgg4
  z4 := Tryz.sizeOf4
  v4 := Tryz.zeroValue4
  t23 := Tryz.underlying86
  a23 := Tryz.isAgg86
  z23 := Tryz.sizeOf86
  v23 := Tryz.zeroValue86
  t26 := Tryz.underlying9
  a26 := Tryz.isAgg9
  z26 := Tryz.sizeOf9
  v26 := Tryz.zeroValue9
  t27 := Tryz.underlying88
  a27 := Tryz.isAgg88
  z27 := Tryz.sizeOf88
  v27 := Tryz.zeroValue88
  t28 := Tryz.underlying89
  a28 := Tryz.isAgg89
  z28 := Tryz.sizeOf89
  v28 := Tryz.zeroValue89
  t33 := Tryz.underlying43
  a33 := Tryz.isAgg43
  z33 := Tryz.sizeOf43
  v33 := Tryz.zeroValue43 }
def Tryz.sortedA_ren : Go.Shelf.Ren := ⟨fun | 6 => 54 | 8 => 88 | 9 => 57 | 11 => 127 | 13 => 76 | 12 => 91 | 23 => 108 | 24 => 109 | 14 => 131 | 15 => 132 | 16 => 133 | 17 => 134 | 18 => 135 | 19 => 136 | 20 => 137 | 21 => 138 | 22 => 139 | 25 => 159 | 26 => 150 | 27 => 151 | 28 => 160 | 29 => 161 | 30 => 162 | 31 => 174 | n => n, fun | 26 => 9 | 28 => 89 | 24 => 38 | 0 => 0 | 3 => 3 | 37 => 99 | 48 => 126 | 50 => 128 | 4 => 4 | 40 => 119 | 39 => 118 | 45 => 123 | 5 => 5 | 9 => 9 | 51 => 151 | 55 => 155 | 57 => 171 | 58 => 157 | 33 => 43 | n => n, fun | n => n⟩
theorem Tryz.sortedA : Go.Proofs.SlLaysZ.n6 Tryz.prog Tryz.sortedA_ren := {
  mixed := by kernel_rfl
  f6 := ⟨Tryz.f54.name, by decide, Tryz.func54.trans (congrArg some (by kernel_rfl))⟩
  f8 := ⟨Tryz.f88.name, by decide, Tryz.func88.trans (congrArg some (by kernel_rfl))⟩
  f11 := ⟨Tryz.f127.name, by decide, Tryz.func127.trans (congrArg some (by kernel_rfl))⟩
  t0 := Tryz.underlying0
  a0 := Tryz.isAgg0
  z0 := Tryz.sizeOf0
  v0 := Tryz.zeroValue0
  t24 := Tryz.underlying38
  a24 := Tryz.isAgg38
  z24 := Tryz.sizeOf38
  v24 := Tryz.zeroValue38
  t26 := Tryz.underlying9
  a26 := Tryz.isAgg9
  z26 := Tryz.sizeOf9
  v26 := Tryz.zeroValue9
  t28 := Tryz.underlying89
  a28 := Tryz.isAgg89
  z28 := Tryz.sizeOf89
  v28 := Tryz.zeroValue89
  i26 := by kernel_rfl }
def Tryz.sortA_ren : Go.Shelf.Ren := ⟨fun | 6 => 57 | 8 => 76 | 9 => 91 | 19 => 108 | 20 => 109 | 21 => 131 | 22 => 132 | 23 => 133 | 24 => 134 | 25 => 135 | 26 => 136 | 27 => 137 | 28 => 138 | 29 => 139 | 36 => 159 | 31 => 150 | 32 => 151 | 37 => 160 | 38 => 161 | 39 => 162 | 41 => 174 | n => n, fun | 27 => 38 | 29 => 9 | 3 => 3 | 32 => 99 | 26 => 38 | 0 => 0 | 44 => 126 | 46 => 128 | 4 => 4 | 36 => 119 | 35 => 118 | 41 => 123 | 5 => 5 | 9 => 9 | 53 => 151 | 57 => 155 | 63 => 171 | 64 => 157 | n => n, fun | n => n⟩
theorem Tryz.sortA : Go.Proofs.SlLaysM.n6 Tryz.prog Tryz.sortA_ren := {
  mixed := by kernel_rfl
  f6 := ⟨Tryz.f57.name, by decide, Tryz.func57.trans (congrArg some (by kernel_rfl))⟩
  f8 := Tryz.func76.trans (congrArg some (by kernel_rfl))
  f9 := ⟨Tryz.f91.name, by decide, Tryz.func91.trans (congrArg some (by kernel_rfl))⟩
  f19 := Tryz.func108.trans (congrArg some (by kernel_rfl))
  f20 := Tryz.func109.trans (congrArg some (by kernel_rfl))
  f21 := ⟨Tryz.f131.name, by decide, Tryz.func131.trans (congrArg some (by kernel_rfl))⟩
  f22 := ⟨Tryz.f132.name, by decide, Tryz.func132.trans (congrArg some (by kernel_rfl))⟩
  f23 := ⟨Tryz.f133.name, by decide, Tryz.func133.trans (congrArg some (by kernel_rfl))⟩
  f24 := ⟨Tryz.f134.name, by decide, Tryz.func134.trans (congrArg some (by kernel_rfl))⟩
  f25 := ⟨Tryz.f135.name, by decide, Tryz.func135.trans (congrArg some (by kernel_rfl))⟩
  f26 := ⟨Tryz.f136.name, by decide, Tryz.func136.trans (congrArg some (by kernel_rfl))⟩
  f27 := ⟨Tryz.f137.name, by decide, Tryz.func137.trans (congrArg some (by kernel_rfl))⟩
  f28 := ⟨Tryz.f138.name, by decide, Tryz.func138.trans (congrArg some (by kernel_rfl))⟩
  f29 := ⟨Tryz.f139.name, by decide, Tryz.func139.trans (congrArg some (by kernel_rfl))⟩
  f31 := Tryz.func150.trans (congrArg some (by kernel_rfl))
  f32 := Tryz.func151.trans (congrArg some (by kernel_rfl))
  f36 := ⟨Tryz.f159.name, by decide, Tryz.func159.trans (congrArg some (by kernel_rfl))⟩
  f37 := ⟨Tryz.f160.name, by decide, Tryz.func160.trans (congrArg some (by kernel_rfl))⟩
  f38 := ⟨Tryz.f161.name, by decide, Tryz.func161.trans (congrArg some (by kernel_rfl))⟩
  f39 := ⟨Tryz.f162.name, by decide, Tryz.func162.trans (congrArg some (by kernel_rfl))⟩
  f41 := ⟨Tryz.f174.name, by decide, Tryz.func174.trans (congrArg some (by kernel_rfl))⟩
  t0 := Tryz.underlying0
  a0 := Tryz.isAgg0
  z0 := Tryz.sizeOf0
  v0 := Tryz.zeroValue0
  t3 := Tryz.underlying3
  a3 := Tryz.isAgg3
  z3 := Tryz.sizeOf3
  v3 := Tryz.zeroValue3
  t4 := Tryz.underlying4
  a4 := Tryz.isAgg4
  z4 := Tryz.sizeOf4
  v4 := Tryz.zeroValue4
  t5 := Tryz.underlying5
  a5 := Tryz.isAgg5
  z5 := Tryz.sizeOf5
  v5 := Tryz.zeroValue5
  t9 := Tryz.underlying9
  a9 := Tryz.isAgg9
  z9 := Tryz.sizeOf9
  v9 := Tryz.zeroValue9
  t26 := Tryz.underlying38
  a26 := Tryz.isAgg38
  z26 := Tryz.sizeOf38
  v26 := Tryz.zeroValue38
  t27 := Tryz.underlying38
  a27 := Tryz.isAgg38
  z27 := Tryz.sizeOf38
  v27 := Tryz.zeroValue38
  t29 := Tryz.underlying9
  a29 := Tryz.isAgg9
  z29 := Tryz.sizeOf9
  v29 := Tryz.zeroValue9
  t32 := Tryz.underlying99
  a32 := Tryz.isAgg99
  z32 := Tryz.sizeOf99
  v32 := Tryz.zeroValue99
  t35 := Tryz.underlying118
  a35 := Tryz.isAgg118
  z35 := Tryz.sizeOf118
  v35 := Tryz.zeroValue118
  t36 := Tryz.underlying119
  a36 := Tryz.isAgg119
  z36 := Tryz.sizeOf119
  v36 := Tryz.zeroValue119
  t41 := Tryz.underlying123
  a41 := Tryz.isAgg123
  z41 := Tryz.sizeOf123
  v41 := Tryz.zeroValue123
  t44 := Tryz.underlying126
  a44 := Tryz.isAgg126
  z44 := Tryz.sizeOf126
  v44 := Tryz.zeroValue126
  t46 := Tryz.underlying128
  a46 := Tryz.isAgg128
  z46 := Tryz.sizeOf128
  v46 := Tryz.zeroValue128
  t53 := Tryz.underlying151
  a53 := Tryz.isAgg151
  z53 := Tryz.sizeOf151
  v53 := Tryz.zeroValue151
  t57 := Tryz.underlying155
  a57 := Tryz.isAgg155
  z57 := Tryz.sizeOf155
  v57 := Tryz.zeroValue155
  t63 := Tryz.underlying171
  a63 := Tryz.isAgg171
  z63 := Tryz.sizeOf171
  v63 := Tryz.zeroValue171
  t64 := Tryz.underlying157
  a64 := Tryz.isAgg157
  z64 := Tryz.sizeOf157
  v64 := Tryz.zeroValue157 }
end Go.Proofs
namespace Go.Proofs.YteokeghenjobaaaGreatDoor
open Go.ChangeShapes Go.WideShapes Go.ChangeAt Go.RowKit
attribute [local go_sem ↓] Go.wp_at_zero Go.wp_at_succ
attribute [local go_sem] Oper.semAt_some
def hasB (L : List ByteArray) (x : ByteArray) : Bool := Lib.containsS L x
theorem hasB_iff (L : List ByteArray) (x : ByteArray) : hasB L x = true ↔ x ∈ L := Lib.containsS_iff L x
theorem contains_any (A : Option Addr) (c : Nat) (L : List ByteArray) (x : ByteArray) (B : Nat) (w : World) (h : Sl w B A (L.map strV)) (hl : L.length ≤ 1000000) :
    Calls Tryz.prog 86 #[.slice A L.length c, .string x] w fun e' w' => e' = .returned (.bool (hasB L x)) ∧ w' = w := by
  rcases h with h | ⟨b, o, rfl, hb, hc⟩
  · have h0 : L = [] := by simpa using h
    subst h0
    have e0 : hasB [] x = false := by rw [Bool.eq_false_iff]; intro e; rw [hasB_iff] at e; simp at e
    rw [e0]
    exact Any.slices_Contains_string_empty Tryz.laysContains A c x w
  · have h := Any.slices_Contains_string Tryz.laysContains b o L.length c L x w (Nat.le_refl _) (by omega) (fun j hj => by
      have := hc j (strV (L.getD j ByteArray.empty)) (by rw [List.getElem?_map, List.getD_eq_getElem?_getD, List.getElem?_eq_getElem hj]; rfl)
      exact this)
    rw [List.take_of_length_le (Nat.le_refl _)] at h
    exact h
def preB (tx : List UInt8) (ws : List (List UInt8)) : Bool := ws.any fun x => Lib.hasPrefix x tx
theorem pred_99 (p0 : Nat) (tx : List UInt8) (w : World) (hlt : p0 < w.heap.size) (hc : w.cell? ⟨p0, 2, none⟩ = some (.string (bOf tx))) : PredAt Tryz.prog 99 #[.pointer (some ⟨p0, 0, none⟩)] encStr (fun x => Lib.hasPrefix x tx) w := by
  intro W x hb
  have hc2 := (hb.cell (p := ⟨p0, 2, none⟩) hlt).trans hc
  clear hc hb
  have hp := Any.strings_HasPrefix Tryz.laysPrefix ⟨x.toArray⟩ (bOf tx) W
  rw [show (⟨x.toArray⟩ : ByteArray).data.toList = x from by simp, bOf_l] at hp
  change Calls Tryz.prog 69 _ _ _ at hp
  show Calls Tryz.prog 99 #[encStr x, .pointer (some ⟨p0, 0, none⟩)] W _
  unfold encStr
  go_enter Tryz.func99, Tryz.ntmps99
  go_wp2_with (go_at_call 69; refine hp.mono ?_; rintro e' w' ⟨rfl, rfl⟩)
  go_ret
  exact ⟨rfl, 0, rfl⟩
theorem cf_any (p0 : Nat) (tx : List UInt8) (ws : List (List UInt8)) (v : Value) (base : Nat) (w : World) (hlt : p0 < w.heap.size) (hc : w.cell? ⟨p0, 2, none⟩ = some (.string (bOf tx))) (hr : w.ownsRow base 9 1 v ws.length (ws.map encStr)) (hl : ws.length ≤ 1000000) :
    Calls Tryz.prog 98 #[v, .func (.func 99) #[] #[.pointer (some ⟨p0, 0, none⟩)]] w fun e' w' => e' = .returned (.bool (preB tx ws)) ∧ Below w.heap.size w w' := by
  by_cases hv : v = .slice none 0 0
  · subst hv
    have h0 : ws = [] := by
      rcases hr.2 with ⟨_, h0⟩ | ⟨g, cap, cur, hv, _⟩
      · exact List.eq_nil_of_length_eq_zero h0
      · cases hv
    subst h0
    refine (AnyE.slices_ContainsFunc_empty Tryz.laysCF none 0 _ w).mono ?_
    rintro e' w' ⟨rfl, rfl⟩
    exact ⟨rfl, Below.refl _ _⟩
  · obtain ⟨g, cap, rfl, hbg, hglt, hnc, hcm, _, hH⟩ := Lib.holds_of_ownsRow hr hv
    have h := AnyE.slices_ContainsFunc Tryz.laysCF encStr (fun x => Lib.hasPrefix x tx) 99 #[.pointer (some ⟨p0, 0, none⟩)] (enters_of Tryz.func99 (by kernel_rfl) rfl) g 0 ws.length cap ws w (pred_99 p0 tx w hlt hc) (Nat.le_refl _) (by omega) (fun j hj => by
      have := (hH j (by simpa using hj)).1
      simpa using this)
    rw [List.take_of_length_le (Nat.le_refl _)] at h
    refine Calls.mono h ?_
    rintro e' w' ⟨rfl, q, rfl⟩
    exact ⟨rfl, below_drewN' (Below.refl _ w) q⟩
theorem toList_inj_ {a b : ByteArray} (h : a.toList = b.toList) : a = b := by
  rw [ByteArray.toList_eq, ByteArray.toList_eq] at h
  cases a
  cases b
  congr 1
  exact Array.toList_inj.1 h
theorem wordsL_le (q : List UInt8) (hq : q.length ≤ 100000) : (wordsL q).length ≤ 1000000 := by
  unfold wordsL
  have h1 := Lib.compact_length_le ((rawL q).mergeSort fun x y => decide (x ≤ y))
  rw [List.length_mergeSort] at h1
  have h2 := List.length_filter_le (fun x : List UInt8 => !x.isEmpty) (splitL q)
  have h3 := splitL_len q
  unfold rawL at h1 ⊢
  omega
theorem box_at (w : World) (a b c : Value) (t : TypeId) : (w.alloc (.cells #[a, b, c] t)).cell? ⟨w.heap.size, 2, none⟩ = some c := by
  rw [Joins.cell_of_block (heap_alloc_new w _)]
  rfl
def matB (t : Trm) (n : Nt) (bk : ByteArray) : Bool := if t.sg = 35 then hasB n.tg (bOf t.tx) else if t.sg = 47 then decide (bk = bOf t.tx) else preB t.tx (wordsL n.nm.toList)
def soB (t : Trm) (n : Nt) (bk : ByteArray) : Bool := matB t n bk != t.tn
theorem matches_any (t : Trm) (n : Nt) (e : List Value) (bk : ByteArray) (w : World) (hn : NtIn w w.heap.size n e) (hl : n.tg.length ≤ 1000000) (hs : n.nm.size ≤ 100000) :
    Calls Tryz.prog 74 #[.agg (trC t).toArray, .agg e.toArray, .string bk] w fun e' w' => e' = .returned (.bool (matB t n bk)) ∧ Below w.heap.size w w' := by
  obtain ⟨At, ct, As, cs, rfl, h1, h2, h3⟩ := hn
  obtain ⟨T, hT⟩ : ∃ T, n.tg.length = T := ⟨_, rfl⟩
  obtain ⟨U, hU⟩ : ∃ U, n.sh.length = U := ⟨_, rfl⟩
  have w1 : Below w.heap.size w ((w.alloc (.cells #[.bool t.tn, .int .u8 (t.sg.toNat : Int), .string (bOf t.tx)] 69)).alloc (.cells #[.int .i64 n.id, .int .i64 n.bk, .string n.nm, .slice At T ct, .slice As U cs] 54)) := ((Below.refl _ w).alloc (Nat.le_refl _) _).alloc (by simp) _
  have hcon := fun W (hb : Below w.heap.size w W) => contains_any At ct n.tg (bOf t.tx) w.heap.size W (h1.below hb) hl
  have ht : ((w.alloc (.cells #[.bool t.tn, .int .u8 (t.sg.toNat : Int), .string (bOf t.tx)] 69)).alloc (.cells #[.int .i64 n.id, .int .i64 n.bk, .string n.nm, .slice At T ct, .slice As U cs] 54)).cell? ⟨w.heap.size, 2, none⟩ = some (.string (bOf t.tx)) := (((Below.refl (w.heap.size + 1) (w.alloc (.cells #[.bool t.tn, .int .u8 (t.sg.toNat : Int), .string (bOf t.tx)] 69))).alloc (by simp) _).cell (p := ⟨w.heap.size, 2, none⟩) (by simp)).trans (box_at w _ _ _ _)
  have hnm : bOf n.nm.toList = n.nm := by
    apply ByteArray.ext
    apply Array.toList_inj.1
    rw [ByteArray.toList_eq]
    simp [bOf]
  have hw := words_any n.nm.toList (by rw [ByteArray.toList_eq]; simpa using hs)
  rw [hnm] at hw
  have HWL : Hid ((wordsL n.nm.toList).length ≤ 1000000) := Lib.hid (wordsL_le _ (by rw [ByteArray.toList_eq]; simpa using hs))
  rw [hT] at hcon ⊢
  rw [hU]
  have hM : matB t n bk = if t.sg = 35 then hasB n.tg (bOf t.tx) else if t.sg = 47 then decide (bk = bOf t.tx) else preB t.tx (wordsL n.nm.toList) := rfl
  obtain ⟨HT, hHT⟩ : ∃ B, hasB n.tg (bOf t.tx) = B := ⟨_, rfl⟩
  rw [hHT] at hcon hM
  obtain ⟨S, hS⟩ : ∃ S, bOf t.tx = S := ⟨_, rfl⟩
  have H1 := Lib.hid (And.intro hT (And.intro hU hs))
  clear hT hU hs h3 h2 h1 hHT hl
  have HS := Lib.hid hS
  rw [hS] at w1 hcon ht hM
  have e1 : (trC t) = [.bool t.tn, .int .u8 (t.sg.toNat : Int), .string S] := by rw [← hS]; rfl
  rw [e1, hM, show ntC n (.slice At T ct) (.slice As U cs) = [.int .i64 n.id, .int .i64 n.bk, .string n.nm, .slice At T ct, .slice As U cs] from rfl]
  clear e1 hM
  obtain ⟨Z, hZ⟩ : ∃ Z : Int, (t.sg.toNat : Int) = Z := ⟨_, rfl⟩
  rw [hZ] at w1 ht ⊢
  by_cases h1 : t.sg = 35
  · rw [if_pos h1]
    have hz : Z = 35 := by rw [← hZ, h1]; rfl
    subst hz
    clear hZ h1 ht hw
    go_enter Tryz.func74, Tryz.ntmps74
    go_wp2_with (go_at_call 86; refine (hcon _ w1).mono ?_; rintro e' w' ⟨rfl, rfl⟩)
    go_ret
    exact ⟨rfl, w1⟩
  · rw [if_neg h1]
    have i1 : ¬ Z = 35 := fun e => h1 (UInt8.toNat_inj.1 (by rw [show (35 : UInt8).toNat = 35 from rfl]; omega))
    by_cases h2 : t.sg = 47
    · rw [if_pos h2]
      have hz : Z = 47 := by rw [← hZ, h2]; rfl
      subst hz
      clear hZ h1 h2 hw ht hcon
      rcases (by cases hq : decide (bk = S) <;> simp : decide (bk = S) = true ∨ decide (bk = S) = false) with hd | hd
      · have hbe : bk = S := of_decide_eq_true hd
        rw [hd]
        subst hbe
        clear hd
        go_enter Tryz.func74, Tryz.ntmps74
        go_wp2_with fail
        go_ret
        exact ⟨by simp, w1⟩
      · have hbe : ¬ bk = S := of_decide_eq_false hd
        rw [hd]
        clear hd
        go_enter Tryz.func74, Tryz.ntmps74
        go_wp2_with fail
        go_ret
        exact ⟨by simp; exact fun e => hbe (toList_inj_ e), w1⟩
    · rw [if_neg h2]
      have i2 : ¬ Z = 47 := fun e => h2 (UInt8.toNat_inj.1 (by rw [show (47 : UInt8).toNat = 47 from rfl]; omega))
      clear hZ h1 h2 hcon
      go_enter Tryz.func74, Tryz.ntmps74
      go_wp2_with (first | (go_at_call 17; refine (hw _).mono ?_; rintro e' w3 ⟨v3, rfl, hr3, hb3⟩; clear hw) | (go_at_call 98; refine (cf_any w.heap.size t.tx _ _ _ _ (by have := hb3.size; simp at this; omega) ((hb3.cell (p := ⟨w.heap.size, 2, none⟩) (by simp; omega)).trans (by rw [HS.out]; exact ht)) hr3 HWL.out).mono ?_; rintro e' w4 ⟨rfl, hb4⟩))
      go_ret
      exact ⟨rfl, btr (btr w1 w1.size hb3) (Nat.le_trans w1.size hb3.size) hb4⟩
end Go.Proofs.YteokeghenjobaaaGreatDoor
namespace Go.Proofs.YteokeghenjobaaaGreatDoor
open Go.ChangeShapes Go.WideShapes Go.ChangeAt Go.RowKit
attribute [local go_sem ↓] Go.wp_at_zero Go.wp_at_succ
attribute [local go_sem] Oper.semAt_some
theorem cell5 {w : World} {g : Nat} {t : TypeId} {a b c d e : Value} (h : Blk w g t #[a, b, c, d, e]) : w.cell? ⟨g, 0, none⟩ = some a ∧ w.cell? ⟨g, 1, none⟩ = some b ∧ w.cell? ⟨g, 2, none⟩ = some c ∧ w.cell? ⟨g, 3, none⟩ = some d ∧ w.cell? ⟨g, 4, none⟩ = some e := by
  have h0 := h.cell_ 0
  have h1 := h.cell_ 1
  have h2 := h.cell_ 2
  have h3 := h.cell_ 3
  have h4 := h.cell_ 4
  simp at h0 h1 h2 h3 h4
  exact ⟨h0, h1, h2, h3, h4⟩
theorem so_keep {w w1 w3 : World} {tn : Bool} {sz : Int} {S : ByteArray} {nid nbk : Int} {nnm : ByteArray} {vt vs : Value} (h :  Below w.heap.size w w1 ∧ w.heap.size + 2 ≤ w1.heap.size ∧ w1.cell? ⟨w.heap.size, 0, none⟩ = some (.bool tn) ∧ w1.cell? ⟨w.heap.size, 1, none⟩ = some (.int .u8 sz) ∧ w1.cell? ⟨w.heap.size, 2, none⟩ = some (.string S) ∧ w1.cell? ⟨(w.heap.size + 1), 0, none⟩ = some (.int .i64 nid) ∧ w1.cell? ⟨(w.heap.size + 1), 1, none⟩ = some (.int .i64 nbk) ∧ w1.cell? ⟨(w.heap.size + 1), 2, none⟩ = some (.string nnm) ∧ w1.cell? ⟨(w.heap.size + 1), 3, none⟩ = some (vt) ∧ w1.cell? ⟨(w.heap.size + 1), 4, none⟩ = some (vs)) (hb : Below w1.heap.size w1 w3) :  Below w.heap.size w w3 ∧ w.heap.size + 2 ≤ w3.heap.size ∧ w3.cell? ⟨w.heap.size, 0, none⟩ = some (.bool tn) ∧ w3.cell? ⟨w.heap.size, 1, none⟩ = some (.int .u8 sz) ∧ w3.cell? ⟨w.heap.size, 2, none⟩ = some (.string S) ∧ w3.cell? ⟨(w.heap.size + 1), 0, none⟩ = some (.int .i64 nid) ∧ w3.cell? ⟨(w.heap.size + 1), 1, none⟩ = some (.int .i64 nbk) ∧ w3.cell? ⟨(w.heap.size + 1), 2, none⟩ = some (.string nnm) ∧ w3.cell? ⟨(w.heap.size + 1), 3, none⟩ = some (vt) ∧ w3.cell? ⟨(w.heap.size + 1), 4, none⟩ = some (vs) := by
  obtain ⟨h1, h2, c0, c1, c2, d0, d1, d2, d3, d4⟩ := h
  have a : w.heap.size < w1.heap.size := by omega
  have b : w.heap.size + 1 < w1.heap.size := by omega
  exact ⟨btr h1 h1.size hb, Nat.le_trans h2 hb.size, (hb.cell (p := ⟨_, _, none⟩) a).trans c0, (hb.cell (p := ⟨_, _, none⟩) a).trans c1, (hb.cell (p := ⟨_, _, none⟩) a).trans c2, (hb.cell (p := ⟨_, _, none⟩) b).trans d0, (hb.cell (p := ⟨_, _, none⟩) b).trans d1, (hb.cell (p := ⟨_, _, none⟩) b).trans d2, (hb.cell (p := ⟨_, _, none⟩) b).trans d3, (hb.cell (p := ⟨_, _, none⟩) b).trans d4⟩
theorem so_cells (tn B : Bool) (sz : Int) (S : ByteArray) (nid nbk : Int) (nnm : ByteArray) (vt vs : Value) (bk : ByteArray) (w : World)
    (hmat : ∀ W, Below w.heap.size w W → Calls Tryz.prog 74 #[.agg #[.bool tn, .int .u8 sz, .string S], .agg #[.int .i64 nid, .int .i64 nbk, .string nnm, vt, vs], .string bk] W fun e' w' => e' = .returned (.bool B) ∧ Below W.heap.size W w') (o1 : vt.oneCell' = true) (o2 : vs.oneCell' = true) :
    Calls Tryz.prog 39 #[.agg #[.bool tn, .int .u8 sz, .string S], .agg #[.int .i64 nid, .int .i64 nbk, .string nnm, vt, vs], .string bk] w fun e' w' => e' = .returned (.bool (B != tn)) ∧ Below w.heap.size w w' := by
  have HS0 : Hid ( Below w.heap.size w ((w.alloc (.cells #[.bool tn, .int .u8 sz, .string S] 69)).alloc (.cells #[.int .i64 nid, .int .i64 nbk, .string nnm, vt, vs] 54)) ∧ w.heap.size + 2 ≤ ((w.alloc (.cells #[.bool tn, .int .u8 sz, .string S] 69)).alloc (.cells #[.int .i64 nid, .int .i64 nbk, .string nnm, vt, vs] 54)).heap.size ∧ ((w.alloc (.cells #[.bool tn, .int .u8 sz, .string S] 69)).alloc (.cells #[.int .i64 nid, .int .i64 nbk, .string nnm, vt, vs] 54)).cell? ⟨w.heap.size, 0, none⟩ = some (.bool tn) ∧ ((w.alloc (.cells #[.bool tn, .int .u8 sz, .string S] 69)).alloc (.cells #[.int .i64 nid, .int .i64 nbk, .string nnm, vt, vs] 54)).cell? ⟨w.heap.size, 1, none⟩ = some (.int .u8 sz) ∧ ((w.alloc (.cells #[.bool tn, .int .u8 sz, .string S] 69)).alloc (.cells #[.int .i64 nid, .int .i64 nbk, .string nnm, vt, vs] 54)).cell? ⟨w.heap.size, 2, none⟩ = some (.string S) ∧ ((w.alloc (.cells #[.bool tn, .int .u8 sz, .string S] 69)).alloc (.cells #[.int .i64 nid, .int .i64 nbk, .string nnm, vt, vs] 54)).cell? ⟨(w.heap.size + 1), 0, none⟩ = some (.int .i64 nid) ∧ ((w.alloc (.cells #[.bool tn, .int .u8 sz, .string S] 69)).alloc (.cells #[.int .i64 nid, .int .i64 nbk, .string nnm, vt, vs] 54)).cell? ⟨(w.heap.size + 1), 1, none⟩ = some (.int .i64 nbk) ∧ ((w.alloc (.cells #[.bool tn, .int .u8 sz, .string S] 69)).alloc (.cells #[.int .i64 nid, .int .i64 nbk, .string nnm, vt, vs] 54)).cell? ⟨(w.heap.size + 1), 2, none⟩ = some (.string nnm) ∧ ((w.alloc (.cells #[.bool tn, .int .u8 sz, .string S] 69)).alloc (.cells #[.int .i64 nid, .int .i64 nbk, .string nnm, vt, vs] 54)).cell? ⟨(w.heap.size + 1), 3, none⟩ = some (vt) ∧ ((w.alloc (.cells #[.bool tn, .int .u8 sz, .string S] 69)).alloc (.cells #[.int .i64 nid, .int .i64 nbk, .string nnm, vt, vs] 54)).cell? ⟨(w.heap.size + 1), 4, none⟩ = some (vs)) := Lib.hid (by
    have hb1 := (Below.refl w.heap.size w).alloc (Nat.le_refl _) (.cells #[.bool tn, .int .u8 sz, .string S] 69)
    have hb2 := (Below.refl (w.heap.size + 1) (w.alloc (.cells #[.bool tn, .int .u8 sz, .string S] 69))).alloc (by simp) (.cells #[.int .i64 nid, .int .i64 nbk, .string nnm, vt, vs] 54)
    have B1 := Blk.new_ w 69 #[.bool tn, .int .u8 sz, .string S]
    have B2 := Blk.new_ (w.alloc (.cells #[.bool tn, .int .u8 sz, .string S] 69)) 54 #[.int .i64 nid, .int .i64 nbk, .string nnm, vt, vs]
    replace B1 := B1.below hb2 (by simp)
    obtain ⟨c0, c1, c2⟩ := cell3 B1
    rw [World.size_alloc] at B2
    obtain ⟨d0, d1, d2, d3, d4⟩ := cell5 B2
    exact ⟨hb1.trans (hb2.mono (by omega)), by simp, c0, c1, c2, d0, d1, d2, d3, d4⟩)
  go_enter Tryz.func39, Tryz.ntmps39
  go_upto_region 1 with fail
  refine wp_region_noPanic ?_
  refine wp_region_held_drew (S := (fun w' => Below w.heap.size w w' ∧ w.heap.size + 2 ≤ w'.heap.size ∧ w'.cell? ⟨w.heap.size, 0, none⟩ = some (.bool tn) ∧ w'.cell? ⟨w.heap.size, 1, none⟩ = some (.int .u8 sz) ∧ w'.cell? ⟨w.heap.size, 2, none⟩ = some (.string S) ∧ w'.cell? ⟨(w.heap.size + 1), 0, none⟩ = some (.int .i64 nid) ∧ w'.cell? ⟨(w.heap.size + 1), 1, none⟩ = some (.int .i64 nbk) ∧ w'.cell? ⟨(w.heap.size + 1), 2, none⟩ = some (.string nnm) ∧ w'.cell? ⟨(w.heap.size + 1), 3, none⟩ = some (vt) ∧ w'.cell? ⟨(w.heap.size + 1), 4, none⟩ = some (vs))) (by kernel_rfl) ?_ (fun hHeld => ?_)
  · (first | exact HS0.out | exact ⟨HS0.out.1.drew, HS0.out.2⟩ | exact ⟨hHeld.1.drew, hHeld.2⟩ | exact so_keep hHeld hb3 | assumption)
  refine tk 0 ?_; try simp only [Act.put, pz1, pz2, pz3]
  refine tk 1 ?_; try simp only [Act.put, pz1, pz2, pz3]
  refine tk 2 ?_; try simp only [Act.put, pz1, pz2, pz3]
  refine tk 4 ?_; try simp only [Act.put, pz1, pz2, pz3]
  refine tk 5 ?_; try simp only [Act.put, pz1, pz2, pz3]
  refine wpAnyH_ready (rs := [3]) (by kernel_rfl) (by simp) ?_
  refine AllReadyH.cons (o := ⟨some 10, .call { callee := .value (.func 74), args := #[.tmp 7, .tmp 8, .tmp 9], argTypes := #[69, 54, 9] }, 4, "seek.go:81", #[⟨0, .data⟩, ⟨1, .data⟩, ⟨2, .data⟩], none⟩) rfl (fun K hK => ?_) AllReadyH.nil
  go_simp
  (go_at_call 74; refine (hmat _ hHeld.1).mono ?_; rintro e' w3 ⟨rfl, hb3⟩)
  go_wp2_with fail
  refine hK.out _ _ ?_ (fun hNew => ?_)
  · (first | exact HS0.out | exact ⟨HS0.out.1.drew, HS0.out.2⟩ | exact ⟨hHeld.1.drew, hHeld.2⟩ | exact so_keep hHeld hb3 | assumption)
  clear hK K hHeld
  have hHeld := hNew
  clear hNew
  try simp only [Act.put, pz1, pz2, pz3]
  refine tk 6 ?_; try simp only [Act.put, pz1, pz2, pz3]
  refine tk 7 ?_; try simp only [Act.put, pz1, pz2, pz3]
  refine wpAnyH_done (by kernel_rfl) ?_ _
  refine NoPanic.normal ?_
  go_wp2_with fail
  go_ret
  exact ⟨rfl, hHeld.1⟩
theorem so_any (t : Trm) (n : Nt) (e : List Value) (bk : ByteArray) (w : World) (hn : NtIn w w.heap.size n e) (hl : n.tg.length ≤ 1000000) (hs : n.nm.size ≤ 100000) :
    Calls Tryz.prog 39 #[.agg (trC t).toArray, .agg e.toArray, .string bk] w fun e' w' => e' = .returned (.bool (soB t n bk)) ∧ Below w.heap.size w w' := by
  obtain ⟨At, ct, As, cs, rfl, h1, h2, h3⟩ := hn
  exact so_cells t.tn (matB t n bk) _ _ _ _ _ _ _ _ w (fun W hW => matches_any t n _ bk W (NtIn.mono (NtIn.below ⟨At, ct, As, cs, rfl, h1, h2, h3⟩ hW) hW.size) hl hs) rfl rfl
end Go.Proofs.YteokeghenjobaaaGreatDoor
namespace Go.Proofs.YteokeghenjobaaaGreatDoor
open Go.ChangeShapes Go.WideShapes Go.ChangeAt Go.RowKit
attribute [local go_sem ↓] Go.wp_at_zero Go.wp_at_succ
attribute [local go_sem] Oper.semAt_some
def cmpZ (x y : Int) : Int := if x < y then -1 else if y < x then 1 else 0
def orZ (a b : Int) : Int := if a = 0 then b else a
theorem cmpZ_neg (x y : Int) : cmpZ x y < 0 ↔ x < y := by
  unfold cmpZ
  split
  · simp [*]
  · split <;> simp <;> omega
theorem cmpZ_zero (x y : Int) : cmpZ x y = 0 ↔ x = y := by
  unfold cmpZ
  split
  · simp; omega
  · split <;> simp <;> omega
theorem swo_lex {α κ : Type} (cK : κ → κ → Int) (h0 : ∀ a b, cK a b = 0 ↔ a = b) (tr : ∀ a b c, cK a b < 0 → cK b c < 0 → cK a c < 0) (ntr : ∀ a b c, ¬ cK a b < 0 → ¬ cK b c < 0 → ¬ cK a c < 0)
    (tri : ∀ a b, ¬ cK a b < 0 → ¬ cK b a < 0 → a = b) (key : α → κ) (num : α → Int) : Sort.SWO (ltOf fun x y => orZ (cK (key x) (key y)) (cmpZ (num x) (num y))) := by
  have hlt : ∀ x y, orZ (cK (key x) (key y)) (cmpZ (num x) (num y)) < 0 ↔ cK (key x) (key y) < 0 ∨ (key x = key y ∧ num x < num y) := by
    intro x y
    unfold orZ
    by_cases h : cK (key x) (key y) = 0
    · rw [if_pos h, cmpZ_neg]
      constructor
      · exact fun e => Or.inr ⟨(h0 _ _).1 h, e⟩
      · rintro (e | ⟨_, e⟩)
        · omega
        · exact e
    · rw [if_neg h]
      constructor
      · exact fun e => Or.inl e
      · rintro (e | ⟨e, _⟩)
        · exact e
        · exact absurd ((h0 _ _).2 e) h
  have hself : ∀ k, ¬ cK k k < 0 := fun k e => by
    have := (h0 k k).2 rfl
    omega
  refine ⟨fun x => ?_, fun x y z h1 h2 => ?_, fun x y z h1 h2 => ?_⟩
  · refine decide_eq_false (fun e => ?_)
    rcases (hlt x x).1 e with e | ⟨_, e⟩
    · exact hself _ e
    · omega
  · have e1 := (hlt x y).1 (of_decide_eq_true h1)
    have e2 := (hlt y z).1 (of_decide_eq_true h2)
    refine decide_eq_true ((hlt x z).2 ?_)
    rcases e1 with e1 | ⟨k1, e1⟩
    · rcases e2 with e2 | ⟨k2, e2⟩
      · exact Or.inl (tr _ _ _ e1 e2)
      · exact Or.inl (by rw [← k2]; exact e1)
    · rcases e2 with e2 | ⟨k2, e2⟩
      · exact Or.inl (by rw [k1]; exact e2)
      · exact Or.inr ⟨k1.trans k2, by omega⟩
  · have e1 := fun e => of_decide_eq_false h1 ((hlt x y).2 e)
    have e2 := fun e => of_decide_eq_false h2 ((hlt y z).2 e)
    refine decide_eq_false (fun e => ?_)
    have n1 : ¬ cK (key x) (key y) < 0 := fun e => e1 (Or.inl e)
    have n2 : ¬ cK (key y) (key z) < 0 := fun e => e2 (Or.inl e)
    rcases (hlt x z).1 e with e | ⟨k, e⟩
    · exact ntr _ _ _ n1 n2 e
    · have hk : key x = key y := tri _ _ n1 (by rw [k]; exact n2)
      have hk2 : key y = key z := hk.symm.trans k
      have := e1
      by_cases hxy : num x < num y
      · exact e1 (Or.inr ⟨hk, hxy⟩)
      · exact e2 (Or.inr ⟨hk2, by omega⟩)
theorem cmpB_zero : ∀ a b : List UInt8, Lib.compareBytes a b = 0 → a = b
  | [], [], _ => rfl
  | [], _ :: _, h => by simp [Lib.compareBytes] at h
  | _ :: _, [], h => by simp [Lib.compareBytes] at h
  | x :: a, y :: b, h => by
    unfold Lib.compareBytes at h
    by_cases p1 : x < y
    · rw [if_pos p1] at h; exact absurd h (by decide)
    · rw [if_neg p1] at h
      by_cases p2 : y < x
      · rw [if_pos p2] at h; exact absurd h (by decide)
      · rw [if_neg p2] at h
        have : x = y := by
          apply UInt8.toNat_inj.1
          rw [UInt8.lt_iff_toNat_lt] at p1 p2
          omega
        rw [this, cmpB_zero a b h]
structure Kn where
  id : Int
  nm : ByteArray
  cm : Int
instance : Inhabited Kn := ⟨⟨0, ByteArray.empty, 0⟩⟩
def knC (k : Kn) : List Value := [.int .i64 k.id, .string k.nm, .int .i64 k.cm]
def cmpF (x y : It) : Int := orZ (Lib.compareBytes x.nm.data.toList y.nm.data.toList) (cmpZ x.id y.id)
def cmpK (x y : Kn) : Int := orZ (cmpZ y.cm x.cm) (cmpZ x.id y.id)
theorem swoF : Sort.SWO (ltOf cmpF) :=
  swo_lex Lib.compareBytes (fun a b => ⟨cmpB_zero a b, fun e => by rw [e]; exact cmpB_refl b⟩) cmpB_trans cmpB_ntrans cmp_tri (fun x : It => x.nm.data.toList) (fun x => x.id)
theorem swoK : Sort.SWO (ltOf cmpK) :=
  swo_lex (fun a b : Int => cmpZ b a) (fun a b => (cmpZ_zero b a).trans ⟨fun e => e.symm, fun e => e.symm⟩) (fun a b c h1 h2 => by rw [cmpZ_neg] at *; omega) (fun a b c h1 h2 => by rw [cmpZ_neg] at *; omega) (fun a b h1 h2 => by rw [cmpZ_neg] at *; omega) (fun x : Kn => x.cm) (fun x => x.id)
def GrD (w w' : World) : Prop := ∃ q os', w' = Sort.grow (w.drewN q) os'
theorem GrD.refl (w : World) : GrD w w := ⟨0, #[], by rw [Sort.grow_empty]; rfl⟩
theorem GrD.alloc {w w' : World} (h : GrD w w') (o : Obj) : GrD w (w'.alloc o) := by
  obtain ⟨q, os', rfl⟩ := h
  exact ⟨q, os' ++ #[o], by rw [Sort.alloc_eq_grow, Sort.grow_grow]⟩
theorem GrD.drew {w w' : World} (h : GrD w w') : GrD w w'.drew := by
  obtain ⟨q, os', rfl⟩ := h
  exact ⟨q + 1, os', by rw [Sort.drew_grow]; rfl⟩
theorem GrD.cell {w w' : World} (h : GrD w w') {a : Addr} {v : Value} (hl : a.block < w.heap.size) (hc : w.cell? a = some v) : w'.cell? a = some v := by
  obtain ⟨q, os', rfl⟩ := h
  rw [Sort.cell?_grow _ _ _ (by simpa using hl)]
  exact hc
theorem nan_any (x : Int) (w : World) : Calls Tryz.prog 78 #[.int .i64 x] w fun e' w' => e' = .returned (.bool false) ∧ w' = w := by
  go_enter Tryz.func78, Tryz.ntmps78
  go_wp2
  go_ret
  exact ⟨by simp, rfl⟩
theorem cmpi_any (x y : Int) (w : World) : Calls Tryz.prog 44 #[.int .i64 x, .int .i64 y] w fun e' w' => e' = .returned (.int .i64 (cmpZ x y)) ∧ w' = w := by
  have hn := fun z => nan_any z w
  by_cases h1 : x < y
  · have e : cmpZ x y = -1 := by unfold cmpZ; rw [if_pos h1]
    rw [e]
    go_enter Tryz.func44, Tryz.ntmps44
    go_wp2_with (go_at_call 78; refine (hn _).mono ?_; rintro e' w' ⟨rfl, rfl⟩)
    go_ret
    exact ⟨rfl, rfl⟩
  · by_cases h2 : y < x
    · have e : cmpZ x y = 1 := by unfold cmpZ; rw [if_neg h1, if_pos h2]
      rw [e]
      go_enter Tryz.func44, Tryz.ntmps44
      go_wp2_with (go_at_call 78; refine (hn _).mono ?_; rintro e' w' ⟨rfl, rfl⟩)
      go_ret
      exact ⟨rfl, rfl⟩
    · have e : cmpZ x y = 0 := by unfold cmpZ; rw [if_neg h1, if_neg h2]
      rw [e]
      go_enter Tryz.func44, Tryz.ntmps44
      go_wp2_with (go_at_call 78; refine (hn _).mono ?_; rintro e' w' ⟨rfl, rfl⟩)
      go_ret
      exact ⟨rfl, rfl⟩
theorem or_any (a b : Int) (g c : Nat) (w : World) (h0 : w.cell? ⟨g, 0, none⟩ = some (.int .i64 a)) (h1 : w.cell? ⟨g, 1, none⟩ = some (.int .i64 b)) : Calls Tryz.prog 42 #[.slice (some ⟨g, 0, none⟩) 2 c] w fun e' w' => e' = .returned (.int .i64 (orZ a b)) ∧ w' = w := by
  obtain ⟨R, hR⟩ : ∃ R, orZ a b = R := ⟨_, rfl⟩
  rw [hR]
  have HR := Lib.hid hR
  clear hR
  go_enter Tryz.func42, Tryz.ntmps42
  go_wp2
  go_loop [5, 8] (fun s5 s8 => ∃ k : Nat, k ≤ 2 ∧ s8 = .int .i64 (k : Int) ∧ (0 < k → a = 0) ∧ (1 < k → b = 0)) (fun _ s8 => 2 - (intOf s8).toNat)
  case atStart => exact ⟨0, by omega, rfl, fun h => absurd h (by omega), fun h => absurd h (by omega)⟩
  case round =>
    obtain ⟨k, hk, rfl, ha, hb⟩ := hrel
    rcases (show k = 0 ∨ k = 1 ∨ k = 2 by omega) with rfl | rfl | rfl
    · by_cases hz : a = 0
      · subst hz
        go_wp2
        go_round
        case rel => exact ⟨1, by omega, by go_num, fun _ => by first | trivial | rfl, fun h => absurd h (by omega)⟩
        case measure => simp [intOf]
      · have HZ := Lib.hid hz
        go_wp2
        go_ret
        exact ⟨by rw [← HR.out]; unfold orZ; rw [if_neg HZ.out]; rfl, rfl⟩
    · have ha0 := ha (by omega)
      by_cases hz : b = 0
      · subst hz
        go_wp2
        go_round
        case rel => exact ⟨2, by omega, by go_num, fun _ => ha0, fun _ => by first | trivial | rfl⟩
        case measure => simp [intOf]
      · have HZ := Lib.hid hz
        have HA := Lib.hid ha0
        go_wp2
        go_ret
        exact ⟨by rw [← HR.out]; unfold orZ; rw [if_pos HA.out]; rfl, rfl⟩
    · have ha0 := Lib.hid (ha (by omega))
      have hb0 := Lib.hid (hb (by omega))
      go_wp2
      go_ret
      exact ⟨by rw [← HR.out]; unfold orZ; rw [if_pos ha0.out, hb0.out]; rfl, rfl⟩
theorem two_at0 (W : World) (a b : Value) (t : TypeId) {g : Nat} (hg : g = W.heap.size) : (W.alloc (.cells #[a, b] t)).drew.cell? ⟨g, 0, none⟩ = some a := by
  subst hg
  show (W.alloc (.cells #[a, b] t)).cell? _ = _
  rw [Joins.cell_of_block (heap_alloc_new W _)]
  rfl
theorem two_at1 (W : World) (a b : Value) (t : TypeId) {g : Nat} (hg : g = W.heap.size) : (W.alloc (.cells #[a, b] t)).drew.cell? ⟨g, 1, none⟩ = some b := by
  subst hg
  show (W.alloc (.cells #[a, b] t)).cell? _ = _
  rw [Joins.cell_of_block (heap_alloc_new W _)]
  rfl
theorem cl_findal {w w1 : World} {xi yi : Int} {xn yn : ByteArray} (h : GrD w w1 ∧ w.heap.size + 2 ≤ w1.heap.size ∧ w1.cell? ⟨w.heap.size, 0, none⟩ = some (.int .i64 xi) ∧ w1.cell? ⟨w.heap.size, 1, none⟩ = some (.string xn) ∧ w1.cell? ⟨(w.heap.size + 1), 0, none⟩ = some (.int .i64 yi) ∧ w1.cell? ⟨(w.heap.size + 1), 1, none⟩ = some (.string yn)) (o : Obj) : GrD w (w1.alloc o) ∧ w.heap.size + 2 ≤ (w1.alloc o).heap.size ∧ (w1.alloc o).cell? ⟨w.heap.size, 0, none⟩ = some (.int .i64 xi) ∧ (w1.alloc o).cell? ⟨w.heap.size, 1, none⟩ = some (.string xn) ∧ (w1.alloc o).cell? ⟨(w.heap.size + 1), 0, none⟩ = some (.int .i64 yi) ∧ (w1.alloc o).cell? ⟨(w.heap.size + 1), 1, none⟩ = some (.string yn) := by
  obtain ⟨h1, h2, c0, c1, d0, d1⟩ := h
  have hb := (Below.refl w1.heap.size w1).alloc (Nat.le_refl _) o
  have a : w.heap.size < w1.heap.size := by omega
  have b : w.heap.size + 1 < w1.heap.size := by omega
  exact ⟨h1.alloc o, by simp; omega, (hb.cell (p := ⟨_, _, none⟩) a).trans c0, (hb.cell (p := ⟨_, _, none⟩) a).trans c1, (hb.cell (p := ⟨_, _, none⟩) b).trans d0, (hb.cell (p := ⟨_, _, none⟩) b).trans d1⟩
theorem cl_find (xi yi : Int) (xn yn : ByteArray) (w : World) : Calls Tryz.prog 41 #[.agg #[.int .i64 xi, .string xn], .agg #[.int .i64 yi, .string yn]] w fun e' w' => e' = .returned (.int .i64 (orZ (Lib.compareBytes xn.data.toList yn.data.toList) (cmpZ xi yi))) ∧ GrD w w' := by
  have HS0 : Hid (GrD w ((w.alloc (.cells #[.int .i64 xi, .string xn] 50)).alloc (.cells #[.int .i64 yi, .string yn] 50)) ∧ w.heap.size + 2 ≤ ((w.alloc (.cells #[.int .i64 xi, .string xn] 50)).alloc (.cells #[.int .i64 yi, .string yn] 50)).heap.size ∧ ((w.alloc (.cells #[.int .i64 xi, .string xn] 50)).alloc (.cells #[.int .i64 yi, .string yn] 50)).cell? ⟨w.heap.size, 0, none⟩ = some (.int .i64 xi) ∧ ((w.alloc (.cells #[.int .i64 xi, .string xn] 50)).alloc (.cells #[.int .i64 yi, .string yn] 50)).cell? ⟨w.heap.size, 1, none⟩ = some (.string xn) ∧ ((w.alloc (.cells #[.int .i64 xi, .string xn] 50)).alloc (.cells #[.int .i64 yi, .string yn] 50)).cell? ⟨(w.heap.size + 1), 0, none⟩ = some (.int .i64 yi) ∧ ((w.alloc (.cells #[.int .i64 xi, .string xn] 50)).alloc (.cells #[.int .i64 yi, .string yn] 50)).cell? ⟨(w.heap.size + 1), 1, none⟩ = some (.string yn)) := Lib.hid (by
    have hb2 := (Below.refl (w.heap.size + 1) (w.alloc (.cells #[.int .i64 xi, .string xn] 50))).alloc (by simp) (.cells #[.int .i64 yi, .string yn] 50)
    have B1 := Blk.new_ w 50 #[.int .i64 xi, .string xn]
    have B2 := Blk.new_ (w.alloc (.cells #[.int .i64 xi, .string xn] 50)) 50 #[.int .i64 yi, .string yn]
    replace B1 := B1.below hb2 (by simp)
    rw [World.size_alloc] at B2
    have c0 := B1.cell_ 0
    have c1 := B1.cell_ 1
    have d0 := B2.cell_ 0
    have d1 := B2.cell_ 1
    simp only [List.getElem?_toArray, List.getElem?_cons_zero, List.getElem?_cons_succ] at c0 c1 d0 d1
    exact ⟨((GrD.refl w).alloc _).alloc _, by simp, c0, c1, d0, d1⟩)
  go_enter Tryz.func41, Tryz.ntmps41
  go_upto_region 1 with fail
  refine wp_region_noPanic ?_
  refine wp_region_held_drew (S := (fun w' => GrD w w' ∧ w.heap.size + 2 ≤ w'.heap.size ∧ w'.cell? ⟨w.heap.size, 0, none⟩ = some (.int .i64 xi) ∧ w'.cell? ⟨w.heap.size, 1, none⟩ = some (.string xn) ∧ w'.cell? ⟨(w.heap.size + 1), 0, none⟩ = some (.int .i64 yi) ∧ w'.cell? ⟨(w.heap.size + 1), 1, none⟩ = some (.string yn))) (by kernel_rfl) ?_ (fun hHeld => ?_)
  · (first | exact HS0.out | exact ⟨HS0.out.1.drew, HS0.out.2⟩ | exact ⟨hHeld.1.drew, hHeld.2⟩ | exact cl_findal hHeld _ | assumption)
  refine tk 0 ?_; try simp only [Act.put, pz1, pz2, pz3]
  refine tk 1 ?_; try simp only [Act.put, pz1, pz2, pz3]
  refine tk 2 ?_; try simp only [Act.put, pz1, pz2, pz3]
  refine tk 3 ?_; try simp only [Act.put, pz1, pz2, pz3]
  refine tk 5 ?_; try simp only [Act.put, pz1, pz2, pz3]
  refine tk 6 ?_; try simp only [Act.put, pz1, pz2, pz3]
  refine tk 7 ?_; try simp only [Act.put, pz1, pz2, pz3]
  refine tk 8 ?_; try simp only [Act.put, pz1, pz2, pz3]
  refine wpAnyH_ready (rs := [4]) (by kernel_rfl) (by simp) ?_
  refine AllReadyH.cons (o := ⟨some 9, .call { callee := .value (.func 43), args := #[.tmp 6, .tmp 8], argTypes := #[9, 9] }, 3, "seek.go:130", #[⟨1, .data⟩, ⟨3, .data⟩], none⟩) rfl (fun K hK => ?_) AllReadyH.nil
  go_simp
  (first
      | (go_at_call 43; refine (cmpS_any xn yn _).mono ?_; rintro e' w3 ⟨rfl, rfl⟩)
      | (go_at_call 44; refine (cmpi_any _ _ _).mono ?_; rintro e' w3 ⟨rfl, rfl⟩)
      | (go_at_call 42; refine (or_any _ _ _ _ _ (two_at0 _ _ _ _ (by simp)) (two_at1 _ _ _ _ (by simp))).mono ?_; rintro e' w3 ⟨rfl, rfl⟩))
  go_wp2_with fail
  refine hK.out _ _ ?_ (fun hNew => ?_)
  · (first | exact HS0.out | exact ⟨HS0.out.1.drew, HS0.out.2⟩ | exact ⟨hHeld.1.drew, hHeld.2⟩ | exact cl_findal hHeld _ | assumption)
  clear hK K hHeld
  have hHeld := hNew
  clear hNew
  try simp only [Act.put, pz1, pz2, pz3]
  refine wpAnyH_ready (rs := [9]) (by kernel_rfl) (by simp) ?_
  refine AllReadyH.cons (o := ⟨some 14, .call { callee := .value (.func 44), args := #[.tmp 11, .tmp 13], argTypes := #[3, 3] }, 3, "seek.go:130", #[⟨6, .data⟩, ⟨8, .data⟩, ⟨4, .chain⟩], none⟩) rfl (fun K hK => ?_) AllReadyH.nil
  go_simp
  (first
      | (go_at_call 43; refine (cmpS_any xn yn _).mono ?_; rintro e' w3 ⟨rfl, rfl⟩)
      | (go_at_call 44; refine (cmpi_any _ _ _).mono ?_; rintro e' w3 ⟨rfl, rfl⟩)
      | (go_at_call 42; refine (or_any _ _ _ _ _ (two_at0 _ _ _ _ (by simp)) (two_at1 _ _ _ _ (by simp))).mono ?_; rintro e' w3 ⟨rfl, rfl⟩))
  go_wp2_with fail
  refine hK.out _ _ ?_ (fun hNew => ?_)
  · (first | exact HS0.out | exact ⟨HS0.out.1.drew, HS0.out.2⟩ | exact ⟨hHeld.1.drew, hHeld.2⟩ | exact cl_findal hHeld _ | assumption)
  clear hK K hHeld
  have hHeld := hNew
  clear hNew
  try simp only [Act.put, pz1, pz2, pz3]
  refine wpAnyH_ready (rs := [10]) (by kernel_rfl) (by simp) ?_
  refine AllReadyH.cons (o := ⟨some 15, .buildSlice 52 2 #[(0, .tmp 9), (1, .tmp 14)], 52, "seek.go:130", #[⟨4, .data⟩, ⟨9, .data⟩], none⟩) rfl (fun K hK => ?_) AllReadyH.nil
  go_simp
  skip
  refine hK.out _ _ ?_ (fun hNew => ?_)
  · (first | exact HS0.out | exact ⟨HS0.out.1.drew, HS0.out.2⟩ | exact ⟨hHeld.1.drew, hHeld.2⟩ | exact cl_findal hHeld _ | assumption)
  clear hK K hHeld
  have hHeld := hNew
  clear hNew
  try simp only [Act.put, pz1, pz2, pz3]
  refine wpAnyH_ready (rs := [11]) (by kernel_rfl) (by simp) ?_
  refine AllReadyH.cons (o := ⟨some 16, .call { callee := .value (.func 42), args := #[.tmp 15], argTypes := #[52] }, 3, "seek.go:130", #[⟨10, .data⟩, ⟨9, .chain⟩], none⟩) rfl (fun K hK => ?_) AllReadyH.nil
  go_simp
  (first
      | (go_at_call 43; refine (cmpS_any xn yn _).mono ?_; rintro e' w3 ⟨rfl, rfl⟩)
      | (go_at_call 44; refine (cmpi_any _ _ _).mono ?_; rintro e' w3 ⟨rfl, rfl⟩)
      | (go_at_call 42; refine (or_any _ _ _ _ _ (two_at0 _ _ _ _ (by simp)) (two_at1 _ _ _ _ (by simp))).mono ?_; rintro e' w3 ⟨rfl, rfl⟩))
  go_wp2_with fail
  refine hK.out _ _ ?_ (fun hNew => ?_)
  · (first | exact HS0.out | exact ⟨HS0.out.1.drew, HS0.out.2⟩ | exact ⟨hHeld.1.drew, hHeld.2⟩ | exact cl_findal hHeld _ | assumption)
  clear hK K hHeld
  have hHeld := hNew
  clear hNew
  try simp only [Act.put, pz1, pz2, pz3]
  refine tk 12 ?_; try simp only [Act.put, pz1, pz2, pz3]
  refine wpAnyH_done (by kernel_rfl) ?_ _
  refine NoPanic.normal ?_
  go_wp2_with fail
  go_ret
  exact ⟨rfl, hHeld.1⟩
theorem cl_kinal {w w1 : World} {xi yi xc yc : Int} {xn yn : ByteArray} (h : GrD w w1 ∧ w.heap.size + 2 ≤ w1.heap.size ∧ w1.cell? ⟨w.heap.size, 0, none⟩ = some (.int .i64 xi) ∧ w1.cell? ⟨w.heap.size, 1, none⟩ = some (.string xn) ∧ w1.cell? ⟨w.heap.size, 2, none⟩ = some (.int .i64 xc) ∧ w1.cell? ⟨(w.heap.size + 1), 0, none⟩ = some (.int .i64 yi) ∧ w1.cell? ⟨(w.heap.size + 1), 1, none⟩ = some (.string yn) ∧ w1.cell? ⟨(w.heap.size + 1), 2, none⟩ = some (.int .i64 yc)) (o : Obj) : GrD w (w1.alloc o) ∧ w.heap.size + 2 ≤ (w1.alloc o).heap.size ∧ (w1.alloc o).cell? ⟨w.heap.size, 0, none⟩ = some (.int .i64 xi) ∧ (w1.alloc o).cell? ⟨w.heap.size, 1, none⟩ = some (.string xn) ∧ (w1.alloc o).cell? ⟨w.heap.size, 2, none⟩ = some (.int .i64 xc) ∧ (w1.alloc o).cell? ⟨(w.heap.size + 1), 0, none⟩ = some (.int .i64 yi) ∧ (w1.alloc o).cell? ⟨(w.heap.size + 1), 1, none⟩ = some (.string yn) ∧ (w1.alloc o).cell? ⟨(w.heap.size + 1), 2, none⟩ = some (.int .i64 yc) := by
  obtain ⟨h1, h2, c0, c1, c2, d0, d1, d2⟩ := h
  have hb := (Below.refl w1.heap.size w1).alloc (Nat.le_refl _) o
  have a : w.heap.size < w1.heap.size := by omega
  have b : w.heap.size + 1 < w1.heap.size := by omega
  exact ⟨h1.alloc o, by simp; omega, (hb.cell (p := ⟨_, _, none⟩) a).trans c0, (hb.cell (p := ⟨_, _, none⟩) a).trans c1, (hb.cell (p := ⟨_, _, none⟩) a).trans c2, (hb.cell (p := ⟨_, _, none⟩) b).trans d0, (hb.cell (p := ⟨_, _, none⟩) b).trans d1, (hb.cell (p := ⟨_, _, none⟩) b).trans d2⟩
theorem cl_kin (xi yi xc yc : Int) (xn yn : ByteArray) (w : World) : Calls Tryz.prog 51 #[.agg #[.int .i64 xi, .string xn, .int .i64 xc], .agg #[.int .i64 yi, .string yn, .int .i64 yc]] w fun e' w' => e' = .returned (.int .i64 (orZ (cmpZ yc xc) (cmpZ xi yi))) ∧ GrD w w' := by
  have HS0 : Hid (GrD w ((w.alloc (.cells #[.int .i64 xi, .string xn, .int .i64 xc] 82)).alloc (.cells #[.int .i64 yi, .string yn, .int .i64 yc] 82)) ∧ w.heap.size + 2 ≤ ((w.alloc (.cells #[.int .i64 xi, .string xn, .int .i64 xc] 82)).alloc (.cells #[.int .i64 yi, .string yn, .int .i64 yc] 82)).heap.size ∧ ((w.alloc (.cells #[.int .i64 xi, .string xn, .int .i64 xc] 82)).alloc (.cells #[.int .i64 yi, .string yn, .int .i64 yc] 82)).cell? ⟨w.heap.size, 0, none⟩ = some (.int .i64 xi) ∧ ((w.alloc (.cells #[.int .i64 xi, .string xn, .int .i64 xc] 82)).alloc (.cells #[.int .i64 yi, .string yn, .int .i64 yc] 82)).cell? ⟨w.heap.size, 1, none⟩ = some (.string xn) ∧ ((w.alloc (.cells #[.int .i64 xi, .string xn, .int .i64 xc] 82)).alloc (.cells #[.int .i64 yi, .string yn, .int .i64 yc] 82)).cell? ⟨w.heap.size, 2, none⟩ = some (.int .i64 xc) ∧ ((w.alloc (.cells #[.int .i64 xi, .string xn, .int .i64 xc] 82)).alloc (.cells #[.int .i64 yi, .string yn, .int .i64 yc] 82)).cell? ⟨(w.heap.size + 1), 0, none⟩ = some (.int .i64 yi) ∧ ((w.alloc (.cells #[.int .i64 xi, .string xn, .int .i64 xc] 82)).alloc (.cells #[.int .i64 yi, .string yn, .int .i64 yc] 82)).cell? ⟨(w.heap.size + 1), 1, none⟩ = some (.string yn) ∧ ((w.alloc (.cells #[.int .i64 xi, .string xn, .int .i64 xc] 82)).alloc (.cells #[.int .i64 yi, .string yn, .int .i64 yc] 82)).cell? ⟨(w.heap.size + 1), 2, none⟩ = some (.int .i64 yc)) := Lib.hid (by
    have hb2 := (Below.refl (w.heap.size + 1) (w.alloc (.cells #[.int .i64 xi, .string xn, .int .i64 xc] 82))).alloc (by simp) (.cells #[.int .i64 yi, .string yn, .int .i64 yc] 82)
    have B1 := Blk.new_ w 82 #[.int .i64 xi, .string xn, .int .i64 xc]
    have B2 := Blk.new_ (w.alloc (.cells #[.int .i64 xi, .string xn, .int .i64 xc] 82)) 82 #[.int .i64 yi, .string yn, .int .i64 yc]
    replace B1 := B1.below hb2 (by simp)
    rw [World.size_alloc] at B2
    have c0 := B1.cell_ 0
    have c1 := B1.cell_ 1
    have c2 := B1.cell_ 2
    have d0 := B2.cell_ 0
    have d1 := B2.cell_ 1
    have d2 := B2.cell_ 2
    simp only [List.getElem?_toArray, List.getElem?_cons_zero, List.getElem?_cons_succ] at c0 c1 c2 d0 d1 d2
    exact ⟨((GrD.refl w).alloc _).alloc _, by simp, c0, c1, c2, d0, d1, d2⟩)
  go_enter Tryz.func51, Tryz.ntmps51
  go_upto_region 1 with fail
  refine wp_region_noPanic ?_
  refine wp_region_held_drew (S := (fun w' => GrD w w' ∧ w.heap.size + 2 ≤ w'.heap.size ∧ w'.cell? ⟨w.heap.size, 0, none⟩ = some (.int .i64 xi) ∧ w'.cell? ⟨w.heap.size, 1, none⟩ = some (.string xn) ∧ w'.cell? ⟨w.heap.size, 2, none⟩ = some (.int .i64 xc) ∧ w'.cell? ⟨(w.heap.size + 1), 0, none⟩ = some (.int .i64 yi) ∧ w'.cell? ⟨(w.heap.size + 1), 1, none⟩ = some (.string yn) ∧ w'.cell? ⟨(w.heap.size + 1), 2, none⟩ = some (.int .i64 yc))) (by kernel_rfl) ?_ (fun hHeld => ?_)
  · (first | exact HS0.out | exact ⟨HS0.out.1.drew, HS0.out.2⟩ | exact ⟨hHeld.1.drew, hHeld.2⟩ | exact cl_kinal hHeld _ | assumption)
  refine tk 0 ?_; try simp only [Act.put, pz1, pz2, pz3]
  refine tk 1 ?_; try simp only [Act.put, pz1, pz2, pz3]
  refine tk 2 ?_; try simp only [Act.put, pz1, pz2, pz3]
  refine tk 3 ?_; try simp only [Act.put, pz1, pz2, pz3]
  refine tk 5 ?_; try simp only [Act.put, pz1, pz2, pz3]
  refine tk 6 ?_; try simp only [Act.put, pz1, pz2, pz3]
  refine tk 7 ?_; try simp only [Act.put, pz1, pz2, pz3]
  refine tk 8 ?_; try simp only [Act.put, pz1, pz2, pz3]
  refine tk 9 ?_; try simp only [Act.put, pz1, pz2, pz3]
  refine tk 10 ?_; try simp only [Act.put, pz1, pz2, pz3]
  refine wpAnyH_ready (rs := [4]) (by kernel_rfl) (by simp) ?_
  refine AllReadyH.cons (o := ⟨some 9, .call { callee := .value (.func 44), args := #[.tmp 6, .tmp 8], argTypes := #[3, 3] }, 3, "seek.go:175", #[⟨1, .data⟩, ⟨3, .data⟩], none⟩) rfl (fun K hK => ?_) AllReadyH.nil
  go_simp
  (first
      | (go_at_call 44; refine (cmpi_any _ _ _).mono ?_; rintro e' w3 ⟨rfl, rfl⟩)
      | (go_at_call 42; refine (or_any _ _ _ _ _ (two_at0 _ _ _ _ (by simp)) (two_at1 _ _ _ _ (by simp))).mono ?_; rintro e' w3 ⟨rfl, rfl⟩))
  go_wp2_with fail
  refine hK.out _ _ ?_ (fun hNew => ?_)
  · (first | exact HS0.out | exact ⟨HS0.out.1.drew, HS0.out.2⟩ | exact ⟨hHeld.1.drew, hHeld.2⟩ | exact cl_kinal hHeld _ | assumption)
  clear hK K hHeld
  have hHeld := hNew
  clear hNew
  try simp only [Act.put, pz1, pz2, pz3]
  refine wpAnyH_ready (rs := [11]) (by kernel_rfl) (by simp) ?_
  refine AllReadyH.cons (o := ⟨some 16, .call { callee := .value (.func 44), args := #[.tmp 12, .tmp 15], argTypes := #[3, 3] }, 3, "seek.go:175", #[⟨7, .data⟩, ⟨10, .data⟩, ⟨4, .chain⟩], none⟩) rfl (fun K hK => ?_) AllReadyH.nil
  go_simp
  (first
      | (go_at_call 44; refine (cmpi_any _ _ _).mono ?_; rintro e' w3 ⟨rfl, rfl⟩)
      | (go_at_call 42; refine (or_any _ _ _ _ _ (two_at0 _ _ _ _ (by simp)) (two_at1 _ _ _ _ (by simp))).mono ?_; rintro e' w3 ⟨rfl, rfl⟩))
  go_wp2_with fail
  refine hK.out _ _ ?_ (fun hNew => ?_)
  · (first | exact HS0.out | exact ⟨HS0.out.1.drew, HS0.out.2⟩ | exact ⟨hHeld.1.drew, hHeld.2⟩ | exact cl_kinal hHeld _ | assumption)
  clear hK K hHeld
  have hHeld := hNew
  clear hNew
  try simp only [Act.put, pz1, pz2, pz3]
  refine wpAnyH_ready (rs := [12]) (by kernel_rfl) (by simp) ?_
  refine AllReadyH.cons (o := ⟨some 17, .buildSlice 52 2 #[(0, .tmp 9), (1, .tmp 16)], 52, "seek.go:175", #[⟨4, .data⟩, ⟨11, .data⟩], none⟩) rfl (fun K hK => ?_) AllReadyH.nil
  go_simp
  skip
  refine hK.out _ _ ?_ (fun hNew => ?_)
  · (first | exact HS0.out | exact ⟨HS0.out.1.drew, HS0.out.2⟩ | exact ⟨hHeld.1.drew, hHeld.2⟩ | exact cl_kinal hHeld _ | assumption)
  clear hK K hHeld
  have hHeld := hNew
  clear hNew
  try simp only [Act.put, pz1, pz2, pz3]
  refine wpAnyH_ready (rs := [13]) (by kernel_rfl) (by simp) ?_
  refine AllReadyH.cons (o := ⟨some 18, .call { callee := .value (.func 42), args := #[.tmp 17], argTypes := #[52] }, 3, "seek.go:175", #[⟨12, .data⟩, ⟨11, .chain⟩], none⟩) rfl (fun K hK => ?_) AllReadyH.nil
  go_simp
  (first
      | (go_at_call 44; refine (cmpi_any _ _ _).mono ?_; rintro e' w3 ⟨rfl, rfl⟩)
      | (go_at_call 42; refine (or_any _ _ _ _ _ (two_at0 _ _ _ _ (by simp)) (two_at1 _ _ _ _ (by simp))).mono ?_; rintro e' w3 ⟨rfl, rfl⟩))
  go_wp2_with fail
  refine hK.out _ _ ?_ (fun hNew => ?_)
  · (first | exact HS0.out | exact ⟨HS0.out.1.drew, HS0.out.2⟩ | exact ⟨hHeld.1.drew, hHeld.2⟩ | exact cl_kinal hHeld _ | assumption)
  clear hK K hHeld
  have hHeld := hNew
  clear hNew
  try simp only [Act.put, pz1, pz2, pz3]
  refine tk 14 ?_; try simp only [Act.put, pz1, pz2, pz3]
  refine wpAnyH_done (by kernel_rfl) ?_ _
  refine NoPanic.normal ?_
  go_wp2_with fail
  go_ret
  exact ⟨rfl, hHeld.1⟩
end Go.Proofs.YteokeghenjobaaaGreatDoor
namespace Go.Proofs.YteokeghenjobaaaGreatDoor
open Go.ChangeShapes Go.WideShapes Go.ChangeAt Go.RowKit
attribute [local go_sem ↓] Go.wp_at_zero Go.wp_at_succ
attribute [local go_sem] Oper.semAt_some
def KeepO (w w' : World) : Prop := ∀ (g : Nat) (cs : Array Value) (t : TypeId) (fr : Nat × Nat), w.heap[g]? = some (.cells cs t fr) → ∃ cs' : Array Value, w'.heap[g]? = some (.cells cs' t fr) ∧ cs'.size = cs.size
theorem own_keepO {w w' : World} {base C n : Nat} {e : TypeId} {v : Value} {xs : List Value} (h : w.ownsRow base e C v n xs) (hk : KeepO w w') : ∃ ys, w'.ownsRow base e C v n ys := by
  rcases h.2 with ⟨h1, h2⟩ | ⟨g, cap, cur, h1, h2, h3, h4, h5, h6, h7⟩
  · exact ⟨xs, h.1, Or.inl ⟨h1, h2⟩⟩
  · obtain ⟨c2, h8, h9⟩ := hk g cur e (0, 0) h3
    refine ⟨c2.toList.take (n * C), ?_, Or.inr ⟨g, cap, c2, h1, h2, h8, h4, h5, h9.trans h6, rfl⟩⟩
    rw [List.length_take, Array.length_toList, h9, h6]
    exact Nat.min_eq_left (Nat.mul_le_mul_right _ h4)
theorem KeepO.map_ (w : World) (blk : Nat) (f : Array Value → Array Value) (hf : ∀ c, (f c).size = c.size) : KeepO w (Sort.mapBlock w blk f) := by
  intro k c2 t2 fr2 hk
  unfold Sort.mapBlock
  rw [Array.getElem?_modify, hk]
  by_cases h : blk = k
  · rw [if_pos h]
    exact ⟨f c2, rfl, hf c2⟩
  · rw [if_neg h]
    exact ⟨c2, rfl, rfl⟩
theorem KeepO.trans {a b c : World} (h : KeepO a b) (k : KeepO b c) : KeepO a c := by
  intro g cs t fr hg
  obtain ⟨c1, h1, h2⟩ := h g cs t fr hg
  obtain ⟨c2, h3, h4⟩ := k g c1 t fr h1
  exact ⟨c2, h3, h4.trans h2⟩
theorem KeepO.grow_ (w : World) (os : Array Obj) : KeepO w (Sort.grow w os) := by
  intro k c2 t2 fr2 hk
  have hlt : k < w.heap.size := (Array.getElem?_eq_some_iff.1 hk).1
  refine ⟨c2, ?_, rfl⟩
  show (w.heap ++ os)[k]? = _
  rw [Array.getElem?_append_left hlt]
  exact hk
theorem KeepO.sort_ {α : Type} [Inhabited α] (enc : α → List Value) (k : Nat) (w : World) (blk off m : Nat) (dk : Array α) (os : Array Obj) : KeepO w (Go.Proofs.sortWorldK enc k w blk off m dk os) := by
  have h1 : KeepO w (Sort.ahead w m) := fun g cs t fr h => ⟨cs, h, rfl⟩
  exact (h1.trans (KeepO.map_ _ _ _ (fun c => by simp [Sort.putCells]))).trans (KeepO.grow_ _ _)
theorem own_flat {w : World} {base C n c B : Nat} {t : TypeId} {A : Option Addr} {xs : List Value} {L : List (List Value)} (h : w.ownsRow base t C (.slice A n c) n xs) (hs : SlE C w B A L) (hl : L.length = n) (hC : ∀ e ∈ L, e.length = C) (h0 : 0 < C) : xs = L.flatten := by
  rcases hs with rfl | ⟨b, o, rfl, hb, hc⟩
  · simp at hl
    subst hl
    have := h.1
    simp at this
    simpa using this
  · rcases h.2 with ⟨hv, hn⟩ | ⟨g, cap, cur, hv, _, hh, hnc, _, hsz, ht⟩
    · cases hv
    · injection hv with hv1 _ _
      injection hv1 with hv1
      injection hv1 with hb1 ho1
      subst hb1
      subst ho1
      have hcells := h.cells (g := b) rfl
      apply List.ext_getElem?
      intro i
      by_cases hi : i < n * C
      · have hk : i / C < n := Nat.div_lt_of_lt_mul (by rw [Nat.mul_comm]; exact hi)
        have hj : i % C < C := Nat.mod_lt _ h0
        have hij : i / C * C + i % C = i := by rw [Nat.mul_comm]; exact Nat.div_add_mod i C
        have hx : L[i / C]? = some L[i / C] := List.getElem?_eq_getElem (by omega)
        have h1 := flat_at L hC (i / C) _ hx (i % C) hj
        rw [hij] at h1
        have hlt : i % C < (L[i / C]).length := by rw [hC _ (List.getElem_mem _)]; exact hj
        have h2 := hc (i / C) _ hx (i % C) _ (List.getElem?_eq_getElem hlt)
        have hxi : i < xs.length := by rw [h.1]; exact hi
        have h3 := hcells i _ (List.getElem?_eq_getElem hxi)
        rw [h1, List.getElem?_eq_getElem hxi, List.getElem?_eq_getElem hlt]
        rw [Nat.zero_add, hij] at h2
        rw [Addr.add_lit] at h3
        rw [Nat.zero_add] at h3
        rw [h2] at h3
        exact h3.symm
      · rw [List.getElem?_eq_none (by rw [h.1]; omega), List.getElem?_eq_none (by rw [flat_lenE L hC, hl]; omega)]
def OrdF (l : List It) : Prop := l.Pairwise fun a b => cmpF b a < 0 → False
theorem enterF : ∀ args w, (callFunc 41 args).run Tryz.prog w = .ok (.enter 41 args) w := enters_of Tryz.func41 (by kernel_rfl) rfl
theorem itC_one2 : ∀ x, ∀ v ∈ itC x, v.oneCell' = true := by
  intro x v hv
  simp [itC] at hv
  rcases hv with rfl | rfl <;> rfl
theorem cmpLaysF (blk off size : Nat) (w : World) : CmpLays Tryz.prog 41 #[] itC 2 cmpF blk off size w := fun _ _ _ _ x y => cl_find x.id y.id x.nm y.nm _
theorem sorted_ofF {d : Array It} (h : Sort.SortedIn (ltOf cmpF) 0 d.size d) : OrdF d.toList := by
  rw [OrdF, List.pairwise_iff_getElem]
  intro i j hi hj hij hlt
  simp only [Array.length_toList] at hi hj
  have := h i j (Nat.zero_le _) hij hj
  rw [getElem!_pos d i hi, getElem!_pos d j hj] at this
  have h2 := of_decide_eq_false this
  simp only [Array.getElem_toList] at hlt
  exact h2 hlt
theorem sl_of_holdsF {w : World} {g off : Nat} {d : Array It} (h : Sort.HoldsK itC 2 w g off d) (hg : g < w.heap.size) : SlE 2 w w.heap.size (some ⟨g, off, none⟩) (d.toList.map itC) := by
  refine Or.inr ⟨g, off, rfl, hg, fun k x hx j u hu => ?_⟩
  rw [List.getElem?_map] at hx
  cases hd : d.toList[k]? with
  | none => rw [hd] at hx; cases hx
  | some y =>
    rw [hd] at hx
    cases hx
    have hk : k < d.size := by
      have := (List.getElem?_eq_some_iff.1 hd).1
      simpa using this
    have hy : d[k]! = y := by
      rw [getElem!_pos d k hk]
      have := (List.getElem?_eq_some_iff.1 hd).2
      simpa using this
    have hj : j < 2 := (List.getElem?_eq_some_iff.1 hu).1
    have := (h.cell hk hj).1
    rw [this, hy]
    congr 1
    rw [List.getElem!_eq_getElem?_getD, hu]
    rfl
theorem rowF_holds {w : World} {base : Nat} {v : Value} {L : List It} (h : w.ownsRow base 50 2 v L.length (L.map itC).flatten) : (v = .slice none 0 0 ∧ L = []) ∨ ∃ g cap, v = .slice (some ⟨g, 0, none⟩) L.length cap ∧ base ≤ g ∧ g < w.heap.size ∧ L.length ≤ cap ∧ cap ≤ maxLen ∧ Sort.HoldsK itC 2 w g 0 L.toArray := by
  have hC : ∀ e ∈ L.map itC, e.length = 2 := fun e he => by obtain ⟨x, _, rfl⟩ := List.mem_map.1 he; rfl
  obtain ⟨hl, h⟩ := h
  rcases h with ⟨hv, h0⟩ | ⟨g, cap, cur, hv, hb, hh, hc, hm, hs, ht⟩
  · exact Or.inl ⟨hv, List.eq_nil_of_length_eq_zero h0⟩
  · have hB : Blk w g 50 cur := hh
    refine Or.inr ⟨g, cap, hv, hb, hB.lt, hc, hm, fun j hj => ⟨?_, hB.free _⟩⟩
    have hj2 : j < L.length * 2 := by simpa using hj
    have hk : j / 2 < L.length := by omega
    have hx : (L.map itC)[j / 2]? = some (itC L[j / 2]) := by rw [List.getElem?_map, List.getElem?_eq_getElem hk]; rfl
    have hg := flat_at (L.map itC) hC (j / 2) _ hx (j % 2) (by omega)
    rw [show j / 2 * 2 + j % 2 = j by omega, ← ht, List.getElem?_take, if_pos (by omega)] at hg
    rw [hB.cell_, Nat.zero_add, Sort.get_flatK _ _ _ _ (by simpa using hj2)]
    rw [Array.getElem?_toList] at hg
    rw [hg, getElem!_pos L.toArray (j / 2) (by simpa using hk)]
    have hj3 : j % 2 < (itC L[j / 2]).length := by show j % 2 < 2; omega
    rw [List.getElem?_eq_getElem hj3]
    simp [hj3]
theorem sortF_own (L : List It) (v : Value) (base : Nat) (w : World) (h : w.ownsRow base 50 2 v L.length (L.map itC).flatten) (hl : L.length ≤ 1000000) :
    Calls Tryz.prog 40 #[v, .func (.func 41) #[] #[]] w fun e' w' => e' = .returned (.tuple #[]) ∧ ∃ its : List It, its.Perm L ∧ OrdF its ∧ w'.ownsRow base 50 2 v its.length (its.map itC).flatten ∧ Below base w w' := by
  rcases rowF_holds h with ⟨rfl, rfl⟩ | ⟨g, cap, rfl, hb, hg, hc, hm, hH⟩
  · refine (AnyF.slices_SortFunc_none Tryz.laysSort none 0 _ w).mono ?_
    rintro e' w' ⟨rfl, rfl⟩
    exact ⟨rfl, [], List.Perm.refl _, List.Pairwise.nil, World.ownsRow_nil _ _ _ _, Below.refl _ _⟩
  · have hcon := AnyQ.slices_SortFunc Tryz.laysSort 2 Tryz.isAgg50 Tryz.sizeOf50 itC (fun _ => rfl) itC_one2 cmpF swoF 41 #[] g 0 cap L.toArray w enterF (cmpLaysF g 0 L.toArray.size w) hH hg (by simp; omega)
    rw [show L.toArray.size = L.length by simp] at hcon
    refine Calls.mono hcon ?_
    rintro e' w' ⟨he, d', n, os, hp, hs, rfl⟩
    have hds : d'.size = L.length := by have := hp.1; simpa using this
    have hpp := hp.2.2
    have hperm : d'.toList.Perm L := by
      have e1 : L.toArray.extract 0 L.length = L.toArray := by rw [show L.length = L.toArray.size by simp]; exact Array.extract_size
      have e2 : d'.extract 0 L.length = d' := by rw [← hds]; exact Array.extract_size
      rw [e1, e2] at hpp
      simpa using hpp
    have hlen : d'.toList.length = L.length := by simpa using hds
    obtain ⟨ys, hy⟩ := own_keepO h (KeepO.sort_ itC 2 w g 0 n d' os)
    have hsl := sl_of_holdsF (holdsK_sortWorldK_c itC 2 w g 0 L.toArray d' n os hH hg (by simpa using hds)) (Nat.lt_of_lt_of_le hg (size_sortWorldK_c itC 2 w g 0 n d' os))
    have hfl := own_flat hy hsl (by rw [List.length_map]; exact hlen) (fun e he => by obtain ⟨x, _, rfl⟩ := List.mem_map.1 he; rfl) (by decide)
    exact ⟨he, d'.toList, hperm, sorted_ofF (by rw [hds]; exact hs), by rw [hlen, ← hfl]; exact hy, below_sortK hb hg⟩
def OrdK (l : List Kn) : Prop := l.Pairwise fun a b => cmpK b a < 0 → False
theorem enterK : ∀ args w, (callFunc 51 args).run Tryz.prog w = .ok (.enter 51 args) w := enters_of Tryz.func51 (by kernel_rfl) rfl
theorem knC_one2 : ∀ x, ∀ v ∈ knC x, v.oneCell' = true := by
  intro x v hv
  simp [knC] at hv
  rcases hv with rfl | rfl | rfl <;> rfl
theorem cmpLaysK (blk off size : Nat) (w : World) : CmpLays Tryz.prog 51 #[] knC 3 cmpK blk off size w := fun _ _ _ _ x y => cl_kin x.id y.id x.cm y.cm x.nm y.nm _
theorem sorted_ofK {d : Array Kn} (h : Sort.SortedIn (ltOf cmpK) 0 d.size d) : OrdK d.toList := by
  rw [OrdK, List.pairwise_iff_getElem]
  intro i j hi hj hij hlt
  simp only [Array.length_toList] at hi hj
  have := h i j (Nat.zero_le _) hij hj
  rw [getElem!_pos d i hi, getElem!_pos d j hj] at this
  have h2 := of_decide_eq_false this
  simp only [Array.getElem_toList] at hlt
  exact h2 hlt
theorem sl_of_holdsK {w : World} {g off : Nat} {d : Array Kn} (h : Sort.HoldsK knC 3 w g off d) (hg : g < w.heap.size) : SlE 3 w w.heap.size (some ⟨g, off, none⟩) (d.toList.map knC) := by
  refine Or.inr ⟨g, off, rfl, hg, fun k x hx j u hu => ?_⟩
  rw [List.getElem?_map] at hx
  cases hd : d.toList[k]? with
  | none => rw [hd] at hx; cases hx
  | some y =>
    rw [hd] at hx
    cases hx
    have hk : k < d.size := by
      have := (List.getElem?_eq_some_iff.1 hd).1
      simpa using this
    have hy : d[k]! = y := by
      rw [getElem!_pos d k hk]
      have := (List.getElem?_eq_some_iff.1 hd).2
      simpa using this
    have hj : j < 3 := (List.getElem?_eq_some_iff.1 hu).1
    have := (h.cell hk hj).1
    rw [this, hy]
    congr 1
    rw [List.getElem!_eq_getElem?_getD, hu]
    rfl
theorem rowK_holds {w : World} {base : Nat} {v : Value} {L : List Kn} (h : w.ownsRow base 82 3 v L.length (L.map knC).flatten) : (v = .slice none 0 0 ∧ L = []) ∨ ∃ g cap, v = .slice (some ⟨g, 0, none⟩) L.length cap ∧ base ≤ g ∧ g < w.heap.size ∧ L.length ≤ cap ∧ cap ≤ maxLen ∧ Sort.HoldsK knC 3 w g 0 L.toArray := by
  have hC : ∀ e ∈ L.map knC, e.length = 3 := fun e he => by obtain ⟨x, _, rfl⟩ := List.mem_map.1 he; rfl
  obtain ⟨hl, h⟩ := h
  rcases h with ⟨hv, h0⟩ | ⟨g, cap, cur, hv, hb, hh, hc, hm, hs, ht⟩
  · exact Or.inl ⟨hv, List.eq_nil_of_length_eq_zero h0⟩
  · have hB : Blk w g 82 cur := hh
    refine Or.inr ⟨g, cap, hv, hb, hB.lt, hc, hm, fun j hj => ⟨?_, hB.free _⟩⟩
    have hj2 : j < L.length * 3 := by simpa using hj
    have hk : j / 3 < L.length := by omega
    have hx : (L.map knC)[j / 3]? = some (knC L[j / 3]) := by rw [List.getElem?_map, List.getElem?_eq_getElem hk]; rfl
    have hg := flat_at (L.map knC) hC (j / 3) _ hx (j % 3) (by omega)
    rw [show j / 3 * 3 + j % 3 = j by omega, ← ht, List.getElem?_take, if_pos (by omega)] at hg
    rw [hB.cell_, Nat.zero_add, Sort.get_flatK _ _ _ _ (by simpa using hj2)]
    rw [Array.getElem?_toList] at hg
    rw [hg, getElem!_pos L.toArray (j / 3) (by simpa using hk)]
    have hj3 : j % 3 < (knC L[j / 3]).length := by show j % 3 < 3; omega
    rw [List.getElem?_eq_getElem hj3]
    simp [hj3]
theorem sortK_own (L : List Kn) (v : Value) (base : Nat) (w : World) (h : w.ownsRow base 82 3 v L.length (L.map knC).flatten) (hl : L.length ≤ 1000000) :
    Calls Tryz.prog 50 #[v, .func (.func 51) #[] #[]] w fun e' w' => e' = .returned (.tuple #[]) ∧ ∃ its : List Kn, its.Perm L ∧ OrdK its ∧ w'.ownsRow base 82 3 v its.length (its.map knC).flatten ∧ Below base w w' := by
  rcases rowK_holds h with ⟨rfl, rfl⟩ | ⟨g, cap, rfl, hb, hg, hc, hm, hH⟩
  · refine (AnyF.slices_SortFunc_none Tryz.laysSortK none 0 _ w).mono ?_
    rintro e' w' ⟨rfl, rfl⟩
    exact ⟨rfl, [], List.Perm.refl _, List.Pairwise.nil, World.ownsRow_nil _ _ _ _, Below.refl _ _⟩
  · have hcon := AnyQ.slices_SortFunc Tryz.laysSortK 3 Tryz.isAgg82 Tryz.sizeOf82 knC (fun _ => rfl) knC_one2 cmpK swoK 51 #[] g 0 cap L.toArray w enterK (cmpLaysK g 0 L.toArray.size w) hH hg (by simp; omega)
    rw [show L.toArray.size = L.length by simp] at hcon
    refine Calls.mono hcon ?_
    rintro e' w' ⟨he, d', n, os, hp, hs, rfl⟩
    have hds : d'.size = L.length := by have := hp.1; simpa using this
    have hpp := hp.2.2
    have hperm : d'.toList.Perm L := by
      have e1 : L.toArray.extract 0 L.length = L.toArray := by rw [show L.length = L.toArray.size by simp]; exact Array.extract_size
      have e2 : d'.extract 0 L.length = d' := by rw [← hds]; exact Array.extract_size
      rw [e1, e2] at hpp
      simpa using hpp
    have hlen : d'.toList.length = L.length := by simpa using hds
    obtain ⟨ys, hy⟩ := own_keepO h (KeepO.sort_ knC 3 w g 0 n d' os)
    have hsl := sl_of_holdsK (holdsK_sortWorldK_c knC 3 w g 0 L.toArray d' n os hH hg (by simpa using hds)) (Nat.lt_of_lt_of_le hg (size_sortWorldK_c knC 3 w g 0 n d' os))
    have hfl := own_flat hy hsl (by rw [List.length_map]; exact hlen) (fun e he => by obtain ⟨x, _, rfl⟩ := List.mem_map.1 he; rfl) (by decide)
    exact ⟨he, d'.toList, hperm, sorted_ofK (by rw [hds]; exact hs), by rw [hlen, ← hfl]; exact hy, below_sortK hb hg⟩
end Go.Proofs.YteokeghenjobaaaGreatDoor
namespace Go.Proofs.YteokeghenjobaaaGreatDoor
open Go.ChangeShapes Go.WideShapes Go.ChangeAt Go.RowKit
theorem orZ_neg (a b : Int) : orZ a b < 0 ↔ a < 0 ∨ (a = 0 ∧ b < 0) := by
  unfold orZ
  split <;> omega
theorem data_inj {a b : ByteArray} (h : a.data.toList = b.data.toList) : a = b := by
  apply ByteArray.ext
  exact Array.toList_inj.1 h
theorem cmpF_neg (x y : It) : cmpF x y < 0 ↔ Lib.compareBytes x.nm.data.toList y.nm.data.toList < 0 ∨ (x.nm = y.nm ∧ x.id < y.id) := by
  unfold cmpF
  rw [orZ_neg, cmpZ_neg]
  constructor
  · rintro (h | ⟨h1, h2⟩)
    · exact Or.inl h
    · exact Or.inr ⟨data_inj (cmpB_zero _ _ h1), h2⟩
  · rintro (h | ⟨h1, h2⟩)
    · exact Or.inl h
    · exact Or.inr ⟨by rw [h1]; exact cmpB_refl _, h2⟩
theorem cmpF_anti {a b : It} (h1 : ¬ cmpF b a < 0) (h2 : ¬ cmpF a b < 0) : a = b := by
  rw [cmpF_neg, not_or] at h1 h2
  have hn : a.nm = b.nm := data_inj (cmp_tri _ _ h2.1 h1.1)
  have hi : a.id = b.id := by
    have x1 : ¬ b.id < a.id := fun e => h1.2 ⟨hn.symm, e⟩
    have x2 : ¬ a.id < b.id := fun e => h2.2 ⟨hn, e⟩
    omega
  cases a
  cases b
  simp only at hn hi
  rw [hn, hi]
theorem uniqF {L M K : List It} (h1 : L.Perm K) (o1 : OrdF L) (h2 : M.Perm K) (o2 : OrdF M) : L = M :=
  List.Perm.eq_of_pairwise (le := fun a b => cmpF b a < 0 → False) (fun _ _ _ _ x y => cmpF_anti x y) o1 o2 (h1.trans h2.symm)
theorem cmpK_neg (x y : Kn) : cmpK x y < 0 ↔ y.cm < x.cm ∨ (x.cm = y.cm ∧ x.id < y.id) := by
  unfold cmpK
  rw [orZ_neg, cmpZ_neg, cmpZ_neg, cmpZ_zero]
  constructor
  · rintro (h | ⟨h1, h2⟩)
    · exact Or.inl h
    · exact Or.inr ⟨h1.symm, h2⟩
  · rintro (h | ⟨h1, h2⟩)
    · exact Or.inl h
    · exact Or.inr ⟨h1.symm, h2⟩
theorem uniqK {L M K : List Kn} (hK : ∀ a ∈ K, ∀ b ∈ K, a.id = b.id → a = b) (h1 : L.Perm K) (o1 : OrdK L) (h2 : M.Perm K) (o2 : OrdK M) : L = M :=
  List.Perm.eq_of_pairwise (le := fun a b => cmpK b a < 0 → False) (fun a b ha hb x y => hK a (h1.mem_iff.1 ha) b (h2.mem_iff.1 hb) (by
    have x : ¬ cmpK b a < 0 := x
    have y : ¬ cmpK a b < 0 := y
    rw [cmpK_neg, not_or] at x y
    have hc : a.cm = b.cm := by omega
    have x1 : ¬ b.id < a.id := fun e => x.2 ⟨hc.symm, e⟩
    have x2 : ¬ a.id < b.id := fun e => y.2 ⟨hc, e⟩
    omega)) o1 o2 (h1.trans h2.symm)
def bkNm (s : Sf) (x : Int) : ByteArray := match s.bs[(bookAt s x).toNat]? with
  | some b => b.nm
  | none => ByteArray.empty
def hitB (s : Sf) (ts : List Trm) (n : Nt) : Bool := !ts.any fun t => !soB t n (bkNm s n.bk)
def hitsL (s : Sf) (ts : List Trm) : List It := (s.ts.filter (hitB s ts)).map ntIt
theorem ntIt_inj {s : Sf} (hF : MayF s) {a b : Nt} (ha : a ∈ s.ts) (hb : b ∈ s.ts) (h : a.id = b.id) : a = b := by
  obtain ⟨i, hi, rfl⟩ := List.getElem_of_mem ha
  obtain ⟨j, hj, rfl⟩ := List.getElem_of_mem hb
  have hp := List.pairwise_iff_getElem.1 hF.tord
  rcases Nat.lt_trichotomy i j with h1 | h1 | h1
  · have := hp i j hi hj h1
    omega
  · subst h1
    rfl
  · have := hp j i hj hi h1
    omega
def comN (a b : List ByteArray) : Nat := (a.filter fun x => hasB b x).length
def kinB (of : Nt) (x : Int) (n : Nt) : Bool := decide (0 < comN of.tg n.tg) && n.id != x
def kinIt (of n : Nt) : Kn := ⟨n.id, n.nm, (comN of.tg n.tg : Int)⟩
def kinsL (s : Sf) (of : Nt) (x : Int) : List Kn := (s.ts.filter (kinB of x)).map (kinIt of)
def knIt (k : Kn) : It := ⟨k.id, k.nm⟩
theorem kinsL_inj {s : Sf} (hF : MayF s) (of : Nt) (x : Int) : ∀ a ∈ kinsL s of x, ∀ b ∈ kinsL s of x, a.id = b.id → a = b := by
  intro a ha b hb h
  unfold kinsL at ha hb
  obtain ⟨n, hn, rfl⟩ := List.mem_map.1 ha
  obtain ⟨m, hm, rfl⟩ := List.mem_map.1 hb
  rw [List.mem_filter] at hn hm
  rw [ntIt_inj hF hn.1 hm.1 h]
end Go.Proofs.YteokeghenjobaaaGreatDoor
namespace Go.Proofs.YteokeghenjobaaaGreatDoor
open Go.ChangeShapes Go.WideShapes Go.ChangeAt Go.RowKit
attribute [local go_sem ↓] Go.wp_at_zero Go.wp_at_succ
attribute [local go_sem] Oper.semAt_some
theorem cl_term (t : Trm) (n : Nt) (At As : Option Addr) (ct cs : Nat) (bk : ByteArray) (p0 p1 : Nat) (w : World) (hn : NtIn w w.heap.size n #[.int .i64 n.id, .int .i64 n.bk, .string n.nm, .slice At n.tg.length ct, .slice As n.sh.length cs].toList) (B0 : Blk w p0 54 #[.int .i64 n.id, .int .i64 n.bk, .string n.nm, .slice At n.tg.length ct, .slice As n.sh.length cs]) (c1 : w.cell? ⟨p1, 0, none⟩ = some (.string bk)) (l1 : p1 < w.heap.size) (hl : n.tg.length ≤ 1000000) (hs : n.nm.size ≤ 100000) (B : Bool) (hB : soB t n bk = B) :
    Calls Tryz.prog 38 #[.agg #[.bool t.tn, .int .u8 (t.sg.toNat : Int), .string (bOf t.tx)], .pointer (some ⟨p0, 0, none⟩), .pointer (some ⟨p1, 0, none⟩)] w fun e' w' => e' = .returned (.bool (!B)) ∧ Below w.heap.size w w' := by
  have hb : Below w.heap.size w (w.alloc (.cells #[.bool t.tn, .int .u8 (t.sg.toNat : Int), .string (bOf t.tx)] 69)) := (Below.refl _ w).alloc (Nat.le_refl _) _
  have hso : Calls Tryz.prog 39 #[.agg #[.bool t.tn, .int .u8 (t.sg.toNat : Int), .string (bOf t.tx)], .agg #[.int .i64 n.id, .int .i64 n.bk, .string n.nm, .slice At n.tg.length ct, .slice As n.sh.length cs], .string bk] (w.alloc (.cells #[.bool t.tn, .int .u8 (t.sg.toNat : Int), .string (bOf t.tx)] 69)) fun e' w' => e' = .returned (.bool B) ∧ Below (w.alloc (.cells #[.bool t.tn, .int .u8 (t.sg.toNat : Int), .string (bOf t.tx)] 69)).heap.size (w.alloc (.cells #[.bool t.tn, .int .u8 (t.sg.toNat : Int), .string (bOf t.tx)] 69)) w' := by
    have h := so_any t n _ bk (w.alloc (.cells #[.bool t.tn, .int .u8 (t.sg.toNat : Int), .string (bOf t.tx)] 69)) (NtIn.mono (NtIn.below hn hb) hb.size) hl hs
    rw [hB] at h
    exact h
  have B1 := Blk.new_ w 69 #[.bool t.tn, .int .u8 (t.sg.toNat : Int), .string (bOf t.tx)]
  obtain ⟨d0, d1, d2⟩ := cell3 B1
  obtain ⟨k0, k1, k2, k3, k4⟩ := cell5 (B0.below hb B0.lt)
  have f1 := (hb.cell (p := ⟨p1, 0, none⟩) l1).trans c1
  have HX := Lib.hid (And.intro hB (And.intro hl hs))
  obtain ⟨T, hT⟩ : ∃ T, n.tg.length = T := ⟨_, rfl⟩
  obtain ⟨U, hU⟩ : ∃ U, n.sh.length = U := ⟨_, rfl⟩
  rw [hT, hU] at hso
  rw [hT] at k3
  rw [hU] at k4
  obtain ⟨S, hS⟩ : ∃ S, bOf t.tx = S := ⟨_, rfl⟩
  obtain ⟨Z, hZ⟩ : ∃ Z : Int, (t.sg.toNat : Int) = Z := ⟨_, rfl⟩
  simp only [hS, hZ] at hso hb d0 d1 d2 k0 k1 k2 k3 k4 f1 ⊢
  clear hB hl hs hT hU hS hZ B0 c1 hn B1
  go_enter Tryz.func38, Tryz.ntmps38
  go_wp2_with (go_at_call 39; refine hso.mono ?_; rintro e' w3 ⟨rfl, hb3⟩)
  go_ret
  exact ⟨rfl, btr hb hb.size hb3⟩
theorem ix_term (ts : List Trm) (A : Option Addr) (cp : Nat) (n : Nt) (At As : Option Addr) (ct cs : Nat) (bk : ByteArray) (p0 p1 : Nat) (w : World) (hS : SlE 3 w w.heap.size A (ts.map trC)) (hc : ts.length ≤ cp) (hm : cp ≤ maxLen) (hn : NtIn w w.heap.size n #[.int .i64 n.id, .int .i64 n.bk, .string n.nm, .slice At n.tg.length ct, .slice As n.sh.length cs].toList) (B0 : Blk w p0 54 #[.int .i64 n.id, .int .i64 n.bk, .string n.nm, .slice At n.tg.length ct, .slice As n.sh.length cs]) (c1 : w.cell? ⟨p1, 0, none⟩ = some (.string bk)) (l1 : p1 < w.heap.size) (hl : n.tg.length ≤ 1000000) (hs : n.nm.size ≤ 100000) :
    Calls Tryz.prog 73 #[.slice A ts.length cp, .func (.func 38) #[] #[.pointer (some ⟨p0, 0, none⟩), .pointer (some ⟨p1, 0, none⟩)]] w fun e' w' => e' = .returned (.int .i64 (idxP (fun x_ : Trm => !soB x_ n bk) ts)) ∧ Below w.heap.size w w' := by
  have HB0 : Below w.heap.size w w := Below.refl _ _
  have hlm : ts.length ≤ 9223372036854775807 := by have h0 : cp ≤ maxLen := hm; unfold maxLen at h0; omega
  obtain ⟨N, hN⟩ : ∃ n, ts.length = n := ⟨_, rfl⟩
  rw [hN] at hc hlm ⊢
  have HN := Lib.hid hN
  have HQ2 := Lib.hid (And.intro hn (And.intro B0 (And.intro c1 (And.intro l1 (And.intro hl hs)))))
  clear hN hn B0 c1 l1 hl hs
  go_enter Tryz.func73, Tryz.ntmps73
  go_wp2_with fail
  go_loopw [8] (fun i wr => ∃ k : Nat, k ≤ N ∧ i = .int .i64 k ∧ Hid ((ts.take k).any (fun x_ : Trm => !soB x_ n bk) = false) ∧ Below w.heap.size w wr) (fun i _ => N - (intOf i).toNat)
  case atStart => exact ⟨0, by omega, rfl, Lib.hid rfl, HB0⟩
  case round =>
    obtain ⟨k, hk, rfl, HQ, HBr⟩ := hrel
    clear HB0
    by_cases hlt : k < N
    · have hlx : k < ts.length := by have := HN.out; omega
      have i0 : (0 : Int) ≤ (k : Int) := by omega
      have i1 : (k : Int) < (N : Int) := by omega
      obtain ⟨t0, hx⟩ : ∃ x, ts[k]? = some x := ⟨_, List.getElem?_eq_getElem hlx⟩
      obtain ⟨b1, o1, rfl, r1, q1⟩ := SlE.at_ hS (by rw [List.length_map]; omega)
      have he : (ts.map trC)[k]? = some (trC t0) := by rw [List.getElem?_map, hx]; rfl
      have y0 : wr.cell? ⟨b1, o1 + k * 3 + 0, none⟩ = some (.bool t0.tn) := (HBr.cell (p := ⟨b1, _, none⟩) r1).trans (q1 k _ he 0 _ rfl)
      have y1 : wr.cell? ⟨b1, o1 + k * 3 + 1, none⟩ = some (.int .u8 (t0.sg.toNat : Int)) := (HBr.cell (p := ⟨b1, _, none⟩) r1).trans (q1 k _ he 1 _ rfl)
      have y2 : wr.cell? ⟨b1, o1 + k * 3 + 2, none⟩ = some (.string (bOf t0.tx)) := (HBr.cell (p := ⟨b1, _, none⟩) r1).trans (q1 k _ he 2 _ rfl)
      simp only [Nat.add_zero] at y0
      have HCL : Hid (Calls Tryz.prog 38 #[.agg #[.bool t0.tn, .int .u8 (t0.sg.toNat : Int), .string (bOf t0.tx)], .pointer (some ⟨p0, 0, none⟩), .pointer (some ⟨p1, 0, none⟩)] wr fun e' w' => e' = .returned (.bool (!soB t0 n bk)) ∧ Below wr.heap.size wr w') := Lib.hid (by
        obtain ⟨hn, B0, c1, l1, hl, hs⟩ := HQ2.out
        exact cl_term t0 n At As ct cs bk p0 p1 wr (NtIn.mono (NtIn.below hn HBr) HBr.size) (B0.below HBr B0.lt) ((HBr.cell (p := ⟨p1, 0, none⟩) l1).trans c1) (Nat.lt_of_lt_of_le l1 HBr.size) hl hs (soB t0 n bk) rfl)
      have HX := Lib.hid hx
      clear hx he q1
      obtain ⟨Z, hZ⟩ : ∃ Z : Int, (t0.sg.toNat : Int) = Z := ⟨_, rfl⟩
      obtain ⟨S, hS2⟩ : ∃ S, bOf t0.tx = S := ⟨_, rfl⟩
      obtain ⟨B, hB⟩ : ∃ B, soB t0 n bk = B := ⟨_, rfl⟩
      have HB := Lib.hid hB
      rw [hZ, hS2, hB] at HCL
      rw [hZ] at y1
      rw [hS2] at y2
      clear hZ hS2 hB
      cases B
      · go_wp2_with (go_at_call 38; ((with_reducible refine HCL.out.mono ?_); rintro e' wN ⟨rfl, hb3⟩; have HBr := btr HBr HBr.size hb3; clear hb3 HCL))
        go_ret
        exact ⟨by rw [idxP_at HQ.out HX.out (by rw [HB.out]; rfl)]; rfl, HBr⟩
      · go_wp2_with (go_at_call 38; ((with_reducible refine HCL.out.mono ?_); rintro e' wN ⟨rfl, hb3⟩; have HBr := btr HBr HBr.size hb3; clear hb3 HCL))
        go_roundw
        case rel => exact ⟨k + 1, by omega, by go_num, Lib.hid (any_next HQ.out HX.out (by rw [HB.out]; rfl)), HBr⟩
        case measure => simp [intOf]; omega
    · have hjn : k = N := by omega
      subst hjn
      go_wp2_with fail
      go_ret
      refine ⟨?_, HBr⟩
      rw [idxP_no (by have := HQ.out; rwa [List.take_of_length_le (by rw [HN.out]; exact Nat.le_refl _)] at this)]
      rfl
theorem ct_term (ts : List Trm) (A : Option Addr) (cp : Nat) (n : Nt) (At As : Option Addr) (ct cs : Nat) (bk : ByteArray) (p0 p1 : Nat) (w : World) (hS : SlE 3 w w.heap.size A (ts.map trC)) (hc : ts.length ≤ cp) (hm : cp ≤ maxLen) (hn : NtIn w w.heap.size n #[.int .i64 n.id, .int .i64 n.bk, .string n.nm, .slice At n.tg.length ct, .slice As n.sh.length cs].toList) (B0 : Blk w p0 54 #[.int .i64 n.id, .int .i64 n.bk, .string n.nm, .slice At n.tg.length ct, .slice As n.sh.length cs]) (c1 : w.cell? ⟨p1, 0, none⟩ = some (.string bk)) (l1 : p1 < w.heap.size) (hl : n.tg.length ≤ 1000000) (hs : n.nm.size ≤ 100000) (T : Bool) (hT : ts.any (fun x_ : Trm => !soB x_ n bk) = T) :
    Calls Tryz.prog 37 #[.slice A ts.length cp, .func (.func 38) #[] #[.pointer (some ⟨p0, 0, none⟩), .pointer (some ⟨p1, 0, none⟩)]] w fun e' w' => e' = .returned (.bool T) ∧ Below w.heap.size w w' := by
  have hi : decide (0 ≤ idxP (fun x_ : Trm => !soB x_ n bk) ts) = T := (idxP_ge _ _).trans hT
  obtain ⟨I, hI⟩ : ∃ I, idxP (fun x_ : Trm => !soB x_ n bk) ts = I := ⟨_, rfl⟩
  have HI := Lib.hid hI
  rw [hI] at hi
  have HT := Lib.hid hi
  have hix := ix_term ts A cp n At As ct cs bk p0 p1 w hS hc hm hn B0 c1 l1 hl hs
  rw [hI] at hix
  have HIX := Lib.hid hix
  obtain ⟨N, hN⟩ : ∃ n, ts.length = n := ⟨_, rfl⟩
  rw [hN] at HIX ⊢
  clear hi hI hT hix hN hn B0 c1 l1 hl hs hc hm hS
  go_enter Tryz.func37, Tryz.ntmps37
  go_wp2_with (go_at_call 73; ((with_reducible refine HIX.out.mono ?_); rintro e' wN ⟨rfl, hb3⟩))
  go_ret
  exact ⟨by rw [← HT.out]; rfl, hb3⟩
end Go.Proofs.YteokeghenjobaaaGreatDoor
