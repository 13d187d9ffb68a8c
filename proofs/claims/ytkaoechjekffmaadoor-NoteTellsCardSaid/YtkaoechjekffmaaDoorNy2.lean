/- Tags that may be; a note that may be. -/
import Derived.Test.YtkaoechjekffmaaDoorNy1
import Derived.Shelf.SlSortCmp.WholeK
import Derived.Shelf.SlSortCmp.NoneTotal
import Derived.Shelf.Small.Strs
import Derived.Lib.SliceRun
set_option linter.unusedSimpArgs false
set_option linter.unusedVariables false
set_option maxRecDepth 100000
set_option maxHeartbeats 16000000
namespace Go.Proofs.YtkaoechjekffmaaDoor
open Go.ChangeShapes Go.WideShapes Go.ChangeAt Go.RowKit
attribute [local go_sem ↓] Go.wp_at_zero Go.wp_at_succ
def prevT (l : List ByteArray) : Nat → List ByteArray
  | 0 => []
  | k + 1 => [l.getD k ByteArray.empty]
theorem drop_next {α : Type} {l : List α} {k : Nat} {x : α} (h : l[k]? = some x) : l.drop k = x :: l.drop (k + 1) := by
  obtain ⟨hlt, rfl⟩ := List.getElem?_eq_some_iff.1 h
  exact List.drop_eq_getElem_cons hlt
theorem prevT_at {l : List ByteArray} {k : Nat} {x : ByteArray} (h : l[k]? = some x) : prevT l (k + 1) = [x] := by
  show [l.getD k ByteArray.empty] = [x]
  rw [List.getD_eq_getElem?_getD, h]
  rfl
theorem tags_first {l : List ByteArray} {x : ByteArray} (h : l[0]? = some x) : tagsFrom (prevT l 0) (l.drop 0) = (mayN x && tagsFrom (prevT l 1) (l.drop 1)) := by
  rw [drop_next h]
  have e2 : prevT l 1 = [x] := prevT_at h
  rw [e2]
  rfl
theorem tags_next {l : List ByteArray} {k : Nat} {x p : ByteArray} (h : l[k + 1]? = some x) (hp : l[k]? = some p) : tagsFrom (prevT l (k + 1)) (l.drop (k + 1)) = (mayN x && (lessS p x && tagsFrom (prevT l (k + 2)) (l.drop (k + 2)))) := by
  rw [drop_next h]
  have e2 : prevT l (k + 2) = [x] := prevT_at h
  have e1 : prevT l (k + 1) = [p] := prevT_at hp
  rw [e2, e1]
  rfl
theorem tags_end {l : List ByteArray} {p : List ByteArray} : tagsFrom p (l.drop l.length) = true := by
  rw [List.drop_length]
  rfl
theorem mayTags_any (l : List ByteArray) (A : Option Addr) (cp : Nat) (w : World) (hS : Sl w w.heap.size A (l.map strV)) (hc : l.length ≤ cp) (hm : cp ≤ maxLen) (hT : Tabs w) (T : Bool) (hB : mayTg l = T) :
    Calls Tryd.prog 83 #[.slice A l.length cp] w fun e' w' => e' = .returned (.bool T) ∧ Below w.heap.size w w' := by
  obtain ⟨n, hn⟩ : ∃ n, l.length = n := ⟨_, rfl⟩
  rw [hn] at hc ⊢
  unfold mayTg at hB
  rw [hn] at hB
  have HT := Lib.hid hT
  clear hT
  by_cases h4 : n ≤ 4
  · rw [decide_eq_true h4, Bool.true_and] at hB
    have HN := Lib.hid hn
    have HTG : Hid (tagsFrom (prevT l 0) (l.drop 0) = T) := Lib.hid (by rw [List.drop_zero]; exact hB)
    clear hn hB
    have HB0 : Below w.heap.size w w := Below.refl _ _
    go_enter Tryd.func83, Tryd.ntmps83
    go_wp2_with fail
    go_loopw [10] (fun i wr => ∃ k : Nat, k ≤ n ∧ i = .int .i64 k ∧ Hid (tagsFrom (prevT l k) (l.drop k) = T) ∧ Below w.heap.size w wr) (fun i _ => n - (intOf i).toNat)
    case atStart => exact ⟨0, by omega, rfl, HTG, HB0⟩
    case round =>
      obtain ⟨k, hk, rfl, HK, HBr⟩ := hrel
      clear HTG HB0
      have TT := HT.out.next HBr
      have HTT := Lib.hid TT
      clear TT
      by_cases hlt : k < n
      · have hlx : k < l.length := by have := HN.out; omega
        obtain ⟨b1, o1, rfl, l1, q1⟩ := hS.at_ (by rw [List.length_map]; omega)
        obtain ⟨x, hx⟩ : ∃ x, l[k]? = some x := ⟨_, List.getElem?_eq_getElem hlx⟩
        have cx : wr.cell? ⟨b1, o1 + k, none⟩ = some (.string x) := (HBr.cell (p := ⟨b1, _, none⟩) l1).trans (q1 k _ (by rw [List.getElem?_map, hx]; rfl))
        have r1 : b1 < wr.heap.size := by have := HBr.size; omega
        have i0 : (0 : Int) ≤ (k : Int) := by omega
        have i1 : (k : Int) < (n : Int) := by omega
        obtain ⟨M, hM⟩ : ∃ M, mayN x = M := ⟨_, rfl⟩
        have HM : Hid (nameB x.data.toList = M) := Lib.hid hM
        rcases k with _ | k
        · simp only [Nat.add_zero] at cx
          have ht := tags_first hx
          rw [hM, HK.out] at ht
          cases M
          · have HT2 : Hid (T = false) := Lib.hid ht
            clear q1 ht hM hx hlx
            go_wp2_with (go_at_call 46; ((with_reducible refine (nmay_any x _ _ HTT.out HM.out).mono ?_); rintro e' wN ⟨rfl, hb3⟩; have HBr := btr HBr HBr.size hb3; clear hb3))
            go_ret
            exact ⟨by rw [HT2.out]; rfl, HBr⟩
          · have HT2 : Hid (tagsFrom (prevT l 1) (l.drop 1) = T) := Lib.hid (by rw [ht]; rfl)
            clear q1 ht hM hx hlx
            go_wp2_with (go_at_call 46; ((with_reducible refine (nmay_any x _ _ HTT.out HM.out).mono ?_); rintro e' wN ⟨rfl, hb3⟩; have HBr := btr HBr HBr.size hb3; clear hb3))
            go_roundw
            case rel => exact ⟨1, by omega, by go_num, HT2, HBr⟩
            case measure => simp [intOf]; omega
        · obtain ⟨p, hp⟩ : ∃ x, l[k]? = some x := ⟨_, List.getElem?_eq_getElem (by omega)⟩
          have cp1 : wr.cell? ⟨b1, o1 + k, none⟩ = some (.string p) := (HBr.cell (p := ⟨b1, _, none⟩) l1).trans (q1 k _ (by rw [List.getElem?_map, hp]; rfl))
          obtain ⟨L, hL⟩ : ∃ L, lessS p x = L := ⟨_, rfl⟩
          have HL : Hid (Op.bytesLess p.toList x.toList = L) := Lib.hid hL
          have ht := tags_next hx hp
          rw [hM, hL, HK.out] at ht
          have j0 : (0 : Int) ≤ ((k + 1 : Nat) : Int) - 1 := by omega
          have j1 : ((k + 1 : Nat) : Int) - 1 < (n : Int) := by omega
          have j2 : (0 : Int) < ((k + 1 : Nat) : Int) := by omega
          have j3 : (((k + 1 : Nat) : Int) - 1).toNat = k := by omega
          cases M
          · have HT2 : Hid (T = false) := Lib.hid ht
            clear q1 ht hM hx hlx hp hL
            go_wp2_with (go_at_call 46; ((with_reducible refine (nmay_any x _ _ HTT.out HM.out).mono ?_); rintro e' wN ⟨rfl, hb3⟩; (have cx0 : wN.cell? ⟨b1, o1 + k, none⟩ = _ := (hb3.cell (p := ⟨b1, _, none⟩) r1).trans cp1); have HBr := btr HBr HBr.size hb3; clear hb3))
            go_ret
            exact ⟨by rw [HT2.out]; rfl, HBr⟩
          · cases L
            · have HT2 : Hid (T = false) := Lib.hid ht
              clear q1 ht hM hx hlx hp hL
              go_wp2_with (first | (go_at_call 46; ((with_reducible refine (nmay_any x _ _ HTT.out HM.out).mono ?_); rintro e' wN ⟨rfl, hb3⟩; (have cx0 : wN.cell? ⟨b1, o1 + k, none⟩ = _ := (hb3.cell (p := ⟨b1, _, none⟩) r1).trans cp1); have HBr := btr HBr HBr.size hb3; clear hb3)) | (go_at_call 96; ((with_reducible refine (less_any p x _ _ HL.out).mono ?_); rintro e' wM ⟨rfl, rfl⟩)))
              go_ret
              exact ⟨by rw [HT2.out]; rfl, HBr⟩
            · have HT2 : Hid (tagsFrom (prevT l (k + 2)) (l.drop (k + 2)) = T) := Lib.hid (by rw [ht]; rfl)
              clear q1 ht hM hx hlx hp hL
              go_wp2_with (first | (go_at_call 46; ((with_reducible refine (nmay_any x _ _ HTT.out HM.out).mono ?_); rintro e' wN ⟨rfl, hb3⟩; (have cx0 : wN.cell? ⟨b1, o1 + k, none⟩ = _ := (hb3.cell (p := ⟨b1, _, none⟩) r1).trans cp1); have HBr := btr HBr HBr.size hb3; clear hb3)) | (go_at_call 96; ((with_reducible refine (less_any p x _ _ HL.out).mono ?_); rintro e' wM ⟨rfl, rfl⟩)))
              go_roundw
              case rel => exact ⟨k + 2, by omega, by go_num, HT2, HBr⟩
              case measure => simp [intOf]; omega
      · have hjn : k = n := by omega
        subst hjn
        have ht := HK.out
        rw [← HN.out, tags_end] at ht
        clear hlt
        go_wp2_with fail
        go_ret
        exact ⟨by rw [← ht]; rfl, HBr⟩
  · rw [decide_eq_false h4, Bool.false_and] at hB
    subst hB
    have q4 : (4 : Int) < (n : Int) := by omega
    clear hn h4
    go_enter Tryd.func83, Tryd.ntmps83
    go_wp2
    go_ret
    exact ⟨rfl, Below.refl _ _⟩
theorem mayNote_any (s : Sf) (v : Value) (n : Nt) (e : List Value) (w : World) (hS : ShR w w.heap.size v s) (hN0 : NtIn w w.heap.size n e) (hT : Tabs w) (T : Bool) (hB0 : mayNt s n = T) :
    Calls Tryd.prog 60 #[v, .agg e.toArray] w fun e' w' => e' = .returned (.bool T) ∧ Below w.heap.size w w' := by
  have hS0 := hS
  obtain ⟨Ab, cb, An, cn, rfl, hB, hN, hcb, hmb, hcn, hmn⟩ := hS.ex
  clear hS
  obtain ⟨At, ct, As, cs, rfl, hAt, hAs, htc, htm, hsc, hsm⟩ := hN0.ex
  clear hN0
  show Calls Tryd.prog 60 #[.agg #[.int .i64 s.nb, .int .i64 s.nn, .int .i64 s.ns, .slice Ab s.bs.length cb, .slice An s.ts.length cn], .agg #[.int .i64 n.id, .int .i64 n.bk, .string n.nm, .slice At n.tg.length ct, .slice As n.sh.length cs]] w _
  have HB : Below w.heap.size w ((w.alloc (.cells #[.int .i64 s.nb, .int .i64 s.nn, .int .i64 s.ns, .slice Ab s.bs.length cb, .slice An s.ts.length cn] 25)).alloc (.cells #[.int .i64 n.id, .int .i64 n.bk, .string n.nm, .slice At n.tg.length ct, .slice As n.sh.length cs] 49)) := (((Below.refl w.heap.size w).alloc (by first | (simp; done) | (simp; omega)) _).alloc (by first | (simp; done) | (simp; omega)) _)
  have B1 : Blk ((w.alloc (.cells #[.int .i64 s.nb, .int .i64 s.nn, .int .i64 s.ns, .slice Ab s.bs.length cb, .slice An s.ts.length cn] 25)).alloc (.cells #[.int .i64 n.id, .int .i64 n.bk, .string n.nm, .slice At n.tg.length ct, .slice As n.sh.length cs] 49)) w.heap.size 25 #[.int .i64 s.nb, .int .i64 s.nn, .int .i64 s.ns, .slice Ab s.bs.length cb, .slice An s.ts.length cn] := (Blk.new_ w 25 #[.int .i64 s.nb, .int .i64 s.nn, .int .i64 s.ns, .slice Ab s.bs.length cb, .slice An s.ts.length cn]).alloc_ (.cells #[.int .i64 n.id, .int .i64 n.bk, .string n.nm, .slice At n.tg.length ct, .slice As n.sh.length cs] 49)
  have B2 : Blk ((w.alloc (.cells #[.int .i64 s.nb, .int .i64 s.nn, .int .i64 s.ns, .slice Ab s.bs.length cb, .slice An s.ts.length cn] 25)).alloc (.cells #[.int .i64 n.id, .int .i64 n.bk, .string n.nm, .slice At n.tg.length ct, .slice As n.sh.length cs] 49)) (w.heap.size + 1) 49 #[.int .i64 n.id, .int .i64 n.bk, .string n.nm, .slice At n.tg.length ct, .slice As n.sh.length cs] := by
    have := Blk.new_ (w.alloc (.cells #[.int .i64 s.nb, .int .i64 s.nn, .int .i64 s.ns, .slice Ab s.bs.length cb, .slice An s.ts.length cn] 25)) 49 #[.int .i64 n.id, .int .i64 n.bk, .string n.nm, .slice At n.tg.length ct, .slice As n.sh.length cs]
    simpa using this
  have S1 : ShR ((w.alloc (.cells #[.int .i64 s.nb, .int .i64 s.nn, .int .i64 s.ns, .slice Ab s.bs.length cb, .slice An s.ts.length cn] 25)).alloc (.cells #[.int .i64 n.id, .int .i64 n.bk, .string n.nm, .slice At n.tg.length ct, .slice As n.sh.length cs] 49)) ((w.alloc (.cells #[.int .i64 s.nb, .int .i64 s.nn, .int .i64 s.ns, .slice Ab s.bs.length cb, .slice An s.ts.length cn] 25)).alloc (.cells #[.int .i64 n.id, .int .i64 n.bk, .string n.nm, .slice At n.tg.length ct, .slice As n.sh.length cs] 49)).heap.size (.agg #[.int .i64 s.nb, .int .i64 s.nn, .int .i64 s.ns, .slice Ab s.bs.length cb, .slice An s.ts.length cn]) s := hS0.next HB
  have T1 := hT.next HB
  have A1 : Sl ((w.alloc (.cells #[.int .i64 s.nb, .int .i64 s.nn, .int .i64 s.ns, .slice Ab s.bs.length cb, .slice An s.ts.length cn] 25)).alloc (.cells #[.int .i64 n.id, .int .i64 n.bk, .string n.nm, .slice At n.tg.length ct, .slice As n.sh.length cs] 49)) ((w.alloc (.cells #[.int .i64 s.nb, .int .i64 s.nn, .int .i64 s.ns, .slice Ab s.bs.length cb, .slice An s.ts.length cn] 25)).alloc (.cells #[.int .i64 n.id, .int .i64 n.bk, .string n.nm, .slice At n.tg.length ct, .slice As n.sh.length cs] 49)).heap.size At (n.tg.map strV) := (hAt.below HB).mono_ HB.size
  clear hS0 hT hB hN hAt hAs hcb hmb hcn hmn
  obtain ⟨M, hM⟩ : ∃ M, mayN n.nm = M := ⟨_, rfl⟩
  have HM : Hid (nameB n.nm.data.toList = M) := Lib.hid hM
  obtain ⟨I, hI⟩ : ∃ I, bookAt s n.bk = I := ⟨_, rfl⟩
  have HI := Lib.hid hI
  obtain ⟨K, hK⟩ : ∃ K, noteTk s n.bk n.nm n.id = K := ⟨_, rfl⟩
  have HK := Lib.hid hK
  obtain ⟨G, hG⟩ : ∃ G, mayTg n.tg = G := ⟨_, rfl⟩
  have HG := Lib.hid hG
  unfold mayNt at hB0
  rw [hM, hI, hK, hG] at hB0
  have HE := Lib.hid hB0
  clear hM hI hK hG hB0
  cases M
  · skip
    go_enter Tryd.func60, Tryd.ntmps60
    go_wp2_with (first
      | (go_at_call 46; ((with_reducible refine (nmay_any n.nm _ _ T1 HM.out).mono ?_); rintro e' w3 ⟨rfl, b3⟩; have S1 := S1.next b3; have T1 := T1.next b3; have A1 := (A1.below b3).mono_ (Below.size b3); have B1 := B1.below b3 B1.lt; have B2 := B2.below b3 B2.lt; have HB := btr HB HB.size b3; (try clear k0 k1 k2 k3 k4 m0 m1 m2 m3 m4); have k0 := B1.cell_ 0; have k1 := B1.cell_ 1; have k2 := B1.cell_ 2; have k3 := B1.cell_ 3; have k4 := B1.cell_ 4; have m0 := B2.cell_ 0; have m1 := B2.cell_ 1; have m2 := B2.cell_ 2; have m3 := B2.cell_ 3; have m4 := B2.cell_ 4; simp at k0 k1 k2 k3 k4 m0 m1 m2 m3 m4; clear b3))
      | (go_at_call 81; ((with_reducible refine (pBook_any s _ n.bk _ S1).mono ?_); rintro e' w4 ⟨rfl, b4⟩; rw [HI.out]; have S1 := S1.next b4; have T1 := T1.next b4; have A1 := (A1.below b4).mono_ (Below.size b4); have B1 := B1.below b4 B1.lt; have B2 := B2.below b4 B2.lt; have HB := btr HB HB.size b4; (try clear k0 k1 k2 k3 k4 m0 m1 m2 m3 m4); have k0 := B1.cell_ 0; have k1 := B1.cell_ 1; have k2 := B1.cell_ 2; have k3 := B1.cell_ 3; have k4 := B1.cell_ 4; have m0 := B2.cell_ 0; have m1 := B2.cell_ 1; have m2 := B2.cell_ 2; have m3 := B2.cell_ 3; have m4 := B2.cell_ 4; simp at k0 k1 k2 k3 k4 m0 m1 m2 m3 m4; clear b4))
      | (go_at_call 82; ((with_reducible refine (nTaken_any s _ n.bk n.nm n.id _ S1 _ HK.out).mono ?_); rintro e' w5 ⟨rfl, b5⟩; have S1 := S1.next b5; have T1 := T1.next b5; have A1 := (A1.below b5).mono_ (Below.size b5); have B1 := B1.below b5 B1.lt; have B2 := B2.below b5 B2.lt; have HB := btr HB HB.size b5; (try clear k0 k1 k2 k3 k4 m0 m1 m2 m3 m4); have k0 := B1.cell_ 0; have k1 := B1.cell_ 1; have k2 := B1.cell_ 2; have k3 := B1.cell_ 3; have k4 := B1.cell_ 4; have m0 := B2.cell_ 0; have m1 := B2.cell_ 1; have m2 := B2.cell_ 2; have m3 := B2.cell_ 3; have m4 := B2.cell_ 4; simp at k0 k1 k2 k3 k4 m0 m1 m2 m3 m4; clear b5))
      | (go_at_call 83; ((with_reducible refine (mayTags_any n.tg _ _ _ A1 htc htm T1 _ HG.out).mono ?_); rintro e' w6 ⟨rfl, b6⟩; have S1 := S1.next b6; have T1 := T1.next b6; have A1 := (A1.below b6).mono_ (Below.size b6); have B1 := B1.below b6 B1.lt; have B2 := B2.below b6 B2.lt; have HB := btr HB HB.size b6; (try clear k0 k1 k2 k3 k4 m0 m1 m2 m3 m4); have k0 := B1.cell_ 0; have k1 := B1.cell_ 1; have k2 := B1.cell_ 2; have k3 := B1.cell_ 3; have k4 := B1.cell_ 4; have m0 := B2.cell_ 0; have m1 := B2.cell_ 1; have m2 := B2.cell_ 2; have m3 := B2.cell_ 3; have m4 := B2.cell_ 4; simp at k0 k1 k2 k3 k4 m0 m1 m2 m3 m4; clear b6)))
    go_ret
    exact ⟨by first | (rw [← HE.out]; rfl) | (rw [← HE.out, decide_eq_true (by omega : (0 : Int) ≤ I)]; rfl) | (rw [← HE.out, decide_eq_false (by omega : ¬ (0 : Int) ≤ I)]; rfl), HB⟩
  · by_cases h0 : 0 ≤ I
    · cases K
      · cases G
        · skip
          go_enter Tryd.func60, Tryd.ntmps60
          go_wp2_with (first
            | (go_at_call 46; ((with_reducible refine (nmay_any n.nm _ _ T1 HM.out).mono ?_); rintro e' w3 ⟨rfl, b3⟩; have S1 := S1.next b3; have T1 := T1.next b3; have A1 := (A1.below b3).mono_ (Below.size b3); have B1 := B1.below b3 B1.lt; have B2 := B2.below b3 B2.lt; have HB := btr HB HB.size b3; (try clear k0 k1 k2 k3 k4 m0 m1 m2 m3 m4); have k0 := B1.cell_ 0; have k1 := B1.cell_ 1; have k2 := B1.cell_ 2; have k3 := B1.cell_ 3; have k4 := B1.cell_ 4; have m0 := B2.cell_ 0; have m1 := B2.cell_ 1; have m2 := B2.cell_ 2; have m3 := B2.cell_ 3; have m4 := B2.cell_ 4; simp at k0 k1 k2 k3 k4 m0 m1 m2 m3 m4; clear b3))
            | (go_at_call 81; ((with_reducible refine (pBook_any s _ n.bk _ S1).mono ?_); rintro e' w4 ⟨rfl, b4⟩; rw [HI.out]; have S1 := S1.next b4; have T1 := T1.next b4; have A1 := (A1.below b4).mono_ (Below.size b4); have B1 := B1.below b4 B1.lt; have B2 := B2.below b4 B2.lt; have HB := btr HB HB.size b4; (try clear k0 k1 k2 k3 k4 m0 m1 m2 m3 m4); have k0 := B1.cell_ 0; have k1 := B1.cell_ 1; have k2 := B1.cell_ 2; have k3 := B1.cell_ 3; have k4 := B1.cell_ 4; have m0 := B2.cell_ 0; have m1 := B2.cell_ 1; have m2 := B2.cell_ 2; have m3 := B2.cell_ 3; have m4 := B2.cell_ 4; simp at k0 k1 k2 k3 k4 m0 m1 m2 m3 m4; clear b4))
            | (go_at_call 82; ((with_reducible refine (nTaken_any s _ n.bk n.nm n.id _ S1 _ HK.out).mono ?_); rintro e' w5 ⟨rfl, b5⟩; have S1 := S1.next b5; have T1 := T1.next b5; have A1 := (A1.below b5).mono_ (Below.size b5); have B1 := B1.below b5 B1.lt; have B2 := B2.below b5 B2.lt; have HB := btr HB HB.size b5; (try clear k0 k1 k2 k3 k4 m0 m1 m2 m3 m4); have k0 := B1.cell_ 0; have k1 := B1.cell_ 1; have k2 := B1.cell_ 2; have k3 := B1.cell_ 3; have k4 := B1.cell_ 4; have m0 := B2.cell_ 0; have m1 := B2.cell_ 1; have m2 := B2.cell_ 2; have m3 := B2.cell_ 3; have m4 := B2.cell_ 4; simp at k0 k1 k2 k3 k4 m0 m1 m2 m3 m4; clear b5))
            | (go_at_call 83; ((with_reducible refine (mayTags_any n.tg _ _ _ A1 htc htm T1 _ HG.out).mono ?_); rintro e' w6 ⟨rfl, b6⟩; have S1 := S1.next b6; have T1 := T1.next b6; have A1 := (A1.below b6).mono_ (Below.size b6); have B1 := B1.below b6 B1.lt; have B2 := B2.below b6 B2.lt; have HB := btr HB HB.size b6; (try clear k0 k1 k2 k3 k4 m0 m1 m2 m3 m4); have k0 := B1.cell_ 0; have k1 := B1.cell_ 1; have k2 := B1.cell_ 2; have k3 := B1.cell_ 3; have k4 := B1.cell_ 4; have m0 := B2.cell_ 0; have m1 := B2.cell_ 1; have m2 := B2.cell_ 2; have m3 := B2.cell_ 3; have m4 := B2.cell_ 4; simp at k0 k1 k2 k3 k4 m0 m1 m2 m3 m4; clear b6)))
          go_ret
          exact ⟨by first | (rw [← HE.out]; rfl) | (rw [← HE.out, decide_eq_true (by omega : (0 : Int) ≤ I)]; rfl) | (rw [← HE.out, decide_eq_false (by omega : ¬ (0 : Int) ≤ I)]; rfl), HB⟩
        · skip
          go_enter Tryd.func60, Tryd.ntmps60
          go_wp2_with (first
            | (go_at_call 46; ((with_reducible refine (nmay_any n.nm _ _ T1 HM.out).mono ?_); rintro e' w3 ⟨rfl, b3⟩; have S1 := S1.next b3; have T1 := T1.next b3; have A1 := (A1.below b3).mono_ (Below.size b3); have B1 := B1.below b3 B1.lt; have B2 := B2.below b3 B2.lt; have HB := btr HB HB.size b3; (try clear k0 k1 k2 k3 k4 m0 m1 m2 m3 m4); have k0 := B1.cell_ 0; have k1 := B1.cell_ 1; have k2 := B1.cell_ 2; have k3 := B1.cell_ 3; have k4 := B1.cell_ 4; have m0 := B2.cell_ 0; have m1 := B2.cell_ 1; have m2 := B2.cell_ 2; have m3 := B2.cell_ 3; have m4 := B2.cell_ 4; simp at k0 k1 k2 k3 k4 m0 m1 m2 m3 m4; clear b3))
            | (go_at_call 81; ((with_reducible refine (pBook_any s _ n.bk _ S1).mono ?_); rintro e' w4 ⟨rfl, b4⟩; rw [HI.out]; have S1 := S1.next b4; have T1 := T1.next b4; have A1 := (A1.below b4).mono_ (Below.size b4); have B1 := B1.below b4 B1.lt; have B2 := B2.below b4 B2.lt; have HB := btr HB HB.size b4; (try clear k0 k1 k2 k3 k4 m0 m1 m2 m3 m4); have k0 := B1.cell_ 0; have k1 := B1.cell_ 1; have k2 := B1.cell_ 2; have k3 := B1.cell_ 3; have k4 := B1.cell_ 4; have m0 := B2.cell_ 0; have m1 := B2.cell_ 1; have m2 := B2.cell_ 2; have m3 := B2.cell_ 3; have m4 := B2.cell_ 4; simp at k0 k1 k2 k3 k4 m0 m1 m2 m3 m4; clear b4))
            | (go_at_call 82; ((with_reducible refine (nTaken_any s _ n.bk n.nm n.id _ S1 _ HK.out).mono ?_); rintro e' w5 ⟨rfl, b5⟩; have S1 := S1.next b5; have T1 := T1.next b5; have A1 := (A1.below b5).mono_ (Below.size b5); have B1 := B1.below b5 B1.lt; have B2 := B2.below b5 B2.lt; have HB := btr HB HB.size b5; (try clear k0 k1 k2 k3 k4 m0 m1 m2 m3 m4); have k0 := B1.cell_ 0; have k1 := B1.cell_ 1; have k2 := B1.cell_ 2; have k3 := B1.cell_ 3; have k4 := B1.cell_ 4; have m0 := B2.cell_ 0; have m1 := B2.cell_ 1; have m2 := B2.cell_ 2; have m3 := B2.cell_ 3; have m4 := B2.cell_ 4; simp at k0 k1 k2 k3 k4 m0 m1 m2 m3 m4; clear b5))
            | (go_at_call 83; ((with_reducible refine (mayTags_any n.tg _ _ _ A1 htc htm T1 _ HG.out).mono ?_); rintro e' w6 ⟨rfl, b6⟩; have S1 := S1.next b6; have T1 := T1.next b6; have A1 := (A1.below b6).mono_ (Below.size b6); have B1 := B1.below b6 B1.lt; have B2 := B2.below b6 B2.lt; have HB := btr HB HB.size b6; (try clear k0 k1 k2 k3 k4 m0 m1 m2 m3 m4); have k0 := B1.cell_ 0; have k1 := B1.cell_ 1; have k2 := B1.cell_ 2; have k3 := B1.cell_ 3; have k4 := B1.cell_ 4; have m0 := B2.cell_ 0; have m1 := B2.cell_ 1; have m2 := B2.cell_ 2; have m3 := B2.cell_ 3; have m4 := B2.cell_ 4; simp at k0 k1 k2 k3 k4 m0 m1 m2 m3 m4; clear b6)))
          go_ret
          exact ⟨by first | (rw [← HE.out]; rfl) | (rw [← HE.out, decide_eq_true (by omega : (0 : Int) ≤ I)]; rfl) | (rw [← HE.out, decide_eq_false (by omega : ¬ (0 : Int) ≤ I)]; rfl), HB⟩
      · skip
        go_enter Tryd.func60, Tryd.ntmps60
        go_wp2_with (first
          | (go_at_call 46; ((with_reducible refine (nmay_any n.nm _ _ T1 HM.out).mono ?_); rintro e' w3 ⟨rfl, b3⟩; have S1 := S1.next b3; have T1 := T1.next b3; have A1 := (A1.below b3).mono_ (Below.size b3); have B1 := B1.below b3 B1.lt; have B2 := B2.below b3 B2.lt; have HB := btr HB HB.size b3; (try clear k0 k1 k2 k3 k4 m0 m1 m2 m3 m4); have k0 := B1.cell_ 0; have k1 := B1.cell_ 1; have k2 := B1.cell_ 2; have k3 := B1.cell_ 3; have k4 := B1.cell_ 4; have m0 := B2.cell_ 0; have m1 := B2.cell_ 1; have m2 := B2.cell_ 2; have m3 := B2.cell_ 3; have m4 := B2.cell_ 4; simp at k0 k1 k2 k3 k4 m0 m1 m2 m3 m4; clear b3))
          | (go_at_call 81; ((with_reducible refine (pBook_any s _ n.bk _ S1).mono ?_); rintro e' w4 ⟨rfl, b4⟩; rw [HI.out]; have S1 := S1.next b4; have T1 := T1.next b4; have A1 := (A1.below b4).mono_ (Below.size b4); have B1 := B1.below b4 B1.lt; have B2 := B2.below b4 B2.lt; have HB := btr HB HB.size b4; (try clear k0 k1 k2 k3 k4 m0 m1 m2 m3 m4); have k0 := B1.cell_ 0; have k1 := B1.cell_ 1; have k2 := B1.cell_ 2; have k3 := B1.cell_ 3; have k4 := B1.cell_ 4; have m0 := B2.cell_ 0; have m1 := B2.cell_ 1; have m2 := B2.cell_ 2; have m3 := B2.cell_ 3; have m4 := B2.cell_ 4; simp at k0 k1 k2 k3 k4 m0 m1 m2 m3 m4; clear b4))
          | (go_at_call 82; ((with_reducible refine (nTaken_any s _ n.bk n.nm n.id _ S1 _ HK.out).mono ?_); rintro e' w5 ⟨rfl, b5⟩; have S1 := S1.next b5; have T1 := T1.next b5; have A1 := (A1.below b5).mono_ (Below.size b5); have B1 := B1.below b5 B1.lt; have B2 := B2.below b5 B2.lt; have HB := btr HB HB.size b5; (try clear k0 k1 k2 k3 k4 m0 m1 m2 m3 m4); have k0 := B1.cell_ 0; have k1 := B1.cell_ 1; have k2 := B1.cell_ 2; have k3 := B1.cell_ 3; have k4 := B1.cell_ 4; have m0 := B2.cell_ 0; have m1 := B2.cell_ 1; have m2 := B2.cell_ 2; have m3 := B2.cell_ 3; have m4 := B2.cell_ 4; simp at k0 k1 k2 k3 k4 m0 m1 m2 m3 m4; clear b5))
          | (go_at_call 83; ((with_reducible refine (mayTags_any n.tg _ _ _ A1 htc htm T1 _ HG.out).mono ?_); rintro e' w6 ⟨rfl, b6⟩; have S1 := S1.next b6; have T1 := T1.next b6; have A1 := (A1.below b6).mono_ (Below.size b6); have B1 := B1.below b6 B1.lt; have B2 := B2.below b6 B2.lt; have HB := btr HB HB.size b6; (try clear k0 k1 k2 k3 k4 m0 m1 m2 m3 m4); have k0 := B1.cell_ 0; have k1 := B1.cell_ 1; have k2 := B1.cell_ 2; have k3 := B1.cell_ 3; have k4 := B1.cell_ 4; have m0 := B2.cell_ 0; have m1 := B2.cell_ 1; have m2 := B2.cell_ 2; have m3 := B2.cell_ 3; have m4 := B2.cell_ 4; simp at k0 k1 k2 k3 k4 m0 m1 m2 m3 m4; clear b6)))
        go_ret
        exact ⟨by first | (rw [← HE.out]; rfl) | (rw [← HE.out, decide_eq_true (by omega : (0 : Int) ≤ I)]; rfl) | (rw [← HE.out, decide_eq_false (by omega : ¬ (0 : Int) ≤ I)]; rfl), HB⟩
    · skip
      go_enter Tryd.func60, Tryd.ntmps60
      go_wp2_with (first
        | (go_at_call 46; ((with_reducible refine (nmay_any n.nm _ _ T1 HM.out).mono ?_); rintro e' w3 ⟨rfl, b3⟩; have S1 := S1.next b3; have T1 := T1.next b3; have A1 := (A1.below b3).mono_ (Below.size b3); have B1 := B1.below b3 B1.lt; have B2 := B2.below b3 B2.lt; have HB := btr HB HB.size b3; (try clear k0 k1 k2 k3 k4 m0 m1 m2 m3 m4); have k0 := B1.cell_ 0; have k1 := B1.cell_ 1; have k2 := B1.cell_ 2; have k3 := B1.cell_ 3; have k4 := B1.cell_ 4; have m0 := B2.cell_ 0; have m1 := B2.cell_ 1; have m2 := B2.cell_ 2; have m3 := B2.cell_ 3; have m4 := B2.cell_ 4; simp at k0 k1 k2 k3 k4 m0 m1 m2 m3 m4; clear b3))
        | (go_at_call 81; ((with_reducible refine (pBook_any s _ n.bk _ S1).mono ?_); rintro e' w4 ⟨rfl, b4⟩; rw [HI.out]; have S1 := S1.next b4; have T1 := T1.next b4; have A1 := (A1.below b4).mono_ (Below.size b4); have B1 := B1.below b4 B1.lt; have B2 := B2.below b4 B2.lt; have HB := btr HB HB.size b4; (try clear k0 k1 k2 k3 k4 m0 m1 m2 m3 m4); have k0 := B1.cell_ 0; have k1 := B1.cell_ 1; have k2 := B1.cell_ 2; have k3 := B1.cell_ 3; have k4 := B1.cell_ 4; have m0 := B2.cell_ 0; have m1 := B2.cell_ 1; have m2 := B2.cell_ 2; have m3 := B2.cell_ 3; have m4 := B2.cell_ 4; simp at k0 k1 k2 k3 k4 m0 m1 m2 m3 m4; clear b4))
        | (go_at_call 82; ((with_reducible refine (nTaken_any s _ n.bk n.nm n.id _ S1 _ HK.out).mono ?_); rintro e' w5 ⟨rfl, b5⟩; have S1 := S1.next b5; have T1 := T1.next b5; have A1 := (A1.below b5).mono_ (Below.size b5); have B1 := B1.below b5 B1.lt; have B2 := B2.below b5 B2.lt; have HB := btr HB HB.size b5; (try clear k0 k1 k2 k3 k4 m0 m1 m2 m3 m4); have k0 := B1.cell_ 0; have k1 := B1.cell_ 1; have k2 := B1.cell_ 2; have k3 := B1.cell_ 3; have k4 := B1.cell_ 4; have m0 := B2.cell_ 0; have m1 := B2.cell_ 1; have m2 := B2.cell_ 2; have m3 := B2.cell_ 3; have m4 := B2.cell_ 4; simp at k0 k1 k2 k3 k4 m0 m1 m2 m3 m4; clear b5))
        | (go_at_call 83; ((with_reducible refine (mayTags_any n.tg _ _ _ A1 htc htm T1 _ HG.out).mono ?_); rintro e' w6 ⟨rfl, b6⟩; have S1 := S1.next b6; have T1 := T1.next b6; have A1 := (A1.below b6).mono_ (Below.size b6); have B1 := B1.below b6 B1.lt; have B2 := B2.below b6 B2.lt; have HB := btr HB HB.size b6; (try clear k0 k1 k2 k3 k4 m0 m1 m2 m3 m4); have k0 := B1.cell_ 0; have k1 := B1.cell_ 1; have k2 := B1.cell_ 2; have k3 := B1.cell_ 3; have k4 := B1.cell_ 4; have m0 := B2.cell_ 0; have m1 := B2.cell_ 1; have m2 := B2.cell_ 2; have m3 := B2.cell_ 3; have m4 := B2.cell_ 4; simp at k0 k1 k2 k3 k4 m0 m1 m2 m3 m4; clear b6)))
      go_ret
      exact ⟨by first | (rw [← HE.out]; rfl) | (rw [← HE.out, decide_eq_true (by omega : (0 : Int) ≤ I)]; rfl) | (rw [← HE.out, decide_eq_false (by omega : ¬ (0 : Int) ≤ I)]; rfl), HB⟩
end Go.Proofs.YtkaoechjekffmaaDoor
namespace Go.Proofs.YtkaoechjekffmaaDoor
open Go.ChangeShapes Go.WideShapes Go.ChangeAt Go.RowKit
attribute [local go_sem ↓] Go.wp_at_zero Go.wp_at_succ
theorem books_next {s : Sf} {bf : Int} {l : List Bk} {k : Nat} {b : Bk} (h : l[k]? = some b) : booksFrom s bf (l.drop k) = (inI b.id (bf + 1) (s.nb - 1) && (mayN b.nm && (!bookTk s b.nm b.id && booksFrom s b.id (l.drop (k + 1))))) := by
  rw [drop_next h]
  rfl
theorem notes_next {s : Sf} {bf : Int} {l : List Nt} {k : Nat} {b : Nt} (h : l[k]? = some b) : notesFrom s bf (l.drop k) = (inI b.id (bf + 1) (s.nn - 1) && (mayNt s b && notesFrom s b.id (l.drop (k + 1)))) := by
  rw [drop_next h]
  rfl
theorem inI_bd {x lo hi : Int} (h : inI x lo hi = true) : lo ≤ x ∧ x ≤ hi := by
  simpa [inI] using h
theorem mayNote_at (s : Sf) (v : Value) (n : Nt) (At : Option Addr) (ct : Nat) (As : Option Addr) (cs : Nat) (w : World) (hS : ShR w w.heap.size v s) (hN0 : NtIn w w.heap.size n (ntC n (.slice At n.tg.length ct) (.slice As n.sh.length cs))) (hT : Tabs w) (T : Bool) (hB0 : mayNt s n = T) :
    Calls Tryd.prog 60 #[v, .agg #[.int .i64 n.id, .int .i64 n.bk, .string n.nm, .slice At n.tg.length ct, .slice As n.sh.length cs]] w fun e' w' => e' = .returned (.bool T) ∧ Below w.heap.size w w' := mayNote_any s v n _ w hS hN0 hT T hB0
theorem mayBooks_any (s : Sf) (v : Value) (w : World) (hS : ShR w w.heap.size v s) (hT : Tabs w) (h1 : 1 ≤ s.nb) (h2 : s.nb ≤ 65536) (T : Bool) (hT0 : (decide (s.bs.length ≤ 6) && booksFrom s 0 s.bs) = T) :
    Calls Tryd.prog 41 #[v] w fun e' w' => e' = .returned (.bool T) ∧ Below w.heap.size w w' := by
  have hS0 := hS
  obtain ⟨Ab, cb, An, cn, rfl, hB, hN, hcb, hmb, hcn, hmn⟩ := hS.ex
  clear hS
  obtain ⟨n, hn⟩ : ∃ n, s.bs.length = n := ⟨_, rfl⟩
  rw [hn] at hT0
  have HB : Below w.heap.size w (w.alloc (.cells #[.int .i64 s.nb, .int .i64 s.nn, .int .i64 s.ns, .slice Ab s.bs.length cb, .slice An s.ts.length cn] 25)) := ((Below.refl w.heap.size w).alloc (by first | (simp; done) | (simp; omega)) _)
  have B1 : Blk (w.alloc (.cells #[.int .i64 s.nb, .int .i64 s.nn, .int .i64 s.ns, .slice Ab s.bs.length cb, .slice An s.ts.length cn] 25)) w.heap.size 25 #[.int .i64 s.nb, .int .i64 s.nn, .int .i64 s.ns, .slice Ab s.bs.length cb, .slice An s.ts.length cn] := Blk.new_ w 25 #[.int .i64 s.nb, .int .i64 s.nn, .int .i64 s.ns, .slice Ab s.bs.length cb, .slice An s.ts.length cn]
  rw [hn] at hS0 B1 HB ⊢
  have HT := Lib.hid hT
  have HN := Lib.hid hn
  clear hn hT
  by_cases h4 : n ≤ 6
  · rw [decide_eq_true h4, Bool.true_and] at hT0
    have HTG : Hid (booksFrom s 0 (s.bs.drop 0) = T) := Lib.hid (by rw [List.drop_zero]; exact hT0)
    clear hT0
    go_enter Tryd.func41, Tryd.ntmps41
    go_wp2_with fail
    go_loopw [3, 13] (fun bv i wr => ∃ (k : Nat) (bf : Int), k ≤ n ∧ i = .int .i64 k ∧ bv = .int .i64 bf ∧ 0 ≤ bf ∧ bf ≤ 65535 ∧ Hid (booksFrom s bf (s.bs.drop k) = T) ∧ Below w.heap.size w wr ∧ Blk wr w.heap.size 25 #[.int .i64 s.nb, .int .i64 s.nn, .int .i64 s.ns, .slice Ab n cb, .slice An s.ts.length cn]) (fun _ i _ => n - (intOf i).toNat)
    case atStart => exact ⟨0, 0, by omega, rfl, rfl, by omega, by omega, HTG, HB, B1⟩
    case round =>
      obtain ⟨k, bf, hk, rfl, rfl, f0, f1, HK, HBr, Br⟩ := hrel
      clear HTG HB B1
      have B1 := Br
      clear Br
      have T1 := HT.out.next HBr
      have S1 := hS0.next HBr
      have k0 := B1.cell_ 0
      have k1 := B1.cell_ 1
      have k2 := B1.cell_ 2
      have k3 := B1.cell_ 3
      have k4 := B1.cell_ 4
      simp at k0 k1 k2 k3 k4
      by_cases hlt : k < n
      · have hlx : k < s.bs.length := by have := HN.out; omega
        have i0 : (0 : Int) ≤ (k : Int) := by omega
        have i1 : (k : Int) < (n : Int) := by omega
        obtain ⟨x, hx⟩ : ∃ x, s.bs[k]? = some x := ⟨_, List.getElem?_eq_getElem hlx⟩
        obtain ⟨b1, o1, rfl, l1, q1⟩ := SlE.at_ hB (by rw [List.length_map]; omega)
        have he : (s.bs.map bkC)[k]? = some (bkC x) := by rw [List.getElem?_map, hx]; rfl
        have y0 : wr.cell? ⟨b1, o1 + k * 2 + 0, none⟩ = some (.int .i64 x.id) := (HBr.cell (p := ⟨b1, _, none⟩) l1).trans (q1 k _ he 0 _ rfl)
        have y1 : wr.cell? ⟨b1, o1 + k * 2 + 1, none⟩ = some (.string x.nm) := (HBr.cell (p := ⟨b1, _, none⟩) l1).trans (q1 k _ he 1 _ rfl)
        simp only [Nat.add_zero] at y0
        have a1 : Below wr.heap.size wr (wr.alloc (.cells #[.int .i64 x.id, .string x.nm] 61)) := (Below.refl _ _).alloc (Nat.le_refl _) _
        have B2 : Blk (wr.alloc (.cells #[.int .i64 x.id, .string x.nm] 61)) wr.heap.size 61 #[.int .i64 x.id, .string x.nm] := Blk.new_ _ _ _
        have S1 := S1.next a1
        have T1 := T1.next a1
        have B1 := B1.below a1 B1.lt
        have HBr := btr HBr HBr.size a1
        clear a1 k0 k1 k2 k3 k4
        have ht := books_next hx (s := s) (bf := bf)
        rw [HK.out] at ht
        obtain ⟨R, hR⟩ : ∃ R, inI x.id (bf + 1) (s.nb - 1) = R := ⟨_, rfl⟩
        have HR := Lib.hid hR
        rw [hR] at ht
        obtain ⟨M, hM⟩ : ∃ M, mayN x.nm = M := ⟨_, rfl⟩
        have HM : Hid (nameB x.nm.data.toList = M) := Lib.hid hM
        obtain ⟨K, hK⟩ : ∃ K, bookTk s x.nm x.id = K := ⟨_, rfl⟩
        have HK2 := Lib.hid hK
        rw [hM, hK] at ht
        have HTT := Lib.hid ht
        clear ht hR hM hK q1 he hx hlx
        have k0 := B1.cell_ 0; have k1 := B1.cell_ 1; have k2 := B1.cell_ 2; have k3 := B1.cell_ 3; have k4 := B1.cell_ 4; have m0 := B2.cell_ 0; have m1 := B2.cell_ 1; simp at k0 k1 k2 k3 k4 m0 m1
        cases R
        · skip
          go_wp2_with (first | (go_at_call 40; ((with_reducible refine (within_any _ _ _ _ _ HR.out).mono ?_); rintro e' w3 ⟨rfl, rfl⟩)) | (go_at_call 46; ((with_reducible refine (nmay_any x.nm _ _ T1 HM.out).mono ?_); rintro e' w4 ⟨rfl, b4⟩; have S1 := S1.next b4; have T1 := T1.next b4; have B1 := B1.below b4 B1.lt; have B2 := B2.below b4 B2.lt; have HBr := btr HBr HBr.size b4; (try clear k0 k1 k2 k3 k4 m0 m1); have k0 := B1.cell_ 0; have k1 := B1.cell_ 1; have k2 := B1.cell_ 2; have k3 := B1.cell_ 3; have k4 := B1.cell_ 4; have m0 := B2.cell_ 0; have m1 := B2.cell_ 1; simp at k0 k1 k2 k3 k4 m0 m1; clear b4)) | (go_at_call 59; ((with_reducible refine (bTaken_any s _ x.nm x.id _ S1 _ HK2.out).mono ?_); rintro e' w5 ⟨rfl, b5⟩; have S1 := S1.next b5; have T1 := T1.next b5; have B1 := B1.below b5 B1.lt; have B2 := B2.below b5 B2.lt; have HBr := btr HBr HBr.size b5; (try clear k0 k1 k2 k3 k4 m0 m1); have k0 := B1.cell_ 0; have k1 := B1.cell_ 1; have k2 := B1.cell_ 2; have k3 := B1.cell_ 3; have k4 := B1.cell_ 4; have m0 := B2.cell_ 0; have m1 := B2.cell_ 1; simp at k0 k1 k2 k3 k4 m0 m1; clear b5)))
          go_ret
          exact ⟨by rw [HTT.out]; rfl, HBr⟩
        · cases M
          · skip
            go_wp2_with (first | (go_at_call 40; ((with_reducible refine (within_any _ _ _ _ _ HR.out).mono ?_); rintro e' w3 ⟨rfl, rfl⟩)) | (go_at_call 46; ((with_reducible refine (nmay_any x.nm _ _ T1 HM.out).mono ?_); rintro e' w4 ⟨rfl, b4⟩; have S1 := S1.next b4; have T1 := T1.next b4; have B1 := B1.below b4 B1.lt; have B2 := B2.below b4 B2.lt; have HBr := btr HBr HBr.size b4; (try clear k0 k1 k2 k3 k4 m0 m1); have k0 := B1.cell_ 0; have k1 := B1.cell_ 1; have k2 := B1.cell_ 2; have k3 := B1.cell_ 3; have k4 := B1.cell_ 4; have m0 := B2.cell_ 0; have m1 := B2.cell_ 1; simp at k0 k1 k2 k3 k4 m0 m1; clear b4)) | (go_at_call 59; ((with_reducible refine (bTaken_any s _ x.nm x.id _ S1 _ HK2.out).mono ?_); rintro e' w5 ⟨rfl, b5⟩; have S1 := S1.next b5; have T1 := T1.next b5; have B1 := B1.below b5 B1.lt; have B2 := B2.below b5 B2.lt; have HBr := btr HBr HBr.size b5; (try clear k0 k1 k2 k3 k4 m0 m1); have k0 := B1.cell_ 0; have k1 := B1.cell_ 1; have k2 := B1.cell_ 2; have k3 := B1.cell_ 3; have k4 := B1.cell_ 4; have m0 := B2.cell_ 0; have m1 := B2.cell_ 1; simp at k0 k1 k2 k3 k4 m0 m1; clear b5)))
            go_ret
            exact ⟨by rw [HTT.out]; rfl, HBr⟩
          · cases K
            · skip
              have hr := inI_bd HR.out
              have g0 := hr.1
              have g1 := hr.2
              clear hr
              go_wp2_with (first | (go_at_call 40; ((with_reducible refine (within_any _ _ _ _ _ HR.out).mono ?_); rintro e' w3 ⟨rfl, rfl⟩)) | (go_at_call 46; ((with_reducible refine (nmay_any x.nm _ _ T1 HM.out).mono ?_); rintro e' w4 ⟨rfl, b4⟩; have S1 := S1.next b4; have T1 := T1.next b4; have B1 := B1.below b4 B1.lt; have B2 := B2.below b4 B2.lt; have HBr := btr HBr HBr.size b4; (try clear k0 k1 k2 k3 k4 m0 m1); have k0 := B1.cell_ 0; have k1 := B1.cell_ 1; have k2 := B1.cell_ 2; have k3 := B1.cell_ 3; have k4 := B1.cell_ 4; have m0 := B2.cell_ 0; have m1 := B2.cell_ 1; simp at k0 k1 k2 k3 k4 m0 m1; clear b4)) | (go_at_call 59; ((with_reducible refine (bTaken_any s _ x.nm x.id _ S1 _ HK2.out).mono ?_); rintro e' w5 ⟨rfl, b5⟩; have S1 := S1.next b5; have T1 := T1.next b5; have B1 := B1.below b5 B1.lt; have B2 := B2.below b5 B2.lt; have HBr := btr HBr HBr.size b5; (try clear k0 k1 k2 k3 k4 m0 m1); have k0 := B1.cell_ 0; have k1 := B1.cell_ 1; have k2 := B1.cell_ 2; have k3 := B1.cell_ 3; have k4 := B1.cell_ 4; have m0 := B2.cell_ 0; have m1 := B2.cell_ 1; simp at k0 k1 k2 k3 k4 m0 m1; clear b5)))
              go_roundw
              case rel => exact ⟨k + 1, x.id, by omega, by go_num, rfl, by omega, by omega, Lib.hid (by rw [HTT.out]; rfl), HBr, B1⟩
              case measure => simp [intOf]; omega
            · skip
              go_wp2_with (first | (go_at_call 40; ((with_reducible refine (within_any _ _ _ _ _ HR.out).mono ?_); rintro e' w3 ⟨rfl, rfl⟩)) | (go_at_call 46; ((with_reducible refine (nmay_any x.nm _ _ T1 HM.out).mono ?_); rintro e' w4 ⟨rfl, b4⟩; have S1 := S1.next b4; have T1 := T1.next b4; have B1 := B1.below b4 B1.lt; have B2 := B2.below b4 B2.lt; have HBr := btr HBr HBr.size b4; (try clear k0 k1 k2 k3 k4 m0 m1); have k0 := B1.cell_ 0; have k1 := B1.cell_ 1; have k2 := B1.cell_ 2; have k3 := B1.cell_ 3; have k4 := B1.cell_ 4; have m0 := B2.cell_ 0; have m1 := B2.cell_ 1; simp at k0 k1 k2 k3 k4 m0 m1; clear b4)) | (go_at_call 59; ((with_reducible refine (bTaken_any s _ x.nm x.id _ S1 _ HK2.out).mono ?_); rintro e' w5 ⟨rfl, b5⟩; have S1 := S1.next b5; have T1 := T1.next b5; have B1 := B1.below b5 B1.lt; have B2 := B2.below b5 B2.lt; have HBr := btr HBr HBr.size b5; (try clear k0 k1 k2 k3 k4 m0 m1); have k0 := B1.cell_ 0; have k1 := B1.cell_ 1; have k2 := B1.cell_ 2; have k3 := B1.cell_ 3; have k4 := B1.cell_ 4; have m0 := B2.cell_ 0; have m1 := B2.cell_ 1; simp at k0 k1 k2 k3 k4 m0 m1; clear b5)))
              go_ret
              exact ⟨by rw [HTT.out]; rfl, HBr⟩
      · have hjn : k = n := by omega
        subst hjn
        have ht := HK.out
        rw [← HN.out, List.drop_length] at ht
        have HTT := Lib.hid ht
        clear hlt ht
        go_wp2_with fail
        go_ret
        exact ⟨by rw [← HTT.out]; rfl, HBr⟩
  · rw [decide_eq_false h4, Bool.false_and] at hT0
    subst hT0
    have q4 : (6 : Int) < (n : Int) := by omega
    clear h4 hS0
    go_enter Tryd.func41, Tryd.ntmps41
    go_wp2
    go_ret
    exact ⟨rfl, HB⟩
theorem mayNotes_any (s : Sf) (v : Value) (w : World) (hS : ShR w w.heap.size v s) (hT : Tabs w) (h1 : 1 ≤ s.nn) (h2 : s.nn ≤ 65536) (T : Bool) (hT0 : (decide (s.ts.length ≤ 12) && notesFrom s 0 s.ts) = T) :
    Calls Tryd.prog 42 #[v] w fun e' w' => e' = .returned (.bool T) ∧ Below w.heap.size w w' := by
  have hS0 := hS
  obtain ⟨Ab, cb, An, cn, rfl, hB, hN, hcb, hmb, hcn, hmn⟩ := hS.ex
  clear hS
  obtain ⟨n, hn⟩ : ∃ n, s.ts.length = n := ⟨_, rfl⟩
  rw [hn] at hT0
  have HB : Below w.heap.size w (w.alloc (.cells #[.int .i64 s.nb, .int .i64 s.nn, .int .i64 s.ns, .slice Ab s.bs.length cb, .slice An s.ts.length cn] 25)) := ((Below.refl w.heap.size w).alloc (by first | (simp; done) | (simp; omega)) _)
  have B1 : Blk (w.alloc (.cells #[.int .i64 s.nb, .int .i64 s.nn, .int .i64 s.ns, .slice Ab s.bs.length cb, .slice An s.ts.length cn] 25)) w.heap.size 25 #[.int .i64 s.nb, .int .i64 s.nn, .int .i64 s.ns, .slice Ab s.bs.length cb, .slice An s.ts.length cn] := Blk.new_ w 25 #[.int .i64 s.nb, .int .i64 s.nn, .int .i64 s.ns, .slice Ab s.bs.length cb, .slice An s.ts.length cn]
  rw [hn] at hS0 B1 HB ⊢
  have HT := Lib.hid hT
  have HN := Lib.hid hn
  clear hn hT
  by_cases h4 : n ≤ 12
  · rw [decide_eq_true h4, Bool.true_and] at hT0
    have HTG : Hid (notesFrom s 0 (s.ts.drop 0) = T) := Lib.hid (by rw [List.drop_zero]; exact hT0)
    clear hT0
    obtain ⟨es, hel, hse, hnt⟩ := hN.ex
    go_enter Tryd.func42, Tryd.ntmps42
    go_wp2_with fail
    go_loopw [3, 13] (fun bv i wr => ∃ (k : Nat) (bf : Int), k ≤ n ∧ i = .int .i64 k ∧ bv = .int .i64 bf ∧ 0 ≤ bf ∧ bf ≤ 65535 ∧ Hid (notesFrom s bf (s.ts.drop k) = T) ∧ Below w.heap.size w wr ∧ Blk wr w.heap.size 25 #[.int .i64 s.nb, .int .i64 s.nn, .int .i64 s.ns, .slice Ab s.bs.length cb, .slice An n cn]) (fun _ i _ => n - (intOf i).toNat)
    case atStart => exact ⟨0, 0, by omega, rfl, rfl, by omega, by omega, HTG, HB, B1⟩
    case round =>
      obtain ⟨k, bf, hk, rfl, rfl, f0, f1, HK, HBr, Br⟩ := hrel
      clear HTG HB B1
      have B1 := Br
      clear Br
      have T1 := HT.out.next HBr
      have S1 := hS0.next HBr
      have k0 := B1.cell_ 0
      have k1 := B1.cell_ 1
      have k2 := B1.cell_ 2
      have k3 := B1.cell_ 3
      have k4 := B1.cell_ 4
      simp at k0 k1 k2 k3 k4
      by_cases hlt : k < n
      · have hlx : k < s.ts.length := by have := HN.out; omega
        have i0 : (0 : Int) ≤ (k : Int) := by omega
        have i1 : (k : Int) < (n : Int) := by omega
        obtain ⟨x, hx⟩ : ∃ x, s.ts[k]? = some x := ⟨_, List.getElem?_eq_getElem hlx⟩
        obtain ⟨e0, he⟩ : ∃ e, es[k]? = some e := ⟨_, List.getElem?_eq_getElem (by omega)⟩
        have hin := hnt k x e0 hx he
        obtain ⟨At, ct, As, cs, rfl, -⟩ := hin.ex
        obtain ⟨b1, o1, rfl, l1, q1⟩ := hse.at_ (by omega)
        have N1 := (hin.below HBr).mono HBr.size
        have y0 : wr.cell? ⟨b1, o1 + k * 5 + 0, none⟩ = some (.int .i64 x.id) := (HBr.cell (p := ⟨b1, _, none⟩) l1).trans (q1 k _ he 0 _ rfl)
        have y1 : wr.cell? ⟨b1, o1 + k * 5 + 1, none⟩ = some (.int .i64 x.bk) := (HBr.cell (p := ⟨b1, _, none⟩) l1).trans (q1 k _ he 1 _ rfl)
        have y2 : wr.cell? ⟨b1, o1 + k * 5 + 2, none⟩ = some (.string x.nm) := (HBr.cell (p := ⟨b1, _, none⟩) l1).trans (q1 k _ he 2 _ rfl)
        have y3 : wr.cell? ⟨b1, o1 + k * 5 + 3, none⟩ = some (.slice At x.tg.length ct) := (HBr.cell (p := ⟨b1, _, none⟩) l1).trans (q1 k _ he 3 _ rfl)
        have y4 : wr.cell? ⟨b1, o1 + k * 5 + 4, none⟩ = some (.slice As x.sh.length cs) := (HBr.cell (p := ⟨b1, _, none⟩) l1).trans (q1 k _ he 4 _ rfl)
        simp only [Nat.add_zero] at y0
        have a1 : Below wr.heap.size wr (wr.alloc (.cells #[.int .i64 x.id, .int .i64 x.bk, .string x.nm, .slice At x.tg.length ct, .slice As x.sh.length cs] 49)) := (Below.refl _ _).alloc (Nat.le_refl _) _
        have B2 : Blk (wr.alloc (.cells #[.int .i64 x.id, .int .i64 x.bk, .string x.nm, .slice At x.tg.length ct, .slice As x.sh.length cs] 49)) wr.heap.size 49 #[.int .i64 x.id, .int .i64 x.bk, .string x.nm, .slice At x.tg.length ct, .slice As x.sh.length cs] := Blk.new_ _ _ _
        have S1 := S1.next a1
        have T1 := T1.next a1
        have B1 := B1.below a1 B1.lt
        have HBr := btr HBr HBr.size a1
        have N1 := (N1.below a1).mono a1.size
        clear a1 k0 k1 k2 k3 k4
        have ht := notes_next hx (s := s) (bf := bf)
        rw [HK.out] at ht
        obtain ⟨R, hR⟩ : ∃ R, inI x.id (bf + 1) (s.nn - 1) = R := ⟨_, rfl⟩
        have HR := Lib.hid hR
        rw [hR] at ht
        obtain ⟨M, hM⟩ : ∃ M, mayNt s x = M := ⟨_, rfl⟩
        have HM := Lib.hid hM
        rw [hM] at ht
        have HX := Lib.hid hx
        have HTT := Lib.hid ht
        clear ht hR hM q1 he hx hlx
        have k0 := B1.cell_ 0; have k1 := B1.cell_ 1; have k2 := B1.cell_ 2; have k3 := B1.cell_ 3; have k4 := B1.cell_ 4; have m0 := B2.cell_ 0; have m1 := B2.cell_ 1; have m2 := B2.cell_ 2; have m3 := B2.cell_ 3; have m4 := B2.cell_ 4; simp at k0 k1 k2 k3 k4 m0 m1 m2 m3 m4
        cases R
        · skip
          go_wp2_with (first | (go_at_call 40; ((with_reducible refine (within_any _ _ _ _ _ HR.out).mono ?_); rintro e' w3 ⟨rfl, rfl⟩)) | (go_at_call 60; ((with_reducible refine (mayNote_at s _ x At ct As cs _ S1 N1 T1 _ HM.out).mono ?_); rintro e' w4 ⟨rfl, b4⟩; have S1 := S1.next b4; have T1 := T1.next b4; have B1 := B1.below b4 B1.lt; have B2 := B2.below b4 B2.lt; have HBr := btr HBr HBr.size b4; (try clear k0 k1 k2 k3 k4 m0 m1 m2 m3 m4); have k0 := B1.cell_ 0; have k1 := B1.cell_ 1; have k2 := B1.cell_ 2; have k3 := B1.cell_ 3; have k4 := B1.cell_ 4; have m0 := B2.cell_ 0; have m1 := B2.cell_ 1; have m2 := B2.cell_ 2; have m3 := B2.cell_ 3; have m4 := B2.cell_ 4; simp at k0 k1 k2 k3 k4 m0 m1 m2 m3 m4; clear b4)))
          go_ret
          exact ⟨by rw [HTT.out]; rfl, HBr⟩
        · cases M
          · skip
            go_wp2_with (first | (go_at_call 40; ((with_reducible refine (within_any _ _ _ _ _ HR.out).mono ?_); rintro e' w3 ⟨rfl, rfl⟩)) | (go_at_call 60; ((with_reducible refine (mayNote_at s _ x At ct As cs _ S1 N1 T1 _ HM.out).mono ?_); rintro e' w4 ⟨rfl, b4⟩; have S1 := S1.next b4; have T1 := T1.next b4; have B1 := B1.below b4 B1.lt; have B2 := B2.below b4 B2.lt; have HBr := btr HBr HBr.size b4; (try clear k0 k1 k2 k3 k4 m0 m1 m2 m3 m4); have k0 := B1.cell_ 0; have k1 := B1.cell_ 1; have k2 := B1.cell_ 2; have k3 := B1.cell_ 3; have k4 := B1.cell_ 4; have m0 := B2.cell_ 0; have m1 := B2.cell_ 1; have m2 := B2.cell_ 2; have m3 := B2.cell_ 3; have m4 := B2.cell_ 4; simp at k0 k1 k2 k3 k4 m0 m1 m2 m3 m4; clear b4)))
            go_ret
            exact ⟨by rw [HTT.out]; rfl, HBr⟩
          · skip
            have hr := inI_bd HR.out
            have g0 := hr.1
            have g1 := hr.2
            clear hr
            go_wp2_with (first | (go_at_call 40; ((with_reducible refine (within_any _ _ _ _ _ HR.out).mono ?_); rintro e' w3 ⟨rfl, rfl⟩)) | (go_at_call 60; ((with_reducible refine (mayNote_at s _ x At ct As cs _ S1 N1 T1 _ HM.out).mono ?_); rintro e' w4 ⟨rfl, b4⟩; have S1 := S1.next b4; have T1 := T1.next b4; have B1 := B1.below b4 B1.lt; have B2 := B2.below b4 B2.lt; have HBr := btr HBr HBr.size b4; (try clear k0 k1 k2 k3 k4 m0 m1 m2 m3 m4); have k0 := B1.cell_ 0; have k1 := B1.cell_ 1; have k2 := B1.cell_ 2; have k3 := B1.cell_ 3; have k4 := B1.cell_ 4; have m0 := B2.cell_ 0; have m1 := B2.cell_ 1; have m2 := B2.cell_ 2; have m3 := B2.cell_ 3; have m4 := B2.cell_ 4; simp at k0 k1 k2 k3 k4 m0 m1 m2 m3 m4; clear b4)))
            go_roundw
            case rel => exact ⟨k + 1, x.id, by omega, by go_num, rfl, by omega, by omega, Lib.hid (by rw [HTT.out]; rfl), HBr, B1⟩
            case measure => simp [intOf]; omega
      · have hjn : k = n := by omega
        subst hjn
        have ht := HK.out
        rw [← HN.out, List.drop_length] at ht
        have HTT := Lib.hid ht
        clear hlt ht
        go_wp2_with fail
        go_ret
        exact ⟨by rw [← HTT.out]; rfl, HBr⟩
  · rw [decide_eq_false h4, Bool.false_and] at hT0
    subst hT0
    have q4 : (12 : Int) < (n : Int) := by omega
    clear h4 hS0
    go_enter Tryd.func42, Tryd.ntmps42
    go_wp2
    go_ret
    exact ⟨rfl, HB⟩
end Go.Proofs.YtkaoechjekffmaaDoor
namespace Go.Proofs.YtkaoechjekffmaaDoor
open Go.ChangeShapes Go.WideShapes Go.ChangeAt Go.RowKit
attribute [local go_sem ↓] Go.wp_at_zero Go.wp_at_succ
theorem own_cur {w : World} {base g n : Nat} {e : TypeId} {xs : List Value} (h : w.ownsRow base e 1 (.slice (some ⟨g, 0, none⟩) n n) n xs) : w.heap[g]? = some (.cells xs.toArray e (0, 0)) := by
  obtain ⟨hl, h⟩ := h
  rcases h with ⟨h0, _⟩ | ⟨g', cap, cur, hv, _, hh, hnc, _, hsz, ht⟩
  · cases h0
  · cases hv
    have : cur = xs.toArray := by
      rw [← ht]
      have hl2 : cur.toList.length = n * 1 := by simpa using hsz
      rw [List.take_of_length_le (by omega)]
    rw [← this]
    exact hh
theorem infoBool : (Tryd.prog.info? 4).map (fun i => (i.zero, i.size, i.bytes)) = some (some (.bool false), 1, 1) := by kernel_rfl
def takV (n : Nat) (seen : List Int) : Array Value := ((List.range n).map fun (i : Nat) => Value.bool (seen.contains (i : Int))).toArray
theorem takV_get (n : Nat) (seen : List Int) (k : Nat) (h : k < n) : (takV n seen)[k]? = some (.bool (seen.contains (k : Int))) := by
  unfold takV
  rw [List.getElem?_toArray, List.getElem?_map, List.getElem?_range h]
  rfl
theorem takV_nil (n : Nat) : (List.replicate n (Value.bool false)).toArray = takV n [] := by
  apply Array.ext_getElem?
  intro i
  by_cases hi : i < n
  · rw [takV_get _ _ _ hi, List.getElem?_toArray, List.getElem?_replicate, if_pos hi]
    rfl
  · rw [Array.getElem?_eq_none (by simp; omega), Array.getElem?_eq_none (by simp [takV]; omega)]
theorem takV_set (n : Nat) (seen : List Int) (k : Nat) (h : k < n) : (takV n seen).setIfInBounds k (.bool true) = takV n ((k : Int) :: seen) := by
  apply Array.ext_getElem?
  intro i
  rw [Array.getElem?_setIfInBounds]
  have hs : (takV n seen).size = n := by simp [takV]
  by_cases hik : k = i
  · subst hik
    rw [if_pos rfl, if_pos (by omega), takV_get _ _ _ h]
    simp
  · rw [if_neg hik]
    by_cases hi : i < n
    · rw [takV_get _ _ _ hi, takV_get _ _ _ hi, List.contains_cons]
      have : ((i : Int) == (k : Int)) = false := by
        simp only [beq_eq_false_iff_ne, ne_eq]
        omega
      rw [this, Bool.false_or]
    · rw [Array.getElem?_eq_none (by omega), Array.getElem?_eq_none (by simp [takV]; omega)]
theorem sh_next {ns : Int} {seen : List Int} {l : List Int} {j : Nat} {y : Int} {r : List Nt} (h : l[j]? = some y) : (sheetsIn ns seen (l.drop j) && sheetsFrom ns ((l.drop j).reverse ++ seen) r) = (inI y 1 (ns - 1) && (!seen.contains y && (sheetsIn ns (y :: seen) (l.drop (j + 1)) && sheetsFrom ns ((l.drop (j + 1)).reverse ++ (y :: seen)) r))) := by
  rw [drop_next h]
  have e : (y :: l.drop (j + 1)).reverse ++ seen = (l.drop (j + 1)).reverse ++ (y :: seen) := by simp
  rw [e]
  show ((inI y 1 (ns - 1) && (!seen.contains y && sheetsIn ns (y :: seen) (l.drop (j + 1)))) && _) = _
  rw [Bool.and_assoc, Bool.and_assoc]
theorem sh_end {ns : Int} {seen : List Int} {l : List Int} {r : List Nt} : (sheetsIn ns seen (l.drop l.length) && sheetsFrom ns ((l.drop l.length).reverse ++ seen) r) = sheetsFrom ns seen r := by
  rw [List.drop_length]
  rfl
theorem shs_next {ns : Int} {seen : List Int} {l : List Nt} {k : Nat} {x : Nt} (h : l[k]? = some x) : sheetsFrom ns seen (l.drop k) = (decide (x.sh.length ≤ 8) && (sheetsIn ns seen (x.sh.drop 0) && sheetsFrom ns ((x.sh.drop 0).reverse ++ seen) (l.drop (k + 1)))) := by
  rw [drop_next h]
  rfl
theorem maySheets_any (s : Sf) (v : Value) (w : World) (hS : ShR w w.heap.size v s) (h1 : 1 ≤ s.ns) (h2 : s.ns ≤ 4096) (T : Bool) (hT0 : sheetsFrom s.ns [] s.ts = T) :
    Calls Tryd.prog 43 #[v] w fun e' w' => e' = .returned (.bool T) ∧ Below w.heap.size w w' := by
  obtain ⟨Ab, cb, An, cn, rfl, hB, hN, hcb, hmb, hcn, hmn⟩ := hS.ex
  clear hS
  obtain ⟨m, hm⟩ : ∃ m, s.ts.length = m := ⟨_, rfl⟩
  obtain ⟨N, hNs⟩ : ∃ N : Nat, s.ns = (N : Int) := ⟨s.ns.toNat, by omega⟩
  have n1 : 1 ≤ N := by omega
  have n2 : N ≤ 4096 := by omega
  have HB : Below w.heap.size w (w.alloc (.cells #[.int .i64 s.nb, .int .i64 s.nn, .int .i64 s.ns, .slice Ab s.bs.length cb, .slice An s.ts.length cn] 25)) := ((Below.refl w.heap.size w).alloc (by first | (simp; done) | (simp; omega)) _)
  have B1 : Blk (w.alloc (.cells #[.int .i64 s.nb, .int .i64 s.nn, .int .i64 s.ns, .slice Ab s.bs.length cb, .slice An s.ts.length cn] 25)) w.heap.size 25 #[.int .i64 s.nb, .int .i64 s.nn, .int .i64 s.ns, .slice Ab s.bs.length cb, .slice An s.ts.length cn] := Blk.new_ w 25 #[.int .i64 s.nb, .int .i64 s.nn, .int .i64 s.ns, .slice Ab s.bs.length cb, .slice An s.ts.length cn]
  rw [hm] at B1 HB hcn ⊢
  rw [hNs] at B1 HB h1 h2 hT0 ⊢
  have m9 : m ≤ 9223372036854775807 := by
    have h0 : cn ≤ maxLen := hmn
    unfold maxLen at h0
    omega
  have HM := Lib.hid hm
  have HTG : Hid (sheetsFrom (N : Int) [] (s.ts.drop 0) = T) := Lib.hid (by rw [List.drop_zero]; exact hT0)
  have HNS := Lib.hid hNs
  obtain ⟨es, hel, hse, hnt⟩ := hN.ex
  have HEL := Lib.hid hel
  clear hT0 hm hNs hel
  have i0 : (0 : Int) ≤ (N : Int) := by omega
  have i1 : (N : Int) ≤ 4096 := by omega
  go_enter Tryd.func43, Tryd.ntmps43
  go_upto_region 2 with (at_make; obtain ⟨ti0, hi, hz0, hz1, hz2⟩ := info_parts infoBool; refine wpList_make_full _ rfl _ _ 90 rfl (w.heap.size + 1) 4 ti0 (.bool false) 1 Tryd.underlying90 hi hz0 hz1 _ _ _ _ N rfl rfl rfl rfl (by rw [hz2]; omega) (by unfold maxLen; omega) (by simp) ?_; intro w1 hown1 hgrow1; clear hi hz0 hz1 hz2)
  have hsz : ((w.alloc (.cells #[.int .i64 s.nb, .int .i64 s.nn, .int .i64 (N : Int), .slice Ab s.bs.length cb, .slice An m cn] 25))).heap.size = w.heap.size + 1 := by simp
  have hcur := own_cur hown1
  rw [hsz] at hcur
  rw [show (madeCells (Value.bool false).cells (N * 1)).toList = List.replicate (N * 1) (Value.bool false) from toList_madeCells_one _ _, Nat.mul_one, takV_nil] at hcur
  have hb1 : Below (w.heap.size + 1) ((w.alloc (.cells #[.int .i64 s.nb, .int .i64 s.nn, .int .i64 (N : Int), .slice Ab s.bs.length cb, .slice An m cn] 25))) w1 := (Below.refl _ _).grown hgrow1 (by simp) (fun j hj => by cases hj)
  have HB1 : Below w.heap.size w w1 := HB.trans (hb1.mono (by omega))
  have B1' := B1.below hb1 (by omega)
  have R1 : Blk w1 (w.heap.size + 1) 4 (takV N []) := hcur
  clear hcur hown1 hgrow1 hb1 B1 HB
  have B1 := B1'
  clear B1'
  have k0 := B1.cell_ 0
  have k1 := B1.cell_ 1
  have k2 := B1.cell_ 2
  have k3 := B1.cell_ 3
  have k4 := B1.cell_ 4
  simp at k0 k1 k2 k3 k4
  go_wp2_with fail
  go_loopw [14] (fun i wr => ∃ (k : Nat) (seen : List Int), k ≤ m ∧ i = .int .i64 k ∧ Hid (sheetsFrom (N : Int) seen (s.ts.drop k) = T) ∧ Below w.heap.size w wr ∧ Blk wr w.heap.size 25 #[.int .i64 s.nb, .int .i64 s.nn, .int .i64 (N : Int), .slice Ab s.bs.length cb, .slice An m cn] ∧ Blk wr (w.heap.size + 1) 4 (takV N seen)) (fun i _ => m - (intOf i).toNat)
  case atStart => exact ⟨0, [], by omega, rfl, HTG, HB1, B1, R1⟩
  case round =>
    obtain ⟨k, seen, hk, rfl, HK, HBr, Br, Rr⟩ := hrel
    clear HTG HB1 B1 R1 k0 k1 k2 k3 k4 w1
    have k0 := Br.cell_ 0
    have k1 := Br.cell_ 1
    have k2 := Br.cell_ 2
    have k3 := Br.cell_ 3
    have k4 := Br.cell_ 4
    simp at k0 k1 k2 k3 k4
    by_cases hlt : k < m
    · have hlx : k < s.ts.length := by have := HM.out; omega
      have j0 : (0 : Int) ≤ (k : Int) := by omega
      have j1 : (k : Int) < (m : Int) := by omega
      obtain ⟨x, hx⟩ : ∃ x, s.ts[k]? = some x := ⟨_, List.getElem?_eq_getElem hlx⟩
      obtain ⟨e0, he⟩ : ∃ e, es[k]? = some e := ⟨_, List.getElem?_eq_getElem (by have := HEL.out; omega)⟩
      have hin := hnt k x e0 hx he
      obtain ⟨At, ct, As, cs, rfl, -, hAs, -, -, hsc, hsm⟩ := hin.ex
      obtain ⟨b1, o1, rfl, l1, q1⟩ := hse.at_ (by have := HEL.out; omega)
      have y0 : wr.cell? ⟨b1, o1 + k * 5 + 0, none⟩ = some (.int .i64 x.id) := (HBr.cell (p := ⟨b1, _, none⟩) l1).trans (q1 k _ he 0 _ rfl)
      have y1 : wr.cell? ⟨b1, o1 + k * 5 + 1, none⟩ = some (.int .i64 x.bk) := (HBr.cell (p := ⟨b1, _, none⟩) l1).trans (q1 k _ he 1 _ rfl)
      have y2 : wr.cell? ⟨b1, o1 + k * 5 + 2, none⟩ = some (.string x.nm) := (HBr.cell (p := ⟨b1, _, none⟩) l1).trans (q1 k _ he 2 _ rfl)
      have y3 : wr.cell? ⟨b1, o1 + k * 5 + 3, none⟩ = some (.slice At x.tg.length ct) := (HBr.cell (p := ⟨b1, _, none⟩) l1).trans (q1 k _ he 3 _ rfl)
      have y4 : wr.cell? ⟨b1, o1 + k * 5 + 4, none⟩ = some (.slice As x.sh.length cs) := (HBr.cell (p := ⟨b1, _, none⟩) l1).trans (q1 k _ he 4 _ rfl)
      simp only [Nat.add_zero] at y0
      have a1 : Below wr.heap.size wr (wr.alloc (.cells #[.int .i64 x.id, .int .i64 x.bk, .string x.nm, .slice At x.tg.length ct, .slice As x.sh.length cs] 49)) := (Below.refl _ _).alloc (Nat.le_refl _) _
      have B2 : Blk (wr.alloc (.cells #[.int .i64 x.id, .int .i64 x.bk, .string x.nm, .slice At x.tg.length ct, .slice As x.sh.length cs] 49)) wr.heap.size 49 #[.int .i64 x.id, .int .i64 x.bk, .string x.nm, .slice At x.tg.length ct, .slice As x.sh.length cs] := Blk.new_ _ _ _
      have B1 := Br.below a1 Br.lt
      have R1 := Rr.below a1 Rr.lt
      have HBr := btr HBr HBr.size a1
      have g2 : w.heap.size + 1 < wr.heap.size := Rr.lt
      clear a1 k0 k1 k2 k3 k4 Br Rr
      have k0 := B1.cell_ 0
      have k1 := B1.cell_ 1
      have k2 := B1.cell_ 2
      have k3 := B1.cell_ 3
      have k4 := B1.cell_ 4
      simp at k0 k1 k2 k3 k4
      have ht := shs_next hx (ns := (N : Int)) (seen := seen)
      rw [HK.out] at ht
      obtain ⟨q, hq⟩ : ∃ q, x.sh.length = q := ⟨_, rfl⟩
      have HQ := Lib.hid hq
      rw [hq] at ht hsc B1 R1 HBr B2 y4
      by_cases h8 : q ≤ 8
      · rw [decide_eq_true h8, Bool.true_and] at ht
        have HT0 := Lib.hid ht.symm
        clear ht hq hx he q1 hin
        go_wp2_with fail
        go_loopw [25] (fun i wq => ∃ (j : Nat) (sn : List Int), j ≤ q ∧ i = .int .i64 j ∧ Hid ((sheetsIn (N : Int) sn (x.sh.drop j) && sheetsFrom (N : Int) ((x.sh.drop j).reverse ++ sn) (s.ts.drop (k + 1))) = T) ∧ Below w.heap.size w wq ∧ Blk wq w.heap.size 25 #[.int .i64 s.nb, .int .i64 s.nn, .int .i64 (N : Int), .slice Ab s.bs.length cb, .slice (some ⟨b1, o1, none⟩) m cn] ∧ Blk wq (w.heap.size + 1) 4 (takV N sn)) (fun i _ => q - (intOf i).toNat)
        case atStart => exact ⟨0, seen, by omega, rfl, HT0, HBr, B1, R1⟩
        case round =>
          obtain ⟨j, sn, hj, rfl, HJ, HBq, Bq, Rq⟩ := hrel
          clear HT0 HBr B1 R1 k0 k1 k2 k3 k4 B2
          have k0 := Bq.cell_ 0
          have k1 := Bq.cell_ 1
          have k2 := Bq.cell_ 2
          have k3 := Bq.cell_ 3
          have k4 := Bq.cell_ 4
          simp at k0 k1 k2 k3 k4
          by_cases hlq : j < q
          · have hlj : j < x.sh.length := by have := HQ.out; omega
            have u0 : (0 : Int) ≤ (j : Int) := by omega
            have u1 : (j : Int) < (q : Int) := by omega
            obtain ⟨z, hz⟩ : ∃ z, x.sh[j]? = some z := ⟨_, List.getElem?_eq_getElem hlj⟩
            obtain ⟨b2, o2, rfl, l2, q2⟩ := (hAs.below HBq).at_ (by rw [List.length_map]; omega)
            have cz : wr.cell? ⟨b2, o2 + j, none⟩ = some (.int .i64 z) := q2 j _ (by rw [List.getElem?_map, hz]; rfl)
            have hs := sh_next hz (ns := (N : Int)) (seen := sn) (r := s.ts.drop (k + 1))
            rw [HJ.out] at hs
            obtain ⟨R, hR⟩ : ∃ R, inI z 1 ((N : Int) - 1) = R := ⟨_, rfl⟩
            have HR := Lib.hid hR
            rw [hR] at hs
            cases R
            · have HTT := Lib.hid hs
              clear hs hR hz q2
              go_wp2_with (go_at_call 40; ((with_reducible refine (within_any _ _ _ _ _ HR.out).mono ?_); rintro e' w3 ⟨rfl, rfl⟩))
              go_ret
              exact ⟨by rw [HTT.out]; rfl, HBq⟩
            · have hr := inI_bd hR
              obtain ⟨Z, rfl⟩ : ∃ Z : Nat, z = (Z : Int) := ⟨z.toNat, by omega⟩
              have z1 : 1 ≤ Z := by omega
              have z2 : Z < N := by omega
              have z3 : (0 : Int) ≤ (Z : Int) := by omega
              have z4 : (Z : Int) < (N : Int) := by omega
              obtain ⟨S, hS⟩ : ∃ S, sn.contains (Z : Int) = S := ⟨_, rfl⟩
              have ct1 : wr.cell? ⟨w.heap.size + 1, Z, none⟩ = some (.bool S) := by rw [Rq.cell_, takV_get N sn Z z2, hS]
              rw [hS] at hs
              cases S
              · have HTT := Lib.hid hs.symm
                have HST := takV_set N sn Z z2
                have RZ := Rq.set_ Z (.bool true)
                rw [HST] at RZ
                have BZ := Bq.far (p := ⟨w.heap.size + 1, Z, none⟩) (by show w.heap.size ≠ w.heap.size + 1; omega) (.bool true)
                have fz := Rq.free Z
                have HRZ := Lib.hid RZ
                have HBZ := Lib.hid BZ
                have HRL := Rq.lt
                clear hs hR hz q2 hr HST RZ BZ hS
                go_wp2_with (go_at_call 40; ((with_reducible refine (within_any _ _ _ _ _ HR.out).mono ?_); rintro e' w3 ⟨rfl, rfl⟩))
                go_roundw
                case rel => exact ⟨j + 1, (Z : Int) :: sn, by omega, by go_num, Lib.hid HTT.out, HBq.setCell (p := ⟨w.heap.size + 1, Z, none⟩) (by show w.heap.size ≤ w.heap.size + 1; omega) _, HBZ.out, HRZ.out⟩
                case measure => simp [intOf]; omega
              · have HTT := Lib.hid hs
                clear hs hR hz q2 hr hS
                go_wp2_with (go_at_call 40; ((with_reducible refine (within_any _ _ _ _ _ HR.out).mono ?_); rintro e' w3 ⟨rfl, rfl⟩))
                go_ret
                exact ⟨by rw [HTT.out]; rfl, HBq⟩
          · have hjn : j = q := by omega
            subst hjn
            have hs := HJ.out
            rw [← HQ.out, sh_end] at hs
            have HTT := Lib.hid hs
            clear hlq hs
            go_wp2_with fail
            go_roundw
            case rel => exact ⟨k + 1, sn, by omega, by go_num, HTT, HBq, Bq, Rq⟩
            case measure => simp [intOf]; omega
      · rw [decide_eq_false h8, Bool.false_and] at ht
        have HT0 := Lib.hid ht
        have p8 : (8 : Int) < (q : Int) := by omega
        clear ht hq hx he q1 hin
        go_wp2_with fail
        go_ret
        exact ⟨by rw [HT0.out]; rfl, HBr⟩
    · have hjn : k = m := by omega
      subst hjn
      have ht := HK.out
      rw [← HM.out, List.drop_length] at ht
      have HTT := Lib.hid ht
      clear hlt ht
      go_wp2_with fail
      go_ret
      exact ⟨by rw [← HTT.out]; rfl, HBr⟩
end Go.Proofs.YtkaoechjekffmaaDoor
namespace Go.Proofs.YtkaoechjekffmaaDoor
open Go.ChangeShapes Go.WideShapes Go.ChangeAt Go.RowKit
attribute [local go_sem ↓] Go.wp_at_zero Go.wp_at_succ
theorem smay_any (s : Sf) (v : Value) (w : World) (hS : ShR w w.heap.size v s) (hT : Tabs w) (T : Bool) (hT0 : mayS s = T) :
    Calls Tryd.prog 17 #[v] w fun e' w' => e' = .returned (.bool T) ∧ Below w.heap.size w w' := by
  have hS0 := hS
  obtain ⟨Ab, cb, An, cn, rfl, hB, hN, hcb, hmb, hcn, hmn⟩ := hS.ex
  clear hS
  have HB : Below w.heap.size w (w.alloc (.cells #[.int .i64 s.nb, .int .i64 s.nn, .int .i64 s.ns, .slice Ab s.bs.length cb, .slice An s.ts.length cn] 25)) := ((Below.refl w.heap.size w).alloc (by first | (simp; done) | (simp; omega)) _)
  have B1 : Blk (w.alloc (.cells #[.int .i64 s.nb, .int .i64 s.nn, .int .i64 s.ns, .slice Ab s.bs.length cb, .slice An s.ts.length cn] 25)) w.heap.size 25 #[.int .i64 s.nb, .int .i64 s.nn, .int .i64 s.ns, .slice Ab s.bs.length cb, .slice An s.ts.length cn] := Blk.new_ w 25 #[.int .i64 s.nb, .int .i64 s.nn, .int .i64 s.ns, .slice Ab s.bs.length cb, .slice An s.ts.length cn]
  have S1 : ShR (w.alloc (.cells #[.int .i64 s.nb, .int .i64 s.nn, .int .i64 s.ns, .slice Ab s.bs.length cb, .slice An s.ts.length cn] 25)) ((w.alloc (.cells #[.int .i64 s.nb, .int .i64 s.nn, .int .i64 s.ns, .slice Ab s.bs.length cb, .slice An s.ts.length cn] 25))).heap.size (.agg #[.int .i64 s.nb, .int .i64 s.nn, .int .i64 s.ns, .slice Ab s.bs.length cb, .slice An s.ts.length cn]) s := hS0.next HB
  have T1 := hT.next HB
  clear hS0 hT hB hN hcb hmb hcn hmn
  obtain ⟨R1, h1⟩ : ∃ R, inI s.nb 1 65536 = R := ⟨_, rfl⟩
  obtain ⟨R2, h2⟩ : ∃ R, inI s.nn 1 65536 = R := ⟨_, rfl⟩
  obtain ⟨R3, h3⟩ : ∃ R, inI s.ns 1 4096 = R := ⟨_, rfl⟩
  obtain ⟨R4, h4⟩ : ∃ R, (decide (s.bs.length ≤ 6) && booksFrom s 0 s.bs) = R := ⟨_, rfl⟩
  obtain ⟨R5, h5⟩ : ∃ R, (decide (s.ts.length ≤ 12) && notesFrom s 0 s.ts) = R := ⟨_, rfl⟩
  obtain ⟨R6, h6⟩ : ∃ R, sheetsFrom s.ns [] s.ts = R := ⟨_, rfl⟩
  unfold mayS at hT0
  rw [h1, h2, h3, h4, h5, h6] at hT0
  have H0 := Lib.hid hT0
  have H1 := Lib.hid h1
  have H2 := Lib.hid h2
  have H3 := Lib.hid h3
  have H4 := Lib.hid h4
  have H5 := Lib.hid h5
  have H6 := Lib.hid h6
  clear hT0 h1 h2 h3 h4 h5 h6
  cases R1
  · skip
    go_enter Tryd.func17, Tryd.ntmps17
    go_wp2_with (first | (go_at_call 40; ((with_reducible refine (within_any s.nb _ _ _ _ H1.out).mono ?_); rintro e' w3 ⟨rfl, rfl⟩)) | (go_at_call 40; ((with_reducible refine (within_any s.nn _ _ _ _ H2.out).mono ?_); rintro e' w3 ⟨rfl, rfl⟩)) | (go_at_call 40; ((with_reducible refine (within_any s.ns _ _ _ _ H3.out).mono ?_); rintro e' w3 ⟨rfl, rfl⟩)))
    go_ret
    exact ⟨by rw [← H0.out]; rfl, HB⟩
  · skip
    cases R2
    · skip
      go_enter Tryd.func17, Tryd.ntmps17
      go_wp2_with (first | (go_at_call 40; ((with_reducible refine (within_any s.nb _ _ _ _ H1.out).mono ?_); rintro e' w3 ⟨rfl, rfl⟩)) | (go_at_call 40; ((with_reducible refine (within_any s.nn _ _ _ _ H2.out).mono ?_); rintro e' w3 ⟨rfl, rfl⟩)) | (go_at_call 40; ((with_reducible refine (within_any s.ns _ _ _ _ H3.out).mono ?_); rintro e' w3 ⟨rfl, rfl⟩)))
      go_ret
      exact ⟨by rw [← H0.out]; rfl, HB⟩
    · skip
      cases R3
      · skip
        go_enter Tryd.func17, Tryd.ntmps17
        go_wp2_with (first | (go_at_call 40; ((with_reducible refine (within_any s.nb _ _ _ _ H1.out).mono ?_); rintro e' w3 ⟨rfl, rfl⟩)) | (go_at_call 40; ((with_reducible refine (within_any s.nn _ _ _ _ H2.out).mono ?_); rintro e' w3 ⟨rfl, rfl⟩)) | (go_at_call 40; ((with_reducible refine (within_any s.ns _ _ _ _ H3.out).mono ?_); rintro e' w3 ⟨rfl, rfl⟩)))
        go_ret
        exact ⟨by rw [← H0.out]; rfl, HB⟩
      · skip
        cases R4
        · skip
          go_enter Tryd.func17, Tryd.ntmps17
          go_wp2_with (first | (go_at_call 40; ((with_reducible refine (within_any s.nb _ _ _ _ H1.out).mono ?_); rintro e' w3 ⟨rfl, rfl⟩)) | (go_at_call 40; ((with_reducible refine (within_any s.nn _ _ _ _ H2.out).mono ?_); rintro e' w3 ⟨rfl, rfl⟩)) | (go_at_call 40; ((with_reducible refine (within_any s.ns _ _ _ _ H3.out).mono ?_); rintro e' w3 ⟨rfl, rfl⟩)) | (go_at_call 41; ((with_reducible refine (mayBooks_any s _ _ S1 T1 (by have := inI_bd H1.out; omega) (by have := inI_bd H1.out; omega) _ H4.out).mono ?_); rintro e' w4 ⟨rfl, b4⟩; have S1 := S1.next b4; have T1 := T1.next b4; have B1 := B1.below b4 B1.lt; have HB := btr HB HB.size b4; (try clear k0 k1 k2 k3 k4); have k0 := B1.cell_ 0; have k1 := B1.cell_ 1; have k2 := B1.cell_ 2; have k3 := B1.cell_ 3; have k4 := B1.cell_ 4; simp at k0 k1 k2 k3 k4; clear b4)))
          go_ret
          exact ⟨by rw [← H0.out]; rfl, HB⟩
        · skip
          cases R5
          · skip
            go_enter Tryd.func17, Tryd.ntmps17
            go_wp2_with (first | (go_at_call 40; ((with_reducible refine (within_any s.nb _ _ _ _ H1.out).mono ?_); rintro e' w3 ⟨rfl, rfl⟩)) | (go_at_call 40; ((with_reducible refine (within_any s.nn _ _ _ _ H2.out).mono ?_); rintro e' w3 ⟨rfl, rfl⟩)) | (go_at_call 40; ((with_reducible refine (within_any s.ns _ _ _ _ H3.out).mono ?_); rintro e' w3 ⟨rfl, rfl⟩)) | (go_at_call 41; ((with_reducible refine (mayBooks_any s _ _ S1 T1 (by have := inI_bd H1.out; omega) (by have := inI_bd H1.out; omega) _ H4.out).mono ?_); rintro e' w4 ⟨rfl, b4⟩; have S1 := S1.next b4; have T1 := T1.next b4; have B1 := B1.below b4 B1.lt; have HB := btr HB HB.size b4; (try clear k0 k1 k2 k3 k4); have k0 := B1.cell_ 0; have k1 := B1.cell_ 1; have k2 := B1.cell_ 2; have k3 := B1.cell_ 3; have k4 := B1.cell_ 4; simp at k0 k1 k2 k3 k4; clear b4)) | (go_at_call 42; ((with_reducible refine (mayNotes_any s _ _ S1 T1 (by have := inI_bd H2.out; omega) (by have := inI_bd H2.out; omega) _ H5.out).mono ?_); rintro e' w5 ⟨rfl, b5⟩; have S1 := S1.next b5; have T1 := T1.next b5; have B1 := B1.below b5 B1.lt; have HB := btr HB HB.size b5; (try clear k0 k1 k2 k3 k4); have k0 := B1.cell_ 0; have k1 := B1.cell_ 1; have k2 := B1.cell_ 2; have k3 := B1.cell_ 3; have k4 := B1.cell_ 4; simp at k0 k1 k2 k3 k4; clear b5)))
            go_ret
            exact ⟨by rw [← H0.out]; rfl, HB⟩
          · skip
            cases R6
            · skip
              go_enter Tryd.func17, Tryd.ntmps17
              go_wp2_with (first | (go_at_call 40; ((with_reducible refine (within_any s.nb _ _ _ _ H1.out).mono ?_); rintro e' w3 ⟨rfl, rfl⟩)) | (go_at_call 40; ((with_reducible refine (within_any s.nn _ _ _ _ H2.out).mono ?_); rintro e' w3 ⟨rfl, rfl⟩)) | (go_at_call 40; ((with_reducible refine (within_any s.ns _ _ _ _ H3.out).mono ?_); rintro e' w3 ⟨rfl, rfl⟩)) | (go_at_call 41; ((with_reducible refine (mayBooks_any s _ _ S1 T1 (by have := inI_bd H1.out; omega) (by have := inI_bd H1.out; omega) _ H4.out).mono ?_); rintro e' w4 ⟨rfl, b4⟩; have S1 := S1.next b4; have T1 := T1.next b4; have B1 := B1.below b4 B1.lt; have HB := btr HB HB.size b4; (try clear k0 k1 k2 k3 k4); have k0 := B1.cell_ 0; have k1 := B1.cell_ 1; have k2 := B1.cell_ 2; have k3 := B1.cell_ 3; have k4 := B1.cell_ 4; simp at k0 k1 k2 k3 k4; clear b4)) | (go_at_call 42; ((with_reducible refine (mayNotes_any s _ _ S1 T1 (by have := inI_bd H2.out; omega) (by have := inI_bd H2.out; omega) _ H5.out).mono ?_); rintro e' w5 ⟨rfl, b5⟩; have S1 := S1.next b5; have T1 := T1.next b5; have B1 := B1.below b5 B1.lt; have HB := btr HB HB.size b5; (try clear k0 k1 k2 k3 k4); have k0 := B1.cell_ 0; have k1 := B1.cell_ 1; have k2 := B1.cell_ 2; have k3 := B1.cell_ 3; have k4 := B1.cell_ 4; simp at k0 k1 k2 k3 k4; clear b5)) | (go_at_call 43; ((with_reducible refine (maySheets_any s _ _ S1 (by have := inI_bd H3.out; omega) (by have := inI_bd H3.out; omega) _ H6.out).mono ?_); rintro e' w6 ⟨rfl, b6⟩; have S1 := S1.next b6; have T1 := T1.next b6; have B1 := B1.below b6 B1.lt; have HB := btr HB HB.size b6; (try clear k0 k1 k2 k3 k4); have k0 := B1.cell_ 0; have k1 := B1.cell_ 1; have k2 := B1.cell_ 2; have k3 := B1.cell_ 3; have k4 := B1.cell_ 4; simp at k0 k1 k2 k3 k4; clear b6)))
              go_ret
              exact ⟨by rw [← H0.out]; rfl, HB⟩
            · skip
              go_enter Tryd.func17, Tryd.ntmps17
              go_wp2_with (first | (go_at_call 40; ((with_reducible refine (within_any s.nb _ _ _ _ H1.out).mono ?_); rintro e' w3 ⟨rfl, rfl⟩)) | (go_at_call 40; ((with_reducible refine (within_any s.nn _ _ _ _ H2.out).mono ?_); rintro e' w3 ⟨rfl, rfl⟩)) | (go_at_call 40; ((with_reducible refine (within_any s.ns _ _ _ _ H3.out).mono ?_); rintro e' w3 ⟨rfl, rfl⟩)) | (go_at_call 41; ((with_reducible refine (mayBooks_any s _ _ S1 T1 (by have := inI_bd H1.out; omega) (by have := inI_bd H1.out; omega) _ H4.out).mono ?_); rintro e' w4 ⟨rfl, b4⟩; have S1 := S1.next b4; have T1 := T1.next b4; have B1 := B1.below b4 B1.lt; have HB := btr HB HB.size b4; (try clear k0 k1 k2 k3 k4); have k0 := B1.cell_ 0; have k1 := B1.cell_ 1; have k2 := B1.cell_ 2; have k3 := B1.cell_ 3; have k4 := B1.cell_ 4; simp at k0 k1 k2 k3 k4; clear b4)) | (go_at_call 42; ((with_reducible refine (mayNotes_any s _ _ S1 T1 (by have := inI_bd H2.out; omega) (by have := inI_bd H2.out; omega) _ H5.out).mono ?_); rintro e' w5 ⟨rfl, b5⟩; have S1 := S1.next b5; have T1 := T1.next b5; have B1 := B1.below b5 B1.lt; have HB := btr HB HB.size b5; (try clear k0 k1 k2 k3 k4); have k0 := B1.cell_ 0; have k1 := B1.cell_ 1; have k2 := B1.cell_ 2; have k3 := B1.cell_ 3; have k4 := B1.cell_ 4; simp at k0 k1 k2 k3 k4; clear b5)) | (go_at_call 43; ((with_reducible refine (maySheets_any s _ _ S1 (by have := inI_bd H3.out; omega) (by have := inI_bd H3.out; omega) _ H6.out).mono ?_); rintro e' w6 ⟨rfl, b6⟩; have S1 := S1.next b6; have T1 := T1.next b6; have B1 := B1.below b6 B1.lt; have HB := btr HB HB.size b6; (try clear k0 k1 k2 k3 k4); have k0 := B1.cell_ 0; have k1 := B1.cell_ 1; have k2 := B1.cell_ 2; have k3 := B1.cell_ 3; have k4 := B1.cell_ 4; simp at k0 k1 k2 k3 k4; clear b6)))
              go_ret
              exact ⟨by rw [← H0.out]; rfl, HB⟩
end Go.Proofs.YtkaoechjekffmaaDoor
namespace Go.Proofs.YtkaoechjekffmaaDoor
open Go.ChangeShapes Go.WideShapes Go.ChangeAt Go.RowKit
attribute [local go_sem ↓] Go.wp_at_zero Go.wp_at_succ
structure It where
  id : Int
  nm : ByteArray
instance : Inhabited It := ⟨⟨0, ByteArray.empty⟩⟩
def itC (x : It) : List Value := [.int .i64 x.id, .string x.nm]
def cmpI (x y : It) : Int := Lib.compareBytes x.nm.data.toList y.nm.data.toList
theorem cmpB_refl : ∀ l : List UInt8, Lib.compareBytes l l = 0
  | [] => rfl
  | a :: l => by
    unfold Lib.compareBytes
    rw [if_neg (UInt8.lt_irrefl a), if_neg (UInt8.lt_irrefl a)]
    exact cmpB_refl l
theorem cmpB_trans : ∀ a b c : List UInt8, Lib.compareBytes a b < 0 → Lib.compareBytes b c < 0 → Lib.compareBytes a c < 0
  | [], [], _, h, _ => by simp [Lib.compareBytes] at h
  | [], _ :: _, [], _, h => by simp [Lib.compareBytes] at h
  | [], _ :: _, _ :: _, _, _ => by simp [Lib.compareBytes]
  | _ :: _, [], _, h, _ => by simp [Lib.compareBytes] at h
  | _ :: _, _ :: _, [], _, h => by simp [Lib.compareBytes] at h
  | x :: a, y :: b, z :: c, h1, h2 => by
    unfold Lib.compareBytes at h1 h2 ⊢
    simp only [UInt8.lt_iff_toNat_lt] at h1 h2 ⊢
    by_cases p1 : x.toNat < y.toNat
    · by_cases p2 : y.toNat < z.toNat
      · rw [if_pos (by omega)]; decide
      · rw [if_neg p2] at h2
        by_cases p3 : z.toNat < y.toNat
        · rw [if_pos p3] at h2; exact absurd h2 (by decide)
        · rw [if_pos (by omega)]; decide
    · rw [if_neg p1] at h1
      by_cases p4 : y.toNat < x.toNat
      · rw [if_pos p4] at h1; exact absurd h1 (by decide)
      · rw [if_neg p4] at h1
        by_cases p2 : y.toNat < z.toNat
        · rw [if_pos (by omega)]; decide
        · rw [if_neg p2] at h2
          by_cases p3 : z.toNat < y.toNat
          · rw [if_pos p3] at h2; exact absurd h2 (by decide)
          · rw [if_neg p3] at h2
            rw [if_neg (by omega), if_neg (by omega)]
            exact cmpB_trans a b c h1 h2
theorem cmpB_ntrans : ∀ a b c : List UInt8, ¬ Lib.compareBytes a b < 0 → ¬ Lib.compareBytes b c < 0 → ¬ Lib.compareBytes a c < 0
  | [], [], c, _, h => h
  | [], _ :: _, _, h, _ => by simp [Lib.compareBytes] at h
  | _ :: _, [], [], _, _ => by simp [Lib.compareBytes]
  | _ :: _, [], _ :: _, _, h => by simp [Lib.compareBytes] at h
  | _ :: _, _ :: _, [], _, _ => by simp [Lib.compareBytes]
  | x :: a, y :: b, z :: c, h1, h2 => by
    unfold Lib.compareBytes at h1 h2 ⊢
    simp only [UInt8.lt_iff_toNat_lt] at h1 h2 ⊢
    by_cases p1 : x.toNat < y.toNat
    · rw [if_pos p1] at h1; exact absurd (by decide) h1
    · rw [if_neg p1] at h1
      by_cases p2 : y.toNat < z.toNat
      · rw [if_pos p2] at h2; exact absurd (by decide) h2
      · rw [if_neg p2] at h2
        rw [if_neg (by omega)]
        by_cases p3 : z.toNat < x.toNat
        · rw [if_pos p3]; decide
        · rw [if_neg p3]
          rw [if_neg (by omega)] at h1 h2
          exact cmpB_ntrans a b c h1 h2
theorem swoI : Sort.SWO (ltOf cmpI) where
  irrefl x := by simp [ltOf, cmpI, cmpB_refl]
  trans x y z h1 h2 := decide_eq_true (cmpB_trans _ _ _ (of_decide_eq_true h1) (of_decide_eq_true h2))
  ntrans x y z h1 h2 := decide_eq_false (cmpB_ntrans _ _ _ (of_decide_eq_false h1) (of_decide_eq_false h2))
end Go.Proofs.YtkaoechjekffmaaDoor
namespace Go.Proofs.YtkaoechjekffmaaDoor
open Go.ChangeShapes Go.WideShapes Go.ChangeAt Go.RowKit
attribute [local go_sem ↓] Go.wp_at_zero Go.wp_at_succ
def OrdI (l : List It) : Prop := l.Pairwise fun a b => cmpI b a < 0 → False
end Go.Proofs.YtkaoechjekffmaaDoor
namespace Go.Proofs.YtkaoechjekffmaaDoor
open Go.ChangeShapes Go.WideShapes Go.ChangeAt Go.RowKit
attribute [local go_sem ↓] Go.wp_at_zero Go.wp_at_succ
def bkIt (b : Bk) : It := ⟨b.id, b.nm⟩
end Go.Proofs.YtkaoechjekffmaaDoor
namespace Go.Proofs.YtkaoechjekffmaaDoor
open Go.ChangeShapes Go.WideShapes Go.ChangeAt Go.RowKit
attribute [local go_sem ↓] Go.wp_at_zero Go.wp_at_succ
def ntIt (n : Nt) : It := ⟨n.id, n.nm⟩
def ofBook (s : Sf) (x : Int) : List Nt := s.ts.filter fun n => n.bk == x
theorem filter_yes {α : Type} {p : α → Bool} {l : List α} {k : Nat} {x : α} (h : l[k]? = some x) (hp : p x = true) : (l.take (k + 1)).filter p = (l.take k).filter p ++ [x] := by
  rw [List.take_add_one, h, List.filter_append]
  simp [hp]
theorem filter_no {α : Type} {p : α → Bool} {l : List α} {k : Nat} {x : α} (h : l[k]? = some x) (hp : p x = false) : (l.take (k + 1)).filter p = (l.take k).filter p := by
  rw [List.take_add_one, h, List.filter_append]
  simp [hp]
end Go.Proofs.YtkaoechjekffmaaDoor
namespace Go.Proofs.YtkaoechjekffmaaDoor
open Go.ChangeShapes Go.WideShapes Go.ChangeAt Go.RowKit
attribute [local go_sem ↓] Go.wp_at_zero Go.wp_at_succ
theorem books_all {s : Sf} : ∀ (l : List Bk) (bf : Int), booksFrom s bf l = true → (∀ b ∈ l, bf < b.id ∧ b.id ≤ s.nb - 1 ∧ mayN b.nm = true ∧ bookTk s b.nm b.id = false) ∧ l.Pairwise fun a b => a.id < b.id
  | [], _, _ => ⟨fun b hb => by simp at hb, List.Pairwise.nil⟩
  | x :: l, bf, h => by
    have h' : (inI x.id (bf + 1) (s.nb - 1) && (mayN x.nm && (!bookTk s x.nm x.id && booksFrom s x.id l))) = true := h
    simp only [Bool.and_eq_true, Bool.not_eq_true'] at h'
    obtain ⟨h1, h2, h3, h4⟩ := h'
    have hb := inI_bd h1
    obtain ⟨i1, i2⟩ := books_all l x.id h4
    refine ⟨fun b hm => ?_, List.Pairwise.cons (fun b hm => (i1 b hm).1) i2⟩
    rcases List.mem_cons.1 hm with rfl | hm
    · exact ⟨by omega, hb.2, h2, h3⟩
    · have := i1 b hm
      exact ⟨by omega, this.2⟩
theorem notes_all {s : Sf} : ∀ (l : List Nt) (bf : Int), notesFrom s bf l = true → (∀ b ∈ l, bf < b.id ∧ b.id ≤ s.nn - 1 ∧ mayNt s b = true) ∧ l.Pairwise fun a b => a.id < b.id
  | [], _, _ => ⟨fun b hb => by simp at hb, List.Pairwise.nil⟩
  | x :: l, bf, h => by
    have h' : (inI x.id (bf + 1) (s.nn - 1) && (mayNt s x && notesFrom s x.id l)) = true := h
    simp only [Bool.and_eq_true] at h'
    obtain ⟨h1, h2, h4⟩ := h'
    have hb := inI_bd h1
    obtain ⟨i1, i2⟩ := notes_all l x.id h4
    refine ⟨fun b hm => ?_, List.Pairwise.cons (fun b hm => (i1 b hm).1) i2⟩
    rcases List.mem_cons.1 hm with rfl | hm
    · exact ⟨by omega, hb.2, h2⟩
    · have := i1 b hm
      exact ⟨by omega, this.2⟩
structure MayF (s : Sf) : Prop where
  nb : 1 ≤ s.nb ∧ s.nb ≤ 65536
  nn : 1 ≤ s.nn ∧ s.nn ≤ 65536
  ns : 1 ≤ s.ns ∧ s.ns ≤ 4096
  bl : s.bs.length ≤ 6
  tl : s.ts.length ≤ 12
  bs : ∀ b ∈ s.bs, 0 < b.id ∧ b.id ≤ s.nb - 1 ∧ mayN b.nm = true ∧ bookTk s b.nm b.id = false
  bo : s.bs.Pairwise fun a b => a.id < b.id
  ts : ∀ n ∈ s.ts, 0 < n.id ∧ n.id ≤ s.nn - 1 ∧ mayNt s n = true
  tord : s.ts.Pairwise fun a b => a.id < b.id
  sh : sheetsFrom s.ns [] s.ts = true
theorem mayF_of {s : Sf} (h : mayS s = true) : MayF s := by
  unfold mayS at h
  simp only [Bool.and_eq_true, decide_eq_true_eq] at h
  obtain ⟨h1, h2, h3, ⟨h4, h5⟩, ⟨h6, h7⟩, h8⟩ := h
  exact ⟨inI_bd h1, inI_bd h2, inI_bd h3, h4, h6, (books_all _ _ h5).1, (books_all _ _ h5).2, (notes_all _ _ h7).1, (notes_all _ _ h7).2, h8⟩
theorem MayF.names {s : Sf} (h : MayF s) {a b : Bk} (ha : a ∈ s.bs) (hb : b ∈ s.bs) (he : a.nm.toList = b.nm.toList) : a.id = b.id := by
  have := (h.bs b hb).2.2.2
  unfold bookTk at this
  rw [List.any_eq_false] at this
  have h2 := this a ha
  simpa [sameS, he] using h2
theorem MayF.book {s : Sf} (h : MayF s) {n : Nt} (hn : n ∈ s.ts) : 0 ≤ bookAt s n.bk := by
  have := (h.ts n hn).2.2
  unfold mayNt at this
  simp only [Bool.and_eq_true, decide_eq_true_eq] at this
  exact this.2.1
end Go.Proofs.YtkaoechjekffmaaDoor
namespace Go.Proofs.YtkaoechjekffmaaDoor
open Go.ChangeShapes Go.WideShapes Go.ChangeAt Go.RowKit
attribute [local go_sem ↓] Go.wp_at_zero Go.wp_at_succ
theorem less_irr : ∀ x : List UInt8, Op.bytesLess x x = false
  | [] => rfl
  | a :: x => by
    unfold Op.bytesLess
    simp [less_irr x]
theorem cmp_less : ∀ a b : List UInt8, Op.bytesLess a b = decide (Lib.compareBytes a b < 0)
  | [], [] => rfl
  | [], _ :: _ => rfl
  | _ :: _, [] => rfl
  | x :: a, y :: b => by
    unfold Op.bytesLess Lib.compareBytes
    rw [cmp_less a b]
    simp only [UInt8.lt_iff_toNat_lt]
    by_cases p1 : x.toNat < y.toNat
    · simp [p1]
    · by_cases p2 : y.toNat < x.toNat
      · have : ¬ x = y := fun h => by rw [h] at p2; omega
        simp [p1, p2, this]
      · have : x = y := UInt8.toNat_inj.1 (by omega)
        simp [this]
theorem cmp_tri : ∀ a b : List UInt8, ¬ Lib.compareBytes a b < 0 → ¬ Lib.compareBytes b a < 0 → a = b
  | [], [], _, _ => rfl
  | [], _ :: _, h, _ => absurd (by simp [Lib.compareBytes]) h
  | _ :: _, [], _, h => absurd (by simp [Lib.compareBytes]) h
  | x :: a, y :: b, h1, h2 => by
    unfold Lib.compareBytes at h1 h2
    simp only [UInt8.lt_iff_toNat_lt] at h1 h2
    by_cases p1 : x.toNat < y.toNat
    · rw [if_pos p1] at h1; exact absurd (by decide) h1
    · by_cases p2 : y.toNat < x.toNat
      · rw [if_pos p2] at h2; exact absurd (by decide) h2
      · rw [if_neg p1, if_neg p2] at h1
        rw [if_neg p2, if_neg p1] at h2
        have : x = y := UInt8.toNat_inj.1 (by omega)
        rw [this, cmp_tri a b h1 h2]
def cntB (ts : List Nt) (L : List Int) : Nat := (L.map fun x => (ts.filter fun n => n.bk == x).length).sum
structure LstF (s : Sf) (its : List It) : Prop where
  len : its.length = s.bs.length
  book : ∀ x ∈ its, 0 ≤ bookAt s x.id
  less : ∀ (k : Nat) (x y : It), its[k]? = some x → its[k + 1]? = some y → Op.bytesLess x.nm.toList y.nm.toList = true
  all : cntB s.ts (its.map It.id) = s.ts.length
theorem book_is {s : Sf} (x : Int) : (0 ≤ bookAt s x) ↔ ∃ b ∈ s.bs, b.id = x := by
  have := idxP_ge (fun b : Bk => b.id == x) s.bs
  unfold bookAt
  constructor
  · intro h
    rw [decide_eq_true h] at this
    obtain ⟨b, hb, he⟩ := List.any_eq_true.1 this.symm
    exact ⟨b, hb, by simpa using he⟩
  · rintro ⟨b, hb, rfl⟩
    rw [List.any_eq_true.2 ⟨b, hb, by simp⟩] at this
    exact of_decide_eq_true this
structure NtsF (s : Sf) (x : Int) (its : List It) : Prop where
  len : its.length = (s.ts.filter fun n => n.bk == x).length
  note : ∀ y ∈ its, ∃ n ∈ s.ts, n.bk = x ∧ ntIt n = y
  less : ∀ (k : Nat) (y z : It), its[k]? = some y → its[k + 1]? = some z → Op.bytesLess y.nm.toList z.nm.toList = true
theorem MayF.nnames {s : Sf} (h : MayF s) {a b : Nt} (ha : a ∈ s.ts) (hb : b ∈ s.ts) (hk : a.bk = b.bk) (he : a.nm.toList = b.nm.toList) : a.id = b.id := by
  have h1 := (h.ts b hb).2.2
  unfold mayNt at h1
  simp only [Bool.and_eq_true, Bool.not_eq_true'] at h1
  have h2 := h1.2.2.1
  unfold noteTk at h2
  rw [List.any_eq_false] at h2
  have h3 := h2 a ha
  simpa [sameS, he, hk] using h3
end Go.Proofs.YtkaoechjekffmaaDoor
namespace Go.Proofs.YtkaoechjekffmaaDoor
open Go.ChangeShapes Go.WideShapes Go.ChangeAt Go.RowKit
attribute [local go_sem ↓] Go.wp_at_zero Go.wp_at_succ
theorem results_cell1 {P : Program} {fn : Func} {p q : Tmp} {ty : TypeId} (h : fn.results = #[.cell p ty, .tmp q]) (tmps : Array Value) (w : World) (g : Nat) (t : TypeId) (cs : Array Value) (fr : Nat × Nat) (d : TypeDesc)
    (hp : tmps.getD p undef = .pointer (some ⟨g, 0, none⟩)) (hg : w.heap[g]? = some (.cells cs t fr))
    (hu : P.underlying ty = some d) (hd : (match d with | .struct _ | .array _ _ => true | _ => false) = true) (hi : (P.info? ty).map (·.size) = some cs.size) :
    (results fn tmps).run P w = .ok (.tuple #[.agg cs, tmps.getD q undef]) w := by
  have hp' : tmps[p]?.getD undef = .pointer (some ⟨g, 0, none⟩) := by simpa using hp
  simp [results, h, hp', asAddr, run_loadVar_row w g t ty cs fr d hg hu hd hi]
theorem results_cell2 {P : Program} {fn : Func} {p q r : Tmp} {ty : TypeId} (h : fn.results = #[.cell p ty, .tmp q, .tmp r]) (tmps : Array Value) (w : World) (g : Nat) (t : TypeId) (cs : Array Value) (fr : Nat × Nat) (d : TypeDesc)
    (hp : tmps.getD p undef = .pointer (some ⟨g, 0, none⟩)) (hg : w.heap[g]? = some (.cells cs t fr))
    (hu : P.underlying ty = some d) (hd : (match d with | .struct _ | .array _ _ => true | _ => false) = true) (hi : (P.info? ty).map (·.size) = some cs.size) :
    (results fn tmps).run P w = .ok (.tuple #[.agg cs, tmps.getD q undef, tmps.getD r undef]) w := by
  have hp' : tmps[p]?.getD undef = .pointer (some ⟨g, 0, none⟩) := by simpa using hp
  simp [results, h, hp', asAddr, run_loadVar_row w g t ty cs fr d hg hu hd hi]
theorem Blk.st5_ {w : World} {g : Nat} {t : TypeId} {p0 p1 p2 p3 p4 : Value} (h : Blk w g t #[p0, p1, p2, p3, p4]) (a0 a1 a2 a3 a4 : Value) : Blk (st5 w g 0 a0 a1 a2 a3 a4) g t #[a0, a1, a2, a3, a4] := by
  have := (Blk.set_ (Blk.set_ (Blk.set_ (Blk.set_ (Blk.set_ h 0 a0) 1 a1) 2 a2) 3 a3) 4 a4)
  simpa [st5] using this
theorem st5_grown (w : World) (g o : Nat) (a0 a1 a2 a3 a4 : Value) : w.grownBy (st5 w g o a0 a1 a2 a3 a4) (some g) := grown_set (grown_set (grown_set (grown_set (grown_set (World.grownBy.refl w _) _ _) _ _) _ _) _ _) _ _
theorem st5_below {B g : Nat} {w w1 : World} (h : Below B w w1) (hB : B ≤ g) (o : Nat) (a0 a1 a2 a3 a4 : Value) (h0 : B ≤ w1.heap.size := by first | omega | exact (Below.size ‹_›)) : Below B w (st5 w1 g o a0 a1 a2 a3 a4) := below_grown h (st5_grown w1 g o a0 a1 a2 a3 a4) hB h0
def fullB (s : Sf) : Bool := decide (6 ≤ s.bs.length) || decide (65536 ≤ s.nb)
def makeC (s : Sf) (x : ByteArray) : Int := cond (mayS s) (cond (mayN x) (cond (bookTk s x 0) 7 (cond (fullB s) 3 0)) 6) 2
def makeS (s : Sf) (x : ByteArray) : Sf := { s with nb := s.nb + 1, bs := s.bs ++ [⟨s.nb, x⟩] }
end Go.Proofs.YtkaoechjekffmaaDoor
namespace Go.Proofs.YtkaoechjekffmaaDoor
open Go.ChangeShapes Go.WideShapes Go.ChangeAt Go.RowKit
attribute [local go_sem ↓] Go.wp_at_zero Go.wp_at_succ
theorem sheets_small {ns : Int} : ∀ (l : List Nt) (seen : List Int), sheetsFrom ns seen l = true → ∀ n ∈ l, n.sh.length ≤ 8
  | [], _, _, n, hn => by simp at hn
  | x :: l, seen, h, n, hn => by
    unfold sheetsFrom at h
    simp only [Bool.and_eq_true, decide_eq_true_eq] at h
    rcases List.mem_cons.1 hn with rfl | hn
    · exact h.1
    · exact sheets_small l _ h.2.2 n hn
theorem MayF.small {s : Sf} (h : MayF s) : ∀ n ∈ s.ts, n.tg.length ≤ 100000 ∧ n.sh.length ≤ 100000 := by
  intro n hn
  have h1 := (h.ts n hn).2.2
  unfold mayNt mayTg at h1
  simp only [Bool.and_eq_true, decide_eq_true_eq] at h1
  have h2 := sheets_small _ _ h.sh n hn
  have h3 := h1.2.2.2.1
  omega
def NtsW (w : World) (base : Nat) (vn : Value) (ts : List Nt) : Prop := ∃ es : List (List Value), es.length = ts.length ∧ w.ownsRow base 49 5 vn ts.length es.flatten ∧ ∀ (k : Nat) (n : Nt) (e : List Value), ts[k]? = some n → es[k]? = some e → NtW w base n e
def BksW (w : World) (base : Nat) (vb : Value) (bs : List Bk) : Prop := w.ownsRow base 61 2 vb bs.length (bs.map bkC).flatten
theorem NtsW.below {w w' : World} {base : Nat} {vn : Value} {ts : List Nt} (h : NtsW w base vn ts) (hb : Below w.heap.size w w') : NtsW w' base vn ts := by
  obtain ⟨es, h1, h2, h3⟩ := h
  exact ⟨es, h1, own_belowW h2 hb, fun k n e a b => (h3 k n e a b).below hb⟩
theorem NtsW.far {w w' : World} {base g : Nat} {vn : Value} {ts : List Nt} (h : NtsW w base vn ts) (hg : w.grownBy w' (some g)) (hb : g < base) : NtsW w' base vn ts := by
  obtain ⟨es, h1, h2, h3⟩ := h
  refine ⟨es, h1, h2.kept hg (own_off h2 hb), fun k n e a b => ?_⟩
  obtain ⟨vt, vs, r, q1, q2⟩ := h3 k n e a b
  exact ⟨vt, vs, r, q1.kept hg (own_off q1 hb), q2.kept hg (own_off q2 hb)⟩
theorem NtsW.apart {w w' : World} {base b2 C2 n2 : Nat} {vn v2 : Value} {ts : List Nt} {x2 : List Value} (h : NtsW w base vn ts) (h2 : w.ownsRow b2 61 C2 v2 n2 x2) (hg : w.grownBy w' v2.ownBlock) : NtsW w' base vn ts := by
  obtain ⟨es, h1, h3, h4⟩ := h
  exact ⟨es, h1, h3.kept hg (own_apart h3 h2 (by decide)), fun k n e a b => (h4 k n e a b).kept h2 hg (by decide) (by decide)⟩
theorem BksW.below {w w' : World} {base : Nat} {vb : Value} {bs : List Bk} (h : BksW w base vb bs) (hb : Below w.heap.size w w') : BksW w' base vb bs := own_belowW h hb
theorem BksW.far {w w' : World} {base g : Nat} {vb : Value} {bs : List Bk} (h : BksW w base vb bs) (hg : w.grownBy w' (some g)) (hb : g < base) : BksW w' base vb bs := World.ownsRow.kept h hg (own_off h hb)
theorem ShW.parts {w : World} {base : Nat} {v : Value} {s : Sf} (h : ShW w base v s) : ∃ (Ab : Option Addr) (cb : Nat) (An : Option Addr) (cn : Nat), v = .agg #[.int .i64 s.nb, .int .i64 s.nn, .int .i64 s.ns, .slice Ab s.bs.length cb, .slice An s.ts.length cn] ∧ BksW w base (.slice Ab s.bs.length cb) s.bs ∧ NtsW w base (.slice An s.ts.length cn) s.ts ∧ s.bs.length ≤ cb ∧ cb ≤ maxLen ∧ s.ts.length ≤ cn ∧ cn ≤ maxLen := by
  obtain ⟨vb, vn, es, rfl, h1, h2, h3, h4⟩ := h
  obtain ⟨Ab, cb, rfl, q1, q2⟩ := own_shape h1
  obtain ⟨An, cn, rfl, q3, q4⟩ := own_shape h3
  exact ⟨Ab, cb, An, cn, rfl, h1, ⟨es, h2, h3, h4⟩, q1, q2, q3, q4⟩
theorem ShW.make {w : World} {base : Nat} {s : Sf} {vb vn : Value} (h1 : BksW w base vb s.bs) (h2 : NtsW w base vn s.ts) : ShW w base (.agg #[.int .i64 s.nb, .int .i64 s.nn, .int .i64 s.ns, vb, vn]) s := by
  obtain ⟨es, q1, q2, q3⟩ := h2
  exact ⟨vb, vn, es, rfl, h1, q1, q2, q3⟩
theorem Blk.grownR {w w' : World} {g : Nat} {t : TypeId} {cs : Array Value} {row : Option Nat} (h : Blk w g t cs) (hg : w.grownBy w' row) (hne : row ≠ some g) : Blk w' g t cs := (hg.block g h.lt (fun e => hne e.symm)).trans h
theorem wrapS (x : Int) (h1 : -9223372036854775808 ≤ x) (h2 : x ≤ 9223372036854775807) : IntKind.i64.wrap x = x := by rw [IntKind.wrap_i64]; omega
theorem drew_cell {w : World} {p : Addr} {v : Value} (h : w.cell? p = some v) : w.drew.cell? p = some v := h
theorem drew_blk {w : World} {g : Nat} {t : TypeId} {cs : Array Value} (h : Blk w g t cs) : Blk w.drew g t cs := h
theorem drew_own {w : World} {base C n : Nat} {e : TypeId} {v : Value} {xs : List Value} (h : w.ownsRow base e C v n xs) : w.drew.ownsRow base e C v n xs := h
theorem drew_below {B : Nat} {w w' : World} (h : Below B w w') : Below B w w'.drew := below_dn h 1
theorem NtsW.drew_ {w : World} {base : Nat} {vn : Value} {ts : List Nt} (h : NtsW w base vn ts) : NtsW w.drew base vn ts := h.below (below_dn (Below.refl _ _) 1)
theorem set1_grown (w : World) (g i : Nat) (u : Value) : w.grownBy (w.setCell ⟨g, i, none⟩ u) (some g) := grown_set (World.grownBy.refl w _) _ _
end Go.Proofs.YtkaoechjekffmaaDoor
namespace Go.Proofs.YtkaoechjekffmaaDoor
open Go.ChangeShapes Go.WideShapes Go.ChangeAt Go.RowKit
attribute [local go_sem ↓] Go.wp_at_zero Go.wp_at_succ
end Go.Proofs.YtkaoechjekffmaaDoor
namespace Go.Proofs.YtkaoechjekffmaaDoor
open Go.ChangeShapes Go.WideShapes Go.ChangeAt Go.RowKit
attribute [local go_sem ↓] Go.wp_at_zero Go.wp_at_succ
def sA : ByteArray := ⟨#[97]⟩
def sB : ByteArray := ⟨#[98]⟩
def sf0 : Sf := ⟨1, 1, 1, [], []⟩
def sf1 : Sf := makeS sf0 sB
def sf2 : Sf := makeS sf1 sA
theorem may2 : mayS sf2 = true := by decide +kernel
theorem ShR.zero (w : World) : ShR w w.heap.size (.agg #[.int .i64 1, .int .i64 1, .int .i64 1, .slice none 0 0, .slice none 0 0]) sf0 := ⟨none, 0, none, 0, rfl, Or.inl rfl, ⟨[], rfl, Or.inl rfl, fun k n e h => by simp [sf0] at h⟩, by decide, by decide, by decide, by decide⟩
end Go.Proofs.YtkaoechjekffmaaDoor
namespace Go.Proofs.YtkaoechjekffmaaDoor
open Go.ChangeShapes Go.WideShapes Go.ChangeAt Go.RowKit
attribute [local go_sem ↓] Go.wp_at_zero Go.wp_at_succ
theorem idxP_cases {α : Type} (p : α → Bool) (l : List α) : (idxP p l = -1 ∧ l.any p = false) ∨ ∃ (k : Nat) (x : α), idxP p l = (k : Int) ∧ l[k]? = some x ∧ p x = true ∧ (l.take k).any p = false := by
  cases hf : l.findIdx? p with
  | none =>
    left
    constructor
    · unfold idxP
      rw [hf]
    · rw [List.any_eq_false]
      intro x hx
      simpa using List.findIdx?_eq_none_iff.1 hf x hx
  | some k =>
    right
    obtain ⟨hlt, hp, hn⟩ := List.findIdx?_eq_some_iff_getElem.1 hf
    refine ⟨k, l[k], ?_, List.getElem?_eq_getElem hlt, hp, ?_⟩
    · unfold idxP
      rw [hf]
    · rw [List.any_eq_false]
      intro x hx
      obtain ⟨j, hj, rfl⟩ := List.mem_take_iff_getElem.1 hx
      simpa using hn j (by omega)
structure DInv {α : Type} (ps : List (α × List Value)) (p : α → Bool) (i j : Nat) (qs : List (α × List Value)) : Prop where
  len : qs.length = ps.length
  tk : qs.take i = (ps.take j).filter (fun x => !p x.1)
  il : i = ((ps.take j).filter (fun x => !p x.1)).length
  dr : qs.drop j = ps.drop j
  lt : i < j
  le : j ≤ ps.length
theorem DInv.get {α : Type} {ps qs : List (α × List Value)} {p : α → Bool} {i j : Nat} (h : DInv ps p i j qs) {x : α × List Value} (hx : ps[j]? = some x) : qs[j]? = some x := by
  have h1 : (qs.drop j)[0]? = (ps.drop j)[0]? := by rw [h.dr]
  rw [List.getElem?_drop, List.getElem?_drop] at h1
  simpa [hx] using h1
theorem DInv.keep {α : Type} {ps qs : List (α × List Value)} {p : α → Bool} {i j : Nat} (h : DInv ps p i j qs) {x : α × List Value} (hx : ps[j]? = some x) (hp : p x.1 = false) : DInv ps p (i + 1) (j + 1) (qs.set i x) := by
  have hlt := (List.getElem?_eq_some_iff.1 hx).1
  have hl := h.len
  have hij := h.lt
  have h1 : (ps.take (j + 1)).filter (fun x => !p x.1) = (ps.take j).filter (fun x => !p x.1) ++ [x] := filter_yes hx (by simp [hp])
  refine ⟨by rw [List.length_set]; exact hl, ?_, by rw [h1, List.length_append, ← h.il]; rfl, ?_, by omega, by omega⟩
  · rw [h1, ← h.tk, List.take_add_one, List.getElem?_set]
    rw [if_pos rfl, if_pos (by omega), List.take_set_of_le (Nat.le_refl _)]
    rfl
  · rw [List.drop_set_of_lt (by omega), ← List.drop_drop, h.dr, List.drop_drop]
theorem DInv.skip {α : Type} {ps qs : List (α × List Value)} {p : α → Bool} {i j : Nat} (h : DInv ps p i j qs) {x : α × List Value} (hx : ps[j]? = some x) (hp : p x.1 = true) : DInv ps p i (j + 1) qs := by
  have hlt := (List.getElem?_eq_some_iff.1 hx).1
  have h1 : (ps.take (j + 1)).filter (fun x => !p x.1) = (ps.take j).filter (fun x => !p x.1) := filter_no hx (by simp [hp])
  have := h.lt
  exact ⟨h.len, by rw [h1]; exact h.tk, by rw [h1]; exact h.il, by rw [← List.drop_drop, h.dr, List.drop_drop], by omega, by omega⟩
theorem own_cut {w : World} {base C n c i : Nat} {e : TypeId} {A : Option Addr} {xs : List Value} (h : w.ownsRow base e C (.slice A n c) n xs) (hA : A ≠ none) (hi : i ≤ n) : w.ownsRow base e C (.slice A i c) i (xs.take (i * C)) := by
  have hic : i * C ≤ n * C := Nat.mul_le_mul_right _ hi
  refine ⟨by rw [List.length_take, h.1, Nat.min_eq_left hic], ?_⟩
  rcases h.2 with ⟨hv, _⟩ | ⟨g, cap, cur, hv, hb, hh, hnc, hm, hs, ht⟩
  · injection hv with h1
    exact absurd h1 hA
  · injection hv with h1 h2 h3
    subst h1 h3
    exact Or.inr ⟨g, c, cur, rfl, hb, hh, by omega, hm, hs, by rw [← ht, List.take_take, Nat.min_eq_left hic]⟩
theorem grown_below {w w' : World} {row : Option Nat} (hb : Below w.heap.size w w') : w.grownBy w' row := ⟨hb.os, hb.tape, hb.output, hb.size, fun k hk _ => hb.block k hk⟩
theorem keepC {w w' : World} {g o : Nat} {v : Value} (h : w.cell? ⟨g, o, none⟩ = some v) (hb : Below w.heap.size w w') (hg : g < w.heap.size) : w'.cell? ⟨g, o, none⟩ = some v := (hb.cell (p := ⟨g, o, none⟩) hg).trans h
def st2 (w : World) (g o : Nat) (a0 a1 : Value) : World := World.setCell (World.setCell w ⟨g, o, none⟩ a0) ⟨g, o + 1, none⟩ a1
end Go.Proofs.YtkaoechjekffmaaDoor
namespace Go.Proofs.YtkaoechjekffmaaDoor
open Go.ChangeShapes Go.WideShapes Go.ChangeAt Go.RowKit
attribute [local go_sem ↓] Go.wp_at_zero Go.wp_at_succ
end Go.Proofs.YtkaoechjekffmaaDoor
namespace Go.Proofs.YtkaoechjekffmaaDoor
open Go.ChangeShapes Go.WideShapes Go.ChangeAt Go.RowKit
attribute [local go_sem ↓] Go.wp_at_zero Go.wp_at_succ
theorem BksW.apartN {w w' : World} {base b2 C2 n2 : Nat} {vb v2 : Value} {bs : List Bk} {x2 : List Value} (h : BksW w base vb bs) (h2 : w.ownsRow b2 49 C2 v2 n2 x2) (hg : w.grownBy w' v2.ownBlock) : BksW w' base vb bs := World.ownsRow.kept h hg (own_apart h h2 (by decide))
def dropC (s : Sf) (x : Int) : Int := cond (mayS s) (cond (decide (bookAt s x < 0)) 4 0) 2
def dropS (s : Sf) (x : Int) : Sf := { s with bs := s.bs.filter (fun b => !(b.id == x)), ts := s.ts.filter (fun n => !(n.bk == x)) }
def discC (s : Sf) (x : Int) : Int := cond (mayS s) (cond (decide (noteAt s x < 0)) 4 0) 2
def discS (s : Sf) (x : Int) : Sf := { s with ts := s.ts.filter (fun n => !(n.id == x)) }
end Go.Proofs.YtkaoechjekffmaaDoor
namespace Go.Proofs.YtkaoechjekffmaaDoor
open Go.ChangeShapes Go.WideShapes Go.ChangeAt Go.RowKit
attribute [local go_sem ↓] Go.wp_at_zero Go.wp_at_succ
theorem below_dr (w : World) : Below w.heap.size w w.drew := below_dn (Below.refl w.heap.size w) 1
theorem sameBooks_yes (L : List Bk) (A B : Option Addr) (c d : Nat) (w : World) (n1 : L.length ≤ 1000000) (h1 : BksIn w w.heap.size A L) (h2 : BksIn w w.heap.size B L) : Calls Tryd.prog 39 #[.slice A L.length c, .slice B L.length d] w fun e' w' => e' = .returned (.bool true) ∧ Below w.heap.size w w' := by
  obtain ⟨n, hn⟩ : ∃ n, L.length = n := ⟨_, rfl⟩
  rw [hn] at n1 ⊢
  have HN := Lib.hid hn
  have H1 := Lib.hid h1
  have H2 := Lib.hid h2
  clear hn h1 h2
  go_enter Tryd.func39, Tryd.ntmps39
  go_wp2_with fail
  go_loopw [5] (fun s5 wr => ∃ k : Nat, k ≤ n ∧ s5 = .int .i64 (k : Int) ∧ Below w.heap.size w wr) (fun s5 _ => n - (intOf s5).toNat)
  case atStart => exact ⟨0, Nat.zero_le _, rfl, Below.refl _ _⟩
  case round =>
    obtain ⟨k, hk, rfl, hB⟩ := hrel
    by_cases hlt : k < n
    · have hlx : k < L.length := by have := HN.out; omega
      obtain ⟨b1, o1, rfl, l1, q1⟩ := (SlE.below H1.out hB).at_ (by rw [List.length_map]; omega)
      obtain ⟨b2, o2, rfl, l2, q2⟩ := (SlE.below H2.out hB).at_ (by rw [List.length_map]; omega)
      obtain ⟨x, hx⟩ : ∃ x, L[k]? = some x := ⟨_, List.getElem?_eq_getElem hlx⟩
      have he : (L.map bkC)[k]? = some (bkC x) := by rw [List.getElem?_map, hx]; rfl
      have x0 := q1 k _ he 0 _ rfl
      have x1 := q1 k _ he 1 _ rfl
      have y0 := q2 k _ he 0 _ rfl
      have y1 := q2 k _ he 1 _ rfl
      simp only [Nat.add_zero] at x0 y0
      clear he
      have k0 : (0 : Int) ≤ (k : Int) := by omega
      have k1 : (k : Int) < (n : Int) := by omega
      clear hx q1 q2 hlx
      go_upto_region 6 with fail
      refine wp_region_noPanic ?_
      refine wp_region_held_drew (S := (fun w_ => w_.cell? ⟨b1, o1 + k * 2, none⟩ = some (.int .i64 x.id) ∧ w_.cell? ⟨b1, o1 + k * 2 + 1, none⟩ = some (.string x.nm) ∧ w_.cell? ⟨b2, o2 + k * 2, none⟩ = some (.int .i64 x.id) ∧ w_.cell? ⟨b2, o2 + k * 2 + 1, none⟩ = some (.string x.nm))) (by kernel_rfl) ?_ (fun hHeld => ?_)
      · (first | exact ⟨x0, x1, y0, y1⟩ | assumption)
      refine tk 0 ?_; try simp only [Act.put, pz1, pz2, pz3]
      refine tk 1 ?_; try simp only [Act.put, pz1, pz2, pz3]
      refine tk 2 ?_; try simp only [Act.put, pz1, pz2, pz3]
      refine tk 3 ?_; try simp only [Act.put, pz1, pz2, pz3]
      refine tk 4 ?_; try simp only [Act.put, pz1, pz2, pz3]
      refine tk 5 ?_; try simp only [Act.put, pz1, pz2, pz3]
      refine tk 6 ?_; try simp only [Act.put, pz1, pz2, pz3]
      refine tk 7 ?_; try simp only [Act.put, pz1, pz2, pz3]
      refine tk 8 ?_; try simp only [Act.put, pz1, pz2, pz3]
      refine wpAnyH_done (by kernel_rfl) ?_ _
      refine NoPanic.normal ?_
      go_wp2_with fail
      go_roundw
      case rel => exact ⟨k + 1, by omega, by go_num, (by first | exact hB | exact drew_below hB)⟩
      case measure => simp [intOf]; omega
    · obtain rfl : k = n := by omega
      go_wp2_with fail
      go_ret
      exact ⟨rfl, hB⟩
theorem sameTexts_yes (L : List ByteArray) (A B : Option Addr) (c d : Nat) (w : World) (n1 : L.length ≤ 1000000) (h1 : Sl w w.heap.size A (L.map strV)) (h2 : Sl w w.heap.size B (L.map strV)) : Calls Tryd.prog 27 #[.slice A L.length c, .slice B L.length d] w fun e' w' => e' = .returned (.bool true) ∧ Below w.heap.size w w' := by
  obtain ⟨n, hn⟩ : ∃ n, L.length = n := ⟨_, rfl⟩
  rw [hn] at n1 ⊢
  have HN := Lib.hid hn
  have H1 := Lib.hid h1
  have H2 := Lib.hid h2
  clear hn h1 h2
  go_enter Tryd.func27, Tryd.ntmps27
  go_wp2_with fail
  go_loopw [5] (fun s5 wr => ∃ k : Nat, k ≤ n ∧ s5 = .int .i64 (k : Int) ∧ Below w.heap.size w wr) (fun s5 _ => n - (intOf s5).toNat)
  case atStart => exact ⟨0, Nat.zero_le _, rfl, Below.refl _ _⟩
  case round =>
    obtain ⟨k, hk, rfl, hB⟩ := hrel
    by_cases hlt : k < n
    · have hlx : k < L.length := by have := HN.out; omega
      obtain ⟨b1, o1, rfl, l1, q1⟩ := (Sl.below H1.out hB).at_ (by rw [List.length_map]; omega)
      obtain ⟨b2, o2, rfl, l2, q2⟩ := (Sl.below H2.out hB).at_ (by rw [List.length_map]; omega)
      obtain ⟨x, hx⟩ : ∃ x, L[k]? = some x := ⟨_, List.getElem?_eq_getElem hlx⟩
      have x0 := q1 k (.string x) (by rw [List.getElem?_map, hx]; rfl)
      have y0 := q2 k (.string x) (by rw [List.getElem?_map, hx]; rfl)
      have k0 : (0 : Int) ≤ (k : Int) := by omega
      have k1 : (k : Int) < (n : Int) := by omega
      clear hx q1 q2 hlx
      go_upto_region 6 with fail
      refine wp_region_noPanic ?_
      refine wp_region_held_drew (S := (fun w_ => w_.cell? ⟨b1, o1 + k, none⟩ = some (.string x) ∧ w_.cell? ⟨b2, o2 + k, none⟩ = some (.string x))) (by kernel_rfl) ?_ (fun hHeld => ?_)
      · (first | exact ⟨x0, y0⟩ | assumption)
      refine tk 0 ?_; try simp only [Act.put, pz1, pz2, pz3]
      refine tk 1 ?_; try simp only [Act.put, pz1, pz2, pz3]
      refine tk 2 ?_; try simp only [Act.put, pz1, pz2, pz3]
      refine tk 3 ?_; try simp only [Act.put, pz1, pz2, pz3]
      refine tk 4 ?_; try simp only [Act.put, pz1, pz2, pz3]
      refine tk 5 ?_; try simp only [Act.put, pz1, pz2, pz3]
      refine tk 6 ?_; try simp only [Act.put, pz1, pz2, pz3]
      refine tk 7 ?_; try simp only [Act.put, pz1, pz2, pz3]
      refine tk 8 ?_; try simp only [Act.put, pz1, pz2, pz3]
      refine wpAnyH_done (by kernel_rfl) ?_ _
      refine NoPanic.normal ?_
      go_wp2_with fail
      go_roundw
      case rel => exact ⟨k + 1, by omega, by go_num, (by first | exact hB | exact drew_below hB)⟩
      case measure => simp [intOf]; omega
    · obtain rfl : k = n := by omega
      go_wp2_with fail
      go_ret
      exact ⟨rfl, hB⟩
theorem sameInts_yes (L : List Int) (A B : Option Addr) (c d : Nat) (w : World) (n1 : L.length ≤ 1000000) (h1 : Sl w w.heap.size A (L.map (Value.int .i64))) (h2 : Sl w w.heap.size B (L.map (Value.int .i64))) : Calls Tryd.prog 54 #[.slice A L.length c, .slice B L.length d] w fun e' w' => e' = .returned (.bool true) ∧ Below w.heap.size w w' := by
  obtain ⟨n, hn⟩ : ∃ n, L.length = n := ⟨_, rfl⟩
  rw [hn] at n1 ⊢
  have HN := Lib.hid hn
  have H1 := Lib.hid h1
  have H2 := Lib.hid h2
  clear hn h1 h2
  go_enter Tryd.func54, Tryd.ntmps54
  go_wp2_with fail
  go_loopw [5] (fun s5 wr => ∃ k : Nat, k ≤ n ∧ s5 = .int .i64 (k : Int) ∧ Below w.heap.size w wr) (fun s5 _ => n - (intOf s5).toNat)
  case atStart => exact ⟨0, Nat.zero_le _, rfl, Below.refl _ _⟩
  case round =>
    obtain ⟨k, hk, rfl, hB⟩ := hrel
    by_cases hlt : k < n
    · have hlx : k < L.length := by have := HN.out; omega
      obtain ⟨b1, o1, rfl, l1, q1⟩ := (Sl.below H1.out hB).at_ (by rw [List.length_map]; omega)
      obtain ⟨b2, o2, rfl, l2, q2⟩ := (Sl.below H2.out hB).at_ (by rw [List.length_map]; omega)
      obtain ⟨x, hx⟩ : ∃ x, L[k]? = some x := ⟨_, List.getElem?_eq_getElem hlx⟩
      have x0 := q1 k (.int .i64 x) (by rw [List.getElem?_map, hx]; rfl)
      have y0 := q2 k (.int .i64 x) (by rw [List.getElem?_map, hx]; rfl)
      have k0 : (0 : Int) ≤ (k : Int) := by omega
      have k1 : (k : Int) < (n : Int) := by omega
      clear hx q1 q2 hlx
      go_upto_region 6 with fail
      refine wp_region_noPanic ?_
      refine wp_region_held_drew (S := (fun w_ => w_.cell? ⟨b1, o1 + k, none⟩ = some (.int .i64 x) ∧ w_.cell? ⟨b2, o2 + k, none⟩ = some (.int .i64 x))) (by kernel_rfl) ?_ (fun hHeld => ?_)
      · (first | exact ⟨x0, y0⟩ | assumption)
      refine tk 0 ?_; try simp only [Act.put, pz1, pz2, pz3]
      refine tk 1 ?_; try simp only [Act.put, pz1, pz2, pz3]
      refine tk 2 ?_; try simp only [Act.put, pz1, pz2, pz3]
      refine tk 3 ?_; try simp only [Act.put, pz1, pz2, pz3]
      refine tk 4 ?_; try simp only [Act.put, pz1, pz2, pz3]
      refine tk 5 ?_; try simp only [Act.put, pz1, pz2, pz3]
      refine tk 6 ?_; try simp only [Act.put, pz1, pz2, pz3]
      refine tk 7 ?_; try simp only [Act.put, pz1, pz2, pz3]
      refine tk 8 ?_; try simp only [Act.put, pz1, pz2, pz3]
      refine wpAnyH_done (by kernel_rfl) ?_ _
      refine NoPanic.normal ?_
      go_wp2_with fail
      go_roundw
      case rel => exact ⟨k + 1, by omega, by go_num, (by first | exact hB | exact drew_below hB)⟩
      case measure => simp [intOf]; omega
    · obtain rfl : k = n := by omega
      go_wp2_with fail
      go_ret
      exact ⟨rfl, hB⟩
theorem sameNote_yes (n : Nt) (A1 A2 A3 A4 : Option Addr) (c1 c2 c3 c4 : Nat) (w : World) (h1 : Sl w w.heap.size A1 (n.tg.map strV)) (h2 : Sl w w.heap.size A2 (n.sh.map (Value.int .i64))) (h3 : Sl w w.heap.size A3 (n.tg.map strV)) (h4 : Sl w w.heap.size A4 (n.sh.map (Value.int .i64))) (m1 : n.tg.length ≤ 100000) (m2 : n.sh.length ≤ 100000) : Calls Tryd.prog 24 #[.agg #[.int .i64 n.id, .int .i64 n.bk, .string n.nm, .slice A1 n.tg.length c1, .slice A2 n.sh.length c2], .agg #[.int .i64 n.id, .int .i64 n.bk, .string n.nm, .slice A3 n.tg.length c3, .slice A4 n.sh.length c4]] w fun e' w' => e' = .returned (.bool true) ∧ Below w.heap.size w w' := by
  have HB : Below w.heap.size w ((w.alloc (.cells #[.int .i64 n.id, .int .i64 n.bk, .string n.nm, .slice A1 n.tg.length c1, .slice A2 n.sh.length c2] 49)).alloc (.cells #[.int .i64 n.id, .int .i64 n.bk, .string n.nm, .slice A3 n.tg.length c3, .slice A4 n.sh.length c4] 49)) := (((Below.refl w.heap.size w).alloc (by first | (simp; done) | (simp; omega)) _).alloc (by first | (simp; done) | (simp; omega)) _)
  have B1 : Blk ((w.alloc (.cells #[.int .i64 n.id, .int .i64 n.bk, .string n.nm, .slice A1 n.tg.length c1, .slice A2 n.sh.length c2] 49)).alloc (.cells #[.int .i64 n.id, .int .i64 n.bk, .string n.nm, .slice A3 n.tg.length c3, .slice A4 n.sh.length c4] 49)) w.heap.size 49 #[.int .i64 n.id, .int .i64 n.bk, .string n.nm, .slice A1 n.tg.length c1, .slice A2 n.sh.length c2] := (Blk.new_ w 49 #[.int .i64 n.id, .int .i64 n.bk, .string n.nm, .slice A1 n.tg.length c1, .slice A2 n.sh.length c2]).alloc_ _
  have B2 : Blk ((w.alloc (.cells #[.int .i64 n.id, .int .i64 n.bk, .string n.nm, .slice A1 n.tg.length c1, .slice A2 n.sh.length c2] 49)).alloc (.cells #[.int .i64 n.id, .int .i64 n.bk, .string n.nm, .slice A3 n.tg.length c3, .slice A4 n.sh.length c4] 49)) (w.heap.size + 1) 49 #[.int .i64 n.id, .int .i64 n.bk, .string n.nm, .slice A3 n.tg.length c3, .slice A4 n.sh.length c4] := by
    have := Blk.new_ (w.alloc (.cells #[.int .i64 n.id, .int .i64 n.bk, .string n.nm, .slice A1 n.tg.length c1, .slice A2 n.sh.length c2] 49)) 49 #[.int .i64 n.id, .int .i64 n.bk, .string n.nm, .slice A3 n.tg.length c3, .slice A4 n.sh.length c4]
    first | (simp; done) | simpa using this
  have S1 := h1.next HB
  have S2 := h2.next HB
  have S3 := h3.next HB
  have S4 := h4.next HB
  clear h1 h2 h3 h4
  go_enter Tryd.func24, Tryd.ntmps24
  go_wp2_with (first | (go_at_call 27; ((with_reducible refine (sameTexts_yes n.tg _ _ _ _ _ (by omega) S1 S3).mono ?_); rintro e' w3 ⟨rfl, bx⟩; have B1 := B1.below bx B1.lt; have B2 := B2.below bx B2.lt; have HB := btr HB HB.size bx; have S2 := S2.next bx; have S4 := S4.next bx; have S1 := S1.next bx; have S3 := S3.next bx; (try clear k0 k1 k2 k3 k4 r0 r1 r2 r3 r4); have k0 := B1.cell_ 0; have r0 := B2.cell_ 0; have k1 := B1.cell_ 1; have r1 := B2.cell_ 1; have k2 := B1.cell_ 2; have r2 := B2.cell_ 2; have k3 := B1.cell_ 3; have r3 := B2.cell_ 3; have k4 := B1.cell_ 4; have r4 := B2.cell_ 4; simp at k0 k1 k2 k3 k4 r0 r1 r2 r3 r4; clear bx)) | (go_at_call 54; ((with_reducible refine (sameInts_yes n.sh _ _ _ _ _ (by omega) S2 S4).mono ?_); rintro e' w4 ⟨rfl, bx⟩; have HB := btr HB HB.size bx)))
  go_ret
  exact ⟨rfl, HB⟩
theorem sameShelf_yes (s : Sf) (v1 v2 : Value) (w : World) (h1 : ShR w w.heap.size v1 s) (h2 : ShR w w.heap.size v2 s) (m0 : s.bs.length ≤ 100000) (m1 : s.ts.length ≤ 100000) (m2 : ∀ n ∈ s.ts, n.tg.length ≤ 100000 ∧ n.sh.length ≤ 100000) : Calls Tryd.prog 16 #[v1, v2] w fun e' w' => e' = .returned (.bool true) ∧ Below w.heap.size w w' := by
  obtain ⟨Ab, cb, An, cn, rfl, hB, hN, hcb, hmb, hcn, hmn⟩ := h1.ex
  obtain ⟨Ab2, cb2, An2, cn2, rfl, hB2, hN2, hcb2, hmb2, hcn2, hmn2⟩ := h2.ex
  obtain ⟨es, hel, hse, hnt⟩ := hN.ex
  obtain ⟨es2, hel2, hse2, hnt2⟩ := hN2.ex
  have HB : Below w.heap.size w ((w.alloc (.cells #[.int .i64 s.nb, .int .i64 s.nn, .int .i64 s.ns, .slice Ab s.bs.length cb, .slice An s.ts.length cn] 25)).alloc (.cells #[.int .i64 s.nb, .int .i64 s.nn, .int .i64 s.ns, .slice Ab2 s.bs.length cb2, .slice An2 s.ts.length cn2] 25)) := (((Below.refl w.heap.size w).alloc (by first | (simp; done) | (simp; omega)) _).alloc (by first | (simp; done) | (simp; omega)) _)
  have B1 : Blk ((w.alloc (.cells #[.int .i64 s.nb, .int .i64 s.nn, .int .i64 s.ns, .slice Ab s.bs.length cb, .slice An s.ts.length cn] 25)).alloc (.cells #[.int .i64 s.nb, .int .i64 s.nn, .int .i64 s.ns, .slice Ab2 s.bs.length cb2, .slice An2 s.ts.length cn2] 25)) w.heap.size 25 #[.int .i64 s.nb, .int .i64 s.nn, .int .i64 s.ns, .slice Ab s.bs.length cb, .slice An s.ts.length cn] := (Blk.new_ w 25 #[.int .i64 s.nb, .int .i64 s.nn, .int .i64 s.ns, .slice Ab s.bs.length cb, .slice An s.ts.length cn]).alloc_ _
  have B2 : Blk ((w.alloc (.cells #[.int .i64 s.nb, .int .i64 s.nn, .int .i64 s.ns, .slice Ab s.bs.length cb, .slice An s.ts.length cn] 25)).alloc (.cells #[.int .i64 s.nb, .int .i64 s.nn, .int .i64 s.ns, .slice Ab2 s.bs.length cb2, .slice An2 s.ts.length cn2] 25)) (w.heap.size + 1) 25 #[.int .i64 s.nb, .int .i64 s.nn, .int .i64 s.ns, .slice Ab2 s.bs.length cb2, .slice An2 s.ts.length cn2] := by
    have := Blk.new_ (w.alloc (.cells #[.int .i64 s.nb, .int .i64 s.nn, .int .i64 s.ns, .slice Ab s.bs.length cb, .slice An s.ts.length cn] 25)) 25 #[.int .i64 s.nb, .int .i64 s.nn, .int .i64 s.ns, .slice Ab2 s.bs.length cb2, .slice An2 s.ts.length cn2]
    first | (simp; done) | simpa using this
  have R1 : BksIn ((w.alloc (.cells #[.int .i64 s.nb, .int .i64 s.nn, .int .i64 s.ns, .slice Ab s.bs.length cb, .slice An s.ts.length cn] 25)).alloc (.cells #[.int .i64 s.nb, .int .i64 s.nn, .int .i64 s.ns, .slice Ab2 s.bs.length cb2, .slice An2 s.ts.length cn2] 25)) (((w.alloc (.cells #[.int .i64 s.nb, .int .i64 s.nn, .int .i64 s.ns, .slice Ab s.bs.length cb, .slice An s.ts.length cn] 25)).alloc (.cells #[.int .i64 s.nb, .int .i64 s.nn, .int .i64 s.ns, .slice Ab2 s.bs.length cb2, .slice An2 s.ts.length cn2] 25))).heap.size Ab s.bs := SlE.next hB HB
  have R2 : BksIn ((w.alloc (.cells #[.int .i64 s.nb, .int .i64 s.nn, .int .i64 s.ns, .slice Ab s.bs.length cb, .slice An s.ts.length cn] 25)).alloc (.cells #[.int .i64 s.nb, .int .i64 s.nn, .int .i64 s.ns, .slice Ab2 s.bs.length cb2, .slice An2 s.ts.length cn2] 25)) (((w.alloc (.cells #[.int .i64 s.nb, .int .i64 s.nn, .int .i64 s.ns, .slice Ab s.bs.length cb, .slice An s.ts.length cn] 25)).alloc (.cells #[.int .i64 s.nb, .int .i64 s.nn, .int .i64 s.ns, .slice Ab2 s.bs.length cb2, .slice An2 s.ts.length cn2] 25))).heap.size Ab2 s.bs := SlE.next hB2 HB
  have HM := Lib.hid m2
  have HEL := Lib.hid hel
  have HEL2 := Lib.hid hel2
  have HNT := Lib.hid hnt
  have HNT2 := Lib.hid hnt2
  clear h1 h2 hN hN2 hB hB2 hcb hmb hcn hmn hcb2 hmb2 hcn2 hmn2 m2 hel hel2 hnt hnt2
  go_enter Tryd.func16, Tryd.ntmps16
  go_wp2_with (go_at_call 39; ((with_reducible refine (sameBooks_yes s.bs _ _ _ _ _ (by omega) R1 R2).mono ?_); rintro e' w3 ⟨rfl, bx⟩; have B1 := B1.below bx B1.lt; have B2 := B2.below bx B2.lt; have HB := btr HB HB.size bx; (try clear k0 k1 k2 k3 k4 r0 r1 r2 r3 r4); have k0 := B1.cell_ 0; have r0 := B2.cell_ 0; have k1 := B1.cell_ 1; have r1 := B2.cell_ 1; have k2 := B1.cell_ 2; have r2 := B2.cell_ 2; have k3 := B1.cell_ 3; have r3 := B2.cell_ 3; have k4 := B1.cell_ 4; have r4 := B2.cell_ 4; simp at k0 k1 k2 k3 k4 r0 r1 r2 r3 r4; clear bx))
  go_loopw [5] (fun s5 wr => ∃ k : Nat, k ≤ s.ts.length ∧ s5 = .int .i64 (k : Int) ∧ Below w3.heap.size w3 wr) (fun s5 _ => s.ts.length - (intOf s5).toNat)
  case atStart => exact ⟨0, Nat.zero_le _, rfl, Below.refl _ _⟩
  case round =>
    obtain ⟨k, hk, rfl, hbr⟩ := hrel
    have HBr := btr HB HB.size hbr
    have C1 := B1.below hbr B1.lt
    have C2 := B2.below hbr B2.lt
    clear k0 k1 k2 k3 k4 r0 r1 r2 r3 r4 B1 B2 HB R1 R2
    have k4 := C1.cell_ 4
    have r4 := C2.cell_ 4
    simp at k4 r4
    by_cases hlt : k < s.ts.length
    · obtain ⟨n, hn⟩ : ∃ n, s.ts[k]? = some n := ⟨_, List.getElem?_eq_getElem hlt⟩
      obtain ⟨e1, he1⟩ : ∃ e, es[k]? = some e := ⟨_, List.getElem?_eq_getElem (by have := HEL.out; omega)⟩
      obtain ⟨e2, he2⟩ : ∃ e, es2[k]? = some e := ⟨_, List.getElem?_eq_getElem (by have := HEL2.out; omega)⟩
      obtain ⟨A1, c1, A2, c2, rfl, p1, p2, -⟩ := (HNT.out k n e1 hn he1).ex
      obtain ⟨A3, c3, A4, c4, rfl, p3, p4, -⟩ := (HNT2.out k n e2 hn he2).ex
      obtain ⟨b1, o1, rfl, l1, q1⟩ := hse.at_ (by have := HEL.out; omega)
      obtain ⟨b2, o2, rfl, l2, q2⟩ := hse2.at_ (by have := HEL2.out; omega)
      have x0 : wr.cell? ⟨b1, o1 + k * 5 + 0, none⟩ = some (.int .i64 n.id) := (HBr.cell (p := ⟨b1, _, none⟩) l1).trans (q1 k _ he1 0 _ rfl)
      have x1 : wr.cell? ⟨b1, o1 + k * 5 + 1, none⟩ = some (.int .i64 n.bk) := (HBr.cell (p := ⟨b1, _, none⟩) l1).trans (q1 k _ he1 1 _ rfl)
      have x2 : wr.cell? ⟨b1, o1 + k * 5 + 2, none⟩ = some (.string n.nm) := (HBr.cell (p := ⟨b1, _, none⟩) l1).trans (q1 k _ he1 2 _ rfl)
      have x3 : wr.cell? ⟨b1, o1 + k * 5 + 3, none⟩ = some (.slice A1 n.tg.length c1) := (HBr.cell (p := ⟨b1, _, none⟩) l1).trans (q1 k _ he1 3 _ rfl)
      have x4 : wr.cell? ⟨b1, o1 + k * 5 + 4, none⟩ = some (.slice A2 n.sh.length c2) := (HBr.cell (p := ⟨b1, _, none⟩) l1).trans (q1 k _ he1 4 _ rfl)
      have y0 : wr.cell? ⟨b2, o2 + k * 5 + 0, none⟩ = some (.int .i64 n.id) := (HBr.cell (p := ⟨b2, _, none⟩) l2).trans (q2 k _ he2 0 _ rfl)
      have y1 : wr.cell? ⟨b2, o2 + k * 5 + 1, none⟩ = some (.int .i64 n.bk) := (HBr.cell (p := ⟨b2, _, none⟩) l2).trans (q2 k _ he2 1 _ rfl)
      have y2 : wr.cell? ⟨b2, o2 + k * 5 + 2, none⟩ = some (.string n.nm) := (HBr.cell (p := ⟨b2, _, none⟩) l2).trans (q2 k _ he2 2 _ rfl)
      have y3 : wr.cell? ⟨b2, o2 + k * 5 + 3, none⟩ = some (.slice A3 n.tg.length c3) := (HBr.cell (p := ⟨b2, _, none⟩) l2).trans (q2 k _ he2 3 _ rfl)
      have y4 : wr.cell? ⟨b2, o2 + k * 5 + 4, none⟩ = some (.slice A4 n.sh.length c4) := (HBr.cell (p := ⟨b2, _, none⟩) l2).trans (q2 k _ he2 4 _ rfl)
      simp only [Nat.add_zero] at x0 y0
      have hm := HM.out n (List.mem_of_getElem? hn)
      have hm1 := hm.1
      have hm2 := hm.2
      have k0 : (0 : Int) ≤ (k : Int) := by omega
      have k1 : (k : Int) < (s.ts.length : Int) := by omega
      have D := below_dr wr
      have P1 := (((p1.below HBr).mono_ HBr.size).next D)
      have P2 := (((p2.below HBr).mono_ HBr.size).next D)
      have P3 := (((p3.below HBr).mono_ HBr.size).next D)
      have P4 := (((p4.below HBr).mono_ HBr.size).next D)
      have HBd := btr HBr HBr.size D
      have hbd := btr hbr hbr.size D
      clear hn he1 he2 q1 q2 hm p1 p2 p3 p4 D
      go_upto_region 6 with fail
      go_still_tail 10, (by kernel_rfl)
      change wpList _ _ _ _ _ wr.drew
      obtain ⟨wd, hwd⟩ : ∃ V : World, V = wr.drew := ⟨_, rfl⟩
      rw [← hwd] at P1 P2 P3 P4 HBd hbd ⊢
      clear hwd
      go_wp2_with (go_at_call 24; ((with_reducible refine (sameNote_yes n _ _ _ _ _ _ _ _ _ P1 P2 P3 P4 hm1 hm2).mono ?_); rintro e' w5 ⟨rfl, bx⟩; have hbe := btr hbd hbd.size bx; clear bx))
      go_roundw
      case rel => exact ⟨k + 1, by omega, by go_num, hbe⟩
      case measure => simp [intOf]; omega
    · obtain rfl : k = s.ts.length := by omega
      go_wp2_with fail
      go_ret
      exact ⟨rfl, HBr⟩
end Go.Proofs.YtkaoechjekffmaaDoor
namespace Go.Proofs.YtkaoechjekffmaaDoor
open Go.ChangeShapes Go.WideShapes Go.ChangeAt Go.RowKit
attribute [local go_sem ↓] Go.wp_at_zero Go.wp_at_succ
theorem inI_of {x lo hi : Int} (h1 : lo ≤ x) (h2 : x ≤ hi) : inI x lo hi = true := by
  unfold inI
  rw [decide_eq_true h1, decide_eq_true h2]
  rfl
theorem books_conv {s : Sf} : ∀ (l : List Bk) (bf : Int), (∀ b ∈ l, bf < b.id ∧ b.id ≤ s.nb - 1 ∧ mayN b.nm = true ∧ bookTk s b.nm b.id = false) → (l.Pairwise fun a b => a.id < b.id) → booksFrom s bf l = true
  | [], _, _, _ => rfl
  | x :: l, bf, h, hp => by
    obtain ⟨h1, h2, h3, h4⟩ := h x (by simp)
    rw [List.pairwise_cons] at hp
    show (inI x.id (bf + 1) (s.nb - 1) && (mayN x.nm && (!bookTk s x.nm x.id && booksFrom s x.id l))) = true
    rw [inI_of (by omega) h2, h3, h4, books_conv l x.id (fun b hb => ⟨hp.1 b hb, (h b (by simp [hb])).2⟩) hp.2]
    rfl
theorem notes_conv {s : Sf} : ∀ (l : List Nt) (bf : Int), (∀ b ∈ l, bf < b.id ∧ b.id ≤ s.nn - 1 ∧ mayNt s b = true) → (l.Pairwise fun a b => a.id < b.id) → notesFrom s bf l = true
  | [], _, _, _ => rfl
  | x :: l, bf, h, hp => by
    obtain ⟨h1, h2, h3⟩ := h x (by simp)
    rw [List.pairwise_cons] at hp
    show (inI x.id (bf + 1) (s.nn - 1) && (mayNt s x && notesFrom s x.id l)) = true
    rw [inI_of (by omega) h2, h3, notes_conv l x.id (fun b hb => ⟨hp.1 b hb, (h b (by simp [hb])).2⟩) hp.2]
    rfl
theorem shIn_iff (ns : Int) : ∀ (l seen : List Int), sheetsIn ns seen l = true ↔ (∀ x ∈ l, inI x 1 (ns - 1) = true ∧ x ∉ seen) ∧ l.Nodup
  | [], seen => by simp [sheetsIn]
  | x :: l, seen => by
    have ih := shIn_iff ns l (x :: seen)
    show (inI x 1 (ns - 1) && (!seen.contains x && sheetsIn ns (x :: seen) l)) = true ↔ _
    rw [Bool.and_eq_true, Bool.and_eq_true, ih, List.nodup_cons]
    simp only [Bool.not_eq_true', List.contains_eq_mem, decide_eq_false_iff_not, List.mem_cons, not_or]
    constructor
    · rintro ⟨h1, h2, h3, h4⟩
      refine ⟨fun y hy => ?_, fun hx => (h3 x hx).2.1 rfl, h4⟩
      rcases hy with rfl | hy
      · exact ⟨h1, h2⟩
      · exact ⟨(h3 y hy).1, (h3 y hy).2.2⟩
    · rintro ⟨h1, h2, h3⟩
      refine ⟨(h1 x (Or.inl rfl)).1, (h1 x (Or.inl rfl)).2, fun y hy => ⟨(h1 y (Or.inr hy)).1, fun e => h2 (e ▸ hy), (h1 y (Or.inr hy)).2⟩, h3⟩
theorem sh_iff (ns : Int) : ∀ (l : List Nt) (seen : List Int), sheetsFrom ns seen l = true ↔ (∀ n ∈ l, n.sh.length ≤ 8) ∧ (∀ x ∈ l.flatMap Nt.sh, inI x 1 (ns - 1) = true ∧ x ∉ seen) ∧ (l.flatMap Nt.sh).Nodup
  | [], seen => by simp [sheetsFrom]
  | n :: l, seen => by
    have ih := sh_iff ns l (n.sh.reverse ++ seen)
    show (decide (n.sh.length ≤ 8) && (sheetsIn ns seen n.sh && sheetsFrom ns (n.sh.reverse ++ seen) l)) = true ↔ _
    rw [Bool.and_eq_true, Bool.and_eq_true, ih, shIn_iff, List.flatMap_cons, List.nodup_append]
    simp only [decide_eq_true_eq, List.mem_cons, List.mem_append, List.mem_reverse, not_or]
    constructor
    · rintro ⟨h1, ⟨h2, h3⟩, h4, h5, h6⟩
      refine ⟨fun m hm => ?_, fun x hx => ?_, h3, h6, fun a ha b hb e => ?_⟩
      · rcases hm with rfl | hm
        · exact h1
        · exact h4 m hm
      · rcases hx with hx | hx
        · exact h2 x hx
        · exact ⟨(h5 x hx).1, (h5 x hx).2.2⟩
      · subst e
        exact (h5 a hb).2.1 ha
    · rintro ⟨h1, h2, h3, h4, h5⟩
      exact ⟨h1 n (Or.inl rfl), ⟨fun x hx => h2 x (Or.inl hx), h3⟩, fun m hm => h1 m (Or.inr hm), fun x hx => ⟨(h2 x (Or.inr hx)).1, fun hx2 => h5 x hx2 x hx rfl, (h2 x (Or.inr hx)).2⟩, h4⟩
theorem flat_sub {α β : Type} {f : α → List β} {a b : List α} (h : a.Sublist b) : (a.flatMap f).Sublist (b.flatMap f) := by
  induction h with
  | slnil => exact List.Sublist.refl _
  | cons x _ ih => rw [List.flatMap_cons]; exact ih.trans (List.sublist_append_right _ _)
  | cons_cons x _ ih => rw [List.flatMap_cons, List.flatMap_cons]; exact (List.Sublist.refl _).append ih
theorem mayS_conv {s : Sf} (h : MayF s) : mayS s = true := by
  unfold mayS
  rw [inI_of h.nb.1 h.nb.2, inI_of h.nn.1 h.nn.2, inI_of h.ns.1 h.ns.2, decide_eq_true h.bl, decide_eq_true h.tl, books_conv s.bs 0 h.bs h.bo, notes_conv s.ts 0 h.ts h.tord, h.sh]
  rfl
theorem tk_sub {ts ts' : List Nt} (hs : ts'.Sublist ts) {p : Nt → Bool} (h : ts.any p = false) : ts'.any p = false := by
  rw [List.any_eq_false] at h ⊢
  exact fun x hx => h x (hs.subset hx)
theorem mayNt_sub {s : Sf} {ts' : List Nt} (hs : ts'.Sublist s.ts) {n : Nt} (h : mayNt s n = true) : mayNt { s with ts := ts' } n = true := by
  unfold mayNt at h ⊢
  simp only [Bool.and_eq_true, Bool.not_eq_true'] at h ⊢
  exact ⟨h.1, h.2.1, tk_sub hs h.2.2.1, h.2.2.2⟩
theorem MayF.sub {s : Sf} (h : MayF s) {ts' : List Nt} (hs : ts'.Sublist s.ts) : MayF { s with ts := ts' } := by
  obtain ⟨q1, q2, q3⟩ := (sh_iff _ _ _).1 h.sh
  exact ⟨h.nb, h.nn, h.ns, h.bl, Nat.le_trans hs.length_le h.tl, h.bs, h.bo, fun n hn => ⟨(h.ts n (hs.subset hn)).1, (h.ts n (hs.subset hn)).2.1, mayNt_sub hs (h.ts n (hs.subset hn)).2.2⟩, h.tord.sublist hs,
    (sh_iff _ _ _).2 ⟨fun n hn => q1 n (hs.subset hn), fun x hx => q2 x ((flat_sub hs).subset hx), q3.sublist (flat_sub hs)⟩⟩
def discL (s : Sf) (L : List Int) : Sf := { s with ts := s.ts.filter fun n => !L.contains n.id }
theorem MayF.idinj {s : Sf} (h : MayF s) {a b : Nt} (ha : a ∈ s.ts) (hb : b ∈ s.ts) (he : a.id = b.id) : a = b := by
  obtain ⟨i, hi, rfl⟩ := List.mem_iff_getElem.1 ha
  obtain ⟨j, hj, rfl⟩ := List.mem_iff_getElem.1 hb
  rcases Nat.lt_trichotomy i j with hij | rfl | hij
  · have := List.pairwise_iff_getElem.1 h.tord i j hi hj hij
    omega
  · rfl
  · have := List.pairwise_iff_getElem.1 h.tord j i hj hi hij
    omega
theorem MayF.bidinj {s : Sf} (h : MayF s) {a b : Bk} (ha : a ∈ s.bs) (hb : b ∈ s.bs) (he : a.id = b.id) : a = b := by
  obtain ⟨i, hi, rfl⟩ := List.mem_iff_getElem.1 ha
  obtain ⟨j, hj, rfl⟩ := List.mem_iff_getElem.1 hb
  rcases Nat.lt_trichotomy i j with hij | rfl | hij
  · have := List.pairwise_iff_getElem.1 h.bo i j hi hj hij
    omega
  · rfl
  · have := List.pairwise_iff_getElem.1 h.bo j i hj hi hij
    omega
structure DrpF (s : Sf) (x : Int) (its : List It) : Prop where
  disc : ∀ (i : Nat) (y : It), its[i]? = some y → discC (discL s ((its.map It.id).take i)) y.id = 0
  step : ∀ (i : Nat) (y : It), its[i]? = some y → discS (discL s ((its.map It.id).take i)) y.id = discL s ((its.map It.id).take (i + 1))
  last : dropC (discL s (its.map It.id)) x = 0
  same : dropS (discL s (its.map It.id)) x = dropS s x
  notes : ((dropS s x).ts.length : Int) = (s.ts.length : Int) - (its.length : Int)
  books : ((dropS s x).bs.length : Int) = (s.bs.length : Int) - 1
end Go.Proofs.YtkaoechjekffmaaDoor
namespace Go.Proofs.YtkaoechjekffmaaDoor
open Go.ChangeShapes Go.WideShapes Go.ChangeAt Go.RowKit
attribute [local go_sem ↓] Go.wp_at_zero Go.wp_at_succ
theorem keepR {s : Sf} {v : Value} {w W W' : World} {g1 g2 : Nat} {t1 t2 : TypeId} {a0 a1 a2 a3 a4 b0 b1 b2 b3 b4 : Value} (S1 : ShR W W.heap.size v s) (B1 : Blk W g1 t1 #[a0, a1, a2, a3, a4]) (B2 : Blk W g2 t2 #[b0, b1, b2, b3, b4]) (HB : Below w.heap.size w W) (bx : Below W.heap.size W W') : ShR W' W'.heap.size v s ∧ Blk W' g1 t1 #[a0, a1, a2, a3, a4] ∧ Blk W' g2 t2 #[b0, b1, b2, b3, b4] ∧ Below w.heap.size w W' ∧ W'.cell? ⟨g1, 0, none⟩ = some a0 ∧ W'.cell? ⟨g1, 1, none⟩ = some a1 ∧ W'.cell? ⟨g1, 2, none⟩ = some a2 ∧ W'.cell? ⟨g1, 3, none⟩ = some a3 ∧ W'.cell? ⟨g1, 4, none⟩ = some a4 ∧ W'.cell? ⟨g2, 0, none⟩ = some b0 ∧ W'.cell? ⟨g2, 1, none⟩ = some b1 ∧ W'.cell? ⟨g2, 2, none⟩ = some b2 ∧ W'.cell? ⟨g2, 3, none⟩ = some b3 ∧ W'.cell? ⟨g2, 4, none⟩ = some b4 ∧ W'.frozen? ⟨g2, 0, none⟩ = false ∧ W'.frozen? ⟨g2, 1, none⟩ = false ∧ W'.frozen? ⟨g2, 2, none⟩ = false ∧ W'.frozen? ⟨g2, 3, none⟩ = false ∧ W'.frozen? ⟨g2, 4, none⟩ = false := by
  have B1n := B1.below bx B1.lt
  have B2n := B2.below bx B2.lt
  exact ⟨S1.next bx, B1n, B2n, btr HB HB.size bx, B1n.cell_ 0, B1n.cell_ 1, B1n.cell_ 2, B1n.cell_ 3, B1n.cell_ 4, B2n.cell_ 0, B2n.cell_ 1, B2n.cell_ 2, B2n.cell_ 3, B2n.cell_ 4, B2n.free 0, B2n.free 1, B2n.free 2, B2n.free 3, B2n.free 4⟩
theorem keepT {s : Sf} {v : Value} {w W W' : World} {g1 g2 : Nat} {t1 t2 : TypeId} {a0 a1 a2 a3 a4 b0 b1 b2 b3 b4 : Value} (S1 : ShR W W.heap.size v s) (T1 : Tabs W) (B1 : Blk W g1 t1 #[a0, a1, a2, a3, a4]) (B2 : Blk W g2 t2 #[b0, b1, b2, b3, b4]) (HB : Below w.heap.size w W) (bx : Below W.heap.size W W') : ShR W' W'.heap.size v s ∧ Tabs W' ∧ Blk W' g1 t1 #[a0, a1, a2, a3, a4] ∧ Blk W' g2 t2 #[b0, b1, b2, b3, b4] ∧ Below w.heap.size w W' ∧ W'.cell? ⟨g1, 0, none⟩ = some a0 ∧ W'.cell? ⟨g1, 1, none⟩ = some a1 ∧ W'.cell? ⟨g1, 2, none⟩ = some a2 ∧ W'.cell? ⟨g1, 3, none⟩ = some a3 ∧ W'.cell? ⟨g1, 4, none⟩ = some a4 ∧ W'.cell? ⟨g2, 0, none⟩ = some b0 ∧ W'.cell? ⟨g2, 1, none⟩ = some b1 ∧ W'.cell? ⟨g2, 2, none⟩ = some b2 ∧ W'.cell? ⟨g2, 3, none⟩ = some b3 ∧ W'.cell? ⟨g2, 4, none⟩ = some b4 ∧ W'.frozen? ⟨g2, 0, none⟩ = false ∧ W'.frozen? ⟨g2, 1, none⟩ = false ∧ W'.frozen? ⟨g2, 2, none⟩ = false ∧ W'.frozen? ⟨g2, 3, none⟩ = false ∧ W'.frozen? ⟨g2, 4, none⟩ = false := by
  obtain ⟨h1, h2⟩ := keepR S1 B1 B2 HB bx
  exact ⟨h1, T1.next bx, h2⟩
theorem pre2 {s : Sf} {w : World} {Ab : Option Addr} {cb : Nat} {An : Option Addr} {cn : Nat} (hS0 : ShR w w.heap.size (.agg #[.int .i64 s.nb, .int .i64 s.nn, .int .i64 s.ns, .slice Ab s.bs.length cb, .slice An s.ts.length cn]) s) : Below w.heap.size w ((w.alloc (.cells #[.int .i64 s.nb, .int .i64 s.nn, .int .i64 s.ns, .slice Ab s.bs.length cb, .slice An s.ts.length cn] 25)).alloc (.cells #[.int .i64 0, .int .i64 0, .int .i64 0, .slice none 0 0, .slice none 0 0] 25)) ∧ Blk ((w.alloc (.cells #[.int .i64 s.nb, .int .i64 s.nn, .int .i64 s.ns, .slice Ab s.bs.length cb, .slice An s.ts.length cn] 25)).alloc (.cells #[.int .i64 0, .int .i64 0, .int .i64 0, .slice none 0 0, .slice none 0 0] 25)) w.heap.size 25 #[.int .i64 s.nb, .int .i64 s.nn, .int .i64 s.ns, .slice Ab s.bs.length cb, .slice An s.ts.length cn] ∧ Blk ((w.alloc (.cells #[.int .i64 s.nb, .int .i64 s.nn, .int .i64 s.ns, .slice Ab s.bs.length cb, .slice An s.ts.length cn] 25)).alloc (.cells #[.int .i64 0, .int .i64 0, .int .i64 0, .slice none 0 0, .slice none 0 0] 25)) (w.heap.size + 1) 25 #[.int .i64 0, .int .i64 0, .int .i64 0, .slice none 0 0, .slice none 0 0] ∧ ShR ((w.alloc (.cells #[.int .i64 s.nb, .int .i64 s.nn, .int .i64 s.ns, .slice Ab s.bs.length cb, .slice An s.ts.length cn] 25)).alloc (.cells #[.int .i64 0, .int .i64 0, .int .i64 0, .slice none 0 0, .slice none 0 0] 25)) (((w.alloc (.cells #[.int .i64 s.nb, .int .i64 s.nn, .int .i64 s.ns, .slice Ab s.bs.length cb, .slice An s.ts.length cn] 25)).alloc (.cells #[.int .i64 0, .int .i64 0, .int .i64 0, .slice none 0 0, .slice none 0 0] 25))).heap.size (.agg #[.int .i64 s.nb, .int .i64 s.nn, .int .i64 s.ns, .slice Ab s.bs.length cb, .slice An s.ts.length cn]) s := by
  have HB : Below w.heap.size w ((w.alloc (.cells #[.int .i64 s.nb, .int .i64 s.nn, .int .i64 s.ns, .slice Ab s.bs.length cb, .slice An s.ts.length cn] 25)).alloc (.cells #[.int .i64 0, .int .i64 0, .int .i64 0, .slice none 0 0, .slice none 0 0] 25)) := (((Below.refl w.heap.size w).alloc (by first | (simp; done) | (simp; omega)) _).alloc (by first | (simp; done) | (simp; omega)) _)
  have B1 : Blk ((w.alloc (.cells #[.int .i64 s.nb, .int .i64 s.nn, .int .i64 s.ns, .slice Ab s.bs.length cb, .slice An s.ts.length cn] 25)).alloc (.cells #[.int .i64 0, .int .i64 0, .int .i64 0, .slice none 0 0, .slice none 0 0] 25)) w.heap.size 25 #[.int .i64 s.nb, .int .i64 s.nn, .int .i64 s.ns, .slice Ab s.bs.length cb, .slice An s.ts.length cn] := (Blk.new_ w 25 #[.int .i64 s.nb, .int .i64 s.nn, .int .i64 s.ns, .slice Ab s.bs.length cb, .slice An s.ts.length cn]).alloc_ (.cells #[.int .i64 0, .int .i64 0, .int .i64 0, .slice none 0 0, .slice none 0 0] 25)
  have B2 : Blk ((w.alloc (.cells #[.int .i64 s.nb, .int .i64 s.nn, .int .i64 s.ns, .slice Ab s.bs.length cb, .slice An s.ts.length cn] 25)).alloc (.cells #[.int .i64 0, .int .i64 0, .int .i64 0, .slice none 0 0, .slice none 0 0] 25)) (w.heap.size + 1) 25 #[.int .i64 0, .int .i64 0, .int .i64 0, .slice none 0 0, .slice none 0 0] := by
    have := Blk.new_ (w.alloc (.cells #[.int .i64 s.nb, .int .i64 s.nn, .int .i64 s.ns, .slice Ab s.bs.length cb, .slice An s.ts.length cn] 25)) 25 #[.int .i64 0, .int .i64 0, .int .i64 0, .slice none 0 0, .slice none 0 0]
    simpa using this
  have S1 : ShR ((w.alloc (.cells #[.int .i64 s.nb, .int .i64 s.nn, .int .i64 s.ns, .slice Ab s.bs.length cb, .slice An s.ts.length cn] 25)).alloc (.cells #[.int .i64 0, .int .i64 0, .int .i64 0, .slice none 0 0, .slice none 0 0] 25)) (((w.alloc (.cells #[.int .i64 s.nb, .int .i64 s.nn, .int .i64 s.ns, .slice Ab s.bs.length cb, .slice An s.ts.length cn] 25)).alloc (.cells #[.int .i64 0, .int .i64 0, .int .i64 0, .slice none 0 0, .slice none 0 0] 25))).heap.size (.agg #[.int .i64 s.nb, .int .i64 s.nn, .int .i64 s.ns, .slice Ab s.bs.length cb, .slice An s.ts.length cn]) s := hS0.next HB
  exact ⟨HB, B1, B2, S1⟩
def z5 (w : World) (g : Nat) : World := st5 w g 0 (.int .i64 0) (.int .i64 0) (.int .i64 0) (.slice none 0 0) (.slice none 0 0)
theorem z5_blk {w : World} {g : Nat} {t : TypeId} {p0 p1 p2 p3 p4 : Value} (h : Blk w g t #[p0, p1, p2, p3, p4]) : Blk (z5 w g) g t #[.int .i64 0, .int .i64 0, .int .i64 0, .slice none 0 0, .slice none 0 0] := h.st5_ _ _ _ _ _
theorem z5_below {w W : World} {g : Nat} (HB : Below w.heap.size w W) (hg : w.heap.size ≤ g) : Below w.heap.size w (z5 W g) := st5_below HB hg 0 _ _ _ _ _ HB.size
def renC (s : Sf) (y : Int) (x : ByteArray) : Int := cond (mayS s) (cond (decide (bookAt s y < 0)) 4 (cond (mayN x) (cond (bookTk s x y) 7 0) 6)) 2
def renS (s : Sf) (y : Int) (x : ByteArray) : Sf := { s with bs := s.bs.set (bookAt s y).toNat ⟨y, x⟩ }
def nameAt (s : Sf) (y : Int) : ByteArray := match s.ts[(noteAt s y).toNat]? with
  | some n => n.nm
  | none => ByteArray.empty
def movC (s : Sf) (y z : Int) : Int := cond (mayS s) (cond (decide (noteAt s y < 0) || decide (bookAt s z < 0)) 4 (cond (noteTk s z (nameAt s y) y) 7 0)) 2
def movS (s : Sf) (y z : Int) : Sf := match s.ts[(noteAt s y).toNat]? with
  | some n => { s with ts := s.ts.set (noteAt s y).toNat { n with bk := z } }
  | none => s
theorem noteAt_get {s : Sf} {x : Int} (h : 0 ≤ noteAt s x) : ∃ (k : Nat) (b : Nt), noteAt s x = (k : Int) ∧ s.ts[k]? = some b ∧ b.id = x := by
  rcases idxP_cases (fun b : Nt => b.id == x) s.ts with ⟨h1, _⟩ | ⟨k, b, h1, h2, h3, _⟩
  · have : noteAt s x = -1 := h1
    omega
  · exact ⟨k, b, h1, h2, by simpa using h3⟩
end Go.Proofs.YtkaoechjekffmaaDoor
namespace Go.Proofs.YtkaoechjekffmaaDoor
open Go.ChangeShapes Go.WideShapes Go.ChangeAt Go.RowKit
attribute [local go_sem ↓] Go.wp_at_zero Go.wp_at_succ
structure MkF (s : Sf) (x : ByteArray) : Prop where
  may : MayF s
  nm : mayN x = true
  tk : bookTk s x 0 = false
  bl : s.bs.length < 6
  nb : s.nb < 65536
theorem tkB_iff {s : Sf} {x : ByteArray} {y : Int} : bookTk s x y = false ↔ ∀ b ∈ s.bs, b.nm.toList = x.toList → b.id = y := by
  unfold bookTk
  rw [List.any_eq_false]
  constructor
  · intro h b hb he
    have := h b hb
    simpa [sameS, he] using this
  · intro h b hb
    simp only [sameS, Bool.and_eq_true, beq_iff_eq, bne_iff_ne, ne_eq, not_and, Decidable.not_not]
    exact h b hb
theorem tkN_iff {s : Sf} {z : Int} {x : ByteArray} {y : Int} : noteTk s z x y = false ↔ ∀ n ∈ s.ts, n.bk = z → n.nm.toList = x.toList → n.id = y := by
  unfold noteTk
  rw [List.any_eq_false]
  constructor
  · intro h n hn hb he
    have := h n hn
    simpa [sameS, he, hb] using this
  · intro h n hn
    simp only [sameS, Bool.and_eq_true, beq_iff_eq, bne_iff_ne, ne_eq, not_and, Decidable.not_not]
    exact h n hn
theorem mayNt_iff {s : Sf} {n : Nt} : mayNt s n = true ↔ mayN n.nm = true ∧ (∃ b ∈ s.bs, b.id = n.bk) ∧ noteTk s n.bk n.nm n.id = false ∧ mayTg n.tg = true := by
  unfold mayNt
  simp only [Bool.and_eq_true, Bool.not_eq_true', decide_eq_true_eq]
  rw [book_is]
theorem MkF.may2 {s : Sf} {x : ByteArray} (h : MkF s x) : MayF (makeS s x) := by
  have hF := h.may
  have hnb := hF.nb
  have hone : ∀ b ∈ s.bs, 0 < b.id ∧ b.id ≤ s.nb - 1 := fun b hb => ⟨(hF.bs b hb).1, (hF.bs b hb).2.1⟩
  have hno : ∀ b ∈ s.bs, b.nm.toList ≠ x.toList := fun b hb he => by
    have h1 := tkB_iff.1 h.tk b hb he
    have h2 := hone b hb
    omega
  have hlt := h.nb
  refine ⟨⟨by show 1 ≤ s.nb + 1; omega, by show s.nb + 1 ≤ 65536; omega⟩, hF.nn, hF.ns, by show (s.bs ++ [_]).length ≤ 6; rw [List.length_append]; have := h.bl; simp; omega, hF.tl, fun b hb => ?_, ?_, fun n hn => ⟨(hF.ts n hn).1, (hF.ts n hn).2.1, ?_⟩, hF.tord, hF.sh⟩
  · have hb' : b ∈ s.bs ++ [⟨s.nb, x⟩] := hb
    have htk : bookTk (makeS s x) b.nm b.id = false := by
      rw [tkB_iff]
      intro c hc he
      have hc' : c ∈ s.bs ++ [⟨s.nb, x⟩] := hc
      rcases List.mem_append.1 hb' with hb1 | hb1 <;> rcases List.mem_append.1 hc' with hc1 | hc1
      · exact hF.names hc1 hb1 he
      · rw [List.mem_singleton] at hc1
        subst hc1
        exact absurd he.symm (hno b hb1)
      · rw [List.mem_singleton] at hb1
        subst hb1
        exact absurd he (hno c hc1)
      · rw [List.mem_singleton] at hb1 hc1
        rw [hb1, hc1]
    rcases List.mem_append.1 hb' with hb1 | hb1
    · have h2 := hF.bs b hb1
      exact ⟨h2.1, by show b.id ≤ s.nb + 1 - 1; omega, h2.2.2.1, htk⟩
    · rw [List.mem_singleton] at hb1
      subst hb1
      exact ⟨by show 0 < s.nb; omega, by show s.nb ≤ s.nb + 1 - 1; omega, h.nm, htk⟩
  · show (s.bs ++ [(⟨s.nb, x⟩ : Bk)]).Pairwise _
    rw [List.pairwise_append]
    refine ⟨hF.bo, List.pairwise_singleton _ _, fun a ha b hb => ?_⟩
    rw [List.mem_singleton] at hb
    subst hb
    have := hone a ha
    show a.id < s.nb
    omega
  · obtain ⟨q1, ⟨b, hb, hbe⟩, q3, q4⟩ := mayNt_iff.1 (hF.ts n hn).2.2
    exact mayNt_iff.2 ⟨q1, ⟨b, List.mem_append_left _ hb, hbe⟩, q3, q4⟩
theorem MkF.drop {s : Sf} {x : ByteArray} (h : MkF s x) : dropC (makeS s x) s.nb = 0 ∧ { dropS (makeS s x) s.nb with nb := s.nb } = s := by
  have hF := h.may
  have h0 : 0 ≤ bookAt (makeS s x) s.nb := (book_is _).2 ⟨⟨s.nb, x⟩, List.mem_append_right _ (by simp), rfl⟩
  constructor
  · unfold dropC
    rw [mayS_conv h.may2, decide_eq_false (by omega)]
    rfl
  · have e1 : (s.bs ++ [(⟨s.nb, x⟩ : Bk)]).filter (fun b => !(b.id == s.nb)) = s.bs := by
      rw [List.filter_append]
      have : s.bs.filter (fun b => !(b.id == s.nb)) = s.bs := by
        rw [List.filter_eq_self]
        intro b hb
        have := (hF.bs b hb).2.1
        have hne : b.id ≠ s.nb := by omega
        simp [hne]
      rw [this]
      simp
    have e2 : s.ts.filter (fun n => !(n.bk == s.nb)) = s.ts := by
      rw [List.filter_eq_self]
      intro n hn
      obtain ⟨b, hb, he⟩ := (mayNt_iff.1 (hF.ts n hn).2.2).2.1
      have := (hF.bs b hb).2.1
      have hne : n.bk ≠ s.nb := by omega
      simp [hne]
    show (⟨s.nb, s.nn, s.ns, (s.bs ++ [(⟨s.nb, x⟩ : Bk)]).filter (fun b => !(b.id == s.nb)), s.ts.filter (fun n => !(n.bk == s.nb))⟩ : Sf) = s
    rw [e1, e2]
theorem renS_at {s : Sf} {y : Int} {x : ByteArray} {k : Nat} (h : bookAt s y = (k : Int)) : renS s y x = { s with bs := s.bs.set k ⟨y, x⟩ } := by
  unfold renS
  rw [h]
  rfl
theorem movS_at {s : Sf} {y z : Int} {k : Nat} {n : Nt} (h : noteAt s y = (k : Int)) (hn : s.ts[k]? = some n) : movS s y z = { s with ts := s.ts.set k { n with bk := z } } := by
  unfold movS
  rw [h]
  simp [hn]
structure RnF (s : Sf) (y : Int) (x : ByteArray) (k : Nat) (b : Bk) : Prop where
  may : MayF s
  at_ : bookAt s y = (k : Int)
  bk : s.bs[k]? = some b
  id : b.id = y
  nm : mayN x = true
  tk : bookTk s x y = false
theorem RnF.eq {s : Sf} {y : Int} {x : ByteArray} {k : Nat} {b : Bk} (h : RnF s y x k b) : renS s y x = { s with bs := s.bs.set k ⟨y, x⟩ } := by
  unfold renS
  rw [h.at_]
  rfl
theorem set_mem {α : Type} {l : List α} {k : Nat} {a c : α} (h : c ∈ l.set k a) : c = a ∨ ∃ j, j ≠ k ∧ l[j]? = some c := by
  obtain ⟨j, hj, he⟩ := List.mem_iff_getElem.1 h
  have h1 := List.getElem?_eq_getElem hj
  rw [he, List.getElem?_set] at h1
  split at h1
  · rename_i hjk
    left
    split at h1
    · exact (Option.some.inj h1).symm
    · cases h1
  · rename_i hjk
    exact Or.inr ⟨j, fun e => hjk e.symm, h1⟩
theorem set_ids {l : List Bk} {k : Nat} {b : Bk} {x : ByteArray} (hb : l[k]? = some b) : (l.set k ⟨b.id, x⟩).map Bk.id = l.map Bk.id := by
  rw [List.map_set]
  apply List.ext_getElem?
  intro j
  rw [List.getElem?_set, List.getElem?_map]
  split
  · rename_i h
    subst h
    rw [hb]
    have := (List.getElem?_eq_some_iff.1 hb).1
    simp [this]
  · rfl
theorem RnF.may2 {s : Sf} {y : Int} {x : ByteArray} {k : Nat} {b : Bk} (h : RnF s y x k b) : MayF (renS s y x) := by
  have hF := h.may
  rw [h.eq]
  have hbm := List.mem_of_getElem? h.bk
  have hids := set_ids (x := x) h.bk
  rw [h.id] at hids
  have hmem : ∀ c ∈ s.bs.set k ⟨y, x⟩, (c = ⟨y, x⟩) ∨ (c ∈ s.bs ∧ c.id ≠ y) := by
    intro c hc
    rcases set_mem hc with h1 | ⟨j, hj, he⟩
    · exact Or.inl h1
    · refine Or.inr ⟨List.mem_of_getElem? he, fun e => hj ?_⟩
      have hcb := hF.bidinj (List.mem_of_getElem? he) hbm (e.trans h.id.symm)
      obtain ⟨h1, e1⟩ := List.getElem?_eq_some_iff.1 he
      obtain ⟨h2, e2⟩ := List.getElem?_eq_some_iff.1 h.bk
      rcases Nat.lt_trichotomy j k with hlt | rfl | hlt
      · have := List.pairwise_iff_getElem.1 hF.bo j k h1 h2 hlt
        rw [e1, e2, hcb] at this
        omega
      · rfl
      · have := List.pairwise_iff_getElem.1 hF.bo k j h2 h1 hlt
        rw [e1, e2, hcb] at this
        omega
  refine ⟨hF.nb, hF.nn, hF.ns, by show (s.bs.set k _).length ≤ 6; rw [List.length_set]; exact hF.bl, hF.tl, fun c hc => ?_, ?_, fun n hn => ⟨(hF.ts n hn).1, (hF.ts n hn).2.1, ?_⟩, hF.tord, hF.sh⟩
  · have hc0 : c ∈ s.bs.set k ⟨y, x⟩ := hc
    have htk : bookTk { s with bs := s.bs.set k ⟨y, x⟩ } c.nm c.id = false := by
      rw [tkB_iff]
      intro d hd he
      rcases hmem d hd with rfl | ⟨hd1, hd2⟩ <;> rcases hmem c hc0 with rfl | ⟨hc1, hc2⟩
      · rfl
      · exact absurd (tkB_iff.1 h.tk c hc1 he.symm) hc2
      · exact absurd (tkB_iff.1 h.tk d hd1 he) hd2
      · exact hF.names hd1 hc1 he
    rcases hmem c hc0 with rfl | ⟨hc1, hc2⟩
    · have h2 := hF.bs b hbm
      rw [h.id] at h2
      exact ⟨h2.1, h2.2.1, h.nm, htk⟩
    · have h2 := hF.bs c hc1
      exact ⟨h2.1, h2.2.1, h2.2.2.1, htk⟩
  · have h1 : (s.bs.map Bk.id).Pairwise (· < ·) := List.pairwise_map.2 hF.bo
    rw [← hids] at h1
    exact List.pairwise_map.1 h1
  · obtain ⟨q1, ⟨c, hc, hce⟩, q3, q4⟩ := mayNt_iff.1 (hF.ts n hn).2.2
    have : n.bk ∈ (s.bs.set k ⟨y, x⟩).map Bk.id := by
      rw [hids]
      exact List.mem_map.2 ⟨c, hc, hce⟩
    obtain ⟨d, hd, hde⟩ := List.mem_map.1 this
    exact mayNt_iff.2 ⟨q1, ⟨d, hd, hde⟩, q3, q4⟩
theorem RnF.back {s : Sf} {y : Int} {x : ByteArray} {k : Nat} {b : Bk} (h : RnF s y x k b) : renC (renS s y x) y b.nm = 0 ∧ renS (renS s y x) y b.nm = s := by
  have hF := h.may
  have hbm := List.mem_of_getElem? h.bk
  have hids := set_ids (x := x) h.bk
  rw [h.id] at hids
  have hlt := (List.getElem?_eq_some_iff.1 h.bk).1
  have hidx : bookAt (renS s y x) y = (k : Int) := by
    have h1 : ∀ l : List Bk, idxP (fun b : Bk => b.id == y) l = idxP (fun i : Int => i == y) (l.map Bk.id) := by
      intro l
      unfold idxP
      rw [List.findIdx?_map]
      rfl
    show idxP _ (renS s y x).bs = _
    rw [h.eq, h1]
    show idxP _ ((s.bs.set k ⟨y, x⟩).map Bk.id) = _
    rw [hids, ← h1]
    exact h.at_
  constructor
  · unfold renC
    rw [mayS_conv h.may2, hidx, decide_eq_false (by omega), (hF.bs b hbm).2.2.1]
    have : bookTk (renS s y x) b.nm y = false := by
      rw [tkB_iff, h.eq]
      intro d hd he
      rcases set_mem hd with rfl | ⟨j, hj, hje⟩
      · rfl
      · have := hF.names (List.mem_of_getElem? hje) hbm he
        rw [this, h.id]
    rw [this]
    rfl
  · have : renS (renS s y x) y b.nm = { renS s y x with bs := (renS s y x).bs.set k ⟨y, b.nm⟩ } := renS_at hidx
    rw [this, h.eq]
    show ({ s with bs := (s.bs.set k ⟨y, x⟩).set k ⟨y, b.nm⟩ } : Sf) = s
    rw [List.set_set]
    have hbe : (⟨y, b.nm⟩ : Bk) = b := by rw [← h.id]
    rw [hbe]
    have : s.bs.set k b = s.bs := by
      obtain ⟨h1, e1⟩ := List.getElem?_eq_some_iff.1 h.bk
      rw [← e1]
      exact List.set_getElem_self h1
    rw [this]
structure MvF (s : Sf) (y z : Int) (k : Nat) (n : Nt) : Prop where
  may : MayF s
  at_ : noteAt s y = (k : Int)
  nt : s.ts[k]? = some n
  id : n.id = y
  bk : ∃ b ∈ s.bs, b.id = z
  tk : noteTk s z n.nm y = false
theorem MvF.eq {s : Sf} {y z : Int} {k : Nat} {n : Nt} (h : MvF s y z k n) : movS s y z = { s with ts := s.ts.set k { n with bk := z } } := by
  unfold movS
  rw [h.at_]
  simp [h.nt]
theorem setN_map {β : Type} {l : List Nt} {k : Nat} {n : Nt} {z : Int} (f : Nt → β) (hf : f { n with bk := z } = f n) (hn : l[k]? = some n) : (l.set k { n with bk := z }).map f = l.map f := by
  rw [List.map_set, hf]
  apply List.ext_getElem?
  intro j
  rw [List.getElem?_set, List.getElem?_map]
  split
  · rename_i h
    subst h
    rw [hn]
    have := (List.getElem?_eq_some_iff.1 hn).1
    simp [this]
  · rfl
theorem MvF.may2 {s : Sf} {y z : Int} {k : Nat} {n : Nt} (h : MvF s y z k n) : MayF (movS s y z) := by
  have hF := h.may
  rw [h.eq]
  have hnm := List.mem_of_getElem? h.nt
  have hmem : ∀ c ∈ s.ts.set k { n with bk := z }, (c = { n with bk := z }) ∨ (c ∈ s.ts ∧ c.id ≠ y) := by
    intro c hc
    rcases set_mem hc with h1 | ⟨j, hj, he⟩
    · exact Or.inl h1
    · refine Or.inr ⟨List.mem_of_getElem? he, fun e => hj ?_⟩
      have hcb := hF.idinj (List.mem_of_getElem? he) hnm (e.trans h.id.symm)
      obtain ⟨h1, e1⟩ := List.getElem?_eq_some_iff.1 he
      obtain ⟨h2, e2⟩ := List.getElem?_eq_some_iff.1 h.nt
      rcases Nat.lt_trichotomy j k with hlt | rfl | hlt
      · have := List.pairwise_iff_getElem.1 hF.tord j k h1 h2 hlt
        rw [e1, e2, hcb] at this
        omega
      · rfl
      · have := List.pairwise_iff_getElem.1 hF.tord k j h2 h1 hlt
        rw [e1, e2, hcb] at this
        omega
  obtain ⟨q1, q2, q3⟩ := (sh_iff _ _ _).1 hF.sh
  have hfm : (s.ts.set k { n with bk := z }).flatMap Nt.sh = s.ts.flatMap Nt.sh := by
    rw [List.flatMap_def, List.flatMap_def, setN_map Nt.sh rfl h.nt]
  refine ⟨hF.nb, hF.nn, hF.ns, hF.bl, by show (s.ts.set k _).length ≤ 12; rw [List.length_set]; exact hF.tl, hF.bs, hF.bo, fun c hc => ?_, ?_, ?_⟩
  · have hc0 : c ∈ s.ts.set k { n with bk := z } := hc
    have htk : ∀ c ∈ s.ts.set k { n with bk := z }, noteTk { s with ts := s.ts.set k { n with bk := z } } c.bk c.nm c.id = false := by
      intro c hc
      rw [tkN_iff]
      intro d hd hdb he
      rcases hmem d hd with rfl | ⟨hd1, hd2⟩ <;> rcases hmem c hc with rfl | ⟨hc1, hc2⟩
      · rfl
      · exact absurd (tkN_iff.1 h.tk c hc1 hdb.symm he.symm) hc2
      · exact absurd (tkN_iff.1 h.tk d hd1 hdb he) hd2
      · exact hF.nnames hd1 hc1 hdb he
    rcases hmem c hc0 with rfl | ⟨hc1, hc2⟩
    · have h2 := hF.ts n hnm
      obtain ⟨m1, m2, m3, m4⟩ := mayNt_iff.1 h2.2.2
      exact ⟨h2.1, h2.2.1, mayNt_iff.2 ⟨m1, h.bk, htk _ hc0, m4⟩⟩
    · have h2 := hF.ts c hc1
      obtain ⟨m1, m2, m3, m4⟩ := mayNt_iff.1 h2.2.2
      exact ⟨h2.1, h2.2.1, mayNt_iff.2 ⟨m1, m2, htk _ hc0, m4⟩⟩
  · have h1 : (s.ts.map Nt.id).Pairwise (· < ·) := List.pairwise_map.2 hF.tord
    rw [← setN_map Nt.id rfl h.nt (z := z)] at h1
    exact List.pairwise_map.1 h1
  · refine (sh_iff _ _ _).2 ⟨fun c hc => ?_, ?_, ?_⟩
    · rcases hmem c hc with rfl | ⟨hc1, _⟩
      · exact q1 n hnm
      · exact q1 c hc1
    · show ∀ x ∈ (s.ts.set k { n with bk := z }).flatMap Nt.sh, _
      rw [hfm]
      exact q2
    · show ((s.ts.set k { n with bk := z }).flatMap Nt.sh).Nodup
      rw [hfm]
      exact q3
theorem MvF.back {s : Sf} {y z : Int} {k : Nat} {n : Nt} (h : MvF s y z k n) : movC (movS s y z) y n.bk = 0 ∧ movS (movS s y z) y n.bk = s := by
  have hF := h.may
  have hnm := List.mem_of_getElem? h.nt
  have hlt := (List.getElem?_eq_some_iff.1 h.nt).1
  have hidx : noteAt (movS s y z) y = (k : Int) := by
    have h1 : ∀ l : List Nt, idxP (fun b : Nt => b.id == y) l = idxP (fun i : Int => i == y) (l.map Nt.id) := by
      intro l
      unfold idxP
      rw [List.findIdx?_map]
      rfl
    show idxP _ (movS s y z).ts = _
    rw [h.eq, h1]
    show idxP _ ((s.ts.set k { n with bk := z }).map Nt.id) = _
    rw [setN_map Nt.id rfl h.nt, ← h1]
    exact h.at_
  have hget : (movS s y z).ts[k]? = some { n with bk := z } := by
    rw [h.eq]
    show (s.ts.set k { n with bk := z })[k]? = _
    rw [List.getElem?_set_self hlt]
  have hnam : nameAt (movS s y z) y = n.nm := by
    unfold nameAt
    rw [hidx]
    simp [hget]
  obtain ⟨m1, m2, m3, m4⟩ := mayNt_iff.1 (hF.ts n hnm).2.2
  constructor
  · have hbk : 0 ≤ bookAt (movS s y z) n.bk := by
      rw [h.eq]
      exact (book_is (s := { s with ts := s.ts.set k { n with bk := z } }) _).2 m2
    have htk : noteTk (movS s y z) n.bk n.nm y = false := by
      rw [tkN_iff, h.eq]
      intro d hd hdb he
      rcases set_mem hd with rfl | ⟨j, hj, hje⟩
      · exact h.id
      · have := tkN_iff.1 m3 d (List.mem_of_getElem? hje) hdb he
        rw [this, h.id]
    unfold movC
    rw [mayS_conv h.may2, hidx, hnam, htk, decide_eq_false (by omega), decide_eq_false (by omega)]
    rfl
  · have : movS (movS s y z) y n.bk = { movS s y z with ts := (movS s y z).ts.set k { n with bk := n.bk } } := by
      have := movS_at (z := n.bk) hidx hget
      exact this
    rw [this, h.eq]
    show ({ s with ts := (s.ts.set k { n with bk := z }).set k { n with bk := n.bk } } : Sf) = s
    rw [List.set_set]
    have : s.ts.set k { n with bk := n.bk } = s.ts := by
      obtain ⟨h1, e1⟩ := List.getElem?_eq_some_iff.1 h.nt
      have e2 : ({ n with bk := n.bk } : Nt) = n := rfl
      rw [e2, ← e1]
      exact List.set_getElem_self h1
    rw [this]
end Go.Proofs.YtkaoechjekffmaaDoor
namespace Go.Proofs.YtkaoechjekffmaaDoor
open Go.ChangeShapes Go.WideShapes Go.ChangeAt Go.RowKit
attribute [local go_sem ↓] Go.wp_at_zero Go.wp_at_succ
def ntOf (s : Sf) (y : Int) : Nt := match s.ts[(noteAt s y).toNat]? with
  | some n => n
  | none => ⟨0, 0, ByteArray.empty, [], []⟩
def findC (s : Sf) (y : Int) : Int := cond (mayS s) (cond (decide (noteAt s y < 0)) 4 0) 2
def putN (s : Sf) (y : Int) (m : Nt) : Sf := { s with ts := s.ts.set (noteAt s y).toNat m }
def appC (s : Sf) (y : Int) : Int := cond (findC s y == 0) (cond (decide (8 ≤ (ntOf s y).sh.length) || decide (4096 ≤ s.ns)) 3 0) (findC s y)
def appS (s : Sf) (y : Int) : Sf := { putN s y { ntOf s y with sh := (ntOf s y).sh ++ [s.ns] } with ns := s.ns + 1 }
def shtC (s : Sf) (y i : Int) : Int := cond (findC s y == 0) (cond (decide (i < 0) || decide ((ntOf s y).sh.length ≤ i)) 2 0) (findC s y)
def remS (s : Sf) (y i : Int) : Sf := putN s y { ntOf s y with sh := (ntOf s y).sh.eraseIdx i.toNat }
structure FdF (s : Sf) (y : Int) (k : Nat) (n : Nt) : Prop where
  may : MayF s
  at_ : noteAt s y = (k : Int)
  nt : s.ts[k]? = some n
  id : n.id = y
theorem fdF_of {s : Sf} {y : Int} (h : findC s y = 0) : ∃ k n, FdF s y k n := by
  have : mayS s = true ∧ ¬ noteAt s y < 0 := by
    unfold findC at h
    cases h1 : mayS s <;> by_cases h2 : noteAt s y < 0 <;> rw [h1] at h <;> simp [h2] at h ⊢
  obtain ⟨k, n, hk, hn, hid⟩ := noteAt_get (Int.not_lt.1 this.2)
  exact ⟨k, n, mayF_of this.1, hk, hn, hid⟩
theorem FdF.of_ {s : Sf} {y : Int} {k : Nat} {n : Nt} (h : FdF s y k n) : ntOf s y = n := by
  unfold ntOf
  rw [h.at_]
  simp [h.nt]
theorem FdF.put {s : Sf} {y : Int} {k : Nat} {n : Nt} (h : FdF s y k n) (m : Nt) : putN s y m = { s with ts := s.ts.set k m } := by
  unfold putN
  rw [h.at_]
  rfl
theorem FdF.may2 {s : Sf} {y : Int} {k : Nat} {n m : Nt} (h : FdF s y k n) (ns2 : Int) (hns : 1 ≤ ns2 ∧ ns2 ≤ 4096) (h1 : m.id = n.id) (h2 : m.bk = n.bk) (h3 : m.nm = n.nm) (h4 : mayTg m.tg = true) (h5 : sheetsFrom ns2 [] (s.ts.set k m) = true) : MayF { s with ns := ns2, ts := s.ts.set k m } := by
  have hF := h.may
  have hnm := List.mem_of_getElem? h.nt
  have hlt := (List.getElem?_eq_some_iff.1 h.nt).1
  have hmp : ∀ {β : Type} (f : Nt → β), f m = f n → (s.ts.set k m).map f = s.ts.map f := by
    intro β f hf
    rw [List.map_set, hf]
    apply List.ext_getElem?
    intro j
    rw [List.getElem?_set, List.getElem?_map]
    split
    · rename_i hj
      subst hj
      rw [h.nt]
      simp [hlt]
    · rfl
  have htk : ∀ z x y', noteTk { s with ns := ns2, ts := s.ts.set k m } z x y' = noteTk s z x y' := by
    intro z x y'
    have e : ∀ l : List Nt, (l.any fun q => q.bk == z && (sameS q.nm x && q.id != y')) = ((l.map fun q => (q.bk, q.nm, q.id)).any fun q => q.1 == z && (sameS q.2.1 x && q.2.2 != y')) := by
      intro l
      rw [List.any_map]
      rfl
    show ((s.ts.set k m).any fun q => q.bk == z && (sameS q.nm x && q.id != y')) = s.ts.any fun q => q.bk == z && (sameS q.nm x && q.id != y')
    rw [e, e, hmp (fun q => (q.bk, q.nm, q.id)) (by rw [h1, h2, h3])]
  have hmem : ∀ c ∈ s.ts.set k m, c = m ∨ c ∈ s.ts := fun c hc => by
    rcases List.mem_or_eq_of_mem_set hc with h6 | h6
    · exact Or.inr h6
    · exact Or.inl h6
  refine ⟨hF.nb, hF.nn, hns, hF.bl, by show (s.ts.set k m).length ≤ 12; rw [List.length_set]; exact hF.tl, hF.bs, hF.bo, fun c hc => ?_, ?_, h5⟩
  · rcases hmem c hc with rfl | hc1
    · have h6 := hF.ts n hnm
      obtain ⟨m1, m2, m3, m4⟩ := mayNt_iff.1 h6.2.2
      refine ⟨by rw [h1]; exact h6.1, by rw [h1]; exact h6.2.1, mayNt_iff.2 ⟨by rw [h3]; exact m1, by rw [h2]; exact m2, ?_, h4⟩⟩
      rw [htk, h1, h2, h3]
      exact m3
    · have h6 := hF.ts c hc1
      obtain ⟨m1, m2, m3, m4⟩ := mayNt_iff.1 h6.2.2
      exact ⟨h6.1, h6.2.1, mayNt_iff.2 ⟨m1, m2, by rw [htk]; exact m3, m4⟩⟩
  · have h6 : (s.ts.map Nt.id).Pairwise (· < ·) := List.pairwise_map.2 hF.tord
    rw [← hmp Nt.id h1] at h6
    exact List.pairwise_map.1 h6
theorem set_split {α : Type} {l : List α} {k : Nat} {n m : α} (h : l[k]? = some n) : l = l.take k ++ n :: l.drop (k + 1) ∧ l.set k m = l.take k ++ m :: l.drop (k + 1) := by
  obtain ⟨hlt, he⟩ := List.getElem?_eq_some_iff.1 h
  constructor
  · conv => lhs; rw [← List.take_append_drop k l]
    rw [List.drop_eq_getElem_cons hlt, he]
  · rw [List.set_eq_take_append_cons_drop, if_pos hlt]
theorem app_may {s : Sf} {y : Int} {k : Nat} {n : Nt} (h : FdF s y k n) (hl : n.sh.length < 8) (hs : s.ns < 4096) : MayF (appS s y) := by
  have hF := h.may
  have hns := hF.ns
  obtain ⟨q1, q2, q3⟩ := (sh_iff _ _ _).1 hF.sh
  obtain ⟨e1, e2⟩ := set_split (m := { n with sh := n.sh ++ [s.ns] }) h.nt
  have hmt := (mayNt_iff.1 (hF.ts n (List.mem_of_getElem? h.nt)).2.2).2.2.2
  have hap : appS s y = { s with ns := s.ns + 1, ts := s.ts.set k { n with sh := n.sh ++ [s.ns] } } := by
    unfold appS
    rw [h.of_, h.put]
  rw [hap]
  refine h.may2 (s.ns + 1) (by omega) rfl rfl rfl hmt ((sh_iff _ _ _).2 ⟨fun c hc => ?_, ?_, ?_⟩)
  · rcases List.mem_or_eq_of_mem_set hc with h6 | rfl
    · exact q1 c h6
    · show (n.sh ++ [s.ns]).length ≤ 8
      rw [List.length_append]
      simp
      omega
  · intro x hx
    have hx2 : x = s.ns ∨ x ∈ s.ts.flatMap Nt.sh := by
      rw [e2, List.flatMap_append, List.flatMap_cons] at hx
      rw [e1, List.flatMap_append, List.flatMap_cons]
      simp only [List.mem_append, List.mem_singleton] at hx ⊢
      rcases hx with hx | (hx | hx) | hx
      · exact Or.inr (Or.inl hx)
      · exact Or.inr (Or.inr (Or.inl hx))
      · exact Or.inl hx
      · exact Or.inr (Or.inr (Or.inr hx))
    refine ⟨?_, by simp⟩
    rcases hx2 with rfl | hx2
    · exact inI_of (by omega) (by omega)
    · have h7 := inI_bd (q2 x hx2).1
      exact inI_of h7.1 (by omega)
  · have hno : s.ns ∉ s.ts.flatMap Nt.sh := fun hx => by
      have h7 := inI_bd (q2 _ hx).1
      omega
    have hp : ((s.ts.set k { n with sh := n.sh ++ [s.ns] }).flatMap Nt.sh).Perm (s.ns :: s.ts.flatMap Nt.sh) := by
      rw [e2]
      conv => rhs; rw [e1]
      rw [List.flatMap_append, List.flatMap_cons, List.flatMap_append, List.flatMap_cons]
      have h8 : ∀ (A B C : List Int) (x : Int), (A ++ ((B ++ [x]) ++ C)).Perm (x :: (A ++ (B ++ C))) := by
        intro A B C x
        rw [show A ++ ((B ++ [x]) ++ C) = (A ++ B) ++ x :: C by simp]
        exact List.perm_middle.trans (by rw [List.append_assoc])
      exact h8 _ _ _ _
    rw [hp.nodup_iff, List.nodup_cons]
    exact ⟨hno, q3⟩
theorem rem_may {s : Sf} {y i : Int} {k : Nat} {n : Nt} (h : FdF s y k n) : MayF (remS s y i) := by
  have hF := h.may
  obtain ⟨q1, q2, q3⟩ := (sh_iff _ _ _).1 hF.sh
  obtain ⟨e1, e2⟩ := set_split (m := { n with sh := n.sh.eraseIdx i.toNat }) h.nt
  have hmt := (mayNt_iff.1 (hF.ts n (List.mem_of_getElem? h.nt)).2.2).2.2.2
  have hsub : (n.sh.eraseIdx i.toNat).Sublist n.sh := List.eraseIdx_sublist _ _
  have hfs : ((s.ts.set k { n with sh := n.sh.eraseIdx i.toNat }).flatMap Nt.sh).Sublist (s.ts.flatMap Nt.sh) := by
    rw [e2]
    conv => rhs; rw [e1]
    rw [List.flatMap_append, List.flatMap_cons, List.flatMap_append, List.flatMap_cons]
    exact (List.Sublist.refl _).append (hsub.append (List.Sublist.refl _))
  have hrm : remS s y i = { s with ns := s.ns, ts := s.ts.set k { n with sh := n.sh.eraseIdx i.toNat } } := by
    unfold remS
    rw [h.of_, h.put]
  rw [hrm]
  refine h.may2 s.ns hF.ns rfl rfl rfl hmt ((sh_iff _ _ _).2 ⟨fun c hc => ?_, fun x hx => q2 x (hfs.subset hx), q3.sublist hfs⟩)
  rcases List.mem_or_eq_of_mem_set hc with h6 | rfl
  · exact q1 c h6
  · exact Nat.le_trans hsub.length_le (q1 n (List.mem_of_getElem? h.nt))
end Go.Proofs.YtkaoechjekffmaaDoor
namespace Go.Proofs.YtkaoechjekffmaaDoor
open Go.ChangeShapes Go.WideShapes Go.ChangeAt Go.RowKit
attribute [local go_sem ↓] Go.wp_at_zero Go.wp_at_succ
theorem lessS_it (a b : ByteArray) : lessS a b = ltOf cmpI ⟨0, a⟩ ⟨0, b⟩ := by
  unfold lessS ltOf cmpI
  rw [cmp_less, ByteArray.toList_eq, ByteArray.toList_eq]
theorem lessS_trans {a b c : ByteArray} (h1 : lessS a b = true) (h2 : lessS b c = true) : lessS a c = true := by
  rw [lessS_it] at *
  exact swoI.trans _ _ _ h1 h2
theorem lessS_irr (a : ByteArray) : lessS a a = false := by
  rw [lessS_it]
  exact swoI.irrefl _
theorem lessS_tri {a b : ByteArray} (h1 : lessS a b = false) (h2 : lessS b a = false) : a = b := by
  unfold lessS at h1 h2
  rw [cmp_less, ByteArray.toList_eq, ByteArray.toList_eq, decide_eq_false_iff_not] at h1 h2
  have h := cmp_tri _ _ h1 h2
  cases a
  cases b
  congr 1
  exact Array.toList_inj.1 h
theorem tagsFrom_iff : ∀ (l p : List ByteArray), tagsFrom p l = true ↔ (∀ t ∈ l, mayN t = true) ∧ (l.Pairwise fun a b => lessS a b = true) ∧ ∀ q ∈ p.head?, ∀ t ∈ l, lessS q t = true
  | [], p => by simp [tagsFrom]
  | x :: l, p => by
    have ih := tagsFrom_iff l [x]
    unfold tagsFrom
    rw [Bool.and_eq_true, Bool.and_eq_true, ih, List.pairwise_cons]
    constructor
    · rintro ⟨h1, h2, h3, h4, h5⟩
      have h6 : ∀ t ∈ l, lessS x t = true := fun t ht => h5 x (by simp) t ht
      refine ⟨fun t ht => ?_, ⟨h6, h4⟩, fun q hq t ht => ?_⟩
      · rcases List.mem_cons.1 ht with rfl | ht
        · exact h1
        · exact h3 t ht
      · have hqx : lessS q x = true := by
          cases p with
          | nil => simp at hq
          | cons r p =>
            simp at hq
            subst hq
            exact h2
        rcases List.mem_cons.1 ht with rfl | ht
        · exact hqx
        · exact lessS_trans hqx (h6 t ht)
    · rintro ⟨h1, ⟨h2, h3⟩, h4⟩
      refine ⟨h1 x (by simp), ?_, fun t ht => h1 t (by simp [ht]), h3, fun q hq t ht => ?_⟩
      · cases p with
        | nil => rfl
        | cons r p => exact h4 r (by simp) x (by simp)
      · simp at hq
        subst hq
        exact h2 t ht
theorem tg_iff {l : List ByteArray} : mayTg l = true ↔ l.length ≤ 4 ∧ (∀ t ∈ l, mayN t = true) ∧ l.Pairwise fun a b => lessS a b = true := by
  unfold mayTg
  rw [Bool.and_eq_true, decide_eq_true_eq, tagsFrom_iff]
  simp
def tgPos : List ByteArray → ByteArray → Nat
  | [], _ => 0
  | y :: l, x => if lessS y x = true then tgPos l x + 1 else 0
def tgIns (l : List ByteArray) (x : ByteArray) : List ByteArray := l.take (tgPos l x) ++ [x] ++ l.drop (tgPos l x)
theorem tgPos_le : ∀ (l : List ByteArray) (x : ByteArray), tgPos l x ≤ l.length
  | [], _ => Nat.le_refl _
  | y :: l, x => by
    unfold tgPos
    have := tgPos_le l x
    split
    · rw [List.length_cons]
      omega
    · exact Nat.zero_le _
theorem tgIns_len (l : List ByteArray) (x : ByteArray) : (tgIns l x).length = l.length + 1 := by
  unfold tgIns
  have := tgPos_le l x
  rw [List.length_append, List.length_append, List.length_take, List.length_drop]
  simp
  omega
theorem tgIns_mem {l : List ByteArray} {x z : ByteArray} (h : z ∈ tgIns l x) : z = x ∨ z ∈ l := by
  unfold tgIns at h
  rcases List.mem_append.1 h with h | h
  · rcases List.mem_append.1 h with h | h
    · exact Or.inr (List.mem_of_mem_take h)
    · exact Or.inl (by simpa using h)
  · exact Or.inr (List.mem_of_mem_drop h)
theorem tgIns_pair {x : ByteArray} : ∀ {l : List ByteArray}, (l.Pairwise fun a b => lessS a b = true) → x ∉ l → (tgIns l x).Pairwise fun a b => lessS a b = true
  | [], _, _ => by simp [tgIns, tgPos]
  | y :: l, h, hx => by
    have h1 := List.pairwise_cons.1 h
    have hxl : x ∉ l := fun h2 => hx (by simp [h2])
    have ih := tgIns_pair h1.2 hxl
    by_cases hy : lessS y x = true
    · have e : tgIns (y :: l) x = y :: tgIns l x := by
        unfold tgIns
        rw [show tgPos (y :: l) x = tgPos l x + 1 by rw [tgPos, if_pos hy]]
        simp
      rw [e, List.pairwise_cons]
      refine ⟨fun z hz => ?_, ih⟩
      rcases tgIns_mem hz with rfl | hz
      · exact hy
      · exact h1.1 z hz
    · have e : tgIns (y :: l) x = x :: y :: l := by
        unfold tgIns
        rw [show tgPos (y :: l) x = 0 by rw [tgPos, if_neg hy]]
        simp
      have hxy : lessS x y = true := by
        cases h2 : lessS x y
        · have h3 := lessS_tri h2 (by simpa using hy)
          exact absurd h3 (fun h4 => hx (by simp [h4]))
        · rfl
      rw [e, List.pairwise_cons]
      refine ⟨fun z hz => ?_, h⟩
      rcases List.mem_cons.1 hz with rfl | hz
      · exact hxy
      · exact lessS_trans hxy (h1.1 z hz)
def hasT (l : List ByteArray) (x : ByteArray) : Bool := l.any fun t => sameS t x
def tagC (s : Sf) (y : Int) (x : ByteArray) : Int := cond (findC s y == 0) (cond (mayN x) (cond (hasT (ntOf s y).tg x) 7 (cond (decide (4 ≤ (ntOf s y).tg.length)) 3 0)) 6) (findC s y)
def tagS (s : Sf) (y : Int) (x : ByteArray) : Sf := putN s y { ntOf s y with tg := tgIns (ntOf s y).tg x }
def untC (s : Sf) (y : Int) (x : ByteArray) : Int := cond (findC s y == 0) (cond (hasT (ntOf s y).tg x) 0 4) (findC s y)
def tgAt (l : List ByteArray) (x : ByteArray) : Int := idxP (fun t => sameS t x) l
def untS (s : Sf) (y : Int) (x : ByteArray) : Sf := putN s y { ntOf s y with tg := (ntOf s y).tg.eraseIdx (tgAt (ntOf s y).tg x).toNat }
theorem hasT_iff {l : List ByteArray} {x : ByteArray} : hasT l x = true ↔ x ∈ l := by
  unfold hasT
  rw [List.any_eq_true]
  constructor
  · rintro ⟨t, ht, h⟩
    have h1 : t.toList = x.toList := by simpa [sameS] using h
    have h2 : t = x := by
      rw [ByteArray.toList_eq, ByteArray.toList_eq] at h1
      cases t
      cases x
      congr 1
      exact Array.toList_inj.1 h1
    exact h2 ▸ ht
  · intro h
    exact ⟨x, h, by simp [sameS]⟩
theorem sheets_put {s : Sf} {y : Int} {k : Nat} {n m : Nt} (h : FdF s y k n) (hs : m.sh = n.sh) : sheetsFrom s.ns [] (s.ts.set k m) = true := by
  obtain ⟨q1, q2, q3⟩ := (sh_iff _ _ _).1 h.may.sh
  obtain ⟨e1, e2⟩ := set_split (m := m) h.nt
  have hf : (s.ts.set k m).flatMap Nt.sh = s.ts.flatMap Nt.sh := by
    rw [e2]
    conv => rhs; rw [e1]
    rw [List.flatMap_append, List.flatMap_cons, List.flatMap_append, List.flatMap_cons, hs]
  refine (sh_iff _ _ _).2 ⟨fun c hc => ?_, by rw [hf]; exact q2, by rw [hf]; exact q3⟩
  rcases List.mem_or_eq_of_mem_set hc with h6 | rfl
  · exact q1 c h6
  · rw [hs]
    exact q1 n (List.mem_of_getElem? h.nt)
theorem tag_may {s : Sf} {y : Int} {x : ByteArray} {k : Nat} {n : Nt} (h : FdF s y k n) (hx : mayN x = true) (hn : x ∉ n.tg) (hl : n.tg.length < 4) : MayF (tagS s y x) := by
  have hmt := (mayNt_iff.1 (h.may.ts n (List.mem_of_getElem? h.nt)).2.2).2.2.2
  obtain ⟨t1, t2, t3⟩ := tg_iff.1 hmt
  have e : tagS s y x = { s with ns := s.ns, ts := s.ts.set k { n with tg := tgIns n.tg x } } := by
    unfold tagS
    rw [h.of_, h.put]
  rw [e]
  refine h.may2 s.ns h.may.ns rfl rfl rfl (tg_iff.2 ⟨by rw [tgIns_len]; omega, fun t ht => ?_, tgIns_pair t3 hn⟩) (sheets_put h rfl)
  rcases tgIns_mem ht with rfl | ht
  · exact hx
  · exact t2 t ht
theorem unt_may {s : Sf} {y : Int} {x : ByteArray} {k : Nat} {n : Nt} (h : FdF s y k n) : MayF (untS s y x) := by
  have hmt := (mayNt_iff.1 (h.may.ts n (List.mem_of_getElem? h.nt)).2.2).2.2.2
  obtain ⟨t1, t2, t3⟩ := tg_iff.1 hmt
  have e : untS s y x = { s with ns := s.ns, ts := s.ts.set k { n with tg := n.tg.eraseIdx (tgAt n.tg x).toNat } } := by
    unfold untS
    rw [h.of_, h.put]
  have hsub : (n.tg.eraseIdx (tgAt n.tg x).toNat).Sublist n.tg := List.eraseIdx_sublist _ _
  rw [e]
  exact h.may2 s.ns h.may.ns rfl rfl rfl (tg_iff.2 ⟨Nat.le_trans hsub.length_le t1, fun t ht => t2 t (hsub.subset ht), t3.sublist hsub⟩) (sheets_put h rfl)
theorem FdF.again {s : Sf} {y : Int} {k : Nat} {n m : Nt} (h : FdF s y k n) (ns2 : Int) (h1 : m.id = n.id) (hm : MayF { s with ns := ns2, ts := s.ts.set k m }) : FdF { s with ns := ns2, ts := s.ts.set k m } y k m := by
  have hlt := (List.getElem?_eq_some_iff.1 h.nt).1
  refine ⟨hm, ?_, by show (s.ts.set k m)[k]? = some m; rw [List.getElem?_set_self hlt], by rw [h1]; exact h.id⟩
  have e : ∀ l : List Nt, idxP (fun b : Nt => b.id == y) l = idxP (fun i : Int => i == y) (l.map Nt.id) := by
    intro l
    unfold idxP
    rw [List.findIdx?_map]
    rfl
  have hmp : (s.ts.set k m).map Nt.id = s.ts.map Nt.id := by
    rw [List.map_set, h1]
    apply List.ext_getElem?
    intro j
    rw [List.getElem?_set, List.getElem?_map]
    split
    · rename_i hj
      subst hj
      rw [h.nt]
      simp [hlt]
    · rfl
  show idxP (fun b : Nt => b.id == y) (s.ts.set k m) = _
  rw [e, hmp, ← e]
  exact h.at_
theorem findC_of {s : Sf} {y : Int} {k : Nat} {n : Nt} (h : FdF s y k n) : findC s y = 0 := by
  unfold findC
  rw [mayS_conv h.may, h.at_, decide_eq_false (by omega)]
  rfl
end Go.Proofs.YtkaoechjekffmaaDoor
namespace Go.Proofs.YtkaoechjekffmaaDoor
open Go.ChangeShapes Go.WideShapes Go.ChangeAt Go.RowKit
attribute [local go_sem ↓] Go.wp_at_zero Go.wp_at_succ
theorem remS_eq {s : Sf} {y i : Int} {k : Nat} {n : Nt} (h : FdF s y k n) : remS s y i = { s with ts := s.ts.set k { n with sh := n.sh.eraseIdx i.toNat } } := by
  unfold remS
  rw [h.of_, h.put]
theorem tagS_eq {s : Sf} {y : Int} {x : ByteArray} {k : Nat} {n : Nt} (h : FdF s y k n) : tagS s y x = { s with ts := s.ts.set k { n with tg := tgIns n.tg x } } := by
  unfold tagS
  rw [h.of_, h.put]
theorem untS_eq {s : Sf} {y : Int} {x : ByteArray} {k : Nat} {n : Nt} (h : FdF s y k n) : untS s y x = { s with ts := s.ts.set k { n with tg := n.tg.eraseIdx (tgAt n.tg x).toNat } } := by
  unfold untS
  rw [h.of_, h.put]
structure ShtF (s : Sf) (y : Int) (k : Nat) (n : Nt) : Prop where
  fd : FdF s y k n
  fd2 : FdF (appS s y) y k { n with sh := n.sh ++ [s.ns] }
  rem : shtC (appS s y) y (n.sh.length : Int) = 0
  back : { remS (appS s y) y (n.sh.length : Int) with ns := s.ns } = s
theorem appC_cases {s : Sf} {y : Int} (h : appC s y = 0) : findC s y = 0 ∧ (ntOf s y).sh.length < 8 ∧ s.ns < 4096 := by
  unfold appC at h
  cases h1 : findC s y == 0
  · rw [h1] at h
    have h2 : findC s y = 0 := h
    rw [h2] at h1
    cases h1
  · rw [h1] at h
    have h2 : (cond (decide (8 ≤ (ntOf s y).sh.length) || decide (4096 ≤ s.ns)) 3 0 : Int) = 0 := h
    refine ⟨by simpa using h1, ?_, ?_⟩
    · rcases Nat.lt_or_ge (ntOf s y).sh.length 8 with h3 | h3
      · exact h3
      · rw [decide_eq_true h3] at h2
        cases h2
    · rcases Int.lt_or_le s.ns 4096 with h3 | h3
      · exact h3
      · rw [decide_eq_true h3, Bool.or_true] at h2
        cases h2
theorem sht_at {s : Sf} {y i : Int} {k : Nat} {n : Nt} (h : FdF s y k n) : shtC s y i = 0 ↔ 0 ≤ i ∧ i < n.sh.length := by
  unfold shtC
  rw [findC_of h, h.of_]
  show (cond (decide (i < 0) || decide ((n.sh.length : Int) ≤ i)) 2 0 : Int) = 0 ↔ _
  by_cases h1 : i < 0
  · rw [decide_eq_true h1]
    constructor
    · intro h2
      cases h2
    · intro h2
      omega
  · by_cases h2 : (n.sh.length : Int) ≤ i
    · rw [decide_eq_true h2, Bool.or_true]
      constructor
      · intro h3
        cases h3
      · intro h3
        omega
    · rw [decide_eq_false h1, decide_eq_false h2]
      exact ⟨fun _ => by omega, fun _ => rfl⟩
structure TgF (s : Sf) (y : Int) (x : ByteArray) (k : Nat) (n : Nt) : Prop where
  fd : FdF s y k n
  fd2 : FdF (tagS s y x) y k { n with tg := tgIns n.tg x }
  nm : mayN x = true
  no : x ∉ n.tg
  len : n.tg.length < 4
  pair : (tgIns n.tg x).Pairwise fun a b => lessS a b = true
  unt : untC (tagS s y x) y x = 0
  back : untS (tagS s y x) y x = s
  twice : tagC (tagS s y x) y x = 7
  none : untC s y x = 4
theorem tagC_cases {s : Sf} {y : Int} {x : ByteArray} (h : tagC s y x = 0) : findC s y = 0 ∧ mayN x = true ∧ hasT (ntOf s y).tg x = false ∧ (ntOf s y).tg.length < 4 := by
  unfold tagC at h
  cases h1 : findC s y == 0
  · rw [h1] at h
    have h2 : findC s y = 0 := h
    rw [h2] at h1
    cases h1
  · rw [h1] at h
    cases h2 : mayN x
    · rw [h2] at h
      cases h
    · cases h3 : hasT (ntOf s y).tg x
      · rcases Nat.lt_or_ge (ntOf s y).tg.length 4 with h4 | h4
        · exact ⟨by simpa using h1, rfl, rfl, h4⟩
        · rw [h2, h3, decide_eq_true h4] at h
          cases h
      · rw [h2, h3] at h
        cases h
end Go.Proofs.YtkaoechjekffmaaDoor
namespace Go.Proofs.YtkaoechjekffmaaDoor
open Go.ChangeShapes Go.WideShapes Go.ChangeAt Go.RowKit
attribute [local go_sem ↓] Go.wp_at_zero Go.wp_at_succ
theorem nfind_no (s : Sf) (v : Value) (y : Int) (w : World) (hS : ShR w w.heap.size v s) (hT : Tabs w) (c : Int) (hc : findC s y = c) (hne : c ≠ 0) :
    Calls Tryd.prog 44 #[v, .int .i64 y] w fun e' w' => e' = .returned (.tuple #[.int .i64 (-1), .int .i64 c]) ∧ Below w.heap.size w w' := by
  have hS0 := hS
  obtain ⟨Ab, cb, An, cn, rfl, hB, hN, hcb, hmb, hcn, hmn⟩ := hS.ex
  clear hS
  have HB : Below w.heap.size w (w.alloc (.cells #[.int .i64 s.nb, .int .i64 s.nn, .int .i64 s.ns, .slice Ab s.bs.length cb, .slice An s.ts.length cn] 25)) := ((Below.refl w.heap.size w).alloc (by first | (simp; done) | (simp; omega)) _)
  have B1 : Blk (w.alloc (.cells #[.int .i64 s.nb, .int .i64 s.nn, .int .i64 s.ns, .slice Ab s.bs.length cb, .slice An s.ts.length cn] 25)) w.heap.size 25 #[.int .i64 s.nb, .int .i64 s.nn, .int .i64 s.ns, .slice Ab s.bs.length cb, .slice An s.ts.length cn] := Blk.new_ w 25 #[.int .i64 s.nb, .int .i64 s.nn, .int .i64 s.ns, .slice Ab s.bs.length cb, .slice An s.ts.length cn]
  have S1 : ShR (w.alloc (.cells #[.int .i64 s.nb, .int .i64 s.nn, .int .i64 s.ns, .slice Ab s.bs.length cb, .slice An s.ts.length cn] 25)) ((w.alloc (.cells #[.int .i64 s.nb, .int .i64 s.nn, .int .i64 s.ns, .slice Ab s.bs.length cb, .slice An s.ts.length cn] 25))).heap.size (.agg #[.int .i64 s.nb, .int .i64 s.nn, .int .i64 s.ns, .slice Ab s.bs.length cb, .slice An s.ts.length cn]) s := hS0.next HB
  have T1 := hT.next HB
  clear hS0 hT hB hN hcb hmb hcn hmn
  obtain ⟨M, hM⟩ : ∃ M, mayS s = M := ⟨_, rfl⟩
  obtain ⟨I, hI⟩ : ∃ I, noteAt s y = I := ⟨_, rfl⟩
  unfold findC at hc
  rw [hM, hI] at hc
  have HM := Lib.hid hM
  have HI := Lib.hid hI
  clear hM hI
  cases M
  · obtain rfl : c = 2 := hc.symm
    clear hc hne
    go_enter Tryd.func44, Tryd.ntmps44
    go_wp2_with (first | (go_at_call 17; ((with_reducible refine (smay_any s _ _ S1 T1 _ HM.out).mono ?_); rintro e' w3 ⟨rfl, bx⟩; have S1 := S1.next bx; have T1 := T1.next bx; have B1 := B1.below bx B1.lt; have HB := btr HB HB.size bx; (try clear k0 k1 k2 k3 k4); have k0 := B1.cell_ 0; have k1 := B1.cell_ 1; have k2 := B1.cell_ 2; have k3 := B1.cell_ 3; have k4 := B1.cell_ 4; simp at k0 k1 k2 k3 k4; clear bx)))
    go_ret2
    exact ⟨rfl, HB⟩
  · by_cases hi : I < 0
    · obtain rfl : c = 4 := by simpa [hi] using hc.symm
      clear hc hne
      go_enter Tryd.func44, Tryd.ntmps44
      go_wp2_with (first | (go_at_call 17; ((with_reducible refine (smay_any s _ _ S1 T1 _ HM.out).mono ?_); rintro e' w3 ⟨rfl, bx⟩; have S1 := S1.next bx; have T1 := T1.next bx; have B1 := B1.below bx B1.lt; have HB := btr HB HB.size bx; (try clear k0 k1 k2 k3 k4); have k0 := B1.cell_ 0; have k1 := B1.cell_ 1; have k2 := B1.cell_ 2; have k3 := B1.cell_ 3; have k4 := B1.cell_ 4; simp at k0 k1 k2 k3 k4; clear bx)) | (go_at_call 49; ((with_reducible refine (pNote_any s _ y _ S1).mono ?_); rintro e' w4 ⟨rfl, bx⟩; rw [HI.out]; have S1 := S1.next bx; have T1 := T1.next bx; have B1 := B1.below bx B1.lt; have HB := btr HB HB.size bx; (try clear k0 k1 k2 k3 k4); have k0 := B1.cell_ 0; have k1 := B1.cell_ 1; have k2 := B1.cell_ 2; have k3 := B1.cell_ 3; have k4 := B1.cell_ 4; simp at k0 k1 k2 k3 k4; clear bx)))
      go_ret2
      exact ⟨rfl, HB⟩
    · exact absurd (by simpa [hi] using hc.symm) hne
theorem nfind_yes (s : Sf) (v : Value) (y : Int) (w : World) (hS : ShR w w.heap.size v s) (hT : Tabs w) (k : Nat) (n : Nt) (h : FdF s y k n) :
    Calls Tryd.prog 44 #[v, .int .i64 y] w fun e' w' => e' = .returned (.tuple #[.int .i64 (k : Int), .int .i64 0]) ∧ Below w.heap.size w w' := by
  have hS0 := hS
  obtain ⟨Ab, cb, An, cn, rfl, hB, hN, hcb, hmb, hcn, hmn⟩ := hS.ex
  clear hS
  have HB : Below w.heap.size w (w.alloc (.cells #[.int .i64 s.nb, .int .i64 s.nn, .int .i64 s.ns, .slice Ab s.bs.length cb, .slice An s.ts.length cn] 25)) := ((Below.refl w.heap.size w).alloc (by first | (simp; done) | (simp; omega)) _)
  have B1 : Blk (w.alloc (.cells #[.int .i64 s.nb, .int .i64 s.nn, .int .i64 s.ns, .slice Ab s.bs.length cb, .slice An s.ts.length cn] 25)) w.heap.size 25 #[.int .i64 s.nb, .int .i64 s.nn, .int .i64 s.ns, .slice Ab s.bs.length cb, .slice An s.ts.length cn] := Blk.new_ w 25 #[.int .i64 s.nb, .int .i64 s.nn, .int .i64 s.ns, .slice Ab s.bs.length cb, .slice An s.ts.length cn]
  have S1 : ShR (w.alloc (.cells #[.int .i64 s.nb, .int .i64 s.nn, .int .i64 s.ns, .slice Ab s.bs.length cb, .slice An s.ts.length cn] 25)) ((w.alloc (.cells #[.int .i64 s.nb, .int .i64 s.nn, .int .i64 s.ns, .slice Ab s.bs.length cb, .slice An s.ts.length cn] 25))).heap.size (.agg #[.int .i64 s.nb, .int .i64 s.nn, .int .i64 s.ns, .slice Ab s.bs.length cb, .slice An s.ts.length cn]) s := hS0.next HB
  have T1 := hT.next HB
  clear hS0 hT hB hN hcb hmb hcn hmn
  have HM := Lib.hid (mayS_conv h.may)
  have HI := Lib.hid h.at_
  have i0 : ¬ (k : Int) < 0 := by omega
  clear h
  go_enter Tryd.func44, Tryd.ntmps44
  go_wp2_with (first | (go_at_call 17; ((with_reducible refine (smay_any s _ _ S1 T1 _ HM.out).mono ?_); rintro e' w3 ⟨rfl, bx⟩; have S1 := S1.next bx; have T1 := T1.next bx; have B1 := B1.below bx B1.lt; have HB := btr HB HB.size bx; (try clear k0 k1 k2 k3 k4); have k0 := B1.cell_ 0; have k1 := B1.cell_ 1; have k2 := B1.cell_ 2; have k3 := B1.cell_ 3; have k4 := B1.cell_ 4; simp at k0 k1 k2 k3 k4; clear bx)) | (go_at_call 49; ((with_reducible refine (pNote_any s _ y _ S1).mono ?_); rintro e' w4 ⟨rfl, bx⟩; rw [HI.out]; have S1 := S1.next bx; have T1 := T1.next bx; have B1 := B1.below bx B1.lt; have HB := btr HB HB.size bx; (try clear k0 k1 k2 k3 k4); have k0 := B1.cell_ 0; have k1 := B1.cell_ 1; have k2 := B1.cell_ 2; have k3 := B1.cell_ 3; have k4 := B1.cell_ 4; simp at k0 k1 k2 k3 k4; clear bx)))
  go_ret2
  exact ⟨rfl, HB⟩
theorem nfs_no (s : Sf) (v : Value) (y : Int) (i : Int) (w : World) (hS : ShR w w.heap.size v s) (hT : Tabs w) (c : Int) (hc : shtC s y i = c) (hne : c ≠ 0) :
    Calls Tryd.prog 34 #[v, .int .i64 y, .int .i64 i] w fun e' w' => e' = .returned (.tuple #[.int .i64 (-1), .int .i64 c]) ∧ Below w.heap.size w w' := by
  have hS0 := hS
  obtain ⟨Ab, cb, An, cn, rfl, hB, hN, hcb, hmb, hcn, hmn⟩ := hS.ex
  clear hS
  have HB : Below w.heap.size w (w.alloc (.cells #[.int .i64 s.nb, .int .i64 s.nn, .int .i64 s.ns, .slice Ab s.bs.length cb, .slice An s.ts.length cn] 25)) := ((Below.refl w.heap.size w).alloc (by first | (simp; done) | (simp; omega)) _)
  have B1 : Blk (w.alloc (.cells #[.int .i64 s.nb, .int .i64 s.nn, .int .i64 s.ns, .slice Ab s.bs.length cb, .slice An s.ts.length cn] 25)) w.heap.size 25 #[.int .i64 s.nb, .int .i64 s.nn, .int .i64 s.ns, .slice Ab s.bs.length cb, .slice An s.ts.length cn] := Blk.new_ w 25 #[.int .i64 s.nb, .int .i64 s.nn, .int .i64 s.ns, .slice Ab s.bs.length cb, .slice An s.ts.length cn]
  have S1 : ShR (w.alloc (.cells #[.int .i64 s.nb, .int .i64 s.nn, .int .i64 s.ns, .slice Ab s.bs.length cb, .slice An s.ts.length cn] 25)) ((w.alloc (.cells #[.int .i64 s.nb, .int .i64 s.nn, .int .i64 s.ns, .slice Ab s.bs.length cb, .slice An s.ts.length cn] 25))).heap.size (.agg #[.int .i64 s.nb, .int .i64 s.nn, .int .i64 s.ns, .slice Ab s.bs.length cb, .slice An s.ts.length cn]) s := hS0.next HB
  have T1 := hT.next HB
  by_cases hf : findC s y = 0
  · obtain ⟨k, n, h⟩ := fdF_of hf
    obtain ⟨es, hel, hse, hnt⟩ := hN.ex
    have hkl : k < s.ts.length := (List.getElem?_eq_some_iff.1 h.nt).1
    obtain ⟨e0, he⟩ : ∃ e, es[k]? = some e := ⟨_, List.getElem?_eq_getElem (by omega)⟩
    obtain ⟨At, ct, As, cs, rfl, -, hAs, -⟩ := (hnt k n e0 h.nt he).ex
    obtain ⟨b1, o1, rfl, l1, q1⟩ := hse.at_ (by omega)
    have y4 := q1 k _ he 4 _ rfl
    have i0 : (0 : Int) ≤ (k : Int) := by omega
    have i1 : (k : Int) < (s.ts.length : Int) := by omega
    have i2 : ¬ (k : Int) < 0 := by omega
    have HF := Lib.hid h
    obtain ⟨L, hL⟩ : ∃ L, n.sh.length = L := ⟨_, rfl⟩
    obtain ⟨T, hTe⟩ : ∃ T, s.ts.length = T := ⟨_, rfl⟩
    rw [hL] at y4
    rw [hTe] at i1 HB B1 S1 T1 ⊢
    unfold shtC at hc
    rw [hf, h.of_, hL] at hc
    clear h hL hTe hkl he q1 hse hel hnt hN hAs hB hS0 hT hcb hmb hcn hmn hf
    by_cases g0 : i < 0
    · obtain rfl : c = 2 := by simpa [g0] using hc.symm
      clear hc hne
      go_enter Tryd.func34, Tryd.ntmps34
      go_wp2_with (first | (go_at_call 44; ((with_reducible refine (nfind_yes s _ y _ S1 T1 k n HF.out).mono ?_); rintro e' w3 ⟨rfl, bx⟩; have S1 := S1.next bx; have T1 := T1.next bx; have B1 := B1.below bx B1.lt; have HB := btr HB HB.size bx; (try clear k0 k1 k2 k3 k4); have k0 := B1.cell_ 0; have k1 := B1.cell_ 1; have k2 := B1.cell_ 2; have k3 := B1.cell_ 3; have k4 := B1.cell_ 4; simp at k0 k1 k2 k3 k4; clear bx; have z4 := (HB.cell (p := ⟨b1, o1 + k * 5 + 4, none⟩) l1).trans y4)))
      go_ret2
      exact ⟨rfl, HB⟩
    · by_cases g1 : (L : Int) ≤ i
      · obtain rfl : c = 2 := by simpa [g0, g1] using hc.symm
        clear hc hne
        go_enter Tryd.func34, Tryd.ntmps34
        go_wp2_with (first | (go_at_call 44; ((with_reducible refine (nfind_yes s _ y _ S1 T1 k n HF.out).mono ?_); rintro e' w3 ⟨rfl, bx⟩; have S1 := S1.next bx; have T1 := T1.next bx; have B1 := B1.below bx B1.lt; have HB := btr HB HB.size bx; (try clear k0 k1 k2 k3 k4); have k0 := B1.cell_ 0; have k1 := B1.cell_ 1; have k2 := B1.cell_ 2; have k3 := B1.cell_ 3; have k4 := B1.cell_ 4; simp at k0 k1 k2 k3 k4; clear bx; have z4 := (HB.cell (p := ⟨b1, o1 + k * 5 + 4, none⟩) l1).trans y4)))
        go_ret2
        exact ⟨rfl, HB⟩
      · exact absurd (by simpa [g0, g1] using hc.symm) hne
  · have hcf : findC s y = c := by
      unfold shtC at hc
      have : (findC s y == 0) = false := by simpa using hf
      rw [this] at hc
      exact hc
    have HC := Lib.hid hcf
    have HE := Lib.hid hne
    have he0 : ¬ c = 0 := hne
    clear hf hcf hc hne
    clear hS0 hT hB hN hcb hmb hcn hmn
    go_enter Tryd.func34, Tryd.ntmps34
    go_wp2_with (first | (go_at_call 44; ((with_reducible refine (nfind_no s _ y _ S1 T1 c HC.out HE.out).mono ?_); rintro e' w3 ⟨rfl, bx⟩; have S1 := S1.next bx; have T1 := T1.next bx; have B1 := B1.below bx B1.lt; have HB := btr HB HB.size bx; (try clear k0 k1 k2 k3 k4); have k0 := B1.cell_ 0; have k1 := B1.cell_ 1; have k2 := B1.cell_ 2; have k3 := B1.cell_ 3; have k4 := B1.cell_ 4; simp at k0 k1 k2 k3 k4; clear bx)))
    go_ret2
    exact ⟨rfl, HB⟩
theorem nfs_yes (s : Sf) (v : Value) (y : Int) (i : Int) (w : World) (hS : ShR w w.heap.size v s) (hT : Tabs w) (k : Nat) (n : Nt) (h : FdF s y k n) (g0 : ¬ i < 0) (g1 : ¬ (n.sh.length : Int) ≤ i) :
    Calls Tryd.prog 34 #[v, .int .i64 y, .int .i64 i] w fun e' w' => e' = .returned (.tuple #[.int .i64 (k : Int), .int .i64 0]) ∧ Below w.heap.size w w' := by
  have hS0 := hS
  obtain ⟨Ab, cb, An, cn, rfl, hB, hN, hcb, hmb, hcn, hmn⟩ := hS.ex
  clear hS
  have HB : Below w.heap.size w (w.alloc (.cells #[.int .i64 s.nb, .int .i64 s.nn, .int .i64 s.ns, .slice Ab s.bs.length cb, .slice An s.ts.length cn] 25)) := ((Below.refl w.heap.size w).alloc (by first | (simp; done) | (simp; omega)) _)
  have B1 : Blk (w.alloc (.cells #[.int .i64 s.nb, .int .i64 s.nn, .int .i64 s.ns, .slice Ab s.bs.length cb, .slice An s.ts.length cn] 25)) w.heap.size 25 #[.int .i64 s.nb, .int .i64 s.nn, .int .i64 s.ns, .slice Ab s.bs.length cb, .slice An s.ts.length cn] := Blk.new_ w 25 #[.int .i64 s.nb, .int .i64 s.nn, .int .i64 s.ns, .slice Ab s.bs.length cb, .slice An s.ts.length cn]
  have S1 : ShR (w.alloc (.cells #[.int .i64 s.nb, .int .i64 s.nn, .int .i64 s.ns, .slice Ab s.bs.length cb, .slice An s.ts.length cn] 25)) ((w.alloc (.cells #[.int .i64 s.nb, .int .i64 s.nn, .int .i64 s.ns, .slice Ab s.bs.length cb, .slice An s.ts.length cn] 25))).heap.size (.agg #[.int .i64 s.nb, .int .i64 s.nn, .int .i64 s.ns, .slice Ab s.bs.length cb, .slice An s.ts.length cn]) s := hS0.next HB
  have T1 := hT.next HB
  obtain ⟨es, hel, hse, hnt⟩ := hN.ex
  have hkl : k < s.ts.length := (List.getElem?_eq_some_iff.1 h.nt).1
  obtain ⟨e0, he⟩ : ∃ e, es[k]? = some e := ⟨_, List.getElem?_eq_getElem (by omega)⟩
  obtain ⟨At, ct, As, cs, rfl, -, hAs, -⟩ := (hnt k n e0 h.nt he).ex
  obtain ⟨b1, o1, rfl, l1, q1⟩ := hse.at_ (by omega)
  have y4 := q1 k _ he 4 _ rfl
  have i0 : (0 : Int) ≤ (k : Int) := by omega
  have i1 : (k : Int) < (s.ts.length : Int) := by omega
  have i2 : ¬ (k : Int) < 0 := by omega
  have HF := Lib.hid h
  obtain ⟨L, hL⟩ : ∃ L, n.sh.length = L := ⟨_, rfl⟩
  obtain ⟨T, hTe⟩ : ∃ T, s.ts.length = T := ⟨_, rfl⟩
  rw [hL] at y4 g1
  rw [hTe] at i1 HB B1 S1 T1 ⊢
  clear h hL hTe hkl he q1 hse hel hnt hN hAs hB hS0 hT hcb hmb hcn hmn
  go_enter Tryd.func34, Tryd.ntmps34
  go_wp2_with (first | (go_at_call 44; ((with_reducible refine (nfind_yes s _ y _ S1 T1 k n HF.out).mono ?_); rintro e' w3 ⟨rfl, bx⟩; have S1 := S1.next bx; have T1 := T1.next bx; have B1 := B1.below bx B1.lt; have HB := btr HB HB.size bx; (try clear k0 k1 k2 k3 k4); have k0 := B1.cell_ 0; have k1 := B1.cell_ 1; have k2 := B1.cell_ 2; have k3 := B1.cell_ 3; have k4 := B1.cell_ 4; simp at k0 k1 k2 k3 k4; clear bx; have z4 := (HB.cell (p := ⟨b1, o1 + k * 5 + 4, none⟩) l1).trans y4)))
  go_ret2
  exact ⟨rfl, HB⟩
theorem nsheet_no (s : Sf) (v : Value) (y : Int) (i : Int) (w : World) (hS : ShR w w.heap.size v s) (hT : Tabs w) (c : Int) (hc : shtC s y i = c) (hne : c ≠ 0) :
    Calls Tryd.prog 12 #[v, .int .i64 y, .int .i64 i] w fun e' w' => e' = .returned (.tuple #[.int .i64 0, .int .i64 c]) ∧ Below w.heap.size w w' := by
  have hS0 := hS
  obtain ⟨Ab, cb, An, cn, rfl, hB, hN, hcb, hmb, hcn, hmn⟩ := hS.ex
  clear hS
  have HB : Below w.heap.size w (w.alloc (.cells #[.int .i64 s.nb, .int .i64 s.nn, .int .i64 s.ns, .slice Ab s.bs.length cb, .slice An s.ts.length cn] 25)) := ((Below.refl w.heap.size w).alloc (by first | (simp; done) | (simp; omega)) _)
  have B1 : Blk (w.alloc (.cells #[.int .i64 s.nb, .int .i64 s.nn, .int .i64 s.ns, .slice Ab s.bs.length cb, .slice An s.ts.length cn] 25)) w.heap.size 25 #[.int .i64 s.nb, .int .i64 s.nn, .int .i64 s.ns, .slice Ab s.bs.length cb, .slice An s.ts.length cn] := Blk.new_ w 25 #[.int .i64 s.nb, .int .i64 s.nn, .int .i64 s.ns, .slice Ab s.bs.length cb, .slice An s.ts.length cn]
  have S1 : ShR (w.alloc (.cells #[.int .i64 s.nb, .int .i64 s.nn, .int .i64 s.ns, .slice Ab s.bs.length cb, .slice An s.ts.length cn] 25)) ((w.alloc (.cells #[.int .i64 s.nb, .int .i64 s.nn, .int .i64 s.ns, .slice Ab s.bs.length cb, .slice An s.ts.length cn] 25))).heap.size (.agg #[.int .i64 s.nb, .int .i64 s.nn, .int .i64 s.ns, .slice Ab s.bs.length cb, .slice An s.ts.length cn]) s := hS0.next HB
  have T1 := hT.next HB
  clear hS0 hT hB hN hcb hmb hcn hmn
  have HC := Lib.hid hc
  have HE := Lib.hid hne
  have he0 : ¬ c = 0 := hne
  clear hc hne
  go_enter Tryd.func12, Tryd.ntmps12
  go_wp2_with (first | (go_at_call 34; ((with_reducible refine (nfs_no s _ y i _ S1 T1 c HC.out HE.out).mono ?_); rintro e' w3 ⟨rfl, bx⟩; have S1 := S1.next bx; have T1 := T1.next bx; have B1 := B1.below bx B1.lt; have HB := btr HB HB.size bx; (try clear k0 k1 k2 k3 k4); have k0 := B1.cell_ 0; have k1 := B1.cell_ 1; have k2 := B1.cell_ 2; have k3 := B1.cell_ 3; have k4 := B1.cell_ 4; simp at k0 k1 k2 k3 k4; clear bx)))
  go_ret2
  exact ⟨rfl, HB⟩
theorem nsheet_yes (s : Sf) (v : Value) (y : Int) (w : World) (hS : ShR w w.heap.size v s) (hT : Tabs w) (k : Nat) (n : Nt) (h : FdF s y k n) (i : Nat) (x : Int) (hx : n.sh[i]? = some x) :
    Calls Tryd.prog 12 #[v, .int .i64 y, .int .i64 (i : Int)] w fun e' w' => e' = .returned (.tuple #[.int .i64 x, .int .i64 0]) ∧ Below w.heap.size w w' := by
  have hS0 := hS
  obtain ⟨Ab, cb, An, cn, rfl, hB, hN, hcb, hmb, hcn, hmn⟩ := hS.ex
  clear hS
  have HB : Below w.heap.size w (w.alloc (.cells #[.int .i64 s.nb, .int .i64 s.nn, .int .i64 s.ns, .slice Ab s.bs.length cb, .slice An s.ts.length cn] 25)) := ((Below.refl w.heap.size w).alloc (by first | (simp; done) | (simp; omega)) _)
  have B1 : Blk (w.alloc (.cells #[.int .i64 s.nb, .int .i64 s.nn, .int .i64 s.ns, .slice Ab s.bs.length cb, .slice An s.ts.length cn] 25)) w.heap.size 25 #[.int .i64 s.nb, .int .i64 s.nn, .int .i64 s.ns, .slice Ab s.bs.length cb, .slice An s.ts.length cn] := Blk.new_ w 25 #[.int .i64 s.nb, .int .i64 s.nn, .int .i64 s.ns, .slice Ab s.bs.length cb, .slice An s.ts.length cn]
  have S1 : ShR (w.alloc (.cells #[.int .i64 s.nb, .int .i64 s.nn, .int .i64 s.ns, .slice Ab s.bs.length cb, .slice An s.ts.length cn] 25)) ((w.alloc (.cells #[.int .i64 s.nb, .int .i64 s.nn, .int .i64 s.ns, .slice Ab s.bs.length cb, .slice An s.ts.length cn] 25))).heap.size (.agg #[.int .i64 s.nb, .int .i64 s.nn, .int .i64 s.ns, .slice Ab s.bs.length cb, .slice An s.ts.length cn]) s := hS0.next HB
  have T1 := hT.next HB
  obtain ⟨es, hel, hse, hnt⟩ := hN.ex
  have hkl : k < s.ts.length := (List.getElem?_eq_some_iff.1 h.nt).1
  obtain ⟨e0, he⟩ : ∃ e, es[k]? = some e := ⟨_, List.getElem?_eq_getElem (by omega)⟩
  obtain ⟨At, ct, As, cs, rfl, -, hAs, -⟩ := (hnt k n e0 h.nt he).ex
  obtain ⟨b1, o1, rfl, l1, q1⟩ := hse.at_ (by omega)
  have y4 := q1 k _ he 4 _ rfl
  have i0 : (0 : Int) ≤ (k : Int) := by omega
  have i1 : (k : Int) < (s.ts.length : Int) := by omega
  have i2 : ¬ (k : Int) < 0 := by omega
  have hil := (List.getElem?_eq_some_iff.1 hx).1
  obtain ⟨b2, o2, rfl, l2, q2⟩ := hAs.at_ (by rw [List.length_map]; omega)
  have y5 := q2 i _ (by rw [List.getElem?_map, hx]; rfl)
  have HF := Lib.hid h
  have HG0 : Hid (¬ (i : Int) < 0) := Lib.hid (by omega)
  have HG1 : Hid (¬ (n.sh.length : Int) ≤ (i : Int)) := Lib.hid (by omega)
  obtain ⟨L, hL⟩ : ∃ L, n.sh.length = L := ⟨_, rfl⟩
  obtain ⟨T, hTe⟩ : ∃ T, s.ts.length = T := ⟨_, rfl⟩
  have j0 : (0 : Int) ≤ (i : Int) := by omega
  have j1 : (i : Int) < (L : Int) := by omega
  rw [hL] at y4
  rw [hTe] at i1 HB B1 S1 T1 ⊢
  clear h hL hTe hkl he q1 hse hel hnt hN hAs hB hS0 hT hcb hmb hcn hmn hil q2 hx
  go_enter Tryd.func12, Tryd.ntmps12
  go_wp2_with (first | (go_at_call 34; ((with_reducible refine (nfs_yes s _ y _ _ S1 T1 k n HF.out HG0.out HG1.out).mono ?_); rintro e' w3 ⟨rfl, bx⟩; have S1 := S1.next bx; have T1 := T1.next bx; have B1 := B1.below bx B1.lt; have HB := btr HB HB.size bx; (try clear k0 k1 k2 k3 k4); have k0 := B1.cell_ 0; have k1 := B1.cell_ 1; have k2 := B1.cell_ 2; have k3 := B1.cell_ 3; have k4 := B1.cell_ 4; simp at k0 k1 k2 k3 k4; clear bx; have z4 := (HB.cell (p := ⟨b1, o1 + k * 5 + 4, none⟩) l1).trans y4; have z5 := (HB.cell (p := ⟨b2, o2 + i, none⟩) l2).trans y5)))
  go_ret2
  exact ⟨rfl, HB⟩
end Go.Proofs.YtkaoechjekffmaaDoor
namespace Go.Proofs.YtkaoechjekffmaaDoor
open Go.ChangeShapes Go.WideShapes Go.ChangeAt Go.RowKit
attribute [local go_sem ↓] Go.wp_at_zero Go.wp_at_succ
theorem ShA.parts {w : World} {base : Nat} {v : Value} {s : Sf} (h : ShA w base v s) : ∃ (Ab : Option Addr) (cb : Nat) (An : Option Addr) (cn : Nat), v = .agg #[.int .i64 s.nb, .int .i64 s.nn, .int .i64 s.ns, .slice Ab s.bs.length cb, .slice An s.ts.length cn] ∧ BksW w base (.slice Ab s.bs.length cb) s.bs ∧ NtsA w base (.slice An s.ts.length cn) s.ts ∧ s.bs.length ≤ cb ∧ cb ≤ maxLen ∧ s.ts.length ≤ cn ∧ cn ≤ maxLen := by
  obtain ⟨vb, vn, rfl, h1, es, h2, h3, h4⟩ := h
  obtain ⟨Ab, cb, rfl, q1, q2⟩ := own_shape h1
  obtain ⟨An, cn, rfl, q3, q4⟩ := own_shape h3
  exact ⟨Ab, cb, An, cn, rfl, h1, ⟨es, h2, h3, h4⟩, q1, q2, q3, q4⟩
theorem NtsA.far {w w' : World} {base g : Nat} {vn : Value} {ts : List Nt} (h : NtsA w base vn ts) (hg : w.grownBy w' (some g)) (hb : g < base) : NtsA w' base vn ts := by
  obtain ⟨es, h1, h2, h3, h4⟩ := h
  refine ⟨es, h1, h2.kept hg (own_off h2 hb), fun k n e a b => ?_, h4⟩
  obtain ⟨vt, vs, r, q1, q2⟩ := h3 k n e a b
  exact ⟨vt, vs, r, q1.kept hg (own_off q1 hb), q2.kept hg (own_off q2 hb)⟩
theorem NtsA.below {w w' : World} {base : Nat} {vn : Value} {ts : List Nt} (h : NtsA w base vn ts) (hb : Below w.heap.size w w') : NtsA w' base vn ts := by
  obtain ⟨es, h1, h2, h3, h4⟩ := h
  exact ⟨es, h1, own_belowW h2 hb, fun k n e a b => (h3 k n e a b).below hb, h4⟩
theorem set_one (es : List (List Value)) (k r : Nat) (x : List Value) (u : Value) (h : es[k]? = some x) (hC : ∀ x ∈ es, x.length = 5) (hr : r < 5) : es.flatten.set (k * 5 + r) u = (es.set k (x.set r u)).flatten := by
  have hC2 : ∀ y ∈ es.set k (x.set r u), y.length = 5 := by
    intro y hy
    rcases List.mem_or_eq_of_mem_set hy with h1 | rfl
    · exact hC y h1
    · rw [List.length_set]
      exact hC x (List.mem_of_getElem? h)
  apply List.ext_getElem?
  intro j
  have hkl := (List.getElem?_eq_some_iff.1 h).1
  have hl1 : es.flatten.length = es.length * 5 := flat_lenE _ hC
  have hl2 : (es.set k (x.set r u)).flatten.length = es.length * 5 := by
    have := flat_lenE _ hC2
    rw [List.length_set] at this
    exact this
  by_cases hj : j < es.length * 5
  · have hq : j / 5 < es.length := by omega
    have hj5 : j / 5 * 5 + j % 5 = j := by omega
    have e1 := flat_at es hC (j / 5) _ (List.getElem?_eq_getElem hq) (j % 5) (Nat.mod_lt _ (by decide))
    rw [hj5] at e1
    rw [List.getElem?_set, hl1]
    by_cases hjk : j / 5 = k
    · have e2 := flat_at _ hC2 k (x.set r u) (by rw [List.getElem?_set, if_pos rfl, if_pos hkl]) (j % 5) (Nat.mod_lt _ (by decide))
      rw [← hjk, hj5, hjk] at e2
      rw [e2, List.getElem?_set]
      have hx : es[j / 5]? = some x := by rw [hjk]; exact h
      have hx5 := hC x (List.mem_of_getElem? h)
      by_cases hjr : r = j % 5
      · rw [if_pos (by omega), if_pos hjr, if_pos (by omega), if_pos (by omega)]
      · rw [if_neg (by omega), if_neg hjr, e1]
        rw [List.getElem?_eq_getElem hq] at hx
        cases hx
        rfl
    · have e2 := flat_at _ hC2 (j / 5) _ (by rw [List.getElem?_set, if_neg (fun e => hjk e.symm), List.getElem?_eq_getElem hq]) (j % 5) (Nat.mod_lt _ (by decide))
      rw [hj5] at e2
      rw [e2, if_neg (by omega), e1]
  · rw [List.getElem?_eq_none (by rw [List.length_set]; omega), List.getElem?_eq_none (by omega)]
theorem nt_sheets {w w7 : World} {base c k g : Nat} {ts : List Nt} {n : Nt} {es : List (List Value)} {vt vs v' : Value} {xs : List Int} (hel : es.length = ts.length) (hon : w.ownsRow base 49 5 (.slice (some ⟨g, 0, none⟩) ts.length c) ts.length es.flatten) (hnt : ∀ (k : Nat) (n : Nt) (e : List Value), ts[k]? = some n → es[k]? = some e → NtW w base n e) (hap : ApN es) (hk : ts[k]? = some n) (he : es[k]? = some (ntC n vt vs)) (hg : w.grownBy w7 vs.ownBlock) (ho : w7.ownsRow base 3 1 v' xs.length (xs.map (Value.int .i64))) : NtsW (w7.setCell ⟨g, k * 5 + 4, none⟩ v') base (.slice (some ⟨g, 0, none⟩) ts.length c) (ts.set k { n with sh := xs }) ∧ w7.grownBy (w7.setCell ⟨g, k * 5 + 4, none⟩ v') (some g) := by
  have h5 := es_five hel hnt
  have hkl : k < es.length := (List.getElem?_eq_some_iff.1 he).1
  obtain ⟨vt0, vs0, hev, q1, q2⟩ := hnt k n _ hk he
  obtain ⟨rfl, rfl⟩ : vt = vt0 ∧ vs = vs0 := by
    simp only [ntC, List.cons.injEq, and_true, true_and] at hev
    exact hev
  have hon7 : w7.ownsRow base 49 5 (.slice (some ⟨g, 0, none⟩) ts.length c) ts.length es.flatten := hon.kept hg (own_apart hon q2 (by decide))
  have hgs := set1_grown w7 g (k * 5 + 4) v'
  have hso := (World.ownsRow.stored hon7 (k * 5 + 4) v').1
  rw [set_one es k 4 _ v' he h5 (by decide)] at hso
  refine ⟨⟨es.set k ((ntC n vt vs).set 4 v'), by rw [List.length_set, List.length_set]; exact hel, by rw [List.length_set]; exact hso, fun j m e a b => ?_⟩, hgs⟩
  rw [List.getElem?_set] at a b
  by_cases hj : k = j
  · subst hj
    rw [if_pos rfl] at a b
    rw [if_pos (by omega)] at a b
    cases a
    cases b
    refine NtW.kept (w := w7) ⟨vt, v', rfl, q1.kept hg (own_apart q1 q2 (by decide)), ho⟩ hon7 hgs (by decide) (by decide)
  · rw [if_neg hj] at a b
    obtain ⟨ut, us, rfl, p1, p2⟩ := hnt j m e a b
    refine NtW.kept (w := w7) ⟨ut, us, rfl, p1.kept hg (own_apart p1 q2 (by decide)), p2.kept hg (hap j k _ _ (fun e => hj e.symm) b he _ (by simp [ntC]) _ (by simp [ntC]))⟩ hon7 hgs (by decide) (by decide)
theorem nt_tags {w w7 : World} {base c k g : Nat} {ts : List Nt} {n : Nt} {es : List (List Value)} {vt vs v' : Value} {xs : List ByteArray} (hel : es.length = ts.length) (hon : w.ownsRow base 49 5 (.slice (some ⟨g, 0, none⟩) ts.length c) ts.length es.flatten) (hnt : ∀ (k : Nat) (n : Nt) (e : List Value), ts[k]? = some n → es[k]? = some e → NtW w base n e) (hap : ApN es) (hk : ts[k]? = some n) (he : es[k]? = some (ntC n vt vs)) (hg : w.grownBy w7 vt.ownBlock) (ho : w7.ownsRow base 9 1 v' xs.length (xs.map strV)) : NtsW (w7.setCell ⟨g, k * 5 + 3, none⟩ v') base (.slice (some ⟨g, 0, none⟩) ts.length c) (ts.set k { n with tg := xs }) ∧ w7.grownBy (w7.setCell ⟨g, k * 5 + 3, none⟩ v') (some g) := by
  have h5 := es_five hel hnt
  have hkl : k < es.length := (List.getElem?_eq_some_iff.1 he).1
  obtain ⟨vt0, vs0, hev, q1, q2⟩ := hnt k n _ hk he
  obtain ⟨rfl, rfl⟩ : vt = vt0 ∧ vs = vs0 := by
    simp only [ntC, List.cons.injEq, and_true, true_and] at hev
    exact hev
  have hon7 : w7.ownsRow base 49 5 (.slice (some ⟨g, 0, none⟩) ts.length c) ts.length es.flatten := hon.kept hg (own_apart hon q1 (by decide))
  have hgs := set1_grown w7 g (k * 5 + 3) v'
  have hso := (World.ownsRow.stored hon7 (k * 5 + 3) v').1
  rw [set_one es k 3 _ v' he h5 (by decide)] at hso
  refine ⟨⟨es.set k ((ntC n vt vs).set 3 v'), by rw [List.length_set, List.length_set]; exact hel, by rw [List.length_set]; exact hso, fun j m e a b => ?_⟩, hgs⟩
  rw [List.getElem?_set] at a b
  by_cases hj : k = j
  · subst hj
    rw [if_pos rfl] at a b
    rw [if_pos (by omega)] at a b
    cases a
    cases b
    refine NtW.kept (w := w7) ⟨v', vs, rfl, ho, q2.kept hg (own_apart q2 q1 (by decide))⟩ hon7 hgs (by decide) (by decide)
  · rw [if_neg hj] at a b
    obtain ⟨ut, us, rfl, p1, p2⟩ := hnt j m e a b
    refine NtW.kept (w := w7) ⟨ut, us, rfl, p1.kept hg (hap j k _ _ (fun e => hj e.symm) b he _ (by simp [ntC]) _ (by simp [ntC])), p2.kept hg (own_apart p2 q1 (by decide))⟩ hon7 hgs (by decide) (by decide)
theorem rd_newV (w : World) (t : TypeId) (u : Value) {g : Nat} (hg : g = w.heap.size) : Rd (w.alloc (.cells #[u] t)) (some ⟨g, 0, none⟩) 1 1 [u] := by
  subst hg
  refine Rd.one ?_
  rw [Joins.cell_of_block (heap_alloc_new w _)]
  rfl
theorem napp_no (s : Sf) (v : Value) (y : Int) (w : World) (hS : ShR w w.heap.size v s) (hT : Tabs w) (c : Int) (hc : appC s y = c) (hne : c ≠ 0) :
    Calls Tryd.prog 21 #[v, .int .i64 y] w fun e' w' => e' = .returned (.tuple #[.agg #[.int .i64 0, .int .i64 0, .int .i64 0, .slice none 0 0, .slice none 0 0], .int .i64 0, .int .i64 c]) ∧ Below w.heap.size w w' := by
  have hS0 := hS
  obtain ⟨Ab, cb, An, cn, rfl, hB, hN, hcb, hmb, hcn, hmn⟩ := hS.ex
  clear hS
  obtain ⟨HB, B1, B2, S1⟩ := pre2 hS0
  have T1 := hT.next HB
  by_cases hf : findC s y = 0
  · obtain ⟨k, n, h⟩ := fdF_of hf
    obtain ⟨es, hel, hse, hnt⟩ := hN.ex
    have hkl : k < s.ts.length := (List.getElem?_eq_some_iff.1 h.nt).1
    obtain ⟨e0, he⟩ : ∃ e, es[k]? = some e := ⟨_, List.getElem?_eq_getElem (by omega)⟩
    obtain ⟨At, ct, As, cs, rfl, -, hAs, -⟩ := (hnt k n e0 h.nt he).ex
    obtain ⟨b1, o1, rfl, l1, q1⟩ := hse.at_ (by omega)
    have y4 := q1 k _ he 4 _ rfl
    have i0 : (0 : Int) ≤ (k : Int) := by omega
    have i1 : (k : Int) < (s.ts.length : Int) := by omega
    have i2 : ¬ (k : Int) < 0 := by omega
    have HF := Lib.hid h
    obtain ⟨L, hL⟩ : ∃ L, n.sh.length = L := ⟨_, rfl⟩
    obtain ⟨T, hTe⟩ : ∃ T, s.ts.length = T := ⟨_, rfl⟩
    have HLL := Lib.hid hL
    have HTT := Lib.hid hTe
    rw [hL] at y4
    rw [hTe] at i1 HB B1 B2 S1 T1 ⊢
    unfold appC at hc
    rw [hf, h.of_, hL] at hc
    clear h hL hTe hkl he q1 hse hel hnt hN hAs hB hS0 hT hcb hmb hcn hmn hf
    by_cases g0 : 8 ≤ L
    · obtain rfl : c = 3 := by simpa [g0] using hc.symm
      have g2 : (8 : Int) ≤ (L : Int) := by omega
      clear hc hne
      go_enter Tryd.func21, Tryd.ntmps21
      go_wp2_with (first | (go_at_call 44; ((with_reducible refine (nfind_yes s _ y _ S1 T1 k n HF.out).mono ?_); rintro e' w3 ⟨rfl, bx⟩; (try clear k0 k1 k2 k3 k4 r0 r1 r2 r3 r4 t0 t1 t2 t3 t4); obtain ⟨S1, T1, B1, B2, HB, k0, k1, k2, k3, k4, r0, r1, r2, r3, r4, t0, t1, t2, t3, t4⟩ := keepT S1 T1 B1 B2 HB bx; clear bx; have z4 := (HB.cell (p := ⟨b1, o1 + k * 5 + 4, none⟩) l1).trans y4)))
      have B2u := z5_blk B2
      have hb2 := z5_below HB (g := w.heap.size + 1) (by omega)
      change bodyPost _ _ _ _ _ (z5 w3 (w.heap.size + 1))
      generalize z5 w3 (w.heap.size + 1) = Wd at B2u hb2 ⊢
      apply bodyPost_ret (v := .tuple #[.agg #[.int .i64 0, .int .i64 0, .int .i64 0, .slice none 0 0, .slice none 0 0], .int .i64 0, .int .i64 3])
      · exact results_cell2 Tryd.results21 _ Wd _ 25 #[.int .i64 0, .int .i64 0, .int .i64 0, .slice none 0 0, .slice none 0 0] (0, 0) _ rfl B2u Tryd.underlying25 rfl (by kernel_rfl)
      · rfl
      · exact ⟨rfl, hb2⟩
    · by_cases g1 : 4096 ≤ s.ns
      · obtain rfl : c = 3 := by simpa [g0, g1] using hc.symm
        have g2 : ¬ (8 : Int) ≤ (L : Int) := by omega
        have g3 : (4095 : Int) < s.ns := by omega
        clear hc hne
        go_enter Tryd.func21, Tryd.ntmps21
        go_wp2_with (first | (go_at_call 44; ((with_reducible refine (nfind_yes s _ y _ S1 T1 k n HF.out).mono ?_); rintro e' w3 ⟨rfl, bx⟩; (try clear k0 k1 k2 k3 k4 r0 r1 r2 r3 r4 t0 t1 t2 t3 t4); obtain ⟨S1, T1, B1, B2, HB, k0, k1, k2, k3, k4, r0, r1, r2, r3, r4, t0, t1, t2, t3, t4⟩ := keepT S1 T1 B1 B2 HB bx; clear bx; have z4 := (HB.cell (p := ⟨b1, o1 + k * 5 + 4, none⟩) l1).trans y4)))
        have B2u := z5_blk B2
        have hb2 := z5_below HB (g := w.heap.size + 1) (by omega)
        change bodyPost _ _ _ _ _ (z5 w3 (w.heap.size + 1))
        generalize z5 w3 (w.heap.size + 1) = Wd at B2u hb2 ⊢
        apply bodyPost_ret (v := .tuple #[.agg #[.int .i64 0, .int .i64 0, .int .i64 0, .slice none 0 0, .slice none 0 0], .int .i64 0, .int .i64 3])
        · exact results_cell2 Tryd.results21 _ Wd _ 25 #[.int .i64 0, .int .i64 0, .int .i64 0, .slice none 0 0, .slice none 0 0] (0, 0) _ rfl B2u Tryd.underlying25 rfl (by kernel_rfl)
        · rfl
        · exact ⟨rfl, hb2⟩
      · exact absurd (by simpa [g0, g1] using hc.symm) hne
  · have hcf : findC s y = c := by
      unfold appC at hc
      have : (findC s y == 0) = false := by simpa using hf
      rw [this] at hc
      exact hc
    have HC := Lib.hid hcf
    have HE := Lib.hid hne
    have he0 : ¬ c = 0 := hne
    clear hf hcf hc hne
    clear hS0 hT hB hN hcb hmb hcn hmn
    go_enter Tryd.func21, Tryd.ntmps21
    go_wp2_with (first | (go_at_call 44; ((with_reducible refine (nfind_no s _ y _ S1 T1 c HC.out HE.out).mono ?_); rintro e' w3 ⟨rfl, bx⟩; (try clear k0 k1 k2 k3 k4 r0 r1 r2 r3 r4 t0 t1 t2 t3 t4); obtain ⟨S1, T1, B1, B2, HB, k0, k1, k2, k3, k4, r0, r1, r2, r3, r4, t0, t1, t2, t3, t4⟩ := keepT S1 T1 B1 B2 HB bx; clear bx)))
    have B2u := z5_blk B2
    have hb2 := z5_below HB (g := w.heap.size + 1) (by omega)
    change bodyPost _ _ _ _ _ (z5 w3 (w.heap.size + 1))
    generalize z5 w3 (w.heap.size + 1) = Wd at B2u hb2 ⊢
    apply bodyPost_ret (v := .tuple #[.agg #[.int .i64 0, .int .i64 0, .int .i64 0, .slice none 0 0, .slice none 0 0], .int .i64 0, .int .i64 c])
    · exact results_cell2 Tryd.results21 _ Wd _ 25 #[.int .i64 0, .int .i64 0, .int .i64 0, .slice none 0 0, .slice none 0 0] (0, 0) _ rfl B2u Tryd.underlying25 rfl (by kernel_rfl)
    · rfl
    · exact ⟨rfl, hb2⟩
theorem napp_yes (s : Sf) (v : Value) (y : Int) (w : World) (hS : ShR w w.heap.size v s) (hT : Tabs w) (hc : appC s y = 0) :
    Calls Tryd.prog 21 #[v, .int .i64 y] w fun e' w' => ∃ v', e' = .returned (.tuple #[v', .int .i64 s.ns, .int .i64 0]) ∧ ShW w' w.heap.size v' (appS s y) ∧ Below w.heap.size w w' := by
  have hS0 := hS
  obtain ⟨Ab, cb, An, cn, rfl, hB, hN, hcb, hmb, hcn, hmn⟩ := hS.ex
  clear hS
  obtain ⟨HB, B1, B2, S1⟩ := pre2 hS0
  have T1 := hT.next HB
  have hf : findC s y = 0 := by
    unfold appC at hc
    by_cases h : findC s y = 0
    · exact h
    · have h2 : (findC s y == 0) = false := by simpa using h
      rw [h2] at hc
      exact absurd hc h
  obtain ⟨k, n, h⟩ := fdF_of hf
  have hg : n.sh.length < 8 ∧ s.ns < 4096 := by
    unfold appC at hc
    rw [hf, h.of_] at hc
    by_cases g0 : 8 ≤ n.sh.length
    · simp [g0] at hc
    · by_cases g1 : 4096 ≤ s.ns
      · simp [g0, g1] at hc
      · omega
  obtain ⟨es, hel, hse, hnt⟩ := hN.ex
  have hkl : k < s.ts.length := (List.getElem?_eq_some_iff.1 h.nt).1
  obtain ⟨e0, he⟩ : ∃ e, es[k]? = some e := ⟨_, List.getElem?_eq_getElem (by omega)⟩
  obtain ⟨At, ct, As, cs, rfl, -, hAs, -⟩ := (hnt k n e0 h.nt he).ex
  obtain ⟨b1, o1, rfl, l1, q1⟩ := hse.at_ (by omega)
  have y4 := q1 k _ he 4 _ rfl
  have i0 : (0 : Int) ≤ (k : Int) := by omega
  have i1 : (k : Int) < (s.ts.length : Int) := by omega
  have i2 : ¬ (k : Int) < 0 := by omega
  have HNN := Lib.hid h.nt
  have HRS : Hid (appS s y = { s with ns := s.ns + 1, ts := s.ts.set k { n with sh := n.sh ++ [s.ns] } }) := Lib.hid (by unfold appS; rw [h.of_, h.put])
  have hMF := h.may
  have HQX := Lib.hid hMF.ns
  have HLB : Hid (s.bs.length ≤ 100000) := Lib.hid (by have := hMF.bl; omega)
  have HLN : Hid (s.ts.length ≤ 100000) := Lib.hid (by have := hMF.tl; omega)
  have HLR := Lib.hid hMF.small
  have HKL := Lib.hid hkl
  have HF := Lib.hid h
  obtain ⟨L, hL⟩ : ∃ L, n.sh.length = L := ⟨_, rfl⟩
  obtain ⟨T, hTe⟩ : ∃ T, s.ts.length = T := ⟨_, rfl⟩
  have HLL := Lib.hid hL
  have HTT := Lib.hid hTe
  rw [hL] at y4
  rw [hTe] at i1 HB B1 B2 S1 T1 ⊢
  obtain ⟨g2, g3⟩ : ¬ (8 : Int) ≤ (L : Int) ∧ ¬ (4095 : Int) < s.ns := by omega
  have hL8 : L < 8 := by omega
  clear hg h hL hTe hkl he q1 hse hel hnt hN hAs hB hS0 hT hcb hmb hcn hmn hf hc hMF
  go_enter Tryd.func21, Tryd.ntmps21
  go_upto_region 6 with (first | (go_at_call 44; ((with_reducible refine (nfind_yes s _ y _ S1 T1 k n HF.out).mono ?_); rintro e' w3 ⟨rfl, bx⟩; (try clear k0 k1 k2 k3 k4 r0 r1 r2 r3 r4 t0 t1 t2 t3 t4); obtain ⟨S1, T1, B1, B2, HB, k0, k1, k2, k3, k4, r0, r1, r2, r3, r4, t0, t1, t2, t3, t4⟩ := keepT S1 T1 B1 B2 HB bx; clear bx; have z4 := (HB.cell (p := ⟨b1, o1 + k * 5 + 4, none⟩) l1).trans y4)))
  have hW5 : w.heap.size + 2 ≤ w3.heap.size := by have := B2.lt; omega
  go_upto_region 7 with (go_at_call 47; ((with_reducible refine (clone_ap s _ _ S1 HLB.out HLN.out HLR.out).mono ?_); rintro e' w9 ⟨v6, rfl, hQ, b6⟩; obtain ⟨Ab6, cb6, An6, cn6, rfl, hBk, hNt, q1, q2, q3, q4⟩ := ShA.parts hQ; have B1 := B1.below b6 B1.lt; have B2 := B2.below b6 B2.lt; have HB := btr HB HB.size b6; have hz6 := b6.size; (try clear k0 k1 k2 k3 k4 r0 r1 r2 r3 r4 t0 t1 t2 t3 t4); have k0 := B1.cell_ 0; have t0 := B1.free 0; have k1 := B1.cell_ 1; have t1 := B1.free 1; have k2 := B1.cell_ 2; have t2 := B1.free 2; have k3 := B1.cell_ 3; have t3 := B1.free 3; have k4 := B1.cell_ 4; have t4 := B1.free 4; simp at k0 k1 k2 k3 k4; clear b6 hQ S1 T1))
  have B1u := B1.st5_ (.int .i64 s.nb) (.int .i64 s.nn) (.int .i64 s.ns) (.slice Ab6 s.bs.length cb6) (.slice An6 s.ts.length cn6)
  have hg6 := st5_grown w9 w.heap.size 0 (.int .i64 s.nb) (.int .i64 s.nn) (.int .i64 s.ns) (.slice Ab6 s.bs.length cb6) (.slice An6 s.ts.length cn6)
  have B2u := B2.grown hg6 (by omega)
  have hBk2 := hBk.far hg6 (by omega)
  have hNt2 := hNt.far hg6 (by omega)
  have hb2 := below_grown HB hg6 (Nat.le_refl _) HB.size
  have HSZ : Hid (w3.heap.size ≤ (st5 w9 w.heap.size 0 (.int .i64 s.nb) (.int .i64 s.nn) (.int .i64 s.ns) (.slice Ab6 s.bs.length cb6) (.slice An6 s.ts.length cn6)).heap.size) := Lib.hid (by have := hz6; have := hg6.size; omega)
  clear hg6
  obtain ⟨Wd, hWd⟩ : ∃ V : World, V = (st5 w9 w.heap.size 0 (.int .i64 s.nb) (.int .i64 s.nn) (.int .i64 s.ns) (.slice Ab6 s.bs.length cb6) (.slice An6 s.ts.length cn6)) := ⟨_, rfl⟩
  change Code.wp _ _ _ _ (st5 w9 w.heap.size 0 (.int .i64 s.nb) (.int .i64 s.nn) (.int .i64 s.ns) (.slice Ab6 s.bs.length cb6) (.slice An6 s.ts.length cn6))
  rw [← hWd] at B1u B2u hBk2 hNt2 hb2 HSZ ⊢
  clear hWd y4 z4 B1 B2 HB hBk hNt k0 k1 k2 k3 k4 t0 t1 t2 t3 t4 hz6
  have HW5 := Lib.hid hW5
  obtain ⟨es, hel, hon, hnt, hap⟩ := hNt2
  have hkT := (List.getElem?_eq_some_iff.1 HNN.out).1
  obtain ⟨e0, he⟩ : ∃ e, es[k]? = some e := ⟨_, List.getElem?_eq_getElem (by omega)⟩
  obtain ⟨vt, vs, rfl, q1, q2⟩ := hnt k n e0 HNN.out he
  obtain ⟨At9, ct9, rfl, ht1, ht2⟩ := own_shape q1
  obtain ⟨As9, cs9, rfl, hs1, hs2⟩ := own_shape q2
  obtain ⟨gn, hgn, hgn2⟩ : ∃ gn, An6 = some ⟨gn, 0, none⟩ ∧ w3.heap.size ≤ gn := by
    rcases hon.2 with ⟨h, h0⟩ | ⟨g, c, cu, h, hb, _⟩
    · omega
    · injection h with h1 h2 h3
      exact ⟨g, h1, hb⟩
  subst hgn
  have h5 := es_five hel hnt
  have hga : gn ≠ Wd.heap.size := by
    have := (hon.lt gn rfl).2
    omega
  have HE := Lib.hid he
  have HEL := Lib.hid hel
  have HON := Lib.hid hon
  rw [HLL.out] at he q2
  rw [HTT.out] at hon hel
  have k0 := B1u.cell_ 0
  have k1 := B1u.cell_ 1
  have k2 := B1u.cell_ 2
  have k3 := B1u.cell_ 3
  have k4 := B1u.cell_ 4
  simp at k0 k1 k2 k3 k4
  rw [HTT.out] at k4
  go_upto_region 8 with fail
  have kd : Wd.drew.cell? ⟨w.heap.size, 4, none⟩ = some (.slice (some ⟨gn, 0, none⟩) T cn6) := drew_cell k4
  have ka : (Wd.alloc (.cells #[.int .i64 s.ns] 3)).drew.cell? ⟨w.heap.size, 4, none⟩ = some (.slice (some ⟨gn, 0, none⟩) T cn6) := by
    rw [← HTT.out]
    exact drew_cell ((B1u.alloc_ _).cell_ 4)
  have xd : Wd.drew.cell? ⟨gn, k * 5 + 4, none⟩ = some (.slice As9 L cs9) := drew_cell (own_cellE hon h5 he (j := 4) rfl)
  have xa : (Wd.alloc (.cells #[.int .i64 s.ns] 3)).drew.cell? ⟨gn, k * 5 + 4, none⟩ = some (.slice As9 L cs9) := own_cellE (drew_own (hon.alloc _)) h5 he (j := 4) rfl
  have hqb : ∀ g, (Value.slice As9 L cs9).ownBlock = some g → w3.heap.size ≤ g := fun g hg => (q2.lt g hg).1
  have hqs : ∀ u ∈ [Value.int .i64 s.ns], u.oneCell' = true := fun u hu => by
    simp at hu
    subst hu
    rfl
  clear k0 k1 k2 k3 k4
  refine wp_region_noPanic ?_
  refine wp_region_held_drew (S := (fun w_ => w_.cell? ⟨w.heap.size, 4, none⟩ = some (.slice (some ⟨gn, 0, none⟩) T cn6))) (by kernel_rfl) ?_ (fun hHeld => ?_)
  · (first | with_reducible exact kd | with_reducible exact ka | with_reducible exact k4' | with_reducible exact kb)
  refine tk 0 ?_; try simp only [Act.put, pz1, pz2, pz3]
  refine tk 1 ?_; try simp only [Act.put, pz1, pz2, pz3]
  refine tk 2 ?_; try simp only [Act.put, pz1, pz2, pz3]
  refine tk 3 ?_; try simp only [Act.put, pz1, pz2, pz3]
  refine tk 4 ?_; try simp only [Act.put, pz1, pz2, pz3]
  refine tk 5 ?_; try simp only [Act.put, pz1, pz2, pz3]
  refine tk 6 ?_; try simp only [Act.put, pz1, pz2, pz3]
  refine tk 7 ?_; try simp only [Act.put, pz1, pz2, pz3]
  refine tk 9 ?_; try simp only [Act.put, pz1, pz2, pz3]
  refine wpAnyH_ready (rs := [8, 10]) (by kernel_rfl) (by simp) ?_
  refine (AllReadyH.cons (o := ⟨some 46, .load 47 (.tmp 45), 47, "note.go:84", #[⟨7, .data⟩], none⟩) rfl (fun K hK => ?_) (AllReadyH.cons (o := ⟨some 48, .buildSlice 47 1 #[(0, .tmp 47)], 47, "note.go:84", #[⟨9, .data⟩], none⟩) rfl (fun K hK => ?_) AllReadyH.nil))
  · go_simp
    refine hK.out _ _ ?_ (fun hNew => ?_)
    · (first | with_reducible exact kd | with_reducible exact ka | with_reducible exact k4' | with_reducible exact kb)
    clear hK K hHeld
    have hHeld := hNew
    clear hNew
    try simp only [Act.put, pz1, pz2, pz3]
    refine wpAnyH_ready (rs := [10]) (by kernel_rfl) (by simp) ?_
    refine AllReadyH.cons (o := ⟨some 48, .buildSlice 47 1 #[(0, .tmp 47)], 47, "note.go:84", #[⟨9, .data⟩], none⟩) rfl (fun K hK => ?_) AllReadyH.nil
    go_simp
    refine hK.out _ _ ?_ (fun hNew => ?_)
    · (first | with_reducible exact kd | with_reducible exact ka | with_reducible exact k4' | with_reducible exact kb)
    clear hK K hHeld
    have hHeld := hNew
    clear hNew
    try simp only [Act.put, pz1, pz2, pz3]
    refine wpAnyH_ready (rs := [11]) (by kernel_rfl) (by simp) ?_
    refine AllReadyH.cons (o := ⟨some 49, .call { callee := .builtin .append, args := #[.tmp 46, .tmp 48], argTypes := #[47, 47] }, 47, "note.go:84", #[⟨8, .data⟩, ⟨10, .data⟩], none⟩) rfl (fun K hK => ?_) AllReadyH.nil
    obtain ⟨ti0, hi, hz0, hz1, hz2⟩ := info_parts info_clInt
    refine step_app _ rfl (.tmp 46) (.tmp 48) _ rfl w3.heap.size 3 ti0 _ 1 8 Tryd.underlying47 hi hz0 hz1 hz2 rfl (by decide) _ L (n.sh.map (Value.int .i64)) rfl (drew_own (q2.alloc _)) _ 1 _ [.int .i64 s.ns] rfl (rd_newV Wd _ _ rfl) hqs (by unfold maxLen; omega) (by omega) (by have := HSZ.out; show w3.heap.size ≤ (Wd.alloc (.cells #[.int .i64 s.ns] 3)).heap.size; simp; omega) ?_
    intro v' w7 ho' hg' hv'
    clear hi hz0 hz1 hz2 hv'
    replace hg' : (Wd.alloc (.cells #[.int .i64 s.ns] 3)).drew.grownBy w7 (Value.slice As9 L cs9).ownBlock := hg'
    have hof : ∀ j, j < w3.heap.size → (Value.slice As9 L cs9).ownBlock ≠ some j := fun j hj h => by have := hqb j h; omega
    have B1a := (drew_blk (B1u.alloc_ (.cells #[.int .i64 s.ns] 3))).grownR hg' (hof _ (by have := HW5.out; omega))
    have B2a := (drew_blk (B2u.alloc_ (.cells #[.int .i64 s.ns] 3))).grownR hg' (hof _ (by have := HW5.out; omega))
    have HBa := (drew_below (hb2.alloc hb2.size _)).trans (below_app (B := w.heap.size) (by have := HW5.out; omega) (by have := HSZ.out; show w3.heap.size ≤ (Wd.alloc (.cells #[.int .i64 s.ns] 3)).heap.size; simp; omega) (drew_own (q2.alloc _)) hg')
    have hon7 := (drew_own (hon.alloc (.cells #[.int .i64 s.ns] 3))).kept hg' (own_apart (drew_own (hon.alloc (.cells #[.int .i64 s.ns] 3))) (drew_own (q2.alloc (.cells #[.int .i64 s.ns] 3))) (by decide))
    have k4' := B1a.cell_ 4
    simp at k4'
    rw [HTT.out] at k4'
    obtain ⟨A7, c7, rfl, q21, q22⟩ := own_shape ho'
    have x7 := own_cellE hon7 h5 he (j := 4) rfl
    have f7 := World.ownsRow.frozenAt hon7 (k * 5 + 4)
    have kb : (w7.setCell ⟨gn, k * 5 + 4, none⟩ (.slice A7 (L + 1) c7)).cell? ⟨w.heap.size, 4, none⟩ = some (.slice (some ⟨gn, 0, none⟩) T cn6) := by
      have := (B1a.grown (set1_grown w7 gn (k * 5 + 4) (.slice A7 (L + 1) c7)) (by have := HW5.out; omega)).cell_ 4
      simp at this
      rw [HTT.out] at this
      exact this
    refine hK.out _ _ ?_ (fun hNew => ?_)
    · (first | with_reducible exact kd | with_reducible exact ka | with_reducible exact k4' | with_reducible exact kb)
    clear hK K hHeld
    have hHeld := hNew
    clear hNew
    try simp only [Act.put, pz1, pz2, pz3]
    refine tk 12 ?_; try simp only [Act.put, pz1, pz2, pz3]
    refine tk 13 ?_; try simp only [Act.put, pz1, pz2, pz3]
    refine wpAnyH_ready (rs := [14]) (by kernel_rfl) (by simp) ?_
    refine AllReadyH.cons (o := ⟨none, .store 47 (.tmp 51) (.tmp 49), 0, "note.go:84", #[⟨13, .data⟩, ⟨11, .data⟩, ⟨11, .chain⟩, ⟨0, .phase⟩, ⟨1, .phase⟩, ⟨2, .phase⟩, ⟨3, .phase⟩, ⟨4, .phase⟩, ⟨5, .phase⟩, ⟨6, .phase⟩, ⟨7, .phase⟩, ⟨8, .phase⟩, ⟨9, .phase⟩, ⟨10, .phase⟩, ⟨11, .phase⟩], none⟩) rfl (fun K hK => ?_) AllReadyH.nil
    go_simp
    refine hK.out _ _ ?_ (fun hNew => ?_)
    · (first | with_reducible exact kd | with_reducible exact ka | with_reducible exact k4' | with_reducible exact kb)
    clear hK K hHeld
    have hHeld := hNew
    clear hNew
    try simp only [Act.put, pz1, pz2, pz3]
    refine wpAnyH_done (by kernel_rfl) ?_ _
    refine NoPanic.normal ?_
    have hb0 : Below Wd.heap.size Wd (Wd.alloc (.cells #[.int .i64 s.ns] 3)).drew := drew_below ((Below.refl _ Wd).alloc (Nat.le_refl _) _)
    have hl9 : (n.sh ++ [s.ns]).length = L + 1 := by rw [List.length_append, HLL.out]; rfl
    obtain ⟨hNw, hgw⟩ := nt_sheets (xs := n.sh ++ [s.ns]) HEL.out (drew_own (HON.out.alloc (.cells #[.int .i64 s.ns] 3))) (fun k n e a b => (hnt k n e a b).below hb0) hap HNN.out HE.out (by rw [HLL.out]; exact hg') (by rw [hl9, List.map_append]; exact ho')
    have B1w := B1a.grown hgw (by have := HW5.out; omega)
    have B2w := B2a.grown hgw (by have := HW5.out; omega)
    have hB7 : BksW w7 w3.heap.size (.slice Ab6 s.bs.length cb6) s.bs := World.ownsRow.kept (own_belowW hBk2 hb0) hg' (own_apart (own_belowW hBk2 hb0) (drew_own (q2.alloc (.cells #[.int .i64 s.ns] 3))) (by decide))
    have hBw := BksW.apartN hB7 hon7 hgw
    have hbw := below_grown HBa hgw (by have := HW5.out; omega) HBa.size
    obtain ⟨Wx, hWx⟩ : ∃ V : World, V = w7.setCell ⟨gn, k * 5 + 4, none⟩ (.slice A7 (L + 1) c7) := ⟨_, rfl⟩
    rw [← hWx] at hNw B1w B2w hBw hbw ⊢
    clear hWx hgw hB7 hb0 hl9 B1a B2a HBa ho' hg' hon7 k4' x7 f7 kb hof
    have k2 := B1w.cell_ 2
    have t2 := B1w.free 2
    simp at k2
    have hwr : IntKind.i64.wrap (s.ns + 1) = s.ns + 1 := wrapS _ (by have := HQX.out; omega) (by have := HQX.out; omega)
    go_upto_region 10 with fail
    have B1c := B1w.set_ 2 (.int .i64 (s.ns + 1))
    simp at B1c
    have hg2 := set1_grown Wx w.heap.size 2 (.int .i64 (s.ns + 1))
    have B2c := B2w.grown hg2 (by omega)
    have hNc := hNw.far hg2 (by have := HW5.out; omega)
    have hBc := hBw.far hg2 (by have := HW5.out; omega)
    have hbc := below_grown hbw hg2 (Nat.le_refl _) hbw.size
    obtain ⟨W9, hW9⟩ : ∃ V : World, V = Wx.setCell ⟨w.heap.size, 2, none⟩ (.int .i64 (s.ns + 1)) := ⟨_, rfl⟩
    rw [← hW9] at B1c B2c hNc hBc hbc ⊢
    clear hW9 B1w B2w hNw hBw hbw hg2 k2 t2 hwr
    have k0 := B1c.cell_ 0
    have r0 := B2c.cell_ 0
    have t0 := B2c.free 0
    have k1 := B1c.cell_ 1
    have r1 := B2c.cell_ 1
    have t1 := B2c.free 1
    have k2 := B1c.cell_ 2
    have r2 := B2c.cell_ 2
    have t2 := B2c.free 2
    have k3 := B1c.cell_ 3
    have r3 := B2c.cell_ 3
    have t3 := B2c.free 3
    have k4 := B1c.cell_ 4
    have r4 := B2c.cell_ 4
    have t4 := B2c.free 4
    simp at k0 k1 k2 k3 k4 r0 r1 r2 r3 r4
    go_wp2_with fail
    have B2e := B2c.st5_ (.int .i64 s.nb) (.int .i64 s.nn) (.int .i64 (s.ns + 1)) (.slice Ab6 s.bs.length cb6) (.slice (some ⟨gn, 0, none⟩) s.ts.length cn6)
    have hgE := st5_grown W9 (w.heap.size + 1) 0 (.int .i64 s.nb) (.int .i64 s.nn) (.int .i64 (s.ns + 1)) (.slice Ab6 s.bs.length cb6) (.slice (some ⟨gn, 0, none⟩) s.ts.length cn6)
    have hBe := hBc.far hgE (by have := HW5.out; omega)
    have hNe := hNc.far hgE (by have := HW5.out; omega)
    have hbe := below_grown hbc hgE (by omega) hbc.size
    change bodyPost _ _ _ _ _ (st5 W9 (w.heap.size + 1) 0 (.int .i64 s.nb) (.int .i64 s.nn) (.int .i64 (s.ns + 1)) (.slice Ab6 s.bs.length cb6) (.slice (some ⟨gn, 0, none⟩) s.ts.length cn6))
    clear hgE
    generalize st5 W9 (w.heap.size + 1) 0 (.int .i64 s.nb) (.int .i64 s.nn) (.int .i64 (s.ns + 1)) (.slice Ab6 s.bs.length cb6) (.slice (some ⟨gn, 0, none⟩) s.ts.length cn6) = WF at B2e hBe hNe hbe ⊢
    apply bodyPost_ret (v := .tuple #[.agg #[.int .i64 s.nb, .int .i64 s.nn, .int .i64 (s.ns + 1), .slice Ab6 s.bs.length cb6, .slice (some ⟨gn, 0, none⟩) s.ts.length cn6], .int .i64 s.ns, .int .i64 0])
    · exact results_cell2 Tryd.results21 _ WF (w.heap.size + 1) 25 _ (0, 0) _ rfl B2e Tryd.underlying25 rfl (by kernel_rfl)
    · rfl
    · refine ⟨_, rfl, ?_, hbe⟩
      rw [HRS.out]
      exact ShW.base_ (ShW.make (s := { s with ns := s.ns + 1, ts := s.ts.set k { n with sh := n.sh ++ [s.ns] } }) (w := WF) (base := w3.heap.size) (vb := .slice Ab6 s.bs.length cb6) (vn := .slice (some ⟨gn, 0, none⟩) s.ts.length cn6) hBe hNe) (by have := HW5.out; omega)
  · go_simp
    refine hK.out _ _ ?_ (fun hNew => ?_)
    · (first | with_reducible exact kd | with_reducible exact ka | with_reducible exact k4' | with_reducible exact kb)
    clear hK K hHeld
    have hHeld := hNew
    clear hNew
    try simp only [Act.put, pz1, pz2, pz3]
    refine wpAnyH_ready (rs := [8]) (by kernel_rfl) (by simp) ?_
    refine AllReadyH.cons (o := ⟨some 46, .load 47 (.tmp 45), 47, "note.go:84", #[⟨7, .data⟩], none⟩) rfl (fun K hK => ?_) AllReadyH.nil
    go_simp
    refine hK.out _ _ ?_ (fun hNew => ?_)
    · (first | with_reducible exact kd | with_reducible exact ka | with_reducible exact k4' | with_reducible exact kb)
    clear hK K hHeld
    have hHeld := hNew
    clear hNew
    try simp only [Act.put, pz1, pz2, pz3]
    refine wpAnyH_ready (rs := [11]) (by kernel_rfl) (by simp) ?_
    refine AllReadyH.cons (o := ⟨some 49, .call { callee := .builtin .append, args := #[.tmp 46, .tmp 48], argTypes := #[47, 47] }, 47, "note.go:84", #[⟨8, .data⟩, ⟨10, .data⟩], none⟩) rfl (fun K hK => ?_) AllReadyH.nil
    obtain ⟨ti0, hi, hz0, hz1, hz2⟩ := info_parts info_clInt
    refine step_app _ rfl (.tmp 46) (.tmp 48) _ rfl w3.heap.size 3 ti0 _ 1 8 Tryd.underlying47 hi hz0 hz1 hz2 rfl (by decide) _ L (n.sh.map (Value.int .i64)) rfl (drew_own (q2.alloc _)) _ 1 _ [.int .i64 s.ns] rfl (rd_newV Wd _ _ rfl) hqs (by unfold maxLen; omega) (by omega) (by have := HSZ.out; show w3.heap.size ≤ (Wd.alloc (.cells #[.int .i64 s.ns] 3)).heap.size; simp; omega) ?_
    intro v' w7 ho' hg' hv'
    clear hi hz0 hz1 hz2 hv'
    replace hg' : (Wd.alloc (.cells #[.int .i64 s.ns] 3)).drew.grownBy w7 (Value.slice As9 L cs9).ownBlock := hg'
    have hof : ∀ j, j < w3.heap.size → (Value.slice As9 L cs9).ownBlock ≠ some j := fun j hj h => by have := hqb j h; omega
    have B1a := (drew_blk (B1u.alloc_ (.cells #[.int .i64 s.ns] 3))).grownR hg' (hof _ (by have := HW5.out; omega))
    have B2a := (drew_blk (B2u.alloc_ (.cells #[.int .i64 s.ns] 3))).grownR hg' (hof _ (by have := HW5.out; omega))
    have HBa := (drew_below (hb2.alloc hb2.size _)).trans (below_app (B := w.heap.size) (by have := HW5.out; omega) (by have := HSZ.out; show w3.heap.size ≤ (Wd.alloc (.cells #[.int .i64 s.ns] 3)).heap.size; simp; omega) (drew_own (q2.alloc _)) hg')
    have hon7 := (drew_own (hon.alloc (.cells #[.int .i64 s.ns] 3))).kept hg' (own_apart (drew_own (hon.alloc (.cells #[.int .i64 s.ns] 3))) (drew_own (q2.alloc (.cells #[.int .i64 s.ns] 3))) (by decide))
    have k4' := B1a.cell_ 4
    simp at k4'
    rw [HTT.out] at k4'
    obtain ⟨A7, c7, rfl, q21, q22⟩ := own_shape ho'
    have x7 := own_cellE hon7 h5 he (j := 4) rfl
    have f7 := World.ownsRow.frozenAt hon7 (k * 5 + 4)
    have kb : (w7.setCell ⟨gn, k * 5 + 4, none⟩ (.slice A7 (L + 1) c7)).cell? ⟨w.heap.size, 4, none⟩ = some (.slice (some ⟨gn, 0, none⟩) T cn6) := by
      have := (B1a.grown (set1_grown w7 gn (k * 5 + 4) (.slice A7 (L + 1) c7)) (by have := HW5.out; omega)).cell_ 4
      simp at this
      rw [HTT.out] at this
      exact this
    refine hK.out _ _ ?_ (fun hNew => ?_)
    · (first | with_reducible exact kd | with_reducible exact ka | with_reducible exact k4' | with_reducible exact kb)
    clear hK K hHeld
    have hHeld := hNew
    clear hNew
    try simp only [Act.put, pz1, pz2, pz3]
    refine tk 12 ?_; try simp only [Act.put, pz1, pz2, pz3]
    refine tk 13 ?_; try simp only [Act.put, pz1, pz2, pz3]
    refine wpAnyH_ready (rs := [14]) (by kernel_rfl) (by simp) ?_
    refine AllReadyH.cons (o := ⟨none, .store 47 (.tmp 51) (.tmp 49), 0, "note.go:84", #[⟨13, .data⟩, ⟨11, .data⟩, ⟨11, .chain⟩, ⟨0, .phase⟩, ⟨1, .phase⟩, ⟨2, .phase⟩, ⟨3, .phase⟩, ⟨4, .phase⟩, ⟨5, .phase⟩, ⟨6, .phase⟩, ⟨7, .phase⟩, ⟨8, .phase⟩, ⟨9, .phase⟩, ⟨10, .phase⟩, ⟨11, .phase⟩], none⟩) rfl (fun K hK => ?_) AllReadyH.nil
    go_simp
    refine hK.out _ _ ?_ (fun hNew => ?_)
    · (first | with_reducible exact kd | with_reducible exact ka | with_reducible exact k4' | with_reducible exact kb)
    clear hK K hHeld
    have hHeld := hNew
    clear hNew
    try simp only [Act.put, pz1, pz2, pz3]
    refine wpAnyH_done (by kernel_rfl) ?_ _
    refine NoPanic.normal ?_
    have hb0 : Below Wd.heap.size Wd (Wd.alloc (.cells #[.int .i64 s.ns] 3)).drew := drew_below ((Below.refl _ Wd).alloc (Nat.le_refl _) _)
    have hl9 : (n.sh ++ [s.ns]).length = L + 1 := by rw [List.length_append, HLL.out]; rfl
    obtain ⟨hNw, hgw⟩ := nt_sheets (xs := n.sh ++ [s.ns]) HEL.out (drew_own (HON.out.alloc (.cells #[.int .i64 s.ns] 3))) (fun k n e a b => (hnt k n e a b).below hb0) hap HNN.out HE.out (by rw [HLL.out]; exact hg') (by rw [hl9, List.map_append]; exact ho')
    have B1w := B1a.grown hgw (by have := HW5.out; omega)
    have B2w := B2a.grown hgw (by have := HW5.out; omega)
    have hB7 : BksW w7 w3.heap.size (.slice Ab6 s.bs.length cb6) s.bs := World.ownsRow.kept (own_belowW hBk2 hb0) hg' (own_apart (own_belowW hBk2 hb0) (drew_own (q2.alloc (.cells #[.int .i64 s.ns] 3))) (by decide))
    have hBw := BksW.apartN hB7 hon7 hgw
    have hbw := below_grown HBa hgw (by have := HW5.out; omega) HBa.size
    obtain ⟨Wx, hWx⟩ : ∃ V : World, V = w7.setCell ⟨gn, k * 5 + 4, none⟩ (.slice A7 (L + 1) c7) := ⟨_, rfl⟩
    rw [← hWx] at hNw B1w B2w hBw hbw ⊢
    clear hWx hgw hB7 hb0 hl9 B1a B2a HBa ho' hg' hon7 k4' x7 f7 kb hof
    have k2 := B1w.cell_ 2
    have t2 := B1w.free 2
    simp at k2
    have hwr : IntKind.i64.wrap (s.ns + 1) = s.ns + 1 := wrapS _ (by have := HQX.out; omega) (by have := HQX.out; omega)
    go_upto_region 10 with fail
    have B1c := B1w.set_ 2 (.int .i64 (s.ns + 1))
    simp at B1c
    have hg2 := set1_grown Wx w.heap.size 2 (.int .i64 (s.ns + 1))
    have B2c := B2w.grown hg2 (by omega)
    have hNc := hNw.far hg2 (by have := HW5.out; omega)
    have hBc := hBw.far hg2 (by have := HW5.out; omega)
    have hbc := below_grown hbw hg2 (Nat.le_refl _) hbw.size
    obtain ⟨W9, hW9⟩ : ∃ V : World, V = Wx.setCell ⟨w.heap.size, 2, none⟩ (.int .i64 (s.ns + 1)) := ⟨_, rfl⟩
    rw [← hW9] at B1c B2c hNc hBc hbc ⊢
    clear hW9 B1w B2w hNw hBw hbw hg2 k2 t2 hwr
    have k0 := B1c.cell_ 0
    have r0 := B2c.cell_ 0
    have t0 := B2c.free 0
    have k1 := B1c.cell_ 1
    have r1 := B2c.cell_ 1
    have t1 := B2c.free 1
    have k2 := B1c.cell_ 2
    have r2 := B2c.cell_ 2
    have t2 := B2c.free 2
    have k3 := B1c.cell_ 3
    have r3 := B2c.cell_ 3
    have t3 := B2c.free 3
    have k4 := B1c.cell_ 4
    have r4 := B2c.cell_ 4
    have t4 := B2c.free 4
    simp at k0 k1 k2 k3 k4 r0 r1 r2 r3 r4
    go_wp2_with fail
    have B2e := B2c.st5_ (.int .i64 s.nb) (.int .i64 s.nn) (.int .i64 (s.ns + 1)) (.slice Ab6 s.bs.length cb6) (.slice (some ⟨gn, 0, none⟩) s.ts.length cn6)
    have hgE := st5_grown W9 (w.heap.size + 1) 0 (.int .i64 s.nb) (.int .i64 s.nn) (.int .i64 (s.ns + 1)) (.slice Ab6 s.bs.length cb6) (.slice (some ⟨gn, 0, none⟩) s.ts.length cn6)
    have hBe := hBc.far hgE (by have := HW5.out; omega)
    have hNe := hNc.far hgE (by have := HW5.out; omega)
    have hbe := below_grown hbc hgE (by omega) hbc.size
    change bodyPost _ _ _ _ _ (st5 W9 (w.heap.size + 1) 0 (.int .i64 s.nb) (.int .i64 s.nn) (.int .i64 (s.ns + 1)) (.slice Ab6 s.bs.length cb6) (.slice (some ⟨gn, 0, none⟩) s.ts.length cn6))
    clear hgE
    generalize st5 W9 (w.heap.size + 1) 0 (.int .i64 s.nb) (.int .i64 s.nn) (.int .i64 (s.ns + 1)) (.slice Ab6 s.bs.length cb6) (.slice (some ⟨gn, 0, none⟩) s.ts.length cn6) = WF at B2e hBe hNe hbe ⊢
    apply bodyPost_ret (v := .tuple #[.agg #[.int .i64 s.nb, .int .i64 s.nn, .int .i64 (s.ns + 1), .slice Ab6 s.bs.length cb6, .slice (some ⟨gn, 0, none⟩) s.ts.length cn6], .int .i64 s.ns, .int .i64 0])
    · exact results_cell2 Tryd.results21 _ WF (w.heap.size + 1) 25 _ (0, 0) _ rfl B2e Tryd.underlying25 rfl (by kernel_rfl)
    · rfl
    · refine ⟨_, rfl, ?_, hbe⟩
      rw [HRS.out]
      exact ShW.base_ (ShW.make (s := { s with ns := s.ns + 1, ts := s.ts.set k { n with sh := n.sh ++ [s.ns] } }) (w := WF) (base := w3.heap.size) (vb := .slice Ab6 s.bs.length cb6) (vn := .slice (some ⟨gn, 0, none⟩) s.ts.length cn6) hBe hNe) (by have := HW5.out; omega)
end Go.Proofs.YtkaoechjekffmaaDoor
