/- Tags that may be; a note that may be. -/
import Derived.Test.YtokhapafpjejaaaGreatDoorSt1
import Derived.Shelf.SlSortCmp.WholeK
import Derived.Shelf.SlSortCmp.NoneTotal
import Derived.Shelf.Small.Strs
import Derived.Lib.SliceRun
set_option linter.unusedSimpArgs false
set_option linter.unusedVariables false
set_option maxRecDepth 100000
set_option maxHeartbeats 16000000
namespace Go.Proofs.YtokhapafpjejaaaGreatDoor
open Go.ChangeShapes Go.WideShapes Go.ChangeAt Go.RowKit
attribute [local go_sem ↓] Go.wp_at_zero Go.wp_at_succ
def prevT (l : List ByteArray) : Nat → List ByteArray
  | 0 => []
  | k + 1 => [l.getD k ByteArray.empty]
theorem drop_next {α : Type} {l : List α} {k : Nat} {x : α} (h : l[k]? = some x) : l.drop k = x :: l.drop (k + 1) := by
  obtain ⟨hlt, rfl⟩ := List.getElem?_eq_some_iff.1 h
  exact List.drop_eq_getElem_cons hlt
theorem prevT_at {l : List ByteArray} {k : Nat} {x : ByteArray} (h : l[k]? = some x) : prevT l (k + 1) = [x] := by
  show [l.getD k ByteArray.empty] = [x]
  rw [List.getD_eq_getElem?_getD, h]
  rfl
theorem tags_first {l : List ByteArray} {x : ByteArray} (h : l[0]? = some x) : tagsFrom (prevT l 0) (l.drop 0) = (mayN x && tagsFrom (prevT l 1) (l.drop 1)) := by
  rw [drop_next h]
  have e2 : prevT l 1 = [x] := prevT_at h
  rw [e2]
  rfl
theorem tags_next {l : List ByteArray} {k : Nat} {x p : ByteArray} (h : l[k + 1]? = some x) (hp : l[k]? = some p) : tagsFrom (prevT l (k + 1)) (l.drop (k + 1)) = (mayN x && (lessS p x && tagsFrom (prevT l (k + 2)) (l.drop (k + 2)))) := by
  rw [drop_next h]
  have e2 : prevT l (k + 2) = [x] := prevT_at h
  have e1 : prevT l (k + 1) = [p] := prevT_at hp
  rw [e2, e1]
  rfl
theorem tags_end {l : List ByteArray} {p : List ByteArray} : tagsFrom p (l.drop l.length) = true := by
  rw [List.drop_length]
  rfl
theorem mayTags_any (l : List ByteArray) (A : Option Addr) (cp : Nat) (w : World) (hS : Sl w w.heap.size A (l.map strV)) (hc : l.length ≤ cp) (hm : cp ≤ maxLen) (hT : Tabs w) (T : Bool) (hB : mayTg l = T) :
    Calls Tryz.prog 95 #[.slice A l.length cp] w fun e' w' => e' = .returned (.bool T) ∧ Below w.heap.size w w' := by
  obtain ⟨n, hn⟩ : ∃ n, l.length = n := ⟨_, rfl⟩
  rw [hn] at hc ⊢
  unfold mayTg at hB
  rw [hn] at hB
  have HT := Lib.hid hT
  clear hT
  by_cases h4 : n ≤ 4
  · rw [decide_eq_true h4, Bool.true_and] at hB
    have HN := Lib.hid hn
    have HTG : Hid (tagsFrom (prevT l 0) (l.drop 0) = T) := Lib.hid (by rw [List.drop_zero]; exact hB)
    clear hn hB
    have HB0 : Below w.heap.size w w := Below.refl _ _
    go_enter Tryz.func95, Tryz.ntmps95
    go_wp2_with fail
    go_loopw [10] (fun i wr => ∃ k : Nat, k ≤ n ∧ i = .int .i64 k ∧ Hid (tagsFrom (prevT l k) (l.drop k) = T) ∧ Below w.heap.size w wr) (fun i _ => n - (intOf i).toNat)
    case atStart => exact ⟨0, by omega, rfl, HTG, HB0⟩
    case round =>
      obtain ⟨k, hk, rfl, HK, HBr⟩ := hrel
      clear HTG HB0
      have TT := HT.out.next HBr
      have HTT := Lib.hid TT
      clear TT
      by_cases hlt : k < n
      · have hlx : k < l.length := by have := HN.out; omega
        obtain ⟨b1, o1, rfl, l1, q1⟩ := hS.at_ (by rw [List.length_map]; omega)
        obtain ⟨x, hx⟩ : ∃ x, l[k]? = some x := ⟨_, List.getElem?_eq_getElem hlx⟩
        have cx : wr.cell? ⟨b1, o1 + k, none⟩ = some (.string x) := (HBr.cell (p := ⟨b1, _, none⟩) l1).trans (q1 k _ (by rw [List.getElem?_map, hx]; rfl))
        have r1 : b1 < wr.heap.size := by have := HBr.size; omega
        have i0 : (0 : Int) ≤ (k : Int) := by omega
        have i1 : (k : Int) < (n : Int) := by omega
        obtain ⟨M, hM⟩ : ∃ M, mayN x = M := ⟨_, rfl⟩
        have HM : Hid (nameB x.data.toList = M) := Lib.hid hM
        rcases k with _ | k
        · simp only [Nat.add_zero] at cx
          have ht := tags_first hx
          rw [hM, HK.out] at ht
          cases M
          · have HT2 : Hid (T = false) := Lib.hid ht
            clear q1 ht hM hx hlx
            go_wp2_with (go_at_call 61; ((with_reducible refine (nmay_any x _ _ HTT.out HM.out).mono ?_); rintro e' wN ⟨rfl, hb3⟩; have HBr := btr HBr HBr.size hb3; clear hb3))
            go_ret
            exact ⟨by rw [HT2.out]; rfl, HBr⟩
          · have HT2 : Hid (tagsFrom (prevT l 1) (l.drop 1) = T) := Lib.hid (by rw [ht]; rfl)
            clear q1 ht hM hx hlx
            go_wp2_with (go_at_call 61; ((with_reducible refine (nmay_any x _ _ HTT.out HM.out).mono ?_); rintro e' wN ⟨rfl, hb3⟩; have HBr := btr HBr HBr.size hb3; clear hb3))
            go_roundw
            case rel => exact ⟨1, by omega, by go_num, HT2, HBr⟩
            case measure => simp [intOf]; omega
        · obtain ⟨p, hp⟩ : ∃ x, l[k]? = some x := ⟨_, List.getElem?_eq_getElem (by omega)⟩
          have cp1 : wr.cell? ⟨b1, o1 + k, none⟩ = some (.string p) := (HBr.cell (p := ⟨b1, _, none⟩) l1).trans (q1 k _ (by rw [List.getElem?_map, hp]; rfl))
          obtain ⟨L, hL⟩ : ∃ L, lessS p x = L := ⟨_, rfl⟩
          have HL : Hid (Op.bytesLess p.toList x.toList = L) := Lib.hid hL
          have ht := tags_next hx hp
          rw [hM, hL, HK.out] at ht
          have j0 : (0 : Int) ≤ ((k + 1 : Nat) : Int) - 1 := by omega
          have j1 : ((k + 1 : Nat) : Int) - 1 < (n : Int) := by omega
          have j2 : (0 : Int) < ((k + 1 : Nat) : Int) := by omega
          have j3 : (((k + 1 : Nat) : Int) - 1).toNat = k := by omega
          cases M
          · have HT2 : Hid (T = false) := Lib.hid ht
            clear q1 ht hM hx hlx hp hL
            go_wp2_with (go_at_call 61; ((with_reducible refine (nmay_any x _ _ HTT.out HM.out).mono ?_); rintro e' wN ⟨rfl, hb3⟩; (have cx0 : wN.cell? ⟨b1, o1 + k, none⟩ = _ := (hb3.cell (p := ⟨b1, _, none⟩) r1).trans cp1); have HBr := btr HBr HBr.size hb3; clear hb3))
            go_ret
            exact ⟨by rw [HT2.out]; rfl, HBr⟩
          · cases L
            · have HT2 : Hid (T = false) := Lib.hid ht
              clear q1 ht hM hx hlx hp hL
              go_wp2_with (first | (go_at_call 61; ((with_reducible refine (nmay_any x _ _ HTT.out HM.out).mono ?_); rintro e' wN ⟨rfl, hb3⟩; (have cx0 : wN.cell? ⟨b1, o1 + k, none⟩ = _ := (hb3.cell (p := ⟨b1, _, none⟩) r1).trans cp1); have HBr := btr HBr HBr.size hb3; clear hb3)) | (go_at_call 103; ((with_reducible refine (less_any p x _ _ HL.out).mono ?_); rintro e' wM ⟨rfl, rfl⟩)))
              go_ret
              exact ⟨by rw [HT2.out]; rfl, HBr⟩
            · have HT2 : Hid (tagsFrom (prevT l (k + 2)) (l.drop (k + 2)) = T) := Lib.hid (by rw [ht]; rfl)
              clear q1 ht hM hx hlx hp hL
              go_wp2_with (first | (go_at_call 61; ((with_reducible refine (nmay_any x _ _ HTT.out HM.out).mono ?_); rintro e' wN ⟨rfl, hb3⟩; (have cx0 : wN.cell? ⟨b1, o1 + k, none⟩ = _ := (hb3.cell (p := ⟨b1, _, none⟩) r1).trans cp1); have HBr := btr HBr HBr.size hb3; clear hb3)) | (go_at_call 103; ((with_reducible refine (less_any p x _ _ HL.out).mono ?_); rintro e' wM ⟨rfl, rfl⟩)))
              go_roundw
              case rel => exact ⟨k + 2, by omega, by go_num, HT2, HBr⟩
              case measure => simp [intOf]; omega
      · have hjn : k = n := by omega
        subst hjn
        have ht := HK.out
        rw [← HN.out, tags_end] at ht
        clear hlt
        go_wp2_with fail
        go_ret
        exact ⟨by rw [← ht]; rfl, HBr⟩
  · rw [decide_eq_false h4, Bool.false_and] at hB
    subst hB
    have q4 : (4 : Int) < (n : Int) := by omega
    clear hn h4
    go_enter Tryz.func95, Tryz.ntmps95
    go_wp2
    go_ret
    exact ⟨rfl, Below.refl _ _⟩
theorem mayNote_any (s : Sf) (v : Value) (n : Nt) (e : List Value) (w : World) (hS : ShR w w.heap.size v s) (hN0 : NtIn w w.heap.size n e) (hT : Tabs w) (T : Bool) (hB0 : mayNt s n = T) :
    Calls Tryz.prog 72 #[v, .agg e.toArray] w fun e' w' => e' = .returned (.bool T) ∧ Below w.heap.size w w' := by
  have hS0 := hS
  obtain ⟨Ab, cb, An, cn, rfl, hB, hN, hcb, hmb, hcn, hmn⟩ := hS.ex
  clear hS
  obtain ⟨At, ct, As, cs, rfl, hAt, hAs, htc, htm, hsc, hsm⟩ := hN0.ex
  clear hN0
  show Calls Tryz.prog 72 #[.agg #[.int .i64 s.nb, .int .i64 s.nn, .int .i64 s.ns, .slice Ab s.bs.length cb, .slice An s.ts.length cn], .agg #[.int .i64 n.id, .int .i64 n.bk, .string n.nm, .slice At n.tg.length ct, .slice As n.sh.length cs]] w _
  have HB : Below w.heap.size w ((w.alloc (.cells #[.int .i64 s.nb, .int .i64 s.nn, .int .i64 s.ns, .slice Ab s.bs.length cb, .slice An s.ts.length cn] 25)).alloc (.cells #[.int .i64 n.id, .int .i64 n.bk, .string n.nm, .slice At n.tg.length ct, .slice As n.sh.length cs] 46)) := (((Below.refl w.heap.size w).alloc (by first | (simp; done) | (simp; omega)) _).alloc (by first | (simp; done) | (simp; omega)) _)
  have B1 : Blk ((w.alloc (.cells #[.int .i64 s.nb, .int .i64 s.nn, .int .i64 s.ns, .slice Ab s.bs.length cb, .slice An s.ts.length cn] 25)).alloc (.cells #[.int .i64 n.id, .int .i64 n.bk, .string n.nm, .slice At n.tg.length ct, .slice As n.sh.length cs] 46)) w.heap.size 25 #[.int .i64 s.nb, .int .i64 s.nn, .int .i64 s.ns, .slice Ab s.bs.length cb, .slice An s.ts.length cn] := (Blk.new_ w 25 #[.int .i64 s.nb, .int .i64 s.nn, .int .i64 s.ns, .slice Ab s.bs.length cb, .slice An s.ts.length cn]).alloc_ (.cells #[.int .i64 n.id, .int .i64 n.bk, .string n.nm, .slice At n.tg.length ct, .slice As n.sh.length cs] 46)
  have B2 : Blk ((w.alloc (.cells #[.int .i64 s.nb, .int .i64 s.nn, .int .i64 s.ns, .slice Ab s.bs.length cb, .slice An s.ts.length cn] 25)).alloc (.cells #[.int .i64 n.id, .int .i64 n.bk, .string n.nm, .slice At n.tg.length ct, .slice As n.sh.length cs] 46)) (w.heap.size + 1) 46 #[.int .i64 n.id, .int .i64 n.bk, .string n.nm, .slice At n.tg.length ct, .slice As n.sh.length cs] := by
    have := Blk.new_ (w.alloc (.cells #[.int .i64 s.nb, .int .i64 s.nn, .int .i64 s.ns, .slice Ab s.bs.length cb, .slice An s.ts.length cn] 25)) 46 #[.int .i64 n.id, .int .i64 n.bk, .string n.nm, .slice At n.tg.length ct, .slice As n.sh.length cs]
    simpa using this
  have S1 : ShR ((w.alloc (.cells #[.int .i64 s.nb, .int .i64 s.nn, .int .i64 s.ns, .slice Ab s.bs.length cb, .slice An s.ts.length cn] 25)).alloc (.cells #[.int .i64 n.id, .int .i64 n.bk, .string n.nm, .slice At n.tg.length ct, .slice As n.sh.length cs] 46)) ((w.alloc (.cells #[.int .i64 s.nb, .int .i64 s.nn, .int .i64 s.ns, .slice Ab s.bs.length cb, .slice An s.ts.length cn] 25)).alloc (.cells #[.int .i64 n.id, .int .i64 n.bk, .string n.nm, .slice At n.tg.length ct, .slice As n.sh.length cs] 46)).heap.size (.agg #[.int .i64 s.nb, .int .i64 s.nn, .int .i64 s.ns, .slice Ab s.bs.length cb, .slice An s.ts.length cn]) s := hS0.next HB
  have T1 := hT.next HB
  have A1 : Sl ((w.alloc (.cells #[.int .i64 s.nb, .int .i64 s.nn, .int .i64 s.ns, .slice Ab s.bs.length cb, .slice An s.ts.length cn] 25)).alloc (.cells #[.int .i64 n.id, .int .i64 n.bk, .string n.nm, .slice At n.tg.length ct, .slice As n.sh.length cs] 46)) ((w.alloc (.cells #[.int .i64 s.nb, .int .i64 s.nn, .int .i64 s.ns, .slice Ab s.bs.length cb, .slice An s.ts.length cn] 25)).alloc (.cells #[.int .i64 n.id, .int .i64 n.bk, .string n.nm, .slice At n.tg.length ct, .slice As n.sh.length cs] 46)).heap.size At (n.tg.map strV) := (hAt.below HB).mono_ HB.size
  clear hS0 hT hB hN hAt hAs hcb hmb hcn hmn
  obtain ⟨M, hM⟩ : ∃ M, mayN n.nm = M := ⟨_, rfl⟩
  have HM : Hid (nameB n.nm.data.toList = M) := Lib.hid hM
  obtain ⟨I, hI⟩ : ∃ I, bookAt s n.bk = I := ⟨_, rfl⟩
  have HI := Lib.hid hI
  obtain ⟨K, hK⟩ : ∃ K, noteTk s n.bk n.nm n.id = K := ⟨_, rfl⟩
  have HK := Lib.hid hK
  obtain ⟨G, hG⟩ : ∃ G, mayTg n.tg = G := ⟨_, rfl⟩
  have HG := Lib.hid hG
  unfold mayNt at hB0
  rw [hM, hI, hK, hG] at hB0
  have HE := Lib.hid hB0
  clear hM hI hK hG hB0
  cases M
  · skip
    go_enter Tryz.func72, Tryz.ntmps72
    go_wp2_with (first
      | (go_at_call 61; ((with_reducible refine (nmay_any n.nm _ _ T1 HM.out).mono ?_); rintro e' w3 ⟨rfl, b3⟩; have S1 := S1.next b3; have T1 := T1.next b3; have A1 := (A1.below b3).mono_ (Below.size b3); have B1 := B1.below b3 B1.lt; have B2 := B2.below b3 B2.lt; have HB := btr HB HB.size b3; (try clear k0 k1 k2 k3 k4 m0 m1 m2 m3 m4); have k0 := B1.cell_ 0; have k1 := B1.cell_ 1; have k2 := B1.cell_ 2; have k3 := B1.cell_ 3; have k4 := B1.cell_ 4; have m0 := B2.cell_ 0; have m1 := B2.cell_ 1; have m2 := B2.cell_ 2; have m3 := B2.cell_ 3; have m4 := B2.cell_ 4; simp at k0 k1 k2 k3 k4 m0 m1 m2 m3 m4; clear b3))
      | (go_at_call 52; ((with_reducible refine (pBook_any s _ n.bk _ S1).mono ?_); rintro e' w4 ⟨rfl, b4⟩; rw [HI.out]; have S1 := S1.next b4; have T1 := T1.next b4; have A1 := (A1.below b4).mono_ (Below.size b4); have B1 := B1.below b4 B1.lt; have B2 := B2.below b4 B2.lt; have HB := btr HB HB.size b4; (try clear k0 k1 k2 k3 k4 m0 m1 m2 m3 m4); have k0 := B1.cell_ 0; have k1 := B1.cell_ 1; have k2 := B1.cell_ 2; have k3 := B1.cell_ 3; have k4 := B1.cell_ 4; have m0 := B2.cell_ 0; have m1 := B2.cell_ 1; have m2 := B2.cell_ 2; have m3 := B2.cell_ 3; have m4 := B2.cell_ 4; simp at k0 k1 k2 k3 k4 m0 m1 m2 m3 m4; clear b4))
      | (go_at_call 69; ((with_reducible refine (nTaken_any s _ n.bk n.nm n.id _ S1 _ HK.out).mono ?_); rintro e' w5 ⟨rfl, b5⟩; have S1 := S1.next b5; have T1 := T1.next b5; have A1 := (A1.below b5).mono_ (Below.size b5); have B1 := B1.below b5 B1.lt; have B2 := B2.below b5 B2.lt; have HB := btr HB HB.size b5; (try clear k0 k1 k2 k3 k4 m0 m1 m2 m3 m4); have k0 := B1.cell_ 0; have k1 := B1.cell_ 1; have k2 := B1.cell_ 2; have k3 := B1.cell_ 3; have k4 := B1.cell_ 4; have m0 := B2.cell_ 0; have m1 := B2.cell_ 1; have m2 := B2.cell_ 2; have m3 := B2.cell_ 3; have m4 := B2.cell_ 4; simp at k0 k1 k2 k3 k4 m0 m1 m2 m3 m4; clear b5))
      | (go_at_call 95; ((with_reducible refine (mayTags_any n.tg _ _ _ A1 htc htm T1 _ HG.out).mono ?_); rintro e' w6 ⟨rfl, b6⟩; have S1 := S1.next b6; have T1 := T1.next b6; have A1 := (A1.below b6).mono_ (Below.size b6); have B1 := B1.below b6 B1.lt; have B2 := B2.below b6 B2.lt; have HB := btr HB HB.size b6; (try clear k0 k1 k2 k3 k4 m0 m1 m2 m3 m4); have k0 := B1.cell_ 0; have k1 := B1.cell_ 1; have k2 := B1.cell_ 2; have k3 := B1.cell_ 3; have k4 := B1.cell_ 4; have m0 := B2.cell_ 0; have m1 := B2.cell_ 1; have m2 := B2.cell_ 2; have m3 := B2.cell_ 3; have m4 := B2.cell_ 4; simp at k0 k1 k2 k3 k4 m0 m1 m2 m3 m4; clear b6)))
    go_ret
    exact ⟨by first | (rw [← HE.out]; rfl) | (rw [← HE.out, decide_eq_true (by omega : (0 : Int) ≤ I)]; rfl) | (rw [← HE.out, decide_eq_false (by omega : ¬ (0 : Int) ≤ I)]; rfl), HB⟩
  · by_cases h0 : 0 ≤ I
    · cases K
      · cases G
        · skip
          go_enter Tryz.func72, Tryz.ntmps72
          go_wp2_with (first
            | (go_at_call 61; ((with_reducible refine (nmay_any n.nm _ _ T1 HM.out).mono ?_); rintro e' w3 ⟨rfl, b3⟩; have S1 := S1.next b3; have T1 := T1.next b3; have A1 := (A1.below b3).mono_ (Below.size b3); have B1 := B1.below b3 B1.lt; have B2 := B2.below b3 B2.lt; have HB := btr HB HB.size b3; (try clear k0 k1 k2 k3 k4 m0 m1 m2 m3 m4); have k0 := B1.cell_ 0; have k1 := B1.cell_ 1; have k2 := B1.cell_ 2; have k3 := B1.cell_ 3; have k4 := B1.cell_ 4; have m0 := B2.cell_ 0; have m1 := B2.cell_ 1; have m2 := B2.cell_ 2; have m3 := B2.cell_ 3; have m4 := B2.cell_ 4; simp at k0 k1 k2 k3 k4 m0 m1 m2 m3 m4; clear b3))
            | (go_at_call 52; ((with_reducible refine (pBook_any s _ n.bk _ S1).mono ?_); rintro e' w4 ⟨rfl, b4⟩; rw [HI.out]; have S1 := S1.next b4; have T1 := T1.next b4; have A1 := (A1.below b4).mono_ (Below.size b4); have B1 := B1.below b4 B1.lt; have B2 := B2.below b4 B2.lt; have HB := btr HB HB.size b4; (try clear k0 k1 k2 k3 k4 m0 m1 m2 m3 m4); have k0 := B1.cell_ 0; have k1 := B1.cell_ 1; have k2 := B1.cell_ 2; have k3 := B1.cell_ 3; have k4 := B1.cell_ 4; have m0 := B2.cell_ 0; have m1 := B2.cell_ 1; have m2 := B2.cell_ 2; have m3 := B2.cell_ 3; have m4 := B2.cell_ 4; simp at k0 k1 k2 k3 k4 m0 m1 m2 m3 m4; clear b4))
            | (go_at_call 69; ((with_reducible refine (nTaken_any s _ n.bk n.nm n.id _ S1 _ HK.out).mono ?_); rintro e' w5 ⟨rfl, b5⟩; have S1 := S1.next b5; have T1 := T1.next b5; have A1 := (A1.below b5).mono_ (Below.size b5); have B1 := B1.below b5 B1.lt; have B2 := B2.below b5 B2.lt; have HB := btr HB HB.size b5; (try clear k0 k1 k2 k3 k4 m0 m1 m2 m3 m4); have k0 := B1.cell_ 0; have k1 := B1.cell_ 1; have k2 := B1.cell_ 2; have k3 := B1.cell_ 3; have k4 := B1.cell_ 4; have m0 := B2.cell_ 0; have m1 := B2.cell_ 1; have m2 := B2.cell_ 2; have m3 := B2.cell_ 3; have m4 := B2.cell_ 4; simp at k0 k1 k2 k3 k4 m0 m1 m2 m3 m4; clear b5))
            | (go_at_call 95; ((with_reducible refine (mayTags_any n.tg _ _ _ A1 htc htm T1 _ HG.out).mono ?_); rintro e' w6 ⟨rfl, b6⟩; have S1 := S1.next b6; have T1 := T1.next b6; have A1 := (A1.below b6).mono_ (Below.size b6); have B1 := B1.below b6 B1.lt; have B2 := B2.below b6 B2.lt; have HB := btr HB HB.size b6; (try clear k0 k1 k2 k3 k4 m0 m1 m2 m3 m4); have k0 := B1.cell_ 0; have k1 := B1.cell_ 1; have k2 := B1.cell_ 2; have k3 := B1.cell_ 3; have k4 := B1.cell_ 4; have m0 := B2.cell_ 0; have m1 := B2.cell_ 1; have m2 := B2.cell_ 2; have m3 := B2.cell_ 3; have m4 := B2.cell_ 4; simp at k0 k1 k2 k3 k4 m0 m1 m2 m3 m4; clear b6)))
          go_ret
          exact ⟨by first | (rw [← HE.out]; rfl) | (rw [← HE.out, decide_eq_true (by omega : (0 : Int) ≤ I)]; rfl) | (rw [← HE.out, decide_eq_false (by omega : ¬ (0 : Int) ≤ I)]; rfl), HB⟩
        · skip
          go_enter Tryz.func72, Tryz.ntmps72
          go_wp2_with (first
            | (go_at_call 61; ((with_reducible refine (nmay_any n.nm _ _ T1 HM.out).mono ?_); rintro e' w3 ⟨rfl, b3⟩; have S1 := S1.next b3; have T1 := T1.next b3; have A1 := (A1.below b3).mono_ (Below.size b3); have B1 := B1.below b3 B1.lt; have B2 := B2.below b3 B2.lt; have HB := btr HB HB.size b3; (try clear k0 k1 k2 k3 k4 m0 m1 m2 m3 m4); have k0 := B1.cell_ 0; have k1 := B1.cell_ 1; have k2 := B1.cell_ 2; have k3 := B1.cell_ 3; have k4 := B1.cell_ 4; have m0 := B2.cell_ 0; have m1 := B2.cell_ 1; have m2 := B2.cell_ 2; have m3 := B2.cell_ 3; have m4 := B2.cell_ 4; simp at k0 k1 k2 k3 k4 m0 m1 m2 m3 m4; clear b3))
            | (go_at_call 52; ((with_reducible refine (pBook_any s _ n.bk _ S1).mono ?_); rintro e' w4 ⟨rfl, b4⟩; rw [HI.out]; have S1 := S1.next b4; have T1 := T1.next b4; have A1 := (A1.below b4).mono_ (Below.size b4); have B1 := B1.below b4 B1.lt; have B2 := B2.below b4 B2.lt; have HB := btr HB HB.size b4; (try clear k0 k1 k2 k3 k4 m0 m1 m2 m3 m4); have k0 := B1.cell_ 0; have k1 := B1.cell_ 1; have k2 := B1.cell_ 2; have k3 := B1.cell_ 3; have k4 := B1.cell_ 4; have m0 := B2.cell_ 0; have m1 := B2.cell_ 1; have m2 := B2.cell_ 2; have m3 := B2.cell_ 3; have m4 := B2.cell_ 4; simp at k0 k1 k2 k3 k4 m0 m1 m2 m3 m4; clear b4))
            | (go_at_call 69; ((with_reducible refine (nTaken_any s _ n.bk n.nm n.id _ S1 _ HK.out).mono ?_); rintro e' w5 ⟨rfl, b5⟩; have S1 := S1.next b5; have T1 := T1.next b5; have A1 := (A1.below b5).mono_ (Below.size b5); have B1 := B1.below b5 B1.lt; have B2 := B2.below b5 B2.lt; have HB := btr HB HB.size b5; (try clear k0 k1 k2 k3 k4 m0 m1 m2 m3 m4); have k0 := B1.cell_ 0; have k1 := B1.cell_ 1; have k2 := B1.cell_ 2; have k3 := B1.cell_ 3; have k4 := B1.cell_ 4; have m0 := B2.cell_ 0; have m1 := B2.cell_ 1; have m2 := B2.cell_ 2; have m3 := B2.cell_ 3; have m4 := B2.cell_ 4; simp at k0 k1 k2 k3 k4 m0 m1 m2 m3 m4; clear b5))
            | (go_at_call 95; ((with_reducible refine (mayTags_any n.tg _ _ _ A1 htc htm T1 _ HG.out).mono ?_); rintro e' w6 ⟨rfl, b6⟩; have S1 := S1.next b6; have T1 := T1.next b6; have A1 := (A1.below b6).mono_ (Below.size b6); have B1 := B1.below b6 B1.lt; have B2 := B2.below b6 B2.lt; have HB := btr HB HB.size b6; (try clear k0 k1 k2 k3 k4 m0 m1 m2 m3 m4); have k0 := B1.cell_ 0; have k1 := B1.cell_ 1; have k2 := B1.cell_ 2; have k3 := B1.cell_ 3; have k4 := B1.cell_ 4; have m0 := B2.cell_ 0; have m1 := B2.cell_ 1; have m2 := B2.cell_ 2; have m3 := B2.cell_ 3; have m4 := B2.cell_ 4; simp at k0 k1 k2 k3 k4 m0 m1 m2 m3 m4; clear b6)))
          go_ret
          exact ⟨by first | (rw [← HE.out]; rfl) | (rw [← HE.out, decide_eq_true (by omega : (0 : Int) ≤ I)]; rfl) | (rw [← HE.out, decide_eq_false (by omega : ¬ (0 : Int) ≤ I)]; rfl), HB⟩
      · skip
        go_enter Tryz.func72, Tryz.ntmps72
        go_wp2_with (first
          | (go_at_call 61; ((with_reducible refine (nmay_any n.nm _ _ T1 HM.out).mono ?_); rintro e' w3 ⟨rfl, b3⟩; have S1 := S1.next b3; have T1 := T1.next b3; have A1 := (A1.below b3).mono_ (Below.size b3); have B1 := B1.below b3 B1.lt; have B2 := B2.below b3 B2.lt; have HB := btr HB HB.size b3; (try clear k0 k1 k2 k3 k4 m0 m1 m2 m3 m4); have k0 := B1.cell_ 0; have k1 := B1.cell_ 1; have k2 := B1.cell_ 2; have k3 := B1.cell_ 3; have k4 := B1.cell_ 4; have m0 := B2.cell_ 0; have m1 := B2.cell_ 1; have m2 := B2.cell_ 2; have m3 := B2.cell_ 3; have m4 := B2.cell_ 4; simp at k0 k1 k2 k3 k4 m0 m1 m2 m3 m4; clear b3))
          | (go_at_call 52; ((with_reducible refine (pBook_any s _ n.bk _ S1).mono ?_); rintro e' w4 ⟨rfl, b4⟩; rw [HI.out]; have S1 := S1.next b4; have T1 := T1.next b4; have A1 := (A1.below b4).mono_ (Below.size b4); have B1 := B1.below b4 B1.lt; have B2 := B2.below b4 B2.lt; have HB := btr HB HB.size b4; (try clear k0 k1 k2 k3 k4 m0 m1 m2 m3 m4); have k0 := B1.cell_ 0; have k1 := B1.cell_ 1; have k2 := B1.cell_ 2; have k3 := B1.cell_ 3; have k4 := B1.cell_ 4; have m0 := B2.cell_ 0; have m1 := B2.cell_ 1; have m2 := B2.cell_ 2; have m3 := B2.cell_ 3; have m4 := B2.cell_ 4; simp at k0 k1 k2 k3 k4 m0 m1 m2 m3 m4; clear b4))
          | (go_at_call 69; ((with_reducible refine (nTaken_any s _ n.bk n.nm n.id _ S1 _ HK.out).mono ?_); rintro e' w5 ⟨rfl, b5⟩; have S1 := S1.next b5; have T1 := T1.next b5; have A1 := (A1.below b5).mono_ (Below.size b5); have B1 := B1.below b5 B1.lt; have B2 := B2.below b5 B2.lt; have HB := btr HB HB.size b5; (try clear k0 k1 k2 k3 k4 m0 m1 m2 m3 m4); have k0 := B1.cell_ 0; have k1 := B1.cell_ 1; have k2 := B1.cell_ 2; have k3 := B1.cell_ 3; have k4 := B1.cell_ 4; have m0 := B2.cell_ 0; have m1 := B2.cell_ 1; have m2 := B2.cell_ 2; have m3 := B2.cell_ 3; have m4 := B2.cell_ 4; simp at k0 k1 k2 k3 k4 m0 m1 m2 m3 m4; clear b5))
          | (go_at_call 95; ((with_reducible refine (mayTags_any n.tg _ _ _ A1 htc htm T1 _ HG.out).mono ?_); rintro e' w6 ⟨rfl, b6⟩; have S1 := S1.next b6; have T1 := T1.next b6; have A1 := (A1.below b6).mono_ (Below.size b6); have B1 := B1.below b6 B1.lt; have B2 := B2.below b6 B2.lt; have HB := btr HB HB.size b6; (try clear k0 k1 k2 k3 k4 m0 m1 m2 m3 m4); have k0 := B1.cell_ 0; have k1 := B1.cell_ 1; have k2 := B1.cell_ 2; have k3 := B1.cell_ 3; have k4 := B1.cell_ 4; have m0 := B2.cell_ 0; have m1 := B2.cell_ 1; have m2 := B2.cell_ 2; have m3 := B2.cell_ 3; have m4 := B2.cell_ 4; simp at k0 k1 k2 k3 k4 m0 m1 m2 m3 m4; clear b6)))
        go_ret
        exact ⟨by first | (rw [← HE.out]; rfl) | (rw [← HE.out, decide_eq_true (by omega : (0 : Int) ≤ I)]; rfl) | (rw [← HE.out, decide_eq_false (by omega : ¬ (0 : Int) ≤ I)]; rfl), HB⟩
    · skip
      go_enter Tryz.func72, Tryz.ntmps72
      go_wp2_with (first
        | (go_at_call 61; ((with_reducible refine (nmay_any n.nm _ _ T1 HM.out).mono ?_); rintro e' w3 ⟨rfl, b3⟩; have S1 := S1.next b3; have T1 := T1.next b3; have A1 := (A1.below b3).mono_ (Below.size b3); have B1 := B1.below b3 B1.lt; have B2 := B2.below b3 B2.lt; have HB := btr HB HB.size b3; (try clear k0 k1 k2 k3 k4 m0 m1 m2 m3 m4); have k0 := B1.cell_ 0; have k1 := B1.cell_ 1; have k2 := B1.cell_ 2; have k3 := B1.cell_ 3; have k4 := B1.cell_ 4; have m0 := B2.cell_ 0; have m1 := B2.cell_ 1; have m2 := B2.cell_ 2; have m3 := B2.cell_ 3; have m4 := B2.cell_ 4; simp at k0 k1 k2 k3 k4 m0 m1 m2 m3 m4; clear b3))
        | (go_at_call 52; ((with_reducible refine (pBook_any s _ n.bk _ S1).mono ?_); rintro e' w4 ⟨rfl, b4⟩; rw [HI.out]; have S1 := S1.next b4; have T1 := T1.next b4; have A1 := (A1.below b4).mono_ (Below.size b4); have B1 := B1.below b4 B1.lt; have B2 := B2.below b4 B2.lt; have HB := btr HB HB.size b4; (try clear k0 k1 k2 k3 k4 m0 m1 m2 m3 m4); have k0 := B1.cell_ 0; have k1 := B1.cell_ 1; have k2 := B1.cell_ 2; have k3 := B1.cell_ 3; have k4 := B1.cell_ 4; have m0 := B2.cell_ 0; have m1 := B2.cell_ 1; have m2 := B2.cell_ 2; have m3 := B2.cell_ 3; have m4 := B2.cell_ 4; simp at k0 k1 k2 k3 k4 m0 m1 m2 m3 m4; clear b4))
        | (go_at_call 69; ((with_reducible refine (nTaken_any s _ n.bk n.nm n.id _ S1 _ HK.out).mono ?_); rintro e' w5 ⟨rfl, b5⟩; have S1 := S1.next b5; have T1 := T1.next b5; have A1 := (A1.below b5).mono_ (Below.size b5); have B1 := B1.below b5 B1.lt; have B2 := B2.below b5 B2.lt; have HB := btr HB HB.size b5; (try clear k0 k1 k2 k3 k4 m0 m1 m2 m3 m4); have k0 := B1.cell_ 0; have k1 := B1.cell_ 1; have k2 := B1.cell_ 2; have k3 := B1.cell_ 3; have k4 := B1.cell_ 4; have m0 := B2.cell_ 0; have m1 := B2.cell_ 1; have m2 := B2.cell_ 2; have m3 := B2.cell_ 3; have m4 := B2.cell_ 4; simp at k0 k1 k2 k3 k4 m0 m1 m2 m3 m4; clear b5))
        | (go_at_call 95; ((with_reducible refine (mayTags_any n.tg _ _ _ A1 htc htm T1 _ HG.out).mono ?_); rintro e' w6 ⟨rfl, b6⟩; have S1 := S1.next b6; have T1 := T1.next b6; have A1 := (A1.below b6).mono_ (Below.size b6); have B1 := B1.below b6 B1.lt; have B2 := B2.below b6 B2.lt; have HB := btr HB HB.size b6; (try clear k0 k1 k2 k3 k4 m0 m1 m2 m3 m4); have k0 := B1.cell_ 0; have k1 := B1.cell_ 1; have k2 := B1.cell_ 2; have k3 := B1.cell_ 3; have k4 := B1.cell_ 4; have m0 := B2.cell_ 0; have m1 := B2.cell_ 1; have m2 := B2.cell_ 2; have m3 := B2.cell_ 3; have m4 := B2.cell_ 4; simp at k0 k1 k2 k3 k4 m0 m1 m2 m3 m4; clear b6)))
      go_ret
      exact ⟨by first | (rw [← HE.out]; rfl) | (rw [← HE.out, decide_eq_true (by omega : (0 : Int) ≤ I)]; rfl) | (rw [← HE.out, decide_eq_false (by omega : ¬ (0 : Int) ≤ I)]; rfl), HB⟩
end Go.Proofs.YtokhapafpjejaaaGreatDoor
namespace Go.Proofs.YtokhapafpjejaaaGreatDoor
open Go.ChangeShapes Go.WideShapes Go.ChangeAt Go.RowKit
attribute [local go_sem ↓] Go.wp_at_zero Go.wp_at_succ
theorem books_next {s : Sf} {bf : Int} {l : List Bk} {k : Nat} {b : Bk} (h : l[k]? = some b) : booksFrom s bf (l.drop k) = (inI b.id (bf + 1) (s.nb - 1) && (mayN b.nm && (!bookTk s b.nm b.id && booksFrom s b.id (l.drop (k + 1))))) := by
  rw [drop_next h]
  rfl
theorem notes_next {s : Sf} {bf : Int} {l : List Nt} {k : Nat} {b : Nt} (h : l[k]? = some b) : notesFrom s bf (l.drop k) = (inI b.id (bf + 1) (s.nn - 1) && (mayNt s b && notesFrom s b.id (l.drop (k + 1)))) := by
  rw [drop_next h]
  rfl
theorem inI_bd {x lo hi : Int} (h : inI x lo hi = true) : lo ≤ x ∧ x ≤ hi := by
  simpa [inI] using h
theorem mayNote_at (s : Sf) (v : Value) (n : Nt) (At : Option Addr) (ct : Nat) (As : Option Addr) (cs : Nat) (w : World) (hS : ShR w w.heap.size v s) (hN0 : NtIn w w.heap.size n (ntC n (.slice At n.tg.length ct) (.slice As n.sh.length cs))) (hT : Tabs w) (T : Bool) (hB0 : mayNt s n = T) :
    Calls Tryz.prog 72 #[v, .agg #[.int .i64 n.id, .int .i64 n.bk, .string n.nm, .slice At n.tg.length ct, .slice As n.sh.length cs]] w fun e' w' => e' = .returned (.bool T) ∧ Below w.heap.size w w' := mayNote_any s v n _ w hS hN0 hT T hB0
theorem mayBooks_any (s : Sf) (v : Value) (w : World) (hS : ShR w w.heap.size v s) (hT : Tabs w) (h1 : 1 ≤ s.nb) (h2 : s.nb ≤ 65536) (T : Bool) (hT0 : (decide (s.bs.length ≤ 6) && booksFrom s 0 s.bs) = T) :
    Calls Tryz.prog 44 #[v] w fun e' w' => e' = .returned (.bool T) ∧ Below w.heap.size w w' := by
  have hS0 := hS
  obtain ⟨Ab, cb, An, cn, rfl, hB, hN, hcb, hmb, hcn, hmn⟩ := hS.ex
  clear hS
  obtain ⟨n, hn⟩ : ∃ n, s.bs.length = n := ⟨_, rfl⟩
  rw [hn] at hT0
  have HB : Below w.heap.size w (w.alloc (.cells #[.int .i64 s.nb, .int .i64 s.nn, .int .i64 s.ns, .slice Ab s.bs.length cb, .slice An s.ts.length cn] 25)) := ((Below.refl w.heap.size w).alloc (by first | (simp; done) | (simp; omega)) _)
  have B1 : Blk (w.alloc (.cells #[.int .i64 s.nb, .int .i64 s.nn, .int .i64 s.ns, .slice Ab s.bs.length cb, .slice An s.ts.length cn] 25)) w.heap.size 25 #[.int .i64 s.nb, .int .i64 s.nn, .int .i64 s.ns, .slice Ab s.bs.length cb, .slice An s.ts.length cn] := Blk.new_ w 25 #[.int .i64 s.nb, .int .i64 s.nn, .int .i64 s.ns, .slice Ab s.bs.length cb, .slice An s.ts.length cn]
  rw [hn] at hS0 B1 HB ⊢
  have HT := Lib.hid hT
  have HN := Lib.hid hn
  clear hn hT
  by_cases h4 : n ≤ 6
  · rw [decide_eq_true h4, Bool.true_and] at hT0
    have HTG : Hid (booksFrom s 0 (s.bs.drop 0) = T) := Lib.hid (by rw [List.drop_zero]; exact hT0)
    clear hT0
    go_enter Tryz.func44, Tryz.ntmps44
    go_wp2_with fail
    go_loopw [3, 13] (fun bv i wr => ∃ (k : Nat) (bf : Int), k ≤ n ∧ i = .int .i64 k ∧ bv = .int .i64 bf ∧ 0 ≤ bf ∧ bf ≤ 65535 ∧ Hid (booksFrom s bf (s.bs.drop k) = T) ∧ Below w.heap.size w wr ∧ Blk wr w.heap.size 25 #[.int .i64 s.nb, .int .i64 s.nn, .int .i64 s.ns, .slice Ab n cb, .slice An s.ts.length cn]) (fun _ i _ => n - (intOf i).toNat)
    case atStart => exact ⟨0, 0, by omega, rfl, rfl, by omega, by omega, HTG, HB, B1⟩
    case round =>
      obtain ⟨k, bf, hk, rfl, rfl, f0, f1, HK, HBr, Br⟩ := hrel
      clear HTG HB B1
      have B1 := Br
      clear Br
      have T1 := HT.out.next HBr
      have S1 := hS0.next HBr
      have k0 := B1.cell_ 0
      have k1 := B1.cell_ 1
      have k2 := B1.cell_ 2
      have k3 := B1.cell_ 3
      have k4 := B1.cell_ 4
      simp at k0 k1 k2 k3 k4
      by_cases hlt : k < n
      · have hlx : k < s.bs.length := by have := HN.out; omega
        have i0 : (0 : Int) ≤ (k : Int) := by omega
        have i1 : (k : Int) < (n : Int) := by omega
        obtain ⟨x, hx⟩ : ∃ x, s.bs[k]? = some x := ⟨_, List.getElem?_eq_getElem hlx⟩
        obtain ⟨b1, o1, rfl, l1, q1⟩ := SlE.at_ hB (by rw [List.length_map]; omega)
        have he : (s.bs.map bkC)[k]? = some (bkC x) := by rw [List.getElem?_map, hx]; rfl
        have y0 : wr.cell? ⟨b1, o1 + k * 2 + 0, none⟩ = some (.int .i64 x.id) := (HBr.cell (p := ⟨b1, _, none⟩) l1).trans (q1 k _ he 0 _ rfl)
        have y1 : wr.cell? ⟨b1, o1 + k * 2 + 1, none⟩ = some (.string x.nm) := (HBr.cell (p := ⟨b1, _, none⟩) l1).trans (q1 k _ he 1 _ rfl)
        simp only [Nat.add_zero] at y0
        have a1 : Below wr.heap.size wr (wr.alloc (.cells #[.int .i64 x.id, .string x.nm] 59)) := (Below.refl _ _).alloc (Nat.le_refl _) _
        have B2 : Blk (wr.alloc (.cells #[.int .i64 x.id, .string x.nm] 59)) wr.heap.size 59 #[.int .i64 x.id, .string x.nm] := Blk.new_ _ _ _
        have S1 := S1.next a1
        have T1 := T1.next a1
        have B1 := B1.below a1 B1.lt
        have HBr := btr HBr HBr.size a1
        clear a1 k0 k1 k2 k3 k4
        have ht := books_next hx (s := s) (bf := bf)
        rw [HK.out] at ht
        obtain ⟨R, hR⟩ : ∃ R, inI x.id (bf + 1) (s.nb - 1) = R := ⟨_, rfl⟩
        have HR := Lib.hid hR
        rw [hR] at ht
        obtain ⟨M, hM⟩ : ∃ M, mayN x.nm = M := ⟨_, rfl⟩
        have HM : Hid (nameB x.nm.data.toList = M) := Lib.hid hM
        obtain ⟨K, hK⟩ : ∃ K, bookTk s x.nm x.id = K := ⟨_, rfl⟩
        have HK2 := Lib.hid hK
        rw [hM, hK] at ht
        have HTT := Lib.hid ht
        clear ht hR hM hK q1 he hx hlx
        have k0 := B1.cell_ 0; have k1 := B1.cell_ 1; have k2 := B1.cell_ 2; have k3 := B1.cell_ 3; have k4 := B1.cell_ 4; have m0 := B2.cell_ 0; have m1 := B2.cell_ 1; simp at k0 k1 k2 k3 k4 m0 m1
        cases R
        · skip
          go_wp2_with (first | (go_at_call 43; ((with_reducible refine (within_any _ _ _ _ _ HR.out).mono ?_); rintro e' w3 ⟨rfl, rfl⟩)) | (go_at_call 61; ((with_reducible refine (nmay_any x.nm _ _ T1 HM.out).mono ?_); rintro e' w4 ⟨rfl, b4⟩; have S1 := S1.next b4; have T1 := T1.next b4; have B1 := B1.below b4 B1.lt; have B2 := B2.below b4 B2.lt; have HBr := btr HBr HBr.size b4; (try clear k0 k1 k2 k3 k4 m0 m1); have k0 := B1.cell_ 0; have k1 := B1.cell_ 1; have k2 := B1.cell_ 2; have k3 := B1.cell_ 3; have k4 := B1.cell_ 4; have m0 := B2.cell_ 0; have m1 := B2.cell_ 1; simp at k0 k1 k2 k3 k4 m0 m1; clear b4)) | (go_at_call 62; ((with_reducible refine (bTaken_any s _ x.nm x.id _ S1 _ HK2.out).mono ?_); rintro e' w5 ⟨rfl, b5⟩; have S1 := S1.next b5; have T1 := T1.next b5; have B1 := B1.below b5 B1.lt; have B2 := B2.below b5 B2.lt; have HBr := btr HBr HBr.size b5; (try clear k0 k1 k2 k3 k4 m0 m1); have k0 := B1.cell_ 0; have k1 := B1.cell_ 1; have k2 := B1.cell_ 2; have k3 := B1.cell_ 3; have k4 := B1.cell_ 4; have m0 := B2.cell_ 0; have m1 := B2.cell_ 1; simp at k0 k1 k2 k3 k4 m0 m1; clear b5)))
          go_ret
          exact ⟨by rw [HTT.out]; rfl, HBr⟩
        · cases M
          · skip
            go_wp2_with (first | (go_at_call 43; ((with_reducible refine (within_any _ _ _ _ _ HR.out).mono ?_); rintro e' w3 ⟨rfl, rfl⟩)) | (go_at_call 61; ((with_reducible refine (nmay_any x.nm _ _ T1 HM.out).mono ?_); rintro e' w4 ⟨rfl, b4⟩; have S1 := S1.next b4; have T1 := T1.next b4; have B1 := B1.below b4 B1.lt; have B2 := B2.below b4 B2.lt; have HBr := btr HBr HBr.size b4; (try clear k0 k1 k2 k3 k4 m0 m1); have k0 := B1.cell_ 0; have k1 := B1.cell_ 1; have k2 := B1.cell_ 2; have k3 := B1.cell_ 3; have k4 := B1.cell_ 4; have m0 := B2.cell_ 0; have m1 := B2.cell_ 1; simp at k0 k1 k2 k3 k4 m0 m1; clear b4)) | (go_at_call 62; ((with_reducible refine (bTaken_any s _ x.nm x.id _ S1 _ HK2.out).mono ?_); rintro e' w5 ⟨rfl, b5⟩; have S1 := S1.next b5; have T1 := T1.next b5; have B1 := B1.below b5 B1.lt; have B2 := B2.below b5 B2.lt; have HBr := btr HBr HBr.size b5; (try clear k0 k1 k2 k3 k4 m0 m1); have k0 := B1.cell_ 0; have k1 := B1.cell_ 1; have k2 := B1.cell_ 2; have k3 := B1.cell_ 3; have k4 := B1.cell_ 4; have m0 := B2.cell_ 0; have m1 := B2.cell_ 1; simp at k0 k1 k2 k3 k4 m0 m1; clear b5)))
            go_ret
            exact ⟨by rw [HTT.out]; rfl, HBr⟩
          · cases K
            · skip
              have hr := inI_bd HR.out
              have g0 := hr.1
              have g1 := hr.2
              clear hr
              go_wp2_with (first | (go_at_call 43; ((with_reducible refine (within_any _ _ _ _ _ HR.out).mono ?_); rintro e' w3 ⟨rfl, rfl⟩)) | (go_at_call 61; ((with_reducible refine (nmay_any x.nm _ _ T1 HM.out).mono ?_); rintro e' w4 ⟨rfl, b4⟩; have S1 := S1.next b4; have T1 := T1.next b4; have B1 := B1.below b4 B1.lt; have B2 := B2.below b4 B2.lt; have HBr := btr HBr HBr.size b4; (try clear k0 k1 k2 k3 k4 m0 m1); have k0 := B1.cell_ 0; have k1 := B1.cell_ 1; have k2 := B1.cell_ 2; have k3 := B1.cell_ 3; have k4 := B1.cell_ 4; have m0 := B2.cell_ 0; have m1 := B2.cell_ 1; simp at k0 k1 k2 k3 k4 m0 m1; clear b4)) | (go_at_call 62; ((with_reducible refine (bTaken_any s _ x.nm x.id _ S1 _ HK2.out).mono ?_); rintro e' w5 ⟨rfl, b5⟩; have S1 := S1.next b5; have T1 := T1.next b5; have B1 := B1.below b5 B1.lt; have B2 := B2.below b5 B2.lt; have HBr := btr HBr HBr.size b5; (try clear k0 k1 k2 k3 k4 m0 m1); have k0 := B1.cell_ 0; have k1 := B1.cell_ 1; have k2 := B1.cell_ 2; have k3 := B1.cell_ 3; have k4 := B1.cell_ 4; have m0 := B2.cell_ 0; have m1 := B2.cell_ 1; simp at k0 k1 k2 k3 k4 m0 m1; clear b5)))
              go_roundw
              case rel => exact ⟨k + 1, x.id, by omega, by go_num, rfl, by omega, by omega, Lib.hid (by rw [HTT.out]; rfl), HBr, B1⟩
              case measure => simp [intOf]; omega
            · skip
              go_wp2_with (first | (go_at_call 43; ((with_reducible refine (within_any _ _ _ _ _ HR.out).mono ?_); rintro e' w3 ⟨rfl, rfl⟩)) | (go_at_call 61; ((with_reducible refine (nmay_any x.nm _ _ T1 HM.out).mono ?_); rintro e' w4 ⟨rfl, b4⟩; have S1 := S1.next b4; have T1 := T1.next b4; have B1 := B1.below b4 B1.lt; have B2 := B2.below b4 B2.lt; have HBr := btr HBr HBr.size b4; (try clear k0 k1 k2 k3 k4 m0 m1); have k0 := B1.cell_ 0; have k1 := B1.cell_ 1; have k2 := B1.cell_ 2; have k3 := B1.cell_ 3; have k4 := B1.cell_ 4; have m0 := B2.cell_ 0; have m1 := B2.cell_ 1; simp at k0 k1 k2 k3 k4 m0 m1; clear b4)) | (go_at_call 62; ((with_reducible refine (bTaken_any s _ x.nm x.id _ S1 _ HK2.out).mono ?_); rintro e' w5 ⟨rfl, b5⟩; have S1 := S1.next b5; have T1 := T1.next b5; have B1 := B1.below b5 B1.lt; have B2 := B2.below b5 B2.lt; have HBr := btr HBr HBr.size b5; (try clear k0 k1 k2 k3 k4 m0 m1); have k0 := B1.cell_ 0; have k1 := B1.cell_ 1; have k2 := B1.cell_ 2; have k3 := B1.cell_ 3; have k4 := B1.cell_ 4; have m0 := B2.cell_ 0; have m1 := B2.cell_ 1; simp at k0 k1 k2 k3 k4 m0 m1; clear b5)))
              go_ret
              exact ⟨by rw [HTT.out]; rfl, HBr⟩
      · have hjn : k = n := by omega
        subst hjn
        have ht := HK.out
        rw [← HN.out, List.drop_length] at ht
        have HTT := Lib.hid ht
        clear hlt ht
        go_wp2_with fail
        go_ret
        exact ⟨by rw [← HTT.out]; rfl, HBr⟩
  · rw [decide_eq_false h4, Bool.false_and] at hT0
    subst hT0
    have q4 : (6 : Int) < (n : Int) := by omega
    clear h4 hS0
    go_enter Tryz.func44, Tryz.ntmps44
    go_wp2
    go_ret
    exact ⟨rfl, HB⟩
theorem mayNotes_any (s : Sf) (v : Value) (w : World) (hS : ShR w w.heap.size v s) (hT : Tabs w) (h1 : 1 ≤ s.nn) (h2 : s.nn ≤ 65536) (T : Bool) (hT0 : (decide (s.ts.length ≤ 12) && notesFrom s 0 s.ts) = T) :
    Calls Tryz.prog 45 #[v] w fun e' w' => e' = .returned (.bool T) ∧ Below w.heap.size w w' := by
  have hS0 := hS
  obtain ⟨Ab, cb, An, cn, rfl, hB, hN, hcb, hmb, hcn, hmn⟩ := hS.ex
  clear hS
  obtain ⟨n, hn⟩ : ∃ n, s.ts.length = n := ⟨_, rfl⟩
  rw [hn] at hT0
  have HB : Below w.heap.size w (w.alloc (.cells #[.int .i64 s.nb, .int .i64 s.nn, .int .i64 s.ns, .slice Ab s.bs.length cb, .slice An s.ts.length cn] 25)) := ((Below.refl w.heap.size w).alloc (by first | (simp; done) | (simp; omega)) _)
  have B1 : Blk (w.alloc (.cells #[.int .i64 s.nb, .int .i64 s.nn, .int .i64 s.ns, .slice Ab s.bs.length cb, .slice An s.ts.length cn] 25)) w.heap.size 25 #[.int .i64 s.nb, .int .i64 s.nn, .int .i64 s.ns, .slice Ab s.bs.length cb, .slice An s.ts.length cn] := Blk.new_ w 25 #[.int .i64 s.nb, .int .i64 s.nn, .int .i64 s.ns, .slice Ab s.bs.length cb, .slice An s.ts.length cn]
  rw [hn] at hS0 B1 HB ⊢
  have HT := Lib.hid hT
  have HN := Lib.hid hn
  clear hn hT
  by_cases h4 : n ≤ 12
  · rw [decide_eq_true h4, Bool.true_and] at hT0
    have HTG : Hid (notesFrom s 0 (s.ts.drop 0) = T) := Lib.hid (by rw [List.drop_zero]; exact hT0)
    clear hT0
    obtain ⟨es, hel, hse, hnt⟩ := hN.ex
    go_enter Tryz.func45, Tryz.ntmps45
    go_wp2_with fail
    go_loopw [3, 13] (fun bv i wr => ∃ (k : Nat) (bf : Int), k ≤ n ∧ i = .int .i64 k ∧ bv = .int .i64 bf ∧ 0 ≤ bf ∧ bf ≤ 65535 ∧ Hid (notesFrom s bf (s.ts.drop k) = T) ∧ Below w.heap.size w wr ∧ Blk wr w.heap.size 25 #[.int .i64 s.nb, .int .i64 s.nn, .int .i64 s.ns, .slice Ab s.bs.length cb, .slice An n cn]) (fun _ i _ => n - (intOf i).toNat)
    case atStart => exact ⟨0, 0, by omega, rfl, rfl, by omega, by omega, HTG, HB, B1⟩
    case round =>
      obtain ⟨k, bf, hk, rfl, rfl, f0, f1, HK, HBr, Br⟩ := hrel
      clear HTG HB B1
      have B1 := Br
      clear Br
      have T1 := HT.out.next HBr
      have S1 := hS0.next HBr
      have k0 := B1.cell_ 0
      have k1 := B1.cell_ 1
      have k2 := B1.cell_ 2
      have k3 := B1.cell_ 3
      have k4 := B1.cell_ 4
      simp at k0 k1 k2 k3 k4
      by_cases hlt : k < n
      · have hlx : k < s.ts.length := by have := HN.out; omega
        have i0 : (0 : Int) ≤ (k : Int) := by omega
        have i1 : (k : Int) < (n : Int) := by omega
        obtain ⟨x, hx⟩ : ∃ x, s.ts[k]? = some x := ⟨_, List.getElem?_eq_getElem hlx⟩
        obtain ⟨e0, he⟩ : ∃ e, es[k]? = some e := ⟨_, List.getElem?_eq_getElem (by omega)⟩
        have hin := hnt k x e0 hx he
        obtain ⟨At, ct, As, cs, rfl, -⟩ := hin.ex
        obtain ⟨b1, o1, rfl, l1, q1⟩ := hse.at_ (by omega)
        have N1 := (hin.below HBr).mono HBr.size
        have y0 : wr.cell? ⟨b1, o1 + k * 5 + 0, none⟩ = some (.int .i64 x.id) := (HBr.cell (p := ⟨b1, _, none⟩) l1).trans (q1 k _ he 0 _ rfl)
        have y1 : wr.cell? ⟨b1, o1 + k * 5 + 1, none⟩ = some (.int .i64 x.bk) := (HBr.cell (p := ⟨b1, _, none⟩) l1).trans (q1 k _ he 1 _ rfl)
        have y2 : wr.cell? ⟨b1, o1 + k * 5 + 2, none⟩ = some (.string x.nm) := (HBr.cell (p := ⟨b1, _, none⟩) l1).trans (q1 k _ he 2 _ rfl)
        have y3 : wr.cell? ⟨b1, o1 + k * 5 + 3, none⟩ = some (.slice At x.tg.length ct) := (HBr.cell (p := ⟨b1, _, none⟩) l1).trans (q1 k _ he 3 _ rfl)
        have y4 : wr.cell? ⟨b1, o1 + k * 5 + 4, none⟩ = some (.slice As x.sh.length cs) := (HBr.cell (p := ⟨b1, _, none⟩) l1).trans (q1 k _ he 4 _ rfl)
        simp only [Nat.add_zero] at y0
        have a1 : Below wr.heap.size wr (wr.alloc (.cells #[.int .i64 x.id, .int .i64 x.bk, .string x.nm, .slice At x.tg.length ct, .slice As x.sh.length cs] 46)) := (Below.refl _ _).alloc (Nat.le_refl _) _
        have B2 : Blk (wr.alloc (.cells #[.int .i64 x.id, .int .i64 x.bk, .string x.nm, .slice At x.tg.length ct, .slice As x.sh.length cs] 46)) wr.heap.size 46 #[.int .i64 x.id, .int .i64 x.bk, .string x.nm, .slice At x.tg.length ct, .slice As x.sh.length cs] := Blk.new_ _ _ _
        have S1 := S1.next a1
        have T1 := T1.next a1
        have B1 := B1.below a1 B1.lt
        have HBr := btr HBr HBr.size a1
        have N1 := (N1.below a1).mono a1.size
        clear a1 k0 k1 k2 k3 k4
        have ht := notes_next hx (s := s) (bf := bf)
        rw [HK.out] at ht
        obtain ⟨R, hR⟩ : ∃ R, inI x.id (bf + 1) (s.nn - 1) = R := ⟨_, rfl⟩
        have HR := Lib.hid hR
        rw [hR] at ht
        obtain ⟨M, hM⟩ : ∃ M, mayNt s x = M := ⟨_, rfl⟩
        have HM := Lib.hid hM
        rw [hM] at ht
        have HX := Lib.hid hx
        have HTT := Lib.hid ht
        clear ht hR hM q1 he hx hlx
        have k0 := B1.cell_ 0; have k1 := B1.cell_ 1; have k2 := B1.cell_ 2; have k3 := B1.cell_ 3; have k4 := B1.cell_ 4; have m0 := B2.cell_ 0; have m1 := B2.cell_ 1; have m2 := B2.cell_ 2; have m3 := B2.cell_ 3; have m4 := B2.cell_ 4; simp at k0 k1 k2 k3 k4 m0 m1 m2 m3 m4
        cases R
        · skip
          go_wp2_with (first | (go_at_call 43; ((with_reducible refine (within_any _ _ _ _ _ HR.out).mono ?_); rintro e' w3 ⟨rfl, rfl⟩)) | (go_at_call 72; ((with_reducible refine (mayNote_at s _ x At ct As cs _ S1 N1 T1 _ HM.out).mono ?_); rintro e' w4 ⟨rfl, b4⟩; have S1 := S1.next b4; have T1 := T1.next b4; have B1 := B1.below b4 B1.lt; have B2 := B2.below b4 B2.lt; have HBr := btr HBr HBr.size b4; (try clear k0 k1 k2 k3 k4 m0 m1 m2 m3 m4); have k0 := B1.cell_ 0; have k1 := B1.cell_ 1; have k2 := B1.cell_ 2; have k3 := B1.cell_ 3; have k4 := B1.cell_ 4; have m0 := B2.cell_ 0; have m1 := B2.cell_ 1; have m2 := B2.cell_ 2; have m3 := B2.cell_ 3; have m4 := B2.cell_ 4; simp at k0 k1 k2 k3 k4 m0 m1 m2 m3 m4; clear b4)))
          go_ret
          exact ⟨by rw [HTT.out]; rfl, HBr⟩
        · cases M
          · skip
            go_wp2_with (first | (go_at_call 43; ((with_reducible refine (within_any _ _ _ _ _ HR.out).mono ?_); rintro e' w3 ⟨rfl, rfl⟩)) | (go_at_call 72; ((with_reducible refine (mayNote_at s _ x At ct As cs _ S1 N1 T1 _ HM.out).mono ?_); rintro e' w4 ⟨rfl, b4⟩; have S1 := S1.next b4; have T1 := T1.next b4; have B1 := B1.below b4 B1.lt; have B2 := B2.below b4 B2.lt; have HBr := btr HBr HBr.size b4; (try clear k0 k1 k2 k3 k4 m0 m1 m2 m3 m4); have k0 := B1.cell_ 0; have k1 := B1.cell_ 1; have k2 := B1.cell_ 2; have k3 := B1.cell_ 3; have k4 := B1.cell_ 4; have m0 := B2.cell_ 0; have m1 := B2.cell_ 1; have m2 := B2.cell_ 2; have m3 := B2.cell_ 3; have m4 := B2.cell_ 4; simp at k0 k1 k2 k3 k4 m0 m1 m2 m3 m4; clear b4)))
            go_ret
            exact ⟨by rw [HTT.out]; rfl, HBr⟩
          · skip
            have hr := inI_bd HR.out
            have g0 := hr.1
            have g1 := hr.2
            clear hr
            go_wp2_with (first | (go_at_call 43; ((with_reducible refine (within_any _ _ _ _ _ HR.out).mono ?_); rintro e' w3 ⟨rfl, rfl⟩)) | (go_at_call 72; ((with_reducible refine (mayNote_at s _ x At ct As cs _ S1 N1 T1 _ HM.out).mono ?_); rintro e' w4 ⟨rfl, b4⟩; have S1 := S1.next b4; have T1 := T1.next b4; have B1 := B1.below b4 B1.lt; have B2 := B2.below b4 B2.lt; have HBr := btr HBr HBr.size b4; (try clear k0 k1 k2 k3 k4 m0 m1 m2 m3 m4); have k0 := B1.cell_ 0; have k1 := B1.cell_ 1; have k2 := B1.cell_ 2; have k3 := B1.cell_ 3; have k4 := B1.cell_ 4; have m0 := B2.cell_ 0; have m1 := B2.cell_ 1; have m2 := B2.cell_ 2; have m3 := B2.cell_ 3; have m4 := B2.cell_ 4; simp at k0 k1 k2 k3 k4 m0 m1 m2 m3 m4; clear b4)))
            go_roundw
            case rel => exact ⟨k + 1, x.id, by omega, by go_num, rfl, by omega, by omega, Lib.hid (by rw [HTT.out]; rfl), HBr, B1⟩
            case measure => simp [intOf]; omega
      · have hjn : k = n := by omega
        subst hjn
        have ht := HK.out
        rw [← HN.out, List.drop_length] at ht
        have HTT := Lib.hid ht
        clear hlt ht
        go_wp2_with fail
        go_ret
        exact ⟨by rw [← HTT.out]; rfl, HBr⟩
  · rw [decide_eq_false h4, Bool.false_and] at hT0
    subst hT0
    have q4 : (12 : Int) < (n : Int) := by omega
    clear h4 hS0
    go_enter Tryz.func45, Tryz.ntmps45
    go_wp2
    go_ret
    exact ⟨rfl, HB⟩
end Go.Proofs.YtokhapafpjejaaaGreatDoor
namespace Go.Proofs.YtokhapafpjejaaaGreatDoor
open Go.ChangeShapes Go.WideShapes Go.ChangeAt Go.RowKit
attribute [local go_sem ↓] Go.wp_at_zero Go.wp_at_succ
theorem own_cur {w : World} {base g n : Nat} {e : TypeId} {xs : List Value} (h : w.ownsRow base e 1 (.slice (some ⟨g, 0, none⟩) n n) n xs) : w.heap[g]? = some (.cells xs.toArray e (0, 0)) := by
  obtain ⟨hl, h⟩ := h
  rcases h with ⟨h0, _⟩ | ⟨g', cap, cur, hv, _, hh, hnc, _, hsz, ht⟩
  · cases h0
  · cases hv
    have : cur = xs.toArray := by
      rw [← ht]
      have hl2 : cur.toList.length = n * 1 := by simpa using hsz
      rw [List.take_of_length_le (by omega)]
    rw [← this]
    exact hh
theorem infoBool : (Tryz.prog.info? 4).map (fun i => (i.zero, i.size, i.bytes)) = some (some (.bool false), 1, 1) := by kernel_rfl
def takV (n : Nat) (seen : List Int) : Array Value := ((List.range n).map fun (i : Nat) => Value.bool (seen.contains (i : Int))).toArray
theorem takV_get (n : Nat) (seen : List Int) (k : Nat) (h : k < n) : (takV n seen)[k]? = some (.bool (seen.contains (k : Int))) := by
  unfold takV
  rw [List.getElem?_toArray, List.getElem?_map, List.getElem?_range h]
  rfl
theorem takV_nil (n : Nat) : (List.replicate n (Value.bool false)).toArray = takV n [] := by
  apply Array.ext_getElem?
  intro i
  by_cases hi : i < n
  · rw [takV_get _ _ _ hi, List.getElem?_toArray, List.getElem?_replicate, if_pos hi]
    rfl
  · rw [Array.getElem?_eq_none (by simp; omega), Array.getElem?_eq_none (by simp [takV]; omega)]
theorem takV_set (n : Nat) (seen : List Int) (k : Nat) (h : k < n) : (takV n seen).setIfInBounds k (.bool true) = takV n ((k : Int) :: seen) := by
  apply Array.ext_getElem?
  intro i
  rw [Array.getElem?_setIfInBounds]
  have hs : (takV n seen).size = n := by simp [takV]
  by_cases hik : k = i
  · subst hik
    rw [if_pos rfl, if_pos (by omega), takV_get _ _ _ h]
    simp
  · rw [if_neg hik]
    by_cases hi : i < n
    · rw [takV_get _ _ _ hi, takV_get _ _ _ hi, List.contains_cons]
      have : ((i : Int) == (k : Int)) = false := by
        simp only [beq_eq_false_iff_ne, ne_eq]
        omega
      rw [this, Bool.false_or]
    · rw [Array.getElem?_eq_none (by omega), Array.getElem?_eq_none (by simp [takV]; omega)]
theorem sh_next {ns : Int} {seen : List Int} {l : List Int} {j : Nat} {y : Int} {r : List Nt} (h : l[j]? = some y) : (sheetsIn ns seen (l.drop j) && sheetsFrom ns ((l.drop j).reverse ++ seen) r) = (inI y 1 (ns - 1) && (!seen.contains y && (sheetsIn ns (y :: seen) (l.drop (j + 1)) && sheetsFrom ns ((l.drop (j + 1)).reverse ++ (y :: seen)) r))) := by
  rw [drop_next h]
  have e : (y :: l.drop (j + 1)).reverse ++ seen = (l.drop (j + 1)).reverse ++ (y :: seen) := by simp
  rw [e]
  show ((inI y 1 (ns - 1) && (!seen.contains y && sheetsIn ns (y :: seen) (l.drop (j + 1)))) && _) = _
  rw [Bool.and_assoc, Bool.and_assoc]
theorem sh_end {ns : Int} {seen : List Int} {l : List Int} {r : List Nt} : (sheetsIn ns seen (l.drop l.length) && sheetsFrom ns ((l.drop l.length).reverse ++ seen) r) = sheetsFrom ns seen r := by
  rw [List.drop_length]
  rfl
theorem shs_next {ns : Int} {seen : List Int} {l : List Nt} {k : Nat} {x : Nt} (h : l[k]? = some x) : sheetsFrom ns seen (l.drop k) = (decide (x.sh.length ≤ 8) && (sheetsIn ns seen (x.sh.drop 0) && sheetsFrom ns ((x.sh.drop 0).reverse ++ seen) (l.drop (k + 1)))) := by
  rw [drop_next h]
  rfl
theorem maySheets_any (s : Sf) (v : Value) (w : World) (hS : ShR w w.heap.size v s) (h1 : 1 ≤ s.ns) (h2 : s.ns ≤ 4096) (T : Bool) (hT0 : sheetsFrom s.ns [] s.ts = T) :
    Calls Tryz.prog 46 #[v] w fun e' w' => e' = .returned (.bool T) ∧ Below w.heap.size w w' := by
  obtain ⟨Ab, cb, An, cn, rfl, hB, hN, hcb, hmb, hcn, hmn⟩ := hS.ex
  clear hS
  obtain ⟨m, hm⟩ : ∃ m, s.ts.length = m := ⟨_, rfl⟩
  obtain ⟨N, hNs⟩ : ∃ N : Nat, s.ns = (N : Int) := ⟨s.ns.toNat, by omega⟩
  have n1 : 1 ≤ N := by omega
  have n2 : N ≤ 4096 := by omega
  have HB : Below w.heap.size w (w.alloc (.cells #[.int .i64 s.nb, .int .i64 s.nn, .int .i64 s.ns, .slice Ab s.bs.length cb, .slice An s.ts.length cn] 25)) := ((Below.refl w.heap.size w).alloc (by first | (simp; done) | (simp; omega)) _)
  have B1 : Blk (w.alloc (.cells #[.int .i64 s.nb, .int .i64 s.nn, .int .i64 s.ns, .slice Ab s.bs.length cb, .slice An s.ts.length cn] 25)) w.heap.size 25 #[.int .i64 s.nb, .int .i64 s.nn, .int .i64 s.ns, .slice Ab s.bs.length cb, .slice An s.ts.length cn] := Blk.new_ w 25 #[.int .i64 s.nb, .int .i64 s.nn, .int .i64 s.ns, .slice Ab s.bs.length cb, .slice An s.ts.length cn]
  rw [hm] at B1 HB hcn ⊢
  rw [hNs] at B1 HB h1 h2 hT0 ⊢
  have m9 : m ≤ 9223372036854775807 := by
    have h0 : cn ≤ maxLen := hmn
    unfold maxLen at h0
    omega
  have HM := Lib.hid hm
  have HTG : Hid (sheetsFrom (N : Int) [] (s.ts.drop 0) = T) := Lib.hid (by rw [List.drop_zero]; exact hT0)
  have HNS := Lib.hid hNs
  obtain ⟨es, hel, hse, hnt⟩ := hN.ex
  have HEL := Lib.hid hel
  clear hT0 hm hNs hel
  have i0 : (0 : Int) ≤ (N : Int) := by omega
  have i1 : (N : Int) ≤ 4096 := by omega
  go_enter Tryz.func46, Tryz.ntmps46
  go_upto_region 2 with (at_make; obtain ⟨ti0, hi, hz0, hz1, hz2⟩ := info_parts infoBool; refine wpList_make_full _ rfl _ _ 96 rfl (w.heap.size + 1) 4 ti0 (.bool false) 1 Tryz.underlying96 hi hz0 hz1 _ _ _ _ N rfl rfl rfl rfl (by rw [hz2]; omega) (by unfold maxLen; omega) (by simp) ?_; intro w1 hown1 hgrow1; clear hi hz0 hz1 hz2)
  have hsz : ((w.alloc (.cells #[.int .i64 s.nb, .int .i64 s.nn, .int .i64 (N : Int), .slice Ab s.bs.length cb, .slice An m cn] 25))).heap.size = w.heap.size + 1 := by simp
  have hcur := own_cur hown1
  rw [hsz] at hcur
  rw [show (madeCells (Value.bool false).cells (N * 1)).toList = List.replicate (N * 1) (Value.bool false) from toList_madeCells_one _ _, Nat.mul_one, takV_nil] at hcur
  have hb1 : Below (w.heap.size + 1) ((w.alloc (.cells #[.int .i64 s.nb, .int .i64 s.nn, .int .i64 (N : Int), .slice Ab s.bs.length cb, .slice An m cn] 25))) w1 := (Below.refl _ _).grown hgrow1 (by simp) (fun j hj => by cases hj)
  have HB1 : Below w.heap.size w w1 := HB.trans (hb1.mono (by omega))
  have B1' := B1.below hb1 (by omega)
  have R1 : Blk w1 (w.heap.size + 1) 4 (takV N []) := hcur
  clear hcur hown1 hgrow1 hb1 B1 HB
  have B1 := B1'
  clear B1'
  have k0 := B1.cell_ 0
  have k1 := B1.cell_ 1
  have k2 := B1.cell_ 2
  have k3 := B1.cell_ 3
  have k4 := B1.cell_ 4
  simp at k0 k1 k2 k3 k4
  go_wp2_with fail
  go_loopw [14] (fun i wr => ∃ (k : Nat) (seen : List Int), k ≤ m ∧ i = .int .i64 k ∧ Hid (sheetsFrom (N : Int) seen (s.ts.drop k) = T) ∧ Below w.heap.size w wr ∧ Blk wr w.heap.size 25 #[.int .i64 s.nb, .int .i64 s.nn, .int .i64 (N : Int), .slice Ab s.bs.length cb, .slice An m cn] ∧ Blk wr (w.heap.size + 1) 4 (takV N seen)) (fun i _ => m - (intOf i).toNat)
  case atStart => exact ⟨0, [], by omega, rfl, HTG, HB1, B1, R1⟩
  case round =>
    obtain ⟨k, seen, hk, rfl, HK, HBr, Br, Rr⟩ := hrel
    clear HTG HB1 B1 R1 k0 k1 k2 k3 k4 w1
    have k0 := Br.cell_ 0
    have k1 := Br.cell_ 1
    have k2 := Br.cell_ 2
    have k3 := Br.cell_ 3
    have k4 := Br.cell_ 4
    simp at k0 k1 k2 k3 k4
    by_cases hlt : k < m
    · have hlx : k < s.ts.length := by have := HM.out; omega
      have j0 : (0 : Int) ≤ (k : Int) := by omega
      have j1 : (k : Int) < (m : Int) := by omega
      obtain ⟨x, hx⟩ : ∃ x, s.ts[k]? = some x := ⟨_, List.getElem?_eq_getElem hlx⟩
      obtain ⟨e0, he⟩ : ∃ e, es[k]? = some e := ⟨_, List.getElem?_eq_getElem (by have := HEL.out; omega)⟩
      have hin := hnt k x e0 hx he
      obtain ⟨At, ct, As, cs, rfl, -, hAs, -, -, hsc, hsm⟩ := hin.ex
      obtain ⟨b1, o1, rfl, l1, q1⟩ := hse.at_ (by have := HEL.out; omega)
      have y0 : wr.cell? ⟨b1, o1 + k * 5 + 0, none⟩ = some (.int .i64 x.id) := (HBr.cell (p := ⟨b1, _, none⟩) l1).trans (q1 k _ he 0 _ rfl)
      have y1 : wr.cell? ⟨b1, o1 + k * 5 + 1, none⟩ = some (.int .i64 x.bk) := (HBr.cell (p := ⟨b1, _, none⟩) l1).trans (q1 k _ he 1 _ rfl)
      have y2 : wr.cell? ⟨b1, o1 + k * 5 + 2, none⟩ = some (.string x.nm) := (HBr.cell (p := ⟨b1, _, none⟩) l1).trans (q1 k _ he 2 _ rfl)
      have y3 : wr.cell? ⟨b1, o1 + k * 5 + 3, none⟩ = some (.slice At x.tg.length ct) := (HBr.cell (p := ⟨b1, _, none⟩) l1).trans (q1 k _ he 3 _ rfl)
      have y4 : wr.cell? ⟨b1, o1 + k * 5 + 4, none⟩ = some (.slice As x.sh.length cs) := (HBr.cell (p := ⟨b1, _, none⟩) l1).trans (q1 k _ he 4 _ rfl)
      simp only [Nat.add_zero] at y0
      have a1 : Below wr.heap.size wr (wr.alloc (.cells #[.int .i64 x.id, .int .i64 x.bk, .string x.nm, .slice At x.tg.length ct, .slice As x.sh.length cs] 46)) := (Below.refl _ _).alloc (Nat.le_refl _) _
      have B2 : Blk (wr.alloc (.cells #[.int .i64 x.id, .int .i64 x.bk, .string x.nm, .slice At x.tg.length ct, .slice As x.sh.length cs] 46)) wr.heap.size 46 #[.int .i64 x.id, .int .i64 x.bk, .string x.nm, .slice At x.tg.length ct, .slice As x.sh.length cs] := Blk.new_ _ _ _
      have B1 := Br.below a1 Br.lt
      have R1 := Rr.below a1 Rr.lt
      have HBr := btr HBr HBr.size a1
      have g2 : w.heap.size + 1 < wr.heap.size := Rr.lt
      clear a1 k0 k1 k2 k3 k4 Br Rr
      have k0 := B1.cell_ 0
      have k1 := B1.cell_ 1
      have k2 := B1.cell_ 2
      have k3 := B1.cell_ 3
      have k4 := B1.cell_ 4
      simp at k0 k1 k2 k3 k4
      have ht := shs_next hx (ns := (N : Int)) (seen := seen)
      rw [HK.out] at ht
      obtain ⟨q, hq⟩ : ∃ q, x.sh.length = q := ⟨_, rfl⟩
      have HQ := Lib.hid hq
      rw [hq] at ht hsc B1 R1 HBr B2 y4
      by_cases h8 : q ≤ 8
      · rw [decide_eq_true h8, Bool.true_and] at ht
        have HT0 := Lib.hid ht.symm
        clear ht hq hx he q1 hin
        go_wp2_with fail
        go_loopw [25] (fun i wq => ∃ (j : Nat) (sn : List Int), j ≤ q ∧ i = .int .i64 j ∧ Hid ((sheetsIn (N : Int) sn (x.sh.drop j) && sheetsFrom (N : Int) ((x.sh.drop j).reverse ++ sn) (s.ts.drop (k + 1))) = T) ∧ Below w.heap.size w wq ∧ Blk wq w.heap.size 25 #[.int .i64 s.nb, .int .i64 s.nn, .int .i64 (N : Int), .slice Ab s.bs.length cb, .slice (some ⟨b1, o1, none⟩) m cn] ∧ Blk wq (w.heap.size + 1) 4 (takV N sn)) (fun i _ => q - (intOf i).toNat)
        case atStart => exact ⟨0, seen, by omega, rfl, HT0, HBr, B1, R1⟩
        case round =>
          obtain ⟨j, sn, hj, rfl, HJ, HBq, Bq, Rq⟩ := hrel
          clear HT0 HBr B1 R1 k0 k1 k2 k3 k4 B2
          have k0 := Bq.cell_ 0
          have k1 := Bq.cell_ 1
          have k2 := Bq.cell_ 2
          have k3 := Bq.cell_ 3
          have k4 := Bq.cell_ 4
          simp at k0 k1 k2 k3 k4
          by_cases hlq : j < q
          · have hlj : j < x.sh.length := by have := HQ.out; omega
            have u0 : (0 : Int) ≤ (j : Int) := by omega
            have u1 : (j : Int) < (q : Int) := by omega
            obtain ⟨z, hz⟩ : ∃ z, x.sh[j]? = some z := ⟨_, List.getElem?_eq_getElem hlj⟩
            obtain ⟨b2, o2, rfl, l2, q2⟩ := (hAs.below HBq).at_ (by rw [List.length_map]; omega)
            have cz : wr.cell? ⟨b2, o2 + j, none⟩ = some (.int .i64 z) := q2 j _ (by rw [List.getElem?_map, hz]; rfl)
            have hs := sh_next hz (ns := (N : Int)) (seen := sn) (r := s.ts.drop (k + 1))
            rw [HJ.out] at hs
            obtain ⟨R, hR⟩ : ∃ R, inI z 1 ((N : Int) - 1) = R := ⟨_, rfl⟩
            have HR := Lib.hid hR
            rw [hR] at hs
            cases R
            · have HTT := Lib.hid hs
              clear hs hR hz q2
              go_wp2_with (go_at_call 43; ((with_reducible refine (within_any _ _ _ _ _ HR.out).mono ?_); rintro e' w3 ⟨rfl, rfl⟩))
              go_ret
              exact ⟨by rw [HTT.out]; rfl, HBq⟩
            · have hr := inI_bd hR
              obtain ⟨Z, rfl⟩ : ∃ Z : Nat, z = (Z : Int) := ⟨z.toNat, by omega⟩
              have z1 : 1 ≤ Z := by omega
              have z2 : Z < N := by omega
              have z3 : (0 : Int) ≤ (Z : Int) := by omega
              have z4 : (Z : Int) < (N : Int) := by omega
              obtain ⟨S, hS⟩ : ∃ S, sn.contains (Z : Int) = S := ⟨_, rfl⟩
              have ct1 : wr.cell? ⟨w.heap.size + 1, Z, none⟩ = some (.bool S) := by rw [Rq.cell_, takV_get N sn Z z2, hS]
              rw [hS] at hs
              cases S
              · have HTT := Lib.hid hs.symm
                have HST := takV_set N sn Z z2
                have RZ := Rq.set_ Z (.bool true)
                rw [HST] at RZ
                have BZ := Bq.far (p := ⟨w.heap.size + 1, Z, none⟩) (by show w.heap.size ≠ w.heap.size + 1; omega) (.bool true)
                have fz := Rq.free Z
                have HRZ := Lib.hid RZ
                have HBZ := Lib.hid BZ
                have HRL := Rq.lt
                clear hs hR hz q2 hr HST RZ BZ hS
                go_wp2_with (go_at_call 43; ((with_reducible refine (within_any _ _ _ _ _ HR.out).mono ?_); rintro e' w3 ⟨rfl, rfl⟩))
                go_roundw
                case rel => exact ⟨j + 1, (Z : Int) :: sn, by omega, by go_num, Lib.hid HTT.out, HBq.setCell (p := ⟨w.heap.size + 1, Z, none⟩) (by show w.heap.size ≤ w.heap.size + 1; omega) _, HBZ.out, HRZ.out⟩
                case measure => simp [intOf]; omega
              · have HTT := Lib.hid hs
                clear hs hR hz q2 hr hS
                go_wp2_with (go_at_call 43; ((with_reducible refine (within_any _ _ _ _ _ HR.out).mono ?_); rintro e' w3 ⟨rfl, rfl⟩))
                go_ret
                exact ⟨by rw [HTT.out]; rfl, HBq⟩
          · have hjn : j = q := by omega
            subst hjn
            have hs := HJ.out
            rw [← HQ.out, sh_end] at hs
            have HTT := Lib.hid hs
            clear hlq hs
            go_wp2_with fail
            go_roundw
            case rel => exact ⟨k + 1, sn, by omega, by go_num, HTT, HBq, Bq, Rq⟩
            case measure => simp [intOf]; omega
      · rw [decide_eq_false h8, Bool.false_and] at ht
        have HT0 := Lib.hid ht
        have p8 : (8 : Int) < (q : Int) := by omega
        clear ht hq hx he q1 hin
        go_wp2_with fail
        go_ret
        exact ⟨by rw [HT0.out]; rfl, HBr⟩
    · have hjn : k = m := by omega
      subst hjn
      have ht := HK.out
      rw [← HM.out, List.drop_length] at ht
      have HTT := Lib.hid ht
      clear hlt ht
      go_wp2_with fail
      go_ret
      exact ⟨by rw [← HTT.out]; rfl, HBr⟩
end Go.Proofs.YtokhapafpjejaaaGreatDoor
namespace Go.Proofs.YtokhapafpjejaaaGreatDoor
open Go.ChangeShapes Go.WideShapes Go.ChangeAt Go.RowKit
attribute [local go_sem ↓] Go.wp_at_zero Go.wp_at_succ
theorem smay_any (s : Sf) (v : Value) (w : World) (hS : ShR w w.heap.size v s) (hT : Tabs w) (T : Bool) (hT0 : mayS s = T) :
    Calls Tryz.prog 10 #[v] w fun e' w' => e' = .returned (.bool T) ∧ Below w.heap.size w w' := by
  have hS0 := hS
  obtain ⟨Ab, cb, An, cn, rfl, hB, hN, hcb, hmb, hcn, hmn⟩ := hS.ex
  clear hS
  have HB : Below w.heap.size w (w.alloc (.cells #[.int .i64 s.nb, .int .i64 s.nn, .int .i64 s.ns, .slice Ab s.bs.length cb, .slice An s.ts.length cn] 25)) := ((Below.refl w.heap.size w).alloc (by first | (simp; done) | (simp; omega)) _)
  have B1 : Blk (w.alloc (.cells #[.int .i64 s.nb, .int .i64 s.nn, .int .i64 s.ns, .slice Ab s.bs.length cb, .slice An s.ts.length cn] 25)) w.heap.size 25 #[.int .i64 s.nb, .int .i64 s.nn, .int .i64 s.ns, .slice Ab s.bs.length cb, .slice An s.ts.length cn] := Blk.new_ w 25 #[.int .i64 s.nb, .int .i64 s.nn, .int .i64 s.ns, .slice Ab s.bs.length cb, .slice An s.ts.length cn]
  have S1 : ShR (w.alloc (.cells #[.int .i64 s.nb, .int .i64 s.nn, .int .i64 s.ns, .slice Ab s.bs.length cb, .slice An s.ts.length cn] 25)) ((w.alloc (.cells #[.int .i64 s.nb, .int .i64 s.nn, .int .i64 s.ns, .slice Ab s.bs.length cb, .slice An s.ts.length cn] 25))).heap.size (.agg #[.int .i64 s.nb, .int .i64 s.nn, .int .i64 s.ns, .slice Ab s.bs.length cb, .slice An s.ts.length cn]) s := hS0.next HB
  have T1 := hT.next HB
  clear hS0 hT hB hN hcb hmb hcn hmn
  obtain ⟨R1, h1⟩ : ∃ R, inI s.nb 1 65536 = R := ⟨_, rfl⟩
  obtain ⟨R2, h2⟩ : ∃ R, inI s.nn 1 65536 = R := ⟨_, rfl⟩
  obtain ⟨R3, h3⟩ : ∃ R, inI s.ns 1 4096 = R := ⟨_, rfl⟩
  obtain ⟨R4, h4⟩ : ∃ R, (decide (s.bs.length ≤ 6) && booksFrom s 0 s.bs) = R := ⟨_, rfl⟩
  obtain ⟨R5, h5⟩ : ∃ R, (decide (s.ts.length ≤ 12) && notesFrom s 0 s.ts) = R := ⟨_, rfl⟩
  obtain ⟨R6, h6⟩ : ∃ R, sheetsFrom s.ns [] s.ts = R := ⟨_, rfl⟩
  unfold mayS at hT0
  rw [h1, h2, h3, h4, h5, h6] at hT0
  have H0 := Lib.hid hT0
  have H1 := Lib.hid h1
  have H2 := Lib.hid h2
  have H3 := Lib.hid h3
  have H4 := Lib.hid h4
  have H5 := Lib.hid h5
  have H6 := Lib.hid h6
  clear hT0 h1 h2 h3 h4 h5 h6
  cases R1
  · skip
    go_enter Tryz.func10, Tryz.ntmps10
    go_wp2_with (first | (go_at_call 43; ((with_reducible refine (within_any s.nb _ _ _ _ H1.out).mono ?_); rintro e' w3 ⟨rfl, rfl⟩)) | (go_at_call 43; ((with_reducible refine (within_any s.nn _ _ _ _ H2.out).mono ?_); rintro e' w3 ⟨rfl, rfl⟩)) | (go_at_call 43; ((with_reducible refine (within_any s.ns _ _ _ _ H3.out).mono ?_); rintro e' w3 ⟨rfl, rfl⟩)))
    go_ret
    exact ⟨by rw [← H0.out]; rfl, HB⟩
  · skip
    cases R2
    · skip
      go_enter Tryz.func10, Tryz.ntmps10
      go_wp2_with (first | (go_at_call 43; ((with_reducible refine (within_any s.nb _ _ _ _ H1.out).mono ?_); rintro e' w3 ⟨rfl, rfl⟩)) | (go_at_call 43; ((with_reducible refine (within_any s.nn _ _ _ _ H2.out).mono ?_); rintro e' w3 ⟨rfl, rfl⟩)) | (go_at_call 43; ((with_reducible refine (within_any s.ns _ _ _ _ H3.out).mono ?_); rintro e' w3 ⟨rfl, rfl⟩)))
      go_ret
      exact ⟨by rw [← H0.out]; rfl, HB⟩
    · skip
      cases R3
      · skip
        go_enter Tryz.func10, Tryz.ntmps10
        go_wp2_with (first | (go_at_call 43; ((with_reducible refine (within_any s.nb _ _ _ _ H1.out).mono ?_); rintro e' w3 ⟨rfl, rfl⟩)) | (go_at_call 43; ((with_reducible refine (within_any s.nn _ _ _ _ H2.out).mono ?_); rintro e' w3 ⟨rfl, rfl⟩)) | (go_at_call 43; ((with_reducible refine (within_any s.ns _ _ _ _ H3.out).mono ?_); rintro e' w3 ⟨rfl, rfl⟩)))
        go_ret
        exact ⟨by rw [← H0.out]; rfl, HB⟩
      · skip
        cases R4
        · skip
          go_enter Tryz.func10, Tryz.ntmps10
          go_wp2_with (first | (go_at_call 43; ((with_reducible refine (within_any s.nb _ _ _ _ H1.out).mono ?_); rintro e' w3 ⟨rfl, rfl⟩)) | (go_at_call 43; ((with_reducible refine (within_any s.nn _ _ _ _ H2.out).mono ?_); rintro e' w3 ⟨rfl, rfl⟩)) | (go_at_call 43; ((with_reducible refine (within_any s.ns _ _ _ _ H3.out).mono ?_); rintro e' w3 ⟨rfl, rfl⟩)) | (go_at_call 44; ((with_reducible refine (mayBooks_any s _ _ S1 T1 (by have := inI_bd H1.out; omega) (by have := inI_bd H1.out; omega) _ H4.out).mono ?_); rintro e' w4 ⟨rfl, b4⟩; have S1 := S1.next b4; have T1 := T1.next b4; have B1 := B1.below b4 B1.lt; have HB := btr HB HB.size b4; (try clear k0 k1 k2 k3 k4); have k0 := B1.cell_ 0; have k1 := B1.cell_ 1; have k2 := B1.cell_ 2; have k3 := B1.cell_ 3; have k4 := B1.cell_ 4; simp at k0 k1 k2 k3 k4; clear b4)))
          go_ret
          exact ⟨by rw [← H0.out]; rfl, HB⟩
        · skip
          cases R5
          · skip
            go_enter Tryz.func10, Tryz.ntmps10
            go_wp2_with (first | (go_at_call 43; ((with_reducible refine (within_any s.nb _ _ _ _ H1.out).mono ?_); rintro e' w3 ⟨rfl, rfl⟩)) | (go_at_call 43; ((with_reducible refine (within_any s.nn _ _ _ _ H2.out).mono ?_); rintro e' w3 ⟨rfl, rfl⟩)) | (go_at_call 43; ((with_reducible refine (within_any s.ns _ _ _ _ H3.out).mono ?_); rintro e' w3 ⟨rfl, rfl⟩)) | (go_at_call 44; ((with_reducible refine (mayBooks_any s _ _ S1 T1 (by have := inI_bd H1.out; omega) (by have := inI_bd H1.out; omega) _ H4.out).mono ?_); rintro e' w4 ⟨rfl, b4⟩; have S1 := S1.next b4; have T1 := T1.next b4; have B1 := B1.below b4 B1.lt; have HB := btr HB HB.size b4; (try clear k0 k1 k2 k3 k4); have k0 := B1.cell_ 0; have k1 := B1.cell_ 1; have k2 := B1.cell_ 2; have k3 := B1.cell_ 3; have k4 := B1.cell_ 4; simp at k0 k1 k2 k3 k4; clear b4)) | (go_at_call 45; ((with_reducible refine (mayNotes_any s _ _ S1 T1 (by have := inI_bd H2.out; omega) (by have := inI_bd H2.out; omega) _ H5.out).mono ?_); rintro e' w5 ⟨rfl, b5⟩; have S1 := S1.next b5; have T1 := T1.next b5; have B1 := B1.below b5 B1.lt; have HB := btr HB HB.size b5; (try clear k0 k1 k2 k3 k4); have k0 := B1.cell_ 0; have k1 := B1.cell_ 1; have k2 := B1.cell_ 2; have k3 := B1.cell_ 3; have k4 := B1.cell_ 4; simp at k0 k1 k2 k3 k4; clear b5)))
            go_ret
            exact ⟨by rw [← H0.out]; rfl, HB⟩
          · skip
            cases R6
            · skip
              go_enter Tryz.func10, Tryz.ntmps10
              go_wp2_with (first | (go_at_call 43; ((with_reducible refine (within_any s.nb _ _ _ _ H1.out).mono ?_); rintro e' w3 ⟨rfl, rfl⟩)) | (go_at_call 43; ((with_reducible refine (within_any s.nn _ _ _ _ H2.out).mono ?_); rintro e' w3 ⟨rfl, rfl⟩)) | (go_at_call 43; ((with_reducible refine (within_any s.ns _ _ _ _ H3.out).mono ?_); rintro e' w3 ⟨rfl, rfl⟩)) | (go_at_call 44; ((with_reducible refine (mayBooks_any s _ _ S1 T1 (by have := inI_bd H1.out; omega) (by have := inI_bd H1.out; omega) _ H4.out).mono ?_); rintro e' w4 ⟨rfl, b4⟩; have S1 := S1.next b4; have T1 := T1.next b4; have B1 := B1.below b4 B1.lt; have HB := btr HB HB.size b4; (try clear k0 k1 k2 k3 k4); have k0 := B1.cell_ 0; have k1 := B1.cell_ 1; have k2 := B1.cell_ 2; have k3 := B1.cell_ 3; have k4 := B1.cell_ 4; simp at k0 k1 k2 k3 k4; clear b4)) | (go_at_call 45; ((with_reducible refine (mayNotes_any s _ _ S1 T1 (by have := inI_bd H2.out; omega) (by have := inI_bd H2.out; omega) _ H5.out).mono ?_); rintro e' w5 ⟨rfl, b5⟩; have S1 := S1.next b5; have T1 := T1.next b5; have B1 := B1.below b5 B1.lt; have HB := btr HB HB.size b5; (try clear k0 k1 k2 k3 k4); have k0 := B1.cell_ 0; have k1 := B1.cell_ 1; have k2 := B1.cell_ 2; have k3 := B1.cell_ 3; have k4 := B1.cell_ 4; simp at k0 k1 k2 k3 k4; clear b5)) | (go_at_call 46; ((with_reducible refine (maySheets_any s _ _ S1 (by have := inI_bd H3.out; omega) (by have := inI_bd H3.out; omega) _ H6.out).mono ?_); rintro e' w6 ⟨rfl, b6⟩; have S1 := S1.next b6; have T1 := T1.next b6; have B1 := B1.below b6 B1.lt; have HB := btr HB HB.size b6; (try clear k0 k1 k2 k3 k4); have k0 := B1.cell_ 0; have k1 := B1.cell_ 1; have k2 := B1.cell_ 2; have k3 := B1.cell_ 3; have k4 := B1.cell_ 4; simp at k0 k1 k2 k3 k4; clear b6)))
              go_ret
              exact ⟨by rw [← H0.out]; rfl, HB⟩
            · skip
              go_enter Tryz.func10, Tryz.ntmps10
              go_wp2_with (first | (go_at_call 43; ((with_reducible refine (within_any s.nb _ _ _ _ H1.out).mono ?_); rintro e' w3 ⟨rfl, rfl⟩)) | (go_at_call 43; ((with_reducible refine (within_any s.nn _ _ _ _ H2.out).mono ?_); rintro e' w3 ⟨rfl, rfl⟩)) | (go_at_call 43; ((with_reducible refine (within_any s.ns _ _ _ _ H3.out).mono ?_); rintro e' w3 ⟨rfl, rfl⟩)) | (go_at_call 44; ((with_reducible refine (mayBooks_any s _ _ S1 T1 (by have := inI_bd H1.out; omega) (by have := inI_bd H1.out; omega) _ H4.out).mono ?_); rintro e' w4 ⟨rfl, b4⟩; have S1 := S1.next b4; have T1 := T1.next b4; have B1 := B1.below b4 B1.lt; have HB := btr HB HB.size b4; (try clear k0 k1 k2 k3 k4); have k0 := B1.cell_ 0; have k1 := B1.cell_ 1; have k2 := B1.cell_ 2; have k3 := B1.cell_ 3; have k4 := B1.cell_ 4; simp at k0 k1 k2 k3 k4; clear b4)) | (go_at_call 45; ((with_reducible refine (mayNotes_any s _ _ S1 T1 (by have := inI_bd H2.out; omega) (by have := inI_bd H2.out; omega) _ H5.out).mono ?_); rintro e' w5 ⟨rfl, b5⟩; have S1 := S1.next b5; have T1 := T1.next b5; have B1 := B1.below b5 B1.lt; have HB := btr HB HB.size b5; (try clear k0 k1 k2 k3 k4); have k0 := B1.cell_ 0; have k1 := B1.cell_ 1; have k2 := B1.cell_ 2; have k3 := B1.cell_ 3; have k4 := B1.cell_ 4; simp at k0 k1 k2 k3 k4; clear b5)) | (go_at_call 46; ((with_reducible refine (maySheets_any s _ _ S1 (by have := inI_bd H3.out; omega) (by have := inI_bd H3.out; omega) _ H6.out).mono ?_); rintro e' w6 ⟨rfl, b6⟩; have S1 := S1.next b6; have T1 := T1.next b6; have B1 := B1.below b6 B1.lt; have HB := btr HB HB.size b6; (try clear k0 k1 k2 k3 k4); have k0 := B1.cell_ 0; have k1 := B1.cell_ 1; have k2 := B1.cell_ 2; have k3 := B1.cell_ 3; have k4 := B1.cell_ 4; simp at k0 k1 k2 k3 k4; clear b6)))
              go_ret
              exact ⟨by rw [← H0.out]; rfl, HB⟩
end Go.Proofs.YtokhapafpjejaaaGreatDoor
namespace Go.Proofs.YtokhapafpjejaaaGreatDoor
open Go.ChangeShapes Go.WideShapes Go.ChangeAt Go.RowKit
attribute [local go_sem ↓] Go.wp_at_zero Go.wp_at_succ
structure It where
  id : Int
  nm : ByteArray
instance : Inhabited It := ⟨⟨0, ByteArray.empty⟩⟩
def itC (x : It) : List Value := [.int .i64 x.id, .string x.nm]
def cmpI (x y : It) : Int := Lib.compareBytes x.nm.data.toList y.nm.data.toList
theorem cmpB_refl : ∀ l : List UInt8, Lib.compareBytes l l = 0
  | [] => rfl
  | a :: l => by
    unfold Lib.compareBytes
    rw [if_neg (UInt8.lt_irrefl a), if_neg (UInt8.lt_irrefl a)]
    exact cmpB_refl l
theorem cmpB_trans : ∀ a b c : List UInt8, Lib.compareBytes a b < 0 → Lib.compareBytes b c < 0 → Lib.compareBytes a c < 0
  | [], [], _, h, _ => by simp [Lib.compareBytes] at h
  | [], _ :: _, [], _, h => by simp [Lib.compareBytes] at h
  | [], _ :: _, _ :: _, _, _ => by simp [Lib.compareBytes]
  | _ :: _, [], _, h, _ => by simp [Lib.compareBytes] at h
  | _ :: _, _ :: _, [], _, h => by simp [Lib.compareBytes] at h
  | x :: a, y :: b, z :: c, h1, h2 => by
    unfold Lib.compareBytes at h1 h2 ⊢
    simp only [UInt8.lt_iff_toNat_lt] at h1 h2 ⊢
    by_cases p1 : x.toNat < y.toNat
    · by_cases p2 : y.toNat < z.toNat
      · rw [if_pos (by omega)]; decide
      · rw [if_neg p2] at h2
        by_cases p3 : z.toNat < y.toNat
        · rw [if_pos p3] at h2; exact absurd h2 (by decide)
        · rw [if_pos (by omega)]; decide
    · rw [if_neg p1] at h1
      by_cases p4 : y.toNat < x.toNat
      · rw [if_pos p4] at h1; exact absurd h1 (by decide)
      · rw [if_neg p4] at h1
        by_cases p2 : y.toNat < z.toNat
        · rw [if_pos (by omega)]; decide
        · rw [if_neg p2] at h2
          by_cases p3 : z.toNat < y.toNat
          · rw [if_pos p3] at h2; exact absurd h2 (by decide)
          · rw [if_neg p3] at h2
            rw [if_neg (by omega), if_neg (by omega)]
            exact cmpB_trans a b c h1 h2
theorem cmpB_ntrans : ∀ a b c : List UInt8, ¬ Lib.compareBytes a b < 0 → ¬ Lib.compareBytes b c < 0 → ¬ Lib.compareBytes a c < 0
  | [], [], c, _, h => h
  | [], _ :: _, _, h, _ => by simp [Lib.compareBytes] at h
  | _ :: _, [], [], _, _ => by simp [Lib.compareBytes]
  | _ :: _, [], _ :: _, _, h => by simp [Lib.compareBytes] at h
  | _ :: _, _ :: _, [], _, _ => by simp [Lib.compareBytes]
  | x :: a, y :: b, z :: c, h1, h2 => by
    unfold Lib.compareBytes at h1 h2 ⊢
    simp only [UInt8.lt_iff_toNat_lt] at h1 h2 ⊢
    by_cases p1 : x.toNat < y.toNat
    · rw [if_pos p1] at h1; exact absurd (by decide) h1
    · rw [if_neg p1] at h1
      by_cases p2 : y.toNat < z.toNat
      · rw [if_pos p2] at h2; exact absurd (by decide) h2
      · rw [if_neg p2] at h2
        rw [if_neg (by omega)]
        by_cases p3 : z.toNat < x.toNat
        · rw [if_pos p3]; decide
        · rw [if_neg p3]
          rw [if_neg (by omega)] at h1 h2
          exact cmpB_ntrans a b c h1 h2
theorem swoI : Sort.SWO (ltOf cmpI) where
  irrefl x := by simp [ltOf, cmpI, cmpB_refl]
  trans x y z h1 h2 := decide_eq_true (cmpB_trans _ _ _ (of_decide_eq_true h1) (of_decide_eq_true h2))
  ntrans x y z h1 h2 := decide_eq_false (cmpB_ntrans _ _ _ (of_decide_eq_false h1) (of_decide_eq_false h2))
theorem cmpS_any (a b : ByteArray) (w : World) : Calls Tryz.prog 78 #[.string a, .string b] w fun e w' => e = .returned (.int .i64 (Lib.compareBytes a.data.toList b.data.toList)) ∧ w' = w := Any.strings_Compare Tryz.laysCmp a b w
theorem cl_byName (x y : It) (w : World) : Calls Tryz.prog 77 #[.agg #[.int .i64 x.id, .string x.nm], .agg #[.int .i64 y.id, .string y.nm]] w fun e w' => e = .returned (.int .i64 (cmpI x y)) ∧ ∃ q os', w' = Sort.grow (w.drewN q) os' := by
  go_enter Tryz.func77, Tryz.ntmps77
  go_wp2_with (go_at_call 78; ((with_reducible refine (cmpS_any x.nm y.nm _).mono ?_); rintro e' wN ⟨rfl, rfl⟩))
  go_ret
  exact ⟨rfl, 0, _, by rw [Sort.alloc_eq_grow, Sort.alloc_eq_grow, Sort.grow_grow]; rfl⟩
theorem cmpLaysI (blk off size : Nat) (w : World) : CmpLays Tryz.prog 77 #[] itC 2 cmpI blk off size w := fun _ _ _ _ x y => cl_byName x y _
theorem below_sortK {α : Type} [Inhabited α] {B blk off n k : Nat} {enc : α → List Value} {d : Array α} {os : Array Obj} {w : World} (hB : B ≤ blk) (hb : blk < w.heap.size) : Below B w (sortWorldK enc k w blk off n d os) := by
  refine ⟨rfl, rfl, rfl, ?_, fun j hj => ?_⟩
  · simp [sortWorldK, Sort.grow, Sort.putRowK, Sort.putRow, Sort.mapBlock, Sort.ahead]
  · simp only [sortWorldK, Sort.grow, Sort.putRowK, Sort.putRow, Sort.mapBlock, Sort.ahead]
    rw [Array.getElem?_append_left (by simp; omega), Array.getElem?_modify, if_neg (by omega)]
end Go.Proofs.YtokhapafpjejaaaGreatDoor
namespace Go.Proofs.YtokhapafpjejaaaGreatDoor
open Go.ChangeShapes Go.WideShapes Go.ChangeAt Go.RowKit
attribute [local go_sem ↓] Go.wp_at_zero Go.wp_at_succ
theorem enterBN : ∀ args w, (callFunc 77 args).run Tryz.prog w = .ok (.enter 77 args) w := enters_of Tryz.func77 (by kernel_rfl) rfl
theorem itC_one : ∀ x, ∀ v ∈ itC x, v.oneCell' = true := by
  intro x v hv
  simp [itC] at hv
  rcases hv with rfl | rfl <;> rfl
def OrdI (l : List It) : Prop := l.Pairwise fun a b => cmpI b a < 0 → False
theorem sorted_of {d : Array It} (h : Sort.SortedIn (ltOf cmpI) 0 d.size d) : OrdI d.toList := by
  rw [OrdI, List.pairwise_iff_getElem]
  intro i j hi hj hij hlt
  simp only [Array.length_toList] at hi hj
  have := h i j (Nat.zero_le _) hij hj
  rw [getElem!_pos d i hi, getElem!_pos d j hj] at this
  have h2 := of_decide_eq_false this
  simp only [Array.getElem_toList] at hlt
  exact h2 hlt
theorem sl_of_holds {w : World} {g off : Nat} {d : Array It} (h : Sort.HoldsK itC 2 w g off d) (hg : g < w.heap.size) : SlE 2 w w.heap.size (some ⟨g, off, none⟩) (d.toList.map itC) := by
  refine Or.inr ⟨g, off, rfl, hg, fun k x hx j u hu => ?_⟩
  rw [List.getElem?_map] at hx
  cases hd : d.toList[k]? with
  | none => rw [hd] at hx; cases hx
  | some y =>
    rw [hd] at hx
    cases hx
    have hk : k < d.size := by
      have := (List.getElem?_eq_some_iff.1 hd).1
      simpa using this
    have hy : d[k]! = y := by
      rw [getElem!_pos d k hk]
      have := (List.getElem?_eq_some_iff.1 hd).2
      simpa using this
    have hj : j < 2 := (List.getElem?_eq_some_iff.1 hu).1
    have := (h.cell hk hj).1
    rw [this, hy]
    congr 1
    rw [List.getElem!_eq_getElem?_getD, hu]
    rfl
theorem sort_items (d : Array It) (g off cp : Nat) (w : World) (hH : Sort.HoldsK itC 2 w g off d) (hg : g < w.heap.size) (hsz : d.size < 4611686018427387904) :
    Calls Tryz.prog 76 #[.slice (some ⟨g, off, none⟩) d.size cp, .func (.func 77) #[] #[]] w fun e' w' => e' = .returned (.tuple #[]) ∧ ∃ its : List It, its.Perm d.toList ∧ OrdI its ∧ SlE 2 w' w'.heap.size (some ⟨g, off, none⟩) (its.map itC) ∧ ∀ B, B ≤ g → Below B w w' := by
  have hcon := AnyQ.slices_SortFunc Tryz.laysSort 2 Tryz.isAgg64 Tryz.sizeOf64 itC (fun _ => rfl) itC_one cmpI swoI 77 #[] g off cp d w enterBN (cmpLaysI g off d.size w) hH hg hsz
  refine Calls.mono hcon ?_
  rintro e' w' ⟨he, d', n, os, hp, hs, rfl⟩
  have hds : d'.size = d.size := hp.1
  have hpp := hp.2.2
  refine ⟨he, d'.toList, ?_, sorted_of (by rw [hds]; exact hs), sl_of_holds (holdsK_sortWorldK_c itC 2 w g off d d' n os hH hg hds) (Nat.lt_of_lt_of_le hg (size_sortWorldK_c itC 2 w g off n d' os)), fun B hB => below_sortK hB hg⟩
  have e1 : d.extract 0 d.size = d := by simp
  have e2 : d'.extract 0 d.size = d' := by rw [← hds]; simp
  rwa [e1, e2] at hpp
theorem byName_row (d : Array It) (g off cp : Nat) (w : World) (hH : Sort.HoldsK itC 2 w g off d) (hg : g < w.heap.size) (hsz : d.size < 4611686018427387904) :
    Calls Tryz.prog 51 #[.slice (some ⟨g, off, none⟩) d.size cp] w fun e' w' => e' = .returned (.slice (some ⟨g, off, none⟩) d.size cp) ∧ ∃ its : List It, its.Perm d.toList ∧ OrdI its ∧ SlE 2 w' w'.heap.size (some ⟨g, off, none⟩) (its.map itC) ∧ ∀ B, B ≤ g → Below B w w' := by
  have hcon := sort_items d g off cp w hH hg hsz
  clear hH
  go_enter Tryz.func51, Tryz.ntmps51
  go_wp2_with (go_at_call 76; refine hcon.mono ?_; rintro e' wN ⟨rfl, its, h1, h2, h3, h4⟩)
  go_ret
  exact ⟨rfl, its, h1, h2, h3, h4⟩
theorem byName_none (p : Option Addr) (cp : Nat) (w : World) :
    Calls Tryz.prog 51 #[.slice p 0 cp] w fun e' w' => e' = .returned (.slice p 0 cp) ∧ w' = w := by
  have hcon := AnyF.slices_SortFunc_none Tryz.laysSort p cp (.func (.func 77) #[] #[]) w
  change Calls Tryz.prog 76 _ _ _ at hcon
  go_enter Tryz.func51, Tryz.ntmps51
  go_wp2_with (go_at_call 76; refine hcon.mono ?_; rintro e' wN ⟨rfl, rfl⟩)
  go_ret
  exact ⟨rfl, rfl⟩
end Go.Proofs.YtokhapafpjejaaaGreatDoor
namespace Go.Proofs.YtokhapafpjejaaaGreatDoor
open Go.ChangeShapes Go.WideShapes Go.ChangeAt Go.RowKit
attribute [local go_sem ↓] Go.wp_at_zero Go.wp_at_succ
def RowI (w : World) (base : Nat) (v : Value) (L : List It) : Prop := w.ownsRow base 64 2 v L.length (L.flatMap itC)
theorem infoIt : (Tryz.prog.info? 64).map (fun i => (i.zero, i.size, i.bytes)) = some (some (.agg #[.int .i64 0, .string ByteArray.empty]), 2, 24) := by kernel_rfl
theorem flat_getI : ∀ (L : List It) (k j : Nat) (x : It), L[k]? = some x → j < 2 → (L.flatMap itC)[k * 2 + j]? = (itC x)[j]?
  | [], k, _, _, h, _ => by simp at h
  | y :: L, 0, j, x, h, hj => by
    simp at h
    subst h
    rw [List.flatMap_cons, List.getElem?_append_left (by simp [itC]; omega)]
    simp
  | y :: L, k + 1, j, x, h, hj => by
    rw [List.flatMap_cons, List.getElem?_append_right (by simp [itC]; omega), show (k + 1) * 2 + j - (itC y).length = k * 2 + j by simp [itC]; omega]
    exact flat_getI L k j x (by simpa using h) hj
theorem one1I (x : It) : ∀ u ∈ itC x, u.oneCell' = true := itC_one x
theorem rd_newI (w : World) (x : It) {g : Nat} (hg : g = w.heap.size) : Rd (w.alloc (.cells #[.int .i64 x.id, .string x.nm] 64)) (some ⟨g, 0, none⟩) 1 2 (itC x) := by
  subst hg
  refine ⟨rfl, Or.inr ⟨_, 0, rfl, fun j u hj => ?_⟩⟩
  rw [Joins.cell_of_block (heap_alloc_new w _), Nat.zero_add]
  simpa [itC] using hj
theorem RowI.snoc {w : World} {base : Nat} {v : Value} {L : List It} {x : It} (h : w.ownsRow base 64 2 v (L.length + 1) (L.flatMap itC ++ itC x)) : RowI w base v (L ++ [x]) := by
  unfold RowI
  rw [List.length_append, List.flatMap_append]
  simpa using h
theorem RowI.holds {w : World} {base : Nat} {v : Value} {L : List It} (h : RowI w base v L) : (v = .slice none 0 0 ∧ L = []) ∨ ∃ g cap, v = .slice (some ⟨g, 0, none⟩) L.length cap ∧ base ≤ g ∧ g < w.heap.size ∧ L.length ≤ cap ∧ cap ≤ maxLen ∧ Sort.HoldsK itC 2 w g 0 L.toArray := by
  obtain ⟨hl, h⟩ := h
  rcases h with ⟨hv, h0⟩ | ⟨g, cap, cur, hv, hb, hh, hc, hm, hs, ht⟩
  · exact Or.inl ⟨hv, List.eq_nil_of_length_eq_zero h0⟩
  · have hB : Blk w g 64 cur := hh
    refine Or.inr ⟨g, cap, hv, hb, hB.lt, hc, hm, fun j hj => ⟨?_, hB.free _⟩⟩
    have hj2 : j < L.length * 2 := by simpa using hj
    have hk : j / 2 < L.length := by omega
    have hx : L[j / 2]? = some L[j / 2] := List.getElem?_eq_getElem hk
    have hg := flat_getI L (j / 2) (j % 2) _ hx (by omega)
    rw [show j / 2 * 2 + j % 2 = j by omega, ← ht, List.getElem?_take, if_pos (by omega)] at hg
    rw [hB.cell_, Nat.zero_add, Sort.get_flatK _ _ _ _ (by simpa using hj2)]
    rw [Array.getElem?_toList] at hg
    rw [hg, getElem!_pos L.toArray (j / 2) (by simpa using hk)]
    have hj3 : j % 2 < (itC L[j / 2]).length := by show j % 2 < 2; omega
    rw [List.getElem?_eq_getElem hj3]
    simp [hj3]
theorem byName_own (L : List It) (v : Value) (base : Nat) (w : World) (h : RowI w base v L) (hl : L.length ≤ 1000000) :
    Calls Tryz.prog 51 #[v] w fun e' w' => ∃ (A : Option Addr) (c : Nat) (its : List It), e' = .returned (.slice A its.length c) ∧ its.Perm L ∧ OrdI its ∧ SlE 2 w' w'.heap.size A (its.map itC) ∧ its.length ≤ c ∧ c ≤ maxLen ∧ Below base w w' := by
  rcases h.holds with ⟨rfl, rfl⟩ | ⟨g, cap, rfl, hb, hg, hc, hm, hH⟩
  · refine (byName_none none 0 w).mono ?_
    rintro e' w' ⟨rfl, rfl⟩
    exact ⟨none, 0, [], rfl, List.Perm.refl _, List.Pairwise.nil, Or.inl rfl, Nat.le_refl _, by unfold maxLen; omega, Below.refl _ _⟩
  · have := byName_row L.toArray g 0 cap w hH hg (by simp; omega)
    rw [show L.toArray.size = L.length by simp] at this
    refine this.mono ?_
    rintro e' w' ⟨rfl, its, h1, h2, h3, h4⟩
    have hl2 : its.length = L.length := by simpa using h1.length_eq
    exact ⟨_, cap, its, by rw [hl2], by simpa using h1, h2, h3, by omega, hm, h4 base hb⟩
def bkIt (b : Bk) : It := ⟨b.id, b.nm⟩
theorem books_any (s : Sf) (v : Value) (w : World) (hS : ShR w w.heap.size v s) (hT : Tabs w) (hM : mayS s = true) (hl : s.bs.length ≤ 6) :
    Calls Tryz.prog 13 #[v] w fun e' w' => ∃ (A : Option Addr) (c : Nat) (its : List It), e' = .returned (.slice A its.length c) ∧ its.Perm (s.bs.map bkIt) ∧ OrdI its ∧ SlE 2 w' w'.heap.size A (its.map itC) ∧ its.length ≤ c ∧ c ≤ maxLen ∧ Below w.heap.size w w' := by
  have hS0 := hS
  obtain ⟨Ab, cb, An, cn, rfl, hB, hN, hcb, hmb, hcn, hmn⟩ := hS.ex
  clear hS
  obtain ⟨n, hn⟩ : ∃ n, s.bs.length = n := ⟨_, rfl⟩
  have HB : Below w.heap.size w (w.alloc (.cells #[.int .i64 s.nb, .int .i64 s.nn, .int .i64 s.ns, .slice Ab s.bs.length cb, .slice An s.ts.length cn] 25)) := ((Below.refl w.heap.size w).alloc (by first | (simp; done) | (simp; omega)) _)
  have B1 : Blk (w.alloc (.cells #[.int .i64 s.nb, .int .i64 s.nn, .int .i64 s.ns, .slice Ab s.bs.length cb, .slice An s.ts.length cn] 25)) w.heap.size 25 #[.int .i64 s.nb, .int .i64 s.nn, .int .i64 s.ns, .slice Ab s.bs.length cb, .slice An s.ts.length cn] := Blk.new_ w 25 #[.int .i64 s.nb, .int .i64 s.nn, .int .i64 s.ns, .slice Ab s.bs.length cb, .slice An s.ts.length cn]
  have S1 : ShR (w.alloc (.cells #[.int .i64 s.nb, .int .i64 s.nn, .int .i64 s.ns, .slice Ab s.bs.length cb, .slice An s.ts.length cn] 25)) ((w.alloc (.cells #[.int .i64 s.nb, .int .i64 s.nn, .int .i64 s.ns, .slice Ab s.bs.length cb, .slice An s.ts.length cn] 25))).heap.size (.agg #[.int .i64 s.nb, .int .i64 s.nn, .int .i64 s.ns, .slice Ab s.bs.length cb, .slice An s.ts.length cn]) s := hS0.next HB
  have T1 := hT.next HB
  rw [hn] at HB B1 S1 T1 hl ⊢
  have HN := Lib.hid hn
  have HM := Lib.hid hM
  clear hM hn hS0 hT
  go_enter Tryz.func13, Tryz.ntmps13
  go_upto_region 3 with (go_at_call 10; ((with_reducible refine (smay_any s _ _ S1 T1 _ HM.out).mono ?_); rintro e' w3 ⟨rfl, b3⟩; have B1 := B1.below b3 B1.lt; have HB := btr HB HB.size b3; have k0 := B1.cell_ 0; have k1 := B1.cell_ 1; have k2 := B1.cell_ 2; have k3 := B1.cell_ 3; have k4 := B1.cell_ 4; simp at k0 k1 k2 k3 k4; clear b3))
  clear S1 T1
  go_wp2_with fail
  go_loopw [3, 12] (fun sv i wr => ∃ k : Nat, k ≤ n ∧ i = .int .i64 k ∧ Hid (RowI wr w3.heap.size sv ((s.bs.take k).map bkIt)) ∧ Below w.heap.size w wr ∧ w3.heap.size ≤ wr.heap.size) (fun _ i _ => n - (intOf i).toNat)
  case atStart => exact ⟨0, by omega, rfl, Lib.hid (World.ownsRow_nil _ _ _ _), HB, Nat.le_refl _⟩
  case round =>
    obtain ⟨k, hk, rfl, HR, HBr, hsz⟩ := hrel
    have hw3 := HB.size
    clear HB B1 k0 k1 k2 k3 k4
    by_cases hlt : k < n
    · have hlx : k < s.bs.length := by have := HN.out; omega
      have i0 : (0 : Int) ≤ (k : Int) := by omega
      have i1 : (k : Int) < (n : Int) := by omega
      obtain ⟨x, hx⟩ : ∃ x, s.bs[k]? = some x := ⟨_, List.getElem?_eq_getElem hlx⟩
      obtain ⟨b1, o1, rfl, l1, q1⟩ := SlE.at_ hB (by rw [List.length_map]; omega)
      have he : (s.bs.map bkC)[k]? = some (bkC x) := by rw [List.getElem?_map, hx]; rfl
      have y0 : wr.cell? ⟨b1, o1 + k * 2 + 0, none⟩ = some (.int .i64 x.id) := (HBr.cell (p := ⟨b1, _, none⟩) l1).trans (q1 k _ he 0 _ rfl)
      have y1 : wr.cell? ⟨b1, o1 + k * 2 + 1, none⟩ = some (.string x.nm) := (HBr.cell (p := ⟨b1, _, none⟩) l1).trans (q1 k _ he 1 _ rfl)
      simp only [Nat.add_zero] at y0
      have HX := Lib.hid hx
      obtain ⟨L, hL⟩ : ∃ L, (s.bs.take k).map bkIt = L := ⟨_, rfl⟩
      have hLl : L.length = k := by rw [← hL, List.length_map, List.length_take]; omega
      rw [hL] at HR
      have hon : wr.ownsRow w3.heap.size 64 2 _ L.length (L.flatMap itC) := HR.out
      have hLn : (s.bs.take (k + 1)).map bkIt = L ++ [bkIt x] := by rw [List.take_add_one, hx, List.map_append, hL]; rfl
      have HLN := Lib.hid hLn
      have hL6 : L.length ≤ 6 := by omega
      clear hx he q1 hL hLn hLl
      go_wp2_with (at_builtin; obtain ⟨ti0, hi, hz0, hz1, hz2⟩ := info_parts infoIt; refine wpList_app _ rfl (.tmp 16) (.tmp 22) _ rfl w3.heap.size 64 ti0 _ 2 24 Tryz.underlying36 hi hz0 hz1 hz2 rfl (by decide) _ L.length (L.flatMap itC) rfl ((hon.alloc _).alloc _) _ 1 _ (itC (bkIt x)) rfl (rd_newI _ (bkIt x) (by simp)) (one1I _) (by unfold maxLen; omega) (by omega) (by simp; omega) ?_; intro v' w' ho' hg' hv'; clear hi hz0 hz1 hz2)
      have HF : Below w.heap.size w w' := ((HBr.alloc HBr.size _).alloc (by have := HBr.size; simp; omega) _).trans (below_app (by omega) (by simp; omega) ((hon.alloc _).alloc _) hg')
      have hsz2 : w3.heap.size ≤ w'.heap.size := by have := hg'.size; simp at this; omega
      have HR2 : Hid (RowI w' w3.heap.size v' ((s.bs.take (k + 1)).map bkIt)) := Lib.hid (by rw [HLN.out]; exact RowI.snoc ho')
      clear ho' hg' hv' hon y0 y1
      go_roundw
      case rel => exact ⟨k + 1, by omega, by go_num, HR2, HF, hsz2⟩
      case measure => simp [intOf]; omega
    · have hjn : k = n := by omega
      subst hjn
      rw [List.take_of_length_le (by rw [HN.out]; exact Nat.le_refl _)] at HR
      clear hlt
      go_wp2_with (go_at_call 51; ((with_reducible refine (byName_own (s.bs.map bkIt) _ _ _ HR.out (by rw [List.length_map, HN.out]; omega)).mono ?_); rintro e' w5 ⟨A5, c5, its, rfl, p1, p2, p3, p4, p5, p6⟩))
      go_ret
      exact ⟨A5, c5, its, rfl, p1, p2, p3, p4, p5, HBr.trans (p6.mono hw3)⟩
end Go.Proofs.YtokhapafpjejaaaGreatDoor
namespace Go.Proofs.YtokhapafpjejaaaGreatDoor
open Go.ChangeShapes Go.WideShapes Go.ChangeAt Go.RowKit
attribute [local go_sem ↓] Go.wp_at_zero Go.wp_at_succ
def ntIt (n : Nt) : It := ⟨n.id, n.nm⟩
def ofBook (s : Sf) (x : Int) : List Nt := s.ts.filter fun n => n.bk == x
theorem filter_yes {α : Type} {p : α → Bool} {l : List α} {k : Nat} {x : α} (h : l[k]? = some x) (hp : p x = true) : (l.take (k + 1)).filter p = (l.take k).filter p ++ [x] := by
  rw [List.take_add_one, h, List.filter_append]
  simp [hp]
theorem filter_no {α : Type} {p : α → Bool} {l : List α} {k : Nat} {x : α} (h : l[k]? = some x) (hp : p x = false) : (l.take (k + 1)).filter p = (l.take k).filter p := by
  rw [List.take_add_one, h, List.filter_append]
  simp [hp]
theorem notes_none (s : Sf) (v : Value) (x : Int) (w : World) (hS : ShR w w.heap.size v s) (hT : Tabs w) (hM : mayS s = true) (hI : bookAt s x < 0) :
    Calls Tryz.prog 14 #[v, .int .i64 x] w fun e' w' => e' = .returned (.tuple #[.slice none 0 0, .int .i64 4]) ∧ Below w.heap.size w w' := by
  have hS0 := hS
  obtain ⟨Ab, cb, An, cn, rfl, hB, hN, hcb, hmb, hcn, hmn⟩ := hS.ex
  clear hS
  have HB : Below w.heap.size w (w.alloc (.cells #[.int .i64 s.nb, .int .i64 s.nn, .int .i64 s.ns, .slice Ab s.bs.length cb, .slice An s.ts.length cn] 25)) := ((Below.refl w.heap.size w).alloc (by first | (simp; done) | (simp; omega)) _)
  have B1 : Blk (w.alloc (.cells #[.int .i64 s.nb, .int .i64 s.nn, .int .i64 s.ns, .slice Ab s.bs.length cb, .slice An s.ts.length cn] 25)) w.heap.size 25 #[.int .i64 s.nb, .int .i64 s.nn, .int .i64 s.ns, .slice Ab s.bs.length cb, .slice An s.ts.length cn] := Blk.new_ w 25 #[.int .i64 s.nb, .int .i64 s.nn, .int .i64 s.ns, .slice Ab s.bs.length cb, .slice An s.ts.length cn]
  have S1 : ShR (w.alloc (.cells #[.int .i64 s.nb, .int .i64 s.nn, .int .i64 s.ns, .slice Ab s.bs.length cb, .slice An s.ts.length cn] 25)) ((w.alloc (.cells #[.int .i64 s.nb, .int .i64 s.nn, .int .i64 s.ns, .slice Ab s.bs.length cb, .slice An s.ts.length cn] 25))).heap.size (.agg #[.int .i64 s.nb, .int .i64 s.nn, .int .i64 s.ns, .slice Ab s.bs.length cb, .slice An s.ts.length cn]) s := hS0.next HB
  have T1 := hT.next HB
  obtain ⟨I, hIe⟩ : ∃ I, bookAt s x = I := ⟨_, rfl⟩
  have HI := Lib.hid hIe
  rw [hIe] at hI
  have HM := Lib.hid hM
  clear hM hIe hS0 hT hB hN
  go_enter Tryz.func14, Tryz.ntmps14
  go_wp2_with (first | (go_at_call 10; ((with_reducible refine (smay_any s _ _ S1 T1 _ HM.out).mono ?_); rintro e' w3 ⟨rfl, b3⟩; have S1 := S1.next b3; have B1 := B1.below b3 B1.lt; have HB := btr HB HB.size b3; (try clear k0 k1 k2 k3 k4); have k0 := B1.cell_ 0; have k1 := B1.cell_ 1; have k2 := B1.cell_ 2; have k3 := B1.cell_ 3; have k4 := B1.cell_ 4; simp at k0 k1 k2 k3 k4; clear b3)) | (go_at_call 52; ((with_reducible refine (pBook_any s _ x _ S1).mono ?_); rintro e' w4 ⟨rfl, b4⟩; rw [HI.out]; have S1 := S1.next b4; have B1 := B1.below b4 B1.lt; have HB := btr HB HB.size b4; (try clear k0 k1 k2 k3 k4); have k0 := B1.cell_ 0; have k1 := B1.cell_ 1; have k2 := B1.cell_ 2; have k3 := B1.cell_ 3; have k4 := B1.cell_ 4; simp at k0 k1 k2 k3 k4; clear b4)))
  go_ret2
  exact ⟨rfl, HB⟩
end Go.Proofs.YtokhapafpjejaaaGreatDoor
namespace Go.Proofs.YtokhapafpjejaaaGreatDoor
open Go.ChangeShapes Go.WideShapes Go.ChangeAt Go.RowKit
attribute [local go_sem ↓] Go.wp_at_zero Go.wp_at_succ
theorem books_all {s : Sf} : ∀ (l : List Bk) (bf : Int), booksFrom s bf l = true → (∀ b ∈ l, bf < b.id ∧ b.id ≤ s.nb - 1 ∧ mayN b.nm = true ∧ bookTk s b.nm b.id = false) ∧ l.Pairwise fun a b => a.id < b.id
  | [], _, _ => ⟨fun b hb => by simp at hb, List.Pairwise.nil⟩
  | x :: l, bf, h => by
    have h' : (inI x.id (bf + 1) (s.nb - 1) && (mayN x.nm && (!bookTk s x.nm x.id && booksFrom s x.id l))) = true := h
    simp only [Bool.and_eq_true, Bool.not_eq_true'] at h'
    obtain ⟨h1, h2, h3, h4⟩ := h'
    have hb := inI_bd h1
    obtain ⟨i1, i2⟩ := books_all l x.id h4
    refine ⟨fun b hm => ?_, List.Pairwise.cons (fun b hm => (i1 b hm).1) i2⟩
    rcases List.mem_cons.1 hm with rfl | hm
    · exact ⟨by omega, hb.2, h2, h3⟩
    · have := i1 b hm
      exact ⟨by omega, this.2⟩
theorem notes_all {s : Sf} : ∀ (l : List Nt) (bf : Int), notesFrom s bf l = true → (∀ b ∈ l, bf < b.id ∧ b.id ≤ s.nn - 1 ∧ mayNt s b = true) ∧ l.Pairwise fun a b => a.id < b.id
  | [], _, _ => ⟨fun b hb => by simp at hb, List.Pairwise.nil⟩
  | x :: l, bf, h => by
    have h' : (inI x.id (bf + 1) (s.nn - 1) && (mayNt s x && notesFrom s x.id l)) = true := h
    simp only [Bool.and_eq_true] at h'
    obtain ⟨h1, h2, h4⟩ := h'
    have hb := inI_bd h1
    obtain ⟨i1, i2⟩ := notes_all l x.id h4
    refine ⟨fun b hm => ?_, List.Pairwise.cons (fun b hm => (i1 b hm).1) i2⟩
    rcases List.mem_cons.1 hm with rfl | hm
    · exact ⟨by omega, hb.2, h2⟩
    · have := i1 b hm
      exact ⟨by omega, this.2⟩
structure MayF (s : Sf) : Prop where
  nb : 1 ≤ s.nb ∧ s.nb ≤ 65536
  nn : 1 ≤ s.nn ∧ s.nn ≤ 65536
  ns : 1 ≤ s.ns ∧ s.ns ≤ 4096
  bl : s.bs.length ≤ 6
  tl : s.ts.length ≤ 12
  bs : ∀ b ∈ s.bs, 0 < b.id ∧ b.id ≤ s.nb - 1 ∧ mayN b.nm = true ∧ bookTk s b.nm b.id = false
  bo : s.bs.Pairwise fun a b => a.id < b.id
  ts : ∀ n ∈ s.ts, 0 < n.id ∧ n.id ≤ s.nn - 1 ∧ mayNt s n = true
  tord : s.ts.Pairwise fun a b => a.id < b.id
  sh : sheetsFrom s.ns [] s.ts = true
theorem mayF_of {s : Sf} (h : mayS s = true) : MayF s := by
  unfold mayS at h
  simp only [Bool.and_eq_true, decide_eq_true_eq] at h
  obtain ⟨h1, h2, h3, ⟨h4, h5⟩, ⟨h6, h7⟩, h8⟩ := h
  exact ⟨inI_bd h1, inI_bd h2, inI_bd h3, h4, h6, (books_all _ _ h5).1, (books_all _ _ h5).2, (notes_all _ _ h7).1, (notes_all _ _ h7).2, h8⟩
theorem MayF.names {s : Sf} (h : MayF s) {a b : Bk} (ha : a ∈ s.bs) (hb : b ∈ s.bs) (he : a.nm.toList = b.nm.toList) : a.id = b.id := by
  have := (h.bs b hb).2.2.2
  unfold bookTk at this
  rw [List.any_eq_false] at this
  have h2 := this a ha
  simpa [sameS, he] using h2
theorem MayF.book {s : Sf} (h : MayF s) {n : Nt} (hn : n ∈ s.ts) : 0 ≤ bookAt s n.bk := by
  have := (h.ts n hn).2.2
  unfold mayNt at this
  simp only [Bool.and_eq_true, decide_eq_true_eq] at this
  exact this.2.1
end Go.Proofs.YtokhapafpjejaaaGreatDoor
namespace Go.Proofs.YtokhapafpjejaaaGreatDoor
open Go.ChangeShapes Go.WideShapes Go.ChangeAt Go.RowKit
attribute [local go_sem ↓] Go.wp_at_zero Go.wp_at_succ
theorem less_irr : ∀ x : List UInt8, Op.bytesLess x x = false
  | [] => rfl
  | a :: x => by
    unfold Op.bytesLess
    simp [less_irr x]
theorem cmp_less : ∀ a b : List UInt8, Op.bytesLess a b = decide (Lib.compareBytes a b < 0)
  | [], [] => rfl
  | [], _ :: _ => rfl
  | _ :: _, [] => rfl
  | x :: a, y :: b => by
    unfold Op.bytesLess Lib.compareBytes
    rw [cmp_less a b]
    simp only [UInt8.lt_iff_toNat_lt]
    by_cases p1 : x.toNat < y.toNat
    · simp [p1]
    · by_cases p2 : y.toNat < x.toNat
      · have : ¬ x = y := fun h => by rw [h] at p2; omega
        simp [p1, p2, this]
      · have : x = y := UInt8.toNat_inj.1 (by omega)
        simp [this]
theorem cmp_tri : ∀ a b : List UInt8, ¬ Lib.compareBytes a b < 0 → ¬ Lib.compareBytes b a < 0 → a = b
  | [], [], _, _ => rfl
  | [], _ :: _, h, _ => absurd (by simp [Lib.compareBytes]) h
  | _ :: _, [], _, h => absurd (by simp [Lib.compareBytes]) h
  | x :: a, y :: b, h1, h2 => by
    unfold Lib.compareBytes at h1 h2
    simp only [UInt8.lt_iff_toNat_lt] at h1 h2
    by_cases p1 : x.toNat < y.toNat
    · rw [if_pos p1] at h1; exact absurd (by decide) h1
    · by_cases p2 : y.toNat < x.toNat
      · rw [if_pos p2] at h2; exact absurd (by decide) h2
      · rw [if_neg p1, if_neg p2] at h1
        rw [if_neg p2, if_neg p1] at h2
        have : x = y := UInt8.toNat_inj.1 (by omega)
        rw [this, cmp_tri a b h1 h2]
def cntB (ts : List Nt) (L : List Int) : Nat := (L.map fun x => (ts.filter fun n => n.bk == x).length).sum
structure LstF (s : Sf) (its : List It) : Prop where
  len : its.length = s.bs.length
  book : ∀ x ∈ its, 0 ≤ bookAt s x.id
  less : ∀ (k : Nat) (x y : It), its[k]? = some x → its[k + 1]? = some y → Op.bytesLess x.nm.toList y.nm.toList = true
  all : cntB s.ts (its.map It.id) = s.ts.length
theorem book_is {s : Sf} (x : Int) : (0 ≤ bookAt s x) ↔ ∃ b ∈ s.bs, b.id = x := by
  have := idxP_ge (fun b : Bk => b.id == x) s.bs
  unfold bookAt
  constructor
  · intro h
    rw [decide_eq_true h] at this
    obtain ⟨b, hb, he⟩ := List.any_eq_true.1 this.symm
    exact ⟨b, hb, by simpa using he⟩
  · rintro ⟨b, hb, rfl⟩
    rw [List.any_eq_true.2 ⟨b, hb, by simp⟩] at this
    exact of_decide_eq_true this
structure NtsF (s : Sf) (x : Int) (its : List It) : Prop where
  len : its.length = (s.ts.filter fun n => n.bk == x).length
  note : ∀ y ∈ its, ∃ n ∈ s.ts, n.bk = x ∧ ntIt n = y
  less : ∀ (k : Nat) (y z : It), its[k]? = some y → its[k + 1]? = some z → Op.bytesLess y.nm.toList z.nm.toList = true
theorem MayF.nnames {s : Sf} (h : MayF s) {a b : Nt} (ha : a ∈ s.ts) (hb : b ∈ s.ts) (hk : a.bk = b.bk) (he : a.nm.toList = b.nm.toList) : a.id = b.id := by
  have h1 := (h.ts b hb).2.2
  unfold mayNt at h1
  simp only [Bool.and_eq_true, Bool.not_eq_true'] at h1
  have h2 := h1.2.2.1
  unfold noteTk at h2
  rw [List.any_eq_false] at h2
  have h3 := h2 a ha
  simpa [sameS, he, hk] using h3
end Go.Proofs.YtokhapafpjejaaaGreatDoor
namespace Go.Proofs.YtokhapafpjejaaaGreatDoor
open Go.ChangeShapes Go.WideShapes Go.ChangeAt Go.RowKit
attribute [local go_sem ↓] Go.wp_at_zero Go.wp_at_succ
theorem results_cell1 {P : Program} {fn : Func} {p q : Tmp} {ty : TypeId} (h : fn.results = #[.cell p ty, .tmp q]) (tmps : Array Value) (w : World) (g : Nat) (t : TypeId) (cs : Array Value) (fr : Nat × Nat) (d : TypeDesc)
    (hp : tmps.getD p undef = .pointer (some ⟨g, 0, none⟩)) (hg : w.heap[g]? = some (.cells cs t fr))
    (hu : P.underlying ty = some d) (hd : (match d with | .struct _ | .array _ _ => true | _ => false) = true) (hi : (P.info? ty).map (·.size) = some cs.size) :
    (results fn tmps).run P w = .ok (.tuple #[.agg cs, tmps.getD q undef]) w := by
  have hp' : tmps[p]?.getD undef = .pointer (some ⟨g, 0, none⟩) := by simpa using hp
  simp [results, h, hp', asAddr, run_loadVar_row w g t ty cs fr d hg hu hd hi]
theorem results_cell2 {P : Program} {fn : Func} {p q r : Tmp} {ty : TypeId} (h : fn.results = #[.cell p ty, .tmp q, .tmp r]) (tmps : Array Value) (w : World) (g : Nat) (t : TypeId) (cs : Array Value) (fr : Nat × Nat) (d : TypeDesc)
    (hp : tmps.getD p undef = .pointer (some ⟨g, 0, none⟩)) (hg : w.heap[g]? = some (.cells cs t fr))
    (hu : P.underlying ty = some d) (hd : (match d with | .struct _ | .array _ _ => true | _ => false) = true) (hi : (P.info? ty).map (·.size) = some cs.size) :
    (results fn tmps).run P w = .ok (.tuple #[.agg cs, tmps.getD q undef, tmps.getD r undef]) w := by
  have hp' : tmps[p]?.getD undef = .pointer (some ⟨g, 0, none⟩) := by simpa using hp
  simp [results, h, hp', asAddr, run_loadVar_row w g t ty cs fr d hg hu hd hi]
theorem Blk.st5_ {w : World} {g : Nat} {t : TypeId} {p0 p1 p2 p3 p4 : Value} (h : Blk w g t #[p0, p1, p2, p3, p4]) (a0 a1 a2 a3 a4 : Value) : Blk (st5 w g 0 a0 a1 a2 a3 a4) g t #[a0, a1, a2, a3, a4] := by
  have := (Blk.set_ (Blk.set_ (Blk.set_ (Blk.set_ (Blk.set_ h 0 a0) 1 a1) 2 a2) 3 a3) 4 a4)
  simpa [st5] using this
theorem st5_grown (w : World) (g o : Nat) (a0 a1 a2 a3 a4 : Value) : w.grownBy (st5 w g o a0 a1 a2 a3 a4) (some g) := grown_set (grown_set (grown_set (grown_set (grown_set (World.grownBy.refl w _) _ _) _ _) _ _) _ _) _ _
theorem st5_below {B g : Nat} {w w1 : World} (h : Below B w w1) (hB : B ≤ g) (o : Nat) (a0 a1 a2 a3 a4 : Value) (h0 : B ≤ w1.heap.size := by first | omega | exact (Below.size ‹_›)) : Below B w (st5 w1 g o a0 a1 a2 a3 a4) := below_grown h (st5_grown w1 g o a0 a1 a2 a3 a4) hB h0
def fullB (s : Sf) : Bool := decide (6 ≤ s.bs.length) || decide (65536 ≤ s.nb)
def makeC (s : Sf) (x : ByteArray) : Int := cond (mayS s) (cond (mayN x) (cond (bookTk s x 0) 7 (cond (fullB s) 3 0)) 6) 2
def makeS (s : Sf) (x : ByteArray) : Sf := { s with nb := s.nb + 1, bs := s.bs ++ [⟨s.nb, x⟩] }
theorem empty_any (w : World) :
    Calls Tryz.prog 26 #[] w fun e' w' => e' = .returned (.agg #[.int .i64 1, .int .i64 1, .int .i64 1, .slice none 0 0, .slice none 0 0]) ∧ Below w.heap.size w w' := by
  have B1 : Blk (w.alloc (.cells #[.int .i64 0, .int .i64 0, .int .i64 0, .slice none 0 0, .slice none 0 0] 25)) w.heap.size 25 #[.int .i64 0, .int .i64 0, .int .i64 0, .slice none 0 0, .slice none 0 0] := Blk.new_ w 25 #[.int .i64 0, .int .i64 0, .int .i64 0, .slice none 0 0, .slice none 0 0]
  have HB : Below w.heap.size w (w.alloc (.cells #[.int .i64 0, .int .i64 0, .int .i64 0, .slice none 0 0, .slice none 0 0] 25)) := (Below.refl w.heap.size w).alloc (Nat.le_refl _) _
  go_enter Tryz.func26, Tryz.ntmps26
  go_wp2_with fail
  change bodyPost _ _ _ _ _ (w.alloc (.cells #[.int .i64 1, .int .i64 1, .int .i64 1, .slice none 0 0, .slice none 0 0] 25))
  have B2u : Blk (w.alloc (.cells #[.int .i64 1, .int .i64 1, .int .i64 1, .slice none 0 0, .slice none 0 0] 25)) w.heap.size 25 #[.int .i64 1, .int .i64 1, .int .i64 1, .slice none 0 0, .slice none 0 0] := Blk.new_ w 25 _
  have hb2 : Below w.heap.size w (w.alloc (.cells #[.int .i64 1, .int .i64 1, .int .i64 1, .slice none 0 0, .slice none 0 0] 25)) := (Below.refl w.heap.size w).alloc (Nat.le_refl _) _
  generalize w.alloc (.cells #[.int .i64 1, .int .i64 1, .int .i64 1, .slice none 0 0, .slice none 0 0] 25) = Wd at B2u hb2 ⊢
  apply bodyPost_ret (v := .agg #[.int .i64 1, .int .i64 1, .int .i64 1, .slice none 0 0, .slice none 0 0])
  · exact results_cell_row Tryz.results26 _ Wd w.heap.size 25 _ (0, 0) _ rfl B2u Tryz.underlying25 rfl (by kernel_rfl)
  · rfl
  · exact ⟨rfl, hb2⟩
theorem make_no (s : Sf) (v : Value) (x : ByteArray) (w : World) (hS : ShR w w.heap.size v s) (hT : Tabs w) (c : Int) (hc : makeC s x = c) (hne : c ≠ 0) :
    Calls Tryz.prog 29 #[v, .string x] w fun e' w' => e' = .returned (.tuple #[.agg #[.int .i64 0, .int .i64 0, .int .i64 0, .slice none 0 0, .slice none 0 0], .int .i64 0, .int .i64 c]) ∧ Below w.heap.size w w' := by
  have hS0 := hS
  obtain ⟨Ab, cb, An, cn, rfl, hB, hN, hcb, hmb, hcn, hmn⟩ := hS.ex
  clear hS
  have HB : Below w.heap.size w ((w.alloc (.cells #[.int .i64 s.nb, .int .i64 s.nn, .int .i64 s.ns, .slice Ab s.bs.length cb, .slice An s.ts.length cn] 25)).alloc (.cells #[.int .i64 0, .int .i64 0, .int .i64 0, .slice none 0 0, .slice none 0 0] 25)) := (((Below.refl w.heap.size w).alloc (by first | (simp; done) | (simp; omega)) _).alloc (by first | (simp; done) | (simp; omega)) _)
  have B1 : Blk ((w.alloc (.cells #[.int .i64 s.nb, .int .i64 s.nn, .int .i64 s.ns, .slice Ab s.bs.length cb, .slice An s.ts.length cn] 25)).alloc (.cells #[.int .i64 0, .int .i64 0, .int .i64 0, .slice none 0 0, .slice none 0 0] 25)) w.heap.size 25 #[.int .i64 s.nb, .int .i64 s.nn, .int .i64 s.ns, .slice Ab s.bs.length cb, .slice An s.ts.length cn] := (Blk.new_ w 25 #[.int .i64 s.nb, .int .i64 s.nn, .int .i64 s.ns, .slice Ab s.bs.length cb, .slice An s.ts.length cn]).alloc_ (.cells #[.int .i64 0, .int .i64 0, .int .i64 0, .slice none 0 0, .slice none 0 0] 25)
  have B2 : Blk ((w.alloc (.cells #[.int .i64 s.nb, .int .i64 s.nn, .int .i64 s.ns, .slice Ab s.bs.length cb, .slice An s.ts.length cn] 25)).alloc (.cells #[.int .i64 0, .int .i64 0, .int .i64 0, .slice none 0 0, .slice none 0 0] 25)) (w.heap.size + 1) 25 #[.int .i64 0, .int .i64 0, .int .i64 0, .slice none 0 0, .slice none 0 0] := by
    have := Blk.new_ (w.alloc (.cells #[.int .i64 s.nb, .int .i64 s.nn, .int .i64 s.ns, .slice Ab s.bs.length cb, .slice An s.ts.length cn] 25)) 25 #[.int .i64 0, .int .i64 0, .int .i64 0, .slice none 0 0, .slice none 0 0]
    simpa using this
  have S1 : ShR ((w.alloc (.cells #[.int .i64 s.nb, .int .i64 s.nn, .int .i64 s.ns, .slice Ab s.bs.length cb, .slice An s.ts.length cn] 25)).alloc (.cells #[.int .i64 0, .int .i64 0, .int .i64 0, .slice none 0 0, .slice none 0 0] 25)) (((w.alloc (.cells #[.int .i64 s.nb, .int .i64 s.nn, .int .i64 s.ns, .slice Ab s.bs.length cb, .slice An s.ts.length cn] 25)).alloc (.cells #[.int .i64 0, .int .i64 0, .int .i64 0, .slice none 0 0, .slice none 0 0] 25))).heap.size (.agg #[.int .i64 s.nb, .int .i64 s.nn, .int .i64 s.ns, .slice Ab s.bs.length cb, .slice An s.ts.length cn]) s := hS0.next HB
  have T1 := hT.next HB
  clear hS0 hT hB hN hcb hmb hcn hmn
  obtain ⟨M, hM⟩ : ∃ M, mayS s = M := ⟨_, rfl⟩
  obtain ⟨N, hN⟩ : ∃ N, mayN x = N := ⟨_, rfl⟩
  obtain ⟨K_, hK⟩ : ∃ K, bookTk s x 0 = K := ⟨_, rfl⟩
  unfold makeC at hc
  rw [hM, hN, hK] at hc
  have HM := Lib.hid hM
  have HN : Hid (nameB x.data.toList = N) := Lib.hid hN
  have HK := Lib.hid hK
  clear hM hN hK
  obtain ⟨n, hn⟩ : ∃ n, s.bs.length = n := ⟨_, rfl⟩
  have hf : fullB s = (decide (6 ≤ n) || decide (65536 ≤ s.nb)) := by unfold fullB; rw [hn]
  rw [hf] at hc
  rw [hn] at HB B1 S1 T1 B2 ⊢
  clear hf hn
  cases M
  · obtain rfl : c = 2 := hc.symm
    clear hc hne
    go_enter Tryz.func29, Tryz.ntmps29
    go_wp2_with (first | (go_at_call 10; ((with_reducible refine (smay_any s _ _ S1 T1 _ HM.out).mono ?_); rintro e' w3 ⟨rfl, bx⟩; have S1 := S1.next bx; have T1 := T1.next bx; have B1 := B1.below bx B1.lt; have B2 := B2.below bx B2.lt; have HB := btr HB HB.size bx; (try clear k0 k1 k2 k3 k4 r0 r1 r2 r3 r4 t0 t1 t2 t3 t4); have k0 := B1.cell_ 0; have r0 := B2.cell_ 0; have t0 := B2.free 0; have k1 := B1.cell_ 1; have r1 := B2.cell_ 1; have t1 := B2.free 1; have k2 := B1.cell_ 2; have r2 := B2.cell_ 2; have t2 := B2.free 2; have k3 := B1.cell_ 3; have r3 := B2.cell_ 3; have t3 := B2.free 3; have k4 := B1.cell_ 4; have r4 := B2.cell_ 4; have t4 := B2.free 4; simp at k0 k1 k2 k3 k4 r0 r1 r2 r3 r4; clear bx)))
    have B2u := B2.st5_ (.int .i64 0) (.int .i64 0) (.int .i64 0) (.slice none 0 0) (.slice none 0 0)
    have hb2 := st5_below HB (g := w.heap.size + 1) (by omega) 0 (.int .i64 0) (.int .i64 0) (.int .i64 0) (.slice none 0 0) (.slice none 0 0)
    change bodyPost _ _ _ _ _ (st5 w3 (w.heap.size + 1) 0 (.int .i64 0) (.int .i64 0) (.int .i64 0) (.slice none 0 0) (.slice none 0 0))
    generalize st5 w3 (w.heap.size + 1) 0 (.int .i64 0) (.int .i64 0) (.int .i64 0) (.slice none 0 0) (.slice none 0 0) = Wd at B2u hb2 ⊢
    apply bodyPost_ret (v := .tuple #[.agg #[.int .i64 0, .int .i64 0, .int .i64 0, .slice none 0 0, .slice none 0 0], .int .i64 0, .int .i64 2])
    · exact results_cell2 Tryz.results29 _ Wd (w.heap.size + 1) 25 #[.int .i64 0, .int .i64 0, .int .i64 0, .slice none 0 0, .slice none 0 0] (0, 0) _ rfl B2u Tryz.underlying25 rfl (by kernel_rfl)
    · rfl
    · exact ⟨rfl, hb2⟩
  · cases N
    · obtain rfl : c = 6 := hc.symm
      clear hc hne
      go_enter Tryz.func29, Tryz.ntmps29
      go_wp2_with (first | (go_at_call 10; ((with_reducible refine (smay_any s _ _ S1 T1 _ HM.out).mono ?_); rintro e' w3 ⟨rfl, bx⟩; have S1 := S1.next bx; have T1 := T1.next bx; have B1 := B1.below bx B1.lt; have B2 := B2.below bx B2.lt; have HB := btr HB HB.size bx; (try clear k0 k1 k2 k3 k4 r0 r1 r2 r3 r4 t0 t1 t2 t3 t4); have k0 := B1.cell_ 0; have r0 := B2.cell_ 0; have t0 := B2.free 0; have k1 := B1.cell_ 1; have r1 := B2.cell_ 1; have t1 := B2.free 1; have k2 := B1.cell_ 2; have r2 := B2.cell_ 2; have t2 := B2.free 2; have k3 := B1.cell_ 3; have r3 := B2.cell_ 3; have t3 := B2.free 3; have k4 := B1.cell_ 4; have r4 := B2.cell_ 4; have t4 := B2.free 4; simp at k0 k1 k2 k3 k4 r0 r1 r2 r3 r4; clear bx)) | (go_at_call 61; ((with_reducible refine (nmay_any x _ _ T1 HN.out).mono ?_); rintro e' w4 ⟨rfl, bx⟩; have S1 := S1.next bx; have T1 := T1.next bx; have B1 := B1.below bx B1.lt; have B2 := B2.below bx B2.lt; have HB := btr HB HB.size bx; (try clear k0 k1 k2 k3 k4 r0 r1 r2 r3 r4 t0 t1 t2 t3 t4); have k0 := B1.cell_ 0; have r0 := B2.cell_ 0; have t0 := B2.free 0; have k1 := B1.cell_ 1; have r1 := B2.cell_ 1; have t1 := B2.free 1; have k2 := B1.cell_ 2; have r2 := B2.cell_ 2; have t2 := B2.free 2; have k3 := B1.cell_ 3; have r3 := B2.cell_ 3; have t3 := B2.free 3; have k4 := B1.cell_ 4; have r4 := B2.cell_ 4; have t4 := B2.free 4; simp at k0 k1 k2 k3 k4 r0 r1 r2 r3 r4; clear bx)))
      have B2u := B2.st5_ (.int .i64 0) (.int .i64 0) (.int .i64 0) (.slice none 0 0) (.slice none 0 0)
      have hb2 := st5_below HB (g := w.heap.size + 1) (by omega) 0 (.int .i64 0) (.int .i64 0) (.int .i64 0) (.slice none 0 0) (.slice none 0 0)
      change bodyPost _ _ _ _ _ (st5 w4 (w.heap.size + 1) 0 (.int .i64 0) (.int .i64 0) (.int .i64 0) (.slice none 0 0) (.slice none 0 0))
      generalize st5 w4 (w.heap.size + 1) 0 (.int .i64 0) (.int .i64 0) (.int .i64 0) (.slice none 0 0) (.slice none 0 0) = Wd at B2u hb2 ⊢
      apply bodyPost_ret (v := .tuple #[.agg #[.int .i64 0, .int .i64 0, .int .i64 0, .slice none 0 0, .slice none 0 0], .int .i64 0, .int .i64 6])
      · exact results_cell2 Tryz.results29 _ Wd (w.heap.size + 1) 25 #[.int .i64 0, .int .i64 0, .int .i64 0, .slice none 0 0, .slice none 0 0] (0, 0) _ rfl B2u Tryz.underlying25 rfl (by kernel_rfl)
      · rfl
      · exact ⟨rfl, hb2⟩
    · cases K_
      · by_cases h6 : 6 ≤ n
        · obtain rfl : c = 3 := by simpa [h6] using hc.symm
          have g6 : (6 : Int) ≤ (n : Int) := by omega
          clear hc hne h6
          go_enter Tryz.func29, Tryz.ntmps29
          go_wp2_with (first | (go_at_call 10; ((with_reducible refine (smay_any s _ _ S1 T1 _ HM.out).mono ?_); rintro e' w3 ⟨rfl, bx⟩; have S1 := S1.next bx; have T1 := T1.next bx; have B1 := B1.below bx B1.lt; have B2 := B2.below bx B2.lt; have HB := btr HB HB.size bx; (try clear k0 k1 k2 k3 k4 r0 r1 r2 r3 r4 t0 t1 t2 t3 t4); have k0 := B1.cell_ 0; have r0 := B2.cell_ 0; have t0 := B2.free 0; have k1 := B1.cell_ 1; have r1 := B2.cell_ 1; have t1 := B2.free 1; have k2 := B1.cell_ 2; have r2 := B2.cell_ 2; have t2 := B2.free 2; have k3 := B1.cell_ 3; have r3 := B2.cell_ 3; have t3 := B2.free 3; have k4 := B1.cell_ 4; have r4 := B2.cell_ 4; have t4 := B2.free 4; simp at k0 k1 k2 k3 k4 r0 r1 r2 r3 r4; clear bx)) | (go_at_call 61; ((with_reducible refine (nmay_any x _ _ T1 HN.out).mono ?_); rintro e' w4 ⟨rfl, bx⟩; have S1 := S1.next bx; have T1 := T1.next bx; have B1 := B1.below bx B1.lt; have B2 := B2.below bx B2.lt; have HB := btr HB HB.size bx; (try clear k0 k1 k2 k3 k4 r0 r1 r2 r3 r4 t0 t1 t2 t3 t4); have k0 := B1.cell_ 0; have r0 := B2.cell_ 0; have t0 := B2.free 0; have k1 := B1.cell_ 1; have r1 := B2.cell_ 1; have t1 := B2.free 1; have k2 := B1.cell_ 2; have r2 := B2.cell_ 2; have t2 := B2.free 2; have k3 := B1.cell_ 3; have r3 := B2.cell_ 3; have t3 := B2.free 3; have k4 := B1.cell_ 4; have r4 := B2.cell_ 4; have t4 := B2.free 4; simp at k0 k1 k2 k3 k4 r0 r1 r2 r3 r4; clear bx)) | (go_at_call 62; ((with_reducible refine (bTaken_any s _ x _ _ S1 _ HK.out).mono ?_); rintro e' w5 ⟨rfl, bx⟩; have S1 := S1.next bx; have T1 := T1.next bx; have B1 := B1.below bx B1.lt; have B2 := B2.below bx B2.lt; have HB := btr HB HB.size bx; (try clear k0 k1 k2 k3 k4 r0 r1 r2 r3 r4 t0 t1 t2 t3 t4); have k0 := B1.cell_ 0; have r0 := B2.cell_ 0; have t0 := B2.free 0; have k1 := B1.cell_ 1; have r1 := B2.cell_ 1; have t1 := B2.free 1; have k2 := B1.cell_ 2; have r2 := B2.cell_ 2; have t2 := B2.free 2; have k3 := B1.cell_ 3; have r3 := B2.cell_ 3; have t3 := B2.free 3; have k4 := B1.cell_ 4; have r4 := B2.cell_ 4; have t4 := B2.free 4; simp at k0 k1 k2 k3 k4 r0 r1 r2 r3 r4; clear bx)))
          have B2u := B2.st5_ (.int .i64 0) (.int .i64 0) (.int .i64 0) (.slice none 0 0) (.slice none 0 0)
          have hb2 := st5_below HB (g := w.heap.size + 1) (by omega) 0 (.int .i64 0) (.int .i64 0) (.int .i64 0) (.slice none 0 0) (.slice none 0 0)
          change bodyPost _ _ _ _ _ (st5 w5 (w.heap.size + 1) 0 (.int .i64 0) (.int .i64 0) (.int .i64 0) (.slice none 0 0) (.slice none 0 0))
          generalize st5 w5 (w.heap.size + 1) 0 (.int .i64 0) (.int .i64 0) (.int .i64 0) (.slice none 0 0) (.slice none 0 0) = Wd at B2u hb2 ⊢
          apply bodyPost_ret (v := .tuple #[.agg #[.int .i64 0, .int .i64 0, .int .i64 0, .slice none 0 0, .slice none 0 0], .int .i64 0, .int .i64 3])
          · exact results_cell2 Tryz.results29 _ Wd (w.heap.size + 1) 25 #[.int .i64 0, .int .i64 0, .int .i64 0, .slice none 0 0, .slice none 0 0] (0, 0) _ rfl B2u Tryz.underlying25 rfl (by kernel_rfl)
          · rfl
          · exact ⟨rfl, hb2⟩
        · by_cases h7 : 65536 ≤ s.nb
          · obtain rfl : c = 3 := by simpa [h6, h7] using hc.symm
            have g6 : ¬ (6 : Int) ≤ (n : Int) := by omega
            clear hc hne h6
            go_enter Tryz.func29, Tryz.ntmps29
            go_wp2_with (first | (go_at_call 10; ((with_reducible refine (smay_any s _ _ S1 T1 _ HM.out).mono ?_); rintro e' w3 ⟨rfl, bx⟩; have S1 := S1.next bx; have T1 := T1.next bx; have B1 := B1.below bx B1.lt; have B2 := B2.below bx B2.lt; have HB := btr HB HB.size bx; (try clear k0 k1 k2 k3 k4 r0 r1 r2 r3 r4 t0 t1 t2 t3 t4); have k0 := B1.cell_ 0; have r0 := B2.cell_ 0; have t0 := B2.free 0; have k1 := B1.cell_ 1; have r1 := B2.cell_ 1; have t1 := B2.free 1; have k2 := B1.cell_ 2; have r2 := B2.cell_ 2; have t2 := B2.free 2; have k3 := B1.cell_ 3; have r3 := B2.cell_ 3; have t3 := B2.free 3; have k4 := B1.cell_ 4; have r4 := B2.cell_ 4; have t4 := B2.free 4; simp at k0 k1 k2 k3 k4 r0 r1 r2 r3 r4; clear bx)) | (go_at_call 61; ((with_reducible refine (nmay_any x _ _ T1 HN.out).mono ?_); rintro e' w4 ⟨rfl, bx⟩; have S1 := S1.next bx; have T1 := T1.next bx; have B1 := B1.below bx B1.lt; have B2 := B2.below bx B2.lt; have HB := btr HB HB.size bx; (try clear k0 k1 k2 k3 k4 r0 r1 r2 r3 r4 t0 t1 t2 t3 t4); have k0 := B1.cell_ 0; have r0 := B2.cell_ 0; have t0 := B2.free 0; have k1 := B1.cell_ 1; have r1 := B2.cell_ 1; have t1 := B2.free 1; have k2 := B1.cell_ 2; have r2 := B2.cell_ 2; have t2 := B2.free 2; have k3 := B1.cell_ 3; have r3 := B2.cell_ 3; have t3 := B2.free 3; have k4 := B1.cell_ 4; have r4 := B2.cell_ 4; have t4 := B2.free 4; simp at k0 k1 k2 k3 k4 r0 r1 r2 r3 r4; clear bx)) | (go_at_call 62; ((with_reducible refine (bTaken_any s _ x _ _ S1 _ HK.out).mono ?_); rintro e' w5 ⟨rfl, bx⟩; have S1 := S1.next bx; have T1 := T1.next bx; have B1 := B1.below bx B1.lt; have B2 := B2.below bx B2.lt; have HB := btr HB HB.size bx; (try clear k0 k1 k2 k3 k4 r0 r1 r2 r3 r4 t0 t1 t2 t3 t4); have k0 := B1.cell_ 0; have r0 := B2.cell_ 0; have t0 := B2.free 0; have k1 := B1.cell_ 1; have r1 := B2.cell_ 1; have t1 := B2.free 1; have k2 := B1.cell_ 2; have r2 := B2.cell_ 2; have t2 := B2.free 2; have k3 := B1.cell_ 3; have r3 := B2.cell_ 3; have t3 := B2.free 3; have k4 := B1.cell_ 4; have r4 := B2.cell_ 4; have t4 := B2.free 4; simp at k0 k1 k2 k3 k4 r0 r1 r2 r3 r4; clear bx)))
            have B2u := B2.st5_ (.int .i64 0) (.int .i64 0) (.int .i64 0) (.slice none 0 0) (.slice none 0 0)
            have hb2 := st5_below HB (g := w.heap.size + 1) (by omega) 0 (.int .i64 0) (.int .i64 0) (.int .i64 0) (.slice none 0 0) (.slice none 0 0)
            change bodyPost _ _ _ _ _ (st5 w5 (w.heap.size + 1) 0 (.int .i64 0) (.int .i64 0) (.int .i64 0) (.slice none 0 0) (.slice none 0 0))
            generalize st5 w5 (w.heap.size + 1) 0 (.int .i64 0) (.int .i64 0) (.int .i64 0) (.slice none 0 0) (.slice none 0 0) = Wd at B2u hb2 ⊢
            apply bodyPost_ret (v := .tuple #[.agg #[.int .i64 0, .int .i64 0, .int .i64 0, .slice none 0 0, .slice none 0 0], .int .i64 0, .int .i64 3])
            · exact results_cell2 Tryz.results29 _ Wd (w.heap.size + 1) 25 #[.int .i64 0, .int .i64 0, .int .i64 0, .slice none 0 0, .slice none 0 0] (0, 0) _ rfl B2u Tryz.underlying25 rfl (by kernel_rfl)
            · rfl
            · exact ⟨rfl, hb2⟩
          · exact absurd (by simpa [h6, h7] using hc.symm) hne
      · obtain rfl : c = 7 := hc.symm
        clear hc hne
        go_enter Tryz.func29, Tryz.ntmps29
        go_wp2_with (first | (go_at_call 10; ((with_reducible refine (smay_any s _ _ S1 T1 _ HM.out).mono ?_); rintro e' w3 ⟨rfl, bx⟩; have S1 := S1.next bx; have T1 := T1.next bx; have B1 := B1.below bx B1.lt; have B2 := B2.below bx B2.lt; have HB := btr HB HB.size bx; (try clear k0 k1 k2 k3 k4 r0 r1 r2 r3 r4 t0 t1 t2 t3 t4); have k0 := B1.cell_ 0; have r0 := B2.cell_ 0; have t0 := B2.free 0; have k1 := B1.cell_ 1; have r1 := B2.cell_ 1; have t1 := B2.free 1; have k2 := B1.cell_ 2; have r2 := B2.cell_ 2; have t2 := B2.free 2; have k3 := B1.cell_ 3; have r3 := B2.cell_ 3; have t3 := B2.free 3; have k4 := B1.cell_ 4; have r4 := B2.cell_ 4; have t4 := B2.free 4; simp at k0 k1 k2 k3 k4 r0 r1 r2 r3 r4; clear bx)) | (go_at_call 61; ((with_reducible refine (nmay_any x _ _ T1 HN.out).mono ?_); rintro e' w4 ⟨rfl, bx⟩; have S1 := S1.next bx; have T1 := T1.next bx; have B1 := B1.below bx B1.lt; have B2 := B2.below bx B2.lt; have HB := btr HB HB.size bx; (try clear k0 k1 k2 k3 k4 r0 r1 r2 r3 r4 t0 t1 t2 t3 t4); have k0 := B1.cell_ 0; have r0 := B2.cell_ 0; have t0 := B2.free 0; have k1 := B1.cell_ 1; have r1 := B2.cell_ 1; have t1 := B2.free 1; have k2 := B1.cell_ 2; have r2 := B2.cell_ 2; have t2 := B2.free 2; have k3 := B1.cell_ 3; have r3 := B2.cell_ 3; have t3 := B2.free 3; have k4 := B1.cell_ 4; have r4 := B2.cell_ 4; have t4 := B2.free 4; simp at k0 k1 k2 k3 k4 r0 r1 r2 r3 r4; clear bx)) | (go_at_call 62; ((with_reducible refine (bTaken_any s _ x _ _ S1 _ HK.out).mono ?_); rintro e' w5 ⟨rfl, bx⟩; have S1 := S1.next bx; have T1 := T1.next bx; have B1 := B1.below bx B1.lt; have B2 := B2.below bx B2.lt; have HB := btr HB HB.size bx; (try clear k0 k1 k2 k3 k4 r0 r1 r2 r3 r4 t0 t1 t2 t3 t4); have k0 := B1.cell_ 0; have r0 := B2.cell_ 0; have t0 := B2.free 0; have k1 := B1.cell_ 1; have r1 := B2.cell_ 1; have t1 := B2.free 1; have k2 := B1.cell_ 2; have r2 := B2.cell_ 2; have t2 := B2.free 2; have k3 := B1.cell_ 3; have r3 := B2.cell_ 3; have t3 := B2.free 3; have k4 := B1.cell_ 4; have r4 := B2.cell_ 4; have t4 := B2.free 4; simp at k0 k1 k2 k3 k4 r0 r1 r2 r3 r4; clear bx)))
        have B2u := B2.st5_ (.int .i64 0) (.int .i64 0) (.int .i64 0) (.slice none 0 0) (.slice none 0 0)
        have hb2 := st5_below HB (g := w.heap.size + 1) (by omega) 0 (.int .i64 0) (.int .i64 0) (.int .i64 0) (.slice none 0 0) (.slice none 0 0)
        change bodyPost _ _ _ _ _ (st5 w5 (w.heap.size + 1) 0 (.int .i64 0) (.int .i64 0) (.int .i64 0) (.slice none 0 0) (.slice none 0 0))
        generalize st5 w5 (w.heap.size + 1) 0 (.int .i64 0) (.int .i64 0) (.int .i64 0) (.slice none 0 0) (.slice none 0 0) = Wd at B2u hb2 ⊢
        apply bodyPost_ret (v := .tuple #[.agg #[.int .i64 0, .int .i64 0, .int .i64 0, .slice none 0 0, .slice none 0 0], .int .i64 0, .int .i64 7])
        · exact results_cell2 Tryz.results29 _ Wd (w.heap.size + 1) 25 #[.int .i64 0, .int .i64 0, .int .i64 0, .slice none 0 0, .slice none 0 0] (0, 0) _ rfl B2u Tryz.underlying25 rfl (by kernel_rfl)
        · rfl
        · exact ⟨rfl, hb2⟩
end Go.Proofs.YtokhapafpjejaaaGreatDoor
namespace Go.Proofs.YtokhapafpjejaaaGreatDoor
open Go.ChangeShapes Go.WideShapes Go.ChangeAt Go.RowKit
attribute [local go_sem ↓] Go.wp_at_zero Go.wp_at_succ
theorem sheets_small {ns : Int} : ∀ (l : List Nt) (seen : List Int), sheetsFrom ns seen l = true → ∀ n ∈ l, n.sh.length ≤ 8
  | [], _, _, n, hn => by simp at hn
  | x :: l, seen, h, n, hn => by
    unfold sheetsFrom at h
    simp only [Bool.and_eq_true, decide_eq_true_eq] at h
    rcases List.mem_cons.1 hn with rfl | hn
    · exact h.1
    · exact sheets_small l _ h.2.2 n hn
theorem MayF.small {s : Sf} (h : MayF s) : ∀ n ∈ s.ts, n.tg.length ≤ 100000 ∧ n.sh.length ≤ 100000 := by
  intro n hn
  have h1 := (h.ts n hn).2.2
  unfold mayNt mayTg at h1
  simp only [Bool.and_eq_true, decide_eq_true_eq] at h1
  have h2 := sheets_small _ _ h.sh n hn
  have h3 := h1.2.2.2.1
  omega
theorem bk_snoc (l : List Bk) (b : Bk) : ((l ++ [b]).map bkC).flatten = (l.map bkC).flatten ++ bkC b := by
  rw [List.map_append, List.flatten_append]
  simp
theorem infoBk : (Tryz.prog.info? 59).map (fun i => (i.zero, i.size, i.bytes)) = some (some (.agg #[.int .i64 0, .string ByteArray.empty]), 2, 24) := by kernel_rfl
theorem rd_newB (w : World) (b : Bk) {g : Nat} (hg : g = w.heap.size) : Rd (w.alloc (.cells #[.int .i64 b.id, .string b.nm] 59)) (some ⟨g, 0, none⟩) 1 2 (bkC b) := by
  subst hg
  refine ⟨rfl, Or.inr ⟨_, 0, rfl, fun j u hj => ?_⟩⟩
  rw [Joins.cell_of_block (heap_alloc_new w _), Nat.zero_add]
  simpa [bkC] using hj
theorem bkC_one (b : Bk) : ∀ u ∈ bkC b, u.oneCell' = true := by
  intro u hu
  simp [bkC] at hu
  rcases hu with rfl | rfl <;> rfl
def NtsW (w : World) (base : Nat) (vn : Value) (ts : List Nt) : Prop := ∃ es : List (List Value), es.length = ts.length ∧ w.ownsRow base 46 5 vn ts.length es.flatten ∧ ∀ (k : Nat) (n : Nt) (e : List Value), ts[k]? = some n → es[k]? = some e → NtW w base n e
def BksW (w : World) (base : Nat) (vb : Value) (bs : List Bk) : Prop := w.ownsRow base 59 2 vb bs.length (bs.map bkC).flatten
theorem NtsW.below {w w' : World} {base : Nat} {vn : Value} {ts : List Nt} (h : NtsW w base vn ts) (hb : Below w.heap.size w w') : NtsW w' base vn ts := by
  obtain ⟨es, h1, h2, h3⟩ := h
  exact ⟨es, h1, own_belowW h2 hb, fun k n e a b => (h3 k n e a b).below hb⟩
theorem NtsW.far {w w' : World} {base g : Nat} {vn : Value} {ts : List Nt} (h : NtsW w base vn ts) (hg : w.grownBy w' (some g)) (hb : g < base) : NtsW w' base vn ts := by
  obtain ⟨es, h1, h2, h3⟩ := h
  refine ⟨es, h1, h2.kept hg (own_off h2 hb), fun k n e a b => ?_⟩
  obtain ⟨vt, vs, r, q1, q2⟩ := h3 k n e a b
  exact ⟨vt, vs, r, q1.kept hg (own_off q1 hb), q2.kept hg (own_off q2 hb)⟩
theorem NtsW.apart {w w' : World} {base b2 C2 n2 : Nat} {vn v2 : Value} {ts : List Nt} {x2 : List Value} (h : NtsW w base vn ts) (h2 : w.ownsRow b2 59 C2 v2 n2 x2) (hg : w.grownBy w' v2.ownBlock) : NtsW w' base vn ts := by
  obtain ⟨es, h1, h3, h4⟩ := h
  exact ⟨es, h1, h3.kept hg (own_apart h3 h2 (by decide)), fun k n e a b => (h4 k n e a b).kept h2 hg (by decide) (by decide)⟩
theorem BksW.below {w w' : World} {base : Nat} {vb : Value} {bs : List Bk} (h : BksW w base vb bs) (hb : Below w.heap.size w w') : BksW w' base vb bs := own_belowW h hb
theorem BksW.far {w w' : World} {base g : Nat} {vb : Value} {bs : List Bk} (h : BksW w base vb bs) (hg : w.grownBy w' (some g)) (hb : g < base) : BksW w' base vb bs := World.ownsRow.kept h hg (own_off h hb)
theorem ShW.parts {w : World} {base : Nat} {v : Value} {s : Sf} (h : ShW w base v s) : ∃ (Ab : Option Addr) (cb : Nat) (An : Option Addr) (cn : Nat), v = .agg #[.int .i64 s.nb, .int .i64 s.nn, .int .i64 s.ns, .slice Ab s.bs.length cb, .slice An s.ts.length cn] ∧ BksW w base (.slice Ab s.bs.length cb) s.bs ∧ NtsW w base (.slice An s.ts.length cn) s.ts ∧ s.bs.length ≤ cb ∧ cb ≤ maxLen ∧ s.ts.length ≤ cn ∧ cn ≤ maxLen := by
  obtain ⟨vb, vn, es, rfl, h1, h2, h3, h4⟩ := h
  obtain ⟨Ab, cb, rfl, q1, q2⟩ := own_shape h1
  obtain ⟨An, cn, rfl, q3, q4⟩ := own_shape h3
  exact ⟨Ab, cb, An, cn, rfl, h1, ⟨es, h2, h3, h4⟩, q1, q2, q3, q4⟩
theorem ShW.make {w : World} {base : Nat} {s : Sf} {vb vn : Value} (h1 : BksW w base vb s.bs) (h2 : NtsW w base vn s.ts) : ShW w base (.agg #[.int .i64 s.nb, .int .i64 s.nn, .int .i64 s.ns, vb, vn]) s := by
  obtain ⟨es, q1, q2, q3⟩ := h2
  exact ⟨vb, vn, es, rfl, h1, q1, q2, q3⟩
theorem Blk.grownR {w w' : World} {g : Nat} {t : TypeId} {cs : Array Value} {row : Option Nat} (h : Blk w g t cs) (hg : w.grownBy w' row) (hne : row ≠ some g) : Blk w' g t cs := (hg.block g h.lt (fun e => hne e.symm)).trans h
theorem wrapS (x : Int) (h1 : -9223372036854775808 ≤ x) (h2 : x ≤ 9223372036854775807) : IntKind.i64.wrap x = x := by rw [IntKind.wrap_i64]; omega
theorem drew_cell {w : World} {p : Addr} {v : Value} (h : w.cell? p = some v) : w.drew.cell? p = some v := h
theorem drew_blk {w : World} {g : Nat} {t : TypeId} {cs : Array Value} (h : Blk w g t cs) : Blk w.drew g t cs := h
theorem drew_own {w : World} {base C n : Nat} {e : TypeId} {v : Value} {xs : List Value} (h : w.ownsRow base e C v n xs) : w.drew.ownsRow base e C v n xs := h
theorem drew_below {B : Nat} {w w' : World} (h : Below B w w') : Below B w w'.drew := below_dn h 1
theorem NtsW.drew_ {w : World} {base : Nat} {vn : Value} {ts : List Nt} (h : NtsW w base vn ts) : NtsW w.drew base vn ts := h.below (below_dn (Below.refl _ _) 1)
theorem set1_grown (w : World) (g i : Nat) (u : Value) : w.grownBy (w.setCell ⟨g, i, none⟩ u) (some g) := grown_set (World.grownBy.refl w _) _ _
theorem make_yes (s : Sf) (v : Value) (x : ByteArray) (w : World) (hS : ShR w w.heap.size v s) (hT : Tabs w) (hc : makeC s x = 0) :
    Calls Tryz.prog 29 #[v, .string x] w fun e' w' => ∃ v', e' = .returned (.tuple #[v', .int .i64 s.nb, .int .i64 0]) ∧ ShW w' w.heap.size v' (makeS s x) ∧ Below w.heap.size w w' := by
  have hS0 := hS
  obtain ⟨Ab, cb, An, cn, rfl, hB, hN, hcb, hmb, hcn, hmn⟩ := hS.ex
  clear hS
  have HB : Below w.heap.size w ((w.alloc (.cells #[.int .i64 s.nb, .int .i64 s.nn, .int .i64 s.ns, .slice Ab s.bs.length cb, .slice An s.ts.length cn] 25)).alloc (.cells #[.int .i64 0, .int .i64 0, .int .i64 0, .slice none 0 0, .slice none 0 0] 25)) := (((Below.refl w.heap.size w).alloc (by first | (simp; done) | (simp; omega)) _).alloc (by first | (simp; done) | (simp; omega)) _)
  have B1 : Blk ((w.alloc (.cells #[.int .i64 s.nb, .int .i64 s.nn, .int .i64 s.ns, .slice Ab s.bs.length cb, .slice An s.ts.length cn] 25)).alloc (.cells #[.int .i64 0, .int .i64 0, .int .i64 0, .slice none 0 0, .slice none 0 0] 25)) w.heap.size 25 #[.int .i64 s.nb, .int .i64 s.nn, .int .i64 s.ns, .slice Ab s.bs.length cb, .slice An s.ts.length cn] := (Blk.new_ w 25 #[.int .i64 s.nb, .int .i64 s.nn, .int .i64 s.ns, .slice Ab s.bs.length cb, .slice An s.ts.length cn]).alloc_ (.cells #[.int .i64 0, .int .i64 0, .int .i64 0, .slice none 0 0, .slice none 0 0] 25)
  have B2 : Blk ((w.alloc (.cells #[.int .i64 s.nb, .int .i64 s.nn, .int .i64 s.ns, .slice Ab s.bs.length cb, .slice An s.ts.length cn] 25)).alloc (.cells #[.int .i64 0, .int .i64 0, .int .i64 0, .slice none 0 0, .slice none 0 0] 25)) (w.heap.size + 1) 25 #[.int .i64 0, .int .i64 0, .int .i64 0, .slice none 0 0, .slice none 0 0] := by
    have := Blk.new_ (w.alloc (.cells #[.int .i64 s.nb, .int .i64 s.nn, .int .i64 s.ns, .slice Ab s.bs.length cb, .slice An s.ts.length cn] 25)) 25 #[.int .i64 0, .int .i64 0, .int .i64 0, .slice none 0 0, .slice none 0 0]
    simpa using this
  have S1 : ShR ((w.alloc (.cells #[.int .i64 s.nb, .int .i64 s.nn, .int .i64 s.ns, .slice Ab s.bs.length cb, .slice An s.ts.length cn] 25)).alloc (.cells #[.int .i64 0, .int .i64 0, .int .i64 0, .slice none 0 0, .slice none 0 0] 25)) (((w.alloc (.cells #[.int .i64 s.nb, .int .i64 s.nn, .int .i64 s.ns, .slice Ab s.bs.length cb, .slice An s.ts.length cn] 25)).alloc (.cells #[.int .i64 0, .int .i64 0, .int .i64 0, .slice none 0 0, .slice none 0 0] 25))).heap.size (.agg #[.int .i64 s.nb, .int .i64 s.nn, .int .i64 s.ns, .slice Ab s.bs.length cb, .slice An s.ts.length cn]) s := hS0.next HB
  have T1 := hT.next HB
  clear hS0 hT hB hN hcb hmb hcn hmn
  obtain ⟨hM, hN, hK, hF⟩ : mayS s = true ∧ mayN x = true ∧ bookTk s x 0 = false ∧ fullB s = false := by
    unfold makeC at hc
    cases h1 : mayS s <;> cases h2 : mayN x <;> cases h3 : bookTk s x 0 <;> cases h4 : fullB s <;> rw [h1] at hc <;> simp [h2, h3, h4] at hc ⊢
  have hMF := mayF_of hM
  have hlb : s.bs.length ≤ 100000 := by have := hMF.bl; omega
  have hln : s.ts.length ≤ 100000 := by have := hMF.tl; omega
  have hlr := hMF.small
  have hnb := hMF.nb
  have HM := Lib.hid hM
  have HN : Hid (nameB x.data.toList = true) := Lib.hid hN
  have HK := Lib.hid hK
  obtain ⟨n, hn⟩ : ∃ n, s.bs.length = n := ⟨_, rfl⟩
  have hf : (decide (6 ≤ n) || decide (65536 ≤ s.nb)) = false := by rw [← hn]; exact hF
  rw [Bool.or_eq_false_iff, decide_eq_false_iff_not, decide_eq_false_iff_not] at hf
  have g6 : ¬ (6 : Int) ≤ (n : Int) := by omega
  have g7 : ¬ (65536 : Int) ≤ s.nb := hf.2
  have HNN := Lib.hid hn
  rw [hn] at HB B1 S1 T1 B2 ⊢
  have g8 : (65536 : Int) > s.nb := by omega
  have HLB := Lib.hid hlb
  have HLN := Lib.hid hln
  have HLR := Lib.hid hlr
  clear hf hF hM hN hK hMF hn hc hlb hln hlr
  go_enter Tryz.func29, Tryz.ntmps29
  go_upto_region 9 with (first | (go_at_call 10; ((with_reducible refine (smay_any s _ _ S1 T1 _ HM.out).mono ?_); rintro e' w3 ⟨rfl, bx⟩; have S1 := S1.next bx; have T1 := T1.next bx; have B1 := B1.below bx B1.lt; have B2 := B2.below bx B2.lt; have HB := btr HB HB.size bx; (try clear k0 k1 k2 k3 k4 r0 r1 r2 r3 r4 t0 t1 t2 t3 t4); have k0 := B1.cell_ 0; have r0 := B2.cell_ 0; have t0 := B2.free 0; have k1 := B1.cell_ 1; have r1 := B2.cell_ 1; have t1 := B2.free 1; have k2 := B1.cell_ 2; have r2 := B2.cell_ 2; have t2 := B2.free 2; have k3 := B1.cell_ 3; have r3 := B2.cell_ 3; have t3 := B2.free 3; have k4 := B1.cell_ 4; have r4 := B2.cell_ 4; have t4 := B2.free 4; simp at k0 k1 k2 k3 k4 r0 r1 r2 r3 r4; clear bx)) | (go_at_call 61; ((with_reducible refine (nmay_any x _ _ T1 HN.out).mono ?_); rintro e' w4 ⟨rfl, bx⟩; have S1 := S1.next bx; have T1 := T1.next bx; have B1 := B1.below bx B1.lt; have B2 := B2.below bx B2.lt; have HB := btr HB HB.size bx; (try clear k0 k1 k2 k3 k4 r0 r1 r2 r3 r4 t0 t1 t2 t3 t4); have k0 := B1.cell_ 0; have r0 := B2.cell_ 0; have t0 := B2.free 0; have k1 := B1.cell_ 1; have r1 := B2.cell_ 1; have t1 := B2.free 1; have k2 := B1.cell_ 2; have r2 := B2.cell_ 2; have t2 := B2.free 2; have k3 := B1.cell_ 3; have r3 := B2.cell_ 3; have t3 := B2.free 3; have k4 := B1.cell_ 4; have r4 := B2.cell_ 4; have t4 := B2.free 4; simp at k0 k1 k2 k3 k4 r0 r1 r2 r3 r4; clear bx)) | (go_at_call 62; ((with_reducible refine (bTaken_any s _ x _ _ S1 _ HK.out).mono ?_); rintro e' w5 ⟨rfl, bx⟩; have S1 := S1.next bx; have T1 := T1.next bx; have B1 := B1.below bx B1.lt; have B2 := B2.below bx B2.lt; have HB := btr HB HB.size bx; (try clear k0 k1 k2 k3 k4 r0 r1 r2 r3 r4 t0 t1 t2 t3 t4); have k0 := B1.cell_ 0; have r0 := B2.cell_ 0; have t0 := B2.free 0; have k1 := B1.cell_ 1; have r1 := B2.cell_ 1; have t1 := B2.free 1; have k2 := B1.cell_ 2; have r2 := B2.cell_ 2; have t2 := B2.free 2; have k3 := B1.cell_ 3; have r3 := B2.cell_ 3; have t3 := B2.free 3; have k4 := B1.cell_ 4; have r4 := B2.cell_ 4; have t4 := B2.free 4; simp at k0 k1 k2 k3 k4 r0 r1 r2 r3 r4; clear bx)))
  have hW5 : w.heap.size + 2 ≤ w5.heap.size := by have := B2.lt; omega
  go_upto_region 10 with (go_at_call 63; ((with_reducible refine (clone_any s _ _ S1 HLB.out HLN.out HLR.out).mono ?_); rintro e' w6 ⟨v6, rfl, hW, b6⟩; obtain ⟨Ab6, cb6, An6, cn6, rfl, hBk, hNt, q1, q2, q3, q4⟩ := hW.parts; rw [HNN.out] at q1 hBk ⊢; have B1 := B1.below b6 B1.lt; have B2 := B2.below b6 B2.lt; have HB := btr HB HB.size b6; (try clear k0 k1 k2 k3 k4 r0 r1 r2 r3 r4 t0 t1 t2 t3 t4); have k0 := B1.cell_ 0; have t0 := B1.free 0; have k1 := B1.cell_ 1; have t1 := B1.free 1; have k2 := B1.cell_ 2; have t2 := B1.free 2; have k3 := B1.cell_ 3; have t3 := B1.free 3; have k4 := B1.cell_ 4; have t4 := B1.free 4; simp at k0 k1 k2 k3 k4; have hz6 := b6.size; clear b6 hW S1 T1))
  have B1u := B1.st5_ (.int .i64 s.nb) (.int .i64 s.nn) (.int .i64 s.ns) (.slice Ab6 n cb6) (.slice An6 s.ts.length cn6)
  have hg6 := st5_grown w6 w.heap.size 0 (.int .i64 s.nb) (.int .i64 s.nn) (.int .i64 s.ns) (.slice Ab6 n cb6) (.slice An6 s.ts.length cn6)
  have B2u := B2.grown hg6 (by omega)
  have hBk2 := hBk.far hg6 (by omega)
  have hNt2 := hNt.far hg6 (by omega)
  have hb2 := below_grown HB hg6 (Nat.le_refl _) HB.size
  have hsz : w5.heap.size ≤ (st5 w6 w.heap.size 0 (.int .i64 s.nb) (.int .i64 s.nn) (.int .i64 s.ns) (.slice Ab6 n cb6) (.slice An6 s.ts.length cn6)).heap.size := by have := hz6; have := hg6.size; omega
  clear hg6
  obtain ⟨Wd, hWd⟩ : ∃ V : World, V = (st5 w6 w.heap.size 0 (.int .i64 s.nb) (.int .i64 s.nn) (.int .i64 s.ns) (.slice Ab6 n cb6) (.slice An6 s.ts.length cn6)) := ⟨_, rfl⟩
  change Code.wp _ _ _ _ (st5 w6 w.heap.size 0 (.int .i64 s.nb) (.int .i64 s.nn) (.int .i64 s.ns) (.slice Ab6 n cb6) (.slice An6 s.ts.length cn6))
  rw [← hWd] at B1u B2u hBk2 hNt2 hb2 hsz ⊢
  clear hWd B1 B2 HB hBk hNt k0 k1 k2 k3 k4 t0 t1 t2 t3 t4
  have hon : Wd.ownsRow w5.heap.size 59 2 (.slice Ab6 n cb6) n (s.bs.map bkC).flatten := by
    have h := hBk2
    unfold BksW at h
    rw [HNN.out] at h
    exact h
  have hrow := hon.lt
  have hz5 : w5.heap.size ≤ Wd.heap.size := hsz
  have k0 := B1u.cell_ 0
  have k1 := B1u.cell_ 1
  have k2 := B1u.cell_ 2
  have k3 := B1u.cell_ 3
  have k4 := B1u.cell_ 4
  simp at k0 k1 k2 k3 k4
  have hlw : w.heap.size < Wd.heap.size := by omega
  have hlw2 : w.heap.size ≠ Wd.heap.size := by omega
  have HZ5 := Lib.hid hz5
  have HROW := Lib.hid hrow
  have HW5 := Lib.hid hW5
  have HNB := Lib.hid hnb
  clear hrow hBk2 hnb
  go_upto_region 12 with (at_builtin; obtain ⟨ti0, hi, hz0, hz1, hz2⟩ := info_parts infoBk; refine wpList_app _ rfl (.tmp 41) (.tmp 43) _ rfl w5.heap.size 59 ti0 _ 2 24 Tryz.underlying22 hi hz0 hz1 hz2 rfl (by decide) _ n (s.bs.map bkC).flatten rfl ((hon.alloc _).alloc _) _ 1 _ (bkC ⟨s.nb, x⟩) rfl (rd_newB _ ⟨s.nb, x⟩ (by simp)) (bkC_one _) (by unfold maxLen; omega) (by omega) (by simp; omega) ?_; intro v' w7 ho' hg' hv'; clear hi hz0 hz1 hz2; have B1a := ((B1u.alloc_ (.cells #[.int .i64 s.nb, .string x] 59)).alloc_ (.cells #[.int .i64 s.nb, .string x] 59)).grownR hg' (fun h => by have h1 := HROW.out _ h; have h2 := HW5.out; omega); have B2a := ((B2u.alloc_ (.cells #[.int .i64 s.nb, .string x] 59)).alloc_ (.cells #[.int .i64 s.nb, .string x] 59)).grownR hg' (fun h => by have h1 := HROW.out _ h; have h2 := HW5.out; omega); have B3a := ((Blk.new_ Wd 59 #[.int .i64 s.nb, .string x]).alloc_ (.cells #[.int .i64 s.nb, .string x] 59)).grownR hg' (fun h => by have h1 := HROW.out _ h; omega); have hNa := (hNt2.below (((Below.refl _ Wd).alloc (Nat.le_refl _) _).alloc (by simp) _)).apart ((hon.alloc _).alloc _) hg'; have HBa := (((hb2.alloc hb2.size _).alloc (by have := hb2.size; simp; omega) _).trans (below_app (B := w.heap.size) (by have := HW5.out; omega) (by have := HZ5.out; simp; omega) ((hon.alloc _).alloc _) hg')); have hsa : Wd.heap.size < w7.heap.size := B3a.lt; obtain ⟨A7, c7, rfl, q11, q12⟩ := own_shape ho'; (try clear k0 k1 k2 k3 k4); have k0 := B1a.cell_ 0; have k3 := B1a.cell_ 3; have t0 := B1a.free 0; have t3 := B1a.free 3; simp at k0 k3; clear hg' hv' B1u B2u hb2 hNt2 hon)
  have B1b := (B1a.set_ 3 (.slice A7 (n + 1) c7))
  simp at B1b
  have hg1 := set1_grown w7 w.heap.size 3 (.slice A7 (n + 1) c7)
  have B2b := B2a.grown hg1 (by omega)
  have B3b := B3a.grown hg1 (by have := HZ5.out; have := HW5.out; omega)
  have hNb := hNa.far hg1 (by have := HW5.out; omega)
  have hOb := ho'.kept hg1 (own_off ho' (by have := HW5.out; omega))
  have HBb := below_grown HBa hg1 (Nat.le_refl _) HBa.size
  have hsb := hg1.size
  obtain ⟨W8, hW8⟩ : ∃ V : World, V = w7.setCell ⟨w.heap.size, 3, none⟩ (.slice A7 (n + 1) c7) := ⟨_, rfl⟩
  rw [← hW8] at B1b B2b B3b hNb hOb HBb hsb ⊢
  clear hW8 B1a B2a B3a hNa ho' HBa hg1 k0 k3 t0 t3
  have k0 := B1b.cell_ 0
  have t0 := B1b.free 0
  simp at k0
  have hwr : IntKind.i64.wrap (s.nb + 1) = s.nb + 1 := wrapS _ (by have := HNB.out; omega) (by have := HNB.out; omega)
  go_upto_region 13 with fail
  have B1c := (B1b.set_ 0 (.int .i64 (s.nb + 1)))
  simp at B1c
  have hg2 := set1_grown W8 w.heap.size 0 (.int .i64 (s.nb + 1))
  have B2c := B2b.grown hg2 (by omega)
  have B3c := B3b.grown hg2 (by omega)
  have hNc := hNb.far hg2 (by have := HW5.out; omega)
  have hOc := hOb.kept hg2 (own_off hOb (by have := HW5.out; omega))
  have HBc := below_grown HBb hg2 (Nat.le_refl _) HBb.size
  obtain ⟨W9, hW9⟩ : ∃ V : World, V = W8.setCell ⟨w.heap.size, 0, none⟩ (.int .i64 (s.nb + 1)) := ⟨_, rfl⟩
  rw [← hW9] at B1c B2c B3c hNc hOc HBc ⊢
  clear hW9 B1b B2b B3b hNb hOb HBb hg2 k0 t0 hwr
  have q0 := B1c.cell_ 0
  have q1 := B1c.cell_ 1
  have q2 := B1c.cell_ 2
  have q3 := B1c.cell_ 3
  have q4 := B1c.cell_ 4
  have q5 := B3c.cell_ 0
  simp at q0 q1 q2 q3 q4 q5
  have QD : W9.drew.cell? ⟨w.heap.size, 0, none⟩ = some (.int .i64 (s.nb + 1)) ∧ W9.drew.cell? ⟨w.heap.size, 1, none⟩ = some (.int .i64 s.nn) ∧ W9.drew.cell? ⟨w.heap.size, 2, none⟩ = some (.int .i64 s.ns) ∧ W9.drew.cell? ⟨w.heap.size, 3, none⟩ = some (.slice A7 (n + 1) c7) ∧ W9.drew.cell? ⟨w.heap.size, 4, none⟩ = some (.slice An6 s.ts.length cn6) ∧ W9.drew.cell? ⟨Wd.heap.size, 0, none⟩ = some (.int .i64 s.nb) := ⟨drew_cell q0, drew_cell q1, drew_cell q2, drew_cell q3, drew_cell q4, drew_cell q5⟩
  have r0 := B2c.cell_ 0
  have r1 := B2c.cell_ 1
  have r2 := B2c.cell_ 2
  have r3 := B2c.cell_ 3
  have r4 := B2c.cell_ 4
  simp at r0 r1 r2 r3 r4
  have t0 := B2c.free 0
  have t1 := B2c.free 1
  have t2 := B2c.free 2
  have t3 := B2c.free 3
  have t4 := B2c.free 4
  have hgE := st5_grown W9 (w.heap.size + 1) 0 (.int .i64 (s.nb + 1)) (.int .i64 s.nn) (.int .i64 s.ns) (.slice A7 (n + 1) c7) (.slice An6 s.ts.length cn6)
  have B1e := B1c.grown hgE (by omega)
  have B3e := B3c.grown hgE (by have := HZ5.out; have := HW5.out; omega)
  have B2e := B2c.st5_ (.int .i64 (s.nb + 1)) (.int .i64 s.nn) (.int .i64 s.ns) (.slice A7 (n + 1) c7) (.slice An6 s.ts.length cn6)
  have hNe := hNc.far hgE (by have := HW5.out; omega)
  have hOe := hOc.kept hgE (own_off hOc (by have := HW5.out; omega))
  have HBe := below_grown HBc hgE (by omega) HBc.size
  have z0 : ((st5 W9 (w.heap.size + 1) 0 (.int .i64 (s.nb + 1)) (.int .i64 s.nn) (.int .i64 s.ns) (.slice A7 (n + 1) c7) (.slice An6 s.ts.length cn6)).drew).cell? ⟨w.heap.size, 0, none⟩ = some (.int .i64 (s.nb + 1)) := drew_cell (B1e.cell_ 0)
  have z1 : ((st5 W9 (w.heap.size + 1) 0 (.int .i64 (s.nb + 1)) (.int .i64 s.nn) (.int .i64 s.ns) (.slice A7 (n + 1) c7) (.slice An6 s.ts.length cn6)).drew).cell? ⟨w.heap.size, 1, none⟩ = some (.int .i64 s.nn) := drew_cell (B1e.cell_ 1)
  have z2 : ((st5 W9 (w.heap.size + 1) 0 (.int .i64 (s.nb + 1)) (.int .i64 s.nn) (.int .i64 s.ns) (.slice A7 (n + 1) c7) (.slice An6 s.ts.length cn6)).drew).cell? ⟨w.heap.size, 2, none⟩ = some (.int .i64 s.ns) := drew_cell (B1e.cell_ 2)
  have z3 : ((st5 W9 (w.heap.size + 1) 0 (.int .i64 (s.nb + 1)) (.int .i64 s.nn) (.int .i64 s.ns) (.slice A7 (n + 1) c7) (.slice An6 s.ts.length cn6)).drew).cell? ⟨w.heap.size, 3, none⟩ = some (.slice A7 (n + 1) c7) := drew_cell (B1e.cell_ 3)
  have z4 : ((st5 W9 (w.heap.size + 1) 0 (.int .i64 (s.nb + 1)) (.int .i64 s.nn) (.int .i64 s.ns) (.slice A7 (n + 1) c7) (.slice An6 s.ts.length cn6)).drew).cell? ⟨w.heap.size, 4, none⟩ = some (.slice An6 s.ts.length cn6) := drew_cell (B1e.cell_ 4)
  have z5 : ((st5 W9 (w.heap.size + 1) 0 (.int .i64 (s.nb + 1)) (.int .i64 s.nn) (.int .i64 s.ns) (.slice A7 (n + 1) c7) (.slice An6 s.ts.length cn6)).drew).cell? ⟨Wd.heap.size, 0, none⟩ = some (.int .i64 s.nb) := drew_cell (B3e.cell_ 0)
  have HALL : Hid (Blk ((st5 W9 (w.heap.size + 1) 0 (.int .i64 (s.nb + 1)) (.int .i64 s.nn) (.int .i64 s.ns) (.slice A7 (n + 1) c7) (.slice An6 s.ts.length cn6)).drew) (w.heap.size + 1) 25 #[.int .i64 (s.nb + 1), .int .i64 s.nn, .int .i64 s.ns, .slice A7 (n + 1) c7, .slice An6 s.ts.length cn6] ∧ NtsW ((st5 W9 (w.heap.size + 1) 0 (.int .i64 (s.nb + 1)) (.int .i64 s.nn) (.int .i64 s.ns) (.slice A7 (n + 1) c7) (.slice An6 s.ts.length cn6)).drew) w5.heap.size (.slice An6 s.ts.length cn6) s.ts ∧ ((st5 W9 (w.heap.size + 1) 0 (.int .i64 (s.nb + 1)) (.int .i64 s.nn) (.int .i64 s.ns) (.slice A7 (n + 1) c7) (.slice An6 s.ts.length cn6)).drew).ownsRow w5.heap.size 59 2 (.slice A7 (n + 1) c7) (n + 1) ((s.bs.map bkC).flatten ++ bkC ⟨s.nb, x⟩) ∧ Below w.heap.size w ((st5 W9 (w.heap.size + 1) 0 (.int .i64 (s.nb + 1)) (.int .i64 s.nn) (.int .i64 s.ns) (.slice A7 (n + 1) c7) (.slice An6 s.ts.length cn6)).drew)) := Lib.hid ⟨drew_blk B2e, hNe.drew_, drew_own hOe, drew_below HBe⟩
  clear B1c B2c B3c hNc hOc HBc hgE B1e B3e B2e hNe hOe HBe
  refine wp_region_noPanic ?_
  refine wp_region_held_drew (S := (fun w_ => w_.cell? ⟨w.heap.size, 0, none⟩ = some (.int .i64 (s.nb + 1)) ∧ w_.cell? ⟨w.heap.size, 1, none⟩ = some (.int .i64 s.nn) ∧ w_.cell? ⟨w.heap.size, 2, none⟩ = some (.int .i64 s.ns) ∧ w_.cell? ⟨w.heap.size, 3, none⟩ = some (.slice A7 (n + 1) c7) ∧ w_.cell? ⟨w.heap.size, 4, none⟩ = some (.slice An6 s.ts.length cn6) ∧ w_.cell? ⟨Wd.heap.size, 0, none⟩ = some (.int .i64 s.nb))) (by kernel_rfl) ?_ (fun hHeld => ?_)
  · (first | with_reducible exact ⟨q0, q1, q2, q3, q4, q5⟩ | with_reducible exact QD | exact ⟨z0, z1, z2, z3, z4, z5⟩)
  refine tk 0 ?_; try simp only [Act.put, pz1, pz2, pz3]
  refine tk 1 ?_; try simp only [Act.put, pz1, pz2, pz3]
  refine tk 2 ?_; try simp only [Act.put, pz1, pz2, pz3]
  refine wpAnyH_ready (rs := [3]) (by kernel_rfl) (by simp) ?_
  refine AllReadyH.cons (o := ⟨none, .store 25 (.tmp 4) (.tmp 50), 0, "shelf.go:46", #[⟨0, .data⟩, ⟨0, .phase⟩, { on := 1, ground := Ground.textOnly Departure.lateStores }, { on := 2, ground := Ground.textOnly Departure.lateStores }], none⟩) rfl (fun K hK => ?_) AllReadyH.nil
  go_simp
  refine hK.out _ _ ?_ (fun hNew => ?_)
  · (first | with_reducible exact ⟨q0, q1, q2, q3, q4, q5⟩ | with_reducible exact QD | exact ⟨z0, z1, z2, z3, z4, z5⟩)
  clear hK K hHeld
  have hHeld := hNew
  clear hNew
  try simp only [Act.put, pz1, pz2, pz3]
  refine tk 4 ?_; try simp only [Act.put, pz1, pz2, pz3]
  refine tk 5 ?_; try simp only [Act.put, pz1, pz2, pz3]
  refine wpAnyH_done (by kernel_rfl) ?_ _
  refine NoPanic.normal ?_
  go_wp2_with fail
  obtain ⟨B2e, hNe, hOe, HBe⟩ := HALL.out
  change bodyPost _ _ _ _ _ ((st5 W9 (w.heap.size + 1) 0 (.int .i64 (s.nb + 1)) (.int .i64 s.nn) (.int .i64 s.ns) (.slice A7 (n + 1) c7) (.slice An6 s.ts.length cn6)).drew)
  generalize (st5 W9 (w.heap.size + 1) 0 (.int .i64 (s.nb + 1)) (.int .i64 s.nn) (.int .i64 s.ns) (.slice A7 (n + 1) c7) (.slice An6 s.ts.length cn6)).drew = WF at B2e hNe hOe HBe ⊢
  clear HALL z0 z1 z2 z3 z4 z5
  apply bodyPost_ret (v := .tuple #[.agg #[.int .i64 (s.nb + 1), .int .i64 s.nn, .int .i64 s.ns, .slice A7 (n + 1) c7, .slice An6 s.ts.length cn6], .int .i64 s.nb, .int .i64 0])
  · exact results_cell2 Tryz.results29 _ WF (w.heap.size + 1) 25 _ (0, 0) _ rfl B2e Tryz.underlying25 rfl (by kernel_rfl)
  · rfl
  · refine ⟨_, rfl, ?_, HBe⟩
    refine ShW.base_ (B := w5.heap.size) ?_ (by have := HW5.out; omega)
    refine ShW.make (s := makeS s x) (w := WF) (base := w5.heap.size) ?_ hNe
    have hl := HNN.out
    show WF.ownsRow _ _ _ _ (s.bs ++ [(⟨s.nb, x⟩ : Bk)]).length ((s.bs ++ [(⟨s.nb, x⟩ : Bk)]).map bkC).flatten
    rw [bk_snoc, List.length_append, hl]
    exact hOe
end Go.Proofs.YtokhapafpjejaaaGreatDoor
namespace Go.Proofs.YtokhapafpjejaaaGreatDoor
open Go.ChangeShapes Go.WideShapes Go.ChangeAt Go.RowKit
attribute [local go_sem ↓] Go.wp_at_zero Go.wp_at_succ
theorem sameItems_yes (L : List It) (A B : Option Addr) (n c d : Nat) (w : World) (hn : L.length = n) (n1 : n ≤ 1000000) (h1 : SlE 2 w w.heap.size A (L.map itC)) (h2 : SlE 2 w w.heap.size B (L.map itC)) : Calls Tryz.prog 18 #[.slice A n c, .slice B n d] w fun e' w' => e' = .returned (.bool true) ∧ Below w.heap.size w w' := by
  have HN := Lib.hid hn
  have H1 := Lib.hid h1
  have H2 := Lib.hid h2
  clear hn h1 h2
  go_enter Tryz.func18, Tryz.ntmps18
  go_wp2_with fail
  go_loopw [5] (fun s5 wr => ∃ k : Nat, k ≤ n ∧ s5 = .int .i64 (k : Int) ∧ Below w.heap.size w wr) (fun s5 _ => n - (intOf s5).toNat)
  case atStart => exact ⟨0, Nat.zero_le _, rfl, Below.refl _ _⟩
  case round =>
    obtain ⟨k, hk, rfl, hB⟩ := hrel
    by_cases hlt : k < n
    · have hlx : k < L.length := by have := HN.out; omega
      obtain ⟨b1, o1, rfl, l1, q1⟩ := (SlE.below H1.out hB).at_ (by rw [List.length_map]; omega)
      obtain ⟨b2, o2, rfl, l2, q2⟩ := (SlE.below H2.out hB).at_ (by rw [List.length_map]; omega)
      obtain ⟨x, hx⟩ : ∃ x, L[k]? = some x := ⟨_, List.getElem?_eq_getElem hlx⟩
      have he : (L.map itC)[k]? = some (itC x) := by rw [List.getElem?_map, hx]; rfl
      have x0 := q1 k _ he 0 _ rfl
      have x1 := q1 k _ he 1 _ rfl
      have y0 := q2 k _ he 0 _ rfl
      have y1 := q2 k _ he 1 _ rfl
      simp only [Nat.add_zero] at x0 y0
      have k0 : (0 : Int) ≤ (k : Int) := by omega
      have k1 : (k : Int) < (n : Int) := by omega
      clear hx he q1 q2 hlx
      go_upto_region 6 with fail
      refine wp_region_noPanic ?_
      refine wp_region_held_drew (S := (fun w_ => w_.cell? ⟨b1, o1 + k * 2, none⟩ = some (.int .i64 x.id) ∧ w_.cell? ⟨b1, o1 + k * 2 + 1, none⟩ = some (.string x.nm) ∧ w_.cell? ⟨b2, o2 + k * 2, none⟩ = some (.int .i64 x.id) ∧ w_.cell? ⟨b2, o2 + k * 2 + 1, none⟩ = some (.string x.nm))) (by kernel_rfl) ?_ (fun hHeld => ?_)
      · (first | exact ⟨x0, x1, y0, y1⟩ | assumption)
      refine tk 0 ?_; try simp only [Act.put, pz1, pz2, pz3]
      refine tk 1 ?_; try simp only [Act.put, pz1, pz2, pz3]
      refine tk 2 ?_; try simp only [Act.put, pz1, pz2, pz3]
      refine tk 3 ?_; try simp only [Act.put, pz1, pz2, pz3]
      refine tk 4 ?_; try simp only [Act.put, pz1, pz2, pz3]
      refine tk 5 ?_; try simp only [Act.put, pz1, pz2, pz3]
      refine tk 6 ?_; try simp only [Act.put, pz1, pz2, pz3]
      refine tk 7 ?_; try simp only [Act.put, pz1, pz2, pz3]
      refine tk 8 ?_; try simp only [Act.put, pz1, pz2, pz3]
      refine wpAnyH_done (by kernel_rfl) ?_ _
      refine NoPanic.normal ?_
      go_wp2_with fail
      go_roundw
      case rel => exact ⟨k + 1, by omega, by go_num, (by first | exact hB | exact drew_below hB)⟩
      case measure => simp [intOf]; omega
    · obtain rfl : k = n := by omega
      go_wp2_with fail
      go_ret
      exact ⟨rfl, hB⟩
theorem find_no (s : Sf) (v : Value) (x : Int) (w : World) (hS : ShR w w.heap.size v s) (hT : Tabs w) (M : Bool) (hM : mayS s = M) (hI : M = false ∨ noteAt s x < 0) :
    Calls Tryz.prog 16 #[v, .int .i64 x] w fun e' w' => e' = .returned (.tuple #[.agg #[.int .i64 0, .int .i64 0, .string ⟨#[]⟩, .slice none 0 0, .slice none 0 0], .bool false]) ∧ Below w.heap.size w w' := by
  have hS0 := hS
  obtain ⟨Ab, cb, An, cn, rfl, hB, hN, hcb, hmb, hcn, hmn⟩ := hS.ex
  clear hS
  have HB : Below w.heap.size w ((w.alloc (.cells #[.int .i64 s.nb, .int .i64 s.nn, .int .i64 s.ns, .slice Ab s.bs.length cb, .slice An s.ts.length cn] 25)).alloc (.cells #[.int .i64 0, .int .i64 0, .string ⟨#[]⟩, .slice none 0 0, .slice none 0 0] 46)) := (((Below.refl w.heap.size w).alloc (by first | (simp; done) | (simp; omega)) _).alloc (by first | (simp; done) | (simp; omega)) _)
  have B1 : Blk ((w.alloc (.cells #[.int .i64 s.nb, .int .i64 s.nn, .int .i64 s.ns, .slice Ab s.bs.length cb, .slice An s.ts.length cn] 25)).alloc (.cells #[.int .i64 0, .int .i64 0, .string ⟨#[]⟩, .slice none 0 0, .slice none 0 0] 46)) w.heap.size 25 #[.int .i64 s.nb, .int .i64 s.nn, .int .i64 s.ns, .slice Ab s.bs.length cb, .slice An s.ts.length cn] := (Blk.new_ w 25 #[.int .i64 s.nb, .int .i64 s.nn, .int .i64 s.ns, .slice Ab s.bs.length cb, .slice An s.ts.length cn]).alloc_ (.cells #[.int .i64 0, .int .i64 0, .string ⟨#[]⟩, .slice none 0 0, .slice none 0 0] 46)
  have B2 : Blk ((w.alloc (.cells #[.int .i64 s.nb, .int .i64 s.nn, .int .i64 s.ns, .slice Ab s.bs.length cb, .slice An s.ts.length cn] 25)).alloc (.cells #[.int .i64 0, .int .i64 0, .string ⟨#[]⟩, .slice none 0 0, .slice none 0 0] 46)) (w.heap.size + 1) 46 #[.int .i64 0, .int .i64 0, .string ⟨#[]⟩, .slice none 0 0, .slice none 0 0] := by
    have := Blk.new_ (w.alloc (.cells #[.int .i64 s.nb, .int .i64 s.nn, .int .i64 s.ns, .slice Ab s.bs.length cb, .slice An s.ts.length cn] 25)) 46 #[.int .i64 0, .int .i64 0, .string ⟨#[]⟩, .slice none 0 0, .slice none 0 0]
    simpa using this
  have S1 : ShR ((w.alloc (.cells #[.int .i64 s.nb, .int .i64 s.nn, .int .i64 s.ns, .slice Ab s.bs.length cb, .slice An s.ts.length cn] 25)).alloc (.cells #[.int .i64 0, .int .i64 0, .string ⟨#[]⟩, .slice none 0 0, .slice none 0 0] 46)) (((w.alloc (.cells #[.int .i64 s.nb, .int .i64 s.nn, .int .i64 s.ns, .slice Ab s.bs.length cb, .slice An s.ts.length cn] 25)).alloc (.cells #[.int .i64 0, .int .i64 0, .string ⟨#[]⟩, .slice none 0 0, .slice none 0 0] 46))).heap.size (.agg #[.int .i64 s.nb, .int .i64 s.nn, .int .i64 s.ns, .slice Ab s.bs.length cb, .slice An s.ts.length cn]) s := hS0.next HB
  have T1 := hT.next HB
  obtain ⟨I, hIe⟩ : ∃ I, noteAt s x = I := ⟨_, rfl⟩
  have HI := Lib.hid hIe
  rw [hIe] at hI
  have HM := Lib.hid hM
  clear hM hIe hS0 hT hB hN hcb hmb hcn hmn
  cases M
  · clear hI
    go_enter Tryz.func16, Tryz.ntmps16
    go_wp2_with (first | (go_at_call 55; ((with_reducible refine (pNote_any s _ x _ S1).mono ?_); rintro e' w3 ⟨rfl, bx⟩; rw [HI.out]; have S1 := S1.next bx; have T1 := T1.next bx; have B1 := B1.below bx B1.lt; have B2 := B2.below bx B2.lt; have HB := btr HB HB.size bx; (try clear k0 k1 k2 k3 k4 r0 r1 r2 r3 r4 t0 t1 t2 t3 t4); have k0 := B1.cell_ 0; have r0 := B2.cell_ 0; have t0 := B2.free 0; have k1 := B1.cell_ 1; have r1 := B2.cell_ 1; have t1 := B2.free 1; have k2 := B1.cell_ 2; have r2 := B2.cell_ 2; have t2 := B2.free 2; have k3 := B1.cell_ 3; have r3 := B2.cell_ 3; have t3 := B2.free 3; have k4 := B1.cell_ 4; have r4 := B2.cell_ 4; have t4 := B2.free 4; simp at k0 k1 k2 k3 k4 r0 r1 r2 r3 r4; clear bx)) | (go_at_call 10; ((with_reducible refine (smay_any s _ _ S1 T1 _ HM.out).mono ?_); rintro e' w4 ⟨rfl, bx⟩; have S1 := S1.next bx; have T1 := T1.next bx; have B1 := B1.below bx B1.lt; have B2 := B2.below bx B2.lt; have HB := btr HB HB.size bx; (try clear k0 k1 k2 k3 k4 r0 r1 r2 r3 r4 t0 t1 t2 t3 t4); have k0 := B1.cell_ 0; have r0 := B2.cell_ 0; have t0 := B2.free 0; have k1 := B1.cell_ 1; have r1 := B2.cell_ 1; have t1 := B2.free 1; have k2 := B1.cell_ 2; have r2 := B2.cell_ 2; have t2 := B2.free 2; have k3 := B1.cell_ 3; have r3 := B2.cell_ 3; have t3 := B2.free 3; have k4 := B1.cell_ 4; have r4 := B2.cell_ 4; have t4 := B2.free 4; simp at k0 k1 k2 k3 k4 r0 r1 r2 r3 r4; clear bx)))
    have B2u := B2.st5_ (.int .i64 0) (.int .i64 0) (.string ⟨#[]⟩) (.slice none 0 0) (.slice none 0 0)
    have hb2 := st5_below HB (g := w.heap.size + 1) (by omega) 0 (.int .i64 0) (.int .i64 0) (.string ⟨#[]⟩) (.slice none 0 0) (.slice none 0 0)
    change bodyPost _ _ _ _ _ (st5 w4 (w.heap.size + 1) 0 (.int .i64 0) (.int .i64 0) (.string ⟨#[]⟩) (.slice none 0 0) (.slice none 0 0))
    generalize st5 w4 (w.heap.size + 1) 0 (.int .i64 0) (.int .i64 0) (.string ⟨#[]⟩) (.slice none 0 0) (.slice none 0 0) = WF at B2u hb2 ⊢
    apply bodyPost_ret (v := .tuple #[.agg #[.int .i64 0, .int .i64 0, .string ⟨#[]⟩, .slice none 0 0, .slice none 0 0], .bool false])
    · exact results_cell1 Tryz.results16 _ WF (w.heap.size + 1) 46 _ (0, 0) _ rfl B2u Tryz.underlying46 rfl (by kernel_rfl)
    · rfl
    · exact ⟨rfl, hb2⟩
  · have hI2 := hI.resolve_left (by decide)
    clear hI
    go_enter Tryz.func16, Tryz.ntmps16
    go_wp2_with (first | (go_at_call 55; ((with_reducible refine (pNote_any s _ x _ S1).mono ?_); rintro e' w3 ⟨rfl, bx⟩; rw [HI.out]; have S1 := S1.next bx; have T1 := T1.next bx; have B1 := B1.below bx B1.lt; have B2 := B2.below bx B2.lt; have HB := btr HB HB.size bx; (try clear k0 k1 k2 k3 k4 r0 r1 r2 r3 r4 t0 t1 t2 t3 t4); have k0 := B1.cell_ 0; have r0 := B2.cell_ 0; have t0 := B2.free 0; have k1 := B1.cell_ 1; have r1 := B2.cell_ 1; have t1 := B2.free 1; have k2 := B1.cell_ 2; have r2 := B2.cell_ 2; have t2 := B2.free 2; have k3 := B1.cell_ 3; have r3 := B2.cell_ 3; have t3 := B2.free 3; have k4 := B1.cell_ 4; have r4 := B2.cell_ 4; have t4 := B2.free 4; simp at k0 k1 k2 k3 k4 r0 r1 r2 r3 r4; clear bx)) | (go_at_call 10; ((with_reducible refine (smay_any s _ _ S1 T1 _ HM.out).mono ?_); rintro e' w4 ⟨rfl, bx⟩; have S1 := S1.next bx; have T1 := T1.next bx; have B1 := B1.below bx B1.lt; have B2 := B2.below bx B2.lt; have HB := btr HB HB.size bx; (try clear k0 k1 k2 k3 k4 r0 r1 r2 r3 r4 t0 t1 t2 t3 t4); have k0 := B1.cell_ 0; have r0 := B2.cell_ 0; have t0 := B2.free 0; have k1 := B1.cell_ 1; have r1 := B2.cell_ 1; have t1 := B2.free 1; have k2 := B1.cell_ 2; have r2 := B2.cell_ 2; have t2 := B2.free 2; have k3 := B1.cell_ 3; have r3 := B2.cell_ 3; have t3 := B2.free 3; have k4 := B1.cell_ 4; have r4 := B2.cell_ 4; have t4 := B2.free 4; simp at k0 k1 k2 k3 k4 r0 r1 r2 r3 r4; clear bx)))
    have B2u := B2.st5_ (.int .i64 0) (.int .i64 0) (.string ⟨#[]⟩) (.slice none 0 0) (.slice none 0 0)
    have hb2 := st5_below HB (g := w.heap.size + 1) (by omega) 0 (.int .i64 0) (.int .i64 0) (.string ⟨#[]⟩) (.slice none 0 0) (.slice none 0 0)
    change bodyPost _ _ _ _ _ (st5 w4 (w.heap.size + 1) 0 (.int .i64 0) (.int .i64 0) (.string ⟨#[]⟩) (.slice none 0 0) (.slice none 0 0))
    generalize st5 w4 (w.heap.size + 1) 0 (.int .i64 0) (.int .i64 0) (.string ⟨#[]⟩) (.slice none 0 0) (.slice none 0 0) = WF at B2u hb2 ⊢
    apply bodyPost_ret (v := .tuple #[.agg #[.int .i64 0, .int .i64 0, .string ⟨#[]⟩, .slice none 0 0, .slice none 0 0], .bool false])
    · exact results_cell1 Tryz.results16 _ WF (w.heap.size + 1) 46 _ (0, 0) _ rfl B2u Tryz.underlying46 rfl (by kernel_rfl)
    · rfl
    · exact ⟨rfl, hb2⟩
theorem find_yes (s : Sf) (v : Value) (x : Int) (w : World) (hS : ShR w w.heap.size v s) (hT : Tabs w) (hM : mayS s = true) (k : Nat) (n : Nt) (hk : noteAt s x = (k : Int)) (hn : s.ts[k]? = some n) :
    Calls Tryz.prog 16 #[v, .int .i64 x] w fun e' w' => ∃ v1 v2, e' = .returned (.tuple #[.agg #[.int .i64 n.id, .int .i64 n.bk, .string n.nm, v1, v2], .bool true]) ∧ w'.ownsRow w.heap.size 9 1 v1 n.tg.length (n.tg.map strV) ∧ w'.ownsRow w.heap.size 3 1 v2 n.sh.length (n.sh.map (Value.int .i64)) ∧ Below w.heap.size w w' := by
  have hS0 := hS
  obtain ⟨Ab, cb, An, cn, rfl, hB, hN, hcb, hmb, hcn, hmn⟩ := hS.ex
  clear hS
  have HB : Below w.heap.size w ((w.alloc (.cells #[.int .i64 s.nb, .int .i64 s.nn, .int .i64 s.ns, .slice Ab s.bs.length cb, .slice An s.ts.length cn] 25)).alloc (.cells #[.int .i64 0, .int .i64 0, .string ⟨#[]⟩, .slice none 0 0, .slice none 0 0] 46)) := (((Below.refl w.heap.size w).alloc (by first | (simp; done) | (simp; omega)) _).alloc (by first | (simp; done) | (simp; omega)) _)
  have B1 : Blk ((w.alloc (.cells #[.int .i64 s.nb, .int .i64 s.nn, .int .i64 s.ns, .slice Ab s.bs.length cb, .slice An s.ts.length cn] 25)).alloc (.cells #[.int .i64 0, .int .i64 0, .string ⟨#[]⟩, .slice none 0 0, .slice none 0 0] 46)) w.heap.size 25 #[.int .i64 s.nb, .int .i64 s.nn, .int .i64 s.ns, .slice Ab s.bs.length cb, .slice An s.ts.length cn] := (Blk.new_ w 25 #[.int .i64 s.nb, .int .i64 s.nn, .int .i64 s.ns, .slice Ab s.bs.length cb, .slice An s.ts.length cn]).alloc_ (.cells #[.int .i64 0, .int .i64 0, .string ⟨#[]⟩, .slice none 0 0, .slice none 0 0] 46)
  have B2 : Blk ((w.alloc (.cells #[.int .i64 s.nb, .int .i64 s.nn, .int .i64 s.ns, .slice Ab s.bs.length cb, .slice An s.ts.length cn] 25)).alloc (.cells #[.int .i64 0, .int .i64 0, .string ⟨#[]⟩, .slice none 0 0, .slice none 0 0] 46)) (w.heap.size + 1) 46 #[.int .i64 0, .int .i64 0, .string ⟨#[]⟩, .slice none 0 0, .slice none 0 0] := by
    have := Blk.new_ (w.alloc (.cells #[.int .i64 s.nb, .int .i64 s.nn, .int .i64 s.ns, .slice Ab s.bs.length cb, .slice An s.ts.length cn] 25)) 46 #[.int .i64 0, .int .i64 0, .string ⟨#[]⟩, .slice none 0 0, .slice none 0 0]
    simpa using this
  have S1 : ShR ((w.alloc (.cells #[.int .i64 s.nb, .int .i64 s.nn, .int .i64 s.ns, .slice Ab s.bs.length cb, .slice An s.ts.length cn] 25)).alloc (.cells #[.int .i64 0, .int .i64 0, .string ⟨#[]⟩, .slice none 0 0, .slice none 0 0] 46)) (((w.alloc (.cells #[.int .i64 s.nb, .int .i64 s.nn, .int .i64 s.ns, .slice Ab s.bs.length cb, .slice An s.ts.length cn] 25)).alloc (.cells #[.int .i64 0, .int .i64 0, .string ⟨#[]⟩, .slice none 0 0, .slice none 0 0] 46))).heap.size (.agg #[.int .i64 s.nb, .int .i64 s.nn, .int .i64 s.ns, .slice Ab s.bs.length cb, .slice An s.ts.length cn]) s := hS0.next HB
  have T1 := hT.next HB
  have hlr := (mayF_of hM).small n (List.mem_of_getElem? hn)
  have hlk : k < s.ts.length := (List.getElem?_eq_some_iff.1 hn).1
  have i0 : ¬ (k : Int) < 0 := by omega
  have i2 : (0 : Int) ≤ (k : Int) := by omega
  obtain ⟨m, hm⟩ : ∃ m, s.ts.length = m := ⟨_, rfl⟩
  have i1 : (k : Int) < (m : Int) := by omega
  rw [hm] at HB B1 S1 T1 B2 ⊢
  have HL1 := Lib.hid hlr.1
  have HL2 := Lib.hid hlr.2
  obtain ⟨es, hel, hse, hnt⟩ := hN.ex
  obtain ⟨e0, he⟩ : ∃ e, es[k]? = some e := ⟨_, List.getElem?_eq_getElem (by omega)⟩
  obtain ⟨At, ct, As, cs, rfl, hAt, hAs, htc, htm, hsc, hsm⟩ := (hnt k n e0 hn he).ex
  obtain ⟨b1, o1, rfl, l1, q1⟩ := hse.at_ (by omega)
  have HI := Lib.hid hk
  have HM := Lib.hid hM
  have y0 := q1 k _ he 0 _ rfl
  have y1 := q1 k _ he 1 _ rfl
  have y2 := q1 k _ he 2 _ rfl
  have y3 := q1 k _ he 3 _ rfl
  have y4 := q1 k _ he 4 _ rfl
  simp only [Nat.add_zero] at y0
  clear hM hk hS0 hT hB hcb hmb hcn hmn hlr he hnt q1 hse hel hm hlk hn hN
  go_enter Tryz.func16, Tryz.ntmps16
  go_upto_region 4 with (first | (go_at_call 55; ((with_reducible refine (pNote_any s _ x _ S1).mono ?_); rintro e' w3 ⟨rfl, bx⟩; rw [HI.out]; have S1 := S1.next bx; have T1 := T1.next bx; have B1 := B1.below bx B1.lt; have B2 := B2.below bx B2.lt; have HB := btr HB HB.size bx; (try clear k0 k1 k2 k3 k4 r0 r1 r2 r3 r4 t0 t1 t2 t3 t4); have k0 := B1.cell_ 0; have r0 := B2.cell_ 0; have t0 := B2.free 0; have k1 := B1.cell_ 1; have r1 := B2.cell_ 1; have t1 := B2.free 1; have k2 := B1.cell_ 2; have r2 := B2.cell_ 2; have t2 := B2.free 2; have k3 := B1.cell_ 3; have r3 := B2.cell_ 3; have t3 := B2.free 3; have k4 := B1.cell_ 4; have r4 := B2.cell_ 4; have t4 := B2.free 4; simp at k0 k1 k2 k3 k4 r0 r1 r2 r3 r4; clear bx)) | (go_at_call 10; ((with_reducible refine (smay_any s _ _ S1 T1 _ HM.out).mono ?_); rintro e' w4 ⟨rfl, bx⟩; have S1 := S1.next bx; have T1 := T1.next bx; have B1 := B1.below bx B1.lt; have B2 := B2.below bx B2.lt; have HB := btr HB HB.size bx; (try clear k0 k1 k2 k3 k4 r0 r1 r2 r3 r4 t0 t1 t2 t3 t4); have k0 := B1.cell_ 0; have r0 := B2.cell_ 0; have t0 := B2.free 0; have k1 := B1.cell_ 1; have r1 := B2.cell_ 1; have t1 := B2.free 1; have k2 := B1.cell_ 2; have r2 := B2.cell_ 2; have t2 := B2.free 2; have k3 := B1.cell_ 3; have r3 := B2.cell_ 3; have t3 := B2.free 3; have k4 := B1.cell_ 4; have r4 := B2.cell_ 4; have t4 := B2.free 4; simp at k0 k1 k2 k3 k4 r0 r1 r2 r3 r4; clear bx)))
  have z0 := (HB.cell (p := ⟨b1, o1 + k * 5, none⟩) l1).trans y0
  have z1 := (HB.cell (p := ⟨b1, o1 + k * 5 + 1, none⟩) l1).trans y1
  have z2 := (HB.cell (p := ⟨b1, o1 + k * 5 + 2, none⟩) l1).trans y2
  have z3 := (HB.cell (p := ⟨b1, o1 + k * 5 + 3, none⟩) l1).trans y3
  have z4 := (HB.cell (p := ⟨b1, o1 + k * 5 + 4, none⟩) l1).trans y4
  have hAt2 := (hAt.below HB).mono_ HB.size
  have hAs2 := (hAs.below HB).mono_ HB.size
  have hz4 : w.heap.size + 1 < w4.heap.size := B2.lt
  clear y0 y1 y2 y3 y4 hAt hAs S1 T1 B1 k0 k1 k2 k3
  go_wp2_with (go_at_call 56; ((with_reducible refine (cloneNote_any n At ct As cs _ hAt2 hAs2 HL1.out HL2.out).mono ?_); rintro e' w5 ⟨v1, v2, rfl, p1, p2, b5⟩; obtain ⟨A7, c7, rfl, -, -⟩ := own_shape p1; obtain ⟨A8, c8, rfl, -, -⟩ := own_shape p2; have B2 := B2.below b5 B2.lt; have HB := btr HB HB.size b5; (clear r0 r1 r2 r3 r4 t0 t1 t2 t3 t4); have r0 := B2.cell_ 0; have r1 := B2.cell_ 1; have r2 := B2.cell_ 2; have r3 := B2.cell_ 3; have r4 := B2.cell_ 4; simp at r0 r1 r2 r3 r4; have t0 := B2.free 0; have t1 := B2.free 1; have t2 := B2.free 2; have t3 := B2.free 3; have t4 := B2.free 4; clear b5))
  have B2u := B2.st5_ (.int .i64 n.id) (.int .i64 n.bk) (.string n.nm) (.slice A7 n.tg.length c7) (.slice A8 n.sh.length c8)
  have hgE := st5_grown w5 (w.heap.size + 1) 0 (.int .i64 n.id) (.int .i64 n.bk) (.string n.nm) (.slice A7 n.tg.length c7) (.slice A8 n.sh.length c8)
  have hb2 := below_grown HB hgE (by omega) HB.size
  have p1u := p1.kept hgE (own_off p1 (by omega))
  have p2u := p2.kept hgE (own_off p2 (by omega))
  change bodyPost _ _ _ _ _ (st5 w5 (w.heap.size + 1) 0 (.int .i64 n.id) (.int .i64 n.bk) (.string n.nm) (.slice A7 n.tg.length c7) (.slice A8 n.sh.length c8))
  clear hgE
  generalize st5 w5 (w.heap.size + 1) 0 (.int .i64 n.id) (.int .i64 n.bk) (.string n.nm) (.slice A7 n.tg.length c7) (.slice A8 n.sh.length c8) = WF at B2u hb2 p1u p2u ⊢
  apply bodyPost_ret (v := .tuple #[.agg #[.int .i64 n.id, .int .i64 n.bk, .string n.nm, .slice A7 n.tg.length c7, .slice A8 n.sh.length c8], .bool true])
  · exact results_cell1 Tryz.results16 _ WF (w.heap.size + 1) 46 _ (0, 0) _ rfl B2u Tryz.underlying46 rfl (by kernel_rfl)
  · rfl
  · exact ⟨_, _, rfl, own_base p1u (by omega), own_base p2u (by omega), hb2⟩
end Go.Proofs.YtokhapafpjejaaaGreatDoor
namespace Go.Proofs.YtokhapafpjejaaaGreatDoor
open Go.ChangeShapes Go.WideShapes Go.ChangeAt Go.RowKit
attribute [local go_sem ↓] Go.wp_at_zero Go.wp_at_succ
def sA : ByteArray := ⟨#[97]⟩
def sB : ByteArray := ⟨#[98]⟩
def sf0 : Sf := ⟨1, 1, 1, [], []⟩
def sf1 : Sf := makeS sf0 sB
def sf2 : Sf := makeS sf1 sA
theorem mc0 : makeC sf0 sB = 0 := by decide +kernel
theorem mc1 : makeC sf1 sA = 0 := by decide +kernel
theorem mc2 : makeC sf2 sA = 7 := by decide +kernel
theorem may2 : mayS sf2 = true := by decide +kernel
theorem ShR.zero (w : World) : ShR w w.heap.size (.agg #[.int .i64 1, .int .i64 1, .int .i64 1, .slice none 0 0, .slice none 0 0]) sf0 := ⟨none, 0, none, 0, rfl, Or.inl rfl, ⟨[], rfl, Or.inl rfl, fun k n e h => by simp [sf0] at h⟩, by decide, by decide, by decide, by decide⟩
theorem mk1 (w : World) (hT : Tabs w) : Calls Tryz.prog 29 #[.agg #[.int .i64 1, .int .i64 1, .int .i64 1, .slice none 0 0, .slice none 0 0], .string ⟨#[98]⟩] w fun e' w' => ∃ v', e' = .returned (.tuple #[v', .int .i64 1, .int .i64 0]) ∧ ShW w' w.heap.size v' sf1 ∧ Below w.heap.size w w' := make_yes sf0 _ sB w (ShR.zero w) hT mc0
theorem mk2 (v : Value) (w : World) (hS : ShR w w.heap.size v sf1) (hT : Tabs w) : Calls Tryz.prog 29 #[v, .string ⟨#[97]⟩] w fun e' w' => ∃ v', e' = .returned (.tuple #[v', .int .i64 2, .int .i64 0]) ∧ ShW w' w.heap.size v' sf2 ∧ Below w.heap.size w w' := make_yes sf1 v sA w hS hT mc1
theorem mk3 (v : Value) (w : World) (hS : ShR w w.heap.size v sf2) (hT : Tabs w) : Calls Tryz.prog 29 #[v, .string ⟨#[97]⟩] w fun e' w' => e' = .returned (.tuple #[.agg #[.int .i64 0, .int .i64 0, .int .i64 0, .slice none 0 0, .slice none 0 0], .int .i64 0, .int .i64 7]) ∧ Below w.heap.size w w' := make_no sf2 v sA w hS hT 7 mc2 (by decide)
theorem two_sorted {its : List It} {x y : It} (h : its.Perm [x, y]) (ho : OrdI its) (hlt : cmpI y x < 0) : its = [y, x] := by
  match its, h.length_eq with
  | [p, q], _ =>
    have hp : p ∈ [x, y] := h.mem_iff.1 (by simp)
    simp only [List.mem_cons, List.not_mem_nil, or_false] at hp
    rcases hp with rfl | rfl
    · have h1 := (List.perm_cons p).1 h
      obtain rfl : q = y := by simpa using List.perm_singleton.1 h1
      have h2 : cmpI q p < 0 → False := by
        have := List.pairwise_cons.1 ho
        exact this.1 q (by simp)
      exact absurd hlt h2
    · have h1 := (List.perm_cons p).1 (h.trans (List.Perm.swap p x []))
      obtain rfl : q = x := by simpa using List.perm_singleton.1 h1
      rfl
theorem bks2 (v : Value) (w : World) (hS : ShR w w.heap.size v sf2) (hT : Tabs w) : Calls Tryz.prog 13 #[v] w fun e' w' => ∃ (A : Option Addr) (c : Nat), e' = .returned (.slice A 2 c) ∧ SlE 2 w' w'.heap.size A ([⟨2, sA⟩, ⟨1, sB⟩].map itC) ∧ Below w.heap.size w w' := by
  refine (books_any sf2 v w hS hT may2 (by decide)).mono ?_
  rintro e' w' ⟨A, c, its, rfl, h1, h2, h3, _, _, h6⟩
  obtain rfl := two_sorted (x := ⟨1, sB⟩) (y := ⟨2, sA⟩) h1 h2 (by decide +kernel)
  exact ⟨A, c, rfl, h3, h6⟩
theorem may_2 (v : Value) (w : World) (hS : ShR w w.heap.size v sf2) (hT : Tabs w) : Calls Tryz.prog 10 #[v] w fun e' w' => e' = .returned (.bool true) ∧ Below w.heap.size w w' := smay_any sf2 v w hS hT true may2
theorem lit_items (w : World) : SlE 2 (w.alloc (.cells #[.int .i64 2, .string ⟨#[97]⟩, .int .i64 1, .string ⟨#[98]⟩] 64)) (w.alloc (.cells #[.int .i64 2, .string ⟨#[97]⟩, .int .i64 1, .string ⟨#[98]⟩] 64)).heap.size (some ⟨w.heap.size, 0, none⟩) (([⟨2, sA⟩, ⟨1, sB⟩] : List It).map itC) := by
  refine Or.inr ⟨w.heap.size, 0, rfl, by simp, fun k x hx j u hu => ?_⟩
  rw [Joins.cell_of_block (heap_alloc_new w _)]
  match k, hx with
  | 0, hx =>
    simp at hx
    subst hx
    match j, hu with
    | 0, hu => exact hu
    | 1, hu => exact hu
    | j + 2, hu => simp [itC] at hu
  | 1, hx =>
    simp at hx
    subst hx
    match j, hu with
    | 0, hu => exact hu
    | 1, hu => exact hu
    | j + 2, hu => simp [itC] at hu
  | k + 2, hx => simp at hx
theorem awake_any (w : World) (hT : Tabs w) :
    Calls Tryz.prog 7 #[] w fun e' w' => e' = .returned (.bool true) ∧ Below w.heap.size w w' := by
  have HB : Below w.heap.size w w := Below.refl _ _
  have HT := hT
  clear hT
  go_enter Tryz.func7, Tryz.ntmps7
  go_wp2_with (first | (go_at_call 26; ((with_reducible refine (empty_any _).mono ?_); rintro e' w1 ⟨rfl, b1⟩; have HT := HT.next b1; have HB := btr HB HB.size b1; clear b1)) | (go_at_call 29; ((with_reducible refine (mk1 _ HT).mono ?_); rintro e' w2 ⟨v1, rfl, hQ1, b2⟩; have HT := HT.next b2; have HB := btr HB HB.size b2; have S1 := hQ1.toR; obtain ⟨Ab1, cb1, An1, cn1, rfl, -, -, -, -, -, -⟩ := hQ1.parts; clear b2 hQ1; have S1 := S1.next ((Below.refl _ w2).alloc (Nat.le_refl _) (.cells #[.int .i64 sf1.nb, .int .i64 sf1.nn, .int .i64 sf1.ns, .slice Ab1 sf1.bs.length cb1, .slice An1 sf1.ts.length cn1] 25)); have HT := HT.next ((Below.refl _ w2).alloc (Nat.le_refl _) (.cells #[.int .i64 sf1.nb, .int .i64 sf1.nn, .int .i64 sf1.ns, .slice Ab1 sf1.bs.length cb1, .slice An1 sf1.ts.length cn1] 25)); have HB := HB.alloc HB.size (.cells #[.int .i64 sf1.nb, .int .i64 sf1.nn, .int .i64 sf1.ns, .slice Ab1 sf1.bs.length cb1, .slice An1 sf1.ts.length cn1] 25))) | (go_at_call 29; ((with_reducible refine (mk2 _ _ S1 HT).mono ?_); rintro e' w3 ⟨v2, rfl, hQ2, b3⟩; have HT := HT.next b3; have HB := btr HB HB.size b3; have S2 := hQ2.toR; obtain ⟨Ab2, cb2, An2, cn2, rfl, -, -, -, -, -, -⟩ := hQ2.parts; clear b3 hQ2 S1; have S2 := S2.next ((Below.refl _ w3).alloc (Nat.le_refl _) (.cells #[.int .i64 sf2.nb, .int .i64 sf2.nn, .int .i64 sf2.ns, .slice Ab2 sf2.bs.length cb2, .slice An2 sf2.ts.length cn2] 25)); have HT := HT.next ((Below.refl _ w3).alloc (Nat.le_refl _) (.cells #[.int .i64 sf2.nb, .int .i64 sf2.nn, .int .i64 sf2.ns, .slice Ab2 sf2.bs.length cb2, .slice An2 sf2.ts.length cn2] 25)); have HB := HB.alloc HB.size (.cells #[.int .i64 sf2.nb, .int .i64 sf2.nn, .int .i64 sf2.ns, .slice Ab2 sf2.bs.length cb2, .slice An2 sf2.ts.length cn2] 25); have B2 : Blk (w3.alloc (.cells #[.int .i64 sf2.nb, .int .i64 sf2.nn, .int .i64 sf2.ns, .slice Ab2 sf2.bs.length cb2, .slice An2 sf2.ts.length cn2] 25)) w3.heap.size 25 #[.int .i64 sf2.nb, .int .i64 sf2.nn, .int .i64 sf2.ns, .slice Ab2 sf2.bs.length cb2, .slice An2 sf2.ts.length cn2] := Blk.new_ w3 25 #[.int .i64 sf2.nb, .int .i64 sf2.nn, .int .i64 sf2.ns, .slice Ab2 sf2.bs.length cb2, .slice An2 sf2.ts.length cn2])) | (go_at_call 29; ((with_reducible refine (mk3 _ _ S2 HT).mono ?_); rintro e' w4 ⟨rfl, b4⟩; have HT := (HT.next b4).next ((Below.refl _ w4).alloc (Nat.le_refl _) (.cells #[.int .i64 0, .int .i64 0, .int .i64 0, .slice none 0 0, .slice none 0 0] 25)); have HB := (btr HB HB.size b4).alloc (btr HB HB.size b4).size (.cells #[.int .i64 0, .int .i64 0, .int .i64 0, .slice none 0 0, .slice none 0 0] 25); have S2 := (S2.next b4).next ((Below.refl _ w4).alloc (Nat.le_refl _) (.cells #[.int .i64 0, .int .i64 0, .int .i64 0, .slice none 0 0, .slice none 0 0] 25)); have B2 := (B2.below b4 B2.lt).alloc_ (.cells #[.int .i64 0, .int .i64 0, .int .i64 0, .slice none 0 0, .slice none 0 0] 25); clear b4; have k0 := B2.cell_ 0; have k1 := B2.cell_ 1; have k2 := B2.cell_ 2; have k3 := B2.cell_ 3; have k4 := B2.cell_ 4; simp at k0 k1 k2 k3 k4)) | (go_at_call 13; ((with_reducible refine (bks2 _ _ S2 HT).mono ?_); rintro e' w5 ⟨A5, c5, rfl, hs5, b5⟩; have HT := (HT.next b5).next ((Below.refl _ w5).alloc (Nat.le_refl _) (.cells #[.int .i64 2, .string ⟨#[97]⟩, .int .i64 1, .string ⟨#[98]⟩] 64)); have HB := (btr HB HB.size b5).alloc (btr HB HB.size b5).size (.cells #[.int .i64 2, .string ⟨#[97]⟩, .int .i64 1, .string ⟨#[98]⟩] 64); have S2 := (S2.next b5).next ((Below.refl _ w5).alloc (Nat.le_refl _) (.cells #[.int .i64 2, .string ⟨#[97]⟩, .int .i64 1, .string ⟨#[98]⟩] 64)); have B2 := (B2.below b5 B2.lt).alloc_ (.cells #[.int .i64 2, .string ⟨#[97]⟩, .int .i64 1, .string ⟨#[98]⟩] 64); have hs5 := SlE.next hs5 ((Below.refl _ w5).alloc (Nat.le_refl _) (.cells #[.int .i64 2, .string ⟨#[97]⟩, .int .i64 1, .string ⟨#[98]⟩] 64)); have hl5 := lit_items w5; clear b5; clear k0 k1 k2 k3 k4; have k0 := B2.cell_ 0; have k1 := B2.cell_ 1; have k2 := B2.cell_ 2; have k3 := B2.cell_ 3; have k4 := B2.cell_ 4; simp at k0 k1 k2 k3 k4)) | (go_at_call 18; ((with_reducible refine (sameItems_yes [⟨2, sA⟩, ⟨1, sB⟩] _ _ 2 _ _ _ rfl (by decide) hs5 hl5).mono ?_); rintro e' w6 ⟨rfl, b6⟩; have HT := HT.next b6; have HB := btr HB HB.size b6; have S2 := S2.next b6; have B2 := B2.below b6 B2.lt; clear b6 hs5 hl5; clear k0 k1 k2 k3 k4; have k0 := B2.cell_ 0; have k1 := B2.cell_ 1; have k2 := B2.cell_ 2; have k3 := B2.cell_ 3; have k4 := B2.cell_ 4; simp at k0 k1 k2 k3 k4)) | (go_at_call 10; ((with_reducible refine (may_2 _ _ S2 HT).mono ?_); rintro e' w7 ⟨rfl, b7⟩; have HB := btr HB HB.size b7; clear b7)))
  go_ret
  exact ⟨rfl, HB⟩
end Go.Proofs.YtokhapafpjejaaaGreatDoor
namespace Go.Proofs.YtokhapafpjejaaaGreatDoor
open Go.ChangeShapes Go.WideShapes Go.ChangeAt Go.RowKit
attribute [local go_sem ↓] Go.wp_at_zero Go.wp_at_succ
theorem idxP_cases {α : Type} (p : α → Bool) (l : List α) : (idxP p l = -1 ∧ l.any p = false) ∨ ∃ (k : Nat) (x : α), idxP p l = (k : Int) ∧ l[k]? = some x ∧ p x = true ∧ (l.take k).any p = false := by
  cases hf : l.findIdx? p with
  | none =>
    left
    constructor
    · unfold idxP
      rw [hf]
    · rw [List.any_eq_false]
      intro x hx
      simpa using List.findIdx?_eq_none_iff.1 hf x hx
  | some k =>
    right
    obtain ⟨hlt, hp, hn⟩ := List.findIdx?_eq_some_iff_getElem.1 hf
    refine ⟨k, l[k], ?_, List.getElem?_eq_getElem hlt, hp, ?_⟩
    · unfold idxP
      rw [hf]
    · rw [List.any_eq_false]
      intro x hx
      obtain ⟨j, hj, rfl⟩ := List.mem_take_iff_getElem.1 hx
      simpa using hn j (by omega)
structure DInv {α : Type} (ps : List (α × List Value)) (p : α → Bool) (i j : Nat) (qs : List (α × List Value)) : Prop where
  len : qs.length = ps.length
  tk : qs.take i = (ps.take j).filter (fun x => !p x.1)
  il : i = ((ps.take j).filter (fun x => !p x.1)).length
  dr : qs.drop j = ps.drop j
  lt : i < j
  le : j ≤ ps.length
theorem DInv.start {α : Type} {ps : List (α × List Value)} {p : α → Bool} {k : Nat} {x : α × List Value} (h : (ps.take k).any (fun y => p y.1) = false) (hk : ps[k]? = some x) (hp : p x.1 = true) : DInv ps p k (k + 1) ps := by
  have hlt := (List.getElem?_eq_some_iff.1 hk).1
  have h1 : (ps.take (k + 1)).filter (fun x => !p x.1) = ps.take k := by
    rw [List.take_add_one, hk, List.filter_append]
    have h2 : (ps.take k).filter (fun x => !p x.1) = ps.take k := by
      rw [List.filter_eq_self]
      intro a ha
      have := List.any_eq_false.1 h a ha
      simpa using this
    rw [h2]
    simp [hp]
  exact ⟨rfl, h1.symm, by rw [h1, List.length_take]; omega, rfl, by omega, by omega⟩
theorem DInv.get {α : Type} {ps qs : List (α × List Value)} {p : α → Bool} {i j : Nat} (h : DInv ps p i j qs) {x : α × List Value} (hx : ps[j]? = some x) : qs[j]? = some x := by
  have h1 : (qs.drop j)[0]? = (ps.drop j)[0]? := by rw [h.dr]
  rw [List.getElem?_drop, List.getElem?_drop] at h1
  simpa [hx] using h1
theorem DInv.keep {α : Type} {ps qs : List (α × List Value)} {p : α → Bool} {i j : Nat} (h : DInv ps p i j qs) {x : α × List Value} (hx : ps[j]? = some x) (hp : p x.1 = false) : DInv ps p (i + 1) (j + 1) (qs.set i x) := by
  have hlt := (List.getElem?_eq_some_iff.1 hx).1
  have hl := h.len
  have hij := h.lt
  have h1 : (ps.take (j + 1)).filter (fun x => !p x.1) = (ps.take j).filter (fun x => !p x.1) ++ [x] := filter_yes hx (by simp [hp])
  refine ⟨by rw [List.length_set]; exact hl, ?_, by rw [h1, List.length_append, ← h.il]; rfl, ?_, by omega, by omega⟩
  · rw [h1, ← h.tk, List.take_add_one, List.getElem?_set]
    rw [if_pos rfl, if_pos (by omega), List.take_set_of_le (Nat.le_refl _)]
    rfl
  · rw [List.drop_set_of_lt (by omega), ← List.drop_drop, h.dr, List.drop_drop]
theorem DInv.skip {α : Type} {ps qs : List (α × List Value)} {p : α → Bool} {i j : Nat} (h : DInv ps p i j qs) {x : α × List Value} (hx : ps[j]? = some x) (hp : p x.1 = true) : DInv ps p i (j + 1) qs := by
  have hlt := (List.getElem?_eq_some_iff.1 hx).1
  have h1 : (ps.take (j + 1)).filter (fun x => !p x.1) = (ps.take j).filter (fun x => !p x.1) := filter_no hx (by simp [hp])
  have := h.lt
  exact ⟨h.len, by rw [h1]; exact h.tk, by rw [h1]; exact h.il, by rw [← List.drop_drop, h.dr, List.drop_drop], by omega, by omega⟩
theorem own_cut {w : World} {base C n c i : Nat} {e : TypeId} {A : Option Addr} {xs : List Value} (h : w.ownsRow base e C (.slice A n c) n xs) (hA : A ≠ none) (hi : i ≤ n) : w.ownsRow base e C (.slice A i c) i (xs.take (i * C)) := by
  have hic : i * C ≤ n * C := Nat.mul_le_mul_right _ hi
  refine ⟨by rw [List.length_take, h.1, Nat.min_eq_left hic], ?_⟩
  rcases h.2 with ⟨hv, _⟩ | ⟨g, cap, cur, hv, hb, hh, hnc, hm, hs, ht⟩
  · injection hv with h1
    exact absurd h1 hA
  · injection hv with h1 h2 h3
    subst h1 h3
    exact Or.inr ⟨g, c, cur, rfl, hb, hh, by omega, hm, hs, by rw [← ht, List.take_take, Nat.min_eq_left hic]⟩
theorem own_clear {base C c g n : Nat} {e : TypeId} (i : Nat) : ∀ (vs : List Value) (o : Nat) (w : World) (xs : List Value), i * C ≤ o → w.ownsRow base e C (.slice (some ⟨g, 0, none⟩) n c) n xs → ∃ ys, (w.setCells g o vs).ownsRow base e C (.slice (some ⟨g, 0, none⟩) n c) n ys ∧ ys.take (i * C) = xs.take (i * C) ∧ w.grownBy (w.setCells g o vs) (some g)
  | [], o, w, xs, ho, h => ⟨xs, h, rfl, World.grownBy.refl w _⟩
  | v :: r, o, w, xs, ho, h => by
    obtain ⟨ys, h1, h2, h3⟩ := own_clear (n := n) (c := c) i r (o + 1) (w.setCell ⟨g, o, none⟩ v) (xs.set o v) (by omega) (h.stored o v).1
    exact ⟨ys, h1, by rw [h2, List.take_set_of_le (by omega)], (set1_grown w g o v).trans h3⟩
theorem grown_below {w w' : World} {row : Option Nat} (hb : Below w.heap.size w w') : w.grownBy w' row := ⟨hb.os, hb.tape, hb.output, hb.size, fun k hk _ => hb.block k hk⟩
theorem flat_take {C : Nat} : ∀ (es : List (List Value)) (i : Nat), (∀ x ∈ es, x.length = C) → es.flatten.take (i * C) = (es.take i).flatten
  | [], i, _ => by simp
  | y :: es, 0, _ => by simp
  | y :: es, i + 1, hC => by
    have hy : y.length = C := hC y (by simp)
    rw [List.flatten_cons, List.take_succ_cons, List.flatten_cons, ← flat_take es i (fun x hx => hC x (by simp [hx])), List.take_append, List.take_of_length_le (by rw [hy, Nat.add_mul]; omega), hy, show (i + 1) * C - C = i * C by rw [Nat.add_mul]; omega]
theorem keepC {w w' : World} {g o : Nat} {v : Value} (h : w.cell? ⟨g, o, none⟩ = some v) (hb : Below w.heap.size w w') (hg : g < w.heap.size) : w'.cell? ⟨g, o, none⟩ = some v := (hb.cell (p := ⟨g, o, none⟩) hg).trans h
def st2 (w : World) (g o : Nat) (a0 a1 : Value) : World := World.setCell (World.setCell w ⟨g, o, none⟩ a0) ⟨g, o + 1, none⟩ a1
theorem set_two : ∀ (es : List (List Value)) (k : Nat) (p0 p1 a0 a1 : Value), es[k]? = some [p0, p1] → (∀ x ∈ es, x.length = 2) → ((es.flatten.set (k * 2 + 0) a0).set (k * 2 + 1) a1) = (es.set k [a0, a1]).flatten
  | [], k, _, _, _, _, h, _ => by simp at h
  | y :: es, 0, p0, p1, a0, a1, h, _ => by
    simp at h
    subst h
    rfl
  | y :: es, k + 1, p0, p1, a0, a1, h, hC => by
    obtain ⟨x0, x1, rfl⟩ := len2 (hC y (by simp))
    have ih := set_two es k p0 p1 a0 a1 (by simpa using h) (fun x hx => hC x (by simp [hx]))
    rw [List.set_cons_succ, List.flatten_cons, List.flatten_cons, ← ih]
    rw [show (k + 1) * 2 + 0 = (k * 2 + 0) + 2 by omega, show (k + 1) * 2 + 1 = (k * 2 + 1) + 2 by omega]
    rfl
theorem st2_own {w : World} {base n c g : Nat} {e : TypeId} {es : List (List Value)} (h : w.ownsRow base e 2 (.slice (some ⟨g, 0, none⟩) n c) n es.flatten) (hC : ∀ x ∈ es, x.length = 2) {k : Nat} {x : List Value} (hk : es[k]? = some x) (a0 a1 : Value) : (st2 w g (k * 2) a0 a1).ownsRow base e 2 (.slice (some ⟨g, 0, none⟩) n c) n (es.set k [a0, a1]).flatten ∧ w.grownBy (st2 w g (k * 2) a0 a1) (some g) := by
  obtain ⟨p0, p1, rfl⟩ := len2 (hC x (List.mem_of_getElem? hk))
  rw [← set_two es k p0 p1 a0 a1 hk hC]
  exact ⟨((h.stored (k * 2 + 0) a0).1.stored (k * 2 + 1) a1).1, grown_set (grown_set (World.grownBy.refl w _) _ _) _ _⟩
theorem two_cells {w : World} {base n c g : Nat} {e : TypeId} {es : List (List Value)} (h : w.ownsRow base e 2 (.slice (some ⟨g, 0, none⟩) n c) n es.flatten) (hC : ∀ x ∈ es, x.length = 2) {k : Nat} (hk : k < es.length) : ∃ p0 p1, w.cell? ⟨g, k * 2, none⟩ = some p0 ∧ w.cell? ⟨g, k * 2 + 1, none⟩ = some p1 := by
  have he := List.getElem?_eq_getElem hk
  obtain ⟨p0, p1, hp⟩ := len2 (hC _ (List.mem_of_getElem? he))
  rw [hp] at he
  exact ⟨p0, p1, own_cellE h hC he (j := 0) rfl, own_cellE h hC he (j := 1) rfl⟩
theorem run_clear_rows {P : Program} (w : World) (t e : TypeId) (z : Value) (ht : P.underlying t = some (.slice e)) (hv : ∀ w, (zeroValue e).run P w = .ok z w) (h1 : ∀ v ∈ z.cells, v.oneCell' = true) (b o n c : Nat) (hn : 0 < n) (hz : 0 < z.cells.size)
    (hc : ∀ j, j < n * z.cells.size → (w.cell? ⟨b, o + j, none⟩).isSome = true) (hf : ∀ j, j < n * z.cells.size → w.frozen? ⟨b, o + j, none⟩ = false) :
    ∃ vs : List Value, ∀ ty, (Builtin.clear_ #[t] ty #[.slice (some ⟨b, o, none⟩) n c]).run P w = .ok (.tuple #[]) (w.setCells b o vs) := by
  have hl : (Builtin.zeroCells z.cells n).toList.length = n * z.cells.size := by simp [Builtin.zeroCells]
  have hst := run_storeCells_cells (P := P) b o (Builtin.zeroCells z.cells n).toList 0 w (by rw [hl]; simpa using hc) (by rw [hl]; simpa using hf) (by
    intro v hv'
    simp only [Builtin.zeroCells, Array.toList_map, List.mem_map] at hv'
    obtain ⟨i, hi, rfl⟩ := hv'
    have : i % z.cells.size < z.cells.size := Nat.mod_lt _ hz
    rw [getElem!_pos z.cells _ this]
    exact h1 _ (Array.getElem_mem this))
  simp only [Nat.add_zero] at hst
  obtain ⟨m, rfl⟩ : ∃ m, n = m + 1 := ⟨n - 1, by omega⟩
  exact ⟨(Builtin.zeroCells z.cells (m + 1)).toList, fun ty => by simp [Builtin.clear_, run_underlying ht, hv, hst]⟩
end Go.Proofs.YtokhapafpjejaaaGreatDoor
namespace Go.Proofs.YtokhapafpjejaaaGreatDoor
open Go.ChangeShapes Go.WideShapes Go.ChangeAt Go.RowKit
attribute [local go_sem ↓] Go.wp_at_zero Go.wp_at_succ
theorem cl_dropB (b : Bk) (x : Int) (g0 : Nat) (w : World) (c0 : w.cell? ⟨g0, 0, none⟩ = some (.int .i64 x)) (l0 : g0 < w.heap.size) (T : Bool) (hT : (b.id == x) = T) :
    Calls Tryz.prog 66 #[.agg #[.int .i64 b.id, .string b.nm], .pointer (some ⟨g0, 0, none⟩)] w fun e' w' => e' = .returned (.bool T) ∧ Below w.heap.size w w' := by
  subst hT
  go_enter Tryz.func66, Tryz.ntmps66
  go_wp2
  go_ret
  exact ⟨rfl, (Below.refl _ _).alloc (Nat.le_refl _) _⟩
theorem cl_dropN (n : Nt) (vt vs : Value) (x : Int) (g0 : Nat) (w : World) (c0 : w.cell? ⟨g0, 0, none⟩ = some (.int .i64 x)) (l0 : g0 < w.heap.size) (T : Bool) (hT : (n.bk == x) = T) :
    Calls Tryz.prog 68 #[.agg #[.int .i64 n.id, .int .i64 n.bk, .string n.nm, vt, vs], .pointer (some ⟨g0, 0, none⟩)] w fun e' w' => e' = .returned (.bool T) ∧ Below w.heap.size w w' := by
  subst hT
  go_enter Tryz.func68, Tryz.ntmps68
  go_wp2
  go_ret
  exact ⟨rfl, (Below.refl _ _).alloc (Nat.le_refl _) _⟩
theorem cl_disc (n : Nt) (vt vs : Value) (x : Int) (g0 : Nat) (w : World) (c0 : w.cell? ⟨g0, 0, none⟩ = some (.int .i64 x)) (l0 : g0 < w.heap.size) (T : Bool) (hT : (n.id == x) = T) :
    Calls Tryz.prog 71 #[.agg #[.int .i64 n.id, .int .i64 n.bk, .string n.nm, vt, vs], .pointer (some ⟨g0, 0, none⟩)] w fun e' w' => e' = .returned (.bool T) ∧ Below w.heap.size w w' := by
  subst hT
  go_enter Tryz.func71, Tryz.ntmps71
  go_wp2
  go_ret
  exact ⟨rfl, (Below.refl _ _).alloc (Nat.le_refl _) _⟩
theorem ix_dropB (bs : List Bk) (A : Option Addr) (cp : Nat) (x : Int) (g0 : Nat) (w : World) (hS : BksIn w w.heap.size A bs) (hc : bs.length ≤ cp) (hm : cp ≤ maxLen) (c0 : w.cell? ⟨g0, 0, none⟩ = some (.int .i64 x)) (l0 : g0 < w.heap.size) :
    Calls Tryz.prog 79 #[.slice A bs.length cp, .func (.func 66) #[] #[.pointer (some ⟨g0, 0, none⟩)]] w fun e' w' => e' = .returned (.int .i64 (idxP (fun x_ : Bk => x_.id == x) bs)) ∧ Below w.heap.size w w' := by
  have HB0 : Below w.heap.size w w := Below.refl _ _
  have hlm : bs.length ≤ 9223372036854775807 := by have h0 : cp ≤ maxLen := hm; unfold maxLen at h0; omega
  obtain ⟨n, hn⟩ : ∃ n, bs.length = n := ⟨_, rfl⟩
  rw [hn] at hc hlm ⊢
  have HN := Lib.hid hn
  clear hn
  go_enter Tryz.func79, Tryz.ntmps79
  go_wp2_with fail
  go_loopw [8] (fun i wr => ∃ k : Nat, k ≤ n ∧ i = .int .i64 k ∧ (bs.take k).any (fun x_ : Bk => x_.id == x) = false ∧ Below w.heap.size w wr) (fun i _ => n - (intOf i).toNat)
  case atStart => exact ⟨0, by omega, rfl, rfl, HB0⟩
  case round =>
    obtain ⟨k, hk, rfl, hq, HBr⟩ := hrel
    clear HB0
    have HQ := Lib.hid hq
    clear hq
    by_cases hlt : k < n
    · have hlx : k < bs.length := by have := HN.out; omega
      have i0 : (0 : Int) ≤ (k : Int) := by omega
      have i1 : (k : Int) < (n : Int) := by omega
      obtain ⟨b0, hx⟩ : ∃ x, bs[k]? = some x := ⟨_, List.getElem?_eq_getElem hlx⟩
      obtain ⟨b1, o1, rfl, r1, q1⟩ := SlE.at_ hS (by rw [List.length_map]; omega)
      have he : (bs.map bkC)[k]? = some (bkC b0) := by rw [List.getElem?_map, hx]; rfl
      have y0 : wr.cell? ⟨b1, o1 + k * 2 + 0, none⟩ = some (.int .i64 b0.id) := (HBr.cell (p := ⟨b1, _, none⟩) r1).trans (q1 k _ he 0 _ rfl)
      have y1 : wr.cell? ⟨b1, o1 + k * 2 + 1, none⟩ = some (.string b0.nm) := (HBr.cell (p := ⟨b1, _, none⟩) r1).trans (q1 k _ he 1 _ rfl)
      have d0 : wr.cell? ⟨g0, 0, none⟩ = some (.int .i64 x) := (HBr.cell (p := ⟨g0, 0, none⟩) l0).trans c0
      have m0 : g0 < wr.heap.size := by have := HBr.size; omega
      simp only [Nat.add_zero] at y0
      have HX := Lib.hid hx
      have HE := Lib.hid he
      clear hx he q1
      rcases (by cases hq : (b0.id == x) <;> simp : (b0.id == x) = true ∨ (b0.id == x) = false) with hp | hp
      · have HP := Lib.hid hp
        go_wp2_with (go_at_call 66; ((with_reducible refine (cl_dropB b0 x g0 _ d0 m0 _ hp).mono ?_); rintro e' wN ⟨rfl, hb3⟩; have HBr := btr HBr HBr.size hb3; clear hb3))
        go_ret
        exact ⟨by rw [idxP_at HQ.out HX.out HP.out]; rfl, HBr⟩
      · have HP := Lib.hid hp
        go_wp2_with (go_at_call 66; ((with_reducible refine (cl_dropB b0 x g0 _ d0 m0 _ hp).mono ?_); rintro e' wN ⟨rfl, hb3⟩; have HBr := btr HBr HBr.size hb3; clear hb3))
        go_roundw
        case rel => exact ⟨k + 1, by omega, by go_num, any_next HQ.out HX.out HP.out, HBr⟩
        case measure => simp [intOf]; omega
    · have hjn : k = n := by omega
      subst hjn
      go_wp2_with fail
      go_ret
      refine ⟨?_, HBr⟩
      rw [idxP_no (by have := HQ.out; rwa [List.take_of_length_le (by rw [HN.out]; exact Nat.le_refl _)] at this)]
      rfl
theorem ix_dropN (ts : List Nt) (A : Option Addr) (cp : Nat) (x : Int) (g0 : Nat) (w : World) (hS : NtsIn w w.heap.size A ts) (hc : ts.length ≤ cp) (hm : cp ≤ maxLen) (c0 : w.cell? ⟨g0, 0, none⟩ = some (.int .i64 x)) (l0 : g0 < w.heap.size) :
    Calls Tryz.prog 81 #[.slice A ts.length cp, .func (.func 68) #[] #[.pointer (some ⟨g0, 0, none⟩)]] w fun e' w' => e' = .returned (.int .i64 (idxP (fun x_ : Nt => x_.bk == x) ts)) ∧ Below w.heap.size w w' := by
  have HB0 : Below w.heap.size w w := Below.refl _ _
  obtain ⟨es, hel, hse, hnt⟩ := hS.ex
  clear hS
  have hlm : ts.length ≤ 9223372036854775807 := by have h0 : cp ≤ maxLen := hm; unfold maxLen at h0; omega
  obtain ⟨n, hn⟩ : ∃ n, ts.length = n := ⟨_, rfl⟩
  rw [hn] at hc hlm ⊢
  have HN := Lib.hid hn
  clear hn
  go_enter Tryz.func81, Tryz.ntmps81
  go_wp2_with fail
  go_loopw [8] (fun i wr => ∃ k : Nat, k ≤ n ∧ i = .int .i64 k ∧ (ts.take k).any (fun x_ : Nt => x_.bk == x) = false ∧ Below w.heap.size w wr) (fun i _ => n - (intOf i).toNat)
  case atStart => exact ⟨0, by omega, rfl, rfl, HB0⟩
  case round =>
    obtain ⟨k, hk, rfl, hq, HBr⟩ := hrel
    clear HB0
    have HQ := Lib.hid hq
    clear hq
    by_cases hlt : k < n
    · have hlx : k < ts.length := by have := HN.out; omega
      have i0 : (0 : Int) ≤ (k : Int) := by omega
      have i1 : (k : Int) < (n : Int) := by omega
      obtain ⟨n0, hx⟩ : ∃ x, ts[k]? = some x := ⟨_, List.getElem?_eq_getElem hlx⟩
      obtain ⟨e0, he⟩ : ∃ e, es[k]? = some e := ⟨_, List.getElem?_eq_getElem (by omega)⟩
      obtain ⟨At, ct, As, cs, rfl, -⟩ := (hnt k n0 e0 hx he).ex
      obtain ⟨b1, o1, rfl, r1, q1⟩ := hse.at_ (by omega)
      have y0 : wr.cell? ⟨b1, o1 + k * 5 + 0, none⟩ = some (.int .i64 n0.id) := (HBr.cell (p := ⟨b1, _, none⟩) r1).trans (q1 k _ he 0 _ rfl)
      have y1 : wr.cell? ⟨b1, o1 + k * 5 + 1, none⟩ = some (.int .i64 n0.bk) := (HBr.cell (p := ⟨b1, _, none⟩) r1).trans (q1 k _ he 1 _ rfl)
      have y2 : wr.cell? ⟨b1, o1 + k * 5 + 2, none⟩ = some (.string n0.nm) := (HBr.cell (p := ⟨b1, _, none⟩) r1).trans (q1 k _ he 2 _ rfl)
      have y3 : wr.cell? ⟨b1, o1 + k * 5 + 3, none⟩ = some (.slice At n0.tg.length ct) := (HBr.cell (p := ⟨b1, _, none⟩) r1).trans (q1 k _ he 3 _ rfl)
      have y4 : wr.cell? ⟨b1, o1 + k * 5 + 4, none⟩ = some (.slice As n0.sh.length cs) := (HBr.cell (p := ⟨b1, _, none⟩) r1).trans (q1 k _ he 4 _ rfl)
      have d0 : wr.cell? ⟨g0, 0, none⟩ = some (.int .i64 x) := (HBr.cell (p := ⟨g0, 0, none⟩) l0).trans c0
      have m0 : g0 < wr.heap.size := by have := HBr.size; omega
      simp only [Nat.add_zero] at y0
      have HX := Lib.hid hx
      have HE := Lib.hid he
      clear hx he q1
      rcases (by cases hq : (n0.bk == x) <;> simp : (n0.bk == x) = true ∨ (n0.bk == x) = false) with hp | hp
      · have HP := Lib.hid hp
        go_wp2_with (go_at_call 68; ((with_reducible refine (cl_dropN n0 _ _ x g0 _ d0 m0 _ hp).mono ?_); rintro e' wN ⟨rfl, hb3⟩; have HBr := btr HBr HBr.size hb3; clear hb3))
        go_ret
        exact ⟨by rw [idxP_at HQ.out HX.out HP.out]; rfl, HBr⟩
      · have HP := Lib.hid hp
        go_wp2_with (go_at_call 68; ((with_reducible refine (cl_dropN n0 _ _ x g0 _ d0 m0 _ hp).mono ?_); rintro e' wN ⟨rfl, hb3⟩; have HBr := btr HBr HBr.size hb3; clear hb3))
        go_roundw
        case rel => exact ⟨k + 1, by omega, by go_num, any_next HQ.out HX.out HP.out, HBr⟩
        case measure => simp [intOf]; omega
    · have hjn : k = n := by omega
      subst hjn
      go_wp2_with fail
      go_ret
      refine ⟨?_, HBr⟩
      rw [idxP_no (by have := HQ.out; rwa [List.take_of_length_le (by rw [HN.out]; exact Nat.le_refl _)] at this)]
      rfl
theorem ix_disc (ts : List Nt) (A : Option Addr) (cp : Nat) (x : Int) (g0 : Nat) (w : World) (hS : NtsIn w w.heap.size A ts) (hc : ts.length ≤ cp) (hm : cp ≤ maxLen) (c0 : w.cell? ⟨g0, 0, none⟩ = some (.int .i64 x)) (l0 : g0 < w.heap.size) :
    Calls Tryz.prog 81 #[.slice A ts.length cp, .func (.func 71) #[] #[.pointer (some ⟨g0, 0, none⟩)]] w fun e' w' => e' = .returned (.int .i64 (idxP (fun x_ : Nt => x_.id == x) ts)) ∧ Below w.heap.size w w' := by
  have HB0 : Below w.heap.size w w := Below.refl _ _
  obtain ⟨es, hel, hse, hnt⟩ := hS.ex
  clear hS
  have hlm : ts.length ≤ 9223372036854775807 := by have h0 : cp ≤ maxLen := hm; unfold maxLen at h0; omega
  obtain ⟨n, hn⟩ : ∃ n, ts.length = n := ⟨_, rfl⟩
  rw [hn] at hc hlm ⊢
  have HN := Lib.hid hn
  clear hn
  go_enter Tryz.func81, Tryz.ntmps81
  go_wp2_with fail
  go_loopw [8] (fun i wr => ∃ k : Nat, k ≤ n ∧ i = .int .i64 k ∧ (ts.take k).any (fun x_ : Nt => x_.id == x) = false ∧ Below w.heap.size w wr) (fun i _ => n - (intOf i).toNat)
  case atStart => exact ⟨0, by omega, rfl, rfl, HB0⟩
  case round =>
    obtain ⟨k, hk, rfl, hq, HBr⟩ := hrel
    clear HB0
    have HQ := Lib.hid hq
    clear hq
    by_cases hlt : k < n
    · have hlx : k < ts.length := by have := HN.out; omega
      have i0 : (0 : Int) ≤ (k : Int) := by omega
      have i1 : (k : Int) < (n : Int) := by omega
      obtain ⟨n0, hx⟩ : ∃ x, ts[k]? = some x := ⟨_, List.getElem?_eq_getElem hlx⟩
      obtain ⟨e0, he⟩ : ∃ e, es[k]? = some e := ⟨_, List.getElem?_eq_getElem (by omega)⟩
      obtain ⟨At, ct, As, cs, rfl, -⟩ := (hnt k n0 e0 hx he).ex
      obtain ⟨b1, o1, rfl, r1, q1⟩ := hse.at_ (by omega)
      have y0 : wr.cell? ⟨b1, o1 + k * 5 + 0, none⟩ = some (.int .i64 n0.id) := (HBr.cell (p := ⟨b1, _, none⟩) r1).trans (q1 k _ he 0 _ rfl)
      have y1 : wr.cell? ⟨b1, o1 + k * 5 + 1, none⟩ = some (.int .i64 n0.bk) := (HBr.cell (p := ⟨b1, _, none⟩) r1).trans (q1 k _ he 1 _ rfl)
      have y2 : wr.cell? ⟨b1, o1 + k * 5 + 2, none⟩ = some (.string n0.nm) := (HBr.cell (p := ⟨b1, _, none⟩) r1).trans (q1 k _ he 2 _ rfl)
      have y3 : wr.cell? ⟨b1, o1 + k * 5 + 3, none⟩ = some (.slice At n0.tg.length ct) := (HBr.cell (p := ⟨b1, _, none⟩) r1).trans (q1 k _ he 3 _ rfl)
      have y4 : wr.cell? ⟨b1, o1 + k * 5 + 4, none⟩ = some (.slice As n0.sh.length cs) := (HBr.cell (p := ⟨b1, _, none⟩) r1).trans (q1 k _ he 4 _ rfl)
      have d0 : wr.cell? ⟨g0, 0, none⟩ = some (.int .i64 x) := (HBr.cell (p := ⟨g0, 0, none⟩) l0).trans c0
      have m0 : g0 < wr.heap.size := by have := HBr.size; omega
      simp only [Nat.add_zero] at y0
      have HX := Lib.hid hx
      have HE := Lib.hid he
      clear hx he q1
      rcases (by cases hq : (n0.id == x) <;> simp : (n0.id == x) = true ∨ (n0.id == x) = false) with hp | hp
      · have HP := Lib.hid hp
        go_wp2_with (go_at_call 71; ((with_reducible refine (cl_disc n0 _ _ x g0 _ d0 m0 _ hp).mono ?_); rintro e' wN ⟨rfl, hb3⟩; have HBr := btr HBr HBr.size hb3; clear hb3))
        go_ret
        exact ⟨by rw [idxP_at HQ.out HX.out HP.out]; rfl, HBr⟩
      · have HP := Lib.hid hp
        go_wp2_with (go_at_call 71; ((with_reducible refine (cl_disc n0 _ _ x g0 _ d0 m0 _ hp).mono ?_); rintro e' wN ⟨rfl, hb3⟩; have HBr := btr HBr HBr.size hb3; clear hb3))
        go_roundw
        case rel => exact ⟨k + 1, by omega, by go_num, any_next HQ.out HX.out HP.out, HBr⟩
        case measure => simp [intOf]; omega
    · have hjn : k = n := by omega
      subst hjn
      go_wp2_with fail
      go_ret
      refine ⟨?_, HBr⟩
      rw [idxP_no (by have := HQ.out; rwa [List.take_of_length_le (by rw [HN.out]; exact Nat.le_refl _)] at this)]
      rfl
theorem grown_cell {w w' : World} {g g0 o : Nat} {v : Value} (hG : w.grownBy w' (some g)) (h : w.cell? ⟨g0, o, none⟩ = some v) (hne : g0 ≠ g) : w'.cell? ⟨g0, o, none⟩ = some v := hG.cell h (fun e => hne (by cases e; rfl))
theorem zero_df_dropB (w : World) : (zeroValue 59).run Tryz.prog w = .ok (.agg #[.int .i64 0, .string ⟨#[]⟩]) w := by kernel_rfl
theorem df_dropB (ps : List (Bk × List Value)) (A : Option Addr) (cp : Nat) (x : Int) (g0 base : Nat) (w : World) (hps : ∀ q ∈ ps, q.2 = bkC q.1) (hS : BksIn w w.heap.size A (ps.map Prod.fst)) (c0 : w.cell? ⟨g0, 0, none⟩ = some (.int .i64 x)) (l0 : g0 < w.heap.size) (hg0 : g0 < base) (hbase : base ≤ w.heap.size) (hown : w.ownsRow base 59 2 (.slice A ps.length cp) ps.length (ps.map Prod.snd).flatten) (hsm : ps.length ≤ 100000) :
    Calls Tryz.prog 65 #[.slice A ps.length cp, .func (.func 66) #[] #[.pointer (some ⟨g0, 0, none⟩)]] w fun e' w' => ∃ A2 c2, e' = .returned (.slice A2 (ps.filter fun q => !(fun x_ : Bk => x_.id == x) q.1).length c2) ∧ w'.ownsRow base 59 2 (.slice A2 (ps.filter fun q => !(fun x_ : Bk => x_.id == x) q.1).length c2) (ps.filter fun q => !(fun x_ : Bk => x_.id == x) q.1).length ((ps.filter fun q => !(fun x_ : Bk => x_.id == x) q.1).map Prod.snd).flatten ∧ w.grownBy w' (Value.slice A ps.length cp).ownBlock := by
  have HC0 := Lib.hid c0
  have hcase := idxP_cases (fun x_ : Bk => x_.id == x) (ps.map Prod.fst)
  have hC : ∀ y ∈ ps.map Prod.snd, y.length = 2 := by
    intro y hy
    obtain ⟨q, hq, rfl⟩ := List.mem_map.1 hy
    have h := hps q hq
    rw [h]
    rfl
  have hlen : (ps.map Prod.fst).length = ps.length := List.length_map _
  obtain ⟨n, hn⟩ : ∃ n, ps.length = n := ⟨_, rfl⟩
  have hic := ix_dropB (ps.map Prod.fst) A cp x g0 w hS (by rw [hlen]; exact (own_shape hown).elim fun _ h => h.elim fun _ h => by cases h.1; exact h.2.1) (by exact (own_shape hown).elim fun _ h => h.elim fun _ h => by cases h.1; exact h.2.2) c0 l0
  rw [hlen, hn] at hic
  rw [hn] at hown hsm ⊢
  have HN := Lib.hid hn
  have HPS := Lib.hid hps
  clear hS hn hlen hps
  rcases hcase with ⟨hm1, hany⟩ | ⟨k, xk, hk, hgk, hpk, hany⟩
  · have hfl : (ps.filter fun q => !(fun x_ : Bk => x_.id == x) q.1) = ps := by
      rw [List.filter_eq_self]
      intro a ha
      have := List.any_eq_false.1 hany a.1 (List.mem_map_of_mem ha)
      simpa using this
    rw [hm1] at hic
    rw [hfl, HN.out]
    clear hm1 hany hfl
    go_enter Tryz.func65, Tryz.ntmps65
    go_wp2_with (go_at_call 79; ((with_reducible refine hic.mono ?_); rintro e' w1 ⟨rfl, b1⟩))
    go_ret
    exact ⟨A, cp, rfl, own_belowW hown b1, grown_below b1⟩
  · have hkn : k < n := by
      have := (List.getElem?_eq_some_iff.1 hgk).1
      rw [List.length_map, HN.out] at this
      exact this
    obtain ⟨g, hA, hgb⟩ : ∃ g, A = some ⟨g, 0, none⟩ ∧ base ≤ g := by
      rcases hown.2 with ⟨h, h0⟩ | ⟨g, c, cu, h, hb, _⟩
      · omega
      · injection h with h1 h2 h3
        exact ⟨g, h1, hb⟩
    subst hA
    obtain ⟨q0, hq0⟩ : ∃ q, ps[k]? = some q := ⟨_, List.getElem?_eq_getElem (by rw [HN.out]; exact hkn)⟩
    have hst : DInv ps (fun x_ : Bk => x_.id == x) k (k + 1) ps := DInv.start (x := q0) (by
      rw [List.any_eq_false] at hany ⊢
      intro a ha
      exact hany a.1 (by rw [← List.map_take]; exact List.mem_map_of_mem ha)) hq0 (by
      have : (ps.map Prod.fst)[k]? = some q0.1 := by rw [List.getElem?_map, hq0]; rfl
      rw [this] at hgk
      cases hgk
      exact hpk)
    rw [hk] at hic
    have kpos : ¬ (k : Int) = -1 := by omega
    have kb : (0 : Int) ≤ (k : Int) := by omega
    have HST := Lib.hid hst
    have HIC := Lib.hid hic
    have HC := Lib.hid hC
    clear hst hic hC hany hgk hpk hk hq0
    go_enter Tryz.func65, Tryz.ntmps65
    go_upto_region 2 with (go_at_call 79; ((with_reducible refine HIC.out.mono ?_); rintro e' w1 ⟨rfl, b1⟩))
    have hon1 := own_belowW hown b1
    have d1 : w1.cell? ⟨g0, 0, none⟩ = some (.int .i64 x) := keepC c0 b1 l0
    have hg1 : w.grownBy w1 (some g) := grown_below b1
    have hb1 : base ≤ w1.heap.size := Nat.le_trans hbase b1.size
    have HG1 := Lib.hid hg1
    clear hown b1 c0 HIC hg1
    go_wp2_with fail
    go_loopw [5, 6] (fun iv jv wr => ∃ (i j : Nat) (qs : List (Bk × List Value)), iv = .int .i64 i ∧ jv = .int .i64 j ∧ DInv ps (fun x_ : Bk => x_.id == x) i j qs ∧ wr.ownsRow base 59 2 (.slice (some ⟨g, 0, none⟩) n cp) n (qs.map Prod.snd).flatten ∧ (∀ y ∈ qs.map Prod.snd, y.length = 2) ∧ w.grownBy wr (some g)) (fun _ jv _ => n - (intOf jv).toNat)
    case atStart => exact ⟨k, k + 1, ps, rfl, by go_num, HST.out, hon1, HC.out, HG1.out⟩
    case round =>
      obtain ⟨i, j, qs, rfl, rfl, hI, hon, hCq, hG⟩ := hrel
      have hsz : base ≤ wr.heap.size := Nat.le_trans hbase hG.size
      have d2 : wr.cell? ⟨g0, 0, none⟩ = some (.int .i64 x) := grown_cell hG HC0.out (by omega)
      have m2 : g0 < wr.heap.size := by omega
      have hij := hI.lt
      have hjl := hI.le
      rw [HN.out] at hjl
      have hql := hI.len
      rw [HN.out] at hql
      have HQL := Lib.hid hql
      have i0 : (0 : Int) ≤ (i : Int) := by omega
      have j0 : (0 : Int) ≤ (j : Int) := by omega
      clear hon1 d1 hb1 hql
      by_cases hlt : j < n
      · have j1 : (j : Int) < (n : Int) := by omega
        have i1 : (i : Int) < (n : Int) := by omega
        obtain ⟨⟨y, ey⟩, hy⟩ : ∃ q, ps[j]? = some q := ⟨_, List.getElem?_eq_getElem (by rw [HN.out]; exact hlt)⟩
        have hqj := hI.get hy
        have he : (qs.map Prod.snd)[j]? = some ey := by rw [List.getElem?_map, hqj]; rfl
        have hey := HPS.out _ (List.mem_of_getElem? hy)
        dsimp only at hey
        subst hey
        have y0 : wr.cell? ⟨g, j * 2, none⟩ = some (.int .i64 y.id) := own_cellE hon hCq he (j := 0) rfl
        have y1 : wr.cell? ⟨g, j * 2 + 1, none⟩ = some (.string y.nm) := own_cellE hon hCq he (j := 1) rfl
        have HI := Lib.hid hI
        have HY := Lib.hid hy
        have hqi : (qs.map Prod.snd)[i]? = some ((qs.map Prod.snd)[i]'(by rw [List.length_map, HQL.out]; omega)) := List.getElem?_eq_getElem _
        have HQI := Lib.hid hqi
        have HCQ := Lib.hid hCq
        have hlw : g < wr.heap.size := (hon.lt g rfl).2
        clear he hI hy hqj hqi hCq
        go_upto_region 8 with fail
        have hAL : Below wr.heap.size wr (wr.alloc (.cells #[.int .i64 y.id, .string y.nm] 59)) := (Below.refl _ _).alloc (Nat.le_refl _) _
        have BX : Blk (wr.alloc (.cells #[.int .i64 y.id, .string y.nm] 59)) wr.heap.size 59 #[.int .i64 y.id, .string y.nm] := Blk.new_ wr 59 #[.int .i64 y.id, .string y.nm]
        have d3 := keepC d2 hAL m2
        have m3 : g0 < (wr.alloc (.cells #[.int .i64 y.id, .string y.nm] 59)).heap.size := Nat.lt_of_lt_of_le m2 hAL.size
        have honA := own_belowW hon hAL
        have hGA : w.grownBy (wr.alloc (.cells #[.int .i64 y.id, .string y.nm] 59)) (some g) := hG.trans (grown_below hAL)
        obtain ⟨wa, hwa⟩ : ∃ V : World, V = wr.alloc (.cells #[.int .i64 y.id, .string y.nm] 59) := ⟨_, rfl⟩
        obtain ⟨gx, hgx⟩ : ∃ V : Nat, V = wr.heap.size := ⟨_, rfl⟩
        have hgne : gx ≠ g := by omega
        rw [← hwa] at BX d3 m3 honA hGA ⊢
        rw [← hgx] at BX ⊢
        clear hwa hgx hAL hon hG d2 m2 hlw y0 y1
        have x0 := BX.cell_ 0
        have x1 := BX.cell_ 1
        simp at x0 x1
        rcases (by cases hq : (y.id == x) <;> simp : (y.id == x) = true ∨ (y.id == x) = false) with hp | hp
        · have HP := Lib.hid hp
          clear hp
          go_wp2_with (go_at_call 66; ((with_reducible refine (cl_dropB y x g0 _ d3 m3 _ HP.out).mono ?_); rintro e' w4 ⟨rfl, b4⟩; have honB := own_belowW honA b4; have hGB := hGA.trans (grown_below (row := some g) b4)))
          refine ⟨?_, ?measure⟩
          (repeat apply Exists.intro)
          refine ⟨?rel, rfl⟩
          case rel => exact ⟨i, j + 1, qs, rfl, by go_num, HI.out.skip HY.out HP.out, honB, HCQ.out, hGB⟩
          case measure => simp [intOf]; omega
        · have HP := Lib.hid hp
          clear hp
          go_wp2_with (go_at_call 66; ((with_reducible refine (cl_dropB y x g0 _ d3 m3 _ HP.out).mono ?_); rintro e' w4 ⟨rfl, b4⟩; have honB := own_belowW honA b4; have hGB := hGA.trans (grown_below (row := some g) b4); have BX := BX.below b4 BX.lt; (clear x0 x1); have x0 := BX.cell_ 0; have x1 := BX.cell_ 1; simp at x0 x1; (have HZ := st2_own honB HCQ.out HQI.out (.int .i64 y.id) (.string y.nm)); (have t0 := honB.frozenAt (i * 2 + 0)); (have t1 := honB.frozenAt (i * 2 + 1)); simp only [Nat.add_zero] at t0; obtain ⟨_, _, u0, u1⟩ := two_cells honB HCQ.out (k := i) (by rw [List.length_map, HQL.out]; omega)))
          refine ⟨?_, ?measure⟩
          (repeat apply Exists.intro)
          refine ⟨?rel, rfl⟩
          case rel => exact ⟨i + 1, j + 1, qs.set i (y, bkC y), by go_num, by go_num, HI.out.keep HY.out HP.out, by rw [List.map_set]; exact HZ.1, (by
            intro q hq
            rw [List.map_set] at hq
            rcases List.mem_or_eq_of_mem_set hq with h | rfl
            · exact HCQ.out q h
            · rfl), hGB.trans HZ.2⟩
          case measure => simp [intOf]; omega
      · have hjn : j = n := by omega
        subst hjn
        clear hlt
        obtain ⟨vz, hcl⟩ := run_clear_rows (P := Tryz.prog) wr 22 59 (.agg #[.int .i64 0, .string ⟨#[]⟩]) Tryz.underlying22 zero_df_dropB (by decide +kernel) g (i * 2) (j - i) (cp - i) (by omega) (by decide +kernel) (fun q hq => by
          have hq2 : i * 2 + q < j * 2 := by
            have : (j - i) * 2 = j * 2 - i * 2 := Nat.sub_mul _ _ _
            have h3 : i * 2 ≤ j * 2 := Nat.mul_le_mul_right _ (by omega)
            have h4 : q < (j - i) * 2 := hq
            omega
          rw [hon.cellAt _ hq2, List.getElem?_eq_getElem (by rw [hon.1]; exact hq2)]
          rfl) (fun q _ => hon.frozenAt _)
        obtain ⟨ys, hw1, hw2, hw3⟩ := own_clear i vz (i * 2) wr _ (Nat.le_refl _) hon
        have hw4 := own_cut hw1 (by simp) (by omega : i ≤ j)
        have hcc : j ≤ cp ∧ cp ≤ maxLen := (own_shape hon).elim fun _ h => h.elim fun _ h => by cases h.1; exact h.2
        have hjc : (j : Int) ≤ (cp : Int) := by omega
        have hij2 : (i : Int) ≤ (j : Int) := by omega
        have hic2 : (i : Int) ≤ (cp : Int) := by omega
        have hii : i ≤ j := by omega
        have hiic : i ≤ cp := by omega
        have hGF := hG.trans hw3
        have HW4 := Lib.hid hw4
        have HW2 := Lib.hid hw2
        have HI := Lib.hid hI
        have HCQ := Lib.hid hCq
        have HGF := Lib.hid hGF
        clear hw1 hw2 hw3 hw4 hon hG hI hCq d2 m2 hGF hcc
        obtain ⟨wz, hwz⟩ : ∃ V : World, V = wr.setCells g (i * 2) vz := ⟨_, rfl⟩
        rw [← hwz] at hcl HW4 HGF
        clear hwz
        go_wp2_with (simp only [hcl])
        go_ret
        have hp0 : ps.take j = ps := List.take_of_length_le (by rw [HN.out]; exact Nat.le_refl _)
        have e1 := HI.out.tk
        rw [hp0] at e1
        have e2 := HI.out.il
        rw [hp0] at e2
        refine ⟨some ⟨g, 0, none⟩, cp, by rw [← e2]; rfl, ?_, HGF.out⟩
        rw [← e2]
        have h9 := HW4.out
        rw [HW2.out, flat_take _ _ HCQ.out, ← List.map_take, e1] at h9
        exact h9
theorem zero_df_dropN (w : World) : (zeroValue 46).run Tryz.prog w = .ok (.agg #[.int .i64 0, .int .i64 0, .string ⟨#[]⟩, .slice none 0 0, .slice none 0 0]) w := by kernel_rfl
theorem df_dropN (ps : List (Nt × List Value)) (A : Option Addr) (cp : Nat) (x : Int) (g0 base : Nat) (w : World) (hps : ∀ q ∈ ps, ∃ vt vs, q.2 = ntC q.1 vt vs ∧ (∃ A1 n1 c1, vt = .slice A1 n1 c1) ∧ ∃ A2 n2 c2, vs = .slice A2 n2 c2) (hS : NtsIn w w.heap.size A (ps.map Prod.fst)) (c0 : w.cell? ⟨g0, 0, none⟩ = some (.int .i64 x)) (l0 : g0 < w.heap.size) (hg0 : g0 < base) (hbase : base ≤ w.heap.size) (hown : w.ownsRow base 46 5 (.slice A ps.length cp) ps.length (ps.map Prod.snd).flatten) (hsm : ps.length ≤ 100000) :
    Calls Tryz.prog 67 #[.slice A ps.length cp, .func (.func 68) #[] #[.pointer (some ⟨g0, 0, none⟩)]] w fun e' w' => ∃ A2 c2, e' = .returned (.slice A2 (ps.filter fun q => !(fun x_ : Nt => x_.bk == x) q.1).length c2) ∧ w'.ownsRow base 46 5 (.slice A2 (ps.filter fun q => !(fun x_ : Nt => x_.bk == x) q.1).length c2) (ps.filter fun q => !(fun x_ : Nt => x_.bk == x) q.1).length ((ps.filter fun q => !(fun x_ : Nt => x_.bk == x) q.1).map Prod.snd).flatten ∧ w.grownBy w' (Value.slice A ps.length cp).ownBlock := by
  have HC0 := Lib.hid c0
  have hcase := idxP_cases (fun x_ : Nt => x_.bk == x) (ps.map Prod.fst)
  have hC : ∀ y ∈ ps.map Prod.snd, y.length = 5 := by
    intro y hy
    obtain ⟨q, hq, rfl⟩ := List.mem_map.1 hy
    obtain ⟨vt, vs, h, _⟩ := hps q hq
    rw [h]
    rfl
  have hlen : (ps.map Prod.fst).length = ps.length := List.length_map _
  obtain ⟨n, hn⟩ : ∃ n, ps.length = n := ⟨_, rfl⟩
  have hic := ix_dropN (ps.map Prod.fst) A cp x g0 w hS (by rw [hlen]; exact (own_shape hown).elim fun _ h => h.elim fun _ h => by cases h.1; exact h.2.1) (by exact (own_shape hown).elim fun _ h => h.elim fun _ h => by cases h.1; exact h.2.2) c0 l0
  rw [hlen, hn] at hic
  rw [hn] at hown hsm ⊢
  have HN := Lib.hid hn
  have HPS := Lib.hid hps
  clear hS hn hlen hps
  rcases hcase with ⟨hm1, hany⟩ | ⟨k, xk, hk, hgk, hpk, hany⟩
  · have hfl : (ps.filter fun q => !(fun x_ : Nt => x_.bk == x) q.1) = ps := by
      rw [List.filter_eq_self]
      intro a ha
      have := List.any_eq_false.1 hany a.1 (List.mem_map_of_mem ha)
      simpa using this
    rw [hm1] at hic
    rw [hfl, HN.out]
    clear hm1 hany hfl
    go_enter Tryz.func67, Tryz.ntmps67
    go_wp2_with (go_at_call 81; ((with_reducible refine hic.mono ?_); rintro e' w1 ⟨rfl, b1⟩))
    go_ret
    exact ⟨A, cp, rfl, own_belowW hown b1, grown_below b1⟩
  · have hkn : k < n := by
      have := (List.getElem?_eq_some_iff.1 hgk).1
      rw [List.length_map, HN.out] at this
      exact this
    obtain ⟨g, hA, hgb⟩ : ∃ g, A = some ⟨g, 0, none⟩ ∧ base ≤ g := by
      rcases hown.2 with ⟨h, h0⟩ | ⟨g, c, cu, h, hb, _⟩
      · omega
      · injection h with h1 h2 h3
        exact ⟨g, h1, hb⟩
    subst hA
    obtain ⟨q0, hq0⟩ : ∃ q, ps[k]? = some q := ⟨_, List.getElem?_eq_getElem (by rw [HN.out]; exact hkn)⟩
    have hst : DInv ps (fun x_ : Nt => x_.bk == x) k (k + 1) ps := DInv.start (x := q0) (by
      rw [List.any_eq_false] at hany ⊢
      intro a ha
      exact hany a.1 (by rw [← List.map_take]; exact List.mem_map_of_mem ha)) hq0 (by
      have : (ps.map Prod.fst)[k]? = some q0.1 := by rw [List.getElem?_map, hq0]; rfl
      rw [this] at hgk
      cases hgk
      exact hpk)
    rw [hk] at hic
    have kpos : ¬ (k : Int) = -1 := by omega
    have kb : (0 : Int) ≤ (k : Int) := by omega
    have HST := Lib.hid hst
    have HIC := Lib.hid hic
    have HC := Lib.hid hC
    clear hst hic hC hany hgk hpk hk hq0
    go_enter Tryz.func67, Tryz.ntmps67
    go_upto_region 2 with (go_at_call 81; ((with_reducible refine HIC.out.mono ?_); rintro e' w1 ⟨rfl, b1⟩))
    have hon1 := own_belowW hown b1
    have d1 : w1.cell? ⟨g0, 0, none⟩ = some (.int .i64 x) := keepC c0 b1 l0
    have hg1 : w.grownBy w1 (some g) := grown_below b1
    have hb1 : base ≤ w1.heap.size := Nat.le_trans hbase b1.size
    have HG1 := Lib.hid hg1
    clear hown b1 c0 HIC hg1
    go_wp2_with fail
    go_loopw [5, 6] (fun iv jv wr => ∃ (i j : Nat) (qs : List (Nt × List Value)), iv = .int .i64 i ∧ jv = .int .i64 j ∧ DInv ps (fun x_ : Nt => x_.bk == x) i j qs ∧ wr.ownsRow base 46 5 (.slice (some ⟨g, 0, none⟩) n cp) n (qs.map Prod.snd).flatten ∧ (∀ y ∈ qs.map Prod.snd, y.length = 5) ∧ w.grownBy wr (some g)) (fun _ jv _ => n - (intOf jv).toNat)
    case atStart => exact ⟨k, k + 1, ps, rfl, by go_num, HST.out, hon1, HC.out, HG1.out⟩
    case round =>
      obtain ⟨i, j, qs, rfl, rfl, hI, hon, hCq, hG⟩ := hrel
      have hsz : base ≤ wr.heap.size := Nat.le_trans hbase hG.size
      have d2 : wr.cell? ⟨g0, 0, none⟩ = some (.int .i64 x) := grown_cell hG HC0.out (by omega)
      have m2 : g0 < wr.heap.size := by omega
      have hij := hI.lt
      have hjl := hI.le
      rw [HN.out] at hjl
      have hql := hI.len
      rw [HN.out] at hql
      have HQL := Lib.hid hql
      have i0 : (0 : Int) ≤ (i : Int) := by omega
      have j0 : (0 : Int) ≤ (j : Int) := by omega
      clear hon1 d1 hb1 hql
      by_cases hlt : j < n
      · have j1 : (j : Int) < (n : Int) := by omega
        have i1 : (i : Int) < (n : Int) := by omega
        obtain ⟨⟨y, ey⟩, hy⟩ : ∃ q, ps[j]? = some q := ⟨_, List.getElem?_eq_getElem (by rw [HN.out]; exact hlt)⟩
        have hqj := hI.get hy
        have he : (qs.map Prod.snd)[j]? = some ey := by rw [List.getElem?_map, hqj]; rfl
        obtain ⟨vt, vs, hey, ⟨At, nt, ct, rfl⟩, As, ns, cs, rfl⟩ := HPS.out _ (List.mem_of_getElem? hy)
        dsimp only at hey
        subst hey
        have y0 : wr.cell? ⟨g, j * 5, none⟩ = some (.int .i64 y.id) := own_cellE hon hCq he (j := 0) rfl
        have y1 : wr.cell? ⟨g, j * 5 + 1, none⟩ = some (.int .i64 y.bk) := own_cellE hon hCq he (j := 1) rfl
        have y2 : wr.cell? ⟨g, j * 5 + 2, none⟩ = some (.string y.nm) := own_cellE hon hCq he (j := 2) rfl
        have y3 : wr.cell? ⟨g, j * 5 + 3, none⟩ = some (.slice At nt ct) := own_cellE hon hCq he (j := 3) rfl
        have y4 : wr.cell? ⟨g, j * 5 + 4, none⟩ = some (.slice As ns cs) := own_cellE hon hCq he (j := 4) rfl
        have HI := Lib.hid hI
        have HY := Lib.hid hy
        have hqi : (qs.map Prod.snd)[i]? = some ((qs.map Prod.snd)[i]'(by rw [List.length_map, HQL.out]; omega)) := List.getElem?_eq_getElem _
        have HQI := Lib.hid hqi
        have HCQ := Lib.hid hCq
        have hlw : g < wr.heap.size := (hon.lt g rfl).2
        clear he hI hy hqj hqi hCq
        go_upto_region 8 with fail
        have hAL : Below wr.heap.size wr (wr.alloc (.cells #[.int .i64 y.id, .int .i64 y.bk, .string y.nm, .slice At nt ct, .slice As ns cs] 46)) := (Below.refl _ _).alloc (Nat.le_refl _) _
        have BX : Blk (wr.alloc (.cells #[.int .i64 y.id, .int .i64 y.bk, .string y.nm, .slice At nt ct, .slice As ns cs] 46)) wr.heap.size 46 #[.int .i64 y.id, .int .i64 y.bk, .string y.nm, .slice At nt ct, .slice As ns cs] := Blk.new_ wr 46 #[.int .i64 y.id, .int .i64 y.bk, .string y.nm, .slice At nt ct, .slice As ns cs]
        have d3 := keepC d2 hAL m2
        have m3 : g0 < (wr.alloc (.cells #[.int .i64 y.id, .int .i64 y.bk, .string y.nm, .slice At nt ct, .slice As ns cs] 46)).heap.size := Nat.lt_of_lt_of_le m2 hAL.size
        have honA := own_belowW hon hAL
        have hGA : w.grownBy (wr.alloc (.cells #[.int .i64 y.id, .int .i64 y.bk, .string y.nm, .slice At nt ct, .slice As ns cs] 46)) (some g) := hG.trans (grown_below hAL)
        obtain ⟨wa, hwa⟩ : ∃ V : World, V = wr.alloc (.cells #[.int .i64 y.id, .int .i64 y.bk, .string y.nm, .slice At nt ct, .slice As ns cs] 46) := ⟨_, rfl⟩
        obtain ⟨gx, hgx⟩ : ∃ V : Nat, V = wr.heap.size := ⟨_, rfl⟩
        have hgne : gx ≠ g := by omega
        rw [← hwa] at BX d3 m3 honA hGA ⊢
        rw [← hgx] at BX ⊢
        clear hwa hgx hAL hon hG d2 m2 hlw y0 y1 y2 y3 y4
        have x0 := BX.cell_ 0
        have x1 := BX.cell_ 1
        have x2 := BX.cell_ 2
        have x3 := BX.cell_ 3
        have x4 := BX.cell_ 4
        simp at x0 x1 x2 x3 x4
        rcases (by cases hq : (y.bk == x) <;> simp : (y.bk == x) = true ∨ (y.bk == x) = false) with hp | hp
        · have HP := Lib.hid hp
          clear hp
          go_wp2_with (go_at_call 68; ((with_reducible refine (cl_dropN y (.slice At nt ct) (.slice As ns cs) x g0 _ d3 m3 _ HP.out).mono ?_); rintro e' w4 ⟨rfl, b4⟩; have honB := own_belowW honA b4; have hGB := hGA.trans (grown_below (row := some g) b4)))
          refine ⟨?_, ?measure⟩
          (repeat apply Exists.intro)
          refine ⟨?rel, rfl⟩
          case rel => exact ⟨i, j + 1, qs, rfl, by go_num, HI.out.skip HY.out HP.out, honB, HCQ.out, hGB⟩
          case measure => simp [intOf]; omega
        · have HP := Lib.hid hp
          clear hp
          go_wp2_with (go_at_call 68; ((with_reducible refine (cl_dropN y (.slice At nt ct) (.slice As ns cs) x g0 _ d3 m3 _ HP.out).mono ?_); rintro e' w4 ⟨rfl, b4⟩; have honB := own_belowW honA b4; have hGB := hGA.trans (grown_below (row := some g) b4); have BX := BX.below b4 BX.lt; (clear x0 x1 x2 x3 x4); have x0 := BX.cell_ 0; have x1 := BX.cell_ 1; have x2 := BX.cell_ 2; have x3 := BX.cell_ 3; have x4 := BX.cell_ 4; simp at x0 x1 x2 x3 x4; (have HZ := st5_own honB HCQ.out HQI.out (.int .i64 y.id) (.int .i64 y.bk) (.string y.nm) (.slice At nt ct) (.slice As ns cs)); (have t0 := honB.frozenAt (i * 5 + 0)); (have t1 := honB.frozenAt (i * 5 + 1)); (have t2 := honB.frozenAt (i * 5 + 2)); (have t3 := honB.frozenAt (i * 5 + 3)); (have t4 := honB.frozenAt (i * 5 + 4)); simp only [Nat.add_zero] at t0; obtain ⟨_, _, _, _, _, u0, u1, u2, u3, u4⟩ := five_cells honB HCQ.out (k := i) (by rw [List.length_map, HQL.out]; omega)))
          refine ⟨?_, ?measure⟩
          (repeat apply Exists.intro)
          refine ⟨?rel, rfl⟩
          case rel => exact ⟨i + 1, j + 1, qs.set i (y, ntC y (.slice At nt ct) (.slice As ns cs)), by go_num, by go_num, HI.out.keep HY.out HP.out, by rw [List.map_set]; exact HZ.1, (by
            intro q hq
            rw [List.map_set] at hq
            rcases List.mem_or_eq_of_mem_set hq with h | rfl
            · exact HCQ.out q h
            · rfl), hGB.trans HZ.2⟩
          case measure => simp [intOf]; omega
      · have hjn : j = n := by omega
        subst hjn
        clear hlt
        obtain ⟨vz, hcl⟩ := run_clear_rows (P := Tryz.prog) wr 23 46 (.agg #[.int .i64 0, .int .i64 0, .string ⟨#[]⟩, .slice none 0 0, .slice none 0 0]) Tryz.underlying23 zero_df_dropN (by decide +kernel) g (i * 5) (j - i) (cp - i) (by omega) (by decide +kernel) (fun q hq => by
          have hq2 : i * 5 + q < j * 5 := by
            have : (j - i) * 5 = j * 5 - i * 5 := Nat.sub_mul _ _ _
            have h3 : i * 5 ≤ j * 5 := Nat.mul_le_mul_right _ (by omega)
            have h4 : q < (j - i) * 5 := hq
            omega
          rw [hon.cellAt _ hq2, List.getElem?_eq_getElem (by rw [hon.1]; exact hq2)]
          rfl) (fun q _ => hon.frozenAt _)
        obtain ⟨ys, hw1, hw2, hw3⟩ := own_clear i vz (i * 5) wr _ (Nat.le_refl _) hon
        have hw4 := own_cut hw1 (by simp) (by omega : i ≤ j)
        have hcc : j ≤ cp ∧ cp ≤ maxLen := (own_shape hon).elim fun _ h => h.elim fun _ h => by cases h.1; exact h.2
        have hjc : (j : Int) ≤ (cp : Int) := by omega
        have hij2 : (i : Int) ≤ (j : Int) := by omega
        have hic2 : (i : Int) ≤ (cp : Int) := by omega
        have hii : i ≤ j := by omega
        have hiic : i ≤ cp := by omega
        have hGF := hG.trans hw3
        have HW4 := Lib.hid hw4
        have HW2 := Lib.hid hw2
        have HI := Lib.hid hI
        have HCQ := Lib.hid hCq
        have HGF := Lib.hid hGF
        clear hw1 hw2 hw3 hw4 hon hG hI hCq d2 m2 hGF hcc
        obtain ⟨wz, hwz⟩ : ∃ V : World, V = wr.setCells g (i * 5) vz := ⟨_, rfl⟩
        rw [← hwz] at hcl HW4 HGF
        clear hwz
        go_wp2_with (simp only [hcl])
        go_ret
        have hp0 : ps.take j = ps := List.take_of_length_le (by rw [HN.out]; exact Nat.le_refl _)
        have e1 := HI.out.tk
        rw [hp0] at e1
        have e2 := HI.out.il
        rw [hp0] at e2
        refine ⟨some ⟨g, 0, none⟩, cp, by rw [← e2]; rfl, ?_, HGF.out⟩
        rw [← e2]
        have h9 := HW4.out
        rw [HW2.out, flat_take _ _ HCQ.out, ← List.map_take, e1] at h9
        exact h9
theorem zero_df_disc (w : World) : (zeroValue 46).run Tryz.prog w = .ok (.agg #[.int .i64 0, .int .i64 0, .string ⟨#[]⟩, .slice none 0 0, .slice none 0 0]) w := by kernel_rfl
theorem df_disc (ps : List (Nt × List Value)) (A : Option Addr) (cp : Nat) (x : Int) (g0 base : Nat) (w : World) (hps : ∀ q ∈ ps, ∃ vt vs, q.2 = ntC q.1 vt vs ∧ (∃ A1 n1 c1, vt = .slice A1 n1 c1) ∧ ∃ A2 n2 c2, vs = .slice A2 n2 c2) (hS : NtsIn w w.heap.size A (ps.map Prod.fst)) (c0 : w.cell? ⟨g0, 0, none⟩ = some (.int .i64 x)) (l0 : g0 < w.heap.size) (hg0 : g0 < base) (hbase : base ≤ w.heap.size) (hown : w.ownsRow base 46 5 (.slice A ps.length cp) ps.length (ps.map Prod.snd).flatten) (hsm : ps.length ≤ 100000) :
    Calls Tryz.prog 67 #[.slice A ps.length cp, .func (.func 71) #[] #[.pointer (some ⟨g0, 0, none⟩)]] w fun e' w' => ∃ A2 c2, e' = .returned (.slice A2 (ps.filter fun q => !(fun x_ : Nt => x_.id == x) q.1).length c2) ∧ w'.ownsRow base 46 5 (.slice A2 (ps.filter fun q => !(fun x_ : Nt => x_.id == x) q.1).length c2) (ps.filter fun q => !(fun x_ : Nt => x_.id == x) q.1).length ((ps.filter fun q => !(fun x_ : Nt => x_.id == x) q.1).map Prod.snd).flatten ∧ w.grownBy w' (Value.slice A ps.length cp).ownBlock := by
  have HC0 := Lib.hid c0
  have hcase := idxP_cases (fun x_ : Nt => x_.id == x) (ps.map Prod.fst)
  have hC : ∀ y ∈ ps.map Prod.snd, y.length = 5 := by
    intro y hy
    obtain ⟨q, hq, rfl⟩ := List.mem_map.1 hy
    obtain ⟨vt, vs, h, _⟩ := hps q hq
    rw [h]
    rfl
  have hlen : (ps.map Prod.fst).length = ps.length := List.length_map _
  obtain ⟨n, hn⟩ : ∃ n, ps.length = n := ⟨_, rfl⟩
  have hic := ix_disc (ps.map Prod.fst) A cp x g0 w hS (by rw [hlen]; exact (own_shape hown).elim fun _ h => h.elim fun _ h => by cases h.1; exact h.2.1) (by exact (own_shape hown).elim fun _ h => h.elim fun _ h => by cases h.1; exact h.2.2) c0 l0
  rw [hlen, hn] at hic
  rw [hn] at hown hsm ⊢
  have HN := Lib.hid hn
  have HPS := Lib.hid hps
  clear hS hn hlen hps
  rcases hcase with ⟨hm1, hany⟩ | ⟨k, xk, hk, hgk, hpk, hany⟩
  · have hfl : (ps.filter fun q => !(fun x_ : Nt => x_.id == x) q.1) = ps := by
      rw [List.filter_eq_self]
      intro a ha
      have := List.any_eq_false.1 hany a.1 (List.mem_map_of_mem ha)
      simpa using this
    rw [hm1] at hic
    rw [hfl, HN.out]
    clear hm1 hany hfl
    go_enter Tryz.func67, Tryz.ntmps67
    go_wp2_with (go_at_call 81; ((with_reducible refine hic.mono ?_); rintro e' w1 ⟨rfl, b1⟩))
    go_ret
    exact ⟨A, cp, rfl, own_belowW hown b1, grown_below b1⟩
  · have hkn : k < n := by
      have := (List.getElem?_eq_some_iff.1 hgk).1
      rw [List.length_map, HN.out] at this
      exact this
    obtain ⟨g, hA, hgb⟩ : ∃ g, A = some ⟨g, 0, none⟩ ∧ base ≤ g := by
      rcases hown.2 with ⟨h, h0⟩ | ⟨g, c, cu, h, hb, _⟩
      · omega
      · injection h with h1 h2 h3
        exact ⟨g, h1, hb⟩
    subst hA
    obtain ⟨q0, hq0⟩ : ∃ q, ps[k]? = some q := ⟨_, List.getElem?_eq_getElem (by rw [HN.out]; exact hkn)⟩
    have hst : DInv ps (fun x_ : Nt => x_.id == x) k (k + 1) ps := DInv.start (x := q0) (by
      rw [List.any_eq_false] at hany ⊢
      intro a ha
      exact hany a.1 (by rw [← List.map_take]; exact List.mem_map_of_mem ha)) hq0 (by
      have : (ps.map Prod.fst)[k]? = some q0.1 := by rw [List.getElem?_map, hq0]; rfl
      rw [this] at hgk
      cases hgk
      exact hpk)
    rw [hk] at hic
    have kpos : ¬ (k : Int) = -1 := by omega
    have kb : (0 : Int) ≤ (k : Int) := by omega
    have HST := Lib.hid hst
    have HIC := Lib.hid hic
    have HC := Lib.hid hC
    clear hst hic hC hany hgk hpk hk hq0
    go_enter Tryz.func67, Tryz.ntmps67
    go_upto_region 2 with (go_at_call 81; ((with_reducible refine HIC.out.mono ?_); rintro e' w1 ⟨rfl, b1⟩))
    have hon1 := own_belowW hown b1
    have d1 : w1.cell? ⟨g0, 0, none⟩ = some (.int .i64 x) := keepC c0 b1 l0
    have hg1 : w.grownBy w1 (some g) := grown_below b1
    have hb1 : base ≤ w1.heap.size := Nat.le_trans hbase b1.size
    have HG1 := Lib.hid hg1
    clear hown b1 c0 HIC hg1
    go_wp2_with fail
    go_loopw [5, 6] (fun iv jv wr => ∃ (i j : Nat) (qs : List (Nt × List Value)), iv = .int .i64 i ∧ jv = .int .i64 j ∧ DInv ps (fun x_ : Nt => x_.id == x) i j qs ∧ wr.ownsRow base 46 5 (.slice (some ⟨g, 0, none⟩) n cp) n (qs.map Prod.snd).flatten ∧ (∀ y ∈ qs.map Prod.snd, y.length = 5) ∧ w.grownBy wr (some g)) (fun _ jv _ => n - (intOf jv).toNat)
    case atStart => exact ⟨k, k + 1, ps, rfl, by go_num, HST.out, hon1, HC.out, HG1.out⟩
    case round =>
      obtain ⟨i, j, qs, rfl, rfl, hI, hon, hCq, hG⟩ := hrel
      have hsz : base ≤ wr.heap.size := Nat.le_trans hbase hG.size
      have d2 : wr.cell? ⟨g0, 0, none⟩ = some (.int .i64 x) := grown_cell hG HC0.out (by omega)
      have m2 : g0 < wr.heap.size := by omega
      have hij := hI.lt
      have hjl := hI.le
      rw [HN.out] at hjl
      have hql := hI.len
      rw [HN.out] at hql
      have HQL := Lib.hid hql
      have i0 : (0 : Int) ≤ (i : Int) := by omega
      have j0 : (0 : Int) ≤ (j : Int) := by omega
      clear hon1 d1 hb1 hql
      by_cases hlt : j < n
      · have j1 : (j : Int) < (n : Int) := by omega
        have i1 : (i : Int) < (n : Int) := by omega
        obtain ⟨⟨y, ey⟩, hy⟩ : ∃ q, ps[j]? = some q := ⟨_, List.getElem?_eq_getElem (by rw [HN.out]; exact hlt)⟩
        have hqj := hI.get hy
        have he : (qs.map Prod.snd)[j]? = some ey := by rw [List.getElem?_map, hqj]; rfl
        obtain ⟨vt, vs, hey, ⟨At, nt, ct, rfl⟩, As, ns, cs, rfl⟩ := HPS.out _ (List.mem_of_getElem? hy)
        dsimp only at hey
        subst hey
        have y0 : wr.cell? ⟨g, j * 5, none⟩ = some (.int .i64 y.id) := own_cellE hon hCq he (j := 0) rfl
        have y1 : wr.cell? ⟨g, j * 5 + 1, none⟩ = some (.int .i64 y.bk) := own_cellE hon hCq he (j := 1) rfl
        have y2 : wr.cell? ⟨g, j * 5 + 2, none⟩ = some (.string y.nm) := own_cellE hon hCq he (j := 2) rfl
        have y3 : wr.cell? ⟨g, j * 5 + 3, none⟩ = some (.slice At nt ct) := own_cellE hon hCq he (j := 3) rfl
        have y4 : wr.cell? ⟨g, j * 5 + 4, none⟩ = some (.slice As ns cs) := own_cellE hon hCq he (j := 4) rfl
        have HI := Lib.hid hI
        have HY := Lib.hid hy
        have hqi : (qs.map Prod.snd)[i]? = some ((qs.map Prod.snd)[i]'(by rw [List.length_map, HQL.out]; omega)) := List.getElem?_eq_getElem _
        have HQI := Lib.hid hqi
        have HCQ := Lib.hid hCq
        have hlw : g < wr.heap.size := (hon.lt g rfl).2
        clear he hI hy hqj hqi hCq
        go_upto_region 8 with fail
        have hAL : Below wr.heap.size wr (wr.alloc (.cells #[.int .i64 y.id, .int .i64 y.bk, .string y.nm, .slice At nt ct, .slice As ns cs] 46)) := (Below.refl _ _).alloc (Nat.le_refl _) _
        have BX : Blk (wr.alloc (.cells #[.int .i64 y.id, .int .i64 y.bk, .string y.nm, .slice At nt ct, .slice As ns cs] 46)) wr.heap.size 46 #[.int .i64 y.id, .int .i64 y.bk, .string y.nm, .slice At nt ct, .slice As ns cs] := Blk.new_ wr 46 #[.int .i64 y.id, .int .i64 y.bk, .string y.nm, .slice At nt ct, .slice As ns cs]
        have d3 := keepC d2 hAL m2
        have m3 : g0 < (wr.alloc (.cells #[.int .i64 y.id, .int .i64 y.bk, .string y.nm, .slice At nt ct, .slice As ns cs] 46)).heap.size := Nat.lt_of_lt_of_le m2 hAL.size
        have honA := own_belowW hon hAL
        have hGA : w.grownBy (wr.alloc (.cells #[.int .i64 y.id, .int .i64 y.bk, .string y.nm, .slice At nt ct, .slice As ns cs] 46)) (some g) := hG.trans (grown_below hAL)
        obtain ⟨wa, hwa⟩ : ∃ V : World, V = wr.alloc (.cells #[.int .i64 y.id, .int .i64 y.bk, .string y.nm, .slice At nt ct, .slice As ns cs] 46) := ⟨_, rfl⟩
        obtain ⟨gx, hgx⟩ : ∃ V : Nat, V = wr.heap.size := ⟨_, rfl⟩
        have hgne : gx ≠ g := by omega
        rw [← hwa] at BX d3 m3 honA hGA ⊢
        rw [← hgx] at BX ⊢
        clear hwa hgx hAL hon hG d2 m2 hlw y0 y1 y2 y3 y4
        have x0 := BX.cell_ 0
        have x1 := BX.cell_ 1
        have x2 := BX.cell_ 2
        have x3 := BX.cell_ 3
        have x4 := BX.cell_ 4
        simp at x0 x1 x2 x3 x4
        rcases (by cases hq : (y.id == x) <;> simp : (y.id == x) = true ∨ (y.id == x) = false) with hp | hp
        · have HP := Lib.hid hp
          clear hp
          go_wp2_with (go_at_call 71; ((with_reducible refine (cl_disc y (.slice At nt ct) (.slice As ns cs) x g0 _ d3 m3 _ HP.out).mono ?_); rintro e' w4 ⟨rfl, b4⟩; have honB := own_belowW honA b4; have hGB := hGA.trans (grown_below (row := some g) b4)))
          refine ⟨?_, ?measure⟩
          (repeat apply Exists.intro)
          refine ⟨?rel, rfl⟩
          case rel => exact ⟨i, j + 1, qs, rfl, by go_num, HI.out.skip HY.out HP.out, honB, HCQ.out, hGB⟩
          case measure => simp [intOf]; omega
        · have HP := Lib.hid hp
          clear hp
          go_wp2_with (go_at_call 71; ((with_reducible refine (cl_disc y (.slice At nt ct) (.slice As ns cs) x g0 _ d3 m3 _ HP.out).mono ?_); rintro e' w4 ⟨rfl, b4⟩; have honB := own_belowW honA b4; have hGB := hGA.trans (grown_below (row := some g) b4); have BX := BX.below b4 BX.lt; (clear x0 x1 x2 x3 x4); have x0 := BX.cell_ 0; have x1 := BX.cell_ 1; have x2 := BX.cell_ 2; have x3 := BX.cell_ 3; have x4 := BX.cell_ 4; simp at x0 x1 x2 x3 x4; (have HZ := st5_own honB HCQ.out HQI.out (.int .i64 y.id) (.int .i64 y.bk) (.string y.nm) (.slice At nt ct) (.slice As ns cs)); (have t0 := honB.frozenAt (i * 5 + 0)); (have t1 := honB.frozenAt (i * 5 + 1)); (have t2 := honB.frozenAt (i * 5 + 2)); (have t3 := honB.frozenAt (i * 5 + 3)); (have t4 := honB.frozenAt (i * 5 + 4)); simp only [Nat.add_zero] at t0; obtain ⟨_, _, _, _, _, u0, u1, u2, u3, u4⟩ := five_cells honB HCQ.out (k := i) (by rw [List.length_map, HQL.out]; omega)))
          refine ⟨?_, ?measure⟩
          (repeat apply Exists.intro)
          refine ⟨?rel, rfl⟩
          case rel => exact ⟨i + 1, j + 1, qs.set i (y, ntC y (.slice At nt ct) (.slice As ns cs)), by go_num, by go_num, HI.out.keep HY.out HP.out, by rw [List.map_set]; exact HZ.1, (by
            intro q hq
            rw [List.map_set] at hq
            rcases List.mem_or_eq_of_mem_set hq with h | rfl
            · exact HCQ.out q h
            · rfl), hGB.trans HZ.2⟩
          case measure => simp [intOf]; omega
      · have hjn : j = n := by omega
        subst hjn
        clear hlt
        obtain ⟨vz, hcl⟩ := run_clear_rows (P := Tryz.prog) wr 23 46 (.agg #[.int .i64 0, .int .i64 0, .string ⟨#[]⟩, .slice none 0 0, .slice none 0 0]) Tryz.underlying23 zero_df_disc (by decide +kernel) g (i * 5) (j - i) (cp - i) (by omega) (by decide +kernel) (fun q hq => by
          have hq2 : i * 5 + q < j * 5 := by
            have : (j - i) * 5 = j * 5 - i * 5 := Nat.sub_mul _ _ _
            have h3 : i * 5 ≤ j * 5 := Nat.mul_le_mul_right _ (by omega)
            have h4 : q < (j - i) * 5 := hq
            omega
          rw [hon.cellAt _ hq2, List.getElem?_eq_getElem (by rw [hon.1]; exact hq2)]
          rfl) (fun q _ => hon.frozenAt _)
        obtain ⟨ys, hw1, hw2, hw3⟩ := own_clear i vz (i * 5) wr _ (Nat.le_refl _) hon
        have hw4 := own_cut hw1 (by simp) (by omega : i ≤ j)
        have hcc : j ≤ cp ∧ cp ≤ maxLen := (own_shape hon).elim fun _ h => h.elim fun _ h => by cases h.1; exact h.2
        have hjc : (j : Int) ≤ (cp : Int) := by omega
        have hij2 : (i : Int) ≤ (j : Int) := by omega
        have hic2 : (i : Int) ≤ (cp : Int) := by omega
        have hii : i ≤ j := by omega
        have hiic : i ≤ cp := by omega
        have hGF := hG.trans hw3
        have HW4 := Lib.hid hw4
        have HW2 := Lib.hid hw2
        have HI := Lib.hid hI
        have HCQ := Lib.hid hCq
        have HGF := Lib.hid hGF
        clear hw1 hw2 hw3 hw4 hon hG hI hCq d2 m2 hGF hcc
        obtain ⟨wz, hwz⟩ : ∃ V : World, V = wr.setCells g (i * 5) vz := ⟨_, rfl⟩
        rw [← hwz] at hcl HW4 HGF
        clear hwz
        go_wp2_with (simp only [hcl])
        go_ret
        have hp0 : ps.take j = ps := List.take_of_length_le (by rw [HN.out]; exact Nat.le_refl _)
        have e1 := HI.out.tk
        rw [hp0] at e1
        have e2 := HI.out.il
        rw [hp0] at e2
        refine ⟨some ⟨g, 0, none⟩, cp, by rw [← e2]; rfl, ?_, HGF.out⟩
        rw [← e2]
        have h9 := HW4.out
        rw [HW2.out, flat_take _ _ HCQ.out, ← List.map_take, e1] at h9
        exact h9
end Go.Proofs.YtokhapafpjejaaaGreatDoor
