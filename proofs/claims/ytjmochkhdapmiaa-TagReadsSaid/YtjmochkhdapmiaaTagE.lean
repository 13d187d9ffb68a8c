/- tag.Read: what it reads, by contracts. -/
import Derived.Test.YtjmochkhdapmiaaTagD
import Derived.Test.YtjmochkhdapmiaaApp
import Derived.Test.YtjmochkhdapmiaaLendB
import Derived.Test.YtjmochkhdapmiaaSl2
import Derived.Deep.RegionHeld3
import Derived.Deep.DrawnRows
import Derived.Deep.DeepCutAuto
namespace Go.Proofs.Ytjmochkhdapmiaa
open Go.ChangeShapes Go.WideShapes Go.ChangeAt Go.RowKit
attribute [local go_sem ↓] Go.wp_at_zero Go.wp_at_succ
set_option linter.unusedSimpArgs false
set_option linter.unusedVariables false

/-- What a raw page reads as: 0 erased, 1 valid, 2 torn. -/
def readSt (bs : List Nat) : Nat :=
  if 40 ≤ bs.length ∧ bs.length ≤ 80 then
    (if blankB bs = true then 0 else if tagB (tK (bs.drop (bs.length - 16))) (tP (bs.drop (bs.length - 16))) (tS (bs.drop (bs.length - 16))) (tE (bs.drop (bs.length - 16))) = true ∧ soundB bs (bs.length - 16) = true then 1 else 2) else 2

/-- A block of four cells that is written whole. -/
def st4 (w : World) (g : Nat) (u0 u1 u2 u3 : Value) : World := (((w.setCell ⟨g, 0, none⟩ u0).setCell ⟨g, 1, none⟩ u1).setCell ⟨g, 2, none⟩ u2).setCell ⟨g, 3, none⟩ u3
theorem st4_blk {wx : World} {g : Nat} {T : TypeId} {a b c d : Value} (h : Blk wx g T #[a, b, c, d]) (u0 u1 u2 u3 : Value) : Blk (st4 wx g u0 u1 u2 u3) g T #[u0, u1, u2, u3] := by
  have := (((h.set_ 0 u0).set_ 1 u1).set_ 2 u2).set_ 3 u3
  simpa [st4] using this
theorem st4_below {B g : Nat} {w wx : World} (h : Below B w wx) (hg : B ≤ g) (u0 u1 u2 u3 : Value) : Below B w (st4 wx g u0 u1 u2 u3) :=
  (((h.setCell (p := ⟨g, 0, none⟩) hg u0).setCell (p := ⟨g, 1, none⟩) hg u1).setCell (p := ⟨g, 2, none⟩) hg u2).setCell (p := ⟨g, 3, none⟩) hg u3
theorem st4_far {wx : World} {g g1 : Nat} {T : TypeId} {cs : Array Value} (h : Blk wx g1 T cs) (hne : g1 ≠ g) (u0 u1 u2 u3 : Value) : Blk (st4 wx g u0 u1 u2 u3) g1 T cs :=
  (((h.far (p := ⟨g, 0, none⟩) hne u0).far (p := ⟨g, 1, none⟩) hne u1).far (p := ⟨g, 2, none⟩) hne u2).far (p := ⟨g, 3, none⟩) hne u3
theorem st4_own {wx : World} {base g : Nat} {e : TypeId} {size n : Nat} {v : Value} {xs : List Value} (h : wx.ownsRow base e size v n xs) (hg : g < base) (u0 u1 u2 u3 : Value) : (st4 wx g u0 u1 u2 u3).ownsRow base e size v n xs :=
  ownsRow_setCell_below (a := ⟨g, 3, none⟩) (ownsRow_setCell_below (a := ⟨g, 2, none⟩) (ownsRow_setCell_below (a := ⟨g, 1, none⟩) (ownsRow_setCell_below (a := ⟨g, 0, none⟩) h hg u0) hg u1) hg u2) hg u3
theorem st4_keep {w wx : World} {g1 : Nat} {T : TypeId} {a b c d : Value} (hB : Below w.heap.size w wx) (hT : Blk wx g1 T #[a, b, c, d]) (hne : g1 ≠ w.heap.size) (u0 u1 u2 u3 : Value) :
    Below w.heap.size w (st4 wx w.heap.size u0 u1 u2 u3) ∧ (st4 wx w.heap.size u0 u1 u2 u3).cell? ⟨g1, 0, none⟩ = some a ∧ (st4 wx w.heap.size u0 u1 u2 u3).cell? ⟨g1, 1, none⟩ = some b ∧ (st4 wx w.heap.size u0 u1 u2 u3).cell? ⟨g1, 2, none⟩ = some c ∧ (st4 wx w.heap.size u0 u1 u2 u3).cell? ⟨g1, 3, none⟩ = some d := by
  have h := st4_far hT hne u0 u1 u2 u3
  exact ⟨st4_below hB (Nat.le_refl _) _ _ _ _, h.cell_ 0, h.cell_ 1, h.cell_ 2, h.cell_ 3⟩
theorem sl_take {w : World} {B : Nat} {A : Option Addr} {vs : List Value} (h : Sl w B A vs) (n : Nat) : Sl w B A (vs.take n) := by
  rcases h with h | ⟨b, off, e, hlt, hc⟩
  · exact Or.inl (by simp [h])
  · refine Or.inr ⟨b, off, e, hlt, fun k f hv => hc k f ?_⟩
    rw [List.getElem?_take] at hv
    split at hv
    · exact hv
    · cases hv
theorem read_len (bs : List Nat) (A : Option Addr) (c : Nat) (w : World) (hl : ¬ (40 ≤ bs.length ∧ bs.length ≤ 80)) (n1 : bs.length ≤ 1000000) :
    Calls Try.prog 19 #[.slice A bs.length c] w fun e' w' => e' = .returned (.tuple #[.slice none 0 0, .agg #[.int .i64 0, .int .i64 0, .int .i64 0, .int .i64 0], .int .i64 2]) ∧ Below w.heap.size w w' := by
  have hd : mayDataB ((bs.length : Int) - 16) = false := by unfold mayDataB; rw [Bool.and_eq_false_iff, decide_eq_false_iff_not, decide_eq_false_iff_not]; omega
  have HD := Lib.hid hd
  clear hd hl
  go_enter Try.func19, Try.ntmps19
  go_wp2_with (go_at_call 23; refine (mayData_any _ _).mono ?_; rw [HD.out]; rintro e' w' ⟨rfl, rfl⟩)
  exact bodyPost_ret (v := .tuple #[.slice none 0 0, .agg #[.int .i64 0, .int .i64 0, .int .i64 0, .int .i64 0], .int .i64 2]) (by simp [results, Try.results19, go_sem]) rfl ⟨rfl, (Below.refl _ _).alloc (Nat.le_refl _) _⟩

set_option maxRecDepth 100000 in
set_option maxHeartbeats 8000000 in
theorem read_in (bs : List Nat) (n b o c : Nat) (w : World) (h1 : Sl w w.heap.size (some ⟨b, o, none⟩) (bs.map byteV)) (h8 : Bytes8 bs) (hl : bs.length = n + 16) (hn1 : 24 ≤ n) (hn2 : n ≤ 64) (hc : n + 16 ≤ c) (hc2 : c ≤ maxLen) :
    (blankB bs = true → Calls Try.prog 19 #[.slice (some ⟨b, o, none⟩) (n + 16) c] w fun e' w' => e' = .returned (.tuple #[.slice none 0 0, .agg #[.int .i64 0, .int .i64 0, .int .i64 0, .int .i64 0], .int .i64 0]) ∧ Below w.heap.size w w') ∧
    (blankB bs = false → ¬ (tagB (tK (bs.drop n)) (tP (bs.drop n)) (tS (bs.drop n)) (tE (bs.drop n)) = true ∧ soundB bs n = true) → Calls Try.prog 19 #[.slice (some ⟨b, o, none⟩) (n + 16) c] w fun e' w' => e' = .returned (.tuple #[.slice none 0 0, .agg #[.int .i64 0, .int .i64 0, .int .i64 0, .int .i64 0], .int .i64 2]) ∧ Below w.heap.size w w') ∧
    (blankB bs = false → tagB (tK (bs.drop n)) (tP (bs.drop n)) (tS (bs.drop n)) (tE (bs.drop n)) = true → soundB bs n = true → Calls Try.prog 19 #[.slice (some ⟨b, o, none⟩) (n + 16) c] w fun e' w' => ∃ sv, e' = .returned (.tuple #[sv, .agg #[.int .i64 (tK (bs.drop n)), .int .i64 (tP (bs.drop n)), .int .i64 (tS (bs.drop n)), .int .i64 (tE (bs.drop n))], .int .i64 1]) ∧ w'.ownsRow (w.heap.size + 1) 5 1 sv n ((bs.take n).map byteV) ∧ Below w.heap.size w w') := by
  have hd : mayDataB ((n : Int)) = true := by unfold mayDataB; rw [Bool.and_eq_true, decide_eq_true_eq, decide_eq_true_eq]; omega
  have hd' : mayDataB ((n : Int) + 16 - 16) = true := by rw [show (n : Int) + 16 - 16 = n by omega]; exact hd
  have HD := Lib.hid hd
  have HD' := Lib.hid hd'
  obtain ⟨b', o', hA, lb, q⟩ := h1.at_ (by simp; omega)
  cases hA
  have hB0 : Below w.heap.size w (w.alloc (.cells #[.int .i64 0, .int .i64 0, .int .i64 0, .int .i64 0] 24)) := (Below.refl _ _).alloc (Nat.le_refl _) _
  have h0 := h1.next hB0
  have htl : Sl w w.heap.size (some ⟨b, o + n, none⟩) ((bs.drop n).map byteV) := by have := sl_sub h1 n 16; rwa [← List.map_drop, List.take_of_length_le (by simp; omega)] at this
  have htl0 := htl.next hB0
  have HL := Lib.hid hl
  have HTL : Hid ((bs.drop n).length = 16) := Lib.hid (by simp; omega)
  have h8t : Bytes8 (bs.drop n) := fun x hx => h8 x (List.mem_of_mem_drop hx)
  have hc3 : c ≤ 9223372036854775807 := by unfold maxLen at hc2; omega
  have HC2 := Lib.hid hc2
  have i1 : (24 : Int) ≤ (n : Int) := by omega
  have i2 : (n : Int) ≤ 64 := by omega
  have i3 : (n : Int) ≤ (c : Int) := by omega
  have i4 : ¬ c = n := by omega
  have hcn : 16 ≤ c - n := by omega
  have hcn2 : c - n ≤ maxLen := by unfold maxLen at hc2 ⊢; omega
  have HCN2 := Lib.hid hcn2
  clear hd hd' hc2 q hcn2
  refine ⟨fun he => ?_, fun he hno => ?_, fun he ht hs => ?_⟩
  · have HE := Lib.hid he
    clear he
    have hE : ∀ (w : World), Sl w w.heap.size (some ⟨b, o, none⟩) (bs.map byteV) → Calls Try.prog 29 #[.slice (some ⟨b, o, none⟩) (n + 16) c] w fun e w' => e = .returned (.bool true) ∧ w = w' := fun w h => by
      have := erased_any bs _ c w h h8 (by have := HL.out; omega)
      rwa [HL.out, HE.out] at this
    have HE2 := Lib.hid hE
    clear hE hl
    go_enter Try.func19, Try.ntmps19
    go_wp2_with (first | (go_at_call 23; refine (mayData_any _ _).mono ?_; first | (rw [HD.out]; rintro e' w' ⟨rfl, rfl⟩) | (rw [HD'.out]; rintro e' w' ⟨rfl, rfl⟩)) | (go_at_call 29; refine (HE2.out _ h0).mono ?_; rintro e' w' ⟨rfl, rfl⟩))
    exact bodyPost_ret (v := .tuple #[.slice none 0 0, .agg #[.int .i64 0, .int .i64 0, .int .i64 0, .int .i64 0], .int .i64 0]) (by simp [results, Try.results19, go_sem]) rfl ⟨rfl, (Below.refl _ _).alloc (Nat.le_refl _) _⟩
  all_goals
    have HE := Lib.hid he
    clear he
    have hE : ∀ (w : World), Sl w w.heap.size (some ⟨b, o, none⟩) (bs.map byteV) → Calls Try.prog 29 #[.slice (some ⟨b, o, none⟩) (n + 16) c] w fun e w' => e = .returned (.bool false) ∧ w = w' := fun w h => by
      have := erased_any bs _ c w h h8 (by have := HL.out; omega)
      rwa [HL.out, HE.out] at this
    have HE2 := Lib.hid hE
    clear hE
  · rcases (by cases hq : tagB (tK (bs.drop n)) (tP (bs.drop n)) (tS (bs.drop n)) (tE (bs.drop n)) <;> simp : tagB (tK (bs.drop n)) (tP (bs.drop n)) (tS (bs.drop n)) (tE (bs.drop n)) = false ∨ tagB (tK (bs.drop n)) (tP (bs.drop n)) (tS (bs.drop n)) (tE (bs.drop n)) = true) with ht | ht
    · have HT := Lib.hid ht
      clear ht hno hl
      go_enter Try.func19, Try.ntmps19
      go_wp2_with (first
        | (go_at_call 23; refine (mayData_any _ _).mono ?_; first | (rw [HD.out]; rintro e' w' ⟨rfl, rfl⟩) | (rw [HD'.out]; rintro e' w' ⟨rfl, rfl⟩))
        | (go_at_call 29; refine (HE2.out _ h0).mono ?_; rintro e' w' ⟨rfl, rfl⟩)
        | (go_at_call 30; refine (parse_any (bs.drop n) b (o + n) _ _ htl0 h8t HTL.out hcn HCN2.out).mono ?_; rintro e' w1 ⟨rfl, hb1⟩; have HB1 := below1 hb1; have HZ1 : Blk w1 w.heap.size 24 #[.int .i64 0, .int .i64 0, .int .i64 0, .int .i64 0] := (Blk.new_ _ _ _).below hb1 (by simp); have hz1 : w.heap.size < w1.heap.size := (by { have := hb1.size; simp at this; omega }))
        | (go_at_call 15; refine (tmay_any _ _ _ _ _).mono ?_; rw [HT.out]; rintro e' w2 ⟨rfl, hb2⟩; have HB2 := btr (HB1.alloc HB1.size (.cells #[.int .i64 (tK (bs.drop n)), .int .i64 (tP (bs.drop n)), .int .i64 (tS (bs.drop n)), .int .i64 (tE (bs.drop n))] 24)) (by simp; omega) hb2; have HZ2 : Blk w2 w.heap.size 24 #[.int .i64 0, .int .i64 0, .int .i64 0, .int .i64 0] := (HZ1.alloc_ _).below hb2 (by simp; omega); have HT2 : Blk w2 w1.heap.size 24 #[.int .i64 (tK (bs.drop n)), .int .i64 (tP (bs.drop n)), .int .i64 (tS (bs.drop n)), .int .i64 (tE (bs.drop n))] := (Blk.new_ _ _ _).below hb2 (by simp); have hz2 : w1.heap.size < w2.heap.size := (by { have := hb2.size; simp at this; omega }); have SLX := ((h0.next hb1).alloc_ (.cells #[.int .i64 (tK (bs.drop n)), .int .i64 (tP (bs.drop n)), .int .i64 (tS (bs.drop n)), .int .i64 (tE (bs.drop n))] 24)).next hb2; have y0 := HZ2.cell_ 0; have y1 := HZ2.cell_ 1; have y2 := HZ2.cell_ 2; have y3 := HZ2.cell_ 3; simp at y0 y1 y2 y3; have yf := HZ2.free; have z0 := HT2.cell_ 0; have z1 := HT2.cell_ 1; have z2 := HT2.cell_ 2; have z3 := HT2.cell_ 3; simp at z0 z1 z2 z3)
        | (go_at_call 31; refine (sound_any bs n b o c _ SLX h8 HL.out (by omega) hc HC2.out).mono ?_; rw [HS.out]; rintro e' w3 ⟨rfl, rfl⟩))
      have HW := st4_blk HZ2 (.int .i64 0) (.int .i64 0) (.int .i64 0) (.int .i64 0)
      have HBW := st4_below HB2 (Nat.le_refl _) (.int .i64 0) (.int .i64 0) (.int .i64 0) (.int .i64 0)
      change bodyPost _ _ _ _ _ (st4 w2 w.heap.size (.int .i64 0) (.int .i64 0) (.int .i64 0) (.int .i64 0))
      generalize st4 w2 w.heap.size (.int .i64 0) (.int .i64 0) (.int .i64 0) (.int .i64 0) = wz at HW HBW ⊢
      have r0 := HW.cell_ 0
      have r1 := HW.cell_ 1
      have r2 := HW.cell_ 2
      have r3 := HW.cell_ 3
      simp at r0 r1 r2 r3
      exact bodyPost_ret (v := .tuple #[.slice none 0 0, .agg #[.int .i64 0, .int .i64 0, .int .i64 0, .int .i64 0], .int .i64 2]) (by simp [results, Try.results19, go_sem, r0, r1, r2, r3]) rfl ⟨rfl, HBW⟩
    · have hs : soundB bs n = false := by
        rcases (by cases hq : soundB bs n <;> simp : soundB bs n = false ∨ soundB bs n = true) with h | h
        · exact h
        · exact absurd ⟨ht, h⟩ hno
      have HT := Lib.hid ht
      have HS := Lib.hid hs
      clear ht hs hno hl
      go_enter Try.func19, Try.ntmps19
      go_wp2_with (first
        | (go_at_call 23; refine (mayData_any _ _).mono ?_; first | (rw [HD.out]; rintro e' w' ⟨rfl, rfl⟩) | (rw [HD'.out]; rintro e' w' ⟨rfl, rfl⟩))
        | (go_at_call 29; refine (HE2.out _ h0).mono ?_; rintro e' w' ⟨rfl, rfl⟩)
        | (go_at_call 30; refine (parse_any (bs.drop n) b (o + n) _ _ htl0 h8t HTL.out hcn HCN2.out).mono ?_; rintro e' w1 ⟨rfl, hb1⟩; have HB1 := below1 hb1; have HZ1 : Blk w1 w.heap.size 24 #[.int .i64 0, .int .i64 0, .int .i64 0, .int .i64 0] := (Blk.new_ _ _ _).below hb1 (by simp); have hz1 : w.heap.size < w1.heap.size := (by { have := hb1.size; simp at this; omega }))
        | (go_at_call 15; refine (tmay_any _ _ _ _ _).mono ?_; rw [HT.out]; rintro e' w2 ⟨rfl, hb2⟩; have HB2 := btr (HB1.alloc HB1.size (.cells #[.int .i64 (tK (bs.drop n)), .int .i64 (tP (bs.drop n)), .int .i64 (tS (bs.drop n)), .int .i64 (tE (bs.drop n))] 24)) (by simp; omega) hb2; have HZ2 : Blk w2 w.heap.size 24 #[.int .i64 0, .int .i64 0, .int .i64 0, .int .i64 0] := (HZ1.alloc_ _).below hb2 (by simp; omega); have HT2 : Blk w2 w1.heap.size 24 #[.int .i64 (tK (bs.drop n)), .int .i64 (tP (bs.drop n)), .int .i64 (tS (bs.drop n)), .int .i64 (tE (bs.drop n))] := (Blk.new_ _ _ _).below hb2 (by simp); have hz2 : w1.heap.size < w2.heap.size := (by { have := hb2.size; simp at this; omega }); have SLX := ((h0.next hb1).alloc_ (.cells #[.int .i64 (tK (bs.drop n)), .int .i64 (tP (bs.drop n)), .int .i64 (tS (bs.drop n)), .int .i64 (tE (bs.drop n))] 24)).next hb2; have y0 := HZ2.cell_ 0; have y1 := HZ2.cell_ 1; have y2 := HZ2.cell_ 2; have y3 := HZ2.cell_ 3; simp at y0 y1 y2 y3; have yf := HZ2.free; have z0 := HT2.cell_ 0; have z1 := HT2.cell_ 1; have z2 := HT2.cell_ 2; have z3 := HT2.cell_ 3; simp at z0 z1 z2 z3)
        | (go_at_call 31; refine (sound_any bs n b o c _ SLX h8 HL.out (by omega) hc HC2.out).mono ?_; rw [HS.out]; rintro e' w3 ⟨rfl, rfl⟩))
      have HW := st4_blk HZ2 (.int .i64 0) (.int .i64 0) (.int .i64 0) (.int .i64 0)
      have HBW := st4_below HB2 (Nat.le_refl _) (.int .i64 0) (.int .i64 0) (.int .i64 0) (.int .i64 0)
      change bodyPost _ _ _ _ _ (st4 w2 w.heap.size (.int .i64 0) (.int .i64 0) (.int .i64 0) (.int .i64 0))
      generalize st4 w2 w.heap.size (.int .i64 0) (.int .i64 0) (.int .i64 0) (.int .i64 0) = wz at HW HBW ⊢
      have r0 := HW.cell_ 0
      have r1 := HW.cell_ 1
      have r2 := HW.cell_ 2
      have r3 := HW.cell_ 3
      simp at r0 r1 r2 r3
      exact bodyPost_ret (v := .tuple #[.slice none 0 0, .agg #[.int .i64 0, .int .i64 0, .int .i64 0, .int .i64 0], .int .i64 2]) (by simp [results, Try.results19, go_sem, r0, r1, r2, r3]) rfl ⟨rfl, HBW⟩
  · have HT := Lib.hid ht
    have HS := Lib.hid hs
    clear ht hs hl
    go_enter Try.func19, Try.ntmps19
    go_wp2_with (first
        | (go_at_call 23; refine (mayData_any _ _).mono ?_; first | (rw [HD.out]; rintro e' w' ⟨rfl, rfl⟩) | (rw [HD'.out]; rintro e' w' ⟨rfl, rfl⟩))
        | (go_at_call 29; refine (HE2.out _ h0).mono ?_; rintro e' w' ⟨rfl, rfl⟩)
        | (go_at_call 30; refine (parse_any (bs.drop n) b (o + n) _ _ htl0 h8t HTL.out hcn HCN2.out).mono ?_; rintro e' w1 ⟨rfl, hb1⟩; have HB1 := below1 hb1; have HZ1 : Blk w1 w.heap.size 24 #[.int .i64 0, .int .i64 0, .int .i64 0, .int .i64 0] := (Blk.new_ _ _ _).below hb1 (by simp); have hz1 : w.heap.size < w1.heap.size := (by { have := hb1.size; simp at this; omega }))
        | (go_at_call 15; refine (tmay_any _ _ _ _ _).mono ?_; rw [HT.out]; rintro e' w2 ⟨rfl, hb2⟩; have HB2 := btr (HB1.alloc HB1.size (.cells #[.int .i64 (tK (bs.drop n)), .int .i64 (tP (bs.drop n)), .int .i64 (tS (bs.drop n)), .int .i64 (tE (bs.drop n))] 24)) (by simp; omega) hb2; have HZ2 : Blk w2 w.heap.size 24 #[.int .i64 0, .int .i64 0, .int .i64 0, .int .i64 0] := (HZ1.alloc_ _).below hb2 (by simp; omega); have HT2 : Blk w2 w1.heap.size 24 #[.int .i64 (tK (bs.drop n)), .int .i64 (tP (bs.drop n)), .int .i64 (tS (bs.drop n)), .int .i64 (tE (bs.drop n))] := (Blk.new_ _ _ _).below hb2 (by simp); have hz2 : w1.heap.size < w2.heap.size := (by { have := hb2.size; simp at this; omega }); have SLX := ((h0.next hb1).alloc_ (.cells #[.int .i64 (tK (bs.drop n)), .int .i64 (tP (bs.drop n)), .int .i64 (tS (bs.drop n)), .int .i64 (tE (bs.drop n))] 24)).next hb2; have y0 := HZ2.cell_ 0; have y1 := HZ2.cell_ 1; have y2 := HZ2.cell_ 2; have y3 := HZ2.cell_ 3; simp at y0 y1 y2 y3; have yf := HZ2.free; have z0 := HT2.cell_ 0; have z1 := HT2.cell_ 1; have z2 := HT2.cell_ 2; have z3 := HT2.cell_ 3; simp at z0 z1 z2 z3)
        | (go_at_call 31; refine (sound_any bs n b o c _ SLX h8 HL.out (by omega) hc HC2.out).mono ?_; rw [HS.out]; rintro e' w3 ⟨rfl, rfl⟩))
    have SLT : Sl w2 w2.heap.size (some ⟨b, o, none⟩) ((bs.take n).map byteV) := by rw [List.map_take]; exact sl_take SLX n
    go_wp2_with fail
    refine wp_region_noPanic ?_
    refine wp_region_held_drew (S := (fun w' => Below w.heap.size w w' ∧ w'.cell? ⟨w1.heap.size, 0, none⟩ = some (.int .i64 (tK (bs.drop n))) ∧ w'.cell? ⟨w1.heap.size, 1, none⟩ = some (.int .i64 (tP (bs.drop n))) ∧ w'.cell? ⟨w1.heap.size, 2, none⟩ = some (.int .i64 (tS (bs.drop n))) ∧ w'.cell? ⟨w1.heap.size, 3, none⟩ = some (.int .i64 (tE (bs.drop n))))) (by kernel_rfl) ?_ (fun hHeld => ?_)
    · (first | exact ⟨HB2.drew, z0, z1, z2, z3⟩ | exact ⟨HB4, x0, x1, x2, x3⟩ | exact st4_keep HB4 HT4 (by omega) _ _ _ _)
    refine wpAnyH_take (i := 0) (oi := { dst := some 31, op := Op.move (Operand.tmp 0), type := 22, pos := "tag.go:68", after := #[], guard := none }) (v := ?_) rfl (by kernel_rfl) (by kernel_rfl) (by kernel_rfl) (fun _ _ _ h => h) (Or.inl ⟨by rfl, ?_⟩) (by assumption) ?_
    rotate_left
    · (intro wS hSw; (try dsimp only at hSw); go_simp; (try with_reducible rfl))
    try simp only [Act.put, List.setIfInBounds_toArray, List.set_cons_zero, List.set_cons_succ]
    refine wpAnyH_take (i := 1) (oi := { dst := some 32, op := Op.move (Operand.tmp 5), type := 3, pos := "tag.go:68", after := #[], guard := none }) (v := ?_) rfl (by kernel_rfl) (by kernel_rfl) (by kernel_rfl) (fun _ _ _ h => h) (Or.inl ⟨by rfl, ?_⟩) (by assumption) ?_
    rotate_left
    · (intro wS hSw; (try dsimp only at hSw); go_simp; (try with_reducible rfl))
    try simp only [Act.put, List.setIfInBounds_toArray, List.set_cons_zero, List.set_cons_succ]
    refine wpAnyH_take (i := 2) (oi := { dst := some 33, op := Op.slice 22 (Operand.tmp 31) none (some (Operand.tmp 32)) none, type := 22, pos := "tag.go:68", after := #[{ on := 0, ground := Ground.data }, { on := 1, ground := Ground.data }], guard := none }) (v := ?_) rfl (by kernel_rfl) (by kernel_rfl) (by kernel_rfl) (fun _ _ _ h => h) (Or.inl ⟨by rfl, ?_⟩) (by assumption) ?_
    rotate_left
    · (intro wS hSw; (try dsimp only at hSw); go_simp; (try with_reducible rfl))
    try simp only [Act.put, List.setIfInBounds_toArray, List.set_cons_zero, List.set_cons_succ]
    refine wpAnyH_take (i := 4) (oi := { dst := some 35, op := Op.load 24 (Operand.tmp 6), type := 24, pos := "tag.go:68", after := #[{ on := 5, ground := Ground.gcOnly Departure.lateStores }], guard := none }) (v := ?_) rfl (by kernel_rfl) (by kernel_rfl) (by kernel_rfl) (fun _ _ _ h => h) (Or.inl ⟨by rfl, ?_⟩) (by assumption) ?_
    rotate_left
    · (intro wS hSw; (try dsimp only at hSw); go_simp; (try with_reducible rfl))
    try simp only [Act.put, List.setIfInBounds_toArray, List.set_cons_zero, List.set_cons_succ]
    refine wpAnyH_ready (rs := [3]) (by kernel_rfl) (by simp) ?_
    refine AllReadyH.cons (o := { dst := some 34, op := Op.call { callee := Callee.value (Operand.func 32), args := #[Operand.tmp 33], argTypes := #[22] }, type := 22, pos := "tag.go:68", after := #[{ on := 2, ground := Ground.data }], guard := none }) rfl (fun K hK => ?_) AllReadyH.nil
    go_simp
    (go_at_call 32; refine (clone_any (bs.take n) n b o _ _ (show Sl w2.drew w2.drew.heap.size (some ⟨b, o, none⟩) ((bs.take n).map byteV) from SLT) (by simp [HL.out]) (by omega)).mono ?_; rintro e' w4 ⟨sv, rfl, ho4, hb4⟩; have HB4 : Below w.heap.size w w4 := HB2.drew.trans (hb4.mono HB2.size); have HZ4 : Blk w4 w.heap.size 24 #[.int .i64 0, .int .i64 0, .int .i64 0, .int .i64 0] := Blk.below (w := w2.drew) HZ2 hb4 (by simp; omega); have HT4 : Blk w4 w1.heap.size 24 #[.int .i64 (tK (bs.drop n)), .int .i64 (tP (bs.drop n)), .int .i64 (tS (bs.drop n)), .int .i64 (tE (bs.drop n))] := Blk.below (w := w2.drew) HT2 hb4 (by simp; omega); have v0 := HZ4.cell_ 0; have v1 := HZ4.cell_ 1; have v2 := HZ4.cell_ 2; have v3 := HZ4.cell_ 3; simp at v0 v1 v2 v3; have vf := HZ4.free; have x0 := HT4.cell_ 0; have x1 := HT4.cell_ 1; have x2 := HT4.cell_ 2; have x3 := HT4.cell_ 3; simp at x0 x1 x2 x3)
    go_wp2_with fail
    refine hK.out _ _ ?_ (fun hNew => ?_)
    · (first | exact ⟨HB2.drew, z0, z1, z2, z3⟩ | exact ⟨HB4, x0, x1, x2, x3⟩ | exact st4_keep HB4 HT4 (by omega) _ _ _ _)
    clear hK K hHeld
    have hHeld := hNew
    clear hNew
    try simp only [Act.put, List.setIfInBounds_toArray, List.set_cons_zero, List.set_cons_succ]
    refine wpAnyH_take (i := 5) (oi := { dst := some 2, op := Op.assign (Operand.tmp 34), type := 22, pos := "tag.go:68", after := #[{ on := 3, ground := Ground.data }, { on := 3, ground := Ground.chain }, { on := 0, ground := Ground.phase }, { on := 1, ground := Ground.phase }, { on := 2, ground := Ground.phase }, { on := 3, ground := Ground.phase }, { on := 4, ground := Ground.textOnly Departure.lateStores }], guard := none }) (v := ?_) rfl (by kernel_rfl) (by kernel_rfl) (by kernel_rfl) (fun _ _ _ h => h) (Or.inl ⟨by rfl, ?_⟩) (by assumption) ?_
    rotate_left
    · (intro wS hSw; (try dsimp only at hSw); go_simp; (try with_reducible rfl))
    try simp only [Act.put, List.setIfInBounds_toArray, List.set_cons_zero, List.set_cons_succ]
    refine wpAnyH_ready (rs := [6]) (by kernel_rfl) (by simp) ?_
    refine AllReadyH.cons (o := { dst := none, op := Op.store 24 (Operand.tmp 3) (Operand.tmp 35), type := 0, pos := "tag.go:68", after := #[{ on := 4, ground := Ground.data }, { on := 5, ground := Ground.chain }, { on := 0, ground := Ground.phase }, { on := 1, ground := Ground.phase }, { on := 2, ground := Ground.phase }, { on := 3, ground := Ground.phase }, { on := 4, ground := Ground.phase }, { on := 5, ground := Ground.phase }], guard := none }) rfl (fun K hK => ?_) AllReadyH.nil
    go_simp
    refine hK.out _ _ ?_ (fun hNew => ?_)
    · (first | exact ⟨HB2.drew, z0, z1, z2, z3⟩ | exact ⟨HB4, x0, x1, x2, x3⟩ | exact st4_keep HB4 HT4 (by omega) _ _ _ _)
    clear hK K hHeld
    have hHeld := hNew
    clear hNew
    try simp only [Act.put, List.setIfInBounds_toArray, List.set_cons_zero, List.set_cons_succ]
    refine wpAnyH_take (i := 7) (oi := { dst := some 4, op := Op.assign (Operand.const (Value.int IntKind.i64 1)), type := 3, pos := "tag.go:68", after := #[{ on := 6, ground := Ground.chain }, { on := 0, ground := Ground.phase }, { on := 1, ground := Ground.phase }, { on := 2, ground := Ground.phase }, { on := 3, ground := Ground.phase }, { on := 4, ground := Ground.phase }, { on := 5, ground := Ground.phase }, { on := 6, ground := Ground.phase }], guard := none }) (v := ?_) rfl (by kernel_rfl) (by kernel_rfl) (by kernel_rfl) (fun _ _ _ h => h) (Or.inl ⟨by rfl, ?_⟩) (by assumption) ?_
    rotate_left
    · (intro wS hSw; (try dsimp only at hSw); go_simp; (try with_reducible rfl))
    try simp only [Act.put, List.setIfInBounds_toArray, List.set_cons_zero, List.set_cons_succ]
    refine wpAnyH_done (by kernel_rfl) ?_ _
    refine NoPanic.normal ?_
    go_wp2
    have HW := st4_blk HZ4 (.int .i64 (tK (bs.drop n))) (.int .i64 (tP (bs.drop n))) (.int .i64 (tS (bs.drop n))) (.int .i64 (tE (bs.drop n)))
    have HBW := st4_below HB4 (Nat.le_refl _) (.int .i64 (tK (bs.drop n))) (.int .i64 (tP (bs.drop n))) (.int .i64 (tS (bs.drop n))) (.int .i64 (tE (bs.drop n)))
    have HOW := st4_own (g := w.heap.size) (own_mono ho4 (base' := w.heap.size + 1) (by have := HB2.size; simp; omega)) (by omega) (.int .i64 (tK (bs.drop n))) (.int .i64 (tP (bs.drop n))) (.int .i64 (tS (bs.drop n))) (.int .i64 (tE (bs.drop n)))
    change bodyPost _ _ _ _ _ (st4 w4 w.heap.size (.int .i64 (tK (bs.drop n))) (.int .i64 (tP (bs.drop n))) (.int .i64 (tS (bs.drop n))) (.int .i64 (tE (bs.drop n))))
    generalize st4 w4 w.heap.size (.int .i64 (tK (bs.drop n))) (.int .i64 (tP (bs.drop n))) (.int .i64 (tS (bs.drop n))) (.int .i64 (tE (bs.drop n))) = wz at HW HBW HOW ⊢
    have r0 := HW.cell_ 0
    have r1 := HW.cell_ 1
    have r2 := HW.cell_ 2
    have r3 := HW.cell_ 3
    simp at r0 r1 r2 r3
    exact bodyPost_ret (v := .tuple #[sv, .agg #[.int .i64 (tK (bs.drop n)), .int .i64 (tP (bs.drop n)), .int .i64 (tS (bs.drop n)), .int .i64 (tE (bs.drop n))], .int .i64 1]) (by simp [results, Try.results19, go_sem, r0, r1, r2, r3]) rfl ⟨sv, rfl, HOW, HBW⟩
end Go.Proofs.Ytjmochkhdapmiaa
