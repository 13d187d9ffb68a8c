/- GeomWalks: from the first place on all places come, each once, in the order of their numbers. -/
import Derived.Test.YtlkjhdacillkmaaGeomGrowsA
import Derived.Test.YtlkjhdacillkmaaGeomR2
namespace Go.Proofs.Ytlkjhdacillkmaa
open Go.ChangeShapes Go.WideShapes Go.ChangeAt Go.RowKit
attribute [local go_sem ↓] Go.wp_at_zero Go.wp_at_succ

theorem walks_no (a b c d e : Int) (w : World) (hm : mayB a b c d e = false) :
    Calls Try.prog 4 #[.agg #[.int .i64 a, .int .i64 b, .int .i64 c, .int .i64 d, .int .i64 e]] w fun e' w' => e' = .returned (.bool true) ∧ Below w.heap.size w w' := by
  have hno : nextOk a b c d e 0 0 = false := by simp [nextOk, hm]
  have Ho := Lib.hid hno
  have Hm := Lib.hid hm
  clear hm hno
  go_enter Try.func4, Try.ntmps4
  go_wp2_with (first
    | (go_at_call 10; refine (may_any _ _ _ _ _ _).mono ?_; rw [Hm.out]; rintro e' w1 ⟨rfl, hb1⟩; obtain ⟨hc1, hf1⟩ := bcell hb1; have hz1 : w.heap.size < w1.heap.size := by { have := hb1.size; simp at this; omega })
    | (go_at_call 8; refine (Next_any _ _ _ _ _ _ _ _).mono ?_; rw [Ho.out]; rintro e' w2 ⟨rfl, hb2⟩; obtain ⟨hc2, hf2⟩ := bcell hb2; have hz2 : w.heap.size < w2.heap.size := by { have := hb2.size; omega })
    | (go_at_call 12; refine (Logical_any _ _ _ _ _ _).mono ?_; rw [ifMay_no _ Hm.out]; rintro e' w3 ⟨rfl, hb3⟩)
    | (go_at_call 22; refine (awake_any _).mono ?_; rintro e' w4 ⟨rfl, hb4⟩))
  go_ret
  have B1 := below1 hb1
  have B2 := btr B1 B1.size hb2
  have B3 := (B2.alloc B2.size _).trans (hb3.mono (by have := B2.size; simp; omega))
  exact ⟨rfl, btr B3 B3.size hb4⟩

def Pl (w : World) (g : Nat) (x y : Int) : Prop := w.heap[g]? = some (.cells #[.int .i64 x, .int .i64 y] 25 (0, 0))

theorem pl_cells {w : World} {g : Nat} {x y : Int} (h : Pl w g x y) : w.cell? ⟨g, 0, none⟩ = some (.int .i64 x) ∧ w.cell? ⟨g, 1, none⟩ = some (.int .i64 y) := by
  unfold Pl at h
  simp [World.cell?, h]
theorem pl_free {w : World} {g : Nat} {x y : Int} (h : Pl w g x y) : ∀ i, w.frozen? ⟨g, i, none⟩ = false := by
  unfold Pl at h
  intro i
  simp [World.frozen?, h]
theorem pl_lt {w : World} {g : Nat} {x y : Int} (h : Pl w g x y) : g < w.heap.size := by
  rcases Nat.lt_or_ge g w.heap.size with hl | hl
  · exact hl
  · unfold Pl at h
    rw [Array.getElem?_eq_none hl] at h
    cases h

theorem num_in {a b x y : Int} (h : thereB a b x y = true) : numberI a b x y = x * b + y := by simp [numberI, h]

theorem place_of {k a b : Int} (h0 : 0 ≤ k) (h1 : k < a * b) (h2 : 4 ≤ b) : thereB a b (k / b) (k % b) = true ∧ k / b * b + k % b = k ∧ 0 ≤ k % b ∧ k % b < b := by
  have e1 : k / b * b + k % b = k := by
    have := Int.mul_ediv_add_emod k b
    rw [Int.mul_comm] at this
    exact this
  have e2 := Int.emod_nonneg k (b := b) (by omega)
  have e3 := Int.emod_lt_of_pos k (b := b) (by omega)
  have e4 : 0 ≤ k / b := Int.ediv_nonneg h0 (by omega)
  have e5 : k / b < a := Int.ediv_lt_of_lt_mul (by omega) h1
  refine ⟨?_, e1, e2, e3⟩
  simp only [thereB, withinB, Bool.and_eq_true, decide_eq_true_eq]
  omega

set_option maxRecDepth 100000 in
set_option linter.unusedVariables false in
set_option maxHeartbeats 4000000 in
theorem walks_yes (a b c d e : Int) (w : World) (hm : mayB a b c d e = true) :
    Calls Try.prog 4 #[.agg #[.int .i64 a, .int .i64 b, .int .i64 c, .int .i64 d, .int .i64 e]] w fun e' w' => e' = .returned (.bool true) ∧ Below w.heap.size w w' := by
  obtain ⟨k1, k2, k3, k4, _⟩ := may_bd hm
  obtain ⟨q1, q2⟩ := mul_bd (x := a) (y := b) k1 k2 k3 k4 (by omega) (by omega)
  have Hm := Lib.hid hm
  clear hm
  go_enter Try.func4, Try.ntmps4
  go_wp2_with (go_at_call 10; refine (may_any _ _ _ _ _ _).mono ?_; rw [Hm.out]; rintro e' w1 ⟨rfl, hb1⟩; obtain ⟨hc1, hf1⟩ := bcell hb1; have hz1 : w.heap.size < w1.heap.size := by { have := hb1.size; simp at this; omega })
  have G0 : Geo5 w1 w.heap.size a b c d e := (hb1.block w.heap.size (by simp)).trans (heap_alloc_new w _)
  have hB1 := below1 hb1
  have hz0 : w.heap.size < w1.heap.size + 1 := by omega
  have G1 : ∀ o, Geo5 (w1.alloc o) w.heap.size a b c d e := fun o => (Below.heap_alloc w1 o _ hz1).trans G0
  go_loopw [6, 7] (fun n i wr => ∃ k : Nat, (k : Int) < a * b ∧ n = .int .i64 k ∧ i = .int .i64 k ∧ Below w.heap.size w wr ∧ Geo5 wr w.heap.size a b c d e ∧ Pl wr w1.heap.size (k / b) (k % b)) (fun n _ _ => ((a * b) - intOf n).toNat)
  case atStart =>
    refine ⟨0, by omega, rfl, rfl, hB1.alloc hB1.size _, G1 _, ?_⟩
    show Pl _ _ _ _
    simp only [Int.natCast_zero, Int.zero_ediv, Int.zero_emod]
    exact heap_alloc_new w1 _
  case round =>
    obtain ⟨k, hk, rfl, rfl, hBr, Gr, Pr⟩ := hrel
    obtain ⟨t1, t2, t3, t4⟩ := place_of (k := k) (a := a) (b := b) (by omega) hk k3
    obtain ⟨x, hx⟩ : ∃ x, (k : Int) / b = x := ⟨_, rfl⟩
    obtain ⟨y, hy⟩ : ∃ y, (k : Int) % b = y := ⟨_, rfl⟩
    rw [hx, hy] at t1 t2 Pr
    rw [hy] at t3 t4
    have HN := Lib.hid ((num_in t1).trans t2)
    obtain ⟨a0, a1, a2, a3, a4⟩ := geo_cells Gr
    obtain ⟨b0, b1⟩ := pl_cells Pr
    have z5 := pl_free Pr
    have l0 := geo_lt Gr
    have l1 := pl_lt Pr
    have Hx := Lib.hid hx
    have Hy := Lib.hid hy
    clear hx hy
    by_cases hl : (k : Int) + 1 = a * b
    · have ho : nextOk a b c d e x y = false := by
        have h9 : x * b + y + 1 = a * b := by omega
        simp [nextOk, h9]
      have HX := Lib.hid (show nextX a b c d e x y = 0 by simp [nextX, ho])
      have HY := Lib.hid (show nextY a b c d e x y = 0 by simp [nextY, ho])
      have HO := Lib.hid ho
      have T1 := Lib.hid t1
      have T2 := Lib.hid t2
      have hl' : ((k : Int) == a * b - 1) = true := by rw [beq_iff_eq]; omega
      clear ho t1 t2 hl
      go_wp2_with (first
        | (go_at_call 20; refine (Number_any _ _ _ _ _ _ _ _).mono ?_; rw [ifMay_yes _ Hm.out, HN.out]; rintro e' w2 ⟨rfl, hb2⟩; obtain ⟨hc2, hf2⟩ := bcell hb2; have x0 : w.heap.size < w2.heap.size := by { have := hb2.size; omega }; have x1 : w1.heap.size < w2.heap.size := by { have := hb2.size; omega })
        | (go_at_call 8; refine (Next_any _ _ _ _ _ _ _ _).mono ?_; rw [HO.out, HX.out, HY.out]; rintro e' w3 ⟨rfl, hb3⟩; obtain ⟨hc3, hf3⟩ := bcell hb3; have y0 : w.heap.size < w3.heap.size := by { have := hb3.size; omega }; have y1 : w1.heap.size < w3.heap.size := by { have := hb3.size; omega }; have y2 : w.heap.size < w3.heap.size + 1 := by { omega }; have y3 : w1.heap.size < w3.heap.size + 1 := by { omega })
        | (go_at_call 22; refine (awake_any _).mono ?_; rintro e' w4 ⟨rfl, hb4⟩))
      go_ret
      have B2 := btr hBr hBr.size hb2
      have B3 := btr B2 B2.size hb3
      exact ⟨rfl, (B3.alloc B3.size _).trans (hb4.mono (by have := B3.size; simp; omega))⟩
    · have h9 : x * b + y + 1 = (k : Int) + 1 := by omega
      have ho : nextOk a b c d e x y = true := by simp [nextOk, Hm.out, t1, h9, hl]
      have HX := Lib.hid (show nextX a b c d e x y = ((k : Int) + 1) / b by simp [nextX, ho, h9])
      have HY := Lib.hid (show nextY a b c d e x y = ((k : Int) + 1) % b by simp [nextY, ho, h9])
      have HO := Lib.hid ho
      have T1 := Lib.hid t1
      have T2 := Lib.hid t2
      have hlt : (k : Int) + 1 < a * b := by omega
      clear ho t1 t2 hl h9
      go_wp2_with (first
        | (go_at_call 20; refine (Number_any _ _ _ _ _ _ _ _).mono ?_; rw [ifMay_yes _ Hm.out, HN.out]; rintro e' w2 ⟨rfl, hb2⟩; obtain ⟨hc2, hf2⟩ := bcell hb2; have x0 : w.heap.size < w2.heap.size := by { have := hb2.size; omega }; have x1 : w1.heap.size < w2.heap.size := by { have := hb2.size; omega })
        | (go_at_call 8; refine (Next_any _ _ _ _ _ _ _ _).mono ?_; rw [HO.out, HX.out, HY.out]; rintro e' w3 ⟨rfl, hb3⟩; obtain ⟨hc3, hf3⟩ := bcell hb3; have y0 : w.heap.size < w3.heap.size := by { have := hb3.size; omega }; have y1 : w1.heap.size < w3.heap.size := by { have := hb3.size; omega }; have y2 : w.heap.size < w3.heap.size + 1 := by { omega }; have y3 : w1.heap.size < w3.heap.size + 1 := by { omega })
        | (go_at_call 22; refine (awake_any _).mono ?_; rintro e' w4 ⟨rfl, hb4⟩))
      have B2 := btr hBr hBr.size hb2
      have B3 := btr B2 B2.size hb3
      have P3 : Pl w3 w1.heap.size x y := (hb3.block _ x1).trans ((hb2.block _ l1).trans Pr)
      have G3 : Geo5 w3 w.heap.size a b c d e := (hb3.block _ x0).trans ((hb2.block _ l0).trans Gr)
      have hne : w.heap.size ≠ w1.heap.size := by omega
      go_roundw
      case rel =>
        have B4 := (B3.setCell (p := ⟨w1.heap.size, 0, none⟩) (by simp; omega) (.int .i64 (((k : Int) + 1) / b))).setCell (p := ⟨w1.heap.size, 1, none⟩) (by simp; omega) (.int .i64 (((k : Int) + 1) % b))
        refine ⟨k + 1, by omega, by go_num, by go_num, B4.alloc B4.size _, ?_, ?_⟩
        · exact (Below.heap_alloc _ _ _ (by simpa using y0)).trans ((Below.heap_setCell _ _ _ _ hne).trans ((Below.heap_setCell _ _ _ _ hne).trans G3))
        · exact (Below.heap_alloc _ _ _ (by simpa using y1)).trans (Joins.block_setCell (Joins.block_setCell P3 _) _)
      case measure => simp [intOf]; omega

theorem walks_walk (a b c d e : Int) (w : World) (_ : i64in a ∧ i64in b ∧ i64in c ∧ i64in d ∧ i64in e) :
    Calls Try.prog 4 #[.agg #[.int .i64 a, .int .i64 b, .int .i64 c, .int .i64 d, .int .i64 e]] w fun e' w' => e' = .returned (.bool true) ∧ Below w.heap.size w w' := by
  cases hm : mayB a b c d e
  · exact walks_no a b c d e w hm
  · exact walks_yes a b c d e w hm
end Go.Proofs.Ytlkjhdacillkmaa
