/- GeomNumbers: unlike places have unlike numbers; a place that there is not has none. -/
import Derived.Test.YtlkjhdacillkmaaGeomR2
import Derived.Test.YtlkjhdacillkmaaGeomF
import Derived.Test.YtlkjhdacillkmaaOpen
import Derived.Deep.Light
namespace Go.Proofs.Ytlkjhdacillkmaa
open Go.ChangeShapes Go.WideShapes Go.ChangeAt Go.RowKit
attribute [local go_sem ↓] Go.wp_at_zero Go.wp_at_succ

/-- A law whose geometry may not be ends in awake. -/
theorem num_no (a b c d e x y u v : Int) (w : World) (hm : mayB a b c d e = false) :
    Calls Try.prog 7 #[.agg #[.int .i64 a, .int .i64 b, .int .i64 c, .int .i64 d, .int .i64 e], .agg #[.int .i64 x, .int .i64 y], .agg #[.int .i64 u, .int .i64 v]] w fun e' w' => e' = .returned (.bool true) ∧ Below w.heap.size w w' := by
  have Hm := Lib.hid hm
  clear hm
  go_enter Try.func7, Try.ntmps7
  go_wp2_with (first
    | (go_at_call 10; refine (may_any _ _ _ _ _ _).mono ?_; rw [Hm.out]; rintro e' w1 ⟨rfl, hb1⟩)
    | (go_at_call 22; refine (awake_any _).mono ?_; rintro e' w2 ⟨rfl, hb2⟩))
  go_ret
  exact ⟨rfl, btr (below3 hb1) (below3 hb1).size hb2⟩


theorem num_out {a b x y : Int} (h : thereB a b x y = false) : numberI a b x y = -1 := by simp [numberI, h]
theorem num_in {a b x y : Int} (h : thereB a b x y = true) : numberI a b x y = x * b + y := by simp [numberI, h]

theorem there_not {a b x y : Int} (h : thereB a b x y = false) : ¬ (0 ≤ x ∧ x < a ∧ 0 ≤ y ∧ y < b) := by
  intro ⟨h1, h2, h3, h4⟩
  have : thereB a b x y = true := by
    simp only [thereB, withinB, Bool.and_eq_true, decide_eq_true_eq]
    omega
  rw [this] at h
  cases h

set_option maxHeartbeats 4000000 in
theorem num_yes_out (a b c d e x y u v : Int) (w : World) (hm : mayB a b c d e = true) (ht : thereB a b x y = false) :
    Calls Try.prog 7 #[.agg #[.int .i64 a, .int .i64 b, .int .i64 c, .int .i64 d, .int .i64 e], .agg #[.int .i64 x, .int .i64 y], .agg #[.int .i64 u, .int .i64 v]] w fun e' w' => e' = .returned (.bool true) ∧ Below w.heap.size w w' := by
  obtain ⟨k1, k2, k3, k4, _⟩ := may_bd hm
  obtain ⟨q1, q2⟩ := mul_bd (x := a) (y := b) k1 k2 k3 k4 (by omega) (by omega)
  have Hm := Lib.hid hm
  have Hn := Lib.hid (num_out ht)
  have Hk : Hid (numberI a b x y = -1) := Hn
  have hno : nextOk a b c d e x y = false := by simp [nextOk, ht]
  have Ho := Lib.hid hno
  have Hq := Lib.hid (there_not ht)
  clear hm ht hno
  go_enter Try.func7, Try.ntmps7
  go_wp2_with (go_at_call 10; refine (may_any _ _ _ _ _ _).mono ?_; rw [Hm.out]; rintro e' w1 ⟨rfl, hb1⟩; obtain ⟨hc1, hf1⟩ := bcell hb1; have hza2 : w.heap.size + 2 < w1.heap.size := by { have := hb1.size; simp at this; omega }; have hza1 : w.heap.size + 1 < w1.heap.size := by { omega }; have hza0 : w.heap.size < w1.heap.size := by { omega })
  have hB1 : Below w.heap.size w w1 := below3 hb1
  clear hb1 hf1
  go_region_held3 (fun w' => Below w.heap.size w w' ∧ w1.heap.size ≤ w'.heap.size ∧ ∀ (k o : Nat), k < w1.heap.size → w'.cell? ⟨k, o, none⟩ = w1.cell? ⟨k, o, none⟩)
    (first | exact ⟨hB1.drew, by simp, by simp⟩ | exact kept_step (by assumption) hb3 | fail)
    (first
      | (go_at_call 20; refine (Number_any _ _ _ _ _ _ _ _).mono ?_; rw [ifMay_yes _ Hm.out]; (first | rw [Hn.out] | skip); (first | rw [Hk.out] | skip); rintro e' w3 ⟨rfl, hb3⟩))
  rename_i hH
  obtain ⟨hB3, hs3, hc3⟩ := hH
  clear hb3
  have hzb2 : w.heap.size + 2 < w3.heap.size := by { omega }
  have hzb1 : w.heap.size + 1 < w3.heap.size := by { omega }
  have hzb0 : w.heap.size < w3.heap.size := by { omega }
  go_wp2_with (first
    | (go_at_call 8; refine (Next_any _ _ _ _ _ _ _ _).mono ?_; rw [Ho.out]; rintro e' w4 ⟨rfl, hb4⟩; obtain ⟨hc4, hf4⟩ := bcell hb4; have hzc2 : w.heap.size + 2 < w4.heap.size := by { have := hb4.size; omega }; have hzc1 : w.heap.size + 1 < w4.heap.size := by { omega }; have hzc0 : w.heap.size < w4.heap.size := by { omega })
    | (go_at_call 22; refine (awake_any _).mono ?_; rintro e' w5 ⟨rfl, hb5⟩))
  all_goals first
    | (exfalso; have := Hq.out; omega)
    | (go_ret; exact ⟨rfl, ((btr hB3 hB3.size hb4).alloc (btr hB3 hB3.size hb4).size _).trans (hb5.mono (by have := hB3.size; have := hb4.size; simp; omega))⟩)
    | (go_ret; refine ⟨?_, ((btr hB3 hB3.size hb4).alloc (btr hB3 hB3.size hb4).size _).trans (hb5.mono (by have := hB3.size; have := hb4.size; simp; omega))⟩; go_light; have := Hiff.out; simp; omega)

/-- Unlike places of a geometry have unlike numbers. -/
theorem num_eq_iff {b x y u v : Int} (h1 : 0 ≤ y) (h2 : y ≤ b - 1) (h3 : 0 ≤ v) (h4 : v ≤ b - 1) : x * b + y = u * b + v ↔ x = u ∧ y = v := by
  constructor
  · intro h
    have hx : x = u := by
      rcases Int.lt_trichotomy x u with hl | hl | hl
      · exfalso
        have h6 : (x + 1) * b ≤ u * b := Int.mul_le_mul_of_nonneg_right (by omega) (by omega)
        have h7 : (x + 1) * b = x * b + b := by rw [Int.add_mul, Int.one_mul]
        omega
      · exact hl
      · exfalso
        have h6 : (u + 1) * b ≤ x * b := Int.mul_le_mul_of_nonneg_right (by omega) (by omega)
        have h7 : (u + 1) * b = u * b + b := by rw [Int.add_mul, Int.one_mul]
        omega
    subst hx
    exact ⟨rfl, by omega⟩
  · rintro ⟨rfl, rfl⟩
    rfl

set_option maxHeartbeats 4000000 in
theorem num_in_out_last (a b c d e x y u v : Int) (w : World) (hm : mayB a b c d e = true) (ht : thereB a b x y = true) (hu : thereB a b u v = false) (hl : x * b + y + 1 = a * b) :
    Calls Try.prog 7 #[.agg #[.int .i64 a, .int .i64 b, .int .i64 c, .int .i64 d, .int .i64 e], .agg #[.int .i64 x, .int .i64 y], .agg #[.int .i64 u, .int .i64 v]] w fun e' w' => e' = .returned (.bool true) ∧ Below w.heap.size w w' := by
  obtain ⟨k1, k2, k3, k4, _⟩ := may_bd hm
  obtain ⟨q1, q2⟩ := mul_bd (x := a) (y := b) k1 k2 k3 k4 (by omega) (by omega)
  obtain ⟨t1, t2, t3, t4⟩ := there_bd ht
  obtain ⟨p1, p2⟩ := mul_bd (x := x) (y := b) (lo := 0) (hi := 19) (by omega) (by omega) k3 k4 (by omega) (by omega)
  have hlt : x * b + y < a * b := by
    have h6 : x * b ≤ (a - 1) * b := Int.mul_le_mul_of_nonneg_right (by omega) (by omega)
    have h8 : (a - 1) * b = a * b - b := by rw [Int.sub_mul, Int.one_mul]
    omega
  have Hm := Lib.hid hm
  have Hn := Lib.hid (num_in ht)
  have hno : nextOk a b c d e x y = false := by simp [nextOk, hl]
  have Ho := Lib.hid hno
  have hl' : (x * b + y != a * b - 1) = false := by rw [bne_eq_false_iff_eq]; omega
  clear hno hl
  have Hk := Lib.hid (num_out hu)
  clear hm ht hu
  go_enter Try.func7, Try.ntmps7
  go_wp2_with (go_at_call 10; refine (may_any _ _ _ _ _ _).mono ?_; rw [Hm.out]; rintro e' w1 ⟨rfl, hb1⟩; obtain ⟨hc1, hf1⟩ := bcell hb1; have hza2 : w.heap.size + 2 < w1.heap.size := by { have := hb1.size; simp at this; omega }; have hza1 : w.heap.size + 1 < w1.heap.size := by { omega }; have hza0 : w.heap.size < w1.heap.size := by { omega })
  have hB1 : Below w.heap.size w w1 := below3 hb1
  clear hb1 hf1
  go_region_held3 (fun w' => Below w.heap.size w w' ∧ w1.heap.size ≤ w'.heap.size ∧ ∀ (k o : Nat), k < w1.heap.size → w'.cell? ⟨k, o, none⟩ = w1.cell? ⟨k, o, none⟩)
    (first | exact ⟨hB1.drew, by simp, by simp⟩ | exact kept_step (by assumption) hb3 | fail)
    (first
      | (go_at_call 20; refine (Number_any _ _ _ _ _ _ _ _).mono ?_; rw [ifMay_yes _ Hm.out]; (first | rw [Hn.out] | skip); (first | rw [Hk.out] | skip); rintro e' w3 ⟨rfl, hb3⟩))
  rename_i hH
  obtain ⟨hB3, hs3, hc3⟩ := hH
  clear hb3
  have hzb2 : w.heap.size + 2 < w3.heap.size := by { omega }
  have hzb1 : w.heap.size + 1 < w3.heap.size := by { omega }
  have hzb0 : w.heap.size < w3.heap.size := by { omega }
  go_wp2_with (first
    | (go_at_call 8; refine (Next_any _ _ _ _ _ _ _ _).mono ?_; rw [Ho.out]; rintro e' w4 ⟨rfl, hb4⟩; obtain ⟨hc4, hf4⟩ := bcell hb4; have hzc2 : w.heap.size + 2 < w4.heap.size := by { have := hb4.size; omega }; have hzc1 : w.heap.size + 1 < w4.heap.size := by { omega }; have hzc0 : w.heap.size < w4.heap.size := by { omega })
    | (go_at_call 22; refine (awake_any _).mono ?_; rintro e' w5 ⟨rfl, hb5⟩))
  all_goals
    go_ret
    exact ⟨rfl, ((btr hB3 hB3.size hb4).alloc (btr hB3 hB3.size hb4).size _).trans (hb5.mono (by have := hB3.size; have := hb4.size; simp; omega))⟩

set_option maxHeartbeats 4000000 in
theorem num_in_in_last (a b c d e x y u v : Int) (w : World) (hm : mayB a b c d e = true) (ht : thereB a b x y = true) (hu : thereB a b u v = true) (hl : x * b + y + 1 = a * b) :
    Calls Try.prog 7 #[.agg #[.int .i64 a, .int .i64 b, .int .i64 c, .int .i64 d, .int .i64 e], .agg #[.int .i64 x, .int .i64 y], .agg #[.int .i64 u, .int .i64 v]] w fun e' w' => e' = .returned (.bool true) ∧ Below w.heap.size w w' := by
  obtain ⟨k1, k2, k3, k4, _⟩ := may_bd hm
  obtain ⟨q1, q2⟩ := mul_bd (x := a) (y := b) k1 k2 k3 k4 (by omega) (by omega)
  obtain ⟨t1, t2, t3, t4⟩ := there_bd ht
  obtain ⟨p1, p2⟩ := mul_bd (x := x) (y := b) (lo := 0) (hi := 19) (by omega) (by omega) k3 k4 (by omega) (by omega)
  have hlt : x * b + y < a * b := by
    have h6 : x * b ≤ (a - 1) * b := Int.mul_le_mul_of_nonneg_right (by omega) (by omega)
    have h8 : (a - 1) * b = a * b - b := by rw [Int.sub_mul, Int.one_mul]
    omega
  have Hm := Lib.hid hm
  have Hn := Lib.hid (num_in ht)
  have hno : nextOk a b c d e x y = false := by simp [nextOk, hl]
  have Ho := Lib.hid hno
  have hl' : (x * b + y != a * b - 1) = false := by rw [bne_eq_false_iff_eq]; omega
  clear hno hl
  have Hk := Lib.hid (num_in hu)
  obtain ⟨u1, u2, u3, u4⟩ := there_bd hu
  obtain ⟨p3, p4⟩ := mul_bd (x := u) (y := b) (lo := 0) (hi := 19) (by omega) (by omega) k3 k4 (by omega) (by omega)
  have hiff := num_eq_iff (b := b) (x := x) (y := y) (u := u) (v := v) t3 t4 u3 u4
  have Hiff := Lib.hid hiff
  clear hm ht hu hiff
  go_enter Try.func7, Try.ntmps7
  go_wp2_with (go_at_call 10; refine (may_any _ _ _ _ _ _).mono ?_; rw [Hm.out]; rintro e' w1 ⟨rfl, hb1⟩; obtain ⟨hc1, hf1⟩ := bcell hb1; have hza2 : w.heap.size + 2 < w1.heap.size := by { have := hb1.size; simp at this; omega }; have hza1 : w.heap.size + 1 < w1.heap.size := by { omega }; have hza0 : w.heap.size < w1.heap.size := by { omega })
  have hB1 : Below w.heap.size w w1 := below3 hb1
  clear hb1 hf1
  go_region_held3 (fun w' => Below w.heap.size w w' ∧ w1.heap.size ≤ w'.heap.size ∧ ∀ (k o : Nat), k < w1.heap.size → w'.cell? ⟨k, o, none⟩ = w1.cell? ⟨k, o, none⟩)
    (first | exact ⟨hB1.drew, by simp, by simp⟩ | exact kept_step (by assumption) hb3 | fail)
    (first
      | (go_at_call 20; refine (Number_any _ _ _ _ _ _ _ _).mono ?_; rw [ifMay_yes _ Hm.out]; (first | rw [Hn.out] | skip); (first | rw [Hk.out] | skip); rintro e' w3 ⟨rfl, hb3⟩))
  rename_i hH
  obtain ⟨hB3, hs3, hc3⟩ := hH
  clear hb3
  have hzb2 : w.heap.size + 2 < w3.heap.size := by { omega }
  have hzb1 : w.heap.size + 1 < w3.heap.size := by { omega }
  have hzb0 : w.heap.size < w3.heap.size := by { omega }
  go_wp2_with (first
    | (go_at_call 8; refine (Next_any _ _ _ _ _ _ _ _).mono ?_; rw [Ho.out]; rintro e' w4 ⟨rfl, hb4⟩; obtain ⟨hc4, hf4⟩ := bcell hb4; have hzc2 : w.heap.size + 2 < w4.heap.size := by { have := hb4.size; omega }; have hzc1 : w.heap.size + 1 < w4.heap.size := by { omega }; have hzc0 : w.heap.size < w4.heap.size := by { omega })
    | (go_at_call 22; refine (awake_any _).mono ?_; rintro e' w5 ⟨rfl, hb5⟩))
  all_goals first
    | (exfalso; have := Hiff.out; omega)
    | (go_ret; exact ⟨rfl, ((btr hB3 hB3.size hb4).alloc (btr hB3 hB3.size hb4).size _).trans (hb5.mono (by have := hB3.size; have := hb4.size; simp; omega))⟩)
    | (go_ret; refine ⟨?_, ((btr hB3 hB3.size hb4).alloc (btr hB3 hB3.size hb4).size _).trans (hb5.mono (by have := hB3.size; have := hb4.size; simp; omega))⟩; go_light; have := Hiff.out; simp; omega)

set_option maxHeartbeats 4000000 in
theorem num_in_out_next (a b c d e x y u v : Int) (w : World) (hm : mayB a b c d e = true) (ht : thereB a b x y = true) (hu : thereB a b u v = false) (hl : x * b + y + 1 ≠ a * b) :
    Calls Try.prog 7 #[.agg #[.int .i64 a, .int .i64 b, .int .i64 c, .int .i64 d, .int .i64 e], .agg #[.int .i64 x, .int .i64 y], .agg #[.int .i64 u, .int .i64 v]] w fun e' w' => e' = .returned (.bool true) ∧ Below w.heap.size w w' := by
  obtain ⟨k1, k2, k3, k4, _⟩ := may_bd hm
  obtain ⟨q1, q2⟩ := mul_bd (x := a) (y := b) k1 k2 k3 k4 (by omega) (by omega)
  obtain ⟨t1, t2, t3, t4⟩ := there_bd ht
  obtain ⟨p1, p2⟩ := mul_bd (x := x) (y := b) (lo := 0) (hi := 19) (by omega) (by omega) k3 k4 (by omega) (by omega)
  have hlt : x * b + y < a * b := by
    have h6 : x * b ≤ (a - 1) * b := Int.mul_le_mul_of_nonneg_right (by omega) (by omega)
    have h8 : (a - 1) * b = a * b - b := by rw [Int.sub_mul, Int.one_mul]
    omega
  have Hm := Lib.hid hm
  have Hn := Lib.hid (num_in ht)
  have hno : nextOk a b c d e x y = true := by simp [nextOk, hl, hm, ht]
  have Ho := Lib.hid hno
  have hl' : (x * b + y != a * b - 1) = true := by rw [bne_iff_ne]; omega
  clear hno hl
  have Hk := Lib.hid (num_out hu)
  clear hm ht hu
  go_enter Try.func7, Try.ntmps7
  go_wp2_with (go_at_call 10; refine (may_any _ _ _ _ _ _).mono ?_; rw [Hm.out]; rintro e' w1 ⟨rfl, hb1⟩; obtain ⟨hc1, hf1⟩ := bcell hb1; have hza2 : w.heap.size + 2 < w1.heap.size := by { have := hb1.size; simp at this; omega }; have hza1 : w.heap.size + 1 < w1.heap.size := by { omega }; have hza0 : w.heap.size < w1.heap.size := by { omega })
  have hB1 : Below w.heap.size w w1 := below3 hb1
  clear hb1 hf1
  go_region_held3 (fun w' => Below w.heap.size w w' ∧ w1.heap.size ≤ w'.heap.size ∧ ∀ (k o : Nat), k < w1.heap.size → w'.cell? ⟨k, o, none⟩ = w1.cell? ⟨k, o, none⟩)
    (first | exact ⟨hB1.drew, by simp, by simp⟩ | exact kept_step (by assumption) hb3 | fail)
    (first
      | (go_at_call 20; refine (Number_any _ _ _ _ _ _ _ _).mono ?_; rw [ifMay_yes _ Hm.out]; (first | rw [Hn.out] | skip); (first | rw [Hk.out] | skip); rintro e' w3 ⟨rfl, hb3⟩))
  rename_i hH
  obtain ⟨hB3, hs3, hc3⟩ := hH
  clear hb3
  have hzb2 : w.heap.size + 2 < w3.heap.size := by { omega }
  have hzb1 : w.heap.size + 1 < w3.heap.size := by { omega }
  have hzb0 : w.heap.size < w3.heap.size := by { omega }
  go_wp2_with (first
    | (go_at_call 8; refine (Next_any _ _ _ _ _ _ _ _).mono ?_; rw [Ho.out]; rintro e' w4 ⟨rfl, hb4⟩; obtain ⟨hc4, hf4⟩ := bcell hb4; have hzc2 : w.heap.size + 2 < w4.heap.size := by { have := hb4.size; omega }; have hzc1 : w.heap.size + 1 < w4.heap.size := by { omega }; have hzc0 : w.heap.size < w4.heap.size := by { omega })
    | (go_at_call 22; refine (awake_any _).mono ?_; rintro e' w5 ⟨rfl, hb5⟩))
  all_goals
    go_ret
    exact ⟨rfl, ((btr hB3 hB3.size hb4).alloc (btr hB3 hB3.size hb4).size _).trans (hb5.mono (by have := hB3.size; have := hb4.size; simp; omega))⟩

set_option maxHeartbeats 4000000 in
theorem num_in_in_next (a b c d e x y u v : Int) (w : World) (hm : mayB a b c d e = true) (ht : thereB a b x y = true) (hu : thereB a b u v = true) (hl : x * b + y + 1 ≠ a * b) :
    Calls Try.prog 7 #[.agg #[.int .i64 a, .int .i64 b, .int .i64 c, .int .i64 d, .int .i64 e], .agg #[.int .i64 x, .int .i64 y], .agg #[.int .i64 u, .int .i64 v]] w fun e' w' => e' = .returned (.bool true) ∧ Below w.heap.size w w' := by
  obtain ⟨k1, k2, k3, k4, _⟩ := may_bd hm
  obtain ⟨q1, q2⟩ := mul_bd (x := a) (y := b) k1 k2 k3 k4 (by omega) (by omega)
  obtain ⟨t1, t2, t3, t4⟩ := there_bd ht
  obtain ⟨p1, p2⟩ := mul_bd (x := x) (y := b) (lo := 0) (hi := 19) (by omega) (by omega) k3 k4 (by omega) (by omega)
  have hlt : x * b + y < a * b := by
    have h6 : x * b ≤ (a - 1) * b := Int.mul_le_mul_of_nonneg_right (by omega) (by omega)
    have h8 : (a - 1) * b = a * b - b := by rw [Int.sub_mul, Int.one_mul]
    omega
  have Hm := Lib.hid hm
  have Hn := Lib.hid (num_in ht)
  have hno : nextOk a b c d e x y = true := by simp [nextOk, hl, hm, ht]
  have Ho := Lib.hid hno
  have hl' : (x * b + y != a * b - 1) = true := by rw [bne_iff_ne]; omega
  clear hno hl
  have Hk := Lib.hid (num_in hu)
  obtain ⟨u1, u2, u3, u4⟩ := there_bd hu
  obtain ⟨p3, p4⟩ := mul_bd (x := u) (y := b) (lo := 0) (hi := 19) (by omega) (by omega) k3 k4 (by omega) (by omega)
  have hiff := num_eq_iff (b := b) (x := x) (y := y) (u := u) (v := v) t3 t4 u3 u4
  have Hiff := Lib.hid hiff
  clear hm ht hu hiff
  go_enter Try.func7, Try.ntmps7
  go_wp2_with (go_at_call 10; refine (may_any _ _ _ _ _ _).mono ?_; rw [Hm.out]; rintro e' w1 ⟨rfl, hb1⟩; obtain ⟨hc1, hf1⟩ := bcell hb1; have hza2 : w.heap.size + 2 < w1.heap.size := by { have := hb1.size; simp at this; omega }; have hza1 : w.heap.size + 1 < w1.heap.size := by { omega }; have hza0 : w.heap.size < w1.heap.size := by { omega })
  have hB1 : Below w.heap.size w w1 := below3 hb1
  clear hb1 hf1
  go_region_held3 (fun w' => Below w.heap.size w w' ∧ w1.heap.size ≤ w'.heap.size ∧ ∀ (k o : Nat), k < w1.heap.size → w'.cell? ⟨k, o, none⟩ = w1.cell? ⟨k, o, none⟩)
    (first | exact ⟨hB1.drew, by simp, by simp⟩ | exact kept_step (by assumption) hb3 | fail)
    (first
      | (go_at_call 20; refine (Number_any _ _ _ _ _ _ _ _).mono ?_; rw [ifMay_yes _ Hm.out]; (first | rw [Hn.out] | skip); (first | rw [Hk.out] | skip); rintro e' w3 ⟨rfl, hb3⟩))
  rename_i hH
  obtain ⟨hB3, hs3, hc3⟩ := hH
  clear hb3
  have hzb2 : w.heap.size + 2 < w3.heap.size := by { omega }
  have hzb1 : w.heap.size + 1 < w3.heap.size := by { omega }
  have hzb0 : w.heap.size < w3.heap.size := by { omega }
  go_wp2_with (first
    | (go_at_call 8; refine (Next_any _ _ _ _ _ _ _ _).mono ?_; rw [Ho.out]; rintro e' w4 ⟨rfl, hb4⟩; obtain ⟨hc4, hf4⟩ := bcell hb4; have hzc2 : w.heap.size + 2 < w4.heap.size := by { have := hb4.size; omega }; have hzc1 : w.heap.size + 1 < w4.heap.size := by { omega }; have hzc0 : w.heap.size < w4.heap.size := by { omega })
    | (go_at_call 22; refine (awake_any _).mono ?_; rintro e' w5 ⟨rfl, hb5⟩))
  all_goals first
    | (exfalso; have := Hiff.out; omega)
    | (go_ret; exact ⟨rfl, ((btr hB3 hB3.size hb4).alloc (btr hB3 hB3.size hb4).size _).trans (hb5.mono (by have := hB3.size; have := hb4.size; simp; omega))⟩)
    | (go_ret; refine ⟨?_, ((btr hB3 hB3.size hb4).alloc (btr hB3 hB3.size hb4).size _).trans (hb5.mono (by have := hB3.size; have := hb4.size; simp; omega))⟩; go_light; have := Hiff.out; simp; omega)

theorem num_walk (a b c d e x y u v : Int) (w : World) (_ : i64in a ∧ i64in b ∧ i64in c ∧ i64in d ∧ i64in e) (_ : i64in x ∧ i64in y) (_ : i64in u ∧ i64in v) :
    Calls Try.prog 7 #[.agg #[.int .i64 a, .int .i64 b, .int .i64 c, .int .i64 d, .int .i64 e], .agg #[.int .i64 x, .int .i64 y], .agg #[.int .i64 u, .int .i64 v]] w fun e' w' => e' = .returned (.bool true) ∧ Below w.heap.size w w' := by
  cases hm : mayB a b c d e
  · exact num_no a b c d e x y u v w hm
  cases ht : thereB a b x y
  · exact num_yes_out a b c d e x y u v w hm ht
  by_cases hl : x * b + y + 1 = a * b <;> cases hu : thereB a b u v
  · exact num_in_out_last a b c d e x y u v w hm ht hu hl
  · exact num_in_in_last a b c d e x y u v w hm ht hu hl
  · exact num_in_out_next a b c d e x y u v w hm ht hu hl
  · exact num_in_in_next a b c d e x y u v w hm ht hu hl
end Go.Proofs.Ytlkjhdacillkmaa
