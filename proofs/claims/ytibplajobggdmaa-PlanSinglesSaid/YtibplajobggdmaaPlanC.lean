/- Chapter 6's own May: it tells what package plan tells. -/
import Derived.Test.YtibplajobggdmaaPlanB
namespace Go.Proofs.Ytibplajobggdmaa
open Go.ChangeShapes Go.WideShapes Go.ChangeAt Go.RowKit
attribute [local go_sem ↓] Go.wp_at_zero Go.wp_at_succ
set_option linter.unusedSimpArgs false
set_option linter.unusedVariables false

set_option maxRecDepth 100000 in
set_option maxHeartbeats 4000000 in
theorem rpMay_any (a b c d e : Int) (fs : List Flt) (A : Option Addr) (c0 : Nat) (w : World) (h : SlF w w.heap.size A fs) :
    Calls Try.prog 8 #[.agg #[.int .i64 a, .int .i64 b, .int .i64 c, .int .i64 d, .int .i64 e], .slice A fs.length c0] w fun e' w' => e' = .returned (.bool (planMay a b c d e fs)) ∧ Below w.heap.size w w' := by
  cases hm : mayB a b c d e
  · have hr : planMay a b c d e fs = false := planMay_no hm
    rw [hr]
    have Hm := Lib.hid hm
    clear hm hr
    go_enter Try.func8, Try.ntmps8
    go_wp2_with (go_at_call 20; refine (rmay_any _ _ _ _ _ _).mono ?_; rw [Hm.out]; rintro e' w1 ⟨rfl, hb1⟩)
    go_ret
    exact ⟨rfl, below1 hb1⟩
  by_cases hl : 8 < fs.length
  · have hr : planMay a b c d e fs = false := planMay_long hl
    rw [hr]
    have Hm := Lib.hid hm
    clear hm hr
    have g1 : (8 : Int) < (fs.length : Int) := by omega
    go_enter Try.func8, Try.ntmps8
    go_wp2_with (go_at_call 20; refine (rmay_any _ _ _ _ _ _).mono ?_; rw [Hm.out]; rintro e' w1 ⟨rfl, hb1⟩)
    go_ret
    exact ⟨rfl, below1 hb1⟩
  have hr : planMay a b c d e fs = preB a fs fs.length := planMay_pre hm (by omega)
  rw [hr]
  have Hm := Lib.hid hm
  clear hm hr
  have g1 : ¬ (8 : Int) < (fs.length : Int) := by omega
  have h0 := h.next ((Below.refl _ _).alloc (Nat.le_refl _) (.cells #[.int .i64 a, .int .i64 b, .int .i64 c, .int .i64 d, .int .i64 e] 23))
  have hG0 : Blk (w.alloc (.cells #[.int .i64 a, .int .i64 b, .int .i64 c, .int .i64 d, .int .i64 e] 23)) w.heap.size 23 #[.int .i64 a, .int .i64 b, .int .i64 c, .int .i64 d, .int .i64 e] := Blk.new_ w _ _
  go_enter Try.func8, Try.ntmps8
  go_wp2_with (go_at_call 20; refine (rmay_any _ _ _ _ _ _).mono ?_; rw [Hm.out]; rintro e' w1 ⟨rfl, hb1⟩; have H1 := h0.next hb1; have HG := hG0.below hb1 (by simp); have HB := below1 hb1; have hz1 : w.heap.size < w1.heap.size := (by { have := hb1.size; simp at this; omega }); clear hb1 h0 hG0)
  go_loopw [5, 6, 7] (fun i _ _ wr => ∃ k : Nat, k ≤ fs.length ∧ i = .int .i64 k ∧ Hid (preB a fs k = true) ∧ Below w1.heap.size w1 wr) (fun i _ _ _ => fs.length - (intOf i).toNat)
  case atStart => exact ⟨0, Nat.zero_le _, rfl, Lib.hid rfl, Below.refl _ _⟩
  case round =>
    obtain ⟨k, hk, rfl, H0, hBr⟩ := hrel
    have HBr := btr HB HB.size hBr
    by_cases hlt : k < fs.length
    · obtain ⟨b1, o1, rfl, l1, q1⟩ := (H1.below hBr).at_ (by omega)
      obtain ⟨x1, x2, x3⟩ := q1 k fs[k] (by simp [hlt])
      obtain ⟨f, hf⟩ : ∃ f, fs[k] = f := ⟨_, rfl⟩
      rw [hf] at x1 x2 x3
      have hsz := hBr.size
      have hg := HG.below hBr hz1
      have y0 := hg.cell_ 0
      simp at y0
      have l1' : b1 < wr.heap.size := by omega
      have l2' : w.heap.size < wr.heap.size := by omega
      have hs := preB_succ (a := a) hlt hf H0.out
      have HF := Lib.hid hf
      have HS := Lib.hid hs
      clear q1 hf hs hg
      have i0 : (0 : Int) ≤ (k : Int) := by omega
      have i2 : (k : Int) < (fs.length : Int) := by omega
      rcases (by cases hq : (decide (f.blk < 0) : Bool) <;> simp : (decide (f.blk < 0) : Bool) = true ∨ (decide (f.blk < 0) : Bool) = false) with t1 | t1
      · have hm : mayF a f = false := by unfold mayF; rw [t1]; rfl
        have hn : preB a fs (k + 1) = false := by rw [HS.out, hm]; rfl
        have HR := Lib.hid (preB_stop a fs hn fs.length (by omega))
        clear hm hn
        go_wp2
        go_ret
        exact ⟨ret_bool HR.out.symm, HBr.alloc (by omega) _⟩
      · rcases (by cases hq : (decide (a ≤ f.blk) : Bool) <;> simp : (decide (a ≤ f.blk) : Bool) = true ∨ (decide (a ≤ f.blk) : Bool) = false) with t2 | t2
        · have hm : mayF a f = false := by unfold mayF; rw [t1, t2]; rfl
          have hn : preB a fs (k + 1) = false := by rw [HS.out, hm]; rfl
          have HR := Lib.hid (preB_stop a fs hn fs.length (by omega))
          clear hm hn
          go_wp2
          go_ret
          exact ⟨ret_bool HR.out.symm, HBr.alloc (by omega) _⟩
        · rcases (by cases hq : (decide (f.aft < 0) : Bool) <;> simp : (decide (f.aft < 0) : Bool) = true ∨ (decide (f.aft < 0) : Bool) = false) with t3 | t3
          · have hm : mayF a f = false := by unfold mayF; rw [t1, t2, t3]; rfl
            have hn : preB a fs (k + 1) = false := by rw [HS.out, hm]; rfl
            have HR := Lib.hid (preB_stop a fs hn fs.length (by omega))
            clear hm hn
            go_wp2
            go_ret
            exact ⟨ret_bool HR.out.symm, HBr.alloc (by omega) _⟩
          · rcases (by cases hq : (decide (1073741824 < f.aft) : Bool) <;> simp : (decide (1073741824 < f.aft) : Bool) = true ∨ (decide (1073741824 < f.aft) : Bool) = false) with t4 | t4
            · have hm : mayF a f = false := by unfold mayF; rw [t1, t2, t3, t4]; rfl
              have hn : preB a fs (k + 1) = false := by rw [HS.out, hm]; rfl
              have HR := Lib.hid (preB_stop a fs hn fs.length (by omega))
              clear hm hn
              go_wp2
              go_ret
              exact ⟨ret_bool HR.out.symm, HBr.alloc (by omega) _⟩
            · rcases (by cases hq : (f.fac : Bool) <;> simp : f.fac = true ∨ f.fac = false) with t5 | t5
              · rcases (by cases hq : (f.aft == 0 : Bool) <;> simp : (f.aft == 0) = true ∨ (f.aft == 0) = false) with t6 | t6
                · have t7 : (f.aft != 0) = false := by rw [bne, t6]; rfl
                  have hm : mayF a f = true := by unfold mayF; rw [t1, t2, t3, t4, t5, t6]; rfl
                  obtain ⟨wp, rfl⟩ : ∃ wp : World, wp = wr := ⟨_, rfl⟩
                  have hs2 := HS.out.trans (by rw [hm, Bool.true_and] : _ = !namesB (fs.take k) f.blk)
                  have HS2 := Lib.hid hs2
                  clear hm hs2
                  have hBw : Below w.heap.size w (wp.alloc (.cells #[.int .i64 f.blk, .bool true, .int .i64 f.aft] 33)) := HBr.alloc (by omega) _
                  have hBw1 : Below w1.heap.size w1 (wp.alloc (.cells #[.int .i64 f.blk, .bool true, .int .i64 f.aft] 33)) := hBr.alloc (by omega) _
                  go_wp2
                  obtain ⟨wo, hwo⟩ : ∃ wo : World, wo = wp.alloc (.cells #[.int .i64 f.blk, .bool true, .int .i64 f.aft] 33) := ⟨_, rfl⟩
                  have hz2 : wp.heap.size < wo.heap.size := by rw [hwo]; simp
                  have z0 : wo.cell? ⟨wp.heap.size, 0, none⟩ = some (.int .i64 f.blk) := by rw [hwo]; simp
                  rw [← hwo] at hBw hBw1 ⊢
                  clear hwo
                  go_loopw [7] (fun j wq => ∃ m : Nat, m ≤ k ∧ j = .int .i64 m ∧ Hid ((fs.take m).any (fun g => g.blk == f.blk) = false) ∧ Below wo.heap.size wo wq) (fun j _ => k - (intOf j).toNat)
                  case atStart => exact ⟨0, Nat.zero_le _, rfl, Lib.hid (by simp), Below.refl _ _⟩
                  case round =>
                    obtain ⟨m, hmk, rfl, N0, hBq⟩ := hrel
                    have hBq' := btr hBw hBw.size hBq
                    have hBq1 := btr hBw1 hBw1.size hBq
                    by_cases hmlt : m < k
                    · have hml : m < fs.length := by omega
                      obtain ⟨b2, o2, hA2, l2, q2⟩ := (H1.below hBq1).at_ (by omega)
                      cases hA2
                      obtain ⟨v1, v2, v3⟩ := q2 m fs[m] (by simp [hml])
                      obtain ⟨g, hg⟩ : ∃ g, fs[m] = g := ⟨_, rfl⟩
                      rw [hg] at v1 v2 v3
                      have HG2 := Lib.hid hg
                      have u0 := (hBq.cell (p := ⟨wp.heap.size, 0, none⟩) hz2).trans z0
                      have j0 : (0 : Int) ≤ (m : Int) := by omega
                      have j1 : (m : Int) < (fs.length : Int) := by omega
                      clear q2 hg
                      rcases (by cases hq : (g.blk == f.blk : Bool) <;> simp : (g.blk == f.blk) = true ∨ (g.blk == f.blk) = false) with s1 | s1
                      · have hn : preB a fs (k + 1) = false := by
                          rw [HS2.out, namesB, List.any_eq_true.2 ⟨g, by rw [← HG2.out]; exact List.mem_take_iff_getElem.2 ⟨m, by omega, rfl⟩, s1⟩]
                          rfl
                        have HR := Lib.hid (preB_stop a fs hn fs.length (by omega))
                        clear hn
                        go_wp2
                        go_quiet (fail)
                        go_wp2
                        go_ret
                        exact ⟨ret_bool HR.out.symm, below_dn hBq' _⟩
                      · have hr := (any_take (p := fun g => g.blk == f.blk) hml).trans (by rw [N0.out, HG2.out]; simp only [s1, Bool.false_or] : _ = false)
                        have HR := Lib.hid hr
                        clear hr
                        go_wp2
                        go_quiet (fail)
                        go_wp2
                        go_roundw
                        case rel => exact ⟨m + 1, by omega, by go_num, HR, below_dn hBq _⟩
                        case measure => simp [intOf]; omega
                    · have hmk' : m = k := by omega
                      subst hmk'
                      have hn : preB a fs (m + 1) = true := by rw [HS2.out, namesB, N0.out]; rfl
                      have HP := Lib.hid hn
                      clear hn
                      go_wp2
                      go_roundw
                      case rel => exact ⟨m + 1, by omega, by go_num, HP, hBq1⟩
                      case measure => simp [intOf]; omega
                · have t7 : (f.aft != 0) = true := by rw [bne, t6]; rfl
                  have hm : mayF a f = false := by unfold mayF; rw [t1, t2, t3, t4, t5, t6]; rfl
                  have hn : preB a fs (k + 1) = false := by rw [HS.out, hm]; rfl
                  have HR := Lib.hid (preB_stop a fs hn fs.length (by omega))
                  clear hm hn
                  go_wp2
                  go_ret
                  exact ⟨ret_bool HR.out.symm, HBr.alloc (by omega) _⟩
              · have hm : mayF a f = true := by unfold mayF; rw [t1, t2, t3, t4, t5]; rfl
                obtain ⟨wp, rfl⟩ : ∃ wp : World, wp = wr := ⟨_, rfl⟩
                have hs2 := HS.out.trans (by rw [hm, Bool.true_and] : _ = !namesB (fs.take k) f.blk)
                have HS2 := Lib.hid hs2
                clear hm hs2
                have hBw : Below w.heap.size w (wp.alloc (.cells #[.int .i64 f.blk, .bool false, .int .i64 f.aft] 33)) := HBr.alloc (by omega) _
                have hBw1 : Below w1.heap.size w1 (wp.alloc (.cells #[.int .i64 f.blk, .bool false, .int .i64 f.aft] 33)) := hBr.alloc (by omega) _
                go_wp2
                obtain ⟨wo, hwo⟩ : ∃ wo : World, wo = wp.alloc (.cells #[.int .i64 f.blk, .bool false, .int .i64 f.aft] 33) := ⟨_, rfl⟩
                have hz2 : wp.heap.size < wo.heap.size := by rw [hwo]; simp
                have z0 : wo.cell? ⟨wp.heap.size, 0, none⟩ = some (.int .i64 f.blk) := by rw [hwo]; simp
                rw [← hwo] at hBw hBw1 ⊢
                clear hwo
                go_loopw [7] (fun j wq => ∃ m : Nat, m ≤ k ∧ j = .int .i64 m ∧ Hid ((fs.take m).any (fun g => g.blk == f.blk) = false) ∧ Below wo.heap.size wo wq) (fun j _ => k - (intOf j).toNat)
                case atStart => exact ⟨0, Nat.zero_le _, rfl, Lib.hid (by simp), Below.refl _ _⟩
                case round =>
                  obtain ⟨m, hmk, rfl, N0, hBq⟩ := hrel
                  have hBq' := btr hBw hBw.size hBq
                  have hBq1 := btr hBw1 hBw1.size hBq
                  by_cases hmlt : m < k
                  · have hml : m < fs.length := by omega
                    obtain ⟨b2, o2, hA2, l2, q2⟩ := (H1.below hBq1).at_ (by omega)
                    cases hA2
                    obtain ⟨v1, v2, v3⟩ := q2 m fs[m] (by simp [hml])
                    obtain ⟨g, hg⟩ : ∃ g, fs[m] = g := ⟨_, rfl⟩
                    rw [hg] at v1 v2 v3
                    have HG2 := Lib.hid hg
                    have u0 := (hBq.cell (p := ⟨wp.heap.size, 0, none⟩) hz2).trans z0
                    have j0 : (0 : Int) ≤ (m : Int) := by omega
                    have j1 : (m : Int) < (fs.length : Int) := by omega
                    clear q2 hg
                    rcases (by cases hq : (g.blk == f.blk : Bool) <;> simp : (g.blk == f.blk) = true ∨ (g.blk == f.blk) = false) with s1 | s1
                    · have hn : preB a fs (k + 1) = false := by
                        rw [HS2.out, namesB, List.any_eq_true.2 ⟨g, by rw [← HG2.out]; exact List.mem_take_iff_getElem.2 ⟨m, by omega, rfl⟩, s1⟩]
                        rfl
                      have HR := Lib.hid (preB_stop a fs hn fs.length (by omega))
                      clear hn
                      go_wp2
                      go_quiet (fail)
                      go_wp2
                      go_ret
                      exact ⟨ret_bool HR.out.symm, below_dn hBq' _⟩
                    · have hr := (any_take (p := fun g => g.blk == f.blk) hml).trans (by rw [N0.out, HG2.out]; simp only [s1, Bool.false_or] : _ = false)
                      have HR := Lib.hid hr
                      clear hr
                      go_wp2
                      go_quiet (fail)
                      go_wp2
                      go_roundw
                      case rel => exact ⟨m + 1, by omega, by go_num, HR, below_dn hBq _⟩
                      case measure => simp [intOf]; omega
                  · have hmk' : m = k := by omega
                    subst hmk'
                    have hn : preB a fs (m + 1) = true := by rw [HS2.out, namesB, N0.out]; rfl
                    have HP := Lib.hid hn
                    clear hn
                    go_wp2
                    go_roundw
                    case rel => exact ⟨m + 1, by omega, by go_num, HP, hBq1⟩
                    case measure => simp [intOf]; omega
    · go_wp2
      have hr : preB a fs fs.length = true := by
        have hkk : k = fs.length := by omega
        rw [← hkk]
        exact H0.out
      go_ret
      exact ⟨ret_bool hr.symm, HBr⟩

end Go.Proofs.Ytibplajobggdmaa
