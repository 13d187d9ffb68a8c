/- Contracts of package plan and of chapter 6's own answers. -/
import Derived.Test.YtplniojeaodjiaaFlt
import Derived.Test.YtplniojeaodjiaaGeomB
import Derived.Deep.RegionHeld3
import Derived.Deep.DrawnRows
import Derived.Deep.DeepCutAuto
namespace Go.Proofs.Ytplniojeaodjiaa
open Go.ChangeShapes Go.WideShapes Go.ChangeAt Go.RowKit
attribute [local go_sem ↓] Go.wp_at_zero Go.wp_at_succ
set_option linter.unusedSimpArgs false
set_option linter.unusedVariables false

theorem ret_bool {a b : Bool} (h : a = b) : Ending.returned (.bool a) = Ending.returned (.bool b) := by rw [h]

set_option maxHeartbeats 1000000 in
theorem names_any (fs : List Flt) (A : Option Addr) (c : Nat) (b : Int) (w : World) (h : SlF w w.heap.size A fs) (n1 : fs.length ≤ 1000000) :
    Calls Try.prog 64 #[.slice A fs.length c, .int .i64 b] w fun e w' => e = .returned (.bool (namesB fs b)) ∧ Below w.heap.size w w' := by
  go_enter Try.func64, Try.ntmps64
  go_wp2
  go_loopw [9] (fun i wr => ∃ k : Nat, k ≤ fs.length ∧ i = .int .i64 k ∧ Hid ((fs.take k).any (fun f => f.blk == b) = false) ∧ Below w.heap.size w wr) (fun i _ => fs.length - (intOf i).toNat)
  case atStart => exact ⟨0, Nat.zero_le _, rfl, Lib.hid (by simp), Below.refl _ _⟩
  case round =>
    obtain ⟨k, hk, rfl, H0, hBr⟩ := hrel
    by_cases hlt : k < fs.length
    · obtain ⟨b1, o1, rfl, l1, q1⟩ := (h.below hBr).at_ (by omega)
      obtain ⟨x1, x2, x3⟩ := q1 k fs[k] (by simp [hlt])
      obtain ⟨f, hf⟩ : ∃ f, fs[k] = f := ⟨_, rfl⟩
      rw [hf] at x1 x2 x3
      have hsz := hBr.size
      have l1' : b1 < wr.heap.size := by omega
      have HF := Lib.hid hf
      clear q1 hf
      have i0 : (0 : Int) ≤ (k : Int) := by omega
      have i1 : (k : Int) < (fs.length : Int) := by omega
      have HT : (f.blk == b) = true ∨ (f.blk == b) = false := by cases (f.blk == b) <;> simp
      rcases HT with t1 | t1
      · go_wp2
        have hr := any_hit (p := fun f => f.blk == b) hlt (by rw [HF.out]; simp only [t1, Bool.false_or, Bool.or_self])
        go_ret
        exact ⟨ret_bool hr.symm, hBr.alloc hsz _⟩
      · go_wp2
        have hr := (any_take (p := fun f => f.blk == b) hlt).trans (by rw [H0.out, HF.out]; simp only [t1, Bool.false_or, Bool.or_self] : _ = false)
        have HR := Lib.hid hr
        clear hr
        go_roundw
        case rel => exact ⟨k + 1, by omega, by go_num, HR, hBr.alloc hsz _⟩
        case measure => simp [intOf]; omega
    · go_wp2
      have hr : namesB fs b = false := any_end (by omega) H0.out
      go_ret
      exact ⟨ret_bool hr.symm, hBr⟩

set_option maxHeartbeats 1000000 in
theorem Fails_any (fs : List Flt) (A : Option Addr) (c : Nat) (b d : Int) (w : World) (h : SlF w w.heap.size A fs) (n1 : fs.length ≤ 1000000) :
    Calls Try.prog 60 #[.slice A fs.length c, .int .i64 b, .int .i64 d] w fun e w' => e = .returned (.bool (failsB fs b d)) ∧ Below w.heap.size w w' := by
  go_enter Try.func60, Try.ntmps60
  go_wp2
  go_loopw [11] (fun i wr => ∃ k : Nat, k ≤ fs.length ∧ i = .int .i64 k ∧ Hid ((fs.take k).any (fun f => f.blk == b && decide (f.aft ≤ d)) = false) ∧ Below w.heap.size w wr) (fun i _ => fs.length - (intOf i).toNat)
  case atStart => exact ⟨0, Nat.zero_le _, rfl, Lib.hid (by simp), Below.refl _ _⟩
  case round =>
    obtain ⟨k, hk, rfl, H0, hBr⟩ := hrel
    by_cases hlt : k < fs.length
    · obtain ⟨b1, o1, rfl, l1, q1⟩ := (h.below hBr).at_ (by omega)
      obtain ⟨x1, x2, x3⟩ := q1 k fs[k] (by simp [hlt])
      obtain ⟨f, hf⟩ : ∃ f, fs[k] = f := ⟨_, rfl⟩
      rw [hf] at x1 x2 x3
      have hsz := hBr.size
      have l1' : b1 < wr.heap.size := by omega
      have HF := Lib.hid hf
      clear q1 hf
      have i0 : (0 : Int) ≤ (k : Int) := by omega
      have i1 : (k : Int) < (fs.length : Int) := by omega
      have HT : (f.blk == b) = true ∨ (f.blk == b) = false := by cases (f.blk == b) <;> simp
      rcases HT with t1 | t1
      · have HU : decide (f.aft ≤ d) = true ∨ decide (f.aft ≤ d) = false := by cases decide (f.aft ≤ d) <;> simp
        rcases HU with t2 | t2
        · skip
          go_wp2
          have hr := any_hit (p := fun f => f.blk == b && decide (f.aft ≤ d)) hlt (by rw [HF.out]; simp only [t1, t2, Bool.and_self, Bool.and_false, Bool.false_and, Bool.false_or, Bool.or_self, Bool.and_true, Bool.true_and])
          go_ret
          exact ⟨ret_bool hr.symm, hBr.alloc hsz _⟩
        · skip
          go_wp2
          have hr := (any_take (p := fun f => f.blk == b && decide (f.aft ≤ d)) hlt).trans (by rw [H0.out, HF.out]; simp only [t1, t2, Bool.and_self, Bool.and_false, Bool.false_and, Bool.false_or, Bool.or_self, Bool.and_true, Bool.true_and] : _ = false)
          have HR := Lib.hid hr
          clear hr
          go_roundw
          case rel => exact ⟨k + 1, by omega, by go_num, HR, hBr.alloc hsz _⟩
          case measure => simp [intOf]; omega
      · go_wp2
        have hr := (any_take (p := fun f => f.blk == b && decide (f.aft ≤ d)) hlt).trans (by rw [H0.out, HF.out]; simp only [t1, Bool.and_self, Bool.and_false, Bool.false_and, Bool.false_or, Bool.or_self, Bool.and_true, Bool.true_and] : _ = false)
        have HR := Lib.hid hr
        clear hr
        go_roundw
        case rel => exact ⟨k + 1, by omega, by go_num, HR, hBr.alloc hsz _⟩
        case measure => simp [intOf]; omega
    · go_wp2
      have hr : failsB fs b d = false := any_end (by omega) H0.out
      go_ret
      exact ⟨ret_bool hr.symm, hBr⟩

set_option maxHeartbeats 1000000 in
theorem Bad_any (fs : List Flt) (A : Option Addr) (c : Nat) (b : Int) (w : World) (h : SlF w w.heap.size A fs) (n1 : fs.length ≤ 1000000) :
    Calls Try.prog 61 #[.slice A fs.length c, .int .i64 b] w fun e w' => e = .returned (.bool (badB fs b)) ∧ Below w.heap.size w w' := by
  go_enter Try.func61, Try.ntmps61
  go_wp2
  go_loopw [9] (fun i wr => ∃ k : Nat, k ≤ fs.length ∧ i = .int .i64 k ∧ Hid ((fs.take k).any (fun f => f.blk == b && f.fac) = false) ∧ Below w.heap.size w wr) (fun i _ => fs.length - (intOf i).toNat)
  case atStart => exact ⟨0, Nat.zero_le _, rfl, Lib.hid (by simp), Below.refl _ _⟩
  case round =>
    obtain ⟨k, hk, rfl, H0, hBr⟩ := hrel
    by_cases hlt : k < fs.length
    · obtain ⟨b1, o1, rfl, l1, q1⟩ := (h.below hBr).at_ (by omega)
      obtain ⟨x1, x2, x3⟩ := q1 k fs[k] (by simp [hlt])
      obtain ⟨f, hf⟩ : ∃ f, fs[k] = f := ⟨_, rfl⟩
      rw [hf] at x1 x2 x3
      have hsz := hBr.size
      have l1' : b1 < wr.heap.size := by omega
      have HF := Lib.hid hf
      clear q1 hf
      have i0 : (0 : Int) ≤ (k : Int) := by omega
      have i1 : (k : Int) < (fs.length : Int) := by omega
      have HT : (f.blk == b) = true ∨ (f.blk == b) = false := by cases (f.blk == b) <;> simp
      rcases HT with t1 | t1
      · have HU : f.fac = true ∨ f.fac = false := by cases f.fac <;> simp
        rcases HU with t2 | t2
        · skip
          go_wp2
          have hr := any_hit (p := fun f => f.blk == b && f.fac) hlt (by rw [HF.out]; simp only [t1, t2, Bool.and_self, Bool.and_false, Bool.false_and, Bool.false_or, Bool.or_self, Bool.and_true, Bool.true_and])
          go_ret
          exact ⟨ret_bool hr.symm, hBr.alloc hsz _⟩
        · skip
          go_wp2
          have hr := (any_take (p := fun f => f.blk == b && f.fac) hlt).trans (by rw [H0.out, HF.out]; simp only [t1, t2, Bool.and_self, Bool.and_false, Bool.false_and, Bool.false_or, Bool.or_self, Bool.and_true, Bool.true_and] : _ = false)
          have HR := Lib.hid hr
          clear hr
          go_roundw
          case rel => exact ⟨k + 1, by omega, by go_num, HR, hBr.alloc hsz _⟩
          case measure => simp [intOf]; omega
      · go_wp2
        have hr := (any_take (p := fun f => f.blk == b && f.fac) hlt).trans (by rw [H0.out, HF.out]; simp only [t1, Bool.and_self, Bool.and_false, Bool.false_and, Bool.false_or, Bool.or_self, Bool.and_true, Bool.true_and] : _ = false)
        have HR := Lib.hid hr
        clear hr
        go_roundw
        case rel => exact ⟨k + 1, by omega, by go_num, HR, hBr.alloc hsz _⟩
        case measure => simp [intOf]; omega
    · go_wp2
      have hr : badB fs b = false := any_end (by omega) H0.out
      go_ret
      exact ⟨ret_bool hr.symm, hBr⟩

set_option maxHeartbeats 1000000 in
theorem rFails_any (fs : List Flt) (A : Option Addr) (c : Nat) (b d : Int) (w : World) (h : SlF w w.heap.size A fs) (n1 : fs.length ≤ 1000000) :
    Calls Try.prog 70 #[.slice A fs.length c, .int .i64 b, .int .i64 d] w fun e w' => e = .returned (.bool (failsB fs b d)) ∧ Below w.heap.size w w' := by
  go_enter Try.func70, Try.ntmps70
  go_wp2
  go_loopw [7] (fun i wr => ∃ k : Nat, k ≤ fs.length ∧ i = .int .i64 k ∧ Hid ((fs.take k).any (fun f => f.blk == b && decide (f.aft ≤ d)) = false) ∧ Below w.heap.size w wr) (fun i _ => fs.length - (intOf i).toNat)
  case atStart => exact ⟨0, Nat.zero_le _, rfl, Lib.hid (by simp), Below.refl _ _⟩
  case round =>
    obtain ⟨k, hk, rfl, H0, hBr⟩ := hrel
    by_cases hlt : k < fs.length
    · obtain ⟨b1, o1, rfl, l1, q1⟩ := (h.below hBr).at_ (by omega)
      obtain ⟨x1, x2, x3⟩ := q1 k fs[k] (by simp [hlt])
      obtain ⟨f, hf⟩ : ∃ f, fs[k] = f := ⟨_, rfl⟩
      rw [hf] at x1 x2 x3
      have hsz := hBr.size
      have l1' : b1 < wr.heap.size := by omega
      have HF := Lib.hid hf
      clear q1 hf
      have i0 : (0 : Int) ≤ (k : Int) := by omega
      have i1 : (k : Int) < (fs.length : Int) := by omega
      have HT : (f.blk == b) = true ∨ (f.blk == b) = false := by cases (f.blk == b) <;> simp
      rcases HT with t1 | t1
      · have HU : decide (f.aft ≤ d) = true ∨ decide (f.aft ≤ d) = false := by cases decide (f.aft ≤ d) <;> simp
        rcases HU with t2 | t2
        · skip
          go_wp2
          have hr := any_hit (p := fun f => f.blk == b && decide (f.aft ≤ d)) hlt (by rw [HF.out]; simp only [t1, t2, Bool.and_self, Bool.and_false, Bool.false_and, Bool.false_or, Bool.or_self, Bool.and_true, Bool.true_and])
          go_ret
          exact ⟨ret_bool hr.symm, hBr⟩
        · skip
          go_wp2
          have hr := (any_take (p := fun f => f.blk == b && decide (f.aft ≤ d)) hlt).trans (by rw [H0.out, HF.out]; simp only [t1, t2, Bool.and_self, Bool.and_false, Bool.false_and, Bool.false_or, Bool.or_self, Bool.and_true, Bool.true_and] : _ = false)
          have HR := Lib.hid hr
          clear hr
          go_roundw
          case rel => exact ⟨k + 1, by omega, by go_num, HR, hBr⟩
          case measure => simp [intOf]; omega
      · go_wp2
        have hr := (any_take (p := fun f => f.blk == b && decide (f.aft ≤ d)) hlt).trans (by rw [H0.out, HF.out]; simp only [t1, Bool.and_self, Bool.and_false, Bool.false_and, Bool.false_or, Bool.or_self, Bool.and_true, Bool.true_and] : _ = false)
        have HR := Lib.hid hr
        clear hr
        go_roundw
        case rel => exact ⟨k + 1, by omega, by go_num, HR, hBr⟩
        case measure => simp [intOf]; omega
    · go_wp2
      have hr : failsB fs b d = false := any_end (by omega) H0.out
      go_ret
      exact ⟨ret_bool hr.symm, hBr⟩

set_option maxHeartbeats 1000000 in
theorem mayFault_any (a b c d e : Int) (f : Flt) (w : World) :
    Calls Try.prog 63 #[.agg #[.int .i64 a, .int .i64 b, .int .i64 c, .int .i64 d, .int .i64 e], .agg #[.int .i64 f.blk, .bool f.fac, .int .i64 f.aft]] w fun e' w' => e' = .returned (.bool (mayF a f)) ∧ Below w.heap.size w w' := by
  have hb : Below w.heap.size w ((w.alloc (.cells #[.int .i64 a, .int .i64 b, .int .i64 c, .int .i64 d, .int .i64 e] 23)).alloc (.cells #[.int .i64 f.blk, .bool f.fac, .int .i64 f.aft] 61)) :=
    ((Below.refl _ _).alloc (Nat.le_refl _) _).alloc (by simp) _
  have HB := Lib.hid hb
  clear hb
  go_enter Try.func63, Try.ntmps63
  rcases (by cases hq : (decide (f.blk < 0) : Bool) <;> simp : (decide (f.blk < 0) : Bool) = true ∨ (decide (f.blk < 0) : Bool) = false) with t1 | t1
  · go_wp2
    go_ret
    exact ⟨ret_bool (by unfold mayF; rw [t1]; rfl), HB.out⟩
  · rcases (by cases hq : (decide (a ≤ f.blk) : Bool) <;> simp : (decide (a ≤ f.blk) : Bool) = true ∨ (decide (a ≤ f.blk) : Bool) = false) with t2 | t2
    · go_wp2
      go_ret
      exact ⟨ret_bool (by unfold mayF; rw [t1, t2]; rfl), HB.out⟩
    · rcases (by cases hq : (decide (f.aft < 0) : Bool) <;> simp : (decide (f.aft < 0) : Bool) = true ∨ (decide (f.aft < 0) : Bool) = false) with t3 | t3
      · go_wp2
        go_ret
        exact ⟨ret_bool (by unfold mayF; rw [t1, t2, t3]; rfl), HB.out⟩
      · rcases (by cases hq : (decide (1073741824 < f.aft) : Bool) <;> simp : (decide (1073741824 < f.aft) : Bool) = true ∨ (decide (1073741824 < f.aft) : Bool) = false) with t4 | t4
        · go_wp2
          go_ret
          exact ⟨ret_bool (by unfold mayF; rw [t1, t2, t3, t4]; rfl), HB.out⟩
        · rcases (by cases hq : (!f.fac : Bool) <;> simp : (!f.fac : Bool) = true ∨ (!f.fac : Bool) = false) with t5 | t5
          · go_wp2
            go_ret
            exact ⟨ret_bool (by unfold mayF; rw [t1, t2, t3, t4, t5]; rfl), HB.out⟩
          · go_wp2
            go_ret
            exact ⟨ret_bool (by unfold mayF; rw [t1, t2, t3, t4, t5]; rfl), HB.out⟩

end Go.Proofs.Ytplniojeaodjiaa
