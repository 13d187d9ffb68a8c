/- plan.May and chapter 6's own May: they tell the same. -/
import Derived.Test.YtplniojeaodjiaaPlanA
import Derived.Test.YtplniojeaodjiaaGeomR6
namespace Go.Proofs.Ytplniojeaodjiaa
open Go.ChangeShapes Go.WideShapes Go.ChangeAt Go.RowKit
attribute [local go_sem ↓] Go.wp_at_zero Go.wp_at_succ
set_option linter.unusedSimpArgs false
set_option linter.unusedVariables false

def planMay (a b c d e : Int) (fs : List Flt) : Bool := mayB a b c d e && (decide (fs.length ≤ 8) && preB a fs fs.length)

theorem planMay_no {a b c d e : Int} {fs : List Flt} (h : mayB a b c d e = false) : planMay a b c d e fs = false := by unfold planMay; rw [h]; rfl
theorem planMay_long {a b c d e : Int} {fs : List Flt} (h : 8 < fs.length) : planMay a b c d e fs = false := by
  unfold planMay
  rw [decide_eq_false (by omega), Bool.false_and, Bool.and_false]
theorem planMay_pre {a b c d e : Int} {fs : List Flt} (h : mayB a b c d e = true) (hl : fs.length ≤ 8) : planMay a b c d e fs = preB a fs fs.length := by
  unfold planMay
  rw [h, decide_eq_true hl, Bool.true_and, Bool.true_and]
theorem preB_succ {a : Int} {fs : List Flt} {k : Nat} {f : Flt} (hk : k < fs.length) (hf : fs[k] = f) (h0 : preB a fs k = true) : preB a fs (k + 1) = (mayF a f && !namesB (fs.take k) f.blk) := by
  have e : fs.getD k default = f := by simp [hk, hf]
  unfold preB
  rw [h0, e, Bool.true_and]
theorem names_len (fs : List Flt) (k : Nat) (hk : k ≤ fs.length) (A : Option Addr) (c : Nat) (b : Int) (w : World) (h : SlF w w.heap.size A fs) (n1 : fs.length ≤ 1000000) :
    Calls Try.prog 64 #[.slice A k c, .int .i64 b] w fun e w' => e = .returned (.bool (namesB (fs.take k) b)) ∧ Below w.heap.size w w' := by
  have hx := names_any (fs.take k) A c b w (h.take_ k) (by simp; omega)
  rwa [show (fs.take k).length = k by simp; omega] at hx

theorem kept4 {w W wr w' w'' : World} {B : Nat} (h : Below w.heap.size w w' ∧ Below B wr w' ∧ W.heap.size ≤ w'.heap.size ∧ ∀ b o, b < W.heap.size → w'.cell? ⟨b, o, none⟩ = W.cell? ⟨b, o, none⟩) (hB : B ≤ wr.heap.size) (hb : Below w'.heap.size w' w'') :
    Below w.heap.size w w'' ∧ Below B wr w'' ∧ W.heap.size ≤ w''.heap.size ∧ ∀ b o, b < W.heap.size → w''.cell? ⟨b, o, none⟩ = W.cell? ⟨b, o, none⟩ :=
  ⟨btr h.1 h.1.size hb, btr h.2.1 (Nat.le_trans hB h.2.1.size) hb, Nat.le_trans h.2.2.1 hb.size, fun b o hk => (hb.cell (p := ⟨b, o, none⟩) (Nat.lt_of_lt_of_le hk h.2.2.1)).trans (h.2.2.2 b o hk)⟩

set_option maxRecDepth 100000 in
set_option maxHeartbeats 4000000 in
theorem pMay_any (a b c d e : Int) (fs : List Flt) (A : Option Addr) (c0 : Nat) (w : World) (h : SlF w w.heap.size A fs) (hc0 : fs.length ≤ c0) (hc1 : c0 ≤ maxLen) :
    Calls Try.prog 33 #[.agg #[.int .i64 a, .int .i64 b, .int .i64 c, .int .i64 d, .int .i64 e], .slice A fs.length c0] w fun e' w' => e' = .returned (.bool (planMay a b c d e fs)) ∧ Below w.heap.size w w' := by
  unfold maxLen at hc1
  cases hm : mayB a b c d e
  · have hr : planMay a b c d e fs = false := planMay_no hm
    rw [hr]
    have Hm := Lib.hid hm
    clear hm hr
    go_enter Try.func33, Try.ntmps33
    go_wp2_with (go_at_call 62; refine (may_any _ _ _ _ _ _).mono ?_; rw [Hm.out]; rintro e' w1 ⟨rfl, hb1⟩)
    go_ret
    exact ⟨rfl, below1 hb1⟩
  by_cases hl : 8 < fs.length
  · have hr : planMay a b c d e fs = false := planMay_long hl
    rw [hr]
    have Hm := Lib.hid hm
    clear hm hr
    have g1 : (8 : Int) < (fs.length : Int) := by omega
    go_enter Try.func33, Try.ntmps33
    go_wp2_with (go_at_call 62; refine (may_any _ _ _ _ _ _).mono ?_; rw [Hm.out]; rintro e' w1 ⟨rfl, hb1⟩)
    go_ret
    exact ⟨rfl, below1 hb1⟩
  have hr : planMay a b c d e fs = preB a fs fs.length := planMay_pre hm (by omega)
  rw [hr]
  have Hm := Lib.hid hm
  clear hm hr
  have g1 : ¬ (8 : Int) < (fs.length : Int) := by omega
  have n1 : fs.length ≤ 1000000 := by omega
  have h0 := h.next ((Below.refl _ _).alloc (Nat.le_refl _) (.cells #[.int .i64 a, .int .i64 b, .int .i64 c, .int .i64 d, .int .i64 e] 23))
  have hG0 : Blk (w.alloc (.cells #[.int .i64 a, .int .i64 b, .int .i64 c, .int .i64 d, .int .i64 e] 23)) w.heap.size 23 #[.int .i64 a, .int .i64 b, .int .i64 c, .int .i64 d, .int .i64 e] := Blk.new_ w _ _
  go_enter Try.func33, Try.ntmps33
  go_wp2_with (go_at_call 62; refine (may_any _ _ _ _ _ _).mono ?_; rw [Hm.out]; rintro e' w1 ⟨rfl, hb1⟩; have H1 := h0.next hb1; have HG := hG0.below hb1 (by simp); have HB := below1 hb1; have hz1 : w.heap.size < w1.heap.size := (by { have := hb1.size; simp at this; omega }); clear hb1 h0 hG0)
  go_loopw [17] (fun i wr => ∃ k : Nat, k ≤ fs.length ∧ i = .int .i64 k ∧ Hid (preB a fs k = true) ∧ Below w1.heap.size w1 wr) (fun i _ => fs.length - (intOf i).toNat)
  case atStart => exact ⟨0, Nat.zero_le _, rfl, Lib.hid rfl, Below.refl _ _⟩
  case round =>
    obtain ⟨k, hk, rfl, H0, hBr⟩ := hrel
    have HBr := btr HB HB.size hBr
    by_cases hlt : k < fs.length
    · obtain ⟨b1, o1, rfl, l1, q1⟩ := (H1.below hBr).at_ (by omega)
      obtain ⟨x1, x2, x3⟩ := q1 k fs[k] (by simp [hlt])
      obtain ⟨f, hf⟩ : ∃ f, fs[k] = f := ⟨_, rfl⟩
      rw [hf] at x1 x2 x3
      have hsz := hBr.size
      have hg := HG.below hBr hz1
      have y0 := hg.cell_ 0
      have y1 := hg.cell_ 1
      have y2 := hg.cell_ 2
      have y3 := hg.cell_ 3
      have y4 := hg.cell_ 4
      simp at y0 y1 y2 y3 y4
      have l1' : b1 < wr.heap.size := by omega
      have l2' : w.heap.size < wr.heap.size := by omega
      have H1r := H1.next hBr
      have hs := preB_succ (a := a) hlt hf H0.out
      have HF := Lib.hid hf
      have HS := Lib.hid hs
      clear q1 hf hs hg
      have i0 : (0 : Int) ≤ (k : Int) := by omega
      have i1 : (k : Int) ≤ (c0 : Int) := by omega
      have i2 : (k : Int) < (fs.length : Int) := by omega
      have hBw : Below w.heap.size w (wr.alloc (.cells #[.int .i64 f.blk, .bool f.fac, .int .i64 f.aft] 61)) := HBr.alloc (by omega) _
      have hH2 := H1r.next ((Below.refl _ _).alloc (Nat.le_refl _) (.cells #[.int .i64 f.blk, .bool f.fac, .int .i64 f.aft] 61))
      rcases (by cases hq : mayF a f <;> simp : mayF a f = true ∨ mayF a f = false) with t1 | t1
      · have HM := Lib.hid t1
        rcases (by cases hq : namesB (fs.take k) f.blk <;> simp : namesB (fs.take k) f.blk = true ∨ namesB (fs.take k) f.blk = false) with t2 | t2
        · have hn : preB a fs (k + 1) = false := by rw [HS.out, t1, t2]; rfl
          have HN := Lib.hid t2
          have hr := preB_stop a fs hn fs.length (by omega)
          have HR := Lib.hid hr
          clear t1 t2 hn hr
          go_wp2_with fail
          refine wp_region_noPanic ?_
          refine wp_region_held_drew (S := (fun w' => Below w.heap.size w w' ∧ Below w1.heap.size wr w' ∧ (wr.alloc (.cells #[.int .i64 f.blk, .bool f.fac, .int .i64 f.aft] 61)).heap.size ≤ w'.heap.size ∧ ∀ (k o : Nat), k < (wr.alloc (.cells #[.int .i64 f.blk, .bool f.fac, .int .i64 f.aft] 61)).heap.size → w'.cell? ⟨k, o, none⟩ = (wr.alloc (.cells #[.int .i64 f.blk, .bool f.fac, .int .i64 f.aft] 61)).cell? ⟨k, o, none⟩)) (by kernel_rfl) ?_ (fun hHeld => ?_)
          · (first | exact ⟨hBw.drew, ((Below.refl _ _).alloc (by omega) _).drew, by simp, by simp⟩ | exact kept4 (by assumption) hsz hb3)
          refine wpAnyH_take (i := 0) (oi := { dst := some 22, op := Op.load 23 (Operand.tmp 2), type := 23, pos := "plan.go:17", after := #[], guard := none }) (v := ?_) rfl (by kernel_rfl) (by kernel_rfl) (by kernel_rfl) (fun _ _ _ h => h) (Or.inl ⟨by rfl, ?_⟩) (by assumption) ?_
          rotate_left
          · (intro wS hSw; (try dsimp only at hSw); go_simp; (try with_reducible rfl))
          try simp only [Act.put, List.setIfInBounds_toArray, List.set_cons_zero, List.set_cons_succ]
          refine wpAnyH_take (i := 1) (oi := { dst := some 23, op := Op.load 61 (Operand.tmp 6), type := 61, pos := "plan.go:17", after := #[], guard := none }) (v := ?_) rfl (by kernel_rfl) (by kernel_rfl) (by kernel_rfl) (fun _ _ _ h => h) (Or.inl ⟨by rfl, ?_⟩) (by assumption) ?_
          rotate_left
          · (intro wS hSw; (try dsimp only at hSw); go_simp; (try with_reducible rfl))
          try simp only [Act.put, List.setIfInBounds_toArray, List.set_cons_zero, List.set_cons_succ]
          refine wpAnyH_ready (rs := [2]) (by kernel_rfl) (by simp) ?_
          refine AllReadyH.cons (o := { dst := some 24, op := Op.call { callee := Callee.value (Operand.func 63), args := #[Operand.tmp 22, Operand.tmp 23], argTypes := #[23, 61] }, type := 4, pos := "plan.go:17", after := #[{ on := 0, ground := Ground.data }, { on := 1, ground := Ground.data }], guard := none }) rfl (fun K hK => ?_) AllReadyH.nil
          go_simp
          (first
              | (go_at_call 63; refine (mayFault_any a b c d e f _).mono ?_; rw [HM.out]; rintro e' w3 ⟨rfl, hb3⟩)
              | (go_at_call 64; refine (names_len fs k (by omega) _ _ _ _ (hH2.held hHeld.2.2.1 hHeld.2.2.2) n1).mono ?_; rw [HN.out]; rintro e' w3 ⟨rfl, hb3⟩))
          go_wp2_with fail
          refine hK.out _ _ ?_ (fun hNew => ?_)
          · (first | exact ⟨hBw.drew, ((Below.refl _ _).alloc (by omega) _).drew, by simp, by simp⟩ | exact kept4 (by assumption) hsz hb3)
          clear hK K hHeld
          have hHeld := hNew
          clear hNew
          try simp only [Act.put, List.setIfInBounds_toArray, List.set_cons_zero, List.set_cons_succ]
          refine wpAnyH_take (i := 3) (oi := { dst := some 25, op := Op.unOp UnOp.not 4 (Operand.tmp 24), type := 4, pos := "plan.go:17", after := #[{ on := 2, ground := Ground.data }], guard := none }) (v := ?_) rfl (by kernel_rfl) (by kernel_rfl) (by kernel_rfl) (fun _ _ _ h => h) (Or.inl ⟨by rfl, ?_⟩) (by assumption) ?_
          rotate_left
          · (intro wS hSw; (try dsimp only at hSw); go_simp; (try with_reducible rfl))
          try simp only [Act.put, List.setIfInBounds_toArray, List.set_cons_zero, List.set_cons_succ]
          refine wpAnyH_take (i := 4) (oi := { dst := some 26, op := Op.move (Operand.tmp 25), type := 4, pos := "plan.go:17", after := #[{ on := 3, ground := Ground.data }, { on := 2, ground := Ground.chain }], guard := none }) (v := ?_) rfl (by kernel_rfl) (by kernel_rfl) (by kernel_rfl) (fun _ _ _ h => h) (Or.inl ⟨by rfl, ?_⟩) (by assumption) ?_
          rotate_left
          · (intro wS hSw; (try dsimp only at hSw); go_simp; (try with_reducible rfl))
          try simp only [Act.put, List.setIfInBounds_toArray, List.set_cons_zero, List.set_cons_succ]
          refine wpAnyH_take (i := 5) (oi := { dst := some 27, op := Op.move (Operand.tmp 1), type := 24, pos := "plan.go:17", after := #[{ on := 4, ground := Ground.guard }], guard := some (4, false) }) (v := ?_) rfl (by kernel_rfl) (by kernel_rfl) (by kernel_rfl) (fun _ _ _ h => h) (Or.inl ⟨by rfl, ?_⟩) (by assumption) ?_
          rotate_left
          · (intro wS hSw; (try dsimp only at hSw); go_simp; (try with_reducible rfl))
          try simp only [Act.put, List.setIfInBounds_toArray, List.set_cons_zero, List.set_cons_succ]
          refine wpAnyH_take (i := 6) (oi := { dst := some 28, op := Op.move (Operand.tmp 5), type := 3, pos := "plan.go:17", after := #[{ on := 4, ground := Ground.guard }], guard := some (4, false) }) (v := ?_) rfl (by kernel_rfl) (by kernel_rfl) (by kernel_rfl) (fun _ _ _ h => h) (Or.inl ⟨by rfl, ?_⟩) (by assumption) ?_
          rotate_left
          · (intro wS hSw; (try dsimp only at hSw); go_simp; (try with_reducible rfl))
          try simp only [Act.put, List.setIfInBounds_toArray, List.set_cons_zero, List.set_cons_succ]
          refine wpAnyH_take (i := 7) (oi := { dst := some 29, op := Op.slice 24 (Operand.tmp 27) none (some (Operand.tmp 28)) none, type := 24, pos := "plan.go:17", after := #[{ on := 5, ground := Ground.data }, { on := 6, ground := Ground.data }, { on := 4, ground := Ground.guard }], guard := some (4, false) }) (v := ?_) rfl (by kernel_rfl) (by kernel_rfl) (by kernel_rfl) (fun _ _ _ h => h) (Or.inl ⟨by rfl, ?_⟩) (by assumption) ?_
          rotate_left
          · (intro wS hSw; (try dsimp only at hSw); go_simp; (try with_reducible rfl))
          try simp only [Act.put, List.setIfInBounds_toArray, List.set_cons_zero, List.set_cons_succ]
          refine wpAnyH_take (i := 8) (oi := { dst := some 30, op := Op.fieldAddr 61 (Operand.tmp 6) 0, type := 0, pos := "plan.go:17", after := #[{ on := 4, ground := Ground.guard }], guard := some (4, false) }) (v := ?_) rfl (by kernel_rfl) (by kernel_rfl) (by kernel_rfl) (fun _ _ _ h => h) (Or.inl ⟨by rfl, ?_⟩) (by assumption) ?_
          rotate_left
          · (intro wS hSw; (try dsimp only at hSw); go_simp; (try with_reducible rfl))
          try simp only [Act.put, List.setIfInBounds_toArray, List.set_cons_zero, List.set_cons_succ]
          refine wpAnyH_take (i := 9) (oi := { dst := some 31, op := Op.load 3 (Operand.tmp 30), type := 3, pos := "plan.go:17", after := #[{ on := 8, ground := Ground.data }, { on := 4, ground := Ground.guard }], guard := some (4, false) }) (v := ?_) rfl (by kernel_rfl) (by kernel_rfl) (by kernel_rfl) (fun _ _ _ h => h) (Or.inl ⟨by rfl, ?_⟩) (by assumption) ?_
          rotate_left
          · (intro wS hSw; (try dsimp only at hSw); go_simp; (try with_reducible rfl))
          try simp only [Act.put, List.setIfInBounds_toArray, List.set_cons_zero, List.set_cons_succ]
          refine wpAnyH_ready (rs := [10]) (by kernel_rfl) (by simp) ?_
          refine AllReadyH.cons (o := { dst := some 32, op := Op.call { callee := Callee.value (Operand.func 64), args := #[Operand.tmp 29, Operand.tmp 31], argTypes := #[24, 3] }, type := 4, pos := "plan.go:17", after := #[{ on := 7, ground := Ground.data }, { on := 9, ground := Ground.data }, { on := 4, ground := Ground.chain }, { on := 4, ground := Ground.guard }], guard := some (4, false) }) rfl (fun K hK => ?_) AllReadyH.nil
          go_simp
          (first
              | (go_at_call 63; refine (mayFault_any a b c d e f _).mono ?_; rw [HM.out]; rintro e' w3 ⟨rfl, hb3⟩)
              | (go_at_call 64; refine (names_len fs k (by omega) _ _ _ _ (hH2.held hHeld.2.2.1 hHeld.2.2.2) n1).mono ?_; rw [HN.out]; rintro e' w3 ⟨rfl, hb3⟩))
          go_wp2_with fail
          refine hK.out _ _ ?_ (fun hNew => ?_)
          · (first | exact ⟨hBw.drew, ((Below.refl _ _).alloc (by omega) _).drew, by simp, by simp⟩ | exact kept4 (by assumption) hsz hb3)
          clear hK K hHeld
          have hHeld := hNew
          clear hNew
          try simp only [Act.put, List.setIfInBounds_toArray, List.set_cons_zero, List.set_cons_succ]
          refine wpAnyH_take (i := 11) (oi := { dst := some 33, op := Op.pick (Operand.tmp 26) (Operand.const (Value.bool true)) (Operand.tmp 32), type := 4, pos := "plan.go:17", after := #[{ on := 4, ground := Ground.data }, { on := 10, ground := Ground.data }], guard := none }) (v := ?_) rfl (by kernel_rfl) (by kernel_rfl) (by kernel_rfl) (fun _ _ _ h => h) (Or.inl ⟨by rfl, ?_⟩) (by assumption) ?_
          rotate_left
          · (intro wS hSw; (try dsimp only at hSw); go_simp; (try with_reducible rfl))
          try simp only [Act.put, List.setIfInBounds_toArray, List.set_cons_zero, List.set_cons_succ]
          refine wpAnyH_done (by kernel_rfl) ?_ _
          refine NoPanic.normal ?_
          go_wp2
          go_ret
          exact ⟨ret_bool HR.out.symm, hHeld.1⟩
        · have hn : preB a fs (k + 1) = true := by rw [HS.out, t1, t2]; rfl
          have HN := Lib.hid t2
          have HP := Lib.hid hn
          clear t1 t2 hn
          go_wp2_with fail
          refine wp_region_noPanic ?_
          refine wp_region_held_drew (S := (fun w' => Below w.heap.size w w' ∧ Below w1.heap.size wr w' ∧ (wr.alloc (.cells #[.int .i64 f.blk, .bool f.fac, .int .i64 f.aft] 61)).heap.size ≤ w'.heap.size ∧ ∀ (k o : Nat), k < (wr.alloc (.cells #[.int .i64 f.blk, .bool f.fac, .int .i64 f.aft] 61)).heap.size → w'.cell? ⟨k, o, none⟩ = (wr.alloc (.cells #[.int .i64 f.blk, .bool f.fac, .int .i64 f.aft] 61)).cell? ⟨k, o, none⟩)) (by kernel_rfl) ?_ (fun hHeld => ?_)
          · (first | exact ⟨hBw.drew, ((Below.refl _ _).alloc (by omega) _).drew, by simp, by simp⟩ | exact kept4 (by assumption) hsz hb3)
          refine wpAnyH_take (i := 0) (oi := { dst := some 22, op := Op.load 23 (Operand.tmp 2), type := 23, pos := "plan.go:17", after := #[], guard := none }) (v := ?_) rfl (by kernel_rfl) (by kernel_rfl) (by kernel_rfl) (fun _ _ _ h => h) (Or.inl ⟨by rfl, ?_⟩) (by assumption) ?_
          rotate_left
          · (intro wS hSw; (try dsimp only at hSw); go_simp; (try with_reducible rfl))
          try simp only [Act.put, List.setIfInBounds_toArray, List.set_cons_zero, List.set_cons_succ]
          refine wpAnyH_take (i := 1) (oi := { dst := some 23, op := Op.load 61 (Operand.tmp 6), type := 61, pos := "plan.go:17", after := #[], guard := none }) (v := ?_) rfl (by kernel_rfl) (by kernel_rfl) (by kernel_rfl) (fun _ _ _ h => h) (Or.inl ⟨by rfl, ?_⟩) (by assumption) ?_
          rotate_left
          · (intro wS hSw; (try dsimp only at hSw); go_simp; (try with_reducible rfl))
          try simp only [Act.put, List.setIfInBounds_toArray, List.set_cons_zero, List.set_cons_succ]
          refine wpAnyH_ready (rs := [2]) (by kernel_rfl) (by simp) ?_
          refine AllReadyH.cons (o := { dst := some 24, op := Op.call { callee := Callee.value (Operand.func 63), args := #[Operand.tmp 22, Operand.tmp 23], argTypes := #[23, 61] }, type := 4, pos := "plan.go:17", after := #[{ on := 0, ground := Ground.data }, { on := 1, ground := Ground.data }], guard := none }) rfl (fun K hK => ?_) AllReadyH.nil
          go_simp
          (first
              | (go_at_call 63; refine (mayFault_any a b c d e f _).mono ?_; rw [HM.out]; rintro e' w3 ⟨rfl, hb3⟩)
              | (go_at_call 64; refine (names_len fs k (by omega) _ _ _ _ (hH2.held hHeld.2.2.1 hHeld.2.2.2) n1).mono ?_; rw [HN.out]; rintro e' w3 ⟨rfl, hb3⟩))
          go_wp2_with fail
          refine hK.out _ _ ?_ (fun hNew => ?_)
          · (first | exact ⟨hBw.drew, ((Below.refl _ _).alloc (by omega) _).drew, by simp, by simp⟩ | exact kept4 (by assumption) hsz hb3)
          clear hK K hHeld
          have hHeld := hNew
          clear hNew
          try simp only [Act.put, List.setIfInBounds_toArray, List.set_cons_zero, List.set_cons_succ]
          refine wpAnyH_take (i := 3) (oi := { dst := some 25, op := Op.unOp UnOp.not 4 (Operand.tmp 24), type := 4, pos := "plan.go:17", after := #[{ on := 2, ground := Ground.data }], guard := none }) (v := ?_) rfl (by kernel_rfl) (by kernel_rfl) (by kernel_rfl) (fun _ _ _ h => h) (Or.inl ⟨by rfl, ?_⟩) (by assumption) ?_
          rotate_left
          · (intro wS hSw; (try dsimp only at hSw); go_simp; (try with_reducible rfl))
          try simp only [Act.put, List.setIfInBounds_toArray, List.set_cons_zero, List.set_cons_succ]
          refine wpAnyH_take (i := 4) (oi := { dst := some 26, op := Op.move (Operand.tmp 25), type := 4, pos := "plan.go:17", after := #[{ on := 3, ground := Ground.data }, { on := 2, ground := Ground.chain }], guard := none }) (v := ?_) rfl (by kernel_rfl) (by kernel_rfl) (by kernel_rfl) (fun _ _ _ h => h) (Or.inl ⟨by rfl, ?_⟩) (by assumption) ?_
          rotate_left
          · (intro wS hSw; (try dsimp only at hSw); go_simp; (try with_reducible rfl))
          try simp only [Act.put, List.setIfInBounds_toArray, List.set_cons_zero, List.set_cons_succ]
          refine wpAnyH_take (i := 5) (oi := { dst := some 27, op := Op.move (Operand.tmp 1), type := 24, pos := "plan.go:17", after := #[{ on := 4, ground := Ground.guard }], guard := some (4, false) }) (v := ?_) rfl (by kernel_rfl) (by kernel_rfl) (by kernel_rfl) (fun _ _ _ h => h) (Or.inl ⟨by rfl, ?_⟩) (by assumption) ?_
          rotate_left
          · (intro wS hSw; (try dsimp only at hSw); go_simp; (try with_reducible rfl))
          try simp only [Act.put, List.setIfInBounds_toArray, List.set_cons_zero, List.set_cons_succ]
          refine wpAnyH_take (i := 6) (oi := { dst := some 28, op := Op.move (Operand.tmp 5), type := 3, pos := "plan.go:17", after := #[{ on := 4, ground := Ground.guard }], guard := some (4, false) }) (v := ?_) rfl (by kernel_rfl) (by kernel_rfl) (by kernel_rfl) (fun _ _ _ h => h) (Or.inl ⟨by rfl, ?_⟩) (by assumption) ?_
          rotate_left
          · (intro wS hSw; (try dsimp only at hSw); go_simp; (try with_reducible rfl))
          try simp only [Act.put, List.setIfInBounds_toArray, List.set_cons_zero, List.set_cons_succ]
          refine wpAnyH_take (i := 7) (oi := { dst := some 29, op := Op.slice 24 (Operand.tmp 27) none (some (Operand.tmp 28)) none, type := 24, pos := "plan.go:17", after := #[{ on := 5, ground := Ground.data }, { on := 6, ground := Ground.data }, { on := 4, ground := Ground.guard }], guard := some (4, false) }) (v := ?_) rfl (by kernel_rfl) (by kernel_rfl) (by kernel_rfl) (fun _ _ _ h => h) (Or.inl ⟨by rfl, ?_⟩) (by assumption) ?_
          rotate_left
          · (intro wS hSw; (try dsimp only at hSw); go_simp; (try with_reducible rfl))
          try simp only [Act.put, List.setIfInBounds_toArray, List.set_cons_zero, List.set_cons_succ]
          refine wpAnyH_take (i := 8) (oi := { dst := some 30, op := Op.fieldAddr 61 (Operand.tmp 6) 0, type := 0, pos := "plan.go:17", after := #[{ on := 4, ground := Ground.guard }], guard := some (4, false) }) (v := ?_) rfl (by kernel_rfl) (by kernel_rfl) (by kernel_rfl) (fun _ _ _ h => h) (Or.inl ⟨by rfl, ?_⟩) (by assumption) ?_
          rotate_left
          · (intro wS hSw; (try dsimp only at hSw); go_simp; (try with_reducible rfl))
          try simp only [Act.put, List.setIfInBounds_toArray, List.set_cons_zero, List.set_cons_succ]
          refine wpAnyH_take (i := 9) (oi := { dst := some 31, op := Op.load 3 (Operand.tmp 30), type := 3, pos := "plan.go:17", after := #[{ on := 8, ground := Ground.data }, { on := 4, ground := Ground.guard }], guard := some (4, false) }) (v := ?_) rfl (by kernel_rfl) (by kernel_rfl) (by kernel_rfl) (fun _ _ _ h => h) (Or.inl ⟨by rfl, ?_⟩) (by assumption) ?_
          rotate_left
          · (intro wS hSw; (try dsimp only at hSw); go_simp; (try with_reducible rfl))
          try simp only [Act.put, List.setIfInBounds_toArray, List.set_cons_zero, List.set_cons_succ]
          refine wpAnyH_ready (rs := [10]) (by kernel_rfl) (by simp) ?_
          refine AllReadyH.cons (o := { dst := some 32, op := Op.call { callee := Callee.value (Operand.func 64), args := #[Operand.tmp 29, Operand.tmp 31], argTypes := #[24, 3] }, type := 4, pos := "plan.go:17", after := #[{ on := 7, ground := Ground.data }, { on := 9, ground := Ground.data }, { on := 4, ground := Ground.chain }, { on := 4, ground := Ground.guard }], guard := some (4, false) }) rfl (fun K hK => ?_) AllReadyH.nil
          go_simp
          (first
              | (go_at_call 63; refine (mayFault_any a b c d e f _).mono ?_; rw [HM.out]; rintro e' w3 ⟨rfl, hb3⟩)
              | (go_at_call 64; refine (names_len fs k (by omega) _ _ _ _ (hH2.held hHeld.2.2.1 hHeld.2.2.2) n1).mono ?_; rw [HN.out]; rintro e' w3 ⟨rfl, hb3⟩))
          go_wp2_with fail
          refine hK.out _ _ ?_ (fun hNew => ?_)
          · (first | exact ⟨hBw.drew, ((Below.refl _ _).alloc (by omega) _).drew, by simp, by simp⟩ | exact kept4 (by assumption) hsz hb3)
          clear hK K hHeld
          have hHeld := hNew
          clear hNew
          try simp only [Act.put, List.setIfInBounds_toArray, List.set_cons_zero, List.set_cons_succ]
          refine wpAnyH_take (i := 11) (oi := { dst := some 33, op := Op.pick (Operand.tmp 26) (Operand.const (Value.bool true)) (Operand.tmp 32), type := 4, pos := "plan.go:17", after := #[{ on := 4, ground := Ground.data }, { on := 10, ground := Ground.data }], guard := none }) (v := ?_) rfl (by kernel_rfl) (by kernel_rfl) (by kernel_rfl) (fun _ _ _ h => h) (Or.inl ⟨by rfl, ?_⟩) (by assumption) ?_
          rotate_left
          · (intro wS hSw; (try dsimp only at hSw); go_simp; (try with_reducible rfl))
          try simp only [Act.put, List.setIfInBounds_toArray, List.set_cons_zero, List.set_cons_succ]
          refine wpAnyH_done (by kernel_rfl) ?_ _
          refine NoPanic.normal ?_
          go_wp2
          go_roundw
          case rel => exact ⟨k + 1, by omega, by go_num, HP, hBr.trans hHeld.2.1⟩
          case measure => simp [intOf]; omega
      · have HM := Lib.hid t1
        have hn : preB a fs (k + 1) = false := by rw [HS.out, t1]; rfl
        have hr := preB_stop a fs hn fs.length (by omega)
        have HR := Lib.hid hr
        clear t1 hn hr
        go_wp2_with fail
        refine wp_region_noPanic ?_
        refine wp_region_held_drew (S := (fun w' => Below w.heap.size w w' ∧ Below w1.heap.size wr w' ∧ (wr.alloc (.cells #[.int .i64 f.blk, .bool f.fac, .int .i64 f.aft] 61)).heap.size ≤ w'.heap.size ∧ ∀ (k o : Nat), k < (wr.alloc (.cells #[.int .i64 f.blk, .bool f.fac, .int .i64 f.aft] 61)).heap.size → w'.cell? ⟨k, o, none⟩ = (wr.alloc (.cells #[.int .i64 f.blk, .bool f.fac, .int .i64 f.aft] 61)).cell? ⟨k, o, none⟩)) (by kernel_rfl) ?_ (fun hHeld => ?_)
        · (first | exact ⟨hBw.drew, ((Below.refl _ _).alloc (by omega) _).drew, by simp, by simp⟩ | exact kept4 (by assumption) hsz hb3)
        refine wpAnyH_take (i := 0) (oi := { dst := some 22, op := Op.load 23 (Operand.tmp 2), type := 23, pos := "plan.go:17", after := #[], guard := none }) (v := ?_) rfl (by kernel_rfl) (by kernel_rfl) (by kernel_rfl) (fun _ _ _ h => h) (Or.inl ⟨by rfl, ?_⟩) (by assumption) ?_
        rotate_left
        · (intro wS hSw; (try dsimp only at hSw); go_simp; (try with_reducible rfl))
        try simp only [Act.put, List.setIfInBounds_toArray, List.set_cons_zero, List.set_cons_succ]
        refine wpAnyH_take (i := 1) (oi := { dst := some 23, op := Op.load 61 (Operand.tmp 6), type := 61, pos := "plan.go:17", after := #[], guard := none }) (v := ?_) rfl (by kernel_rfl) (by kernel_rfl) (by kernel_rfl) (fun _ _ _ h => h) (Or.inl ⟨by rfl, ?_⟩) (by assumption) ?_
        rotate_left
        · (intro wS hSw; (try dsimp only at hSw); go_simp; (try with_reducible rfl))
        try simp only [Act.put, List.setIfInBounds_toArray, List.set_cons_zero, List.set_cons_succ]
        refine wpAnyH_ready (rs := [2]) (by kernel_rfl) (by simp) ?_
        refine AllReadyH.cons (o := { dst := some 24, op := Op.call { callee := Callee.value (Operand.func 63), args := #[Operand.tmp 22, Operand.tmp 23], argTypes := #[23, 61] }, type := 4, pos := "plan.go:17", after := #[{ on := 0, ground := Ground.data }, { on := 1, ground := Ground.data }], guard := none }) rfl (fun K hK => ?_) AllReadyH.nil
        go_simp
        (first
            | (go_at_call 63; refine (mayFault_any a b c d e f _).mono ?_; rw [HM.out]; rintro e' w3 ⟨rfl, hb3⟩)
            | (go_at_call 64; refine (names_len fs k (by omega) _ _ _ _ (hH2.held hHeld.2.2.1 hHeld.2.2.2) n1).mono ?_; rw [HN.out]; rintro e' w3 ⟨rfl, hb3⟩))
        go_wp2_with fail
        refine hK.out _ _ ?_ (fun hNew => ?_)
        · (first | exact ⟨hBw.drew, ((Below.refl _ _).alloc (by omega) _).drew, by simp, by simp⟩ | exact kept4 (by assumption) hsz hb3)
        clear hK K hHeld
        have hHeld := hNew
        clear hNew
        try simp only [Act.put, List.setIfInBounds_toArray, List.set_cons_zero, List.set_cons_succ]
        refine wpAnyH_take (i := 3) (oi := { dst := some 25, op := Op.unOp UnOp.not 4 (Operand.tmp 24), type := 4, pos := "plan.go:17", after := #[{ on := 2, ground := Ground.data }], guard := none }) (v := ?_) rfl (by kernel_rfl) (by kernel_rfl) (by kernel_rfl) (fun _ _ _ h => h) (Or.inl ⟨by rfl, ?_⟩) (by assumption) ?_
        rotate_left
        · (intro wS hSw; (try dsimp only at hSw); go_simp; (try with_reducible rfl))
        try simp only [Act.put, List.setIfInBounds_toArray, List.set_cons_zero, List.set_cons_succ]
        refine wpAnyH_take (i := 4) (oi := { dst := some 26, op := Op.move (Operand.tmp 25), type := 4, pos := "plan.go:17", after := #[{ on := 3, ground := Ground.data }, { on := 2, ground := Ground.chain }], guard := none }) (v := ?_) rfl (by kernel_rfl) (by kernel_rfl) (by kernel_rfl) (fun _ _ _ h => h) (Or.inl ⟨by rfl, ?_⟩) (by assumption) ?_
        rotate_left
        · (intro wS hSw; (try dsimp only at hSw); go_simp; (try with_reducible rfl))
        try simp only [Act.put, List.setIfInBounds_toArray, List.set_cons_zero, List.set_cons_succ]
        refine wpAnyH_take (i := 5) (oi := { dst := some 27, op := Op.move (Operand.tmp 1), type := 24, pos := "plan.go:17", after := #[{ on := 4, ground := Ground.guard }], guard := some (4, false) }) (v := undef) rfl (by kernel_rfl) (by kernel_rfl) (by kernel_rfl) (fun _ _ _ h => h) (Or.inr ⟨by rfl, rfl⟩) (by assumption) ?_
        try simp only [Act.put, List.setIfInBounds_toArray, List.set_cons_zero, List.set_cons_succ]
        refine wpAnyH_take (i := 6) (oi := { dst := some 28, op := Op.move (Operand.tmp 5), type := 3, pos := "plan.go:17", after := #[{ on := 4, ground := Ground.guard }], guard := some (4, false) }) (v := undef) rfl (by kernel_rfl) (by kernel_rfl) (by kernel_rfl) (fun _ _ _ h => h) (Or.inr ⟨by rfl, rfl⟩) (by assumption) ?_
        try simp only [Act.put, List.setIfInBounds_toArray, List.set_cons_zero, List.set_cons_succ]
        refine wpAnyH_take (i := 7) (oi := { dst := some 29, op := Op.slice 24 (Operand.tmp 27) none (some (Operand.tmp 28)) none, type := 24, pos := "plan.go:17", after := #[{ on := 5, ground := Ground.data }, { on := 6, ground := Ground.data }, { on := 4, ground := Ground.guard }], guard := some (4, false) }) (v := undef) rfl (by kernel_rfl) (by kernel_rfl) (by kernel_rfl) (fun _ _ _ h => h) (Or.inr ⟨by rfl, rfl⟩) (by assumption) ?_
        try simp only [Act.put, List.setIfInBounds_toArray, List.set_cons_zero, List.set_cons_succ]
        refine wpAnyH_take (i := 8) (oi := { dst := some 30, op := Op.fieldAddr 61 (Operand.tmp 6) 0, type := 0, pos := "plan.go:17", after := #[{ on := 4, ground := Ground.guard }], guard := some (4, false) }) (v := undef) rfl (by kernel_rfl) (by kernel_rfl) (by kernel_rfl) (fun _ _ _ h => h) (Or.inr ⟨by rfl, rfl⟩) (by assumption) ?_
        try simp only [Act.put, List.setIfInBounds_toArray, List.set_cons_zero, List.set_cons_succ]
        refine wpAnyH_take (i := 9) (oi := { dst := some 31, op := Op.load 3 (Operand.tmp 30), type := 3, pos := "plan.go:17", after := #[{ on := 8, ground := Ground.data }, { on := 4, ground := Ground.guard }], guard := some (4, false) }) (v := undef) rfl (by kernel_rfl) (by kernel_rfl) (by kernel_rfl) (fun _ _ _ h => h) (Or.inr ⟨by rfl, rfl⟩) (by assumption) ?_
        try simp only [Act.put, List.setIfInBounds_toArray, List.set_cons_zero, List.set_cons_succ]
        refine wpAnyH_take (i := 10) (oi := { dst := some 32, op := Op.call { callee := Callee.value (Operand.func 64), args := #[Operand.tmp 29, Operand.tmp 31], argTypes := #[24, 3] }, type := 4, pos := "plan.go:17", after := #[{ on := 7, ground := Ground.data }, { on := 9, ground := Ground.data }, { on := 4, ground := Ground.chain }, { on := 4, ground := Ground.guard }], guard := some (4, false) }) (v := undef) rfl (by kernel_rfl) (by kernel_rfl) (by kernel_rfl) (fun _ _ _ h => h) (Or.inr ⟨by rfl, rfl⟩) (by assumption) ?_
        try simp only [Act.put, List.setIfInBounds_toArray, List.set_cons_zero, List.set_cons_succ]
        refine wpAnyH_take (i := 11) (oi := { dst := some 33, op := Op.pick (Operand.tmp 26) (Operand.const (Value.bool true)) (Operand.tmp 32), type := 4, pos := "plan.go:17", after := #[{ on := 4, ground := Ground.data }, { on := 10, ground := Ground.data }], guard := none }) (v := ?_) rfl (by kernel_rfl) (by kernel_rfl) (by kernel_rfl) (fun _ _ _ h => h) (Or.inl ⟨by rfl, ?_⟩) (by assumption) ?_
        rotate_left
        · (intro wS hSw; (try dsimp only at hSw); go_simp; (try with_reducible rfl))
        try simp only [Act.put, List.setIfInBounds_toArray, List.set_cons_zero, List.set_cons_succ]
        refine wpAnyH_done (by kernel_rfl) ?_ _
        refine NoPanic.normal ?_
        go_wp2
        go_ret
        exact ⟨ret_bool HR.out.symm, hHeld.1⟩
    · go_wp2
      have hr : preB a fs fs.length = true := by
        have hkk : k = fs.length := by omega
        rw [← hkk]
        exact H0.out
      go_ret
      exact ⟨ret_bool hr.symm, HBr⟩

end Go.Proofs.Ytplniojeaodjiaa
