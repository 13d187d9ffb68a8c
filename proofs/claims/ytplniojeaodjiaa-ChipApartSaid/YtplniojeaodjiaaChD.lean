/- Boot, Arm, Geometry, refusal, page of a chip. -/
import Derived.Test.YtplniojeaodjiaaChC
import Derived.Deep.CutBlock
namespace Go.Proofs.Ytplniojeaodjiaa
open Go.ChangeShapes Go.WideShapes Go.ChangeAt Go.RowKit
set_option linter.unusedSimpArgs false
set_option linter.unusedVariables false
theorem Raw_any (a b c d e : Int) (w : World) :
    Calls Try.prog 34 #[.agg #[.int .i64 a, .int .i64 b, .int .i64 c, .int .i64 d, .int .i64 e]] w fun e' w' => e' = .returned (.int .i64 (ifMay a b c d e (c + 16))) ∧ Below w.heap.size w w' := by
  cases hm : mayB a b c d e
  · rw [ifMay_no _ hm]
    have Hm := Lib.hid hm
    clear hm
    go_enter Try.func34, Try.ntmps34
    go_wp2_with (go_at_call 62; refine (may_any _ _ _ _ _ _).mono ?_; rw [Hm.out]; rintro e' w1 ⟨rfl, hb1⟩)
    go_ret
    exact ⟨rfl, below1 hb1⟩
  · rw [ifMay_yes _ hm]
    obtain ⟨k1, k2, k3, k4, k7, k8, k5, k6, _⟩ := may_bd hm
    have Hm := Lib.hid hm
    clear hm
    go_enter Try.func34, Try.ntmps34
    go_wp2_with (go_at_call 62; refine (may_any _ _ _ _ _ _).mono ?_; rw [Hm.out]; rintro e' w1 ⟨rfl, hb1⟩; obtain ⟨hc1, hf1⟩ := bcell hb1)
    go_ret
    exact ⟨rfl, below1 hb1⟩


def ChS.boot (s : ChS) : ChS := if s.on then s else { s with on := true, armed := false }
def ChS.bootC (s : ChS) : Int := if s.on then 7 else 0
theorem boot_any (m gx gb : Nat) (Af : Option Addr) (nf cf : Nat) (a b c d e : Int) (fs : List Flt) (w : World) (s : ChS) (hC : ChipW w m gx gb Af nf cf a b c d e fs s) : Calls Try.prog 27 #[.pointer (some ⟨m, 0, none⟩)] w fun e' w' => e' = .returned (.int .i64 s.bootC) ∧ ChipW w' m gx gb Af nf cf a b c d e fs s.boot ∧ Tch (chB m gx gb) w w' := by
  obtain ⟨HC⟩ : Nonempty (Hid (ChipW w m gx gb Af nf cf a b c d e fs s)) := ⟨Lib.hid hC⟩
  obtain ⟨⟨cx, cb, NX, NB, hX, hN, hcx, hB⟩, rX, rK, rF, n1, n2, n3, l1, l2, l3, l4⟩ := hC
  have H1 := Lib.hid hX
  have H2 := Lib.hid hN
  clear hX hN rX rK rF l1 l2 l3 l4
  rcases (by cases s.on <;> simp : s.on = true ∨ s.on = false) with ho | ho
  · rw [show s.bootC = 7 by simp [ChS.bootC, ho], show s.boot = s by simp [ChS.boot, ho]]
    rw [ho] at hB
    have y10 := hB.cell_ 10; simp at y10
    clear hB ho
    go_enter Try.func27, Try.ntmps27
    go_wp2_with fail
    go_ret
    exact ⟨rfl, HC.out, Tch.refl _⟩
  · rw [show s.bootC = 0 by simp [ChS.bootC, ho], show s.boot = { s with on := true, armed := false } by simp [ChS.boot, ho]]
    rw [ho] at hB
    have y10 := hB.cell_ 10; simp at y10
    have fm := hB.free
    have Q1 := hB.set_ 10 (.bool true)
    simp at Q1
    have fq := Q1.free
    have k11 := Q1.cell_ 11; simp at k11
    have Q2 := Q1.set_ 11 (.bool false)
    simp at Q2
    have HQ := Lib.hid Q2
    clear hB ho Q1 Q2
    go_enter Try.func27, Try.ntmps27
    go_wp2_with fail
    go_ret
    refine ⟨rfl, HC.out.put { s with on := true, armed := false } H1.out H2.out hcx HQ.out ?_ rfl rfl, tch_m ?_⟩
    all_goals exact (Tch.setm w m 10 (.bool true)).trans (Tch.setm _ m 11 (.bool false))
def armOkB (xo xb : Int) : Bool := decide (1 ≤ xo) && decide (xo ≤ 1073741824) && decide (0 ≤ xb) && decide (xb ≤ 1073741824)
def ChS.arm (s : ChS) (xo xb : Int) (xf : Nat) : ChS := if s.on && armOkB xo xb then { s with armed := true, turn := s.ops + xo, cop := xo, cby := xb, fill := xf } else s
def ChS.armC (s : ChS) (xo xb : Int) : Int := if s.on then (if armOkB xo xb then 0 else 2) else 9
theorem arm_off (m gx gb : Nat) (Af : Option Addr) (nf cf : Nat) (a b c d e : Int) (fs : List Flt) (xo xb : Int) (xf : Nat) (w : World) (s : ChS) (hC : ChipW w m gx gb Af nf cf a b c d e fs s) (ho : s.on = false) : Calls Try.prog 24 #[.pointer (some ⟨m, 0, none⟩), .agg #[.int .i64 xo, .int .i64 xb, .int .u8 (xf : Nat)]] w fun e' w' => e' = .returned (.int .i64 9) ∧ Below w.heap.size w w' := by
  obtain ⟨HC⟩ : Nonempty (Hid (ChipW w m gx gb Af nf cf a b c d e fs s)) := ⟨Lib.hid hC⟩
  obtain ⟨⟨cx, cb, NX, NB, hX, hN, hcx, hB⟩, rX, rK, rF, n1, n2, n3, l1, l2, l3, l4⟩ := hC
  have H1 := Lib.hid hX
  have H2 := Lib.hid hN
  clear hX hN rX rK rF l1 l2 l3 l4
  rw [ho] at hB
  have hB := hB.alloc_ (.cells #[.int .i64 xo, .int .i64 xb, .int .u8 (xf : Nat)] 35)
  have y10 := hB.cell_ 10; simp at y10
  clear hB ho
  go_enter Try.func24, Try.ntmps24
  go_wp2_with fail
  go_ret
  exact ⟨rfl, (Below.refl _ _).alloc (Nat.le_refl _) _⟩
theorem arm_arg (m gx gb : Nat) (Af : Option Addr) (nf cf : Nat) (a b c d e : Int) (fs : List Flt) (xo xb : Int) (xf : Nat) (w : World) (s : ChS) (hC : ChipW w m gx gb Af nf cf a b c d e fs s) (ho : s.on = true) (hx : xo < 1 ∨ (1 ≤ xo ∧ 1073741824 < xo) ∨ (1 ≤ xo ∧ xo ≤ 1073741824 ∧ xb < 0) ∨ (1 ≤ xo ∧ xo ≤ 1073741824 ∧ 0 ≤ xb ∧ 1073741824 < xb)) : Calls Try.prog 24 #[.pointer (some ⟨m, 0, none⟩), .agg #[.int .i64 xo, .int .i64 xb, .int .u8 (xf : Nat)]] w fun e' w' => e' = .returned (.int .i64 2) ∧ Below w.heap.size w w' := by
  obtain ⟨HC⟩ : Nonempty (Hid (ChipW w m gx gb Af nf cf a b c d e fs s)) := ⟨Lib.hid hC⟩
  obtain ⟨⟨cx, cb, NX, NB, hX, hN, hcx, hB⟩, rX, rK, rF, n1, n2, n3, l1, l2, l3, l4⟩ := hC
  have H1 := Lib.hid hX
  have H2 := Lib.hid hN
  clear hX hN rX rK rF l1 l2 l3 l4
  rw [ho] at hB
  have hB := hB.alloc_ (.cells #[.int .i64 xo, .int .i64 xb, .int .u8 (xf : Nat)] 35)
  have y10 := hB.cell_ 10; simp at y10
  clear hB ho
  rcases hx with h1 | ⟨h1, h2⟩ | ⟨h1, h2, h3⟩ | ⟨h1, h2, h3, h4⟩
  all_goals
    go_enter Try.func24, Try.ntmps24
    go_wp2_with fail
    go_ret
    exact ⟨rfl, (Below.refl _ _).alloc (Nat.le_refl _) _⟩
set_option maxHeartbeats 4000000 in
theorem arm_yes (m gx gb : Nat) (Af : Option Addr) (nf cf : Nat) (a b c d e : Int) (fs : List Flt) (xo xb : Int) (xf : Nat) (n : Int) (w : World) (s : ChS) (hC : ChipW w m gx gb Af nf cf a b c d e fs s) (hb : s.Bnd n) (hn : n ≤ 1000000000) (ho : s.on = true) (x1 : 1 ≤ xo) (x2 : xo ≤ 1073741824) (x3 : 0 ≤ xb) (x4 : xb ≤ 1073741824) : Calls Try.prog 24 #[.pointer (some ⟨m, 0, none⟩), .agg #[.int .i64 xo, .int .i64 xb, .int .u8 (xf : Nat)]] w fun e' w' => e' = .returned (.int .i64 0) ∧ ChipW w' m gx gb Af nf cf a b c d e fs { s with armed := true, turn := s.ops + xo, cop := xo, cby := xb, fill := xf } ∧ Tch (chB m gx gb) w w' := by
  obtain ⟨o0, o1, -, -, -, -⟩ := hb
  have HB0 : Below w.heap.size w (w.alloc (.cells #[.int .i64 xo, .int .i64 xb, .int .u8 (xf : Nat)] 35)) := (Below.refl _ _).alloc (Nat.le_refl _) _
  have hmw := hC.lt.1
  have hC := hC.below HB0
  have G1 : Blk (w.alloc (.cells #[.int .i64 xo, .int .i64 xb, .int .u8 (xf : Nat)] 35)) w.heap.size 35 #[.int .i64 xo, .int .i64 xb, .int .u8 (xf : Nat)] := Blk.new_ _ _ _
  obtain ⟨w0, hw0⟩ : ∃ W : World, W = w.alloc (.cells #[.int .i64 xo, .int .i64 xb, .int .u8 (xf : Nat)] 35) := ⟨_, rfl⟩
  obtain ⟨HC⟩ : Nonempty (Hid (ChipW w0 m gx gb Af nf cf a b c d e fs s)) := ⟨Lib.hid (by rw [hw0]; exact hC)⟩
  obtain ⟨⟨cx, cb, NX, NB, hX, hN, hcx, hB⟩, rX, rK, rF, n1, n2, n3, l1, l2, l3, l4⟩ := hC
  have H1 := Lib.hid hX
  have H2 := Lib.hid hN
  clear hX hN rX rK rF l1 l2 l3 l4
  rw [ho] at hB
  have HO := Lib.hid ho
  have hsum : IntKind.i64.wrap (s.ops + xo) = s.ops + xo := wrapS _ (by omega) (by omega)
  rw [← hw0] at hB G1 HB0
  have HW0 := Lib.hid hw0
  have y10 := hB.cell_ 10; have y11 := hB.cell_ 11; simp at y10 y11
  have fm := hB.free
  have hne : w.heap.size ≠ m := by omega
  have Q1 := hB.set_ 11 (.bool true)
  simp at Q1
  have k8 := Q1.cell_ 8; have k12 := Q1.cell_ 12; simp at k8 k12
  have fq1 := Q1.free
  have g0 := G1.cell_ 0; have g1 := G1.cell_ 1; have g2 := G1.cell_ 2; simp at g0 g1 g2
  have P1 := G1.far (p := ⟨m, 11, none⟩) hne (.bool true)
  have p0 := P1.cell_ 0; have p1 := P1.cell_ 1; have p2 := P1.cell_ 2; simp at p0 p1 p2
  have Q2 := Q1.set_ 12 (.int .i64 (s.ops + xo))
  simp at Q2
  have fq2 := Q2.free
  have j8 := Q2.cell_ 8; have j13 := Q2.cell_ 13; have j14 := Q2.cell_ 14; have j15 := Q2.cell_ 15; simp at j8 j13 j14 j15
  have P2 := P1.far (p := ⟨m, 12, none⟩) hne (.int .i64 (s.ops + xo))
  have r0 := P2.cell_ 0; have r1 := P2.cell_ 1; have r2 := P2.cell_ 2; simp at r0 r1 r2
  have Q3 := ((Q2.set_ 13 (.int .i64 xo)).set_ 14 (.int .i64 xb)).set_ 15 (.int .u8 (xf : Nat))
  simp at Q3
  have HQ := Lib.hid Q3
  have d1 : decide (xo < 1) = false := decide_eq_false (by omega)
  have d2 : decide (1073741824 < xo) = false := decide_eq_false (by omega)
  have d3 : decide (xb < 0) = false := decide_eq_false (by omega)
  have d4 : decide (1073741824 < xb) = false := decide_eq_false (by omega)
  have HNE := Lib.hid hne
  have HCX := Lib.hid hcx
  clear hB ho Q1 Q2 Q3 P1 P2 G1 hC x1 x2 x3 x4 o0 o1 hn hne n1 n2 n3 hcx hmw
  go_enter Try.func24, Try.ntmps24
  go_upto_block 0 with fail
  rw [← hw0]
  clear hw0
  go_upto_region 8 with fail
  refine wp_region_noPanic ?_
  refine wp_region_held_drew (S := (fun w' => w'.cell? ⟨m, 8, none⟩ = some (.int .i64 s.ops) ∧ w'.cell? ⟨w.heap.size, 0, none⟩ = some (.int .i64 xo))) (by kernel_rfl) ?_ (fun hHeld => ?_)
  · (first | exact ⟨k8, p0⟩ | exact ⟨j8, r0⟩ | assumption)
  refine wpAnyH_take (i := 0) (oi := { dst := some 36, op := Op.move (Operand.tmp 0), type := 27, pos := "chip.go:192", after := #[], guard := none }) (v := ?_) rfl (by kernel_rfl) (by kernel_rfl) (by kernel_rfl) (fun _ _ _ h => h) (Or.inl ⟨by rfl, ?_⟩) (by assumption) ?_
  rotate_left
  · (intro wS hSw; (try dsimp only at hSw); go_simp; (try with_reducible rfl))
  try simp only [Act.put, List.setIfInBounds_toArray, List.set_cons_zero, List.set_cons_succ]
  refine wpAnyH_take (i := 1) (oi := { dst := some 37, op := Op.move (Operand.tmp 0), type := 27, pos := "chip.go:192", after := #[], guard := none }) (v := ?_) rfl (by kernel_rfl) (by kernel_rfl) (by kernel_rfl) (fun _ _ _ h => h) (Or.inl ⟨by rfl, ?_⟩) (by assumption) ?_
  rotate_left
  · (intro wS hSw; (try dsimp only at hSw); go_simp; (try with_reducible rfl))
  try simp only [Act.put, List.setIfInBounds_toArray, List.set_cons_zero, List.set_cons_succ]
  refine wpAnyH_take (i := 2) (oi := { dst := some 38, op := Op.nilCheck (Operand.tmp 37), type := 0, pos := "chip.go:192", after := #[{ on := 1, ground := Ground.data }], guard := none }) (v := ?_) rfl (by kernel_rfl) (by kernel_rfl) (by kernel_rfl) (fun _ _ _ h => h) (Or.inl ⟨by rfl, ?_⟩) (by assumption) ?_
  rotate_left
  · (intro wS hSw; (try dsimp only at hSw); go_simp; (try with_reducible rfl))
  try simp only [Act.put, List.setIfInBounds_toArray, List.set_cons_zero, List.set_cons_succ]
  refine wpAnyH_take (i := 3) (oi := { dst := some 39, op := Op.fieldAddr 71 (Operand.tmp 38) 4, type := 0, pos := "chip.go:192", after := #[{ on := 2, ground := Ground.data }], guard := none }) (v := ?_) rfl (by kernel_rfl) (by kernel_rfl) (by kernel_rfl) (fun _ _ _ h => h) (Or.inl ⟨by rfl, ?_⟩) (by assumption) ?_
  rotate_left
  · (intro wS hSw; (try dsimp only at hSw); go_simp; (try with_reducible rfl))
  try simp only [Act.put, List.setIfInBounds_toArray, List.set_cons_zero, List.set_cons_succ]
  refine wpAnyH_take (i := 4) (oi := { dst := some 40, op := Op.load 3 (Operand.tmp 39), type := 3, pos := "chip.go:192", after := #[{ on := 3, ground := Ground.data }], guard := none }) (v := ?_) rfl (by kernel_rfl) (by kernel_rfl) (by kernel_rfl) (fun _ _ _ h => h) (Or.inl ⟨by rfl, ?_⟩) (by assumption) ?_
  rotate_left
  · (intro wS hSw; (try dsimp only at hSw); go_simp; (try with_reducible rfl))
  try simp only [Act.put, List.setIfInBounds_toArray, List.set_cons_zero, List.set_cons_succ]
  refine wpAnyH_take (i := 5) (oi := { dst := some 41, op := Op.fieldAddr 35 (Operand.tmp 3) 0, type := 0, pos := "chip.go:192", after := #[], guard := none }) (v := ?_) rfl (by kernel_rfl) (by kernel_rfl) (by kernel_rfl) (fun _ _ _ h => h) (Or.inl ⟨by rfl, ?_⟩) (by assumption) ?_
  rotate_left
  · (intro wS hSw; (try dsimp only at hSw); go_simp; (try with_reducible rfl))
  try simp only [Act.put, List.setIfInBounds_toArray, List.set_cons_zero, List.set_cons_succ]
  refine wpAnyH_take (i := 6) (oi := { dst := some 42, op := Op.load 3 (Operand.tmp 41), type := 3, pos := "chip.go:192", after := #[{ on := 5, ground := Ground.data }], guard := none }) (v := ?_) rfl (by kernel_rfl) (by kernel_rfl) (by kernel_rfl) (fun _ _ _ h => h) (Or.inl ⟨by rfl, ?_⟩) (by assumption) ?_
  rotate_left
  · (intro wS hSw; (try dsimp only at hSw); go_simp; (try with_reducible rfl))
  try simp only [Act.put, List.setIfInBounds_toArray, List.set_cons_zero, List.set_cons_succ]
  refine wpAnyH_take (i := 7) (oi := { dst := some 43, op := Op.binOp BinOp.add 3 (Operand.tmp 40) (Operand.tmp 42) 3, type := 3, pos := "chip.go:192", after := #[{ on := 4, ground := Ground.data }, { on := 6, ground := Ground.data }], guard := none }) (v := ?_) rfl (by kernel_rfl) (by kernel_rfl) (by kernel_rfl) (fun _ _ _ h => h) (Or.inl ⟨by rfl, ?_⟩) (by assumption) ?_
  rotate_left
  · (intro wS hSw; (try dsimp only at hSw); go_simp; (try with_reducible rfl))
  try simp only [Act.put, List.setIfInBounds_toArray, List.set_cons_zero, List.set_cons_succ]
  refine wpAnyH_take (i := 8) (oi := { dst := some 44, op := Op.nilCheck (Operand.tmp 36), type := 0, pos := "chip.go:192", after := #[{ on := 0, ground := Ground.data }, { on := 0, ground := Ground.phase }, { on := 1, ground := Ground.phase }, { on := 2, ground := Ground.phase }, { on := 3, ground := Ground.phase }, { on := 4, ground := Ground.phase }, { on := 5, ground := Ground.phase }, { on := 6, ground := Ground.phase }, { on := 7, ground := Ground.phase }], guard := none }) (v := ?_) rfl (by kernel_rfl) (by kernel_rfl) (by kernel_rfl) (fun _ _ _ h => h) (Or.inl ⟨by rfl, ?_⟩) (by assumption) ?_
  rotate_left
  · (intro wS hSw; (try dsimp only at hSw); go_simp; (try with_reducible rfl))
  try simp only [Act.put, List.setIfInBounds_toArray, List.set_cons_zero, List.set_cons_succ]
  refine wpAnyH_take (i := 9) (oi := { dst := some 45, op := Op.fieldAddr 71 (Operand.tmp 44) 8, type := 0, pos := "chip.go:192", after := #[{ on := 8, ground := Ground.data }, { on := 0, ground := Ground.phase }, { on := 1, ground := Ground.phase }, { on := 2, ground := Ground.phase }, { on := 3, ground := Ground.phase }, { on := 4, ground := Ground.phase }, { on := 5, ground := Ground.phase }, { on := 6, ground := Ground.phase }, { on := 7, ground := Ground.phase }], guard := none }) (v := ?_) rfl (by kernel_rfl) (by kernel_rfl) (by kernel_rfl) (fun _ _ _ h => h) (Or.inl ⟨by rfl, ?_⟩) (by assumption) ?_
  rotate_left
  · (intro wS hSw; (try dsimp only at hSw); go_simp; (try with_reducible rfl))
  try simp only [Act.put, List.setIfInBounds_toArray, List.set_cons_zero, List.set_cons_succ]
  refine wpAnyH_ready (rs := [10]) (by kernel_rfl) (by simp) ?_
  refine AllReadyH.cons (o := { dst := none, op := Op.store 3 (Operand.tmp 45) (Operand.tmp 43), type := 0, pos := "chip.go:192", after := #[{ on := 9, ground := Ground.data }, { on := 7, ground := Ground.data }, { on := 0, ground := Ground.phase }, { on := 1, ground := Ground.phase }, { on := 2, ground := Ground.phase }, { on := 3, ground := Ground.phase }, { on := 4, ground := Ground.phase }, { on := 5, ground := Ground.phase }, { on := 6, ground := Ground.phase }, { on := 7, ground := Ground.phase }], guard := none }) rfl (fun K hK => ?_) AllReadyH.nil
  go_simp
  skip
  refine hK.out _ _ ?_ (fun hNew => ?_)
  · (first | exact ⟨k8, p0⟩ | exact ⟨j8, r0⟩ | assumption)
  clear hK K hHeld
  have hHeld := hNew
  clear hNew
  try simp only [Act.put, List.setIfInBounds_toArray, List.set_cons_zero, List.set_cons_succ]
  refine wpAnyH_done (by kernel_rfl) ?_ _
  refine NoPanic.normal ?_
  go_wp2_with fail
  go_ret
  have HT : Tch (fun g => g = m) w0 _ := ((((Tch.setm w0 m 11 (.bool true)).trans (Tch.setm _ m 12 (.int .i64 (s.ops + xo)))).trans (Tch.setm _ m 13 (.int .i64 xo))).trans (Tch.setm _ m 14 (.int .i64 xb))).trans (Tch.setm _ m 15 (.int .u8 (xf : Nat)))
  have HCC := HC.out.put { s with armed := true, turn := s.ops + xo, cop := xo, cby := xb, fill := xf } H1.out H2.out HCX.out (by rw [show ({ s with armed := true, turn := s.ops + xo, cop := xo, cby := xb, fill := xf } : ChS).on = true from HO.out]; exact HQ.out) HT rfl rfl
  have HTT := (Tch.of_below HB0).trans (tch_m (gx := gx) (gb := gb) HT)
  exact ⟨rfl, HCC.like, HTT.like⟩
end Go.Proofs.Ytplniojeaodjiaa
