/- Boot, Arm, Geometry, refusal, page of a chip. -/
import Derived.Test.YtcpniplfkillbaaLt1
import Derived.Deep.CutBlock
import Derived.StillTailTactics
import Derived.Test.YtcpniplfkillbaaChecked
import Derived.WalkKit
import Derived.ProofKit
import Derived.WalkSpells
import Derived.WalkLawsBesides
import Derived.Lib.Hide
import Derived.Outline
import Derived.Deep.RegionHeld3
import Derived.Deep.DrawnRows
import Derived.Deep.DeepCutAuto
set_option linter.unusedSimpArgs false
set_option linter.unusedVariables false
set_option maxRecDepth 100000
set_option maxHeartbeats 16000000
namespace Go.Proofs.Ytcpniplfkillbaa
open Go.ChangeShapes Go.WideShapes Go.ChangeAt Go.RowKit
theorem Raw_any (a b c d e : Int) (w : World) :
    Calls Try.prog 49 #[.agg #[.int .i64 a, .int .i64 b, .int .i64 c, .int .i64 d, .int .i64 e]] w fun e' w' => e' = .returned (.int .i64 (ifMay a b c d e (c + 16))) ∧ Below w.heap.size w w' := by
  cases hm : mayB a b c d e
  · rw [ifMay_no _ hm]
    have Hm := Lib.hid hm
    clear hm
    go_enter Try.func49, Try.ntmps49
    go_wp2_with (go_at_call 71; refine (may_any _ _ _ _ _ _).mono ?_; rw [Hm.out]; rintro e' w1 ⟨rfl, hb1⟩)
    go_ret
    exact ⟨rfl, below1 hb1⟩
  · rw [ifMay_yes _ hm]
    obtain ⟨k1, k2, k3, k4, k7, k8, k5, k6, _⟩ := may_bd hm
    have Hm := Lib.hid hm
    clear hm
    go_enter Try.func49, Try.ntmps49
    go_wp2_with (go_at_call 71; refine (may_any _ _ _ _ _ _).mono ?_; rw [Hm.out]; rintro e' w1 ⟨rfl, hb1⟩; obtain ⟨hc1, hf1⟩ := bcell hb1)
    go_ret
    exact ⟨rfl, below1 hb1⟩
def ChS.boot (s : ChS) : ChS := if s.on then s else { s with on := true, armed := false }
def ChS.bootC (s : ChS) : Int := if s.on then 7 else 0
def armOkB (xo xb : Int) : Bool := decide (1 ≤ xo) && decide (xo ≤ 1073741824) && decide (0 ≤ xb) && decide (xb ≤ 1073741824)
def ChS.arm (s : ChS) (xo xb : Int) (xf : Nat) : ChS := if s.on && armOkB xo xb then { s with armed := true, turn := s.ops + xo, cop := xo, cby := xb, fill := xf } else s
def ChS.armC (s : ChS) (xo xb : Int) : Int := if s.on then (if armOkB xo xb then 0 else 2) else 9
theorem arm_off (m gx gb : Nat) (Af : Option Addr) (nf cf : Nat) (a b c d e : Int) (fs : List Flt) (xo xb : Int) (xf : Nat) (w : World) (s : ChS) (hC : ChipW w m gx gb Af nf cf a b c d e fs s) (ho : s.on = false) : Calls Try.prog 14 #[.pointer (some ⟨m, 0, none⟩), .agg #[.int .i64 xo, .int .i64 xb, .int .u8 (xf : Nat)]] w fun e' w' => e' = .returned (.int .i64 9) ∧ Below w.heap.size w w' := by
  obtain ⟨HC⟩ : Nonempty (Hid (ChipW w m gx gb Af nf cf a b c d e fs s)) := ⟨Lib.hid hC⟩
  obtain ⟨⟨cx, cb, NX, NB, hX, hN, hcx, hB⟩, rX, rK, rF, n1, n2, n3, l1, l2, l3, l4⟩ := hC
  have H1 := Lib.hid hX
  have H2 := Lib.hid hN
  clear hX hN rX rK rF l1 l2 l3 l4
  rw [ho] at hB
  have hB := hB.alloc_ (.cells #[.int .i64 xo, .int .i64 xb, .int .u8 (xf : Nat)] 48)
  have y10 := hB.cell_ 10; simp at y10
  clear hB ho
  go_enter Try.func14, Try.ntmps14
  go_wp2_with fail
  go_ret
  exact ⟨rfl, (Below.refl _ _).alloc (Nat.le_refl _) _⟩
theorem arm_arg (m gx gb : Nat) (Af : Option Addr) (nf cf : Nat) (a b c d e : Int) (fs : List Flt) (xo xb : Int) (xf : Nat) (w : World) (s : ChS) (hC : ChipW w m gx gb Af nf cf a b c d e fs s) (ho : s.on = true) (hx : xo < 1 ∨ (1 ≤ xo ∧ 1073741824 < xo) ∨ (1 ≤ xo ∧ xo ≤ 1073741824 ∧ xb < 0) ∨ (1 ≤ xo ∧ xo ≤ 1073741824 ∧ 0 ≤ xb ∧ 1073741824 < xb)) : Calls Try.prog 14 #[.pointer (some ⟨m, 0, none⟩), .agg #[.int .i64 xo, .int .i64 xb, .int .u8 (xf : Nat)]] w fun e' w' => e' = .returned (.int .i64 2) ∧ Below w.heap.size w w' := by
  obtain ⟨HC⟩ : Nonempty (Hid (ChipW w m gx gb Af nf cf a b c d e fs s)) := ⟨Lib.hid hC⟩
  obtain ⟨⟨cx, cb, NX, NB, hX, hN, hcx, hB⟩, rX, rK, rF, n1, n2, n3, l1, l2, l3, l4⟩ := hC
  have H1 := Lib.hid hX
  have H2 := Lib.hid hN
  clear hX hN rX rK rF l1 l2 l3 l4
  rw [ho] at hB
  have hB := hB.alloc_ (.cells #[.int .i64 xo, .int .i64 xb, .int .u8 (xf : Nat)] 48)
  have y10 := hB.cell_ 10; simp at y10
  clear hB ho
  rcases hx with h1 | ⟨h1, h2⟩ | ⟨h1, h2, h3⟩ | ⟨h1, h2, h3, h4⟩
  all_goals
    go_enter Try.func14, Try.ntmps14
    go_wp2_with fail
    go_ret
    exact ⟨rfl, (Below.refl _ _).alloc (Nat.le_refl _) _⟩
theorem arm_yes (m gx gb : Nat) (Af : Option Addr) (nf cf : Nat) (a b c d e : Int) (fs : List Flt) (xo xb : Int) (xf : Nat) (n : Int) (w : World) (s : ChS) (hC : ChipW w m gx gb Af nf cf a b c d e fs s) (hb : s.Bnd n) (hn : n ≤ 1000000000) (ho : s.on = true) (x1 : 1 ≤ xo) (x2 : xo ≤ 1073741824) (x3 : 0 ≤ xb) (x4 : xb ≤ 1073741824) : Calls Try.prog 14 #[.pointer (some ⟨m, 0, none⟩), .agg #[.int .i64 xo, .int .i64 xb, .int .u8 (xf : Nat)]] w fun e' w' => e' = .returned (.int .i64 0) ∧ ChipW w' m gx gb Af nf cf a b c d e fs { s with armed := true, turn := s.ops + xo, cop := xo, cby := xb, fill := xf } ∧ Tch (chB m gx gb) w w' := by
  obtain ⟨o0, o1, -, -, -, -⟩ := hb
  have HB0 : Below w.heap.size w (w.alloc (.cells #[.int .i64 xo, .int .i64 xb, .int .u8 (xf : Nat)] 48)) := (Below.refl _ _).alloc (Nat.le_refl _) _
  have hmw := hC.lt.1
  have hC := hC.below HB0
  have G1 : Blk (w.alloc (.cells #[.int .i64 xo, .int .i64 xb, .int .u8 (xf : Nat)] 48)) w.heap.size 48 #[.int .i64 xo, .int .i64 xb, .int .u8 (xf : Nat)] := Blk.new_ _ _ _
  obtain ⟨w0, hw0⟩ : ∃ W : World, W = w.alloc (.cells #[.int .i64 xo, .int .i64 xb, .int .u8 (xf : Nat)] 48) := ⟨_, rfl⟩
  obtain ⟨HC⟩ : Nonempty (Hid (ChipW w0 m gx gb Af nf cf a b c d e fs s)) := ⟨Lib.hid (by rw [hw0]; exact hC)⟩
  obtain ⟨⟨cx, cb, NX, NB, hX, hN, hcx, hB⟩, rX, rK, rF, n1, n2, n3, l1, l2, l3, l4⟩ := hC
  have H1 := Lib.hid hX
  have H2 := Lib.hid hN
  clear hX hN rX rK rF l1 l2 l3 l4
  rw [ho] at hB
  have HO := Lib.hid ho
  have hsum : IntKind.i64.wrap (s.ops + xo) = s.ops + xo := wrapS _ (by omega) (by omega)
  rw [← hw0] at hB G1 HB0
  have HW0 := Lib.hid hw0
  have y10 := hB.cell_ 10; have y11 := hB.cell_ 11; simp at y10 y11
  have fm := hB.free
  have hne : w.heap.size ≠ m := by omega
  have Q1 := hB.set_ 11 (.bool true)
  simp at Q1
  have k8 := Q1.cell_ 8; have k12 := Q1.cell_ 12; simp at k8 k12
  have fq1 := Q1.free
  have g0 := G1.cell_ 0; have g1 := G1.cell_ 1; have g2 := G1.cell_ 2; simp at g0 g1 g2
  have P1 := G1.far (p := ⟨m, 11, none⟩) hne (.bool true)
  have p0 := P1.cell_ 0; have p1 := P1.cell_ 1; have p2 := P1.cell_ 2; simp at p0 p1 p2
  have Q2 := Q1.set_ 12 (.int .i64 (s.ops + xo))
  simp at Q2
  have fq2 := Q2.free
  have j8 := Q2.cell_ 8; have j13 := Q2.cell_ 13; have j14 := Q2.cell_ 14; have j15 := Q2.cell_ 15; simp at j8 j13 j14 j15
  have P2 := P1.far (p := ⟨m, 12, none⟩) hne (.int .i64 (s.ops + xo))
  have r0 := P2.cell_ 0; have r1 := P2.cell_ 1; have r2 := P2.cell_ 2; simp at r0 r1 r2
  have Q3 := ((Q2.set_ 13 (.int .i64 xo)).set_ 14 (.int .i64 xb)).set_ 15 (.int .u8 (xf : Nat))
  simp at Q3
  have HQ := Lib.hid Q3
  have d1 : decide (xo < 1) = false := decide_eq_false (by omega)
  have d2 : decide (1073741824 < xo) = false := decide_eq_false (by omega)
  have d3 : decide (xb < 0) = false := decide_eq_false (by omega)
  have d4 : decide (1073741824 < xb) = false := decide_eq_false (by omega)
  have HNE := Lib.hid hne
  have HCX := Lib.hid hcx
  clear hB ho Q1 Q2 Q3 P1 P2 G1 hC x1 x2 x3 x4 o0 o1 hn hne n1 n2 n3 hcx hmw
  go_enter Try.func14, Try.ntmps14
  go_upto_block 0 with fail
  rw [← hw0]
  clear hw0
  go_upto_region 8 with fail
  refine wp_region_noPanic ?_
  refine wp_region_held_drew (S := (fun w' => w'.cell? ⟨m, 8, none⟩ = some (.int .i64 s.ops) ∧ w'.cell? ⟨w.heap.size, 0, none⟩ = some (.int .i64 xo))) (by kernel_rfl) ?_ (fun hHeld => ?_)
  · (first | exact ⟨k8, p0⟩ | exact ⟨j8, r0⟩ | assumption)
  refine tk 0 ⟨some 36, .move (.tmp 0), 29, "chip.go:192", #[], none⟩ ?_; try simp only [Act.put, pz1, pz2, pz3]
  refine tk 1 ⟨some 37, .move (.tmp 0), 29, "chip.go:192", #[], none⟩ ?_; try simp only [Act.put, pz1, pz2, pz3]
  refine tk 2 ⟨some 38, .nilCheck (.tmp 37), 0, "chip.go:192", #[⟨1, .data⟩], none⟩ ?_; try simp only [Act.put, pz1, pz2, pz3]
  refine tk 3 ⟨some 39, .fieldAddr 90 (.tmp 38) 4, 0, "chip.go:192", #[⟨2, .data⟩], none⟩ ?_; try simp only [Act.put, pz1, pz2, pz3]
  refine tk 4 ⟨some 40, .load 3 (.tmp 39), 3, "chip.go:192", #[⟨3, .data⟩], none⟩ ?_; try simp only [Act.put, pz1, pz2, pz3]
  refine tk 5 ⟨some 41, .fieldAddr 48 (.tmp 3) 0, 0, "chip.go:192", #[], none⟩ ?_; try simp only [Act.put, pz1, pz2, pz3]
  refine tk 6 ⟨some 42, .load 3 (.tmp 41), 3, "chip.go:192", #[⟨5, .data⟩], none⟩ ?_; try simp only [Act.put, pz1, pz2, pz3]
  refine tk 7 ⟨some 43, .binOp .add 3 (.tmp 40) (.tmp 42) 3, 3, "chip.go:192", #[⟨4, .data⟩, ⟨6, .data⟩], none⟩ ?_; try simp only [Act.put, pz1, pz2, pz3]
  refine tk 8 ⟨some 44, .nilCheck (.tmp 36), 0, "chip.go:192", #[⟨0, .data⟩, ⟨0, .phase⟩, ⟨1, .phase⟩, ⟨2, .phase⟩, ⟨3, .phase⟩, ⟨4, .phase⟩, ⟨5, .phase⟩, ⟨6, .phase⟩, ⟨7, .phase⟩], none⟩ ?_; try simp only [Act.put, pz1, pz2, pz3]
  refine tk 9 ⟨some 45, .fieldAddr 90 (.tmp 44) 8, 0, "chip.go:192", #[⟨8, .data⟩, ⟨0, .phase⟩, ⟨1, .phase⟩, ⟨2, .phase⟩, ⟨3, .phase⟩, ⟨4, .phase⟩, ⟨5, .phase⟩, ⟨6, .phase⟩, ⟨7, .phase⟩], none⟩ ?_; try simp only [Act.put, pz1, pz2, pz3]
  refine wpAnyH_ready (rs := [10]) (by kernel_rfl) (by simp) ?_
  refine AllReadyH.cons (o := ⟨none, .store 3 (.tmp 45) (.tmp 43), 0, "chip.go:192", #[⟨9, .data⟩, ⟨7, .data⟩, ⟨0, .phase⟩, ⟨1, .phase⟩, ⟨2, .phase⟩, ⟨3, .phase⟩, ⟨4, .phase⟩, ⟨5, .phase⟩, ⟨6, .phase⟩, ⟨7, .phase⟩], none⟩) rfl (fun K hK => ?_) AllReadyH.nil
  go_simp
  skip
  refine hK.out _ _ ?_ (fun hNew => ?_)
  · (first | exact ⟨k8, p0⟩ | exact ⟨j8, r0⟩ | assumption)
  clear hK K hHeld
  have hHeld := hNew
  clear hNew
  try simp only [Act.put, pz1, pz2, pz3]
  refine wpAnyH_done (by kernel_rfl) ?_ _
  refine NoPanic.normal ?_
  go_wp2_with fail
  go_ret
  have HT : Tch (fun g => g = m) w0 _ := ((((Tch.setm w0 m 11 (.bool true)).trans (Tch.setm _ m 12 (.int .i64 (s.ops + xo)))).trans (Tch.setm _ m 13 (.int .i64 xo))).trans (Tch.setm _ m 14 (.int .i64 xb))).trans (Tch.setm _ m 15 (.int .u8 (xf : Nat)))
  have HCC := HC.out.put { s with armed := true, turn := s.ops + xo, cop := xo, cby := xb, fill := xf } H1.out H2.out HCX.out (by rw [show ({ s with armed := true, turn := s.ops + xo, cop := xo, cby := xb, fill := xf } : ChS).on = true from HO.out]; exact HQ.out) HT rfl rfl
  have HTT := (Tch.of_below HB0).trans (tch_m (gx := gx) (gb := gb) HT)
  exact ⟨rfl, HCC.like, HTT.like⟩
end Go.Proofs.Ytcpniplfkillbaa
namespace Go.Proofs.Ytcpniplfkillbaa
open Go.ChangeShapes Go.WideShapes Go.ChangeAt Go.RowKit
def ChS.wrong (s : ChS) (a : Int) (fs : List Flt) (k l : Nat) : Int := if failedB a fs s (k : Int) then 10 else if (l : Int) ≠ s.k (k : Int) 0 then 11 else 0
theorem refusal_any (m gx gb : Nat) (Af : Option Addr) (nf cf : Nat) (a b c d e : Int) (fs : List Flt) (k l : Nat) (w : World) (s : ChS) (hC : ChipW w m gx gb Af nf cf a b c d e fs s) (hk : (k : Int) < a) : Calls Try.prog 56 #[.pointer (some ⟨m, 0, none⟩), .agg #[.int .i64 (k : Int), .int .i64 (l : Int)]] w fun e' w' => e' = .returned (.int .i64 (s.wrong a fs k l)) ∧ Below w.heap.size w w' := by
  have HB0 : Below w.heap.size w (w.alloc (.cells #[.int .i64 (k : Int), .int .i64 (l : Int)] 27)) := (Below.refl _ _).alloc (Nat.le_refl _) _
  have G1 : Blk (w.alloc (.cells #[.int .i64 (k : Int), .int .i64 (l : Int)] 27)) w.heap.size 27 #[.int .i64 (k : Int), .int .i64 (l : Int)] := Blk.new_ _ _ _
  have z0 : (w.alloc (.cells #[.int .i64 (k : Int), .int .i64 (l : Int)] 27)).cell? ⟨w.heap.size, 0, none⟩ = some (.int .i64 (k : Int)) := G1.cell_ 0
  have z1 : (w.alloc (.cells #[.int .i64 (k : Int), .int .i64 (l : Int)] 27)).cell? ⟨w.heap.size, 1, none⟩ = some (.int .i64 (l : Int)) := G1.cell_ 1
  have hC := hC.below HB0
  rcases (by cases hq : failedB a fs s (k : Int) <;> simp : failedB a fs s (k : Int) = true ∨ failedB a fs s (k : Int) = false) with hq | hq
  · rw [show s.wrong a fs k l = 10 by unfold ChS.wrong; rw [hq]; rfl]
    have hfl := Lib.hid hq
    clear hq
    go_enter Try.func56, Try.ntmps56
    go_wp2_with (go_at_call 46; ((with_reducible refine (failed_b _ _ _ _ _ _ _ _ _ _ _ _ _ _ _ _ (by first | exact hC | exact ChipW.drew hC) hfl).mono ?_); rintro e' wN ⟨rfl, hb⟩; (try have hb := undrew hb); replace hC := ChipW.likeB hC hb; replace HB0 := btr HB0 HB0.size hb; replace G1 := G1.below hb G1.lt; clear z0 z1; have z0 := G1.cell_ 0; have z1 := G1.cell_ 1; simp at z0 z1))
    go_ret
    exact ⟨rfl, HB0⟩
  · have hfl := Lib.hid hq
    have hw : s.wrong a fs k l = if (l : Int) ≠ s.k (k : Int) 0 then 11 else 0 := by unfold ChS.wrong; rw [hq]; rfl
    obtain ⟨z, hz⟩ : ∃ z, s.K.getD (3 * k) 0 = z := ⟨_, rfl⟩
    have hkz : s.k (k : Int) 0 = z := by unfold ChS.k; rw [Int.toNat_natCast, Nat.add_zero]; exact hz
    rw [hw, hkz]
    have HZ := Lib.hid hz
    have HK := Lib.hid hk
    clear hq hw hkz hz hk
    rcases (by by_cases h : (l : Int) = z; exact Or.inl h; exact Or.inr h : (l : Int) = z ∨ (l : Int) ≠ z) with hl | hl
    · rw [if_neg (not_not_intro hl)]
      have hlz : ((l : Int) != z) = false := by simp [hl]
      clear hl
      go_enter Try.func56, Try.ntmps56
      go_upto_region 3 with (go_at_call 46; ((with_reducible refine (failed_b _ _ _ _ _ _ _ _ _ _ _ _ _ _ _ _ (by first | exact hC | exact ChipW.drew hC) hfl).mono ?_); rintro e' wN ⟨rfl, hb⟩; (try have hb := undrew hb); replace hC := ChipW.likeB hC hb; replace HB0 := btr HB0 HB0.size hb; replace G1 := G1.below hb G1.lt; clear z0 z1; have z0 := G1.cell_ 0; have z1 := G1.cell_ 1; simp at z0 z1))
      obtain ⟨cx, cb, NX, NB, hNX, hNB, y0, y1, y2, y3, y4, y5, y6, y7, y8, y9, y10, y11, y12, y13, y14, y15, yx, yb, fm, fx, fb⟩ := hC.get
      have cz := yb (3 * k) (by have := hNB.out; have := HK.out; omega)
      rw [HZ.out, Nat.mul_comm] at cz
      have i0 : (0 : Int) ≤ (k : Int) := by omega
      have i1 : (k : Int) < (NB : Int) := by have := hNB.out; have := HK.out; omega
      clear yx yb fm fx fb y0 y1 y2 y3 y4 y5 y6 y8 y9 y10 y11 y12 y13 y14 y15
      refine wp_region_noPanic ?_
      refine wp_region_held_drew (S := (fun w' => w'.cell? ⟨w.heap.size, 0, none⟩ = some (.int .i64 (k : Int)) ∧ w'.cell? ⟨w.heap.size, 1, none⟩ = some (.int .i64 (l : Int)) ∧ w'.cell? ⟨m, 7, none⟩ = some (.slice (some ⟨gb, 0, none⟩) NB cb) ∧ w'.cell? ⟨gb, k * 3, none⟩ = some (.int .i64 z))) (by kernel_rfl) ?_ (fun hHeld => ?_)
      · (first | exact ⟨z0, z1, y7, cz⟩ | assumption)
      refine tk 0 ⟨some 9, .fieldAddr 27 (.tmp 3) 1, 0, "chip.go:135", #[], none⟩ ?_; try simp only [Act.put, pz1, pz2, pz3]
      refine tk 1 ⟨some 10, .load 3 (.tmp 9), 3, "chip.go:135", #[⟨0, .data⟩], none⟩ ?_; try simp only [Act.put, pz1, pz2, pz3]
      refine tk 2 ⟨some 11, .move (.tmp 0), 29, "chip.go:135", #[], none⟩ ?_; try simp only [Act.put, pz1, pz2, pz3]
      refine tk 3 ⟨some 12, .nilCheck (.tmp 11), 0, "chip.go:135", #[⟨2, .data⟩], none⟩ ?_; try simp only [Act.put, pz1, pz2, pz3]
      refine tk 4 ⟨some 13, .fieldAddr 90 (.tmp 12) 3, 0, "chip.go:135", #[⟨3, .data⟩], none⟩ ?_; try simp only [Act.put, pz1, pz2, pz3]
      refine tk 5 ⟨some 14, .load 88 (.tmp 13), 88, "chip.go:135", #[⟨4, .data⟩], none⟩ ?_; try simp only [Act.put, pz1, pz2, pz3]
      refine tk 6 ⟨some 15, .fieldAddr 27 (.tmp 3) 0, 0, "chip.go:135", #[], none⟩ ?_; try simp only [Act.put, pz1, pz2, pz3]
      refine tk 7 ⟨some 16, .load 3 (.tmp 15), 3, "chip.go:135", #[⟨6, .data⟩], none⟩ ?_; try simp only [Act.put, pz1, pz2, pz3]
      refine tk 8 ⟨some 17, .indexAddr 88 (.tmp 14) (.tmp 16), 0, "chip.go:135", #[⟨5, .data⟩, ⟨7, .data⟩], none⟩ ?_; try simp only [Act.put, pz1, pz2, pz3]
      refine tk 9 ⟨some 18, .fieldAddr 117 (.tmp 17) 0, 0, "chip.go:135", #[⟨8, .data⟩], none⟩ ?_; try simp only [Act.put, pz1, pz2, pz3]
      refine tk 10 ⟨some 19, .load 3 (.tmp 18), 3, "chip.go:135", #[⟨9, .data⟩], none⟩ ?_; try simp only [Act.put, pz1, pz2, pz3]
      refine tk 11 ⟨some 20, .binOp .neq 3 (.tmp 10) (.tmp 19) 3, 4, "chip.go:135", #[⟨1, .data⟩, ⟨10, .data⟩], none⟩ ?_; try simp only [Act.put, pz1, pz2, pz3]
      refine wpAnyH_done (by kernel_rfl) ?_ _
      refine NoPanic.normal ?_
      go_wp2_with fail
      go_ret
      exact ⟨rfl, HB0.drew⟩
    · rw [if_pos hl]
      have hlz : ((l : Int) != z) = true := by simp [hl]
      clear hl
      go_enter Try.func56, Try.ntmps56
      go_upto_region 3 with (go_at_call 46; ((with_reducible refine (failed_b _ _ _ _ _ _ _ _ _ _ _ _ _ _ _ _ (by first | exact hC | exact ChipW.drew hC) hfl).mono ?_); rintro e' wN ⟨rfl, hb⟩; (try have hb := undrew hb); replace hC := ChipW.likeB hC hb; replace HB0 := btr HB0 HB0.size hb; replace G1 := G1.below hb G1.lt; clear z0 z1; have z0 := G1.cell_ 0; have z1 := G1.cell_ 1; simp at z0 z1))
      obtain ⟨cx, cb, NX, NB, hNX, hNB, y0, y1, y2, y3, y4, y5, y6, y7, y8, y9, y10, y11, y12, y13, y14, y15, yx, yb, fm, fx, fb⟩ := hC.get
      have cz := yb (3 * k) (by have := hNB.out; have := HK.out; omega)
      rw [HZ.out, Nat.mul_comm] at cz
      have i0 : (0 : Int) ≤ (k : Int) := by omega
      have i1 : (k : Int) < (NB : Int) := by have := hNB.out; have := HK.out; omega
      clear yx yb fm fx fb y0 y1 y2 y3 y4 y5 y6 y8 y9 y10 y11 y12 y13 y14 y15
      refine wp_region_noPanic ?_
      refine wp_region_held_drew (S := (fun w' => w'.cell? ⟨w.heap.size, 0, none⟩ = some (.int .i64 (k : Int)) ∧ w'.cell? ⟨w.heap.size, 1, none⟩ = some (.int .i64 (l : Int)) ∧ w'.cell? ⟨m, 7, none⟩ = some (.slice (some ⟨gb, 0, none⟩) NB cb) ∧ w'.cell? ⟨gb, k * 3, none⟩ = some (.int .i64 z))) (by kernel_rfl) ?_ (fun hHeld => ?_)
      · (first | exact ⟨z0, z1, y7, cz⟩ | assumption)
      refine tk 0 ⟨some 9, .fieldAddr 27 (.tmp 3) 1, 0, "chip.go:135", #[], none⟩ ?_; try simp only [Act.put, pz1, pz2, pz3]
      refine tk 1 ⟨some 10, .load 3 (.tmp 9), 3, "chip.go:135", #[⟨0, .data⟩], none⟩ ?_; try simp only [Act.put, pz1, pz2, pz3]
      refine tk 2 ⟨some 11, .move (.tmp 0), 29, "chip.go:135", #[], none⟩ ?_; try simp only [Act.put, pz1, pz2, pz3]
      refine tk 3 ⟨some 12, .nilCheck (.tmp 11), 0, "chip.go:135", #[⟨2, .data⟩], none⟩ ?_; try simp only [Act.put, pz1, pz2, pz3]
      refine tk 4 ⟨some 13, .fieldAddr 90 (.tmp 12) 3, 0, "chip.go:135", #[⟨3, .data⟩], none⟩ ?_; try simp only [Act.put, pz1, pz2, pz3]
      refine tk 5 ⟨some 14, .load 88 (.tmp 13), 88, "chip.go:135", #[⟨4, .data⟩], none⟩ ?_; try simp only [Act.put, pz1, pz2, pz3]
      refine tk 6 ⟨some 15, .fieldAddr 27 (.tmp 3) 0, 0, "chip.go:135", #[], none⟩ ?_; try simp only [Act.put, pz1, pz2, pz3]
      refine tk 7 ⟨some 16, .load 3 (.tmp 15), 3, "chip.go:135", #[⟨6, .data⟩], none⟩ ?_; try simp only [Act.put, pz1, pz2, pz3]
      refine tk 8 ⟨some 17, .indexAddr 88 (.tmp 14) (.tmp 16), 0, "chip.go:135", #[⟨5, .data⟩, ⟨7, .data⟩], none⟩ ?_; try simp only [Act.put, pz1, pz2, pz3]
      refine tk 9 ⟨some 18, .fieldAddr 117 (.tmp 17) 0, 0, "chip.go:135", #[⟨8, .data⟩], none⟩ ?_; try simp only [Act.put, pz1, pz2, pz3]
      refine tk 10 ⟨some 19, .load 3 (.tmp 18), 3, "chip.go:135", #[⟨9, .data⟩], none⟩ ?_; try simp only [Act.put, pz1, pz2, pz3]
      refine tk 11 ⟨some 20, .binOp .neq 3 (.tmp 10) (.tmp 19) 3, 4, "chip.go:135", #[⟨1, .data⟩, ⟨10, .data⟩], none⟩ ?_; try simp only [Act.put, pz1, pz2, pz3]
      refine wpAnyH_done (by kernel_rfl) ?_ _
      refine NoPanic.normal ?_
      go_wp2_with fail
      go_ret
      exact ⟨rfl, HB0.drew⟩
theorem raw_b (a b c d e : Int) (w : World) (hm : Hid (mayB a b c d e = true)) :
    Calls Try.prog 49 #[.agg #[.int .i64 a, .int .i64 b, .int .i64 c, .int .i64 d, .int .i64 e]] w fun e' w' => e' = .returned (.int .i64 (c + 16)) ∧ Below w.heap.size w w' := by
  have q := Raw_any a b c d e w
  rwa [ifMay_yes _ hm.out] at q
theorem number_yes {a b x y : Int} (h : thereB a b x y = true) : numberI a b x y = x * b + y := by simp [numberI, h]
theorem num_c (a b c d e : Int) (k l n : Nat) (w : World) (hm : Hid (mayB a b c d e = true)) (hn : Hid (numberI a b (k : Int) (l : Int) = (n : Int))) :
    Calls Try.prog 77 #[.agg #[.int .i64 a, .int .i64 b, .int .i64 c, .int .i64 d, .int .i64 e], .agg #[.int .i64 (k : Int), .int .i64 (l : Int)]] w fun e' w' => e' = .returned (.int .i64 (n : Int)) ∧ Below w.heap.size w w' := by
  have q := Number_any a b c d e (k : Int) (l : Int) w
  rwa [ifMay_yes _ hm.out, hn.out] at q
theorem ret_sl {A : Option Addr} {n n' q : Nat} (h : n = n') : Ending.returned (.slice A n q) = .returned (.slice A n' q) := by rw [h]
theorem geo5 {w : World} {m gx gb : Nat} {Af : Option Addr} {nf cf : Nat} {a b c d e : Int} {fs : List Flt} {s : ChS} (h : ChipW w m gx gb Af nf cf a b c d e fs s) : w.cell? ⟨m, 0, none⟩ = some (.int .i64 a) ∧ w.cell? ⟨m, 1, none⟩ = some (.int .i64 b) ∧ w.cell? ⟨m, 2, none⟩ = some (.int .i64 c) ∧ w.cell? ⟨m, 3, none⟩ = some (.int .i64 d) ∧ w.cell? ⟨m, 4, none⟩ = some (.int .i64 e) := by
  obtain ⟨cx, cb, NX, NB, hX, hN, hcx, hB⟩ := h.blk
  exact ⟨hB.cell_ 0, hB.cell_ 1, hB.cell_ 2, hB.cell_ 3, hB.cell_ 4⟩
theorem cells6x {w : World} {m gx gb : Nat} {Af : Option Addr} {nf cf : Nat} {a b c d e : Int} {fs : List Flt} {s : ChS} (h : ChipW w m gx gb Af nf cf a b c d e fs s) : ∃ cx : Nat, s.X.length ≤ cx ∧ w.cell? ⟨m, 6, none⟩ = some (.slice (some ⟨gx, 0, none⟩) s.X.length cx) := by
  obtain ⟨cx, cb, NX, NB, hX, hN, hcx, hB⟩ := h.blk
  subst hX
  exact ⟨cx, hcx, hB.cell_ 6⟩
theorem page_ok {w : World} {m gx gb : Nat} {Af : Option Addr} {nf cf : Nat} {a b c d e : Int} {fs : List Flt} {s : ChS} (hC : ChipW w m gx gb Af nf cf a b c d e fs s) {k l : Nat} (hk : (k : Int) < a) (hl : (l : Int) < b) : ∃ n RW : Nat, numberI a b (k : Int) (l : Int) = (n : Int) ∧ (RW : Int) = c + 16 ∧ n * RW + RW ≤ s.X.length ∧ 40 ≤ RW ∧ RW ≤ 80 ∧ n < 200 ∧ (n : Int) = (k : Int) * b + (l : Int) := by
  obtain ⟨hm, -, -⟩ := planMay_bd hC.may
  obtain ⟨g1, g2, g3, g4, g5, g6, -⟩ := may_bd hm
  have hth : thereB a b (k : Int) (l : Int) = true := by
    unfold thereB withinB
    simp
    omega
  have h1 : (k : Int) * b ≤ (a - 1) * b := Int.mul_le_mul_of_nonneg_right (by omega) (by omega)
  rw [Int.sub_mul] at h1
  have h0 : 0 ≤ (k : Int) * b := Int.mul_nonneg (by omega) (by omega)
  have h2 : a * b ≤ 20 * 8 := Int.mul_le_mul g2 g4 (by omega) (by omega)
  have h3 : ((k : Int) * b + (l : Int) + 1) * (c + 16) ≤ a * b * (c + 16) := Int.mul_le_mul_of_nonneg_right (by omega) (by omega)
  obtain ⟨n, hn⟩ : ∃ n : Nat, (n : Int) = (k : Int) * b + (l : Int) := ⟨((k : Int) * b + (l : Int)).toNat, by omega⟩
  obtain ⟨RW, hR⟩ : ∃ RW : Nat, (RW : Int) = c + 16 := ⟨(c + 16).toNat, by omega⟩
  refine ⟨n, RW, by rw [number_yes hth]; exact hn.symm, hR, ?_, by omega, by omega, by omega, hn⟩
  rw [← hn, ← hR, Int.add_mul, Int.one_mul] at h3
  have h4 : ((n * RW + RW : Nat) : Int) = (n : Int) * (RW : Int) + (RW : Int) := by push_cast; rfl
  rw [hC.lenX, ← hR]
  omega
theorem page_any (m gx gb : Nat) (Af : Option Addr) (nf cf : Nat) (a b c d e : Int) (fs : List Flt) (k l n RW : Nat) (w : World) (s : ChS) (hC : ChipW w m gx gb Af nf cf a b c d e fs s) (hk : (k : Int) < a) (hl : (l : Int) < b) (hnum : Hid (numberI a b (k : Int) (l : Int) = (n : Int))) (hrw : (RW : Int) = c + 16) (hfit : n * RW + RW ≤ s.X.length) (r1 : 40 ≤ RW) (r2 : RW ≤ 80) (hn2 : n < 200) : Calls Try.prog 57 #[.pointer (some ⟨m, 0, none⟩), .agg #[.int .i64 (k : Int), .int .i64 (l : Int)]] w fun e' w' => (∃ q : Nat, RW ≤ q ∧ e' = .returned (.slice (some ⟨gx, n * RW, none⟩) RW q)) ∧ Below w.heap.size w w' := by
  have HB0 : Below w.heap.size w (w.alloc (.cells #[.int .i64 (k : Int), .int .i64 (l : Int)] 27)) := (Below.refl _ _).alloc (Nat.le_refl _) _
  have G1 : Blk (w.alloc (.cells #[.int .i64 (k : Int), .int .i64 (l : Int)] 27)) w.heap.size 27 #[.int .i64 (k : Int), .int .i64 (l : Int)] := Blk.new_ _ _ _
  have z0 : (w.alloc (.cells #[.int .i64 (k : Int), .int .i64 (l : Int)] 27)).cell? ⟨w.heap.size, 0, none⟩ = some (.int .i64 (k : Int)) := G1.cell_ 0
  have z1 : (w.alloc (.cells #[.int .i64 (k : Int), .int .i64 (l : Int)] 27)).cell? ⟨w.heap.size, 1, none⟩ = some (.int .i64 (l : Int)) := G1.cell_ 1
  have hC := hC.below HB0
  have HM := Lib.hid (planMay_bd hC.may).1
  obtain ⟨y0, y1, y2, y3, y4⟩ := geo5 hC
  have hrw' : c + 16 = (RW : Int) := hrw.symm
  have hbd : n * RW ≤ 200 * 80 := Nat.mul_le_mul (by omega) r2
  obtain ⟨F, hF⟩ : ∃ F, n * RW = F := ⟨_, rfl⟩
  have hFi : (n : Int) * (RW : Int) = (F : Int) := by rw [← hF]; push_cast; rfl
  rw [hF] at hfit hbd ⊢
  have hw1 : IntKind.i64.wrap (F : Int) = (F : Int) := wrapS _ (by omega) (by omega)
  have HFIT := Lib.hid hfit
  clear hk hl hrw hF hfit
  go_enter Try.func57, Try.ntmps57
  go_upto_region 2 with (go_at_call 49; ((with_reducible refine (raw_b _ _ _ _ _ _ HM).mono ?_); rintro e' wN ⟨rfl, hb⟩; (try have hb := undrew hb); replace hC := ChipW.likeB hC hb; replace HB0 := btr HB0 HB0.size hb; replace G1 := G1.below hb G1.lt; clear z0 z1 y0 y1 y2 y3 y4; have z0 := G1.cell_ 0; have z1 := G1.cell_ 1; simp at z0 z1; obtain ⟨y0, y1, y2, y3, y4⟩ := geo5 hC))
  refine wp_region_noPanic ?_
  refine wp_region_held_drew (S := (fun w' => w'.cell? ⟨m, 0, none⟩ = some (.int .i64 a) ∧ w'.cell? ⟨m, 1, none⟩ = some (.int .i64 b) ∧ w'.cell? ⟨m, 2, none⟩ = some (.int .i64 c) ∧ w'.cell? ⟨m, 3, none⟩ = some (.int .i64 d) ∧ w'.cell? ⟨m, 4, none⟩ = some (.int .i64 e) ∧ w'.cell? ⟨w.heap.size, 0, none⟩ = some (.int .i64 (k : Int)) ∧ w'.cell? ⟨w.heap.size, 1, none⟩ = some (.int .i64 (l : Int)))) (by kernel_rfl) ?_ (fun hHeld => ?_)
  · (first | exact ⟨y0, y1, y2, y3, y4, z0, z1⟩ | assumption)
  refine tk 0 ⟨some 12, .move (.tmp 0), 29, "chip.go:63", #[], none⟩ ?_; try simp only [Act.put, pz1, pz2, pz3]
  refine tk 1 ⟨some 13, .nilCheck (.tmp 12), 0, "chip.go:63", #[⟨0, .data⟩], none⟩ ?_; try simp only [Act.put, pz1, pz2, pz3]
  refine tk 2 ⟨some 14, .fieldAddr 90 (.tmp 13) 0, 0, "chip.go:63", #[⟨1, .data⟩], none⟩ ?_; try simp only [Act.put, pz1, pz2, pz3]
  refine tk 3 ⟨some 15, .load 23 (.tmp 14), 23, "chip.go:63", #[⟨2, .data⟩], none⟩ ?_; try simp only [Act.put, pz1, pz2, pz3]
  refine tk 4 ⟨some 16, .load 27 (.tmp 3), 27, "chip.go:63", #[], none⟩ ?_; try simp only [Act.put, pz1, pz2, pz3]
  refine tk 6 ⟨some 18, .move (.tmp 5), 3, "chip.go:63", #[], none⟩ ?_; try simp only [Act.put, pz1, pz2, pz3]
  refine wpAnyH_ready (rs := [5]) (by kernel_rfl) (by simp) ?_
  refine AllReadyH.cons (o := ⟨some 17, .call { callee := .value (.func 77), args := #[.tmp 15, .tmp 16], argTypes := #[23, 27] }, 3, "chip.go:63", #[⟨3, .data⟩, ⟨4, .data⟩], none⟩) rfl (fun K hK => ?_) AllReadyH.nil
  go_simp
  (go_at_call 77; ((with_reducible refine (num_c _ _ _ _ _ k l n _ HM hnum).mono ?_); rintro e' wN ⟨rfl, hb⟩; (try have hb := undrew hb); replace hC := ChipW.likeB hC hb; replace HB0 := btr HB0 HB0.size hb; replace G1 := G1.below hb G1.lt; clear z0 z1 y0 y1 y2 y3 y4; have z0 := G1.cell_ 0; have z1 := G1.cell_ 1; simp at z0 z1; obtain ⟨y0, y1, y2, y3, y4⟩ := geo5 hC))
  go_wp2_with fail
  refine hK.out _ _ ?_ (fun hNew => ?_)
  · (first | exact ⟨y0, y1, y2, y3, y4, z0, z1⟩ | assumption)
  clear hK K hHeld
  have hHeld := hNew
  clear hNew
  try simp only [Act.put, pz1, pz2, pz3]
  refine tk 7 ⟨some 19, .binOp .mul 3 (.tmp 17) (.tmp 18) 3, 3, "chip.go:63", #[⟨5, .data⟩, ⟨6, .data⟩], none⟩ ?_; try simp only [Act.put, pz1, pz2, pz3]
  refine tk 8 ⟨some 6, .assign (.tmp 19), 3, "chip.go:63", #[⟨7, .data⟩, ⟨5, .chain⟩, ⟨0, .phase⟩, ⟨1, .phase⟩, ⟨2, .phase⟩, ⟨3, .phase⟩, ⟨4, .phase⟩, ⟨5, .phase⟩, ⟨6, .phase⟩, ⟨7, .phase⟩], none⟩ ?_; try simp only [Act.put, pz1, pz2, pz3]
  refine wpAnyH_done (by kernel_rfl) ?_ _
  refine NoPanic.normal ?_
  obtain ⟨cx, hcx, y6⟩ := cells6x hC
  have hcx2 := HFIT.out
  obtain ⟨NX, hNX⟩ : ∃ NX, s.X.length = NX := ⟨_, rfl⟩
  rw [hNX] at y6 hcx hcx2
  clear hNX
  have f0 : (0 : Int) ≤ (F : Int) := by omega
  have f1 : F + RW ≤ cx := by omega
  have f2 : ¬ cx = F := by omega
  have f3 : (F : Int) + (RW : Int) ≤ (cx : Int) := by omega
  have f4 : (0 : Int) ≤ (RW : Int) := by omega
  go_wp2_with fail
  go_ret
  exact ⟨⟨cx - F, by omega, ret_sl (Nat.add_sub_cancel_left F RW)⟩, (by first | exact HB0 | exact HB0.drew)⟩
end Go.Proofs.Ytcpniplfkillbaa
namespace Go.Proofs.Ytcpniplfkillbaa
open Go.ChangeShapes Go.WideShapes Go.ChangeAt Go.RowKit
theorem slB_not_nil (a : Addr) (n c : Nat) (w : World) : (binOp BinOp.eql 38 (.slice (some a) n c) (.slice none 0 0)).run Try.prog w = .ok (.bool false) w := by kernel_rfl
theorem own_emptyB (w : World) (e : TypeId) : (w.alloc (.cells #[] e)).ownsRow w.heap.size e 1 (.slice (some ⟨w.heap.size, 0, none⟩) 0 0) 0 [] :=
  ⟨by simp, Or.inr ⟨w.heap.size, 0, #[], rfl, Nat.le_refl _, heap_alloc_new w _, by omega, by unfold maxLen; omega, by simp, by simp⟩⟩
theorem own_rowT {w : World} {base n : Nat} {t : TypeId} {v : Value} {xs : List Value} (h : w.ownsRow base t 1 v n xs) (hn : 1 ≤ n) : ∃ g c, v = .slice (some ⟨g, 0, none⟩) n c ∧ RowT w g t xs ∧ base ≤ g := by
  obtain ⟨hl, h'⟩ := h
  rcases h' with ⟨_, h0⟩ | ⟨g, cap, cur, rfl, hb, hh, hnc, _, hsz, ht⟩
  · rw [h0] at hl
    simp at hl
    omega
  · refine ⟨g, cap, rfl, ⟨cur.toList.drop (n * 1), ?_⟩, hb⟩
    unfold Blk
    rw [← ht, List.take_append_drop]
    exact hh
end Go.Proofs.Ytcpniplfkillbaa
namespace Go.Proofs.Ytcpniplfkillbaa
open Go.ChangeShapes Go.WideShapes Go.ChangeAt Go.RowKit
theorem cell10 {w : World} {m gx gb : Nat} {Af : Option Addr} {nf cf : Nat} {a b c d e : Int} {fs : List Flt} {s : ChS} (h : ChipW w m gx gb Af nf cf a b c d e fs s) : w.cell? ⟨m, 10, none⟩ = some (.bool s.on) := by
  obtain ⟨cx, cb, NX, NB, hX, hN, hcx, hB⟩ := h.blk
  exact hB.cell_ 10
theorem begin_b (m gx gb : Nat) (Af : Option Addr) (nf cf : Nat) (a b c d e : Int) (fs : List Flt) (n : Int) (T : Bool) (w : World) (s : ChS) (hC : ChipW w m gx gb Af nf cf a b c d e fs s) (hb : s.Bnd n) (hn : n ≤ 1000000000) (hcu : Hid (s.cutB = T)) : Calls Try.prog 45 #[.pointer (some ⟨m, 0, none⟩)] w fun e' w' => e' = .returned (.bool T) ∧ ChipW w' m gx gb Af nf cf a b c d e fs s.tick ∧ Tch (chB m gx gb) w w' := by
  have := begin_any m gx gb Af nf cf a b c d e fs n w s hC hb hn
  rwa [hcu.out] at this
theorem tick_X (s : ChS) : s.tick.X = s.X := by unfold ChS.tick; split <;> rfl
theorem tick_K (s : ChS) : s.tick.K = s.K := by unfold ChS.tick; split <;> rfl
def ChS.pageOf (s : ChS) (n RW : Nat) : List Nat := (s.X.drop (n * RW)).take RW
theorem chip_rd {w : World} {m gx gb : Nat} {Af : Option Addr} {nf cf : Nat} {a b c d e : Int} {fs : List Flt} {s : ChS} (h : ChipW w m gx gb Af nf cf a b c d e fs s) {n RW : Nat} (hf : n * RW + RW ≤ s.X.length) : Rd w (some ⟨gx, n * RW, none⟩) RW 1 ((s.pageOf n RW).map byteV) := by
  refine ⟨by simp [ChS.pageOf]; omega, Or.inr ⟨gx, n * RW, rfl, fun j u hu => h.rX.cell_ ?_⟩⟩
  rw [List.getElem?_map] at hu ⊢
  unfold ChS.pageOf at hu
  rw [List.getElem?_take] at hu
  split at hu
  · rw [List.getElem?_drop] at hu
    exact hu
  · cases hu
theorem read_off (m gx gb : Nat) (Af : Option Addr) (nf cf : Nat) (a b c d e : Int) (fs : List Flt) (x y : Int) (w : World) (s : ChS) (hC : ChipW w m gx gb Af nf cf a b c d e fs s) (ho : s.on = false) : Calls Try.prog 63 #[.pointer (some ⟨m, 0, none⟩), .agg #[.int .i64 x, .int .i64 y]] w fun e' w' => e' = .returned (.tuple #[.slice none 0 0, .int .i64 9]) ∧ Below w.heap.size w w' := by
  have HB0 : Below w.heap.size w (w.alloc (.cells #[.int .i64 x, .int .i64 y] 27)) := (Below.refl _ _).alloc (Nat.le_refl _) _
  have G1 : Blk (w.alloc (.cells #[.int .i64 x, .int .i64 y] 27)) w.heap.size 27 #[.int .i64 x, .int .i64 y] := Blk.new_ _ _ _
  have z0 : (w.alloc (.cells #[.int .i64 x, .int .i64 y] 27)).cell? ⟨w.heap.size, 0, none⟩ = some (.int .i64 x) := G1.cell_ 0
  have z1 : (w.alloc (.cells #[.int .i64 x, .int .i64 y] 27)).cell? ⟨w.heap.size, 1, none⟩ = some (.int .i64 y) := G1.cell_ 1
  have hC := hC.below HB0
  have y10 := cell10 hC
  rw [ho] at y10
  clear ho
  clear hC
  go_enter Try.func63, Try.ntmps63
  go_wp2_with fail
  go_ret2
  exact ⟨rfl, HB0⟩
theorem read_arg (m gx gb : Nat) (Af : Option Addr) (nf cf : Nat) (a b c d e : Int) (fs : List Flt) (x y : Int) (w : World) (s : ChS) (hC : ChipW w m gx gb Af nf cf a b c d e fs s) (ho : s.on = true) (ht : Hid (thereB a b x y = false)) : Calls Try.prog 63 #[.pointer (some ⟨m, 0, none⟩), .agg #[.int .i64 x, .int .i64 y]] w fun e' w' => e' = .returned (.tuple #[.slice none 0 0, .int .i64 2]) ∧ Below w.heap.size w w' := by
  have HB0 : Below w.heap.size w (w.alloc (.cells #[.int .i64 x, .int .i64 y] 27)) := (Below.refl _ _).alloc (Nat.le_refl _) _
  have G1 : Blk (w.alloc (.cells #[.int .i64 x, .int .i64 y] 27)) w.heap.size 27 #[.int .i64 x, .int .i64 y] := Blk.new_ _ _ _
  have z0 : (w.alloc (.cells #[.int .i64 x, .int .i64 y] 27)).cell? ⟨w.heap.size, 0, none⟩ = some (.int .i64 x) := G1.cell_ 0
  have z1 : (w.alloc (.cells #[.int .i64 x, .int .i64 y] 27)).cell? ⟨w.heap.size, 1, none⟩ = some (.int .i64 y) := G1.cell_ 1
  have hC := hC.below HB0
  have y10 := cell10 hC
  rw [ho] at y10
  clear ho
  go_enter Try.func63, Try.ntmps63
  go_wp2_with (go_at_call 55; ((with_reducible refine (hasPage_b _ _ _ _ _ _ _ _ _ _ _ _ _ _ _ _ _ hC ht).mono ?_); rintro e' wN ⟨rfl, hb⟩; replace hC := hC.below hb; replace HB0 := btr HB0 HB0.size hb; replace G1 := G1.below hb G1.lt; clear z0 z1 y10; have z0 := G1.cell_ 0; have z1 := G1.cell_ 1; simp at z0 z1))
  go_ret2
  exact ⟨rfl, HB0⟩
theorem read_cut (m gx gb : Nat) (Af : Option Addr) (nf cf : Nat) (a b c d e : Int) (fs : List Flt) (x y n : Int) (w : World) (s : ChS) (hC : ChipW w m gx gb Af nf cf a b c d e fs s) (hbn : s.Bnd n) (hn : n ≤ 1000000000) (ho : s.on = true) (ht : Hid (thereB a b x y = true)) (hcu : Hid (s.cutB = true)) : Calls Try.prog 63 #[.pointer (some ⟨m, 0, none⟩), .agg #[.int .i64 x, .int .i64 y]] w fun e' w' => e' = .returned (.tuple #[.slice none 0 0, .int .i64 9]) ∧ ChipW w' m gx gb Af nf cf a b c d e fs s.tick ∧ Tch (chB m gx gb) w w' := by
  have hnb : ¬ chB m gx gb w.heap.size := by have := hC.lt; unfold chB; omega
  have HB0 : Below w.heap.size w (w.alloc (.cells #[.int .i64 x, .int .i64 y] 27)) := (Below.refl _ _).alloc (Nat.le_refl _) _
  have G1 : Blk (w.alloc (.cells #[.int .i64 x, .int .i64 y] 27)) w.heap.size 27 #[.int .i64 x, .int .i64 y] := Blk.new_ _ _ _
  have z0 : (w.alloc (.cells #[.int .i64 x, .int .i64 y] 27)).cell? ⟨w.heap.size, 0, none⟩ = some (.int .i64 x) := G1.cell_ 0
  have z1 : (w.alloc (.cells #[.int .i64 x, .int .i64 y] 27)).cell? ⟨w.heap.size, 1, none⟩ = some (.int .i64 y) := G1.cell_ 1
  have hC := hC.below HB0
  have y10 := cell10 hC
  rw [ho] at y10
  clear ho
  go_enter Try.func63, Try.ntmps63
  go_wp2_with (first
    | (go_at_call 55; ((with_reducible refine (hasPage_b _ _ _ _ _ _ _ _ _ _ _ _ _ _ _ _ _ hC ht).mono ?_); rintro e' wN ⟨rfl, hb⟩; replace hC := hC.below hb; replace HB0 := btr HB0 HB0.size hb; replace G1 := G1.below hb G1.lt; clear z0 z1 y10; have z0 := G1.cell_ 0; have z1 := G1.cell_ 1; simp at z0 z1))
    | (go_at_call 45; ((with_reducible refine (begin_b _ _ _ _ _ _ _ _ _ _ _ _ _ _ _ _ hC hbn hn hcu).mono ?_); rintro e' wN ⟨rfl, hC2, hT⟩; have HT := (Tch.of_below (S := chB m gx gb) HB0).trans hT; have hlt0 := hT.far w.heap.size G1.lt hnb; replace G1 : Blk wN w.heap.size _ _ := hlt0.trans G1; clear hlt0 hC; have hC := hC2; clear hC2 z0 z1; have z0 := G1.cell_ 0; have z1 := G1.cell_ 1; simp at z0 z1)))
  go_ret2
  exact ⟨rfl, hC, HT⟩
end Go.Proofs.Ytcpniplfkillbaa
namespace Go.Proofs.Ytcpniplfkillbaa
open Go.ChangeShapes Go.WideShapes Go.ChangeAt Go.RowKit
def putX (X : List Nat) (F : Nat) (vs : List Nat) : List Nat := X.take F ++ vs ++ X.drop (F + vs.length)
theorem putX_len {X : List Nat} {F : Nat} {vs : List Nat} (h : F + vs.length ≤ X.length) : (putX X F vs).length = X.length := by
  simp [putX]
  omega
theorem copy_chip {w : World} {m gx gb : Nat} {Af : Option Addr} {nf cf : Nat} {a b c d e : Int} {fs : List Flt} {s : ChS} (hC : ChipW w m gx gb Af nf cf a b c d e fs s) {F RW q : Nat} (ad : Addr) (nv cv : Nat) (vs : List Nat) (hF : F + RW ≤ s.X.length) (hv : vs.length = min nv RW) (hread : ∀ j u, (vs.map byteV)[j]? = some u → w.cell? (ad.add j) = some u) :
    ∃ w', (Builtin.copy_ #[38, 38] 3 #[.slice (some ⟨gx, F, none⟩) RW q, .slice (some ad) nv cv]).run Try.prog w = .ok (.int .i64 (vs.length : Nat)) w' ∧ ChipW w' m gx gb Af nf cf a b c d e fs { s with X := putX s.X F vs } ∧ Tch (chB m gx gb) w w' := by
  obtain ⟨⟨cx, cb, NX, NB, hX, hN, hcx, hB⟩, ⟨r, rX⟩, rK, rF, n1, n2, n3, l1, l2, l3, l4⟩ := hC
  have hrun := run_copy_row (P := Try.prog) w 38 38 3 5 gx F RW q ad nv cv (s.X.map byteV ++ r).toArray 5 (vs.map byteV) Try.underlying38 infoByteSz rX (by rw [List.length_map]; exact hv) hread (by simp; omega) (oneB vs)
  obtain ⟨A2, hA2⟩ : ∃ A2, spl (s.X.map byteV ++ r).toArray F (vs.map byteV) = A2 := ⟨_, rfl⟩
  have hrun2 : (Builtin.copy_ #[38, 38] 3 #[.slice (some ⟨gx, F, none⟩) RW q, .slice (some ad) nv cv]).run Try.prog w = .ok (.int .i64 (vs.length : Nat)) (w.setRow gx A2) := by
    rw [← hA2]
    refine hrun.trans ?_
    rw [List.length_map]
    simp only [spl, List.length_map]
    rfl
  refine ⟨_, hrun2, ?_, Tch.setRow w gx _ chB_x⟩
  have hT := Tch.setRow (S := fun g => g = gx) w gx A2 rfl
  have hK := setRow_heap w gx _ A2 5 _ rX
  refine ⟨⟨cx, cb, NX, NB, by rw [putX_len (by omega)]; exact hX, hN, hcx, hT.blk hB (fun e => n1 e)⟩, ⟨r, hK.trans ?_⟩, rK.keep (hT.far _ rK.lt (fun e => n3 e.symm)), rF.keep hT.size (fun g hg g1 g2 g3 => hT.far g hg g2), n1, n2, n3, by rw [putX_len (by omega)]; exact l1, l2, l3, l4⟩
  rw [← hA2]
  congr 2
  simp only [spl, putX, List.map_append, List.map_take, List.map_drop, List.length_map]
  rw [List.take_append_of_le_length (by simp; omega), List.drop_append_of_le_length (by simp; omega)]
  simp
theorem setK_chip {w : World} {m gx gb : Nat} {Af : Option Addr} {nf cf : Nat} {a b c d e : Int} {fs : List Flt} {s : ChS} (hC : ChipW w m gx gb Af nf cf a b c d e fs s) {i : Nat} (hi : i < s.K.length) (v : Int) : ChipW (w.setCell ⟨gb, i, none⟩ (.int .i64 v)) m gx gb Af nf cf a b c d e fs { s with K := s.K.set i v } ∧ Tch (chB m gx gb) w (w.setCell ⟨gb, i, none⟩ (.int .i64 v)) := by
  obtain ⟨⟨cx, cb, NX, NB, hX, hN, hcx, hB⟩, rX, rK, rF, n1, n2, n3, l1, l2, l3, l4⟩ := hC
  refine ⟨⟨⟨cx, cb, NX, NB, hX, hN, hcx, hB.far n2 _⟩, rX.far n3 _, ?_, ?_, n1, n2, n3, l1, by simp; exact l2, l3, l4⟩, Tch.set w ⟨gb, i, none⟩ (.int .i64 v) chB_b⟩
  · have := rK.set_ (i := i) (by simpa using hi) (.int .i64 v)
    rw [← List.map_set] at this
    exact this
  · have hT := Tch.setm w gb i (.int .i64 v)
    exact rF.keep hT.size (fun g hg g1 g2 g3 => hT.far g hg g3)
theorem chip_k {w : World} {m gx gb : Nat} {Af : Option Addr} {nf cf : Nat} {a b c d e : Int} {fs : List Flt} {s : ChS} (hC : ChipW w m gx gb Af nf cf a b c d e fs s) {k j : Nat} (hk : (k : Int) < a) (hj : j < 3) : ∃ cb NB : Nat, (k : Int) < (NB : Int) ∧ w.cell? ⟨m, 7, none⟩ = some (.slice (some ⟨gb, 0, none⟩) NB cb) ∧ w.cell? ⟨gb, k * 3 + j, none⟩ = some (.int .i64 (s.k (k : Int) j)) ∧ (∀ i, w.frozen? ⟨gb, i, none⟩ = false) ∧ k * 3 + j < s.K.length := by
  obtain ⟨cx, cb, NX, NB, hNX, hNB, y0, y1, y2, y3, y4, y5, y6, y7, y8, y9, y10, y11, y12, y13, y14, y15, yx, yb, fm, fx, fb⟩ := hC.get
  have h1 := hNB.out
  have h2 := hC.lenK
  refine ⟨cb, NB, by omega, y7, ?_, fb, by omega⟩
  rw [yb _ (by omega)]
  unfold ChS.k
  rw [Int.toNat_natCast, Nat.mul_comm]
theorem cell14 {w : World} {m gx gb : Nat} {Af : Option Addr} {nf cf : Nat} {a b c d e : Int} {fs : List Flt} {s : ChS} (h : ChipW w m gx gb Af nf cf a b c d e fs s) : w.cell? ⟨m, 14, none⟩ = some (.int .i64 s.cby) := by
  obtain ⟨cx, cb, NX, NB, hX, hN, hcx, hB⟩ := h.blk
  exact hB.cell_ 14
def ChS.inc (s : ChS) (k j : Nat) : ChS := { s with K := s.K.set (k * 3 + j) (s.k (k : Int) j + 1) }
theorem wrong_tick (s : ChS) (a : Int) (fs : List Flt) (k l : Nat) : s.tick.wrong a fs k l = s.wrong a fs k l := by
  unfold ChS.wrong failedB ChS.k
  rw [tick_K]
theorem refusal_b (m gx gb : Nat) (Af : Option Addr) (nf cf : Nat) (a b c d e : Int) (fs : List Flt) (k l : Nat) (z : Int) (w : World) (s : ChS) (hC : ChipW w m gx gb Af nf cf a b c d e fs s) (hk : (k : Int) < a) (hz : Hid (s.wrong a fs k l = z)) : Calls Try.prog 56 #[.pointer (some ⟨m, 0, none⟩), .agg #[.int .i64 (k : Int), .int .i64 (l : Int)]] w fun e' w' => e' = .returned (.int .i64 z) ∧ Below w.heap.size w w' := by
  have := refusal_any m gx gb Af nf cf a b c d e fs k l w s hC hk
  rwa [hz.out] at this
theorem prog_off (m gx gb : Nat) (Af : Option Addr) (nf cf : Nat) (a b c d e : Int) (fs : List Flt) (x y : Int) (A : Option Addr) (nb cA : Nat) (w : World) (s : ChS) (hC : ChipW w m gx gb Af nf cf a b c d e fs s) (ho : s.on = false) : Calls Try.prog 30 #[.pointer (some ⟨m, 0, none⟩), .agg #[.int .i64 x, .int .i64 y], .slice A nb cA] w fun e' w' => e' = .returned (.int .i64 9) ∧ Below w.heap.size w w' := by
  have HB0 : Below w.heap.size w (w.alloc (.cells #[.int .i64 x, .int .i64 y] 27)) := (Below.refl _ _).alloc (Nat.le_refl _) _
  have G1 : Blk (w.alloc (.cells #[.int .i64 x, .int .i64 y] 27)) w.heap.size 27 #[.int .i64 x, .int .i64 y] := Blk.new_ _ _ _
  have z0 : (w.alloc (.cells #[.int .i64 x, .int .i64 y] 27)).cell? ⟨w.heap.size, 0, none⟩ = some (.int .i64 x) := G1.cell_ 0
  have z1 : (w.alloc (.cells #[.int .i64 x, .int .i64 y] 27)).cell? ⟨w.heap.size, 1, none⟩ = some (.int .i64 y) := G1.cell_ 1
  have hC := hC.below HB0
  have y10 := cell10 hC
  rw [ho] at y10
  clear ho
  clear hC
  go_enter Try.func30, Try.ntmps30
  go_wp2_with fail
  go_ret
  exact ⟨rfl, HB0⟩
theorem raw_bb (a b c d e : Int) (RW : Nat) (w : World) (hm : Hid (mayB a b c d e = true)) (hr : Hid ((RW : Int) = c + 16)) :
    Calls Try.prog 49 #[.agg #[.int .i64 a, .int .i64 b, .int .i64 c, .int .i64 d, .int .i64 e]] w fun e' w' => e' = .returned (.int .i64 (RW : Int)) ∧ Below w.heap.size w w' := by
  have q := raw_b a b c d e w hm
  rwa [← hr.out] at q
theorem prog_cutbad (m gx gb : Nat) (Af : Option Addr) (nf cf : Nat) (a b c d e : Int) (fs : List Flt) (k l N RW : Nat) (n : Int) (bs : List Nat) (gA oA cA : Nat) (w : World) (s : ChS) (hC : ChipW w m gx gb Af nf cf a b c d e fs s) (hbn : s.Bnd n) (hn : n ≤ 1000000000) (ho : s.on = true) (hk : (k : Int) < a) (hl : (l : Int) < b) (hnum : Hid (numberI a b (k : Int) (l : Int) = (N : Int))) (HRW : Hid ((RW : Int) = c + 16)) (hfit0 : Hid (N * RW + RW ≤ s.X.length)) (r1 : 40 ≤ RW) (r2 : RW ≤ 80) (hN2 : N < 200) (hsl : ∀ j u, (bs.map byteV)[j]? = some u → w.cell? ⟨gA, oA + j, none⟩ = some u) (hgA : gA < w.heap.size) (hgn : ¬ chB m gx gb gA) (hbl : bs.length = RW) (hcu : Hid (s.cutB = true)) (z : Int) (hwr0 : s.wrong a fs k l = z) (hz : z ≠ 0) : Calls Try.prog 30 #[.pointer (some ⟨m, 0, none⟩), .agg #[.int .i64 (k : Int), .int .i64 (l : Int)], .slice (some ⟨gA, oA, none⟩) RW cA] w fun e' w' => e' = .returned (.int .i64 9) ∧ ChipW w' m gx gb Af nf cf a b c d e fs s.tick ∧ Tch (chB m gx gb) w w' := by
  have hnb : ¬ chB m gx gb w.heap.size := by have := hC.lt; unfold chB; omega
  have ht : Hid (thereB a b (k : Int) (l : Int) = true) := Lib.hid (by unfold thereB withinB; simp; omega)
  have HM := Lib.hid (planMay_bd hC.may).1
  have hwr : Hid (s.tick.wrong a fs k l = z) := Lib.hid (by rw [wrong_tick]; exact hwr0)
  have hfit : Hid (N * RW + RW ≤ s.tick.X.length) := Lib.hid (by rw [tick_X]; exact hfit0.out)
  have HSL := Lib.hid hsl
  have HBL := Lib.hid hbl
  clear hsl hbl hwr0
  have HB0 : Below w.heap.size w (w.alloc (.cells #[.int .i64 (k : Int), .int .i64 (l : Int)] 27)) := (Below.refl _ _).alloc (Nat.le_refl _) _
  have G1 : Blk (w.alloc (.cells #[.int .i64 (k : Int), .int .i64 (l : Int)] 27)) w.heap.size 27 #[.int .i64 (k : Int), .int .i64 (l : Int)] := Blk.new_ _ _ _
  have z0 : (w.alloc (.cells #[.int .i64 (k : Int), .int .i64 (l : Int)] 27)).cell? ⟨w.heap.size, 0, none⟩ = some (.int .i64 (k : Int)) := G1.cell_ 0
  have z1 : (w.alloc (.cells #[.int .i64 (k : Int), .int .i64 (l : Int)] 27)).cell? ⟨w.heap.size, 1, none⟩ = some (.int .i64 (l : Int)) := G1.cell_ 1
  have hC := hC.below HB0
  have y10 := cell10 hC
  rw [ho] at y10
  clear ho
  have hzz : (z == 0) = false := by simp [hz]
  clear hz
  go_enter Try.func30, Try.ntmps30
  go_wp2_with (first
    | (go_at_call 55; ((with_reducible refine (hasPage_b _ _ _ _ _ _ _ _ _ _ _ _ _ _ _ _ _ hC ht).mono ?_); rintro e' wN ⟨rfl, hb⟩; replace hC := hC.below hb; replace HB0 := btr HB0 HB0.size hb; replace G1 := G1.below hb G1.lt; clear z0 z1 y10; have z0 := G1.cell_ 0; have z1 := G1.cell_ 1; simp at z0 z1; obtain ⟨y0, y1, y2, y3, y4⟩ := geo5 hC))
    | (go_at_call 49; ((with_reducible refine (raw_bb _ _ _ _ _ RW _ HM HRW).mono ?_); rintro e' wN ⟨rfl, hb⟩; replace hC := hC.below hb; replace HB0 := btr HB0 HB0.size hb; replace G1 := G1.below hb G1.lt; clear z0 z1 y0 y1 y2 y3 y4; have z0 := G1.cell_ 0; have z1 := G1.cell_ 1; simp at z0 z1))
    | (go_at_call 45; ((with_reducible refine (begin_b _ _ _ _ _ _ _ _ _ _ _ _ _ _ _ _ hC hbn hn hcu).mono ?_); rintro e' wN ⟨rfl, hC2, hT⟩; have HT := (Tch.of_below (S := chB m gx gb) HB0).trans hT; have hlt0 := hT.far w.heap.size G1.lt hnb; replace G1 : Blk wN w.heap.size _ _ := hlt0.trans G1; clear hlt0 hC; have hC := hC2; clear hC2 z0 z1; have z0 := G1.cell_ 0; have z1 := G1.cell_ 1; simp at z0 z1))
    | (go_at_call 56; ((with_reducible refine (refusal_b _ _ _ _ _ _ _ _ _ _ _ _ k l _ _ _ hC hk hwr).mono ?_); rintro e' wN ⟨rfl, hb⟩; (try have hb := undrew hb); replace hC := ChipW.likeB hC hb; replace HT := HT.then hb; replace G1 := G1.below hb G1.lt; clear z0 z1; have z0 := G1.cell_ 0; have z1 := G1.cell_ 1; simp at z0 z1)))
  go_ret
  exact ⟨rfl, hC, HT⟩
theorem prog_err (m gx gb : Nat) (Af : Option Addr) (nf cf : Nat) (a b c d e : Int) (fs : List Flt) (k l N RW : Nat) (n : Int) (bs : List Nat) (gA oA cA : Nat) (w : World) (s : ChS) (hC : ChipW w m gx gb Af nf cf a b c d e fs s) (hbn : s.Bnd n) (hn : n ≤ 1000000000) (ho : s.on = true) (hk : (k : Int) < a) (hl : (l : Int) < b) (hnum : Hid (numberI a b (k : Int) (l : Int) = (N : Int))) (HRW : Hid ((RW : Int) = c + 16)) (hfit0 : Hid (N * RW + RW ≤ s.X.length)) (r1 : 40 ≤ RW) (r2 : RW ≤ 80) (hN2 : N < 200) (hsl : ∀ j u, (bs.map byteV)[j]? = some u → w.cell? ⟨gA, oA + j, none⟩ = some u) (hgA : gA < w.heap.size) (hgn : ¬ chB m gx gb gA) (hbl : bs.length = RW) (hcu : Hid (s.cutB = false)) (z : Int) (hwr0 : s.wrong a fs k l = z) (hz : z ≠ 0) : Calls Try.prog 30 #[.pointer (some ⟨m, 0, none⟩), .agg #[.int .i64 (k : Int), .int .i64 (l : Int)], .slice (some ⟨gA, oA, none⟩) RW cA] w fun e' w' => e' = .returned (.int .i64 z) ∧ ChipW w' m gx gb Af nf cf a b c d e fs s.tick ∧ Tch (chB m gx gb) w w' := by
  have hnb : ¬ chB m gx gb w.heap.size := by have := hC.lt; unfold chB; omega
  have ht : Hid (thereB a b (k : Int) (l : Int) = true) := Lib.hid (by unfold thereB withinB; simp; omega)
  have HM := Lib.hid (planMay_bd hC.may).1
  have hwr : Hid (s.tick.wrong a fs k l = z) := Lib.hid (by rw [wrong_tick]; exact hwr0)
  have hfit : Hid (N * RW + RW ≤ s.tick.X.length) := Lib.hid (by rw [tick_X]; exact hfit0.out)
  have HSL := Lib.hid hsl
  have HBL := Lib.hid hbl
  clear hsl hbl hwr0
  have HB0 : Below w.heap.size w (w.alloc (.cells #[.int .i64 (k : Int), .int .i64 (l : Int)] 27)) := (Below.refl _ _).alloc (Nat.le_refl _) _
  have G1 : Blk (w.alloc (.cells #[.int .i64 (k : Int), .int .i64 (l : Int)] 27)) w.heap.size 27 #[.int .i64 (k : Int), .int .i64 (l : Int)] := Blk.new_ _ _ _
  have z0 : (w.alloc (.cells #[.int .i64 (k : Int), .int .i64 (l : Int)] 27)).cell? ⟨w.heap.size, 0, none⟩ = some (.int .i64 (k : Int)) := G1.cell_ 0
  have z1 : (w.alloc (.cells #[.int .i64 (k : Int), .int .i64 (l : Int)] 27)).cell? ⟨w.heap.size, 1, none⟩ = some (.int .i64 (l : Int)) := G1.cell_ 1
  have hC := hC.below HB0
  have y10 := cell10 hC
  rw [ho] at y10
  clear ho
  have hzz : (z != 0) = true := by simp [hz]
  clear hz
  go_enter Try.func30, Try.ntmps30
  go_wp2_with (first
    | (go_at_call 55; ((with_reducible refine (hasPage_b _ _ _ _ _ _ _ _ _ _ _ _ _ _ _ _ _ hC ht).mono ?_); rintro e' wN ⟨rfl, hb⟩; replace hC := hC.below hb; replace HB0 := btr HB0 HB0.size hb; replace G1 := G1.below hb G1.lt; clear z0 z1 y10; have z0 := G1.cell_ 0; have z1 := G1.cell_ 1; simp at z0 z1; obtain ⟨y0, y1, y2, y3, y4⟩ := geo5 hC))
    | (go_at_call 49; ((with_reducible refine (raw_bb _ _ _ _ _ RW _ HM HRW).mono ?_); rintro e' wN ⟨rfl, hb⟩; replace hC := hC.below hb; replace HB0 := btr HB0 HB0.size hb; replace G1 := G1.below hb G1.lt; clear z0 z1 y0 y1 y2 y3 y4; have z0 := G1.cell_ 0; have z1 := G1.cell_ 1; simp at z0 z1))
    | (go_at_call 45; ((with_reducible refine (begin_b _ _ _ _ _ _ _ _ _ _ _ _ _ _ _ _ hC hbn hn hcu).mono ?_); rintro e' wN ⟨rfl, hC2, hT⟩; have HT := (Tch.of_below (S := chB m gx gb) HB0).trans hT; have hlt0 := hT.far w.heap.size G1.lt hnb; replace G1 : Blk wN w.heap.size _ _ := hlt0.trans G1; clear hlt0 hC; have hC := hC2; clear hC2 z0 z1; have z0 := G1.cell_ 0; have z1 := G1.cell_ 1; simp at z0 z1))
    | (go_at_call 56; ((with_reducible refine (refusal_b _ _ _ _ _ _ _ _ _ _ _ _ k l _ _ _ hC hk hwr).mono ?_); rintro e' wN ⟨rfl, hb⟩; (try have hb := undrew hb); replace hC := ChipW.likeB hC hb; replace HT := HT.then hb; replace G1 := G1.below hb G1.lt; clear z0 z1; have z0 := G1.cell_ 0; have z1 := G1.cell_ 1; simp at z0 z1)))
  go_ret
  exact ⟨rfl, hC, HT⟩
end Go.Proofs.Ytcpniplfkillbaa
namespace Go.Proofs.Ytcpniplfkillbaa
open Go.ChangeShapes Go.WideShapes Go.ChangeAt Go.RowKit
theorem rd_keep {w wN : World} {m gx gb : Nat} (HT : Tch (chB m gx gb) w wN) {gA oA : Nat} (hgA : gA < w.heap.size) (hgn : ¬ chB m gx gb gA) {bs vs : List Nat} (hsl : ∀ j u, (bs.map byteV)[j]? = some u → w.cell? ⟨gA, oA + j, none⟩ = some u) (hv : ∀ (j : Nat) (u : Value), (vs.map byteV)[j]? = some u → (bs.map byteV)[j]? = some u) :
    ∀ j u, (vs.map byteV)[j]? = some u → wN.cell? ((⟨gA, oA, none⟩ : Addr).add j) = some u := by
  intro j u hu
  have e : (⟨gA, oA, none⟩ : Addr).add j = ⟨gA, oA + j, none⟩ := by
    unfold Addr.add
    split <;> simp_all
  rw [e]
  exact (World.cell?_of_block (w := w) (HT.far gA hgA hgn)).trans (hsl j u (hv j u hu))
theorem getD_setN (A : List Int) (p q : Nat) (v d : Int) : (A.set p v).getD q d = if p = q ∧ p < A.length then v else A.getD q d := by
  rw [List.getD_eq_getElem?_getD, List.getD_eq_getElem?_getD, List.getElem?_set]
  by_cases h : p = q
  · subst h
    by_cases h2 : p < A.length
    · simp [h2]
    · simp [h2]
  · simp [h]
theorem take_sub {bs : List Nat} {q : Nat} : ∀ (j : Nat) (u : Value), ((bs.take q).map byteV)[j]? = some u → (bs.map byteV)[j]? = some u := by
  intro j u hu
  rw [List.map_take, List.getElem?_take] at hu
  split at hu
  · exact hu
  · cases hu
def ChS.prog (s : ChS) (k N RW : Nat) (bs : List Nat) : ChS := (({ s.tick with X := putX s.X (N * RW) bs } : ChS).inc k 0).inc k 2
def ChS.progCut (s : ChS) (k N RW : Nat) (bs : List Nat) : ChS := ({ s.tick with X := putX s.X (N * RW) bs } : ChS).inc k 0
theorem prog_ok (m gx gb : Nat) (Af : Option Addr) (nf cf : Nat) (a b c d e : Int) (fs : List Flt) (k l N RW : Nat) (n : Int) (bs : List Nat) (gA oA cA : Nat) (w : World) (s : ChS) (hC : ChipW w m gx gb Af nf cf a b c d e fs s) (hbn : s.Bnd n) (hn : n ≤ 1000000000) (ho : s.on = true) (hk : (k : Int) < a) (hl : (l : Int) < b) (hnum : Hid (numberI a b (k : Int) (l : Int) = (N : Int))) (HRW : Hid ((RW : Int) = c + 16)) (hfit0 : Hid (N * RW + RW ≤ s.X.length)) (r1 : 40 ≤ RW) (r2 : RW ≤ 80) (hN2 : N < 200) (hsl : ∀ j u, (bs.map byteV)[j]? = some u → w.cell? ⟨gA, oA + j, none⟩ = some u) (hgA : gA < w.heap.size) (hgn : ¬ chB m gx gb gA) (hbl : bs.length = RW) (hcu : Hid (s.cutB = false)) (hwr0 : s.wrong a fs k l = 0) : Calls Try.prog 30 #[.pointer (some ⟨m, 0, none⟩), .agg #[.int .i64 (k : Int), .int .i64 (l : Int)], .slice (some ⟨gA, oA, none⟩) RW cA] w fun e' w' => e' = .returned (.int .i64 0) ∧ ChipW w' m gx gb Af nf cf a b c d e fs (s.prog k N RW bs) ∧ Tch (chB m gx gb) w w' := by
  have KB : ∀ i, 0 ≤ s.k (k : Int) i ∧ s.k (k : Int) i ≤ n + 1 := fun i => ⟨hbn.k0 _, by have := hbn.k1 (3 * (k : Int).toNat + i); unfold ChS.k; omega⟩
  have KB : ∀ i, 0 ≤ (({ s.tick with X := putX s.tick.X (N * RW) bs } : ChS)).k (k : Int) i ∧ (({ s.tick with X := putX s.tick.X (N * RW) bs } : ChS)).k (k : Int) i ≤ n + 1 := fun i => by
    have := KB i
    unfold ChS.k at this ⊢
    dsimp only
    rw [tick_K]
    exact this
  have HKB := Lib.hid KB
  clear KB
  have hnb : ¬ chB m gx gb w.heap.size := by have := hC.lt; unfold chB; omega
  have ht : Hid (thereB a b (k : Int) (l : Int) = true) := Lib.hid (by unfold thereB withinB; simp; omega)
  have HM := Lib.hid (planMay_bd hC.may).1
  have hwr : Hid (s.tick.wrong a fs k l = 0) := Lib.hid (by rw [wrong_tick]; exact hwr0)
  have hfit : Hid (N * RW + RW ≤ s.tick.X.length) := Lib.hid (by rw [tick_X]; exact hfit0.out)
  have HSL := Lib.hid hsl
  have HBL := Lib.hid hbl
  clear hsl hbl hwr0
  have HB0 : Below w.heap.size w (w.alloc (.cells #[.int .i64 (k : Int), .int .i64 (l : Int)] 27)) := (Below.refl _ _).alloc (Nat.le_refl _) _
  have G1 : Blk (w.alloc (.cells #[.int .i64 (k : Int), .int .i64 (l : Int)] 27)) w.heap.size 27 #[.int .i64 (k : Int), .int .i64 (l : Int)] := Blk.new_ _ _ _
  have z0 : (w.alloc (.cells #[.int .i64 (k : Int), .int .i64 (l : Int)] 27)).cell? ⟨w.heap.size, 0, none⟩ = some (.int .i64 (k : Int)) := G1.cell_ 0
  have z1 : (w.alloc (.cells #[.int .i64 (k : Int), .int .i64 (l : Int)] 27)).cell? ⟨w.heap.size, 1, none⟩ = some (.int .i64 (l : Int)) := G1.cell_ 1
  have hC := hC.below HB0
  have y10 := cell10 hC
  rw [ho] at y10
  clear ho
  go_enter Try.func30, Try.ntmps30
  go_upto_region 18 with (first
    | (go_at_call 55; ((with_reducible refine (hasPage_b _ _ _ _ _ _ _ _ _ _ _ _ _ _ _ _ _ hC ht).mono ?_); rintro e' wN ⟨rfl, hb⟩; replace hC := hC.below hb; replace HB0 := btr HB0 HB0.size hb; replace G1 := G1.below hb G1.lt; clear z0 z1 y10; have z0 := G1.cell_ 0; have z1 := G1.cell_ 1; simp at z0 z1; obtain ⟨y0, y1, y2, y3, y4⟩ := geo5 hC))
    | (go_at_call 49; ((with_reducible refine (raw_bb _ _ _ _ _ RW _ HM HRW).mono ?_); rintro e' wN ⟨rfl, hb⟩; replace hC := hC.below hb; replace HB0 := btr HB0 HB0.size hb; replace G1 := G1.below hb G1.lt; clear z0 z1 y0 y1 y2 y3 y4; have z0 := G1.cell_ 0; have z1 := G1.cell_ 1; simp at z0 z1))
    | (go_at_call 45; ((with_reducible refine (begin_b _ _ _ _ _ _ _ _ _ _ _ _ _ _ _ _ hC hbn hn hcu).mono ?_); rintro e' wN ⟨rfl, hC2, hT⟩; have HT := (Tch.of_below (S := chB m gx gb) HB0).trans hT; have hlt0 := hT.far w.heap.size G1.lt hnb; replace G1 : Blk wN w.heap.size _ _ := hlt0.trans G1; clear hlt0 hC; have hC := hC2; clear hC2 z0 z1; have z0 := G1.cell_ 0; have z1 := G1.cell_ 1; simp at z0 z1))
    | (go_at_call 56; ((with_reducible refine (refusal_b _ _ _ _ _ _ _ _ _ _ _ _ k l _ _ _ hC hk hwr).mono ?_); rintro e' wN ⟨rfl, hb⟩; (try have hb := undrew hb); replace hC := ChipW.likeB hC hb; replace HT := HT.then hb; replace G1 := G1.below hb G1.lt; clear z0 z1; have z0 := G1.cell_ 0; have z1 := G1.cell_ 1; simp at z0 z1))
    | (go_at_call 57; ((with_reducible refine (page_any _ _ _ _ _ _ _ _ _ _ _ _ k l N RW _ _ (by first | exact hC | exact ChipW.drew hC) hk hl hnum HRW.out hfit.out r1 r2 hN2).mono ?_); rintro e' wN ⟨⟨q, hq, rfl⟩, hb⟩; (try have hb := undrew hb); replace hC := ChipW.likeB hC hb; replace HT := HT.then hb; replace G1 := G1.below hb G1.lt; clear z0 z1; have z0 := G1.cell_ 0; have z1 := G1.cell_ 1; simp at z0 z1; have hrd : ∀ j u, ((bs).map byteV)[j]? = some u → wN.cell? ((⟨gA, oA, none⟩ : Addr).add j) = some u := rd_keep HT hgA hgn HSL.out (fun _ _ h => h); obtain ⟨wY, hrun, hCY, hTY⟩ := copy_chip (q := q) hC ⟨gA, oA, none⟩ RW cA (bs) hfit.out (by rw [HBL.out]; omega) hrd)))
  replace hC := hCY
  have hz9 := HT.size
  replace G1 := hTY.blk G1 hnb
  replace HT := HT.trans hTY
  clear hCY hTY z0 z1 hrun
  have z0 := G1.cell_ 0
  have z1 := G1.cell_ 1
  simp at z0 z1
  obtain ⟨S0, hS0⟩ : ∃ S0 : ChS, S0 = { s.tick with X := putX s.tick.X (N * RW) bs } := ⟨_, rfl⟩
  rw [← hS0] at hC HKB
  have HS0 := Lib.hid hS0
  have i0 : (0 : Int) ≤ (k : Int) := by omega
  clear hS0
  obtain ⟨cb0, NB0, hkN0, y7, cz, fb, hKl⟩ := chip_k (j := 0) hC hk (by omega)
  obtain ⟨v0, hv0⟩ : ∃ v, ChS.k S0 (k : Int) 0 = v := ⟨_, rfl⟩
  rw [hv0] at cz
  have HV0 := Lib.hid hv0
  have hbd0 : 0 ≤ v0 ∧ v0 ≤ n + 1 := by rw [← hv0]; exact HKB.out _
  obtain ⟨b00, b10⟩ := hbd0
  have hwr0 : IntKind.i64.wrap (v0 + 1) = v0 + 1 := wrapS _ (by omega) (by omega)
  (try rw [Nat.add_zero] at cz hKl)
  clear hv0
  go_still_tail 12, (by kernel_rfl)
  change wpList _ _ _ _ _ wY.drew
  go_wp2_with fail
  have hS := setK_chip hC hKl (v0 + 1)
  have hSd := ChipW.drew hS.1
  have hTd : Tch (chB m gx gb) w ((wY.setCell ⟨gb, k * 3, none⟩ (.int .i64 (v0 + 1))).drew) := (HT.trans hS.2).like
  have hG : Blk ((wY.setCell ⟨gb, k * 3, none⟩ (.int .i64 (v0 + 1))).drew) w.heap.size 27 #[.int .i64 (k : Int), .int .i64 (l : Int)] := G1.far (p := ⟨gb, k * 3, none⟩) (fun e => hnb (Or.inr (Or.inr e))) _
  clear HT hC G1 z0 z1 y7 cz fb hS hwr0
  generalize (wY.setCell ⟨gb, k * 3, none⟩ (.int .i64 (v0 + 1))).drew = w2 at hSd hTd hG ⊢
  have hC := hSd
  have HT := hTd
  have G1 := hG
  clear hSd hTd hG
  have z0 := G1.cell_ 0
  have z1 := G1.cell_ 1
  simp at z0 z1
  obtain ⟨S1, hS1⟩ : ∃ S1 : ChS, S1 = { S0 with K := S0.K.set (k * 3) (v0 + 1) } := ⟨_, rfl⟩
  rw [← hS1] at hC
  have KB1 : 0 ≤ S1.k (k : Int) 2 ∧ S1.k (k : Int) 2 ≤ n + 1 := by
    have := HKB.out 2
    rw [hS1]
    unfold ChS.k at this ⊢
    dsimp only
    rw [Int.toNat_natCast] at this ⊢
    rw [getD_setN, if_neg (by omega)]
    exact this
  have HS1 := Lib.hid hS1
  clear hS1
  go_upto_region 19 with fail
  obtain ⟨cb2, NB2, hkN2, y7, cz, fb, hKl⟩ := chip_k (j := 2) hC hk (by omega)
  obtain ⟨v2, hv2⟩ : ∃ v, ChS.k S1 (k : Int) 2 = v := ⟨_, rfl⟩
  rw [hv2] at cz
  have HV2 := Lib.hid hv2
  have hbd2 : 0 ≤ v2 ∧ v2 ≤ n + 1 := by rw [← hv2]; exact KB1
  obtain ⟨b02, b12⟩ := hbd2
  have hwr2 : IntKind.i64.wrap (v2 + 1) = v2 + 1 := wrapS _ (by omega) (by omega)
  (try rw [Nat.add_zero] at cz hKl)
  clear hv2
  go_still_tail 12, (by kernel_rfl)
  change wpList _ _ _ _ _ w2.drew
  go_wp2_with fail
  have hS := setK_chip hC hKl (v2 + 1)
  have hSd := ChipW.drew hS.1
  have hTd : Tch (chB m gx gb) w ((w2.setCell ⟨gb, k * 3 + 2, none⟩ (.int .i64 (v2 + 1))).drew) := (HT.trans hS.2).like
  have hG : Blk ((w2.setCell ⟨gb, k * 3 + 2, none⟩ (.int .i64 (v2 + 1))).drew) w.heap.size 27 #[.int .i64 (k : Int), .int .i64 (l : Int)] := G1.far (p := ⟨gb, k * 3 + 2, none⟩) (fun e => hnb (Or.inr (Or.inr e))) _
  clear HT hC G1 z0 z1 y7 cz fb hS hwr2
  generalize (w2.setCell ⟨gb, k * 3 + 2, none⟩ (.int .i64 (v2 + 1))).drew = w3 at hSd hTd hG ⊢
  have hC := hSd
  have HT := hTd
  have G1 := hG
  clear hSd hTd hG
  have z0 := G1.cell_ 0
  have z1 := G1.cell_ 1
  simp at z0 z1
  go_wp2_with fail
  go_ret
  have hfin : { S1 with K := S1.K.set (k * 3 + 2) (v2 + 1) } = s.prog k N RW bs := by
    rw [← HV2.out, HS1.out, ← HV0.out, HS0.out]
    unfold ChS.prog ChS.inc
    rw [tick_X]
    rfl
  rw [← hfin]
  exact ⟨rfl, hC, HT⟩
end Go.Proofs.Ytcpniplfkillbaa
namespace Go.Proofs.Ytcpniplfkillbaa
open Go.ChangeShapes Go.WideShapes Go.ChangeAt Go.RowKit
theorem tick_cby (s : ChS) : s.tick.cby = s.cby := by unfold ChS.tick; split <;> rfl
theorem prog_cut (m gx gb : Nat) (Af : Option Addr) (nf cf : Nat) (a b c d e : Int) (fs : List Flt) (k l N RW : Nat) (n : Int) (bs : List Nat) (gA oA cA : Nat) (w : World) (s : ChS) (hC : ChipW w m gx gb Af nf cf a b c d e fs s) (hbn : s.Bnd n) (hn : n ≤ 1000000000) (ho : s.on = true) (hk : (k : Int) < a) (hl : (l : Int) < b) (hnum : Hid (numberI a b (k : Int) (l : Int) = (N : Int))) (HRW : Hid ((RW : Int) = c + 16)) (hfit0 : Hid (N * RW + RW ≤ s.X.length)) (r1 : 40 ≤ RW) (r2 : RW ≤ 80) (hN2 : N < 200) (hsl : ∀ j u, (bs.map byteV)[j]? = some u → w.cell? ⟨gA, oA + j, none⟩ = some u) (hgA : gA < w.heap.size) (hgn : ¬ chB m gx gb gA) (hbl : bs.length = RW) (hcu : Hid (s.cutB = true)) (hwr0 : s.wrong a fs k l = 0) (Q : Nat) (hcb : 0 ≤ s.cby) (hQ : min RW s.cby.toNat = Q) (hcA : RW ≤ cA) (hcA2 : cA ≤ maxLen) : Calls Try.prog 30 #[.pointer (some ⟨m, 0, none⟩), .agg #[.int .i64 (k : Int), .int .i64 (l : Int)], .slice (some ⟨gA, oA, none⟩) RW cA] w fun e' w' => e' = .returned (.int .i64 9) ∧ ChipW w' m gx gb Af nf cf a b c d e fs (s.progCut k N RW (bs.take Q)) ∧ Tch (chB m gx gb) w w' := by
  have KB : ∀ i, 0 ≤ (({ s.tick with X := putX s.tick.X (N * RW) (bs.take Q) } : ChS)).k (k : Int) i ∧ (({ s.tick with X := putX s.tick.X (N * RW) (bs.take Q) } : ChS)).k (k : Int) i ≤ n + 1 := fun i => by
    have h1 := hbn.k0 (3 * (k : Int).toNat + i)
    have h2 := hbn.k1 (3 * (k : Int).toNat + i)
    unfold ChS.k
    dsimp only
    rw [tick_K]
    omega
  have HKB := Lib.hid KB
  have HQ := Lib.hid hQ
  obtain ⟨CB, hCB⟩ : ∃ z, s.tick.cby = z := ⟨_, rfl⟩
  have hmin : (if CB < (RW : Int) then CB else (RW : Int)) = (Q : Int) := by
    rw [← hCB, tick_cby]
    split <;> omega
  have q0 : (0 : Int) ≤ (Q : Int) := by omega
  have q1 : (Q : Int) ≤ (cA : Int) := by omega
  have q2 : Q ≤ cA := by omega
  unfold maxLen at hcA2
  have HCB := Lib.hid hCB
  clear KB hQ hCB hcb
  have hnb : ¬ chB m gx gb w.heap.size := by have := hC.lt; unfold chB; omega
  have ht : Hid (thereB a b (k : Int) (l : Int) = true) := Lib.hid (by unfold thereB withinB; simp; omega)
  have HM := Lib.hid (planMay_bd hC.may).1
  have hwr : Hid (s.tick.wrong a fs k l = 0) := Lib.hid (by rw [wrong_tick]; exact hwr0)
  have hfit : Hid (N * RW + RW ≤ s.tick.X.length) := Lib.hid (by rw [tick_X]; exact hfit0.out)
  have HSL := Lib.hid hsl
  have HBL := Lib.hid hbl
  clear hsl hbl hwr0
  have HB0 : Below w.heap.size w (w.alloc (.cells #[.int .i64 (k : Int), .int .i64 (l : Int)] 27)) := (Below.refl _ _).alloc (Nat.le_refl _) _
  have G1 : Blk (w.alloc (.cells #[.int .i64 (k : Int), .int .i64 (l : Int)] 27)) w.heap.size 27 #[.int .i64 (k : Int), .int .i64 (l : Int)] := Blk.new_ _ _ _
  have z0 : (w.alloc (.cells #[.int .i64 (k : Int), .int .i64 (l : Int)] 27)).cell? ⟨w.heap.size, 0, none⟩ = some (.int .i64 (k : Int)) := G1.cell_ 0
  have z1 : (w.alloc (.cells #[.int .i64 (k : Int), .int .i64 (l : Int)] 27)).cell? ⟨w.heap.size, 1, none⟩ = some (.int .i64 (l : Int)) := G1.cell_ 1
  have hC := hC.below HB0
  have y10 := cell10 hC
  rw [ho] at y10
  clear ho
  have HPG : True := trivial
  go_enter Try.func30, Try.ntmps30
  go_upto_region 10 with (first
    | (go_at_call 55; ((with_reducible refine (hasPage_b _ _ _ _ _ _ _ _ _ _ _ _ _ _ _ _ _ hC ht).mono ?_); rintro e' wN ⟨rfl, hb⟩; replace hC := hC.below hb; replace HB0 := btr HB0 HB0.size hb; replace G1 := G1.below hb G1.lt; clear z0 z1 y10; have z0 := G1.cell_ 0; have z1 := G1.cell_ 1; simp at z0 z1; obtain ⟨y0, y1, y2, y3, y4⟩ := geo5 hC))
    | (go_at_call 49; ((with_reducible refine (raw_bb _ _ _ _ _ RW _ HM HRW).mono ?_); rintro e' wN ⟨rfl, hb⟩; replace hC := hC.below hb; replace HB0 := btr HB0 HB0.size hb; replace G1 := G1.below hb G1.lt; clear z0 z1 y0 y1 y2 y3 y4; have z0 := G1.cell_ 0; have z1 := G1.cell_ 1; simp at z0 z1))
    | (go_at_call 45; ((with_reducible refine (begin_b _ _ _ _ _ _ _ _ _ _ _ _ _ _ _ _ hC hbn hn hcu).mono ?_); rintro e' wN ⟨rfl, hC2, hT⟩; have HT := (Tch.of_below (S := chB m gx gb) HB0).trans hT; have hlt0 := hT.far w.heap.size G1.lt hnb; replace G1 : Blk wN w.heap.size _ _ := hlt0.trans G1; clear hlt0 hC; have hC := hC2; clear hC2 z0 z1; have z0 := G1.cell_ 0; have z1 := G1.cell_ 1; simp at z0 z1))
    | (go_at_call 56; ((with_reducible refine (refusal_b _ _ _ _ _ _ _ _ _ _ _ _ k l _ _ _ hC hk hwr).mono ?_); rintro e' wN ⟨rfl, hb⟩; (try have hb := undrew hb); replace hC := ChipW.likeB hC hb; replace HT := HT.then hb; replace G1 := G1.below hb G1.lt; clear z0 z1; have z0 := G1.cell_ 0; have z1 := G1.cell_ 1; simp at z0 z1)))
  have y14 := cell14 hC
  rw [HCB.out] at y14
  refine wp_region_noPanic ?_
  refine wp_region_held_drew (S := (fun w' => w'.cell? ⟨m, 14, none⟩ = some (.int .i64 CB) ∧ w'.cell? ⟨w.heap.size, 0, none⟩ = some (.int .i64 (k : Int)) ∧ w'.cell? ⟨w.heap.size, 1, none⟩ = some (.int .i64 (l : Int)))) (by kernel_rfl) ?_ (fun hHeld => ?_)
  · (first | exact ⟨y14, z0, z1⟩ | exact ⟨c14, zz0, zz1⟩ | assumption)
  refine tk 0 ⟨some 44, .move (.tmp 0), 29, "chip.go:116", #[], none⟩ ?_; try simp only [Act.put, pz1, pz2, pz3]
  refine tk 1 ⟨some 45, .load 27 (.tmp 4), 27, "chip.go:116", #[], none⟩ ?_; try simp only [Act.put, pz1, pz2, pz3]
  refine tk 3 ⟨some 47, .move (.tmp 2), 38, "chip.go:116", #[], none⟩ ?_; try simp only [Act.put, pz1, pz2, pz3]
  refine tk 4 ⟨some 48, .move (.tmp 2), 38, "chip.go:116", #[], none⟩ ?_; try simp only [Act.put, pz1, pz2, pz3]
  refine tk 5 ⟨some 49, .call { callee := .builtin .len, args := #[.tmp 48], argTypes := #[38] }, 3, "chip.go:116", #[⟨4, .data⟩], none⟩ ?_; try simp only [Act.put, pz1, pz2, pz3]
  refine tk 6 ⟨some 50, .move (.tmp 0), 29, "chip.go:116", #[], none⟩ ?_; try simp only [Act.put, pz1, pz2, pz3]
  refine tk 7 ⟨some 51, .nilCheck (.tmp 50), 0, "chip.go:116", #[⟨6, .data⟩], none⟩ ?_; try simp only [Act.put, pz1, pz2, pz3]
  refine tk 8 ⟨some 52, .fieldAddr 90 (.tmp 51) 9, 0, "chip.go:116", #[⟨7, .data⟩], none⟩ ?_; try simp only [Act.put, pz1, pz2, pz3]
  refine tk 9 ⟨some 53, .fieldAddr 48 (.tmp 52) 1, 0, "chip.go:116", #[⟨8, .data⟩], none⟩ ?_; try simp only [Act.put, pz1, pz2, pz3]
  refine tk 10 ⟨some 54, .load 3 (.tmp 53), 3, "chip.go:116", #[⟨9, .data⟩], none⟩ ?_; try simp only [Act.put, pz1, pz2, pz3]
  refine tk 11 ⟨some 55, .call { callee := .builtin .min, args := #[.tmp 49, .tmp 54], argTypes := #[3, 3] }, 3, "chip.go:116", #[⟨5, .data⟩, ⟨10, .data⟩], none⟩ ?_; try simp only [Act.put, pz1, pz2, pz3]
  refine tk 12 ⟨some 56, .slice 38 (.tmp 47) none (some (.tmp 55)) none, 38, "chip.go:116", #[⟨3, .data⟩, ⟨11, .data⟩], none⟩ ?_; try simp only [Act.put, pz1, pz2, pz3]
  refine wpAnyH_ready (rs := [2]) (by kernel_rfl) (by simp) ?_
  refine AllReadyH.cons (o := ⟨some 46, .call { callee := .value (.func 57), args := #[.tmp 44, .tmp 45], argTypes := #[29, 27] }, 38, "chip.go:116", #[⟨0, .data⟩, ⟨1, .data⟩], none⟩) rfl (fun K hK => ?_) AllReadyH.nil
  go_simp
  (go_at_call 57; ((with_reducible refine (page_any _ _ _ _ _ _ _ _ _ _ _ _ k l N RW _ _ (by first | exact hC | exact ChipW.drew hC) hk hl hnum HRW.out hfit.out r1 r2 hN2).mono ?_); rintro e' wN ⟨⟨q, hq, rfl⟩, hb⟩; (try have hb := undrew hb); replace hC := ChipW.likeB hC hb; replace HT := HT.then hb; replace G1 := G1.below hb G1.lt; clear z0 z1; have z0 := G1.cell_ 0; have z1 := G1.cell_ 1; simp at z0 z1; have hrd : ∀ j u, (((bs.take Q)).map byteV)[j]? = some u → wN.cell? ((⟨gA, oA, none⟩ : Addr).add j) = some u := rd_keep HT hgA hgn HSL.out take_sub; obtain ⟨wY, hrun, hCY, hTY⟩ := copy_chip (q := q) hC ⟨gA, oA, none⟩ Q cA ((bs.take Q)) hfit.out (by rw [List.length_take, HBL.out]) hrd; have y14 := cell14 hC; have c14 := cell14 hCY; rw [HCB.out] at y14; rw [show ({ s.tick with X := putX s.tick.X (N * RW) (bs.take Q) } : ChS).cby = CB from HCB.out] at c14; replace G1 := hTY.blk G1 hnb; have zz0 := G1.cell_ 0; have zz1 := G1.cell_ 1; simp at zz0 zz1))
  go_wp2_with fail
  refine hK.out _ _ ?_ (fun hNew => ?_)
  · (first | exact ⟨y14, z0, z1⟩ | exact ⟨c14, zz0, zz1⟩ | assumption)
  clear hK K hHeld
  have hHeld := hNew
  clear hNew
  try simp only [Act.put, pz1, pz2, pz3]
  refine wpAnyH_ready (rs := [13]) (by kernel_rfl) (by simp) ?_
  refine AllReadyH.cons (o := ⟨some 57, .call { callee := .builtin .copy, args := #[.tmp 46, .tmp 56], argTypes := #[38, 38] }, 3, "chip.go:116", #[⟨2, .data⟩, ⟨12, .data⟩, ⟨2, .chain⟩], none⟩) rfl (fun K hK => ?_) AllReadyH.nil
  refine wp_copy _ _ 38 rfl _ _ _ _ rfl rfl hrun ?_
  refine hK.out _ _ ?_ (fun hNew => ?_)
  · (first | exact ⟨y14, z0, z1⟩ | exact ⟨c14, zz0, zz1⟩ | assumption)
  clear hK K hHeld
  have hHeld := hNew
  clear hNew
  try simp only [Act.put, pz1, pz2, pz3]
  refine wpAnyH_done (by kernel_rfl) ?_ _
  refine NoPanic.normal ?_
  go_wp2_with fail
  go_upto_region 11 with fail
  replace hC := hCY
  have hz9 := HT.size
  replace HT := HT.trans hTY
  clear hCY hTY z0 z1 zz0 zz1 hrun y14 c14 hmin
  have z0 := G1.cell_ 0
  have z1 := G1.cell_ 1
  simp at z0 z1
  obtain ⟨S0, hS0⟩ : ∃ S0 : ChS, S0 = { s.tick with X := putX s.tick.X (N * RW) (bs.take Q) } := ⟨_, rfl⟩
  rw [← hS0] at hC HKB
  have HS0 := Lib.hid hS0
  have i0 : (0 : Int) ≤ (k : Int) := by omega
  clear hS0
  obtain ⟨cb0, NB0, hkN0, y7, cz, fb, hKl⟩ := chip_k (j := 0) hC hk (by omega)
  obtain ⟨v0, hv0⟩ : ∃ v, ChS.k S0 (k : Int) 0 = v := ⟨_, rfl⟩
  rw [hv0] at cz
  have HV0 := Lib.hid hv0
  have hbd0 : 0 ≤ v0 ∧ v0 ≤ n + 1 := by rw [← hv0]; exact HKB.out _
  obtain ⟨b00, b10⟩ := hbd0
  have hwr0 : IntKind.i64.wrap (v0 + 1) = v0 + 1 := wrapS _ (by omega) (by omega)
  (try rw [Nat.add_zero] at cz hKl)
  clear hv0
  go_still_tail 12, (by kernel_rfl)
  change wpList _ _ _ _ _ wY.drew
  go_wp2_with fail
  have hS := setK_chip hC hKl (v0 + 1)
  have hSd := ChipW.drew hS.1
  have hTd : Tch (chB m gx gb) w ((wY.setCell ⟨gb, k * 3, none⟩ (.int .i64 (v0 + 1))).drew) := (HT.trans hS.2).like
  have hG : Blk ((wY.setCell ⟨gb, k * 3, none⟩ (.int .i64 (v0 + 1))).drew) w.heap.size 27 #[.int .i64 (k : Int), .int .i64 (l : Int)] := G1.far (p := ⟨gb, k * 3, none⟩) (fun e => hnb (Or.inr (Or.inr e))) _
  clear HT hC G1 z0 z1 y7 cz fb hS hwr0
  generalize (wY.setCell ⟨gb, k * 3, none⟩ (.int .i64 (v0 + 1))).drew = w2 at hSd hTd hG ⊢
  have hC := hSd
  have HT := hTd
  have G1 := hG
  clear hSd hTd hG
  have z0 := G1.cell_ 0
  have z1 := G1.cell_ 1
  simp at z0 z1
  go_wp2_with fail
  go_ret
  have hfin : { S0 with K := S0.K.set (k * 3) (v0 + 1) } = s.progCut k N RW (bs.take Q) := by
    rw [← HV0.out, HS0.out]
    unfold ChS.progCut ChS.inc
    rw [tick_X]
    rfl
  rw [← hfin]
  exact ⟨rfl, hC, HT⟩
end Go.Proofs.Ytcpniplfkillbaa
namespace Go.Proofs.Ytcpniplfkillbaa
open Go.ChangeShapes Go.WideShapes Go.ChangeAt Go.RowKit
theorem putX_get {X : List Nat} {F : Nat} {vs : List Nat} (h : F + vs.length ≤ X.length) (j : Nat) : (putX X F vs)[j]? = if j < F then X[j]? else if j < F + vs.length then vs[j - F]? else X[j]? := by
  have ht : (X.take F).length = F := by rw [List.length_take]; omega
  unfold putX
  by_cases h1 : j < F
  · rw [if_pos h1, List.append_assoc, List.getElem?_append_left (by rw [ht]; exact h1), List.getElem?_take_of_lt h1]
  · rw [if_neg h1]
    by_cases h2 : j < F + vs.length
    · rw [if_pos h2, List.append_assoc, List.getElem?_append_right (by rw [ht]; omega), ht, List.getElem?_append_left (by omega)]
    · rw [if_neg h2, List.getElem?_append_right (by rw [List.length_append, ht]; omega), List.length_append, ht, List.getElem?_drop]
      congr 1
      omega
def ChS.wipe (s : ChS) (b : Int) (k SZ f : Nat) : ChS := { s with X := putX s.X (k * SZ) (List.replicate SZ f), K := ((s.K.set (k * 3) (if f = 255 then 0 else b)).set (k * 3 + 1) (s.k (k : Int) 1 + 1)).set (k * 3 + 2) (s.k (k : Int) 2 + 1) }
theorem blk_ok {w : World} {m gx gb : Nat} {Af : Option Addr} {nf cf : Nat} {a b c d e : Int} {fs : List Flt} {s : ChS} (hC : ChipW w m gx gb Af nf cf a b c d e fs s) {k : Nat} (hk : (k : Int) < a) : ∃ SZ RW : Nat, (RW : Int) = c + 16 ∧ (SZ : Int) = b * (c + 16) ∧ k * SZ + SZ ≤ s.X.length ∧ SZ ≤ 640 ∧ 160 ≤ SZ := by
  obtain ⟨hm, -, -⟩ := planMay_bd hC.may
  obtain ⟨g1, g2, g3, g4, g5, g6, -⟩ := may_bd hm
  obtain ⟨p1, p2⟩ := mul_bd (x := b) (y := c + 16) (lo := 4) (hi := 8) (l2 := 40) (h2 := 80) g3 g4 (by omega) (by omega) (by omega) (by omega)
  obtain ⟨RW, hR⟩ : ∃ RW : Nat, (RW : Int) = c + 16 := ⟨(c + 16).toNat, by omega⟩
  obtain ⟨SZ, hS⟩ : ∃ SZ : Nat, (SZ : Int) = b * (c + 16) := ⟨(b * (c + 16)).toNat, by omega⟩
  refine ⟨SZ, RW, hR, hS, ?_, by omega, by omega⟩
  have h3 : ((k : Int) + 1) * (SZ : Int) ≤ a * (SZ : Int) := Int.mul_le_mul_of_nonneg_right (by omega) (by omega)
  rw [Int.add_mul, Int.one_mul] at h3
  have h4 : ((k * SZ + SZ : Nat) : Int) = (k : Int) * (SZ : Int) + (SZ : Int) := by push_cast; rfl
  have h5 : a * (SZ : Int) = a * b * (c + 16) := by rw [hS, Int.mul_assoc]
  rw [hC.lenX]
  omega
end Go.Proofs.Ytcpniplfkillbaa
namespace Go.Proofs.Ytcpniplfkillbaa
open Go.ChangeShapes Go.WideShapes Go.ChangeAt Go.RowKit
theorem tick_bnd {s : ChS} {n : Int} (h : s.Bnd n) : s.tick.Bnd (n + 1) := by
  obtain ⟨o0, o1, c0, c1, k0, k1⟩ := h
  have hk : ∀ i, s.tick.K.getD i 0 = s.K.getD i 0 := fun i => by rw [tick_K]
  refine ⟨?_, ?_, ?_, ?_, fun i => by rw [hk]; exact k0 i, fun i => by rw [hk]; have := k1 i; omega⟩
  all_goals
    unfold ChS.tick
    split <;> dsimp only <;> omega
end Go.Proofs.Ytcpniplfkillbaa
namespace Go.Proofs.Ytcpniplfkillbaa
open Go.ChangeShapes Go.WideShapes Go.ChangeAt Go.RowKit
theorem unarmed {s : ChS} (h : s.armed = false) : s.cutB = false := by simp [ChS.cutB, h]
theorem k_set_other {s : ChS} {k j i : Nat} (v : Int) (l : Nat) (h : i ≠ 3 * l + j) : ({ s with K := s.K.set i v } : ChS).k (l : Int) j = s.k (l : Int) j := by
  unfold ChS.k
  dsimp only
  rw [Int.toNat_natCast, getD_setN, if_neg (fun e => h e.1)]
theorem bnd_set {s : ChS} {n : Int} (h : s.Bnd n) (i : Nat) (v : Int) (h0 : 0 ≤ v) (h1 : v ≤ n) : ({ s with K := s.K.set i v } : ChS).Bnd n := by
  obtain ⟨o0, o1, c0, c1, k0, k1⟩ := h
  refine ⟨o0, o1, c0, c1, fun j => ?_, fun j => ?_⟩
  · dsimp only
    rw [getD_setN]
    split
    · exact h0
    · exact k0 j
  · dsimp only
    rw [getD_setN]
    split
    · exact h1
    · exact k1 j
theorem bnd_mono {s : ChS} {n n' : Int} (h : s.Bnd n) (hn : n ≤ n') : s.Bnd n' := by
  obtain ⟨o0, o1, c0, c1, k0, k1⟩ := h
  exact ⟨o0, by omega, c0, by omega, k0, fun j => by have := k1 j; omega⟩
theorem bnd_X {s : ChS} {n : Int} (h : s.Bnd n) (X : List Nat) : ({ s with X := X } : ChS).Bnd n := by
  obtain ⟨o0, o1, c0, c1, k0, k1⟩ := h
  exact ⟨o0, o1, c0, c1, k0, k1⟩
theorem k_le {s : ChS} {n : Int} (h : s.Bnd n) (B : Int) (j : Nat) : 0 ≤ s.k B j ∧ s.k B j ≤ n := ⟨h.k0 _, h.k1 _⟩
theorem inc_bnd {s : ChS} {n : Int} (h : s.Bnd n) (k j : Nat) : (s.inc k j).Bnd (n + 1) := by
  have := k_le h (k : Int) j
  exact bnd_set (bnd_mono h (by omega)) _ _ (by omega) (by omega)
theorem prog_bnd {s : ChS} {n : Int} (h : s.Bnd n) (k N RW : Nat) (bs : List Nat) : (s.prog k N RW bs).Bnd (n + 3) := by
  have h1 := inc_bnd (inc_bnd (bnd_X (tick_bnd h) (putX s.X (N * RW) bs)) k 0) k 2
  exact bnd_mono h1 (by omega)
theorem inc_ko {s : ChS} {k j : Nat} (i l : Nat) (h : k * 3 + j ≠ 3 * l + i) : (s.inc k j).k (l : Int) i = s.k (l : Int) i := k_set_other (k := 0) _ l h
theorem prog_kl {s : ChS} {k : Nat} (N RW : Nat) (bs : List Nat) (l j : Nat) (hl : l ≠ k) (hj : j < 3) : (s.prog k N RW bs).k (l : Int) j = s.k (l : Int) j := by
  unfold ChS.prog
  rw [inc_ko j l (by omega), inc_ko j l (by omega)]
  unfold ChS.k
  dsimp only
  rw [tick_K]
theorem prog_on {s : ChS} (k N RW : Nat) (bs : List Nat) : (s.prog k N RW bs).on = s.tick.on ∧ (s.prog k N RW bs).armed = s.tick.armed ∧ (s.prog k N RW bs).turn = s.tick.turn ∧ (s.prog k N RW bs).ops = s.ops + 1 ∧ (s.prog k N RW bs).cuts = s.tick.cuts ∧ (s.prog k N RW bs).X = putX s.X (N * RW) bs ∧ (s.prog k N RW bs).K.length = s.K.length := by
  refine ⟨rfl, rfl, rfl, ?_, rfl, rfl, ?_⟩
  · show s.tick.ops = s.ops + 1
    unfold ChS.tick
    split <;> rfl
  · show ((s.tick.K.set _ _).set _ _).length = _
    rw [List.length_set, List.length_set, tick_K]
theorem wipe_bnd {s : ChS} {n : Int} (h : s.Bnd n) {b : Int} (hb0 : 0 ≤ b) (hb : b ≤ n + 1) (k SZ f : Nat) : (s.wipe b k SZ f).Bnd (n + 1) := by
  have h1 := k_le h (k : Int) 1
  have h2 := k_le h (k : Int) 2
  unfold ChS.wipe
  have g0 := bnd_set (bnd_X (bnd_mono h (n' := n + 1) (by omega)) (putX s.X (k * SZ) (List.replicate SZ f))) (k * 3) (if f = 255 then 0 else b) (by split <;> omega) (by split <;> omega)
  have g1 := bnd_set g0 (k * 3 + 1) (s.k (k : Int) 1 + 1) (by omega) (by omega)
  exact bnd_set g1 (k * 3 + 2) (s.k (k : Int) 2 + 1) (by omega) (by omega)
theorem wipe_k0 {s : ChS} {b : Int} {k SZ f : Nat} (h : k * 3 + 3 ≤ s.K.length) : (s.wipe b k SZ f).k (k : Int) 0 = if f = 255 then 0 else b := by
  unfold ChS.wipe ChS.k
  dsimp only
  rw [Int.toNat_natCast, getD_setN, if_neg (by omega), getD_setN, if_neg (by omega), getD_setN, if_pos ⟨by omega, by omega⟩]
theorem wipe_k1 {s : ChS} {b : Int} {k SZ f : Nat} (h : k * 3 + 3 ≤ s.K.length) : (s.wipe b k SZ f).k (k : Int) 1 = s.k (k : Int) 1 + 1 := by
  unfold ChS.wipe ChS.k
  dsimp only
  rw [Int.toNat_natCast, getD_setN, if_neg (by omega), getD_setN, if_pos ⟨by omega, by simp; omega⟩]
theorem wipe_page {s : ChS} {b : Int} {k SZ f l RW N : Nat} (hfit : k * SZ + SZ ≤ s.X.length) (hN : N * RW = k * SZ + l * RW) (hl : l * RW + RW ≤ SZ) : (s.wipe b k SZ f).pageOf N RW = List.replicate RW f := by
  unfold ChS.pageOf ChS.wipe
  dsimp only
  apply List.ext_getElem?
  intro j
  rw [List.getElem?_take, List.getElem?_replicate]
  by_cases hj : j < RW
  · rw [if_pos hj, if_pos hj, List.getElem?_drop, putX_get (by simp; omega), if_neg (by omega), if_pos (by simp; omega), List.getElem?_replicate, if_pos (by omega)]
  · rw [if_neg hj, if_neg hj]
end Go.Proofs.Ytcpniplfkillbaa
namespace Go.Proofs.Ytcpniplfkillbaa
open Go.ChangeShapes Go.WideShapes Go.ChangeAt Go.RowKit
theorem cells5 {w : World} {g : Nat} {t : TypeId} {u0 u1 u2 u3 u4 : Value} (h : Blk w g t #[u0, u1, u2, u3, u4]) : w.cell? ⟨g, 0, none⟩ = some u0 ∧ w.cell? ⟨g, 1, none⟩ = some u1 ∧ w.cell? ⟨g, 2, none⟩ = some u2 ∧ w.cell? ⟨g, 3, none⟩ = some u3 ∧ w.cell? ⟨g, 4, none⟩ = some u4 := ⟨h.cell_ 0, h.cell_ 1, h.cell_ 2, h.cell_ 3, h.cell_ 4⟩
def ChS.new (NX NB : Nat) : ChS := ⟨List.replicate NX 255, List.replicate (3 * NB) 0, 0, 0, true, false, 0, 0, 0, 0⟩
theorem infoBlk : (Try.prog.info? 117).map (fun i => (i.zero, i.size, i.bytes)) = some (some (.agg #[.int .i64 0, .int .i64 0, .int .i64 0]), 3, 24) := by kernel_rfl
theorem build_oneb (z : Int) (w : World) : (Instr.buildSlice 38 1 #[(0, .int .u8 z)]).run Try.prog w = .ok (.slice (some ⟨w.heap.size, 0, none⟩) 1 1) (w.alloc (.cells #[.int .u8 z] 5)) := by kernel_rfl
theorem wp_build1b {w : World} {o : Oper} {a : Act} {K : Act → World → Prop} {Q : Exit → Act → World → Prop} (x : Operand) (hop : o.op = Op.buildSlice 38 1 #[(0, x)])
    (z : Int) (hx : a.eval x = .int .u8 z)
    (hK : ∀ w' b, Blk w' b 5 #[.int .u8 z] → w.heap.size ≤ b → Below w.heap.size w w' → K (a.put o.dst (.slice (some ⟨b, 0, none⟩) 1 1)) w') : Oper.wp Try.prog o a w K Q := by
  have hrun := build_oneb z w
  unfold Oper.wp
  simp [execOp, hop, hx, hrun, Result.andThen]
  exact hK _ _ (Blk.new_ _ _ _) (Nat.le_refl _) ((Below.refl _ _).alloc (Nat.le_refl _) _)
theorem own_rowS {w : World} {base n size : Nat} {t : TypeId} {g : Nat} {xs : List Value} (h : w.ownsRow base t size (.slice (some ⟨g, 0, none⟩) n n) n xs) : RowT w g t xs := by
  obtain ⟨hl, h'⟩ := h
  rcases h' with ⟨h0, _⟩ | ⟨g', cap, cur, hv, hb, hh, hnc, _, hsz, ht⟩
  · cases h0
  · cases hv
    refine ⟨cur.toList.drop (n * size), ?_⟩
    unfold Blk
    rw [← ht, List.take_append_drop]
    exact hh
section
variable {P : Program} (w : World)
theorem wp_make {o : Oper} {a : Act} {K : Act → World → Prop} {Q : Exit → Act → World → Prop} (l c : Operand) (t : TypeId) (hop : o.op = Op.makeSlice t l c)
    (base : Nat) (e : TypeId) (i : TypeInfo) (z : Value) (size : Nat) (h1 : P.underlying t = some (.slice e)) (h2 : P.info? e = some i) (h3 : i.zero = some z) (h4 : i.size = size)
    (kl kc : IntKind) (L C : Int) (n : Nat) (hl : a.eval l = .int kl L) (hc : a.eval c = .int kc C) (hL : L = (n : Int)) (hC : C = (n : Int)) (b2 : i.bytes * n ≤ 281474976710656) (b3 : n ≤ maxLen) (b4 : base ≤ w.heap.size)
    (hK : ∀ w', w'.ownsRow base e size (.slice (some ⟨w.heap.size, 0, none⟩) n n) n (madeCells z.cells (n * size)).toList → w.grownBy w' none → K (a.put o.dst (.slice (some ⟨w.heap.size, 0, none⟩) n n)) w') :
    o.wp P a w K Q := by
  obtain ⟨w', hrun, r1, r2⟩ := run_make_full (P := P) w base t e i z size h1 h2 h3 h4 kl kc n b2 b3 b4
  subst hL
  subst hC
  unfold Oper.wp
  simp [execOp, hop, hl, hc, hrun, Result.andThen]
  exact hK w' r1 r2
end
theorem made_ints (n : Nat) : (madeCells (Value.agg #[.int .i64 0, .int .i64 0, .int .i64 0]).cells (n * 3)).toList = List.replicate (3 * n) (Value.int .i64 0) := by
  have hz : ∀ j, (#[Value.int .i64 0, .int .i64 0, .int .i64 0] : Array Value)[j % 3]! = .int .i64 0 := by
    intro j
    have : j % 3 = 0 ∨ j % 3 = 1 ∨ j % 3 = 2 := by omega
    rcases this with h | h | h <;> rw [h] <;> rfl
  have hc : (Value.agg #[.int .i64 0, .int .i64 0, .int .i64 0]).cells = #[Value.int .i64 0, .int .i64 0, .int .i64 0] := rfl
  rw [hc]
  apply List.ext_getElem?
  intro j
  rw [List.getElem?_replicate]
  by_cases hj : j < n * 3
  · rw [if_pos (by omega)]
    have := hz j
    simp only [madeCells, Array.toList_map, List.getElem?_map, Array.toList_range, List.getElem?_range hj, Option.map_some]
    exact congrArg some this
  · rw [if_neg (by omega), List.getElem?_eq_none]
    simp [madeCells]
    omega
theorem wp_makeK {w : World} {o : Oper} {a' : Act} {K : Act → World → Prop} {Q : Exit → Act → World → Prop} (l c : Operand) (hop : o.op = Op.makeSlice 88 l c)
    (a : Int) (NB : Nat) (hl : a'.eval l = .int .i64 a) (hc : a'.eval c = .int .i64 a) (hNB : (NB : Int) = a) (hb : NB ≤ 1000)
    (hK : ∀ w' g, RowT w' g 117 (List.replicate (3 * NB) (Value.int .i64 0)) → w.heap.size ≤ g → Below w.heap.size w w' → K (a'.put o.dst (.slice (some ⟨g, 0, none⟩) NB NB)) w') : Oper.wp Try.prog o a' w K Q := by
  obtain ⟨ti0, hi, hz0, hz1, hz2⟩ := info_parts infoBlk
  refine wp_make w l c 88 hop w.heap.size 117 ti0 _ 3 Try.underlying88 hi hz0 hz1 .i64 .i64 a a NB hl hc hNB.symm hNB.symm (by rw [hz2]; omega) (by unfold maxLen; omega) (Nat.le_refl _) ?_
  intro w' hown hgrow
  rw [made_ints] at hown
  exact hK w' _ (own_rowS hown) (Nat.le_refl _) ((Below.refl _ _).grown hgrow (Nat.le_refl _) (fun k h => by cases h))
theorem rptB_b (v : Int) (b n : Nat) (w : World) (hB : Blk w b 5 #[.int .u8 v]) (n1 : 1 ≤ n) (n2 : n ≤ 100000) :
    Calls Try.prog 51 #[.slice (some ⟨b, 0, none⟩) 1 1, .int .i64 (n : Int)] w fun e' w' => ∃ g, e' = .returned (.slice (some ⟨g, 0, none⟩) n n) ∧ w.heap.size ≤ g ∧ RowT w' g 5 (List.replicate n (.int .u8 v)) ∧ Below w.heap.size w w' :=
  rptB_any v b n w (hB.cell_ 0) hB.lt n1 n2
end Go.Proofs.Ytcpniplfkillbaa
namespace Go.Proofs.Ytcpniplfkillbaa
open Go.ChangeShapes Go.WideShapes Go.ChangeAt Go.RowKit
theorem read_nil (x y : Int) (w : World) : Calls Try.prog 63 #[.pointer none, .agg #[.int .i64 x, .int .i64 y]] w fun e' w' => e' = .returned (.tuple #[.slice none 0 0, .int .i64 1]) ∧ Below w.heap.size w w' := by
  go_enter Try.func63, Try.ntmps63
  go_wp2
  go_ret2
  exact ⟨rfl, (Below.refl _ _).alloc (Nat.le_refl _) _⟩
def bytesL (n : Nat) (Q : Nat) : List Nat := (List.range Q).map fun i => (n + i * 7) % 256
def bytesP (n Q k : Nat) : List Value := (bytesL n k).map byteV ++ List.replicate (Q - k) (byteV 0)
end Go.Proofs.Ytcpniplfkillbaa
namespace Go.Proofs.Ytcpniplfkillbaa
open Go.ChangeShapes Go.WideShapes Go.ChangeAt Go.RowKit
def aS1 : ChS := { ChS.new 1536 8 with armed := true, turn := (ChS.new 1536 8).ops + 1, cop := 1, cby := 3, fill := 0 }
def aS2 : ChS := aS1.progCut 0 0 48 ((bytesL 7 48).take 3)
def aS3 : ChS := aS2.boot
theorem hm8 : Hid (mayB 8 4 32 0 2 = true) := Lib.hid (by decide)
end Go.Proofs.Ytcpniplfkillbaa
namespace Go.Proofs.Ytcpniplfkillbaa
open Go.ChangeShapes Go.WideShapes Go.ChangeAt Go.RowKit
def lowI (x n : Int) : Int := (x % 18446744073709551616) % n
end Go.Proofs.Ytcpniplfkillbaa
namespace Go.Proofs.Ytcpniplfkillbaa
open Go.ChangeShapes Go.WideShapes Go.ChangeAt Go.RowKit
structure Stand (s : ChS) (n : Int) : Prop where
  on : s.on = true
  armed : s.armed = false
  bnd : s.Bnd n
end Go.Proofs.Ytcpniplfkillbaa
namespace Go.Proofs.Ytcpniplfkillbaa
open Go.ChangeShapes Go.WideShapes Go.ChangeAt Go.RowKit
theorem prog_arg (m gx gb : Nat) (Af : Option Addr) (nf cf : Nat) (a b c d e : Int) (fs : List Flt) (x y : Int) (A : Option Addr) (nb cA : Nat) (w : World) (s : ChS) (hC : ChipW w m gx gb Af nf cf a b c d e fs s) (ho : s.on = true) (ht : Hid (thereB a b x y = false)) : Calls Try.prog 30 #[.pointer (some ⟨m, 0, none⟩), .agg #[.int .i64 x, .int .i64 y], .slice A nb cA] w fun e' w' => e' = .returned (.int .i64 2) ∧ Below w.heap.size w w' := by
  have HB0 : Below w.heap.size w (w.alloc (.cells #[.int .i64 x, .int .i64 y] 27)) := (Below.refl _ _).alloc (Nat.le_refl _) _
  have G1 : Blk (w.alloc (.cells #[.int .i64 x, .int .i64 y] 27)) w.heap.size 27 #[.int .i64 x, .int .i64 y] := Blk.new_ _ _ _
  have z0 : (w.alloc (.cells #[.int .i64 x, .int .i64 y] 27)).cell? ⟨w.heap.size, 0, none⟩ = some (.int .i64 x) := G1.cell_ 0
  have z1 : (w.alloc (.cells #[.int .i64 x, .int .i64 y] 27)).cell? ⟨w.heap.size, 1, none⟩ = some (.int .i64 y) := G1.cell_ 1
  have hC := hC.below HB0
  have y10 := cell10 hC
  rw [ho] at y10
  clear ho
  go_enter Try.func30, Try.ntmps30
  go_wp2_with (go_at_call 55; ((with_reducible refine (hasPage_b _ _ _ _ _ _ _ _ _ _ _ _ _ _ _ _ _ hC ht).mono ?_); rintro e' wN ⟨rfl, hb⟩; replace HB0 := btr HB0 HB0.size hb))
  go_ret
  exact ⟨rfl, HB0⟩
theorem putX_page_other {X bs : List Nat} {N N' RW : Nat} (hbl : bs.length = RW) (hf : N * RW + RW ≤ X.length) (hne : N ≠ N') : ((putX X (N * RW) bs).drop (N' * RW)).take RW = (X.drop (N' * RW)).take RW := by
  apply List.ext_getElem?
  intro j
  rw [List.getElem?_take, List.getElem?_take]
  by_cases hj : j < RW
  · rw [if_pos hj, if_pos hj, List.getElem?_drop, List.getElem?_drop, putX_get (by rw [hbl]; exact hf), hbl]
    rcases Nat.lt_or_gt_of_ne hne with h | h
    · have h1 : (N + 1) * RW ≤ N' * RW := Nat.mul_le_mul_right RW h
      rw [Nat.succ_mul] at h1
      rw [if_neg (by omega), if_neg (by omega)]
    · have h1 : (N' + 1) * RW ≤ N * RW := Nat.mul_le_mul_right RW h
      rw [Nat.succ_mul] at h1
      rw [if_pos (by omega)]
  · rw [if_neg hj, if_neg hj]
end Go.Proofs.Ytcpniplfkillbaa
namespace Go.Proofs.Ytcpniplfkillbaa
open Go.ChangeShapes Go.WideShapes Go.ChangeAt Go.RowKit
end Go.Proofs.Ytcpniplfkillbaa
namespace Go.Proofs.Ytcpniplfkillbaa
open Go.ChangeShapes Go.WideShapes Go.ChangeAt Go.RowKit
theorem wipe_kl {s : ChS} {b : Int} {k SZ f : Nat} (l j : Nat) (hl : l ≠ k) (hj : j < 3) : (s.wipe b k SZ f).k (l : Int) j = s.k (l : Int) j := by
  unfold ChS.wipe ChS.k
  dsimp only
  rw [Int.toNat_natCast, getD_setN, if_neg (by omega), getD_setN, if_neg (by omega), getD_setN, if_neg (by omega)]
theorem wipe_page_other {s : ChS} {b : Int} {k SZ f N RW : Nat} (hfit : k * SZ + SZ ≤ s.X.length) (hN : N * RW + RW ≤ k * SZ ∨ k * SZ + SZ ≤ N * RW) : (s.wipe b k SZ f).pageOf N RW = s.pageOf N RW := by
  unfold ChS.pageOf ChS.wipe
  dsimp only
  apply List.ext_getElem?
  intro j
  rw [List.getElem?_take, List.getElem?_take]
  by_cases hj : j < RW
  · rw [if_pos hj, if_pos hj, List.getElem?_drop, List.getElem?_drop, putX_get (by simp; omega), List.length_replicate]
    rcases hN with hN | hN
    · rw [if_pos (by omega)]
    · rw [if_neg (by omega), if_neg (by omega)]
  · rw [if_neg hj, if_neg hj]
theorem page_block {a b c : Int} {k j l N RW SZ : Nat} (hrw : (RW : Int) = c + 16) (hsz : (SZ : Int) = b * (c + 16)) (hl : (l : Int) < b) (hN : (N : Int) = (j : Int) * b + (l : Int)) :
    N * RW = j * SZ + l * RW ∧ l * RW + RW ≤ SZ ∧ (j ≠ k → N * RW + RW ≤ k * SZ ∨ k * SZ + SZ ≤ N * RW) := by
  have e1 : (N : Int) * (RW : Int) = (j : Int) * (SZ : Int) + (l : Int) * (RW : Int) := by
    rw [hN, Int.add_mul, hsz, ← hrw, Int.mul_assoc]
  have e2 : ((l : Int) + 1) * (RW : Int) ≤ b * (RW : Int) := Int.mul_le_mul_of_nonneg_right (by omega) (by omega)
  rw [Int.add_mul, Int.one_mul] at e2
  have e3 : ((N * RW : Nat) : Int) = ((j * SZ + l * RW : Nat) : Int) := by push_cast; exact e1
  have e4 : ((l * RW + RW : Nat) : Int) ≤ (SZ : Int) := by push_cast; rw [hsz, ← hrw]; exact e2
  have f1 : N * RW = j * SZ + l * RW := by omega
  have f2 : l * RW + RW ≤ SZ := by omega
  refine ⟨f1, f2, fun hne => ?_⟩
  rcases Nat.lt_or_gt_of_ne hne with h | h
  · have h1 : (j + 1) * SZ ≤ k * SZ := Nat.mul_le_mul_right SZ h
    rw [Nat.succ_mul] at h1
    omega
  · have h1 : (k + 1) * SZ ≤ j * SZ := Nat.mul_le_mul_right SZ h
    rw [Nat.succ_mul] at h1
    omega
end Go.Proofs.Ytcpniplfkillbaa
namespace Go.Proofs.Ytcpniplfkillbaa
open Go.ChangeShapes Go.WideShapes Go.ChangeAt Go.RowKit
structure Go (s : ChS) (n : Int) : Prop where
  on : s.on = true
  nc : s.cutB = false
  bnd : s.Bnd n
structure GoCut (s : ChS) (n : Int) : Prop where
  on : s.on = true
  cut : s.cutB = true
  bnd : s.Bnd n
theorem Stand.go {s : ChS} {n : Int} (h : Stand s n) : Go s n := ⟨h.on, unarmed h.armed, h.bnd⟩
structure Tickd (s S : ChS) : Prop where
  on : S.on = s.on
  armed : S.armed = s.armed
  turn : S.turn = s.turn
  cop : S.cop = s.cop
  cby : S.cby = s.cby
  fill : S.fill = s.fill
  cuts : S.cuts = s.cuts
  ops : S.ops = s.ops + 1
structure Cutd (s S : ChS) : Prop where
  on : S.on = false
  armed : S.armed = false
  cby : S.cby = s.cby
  fill : S.fill = s.fill
  cuts : S.cuts = s.cuts + 1
  ops : S.ops = s.ops + 1
structure Progd (s S : ChS) (n : Int) (k N RW : Nat) (bs : List Nat) : Prop where
  bnd : S.Bnd (n + 3)
  k0 : S.k (k : Int) 0 = s.k (k : Int) 0 + 1
  k1 : S.k (k : Int) 1 = s.k (k : Int) 1
  ko : ∀ j i : Nat, j ≠ k → i < 3 → S.k (j : Int) i = s.k (j : Int) i
  pg : S.pageOf N RW = bs
  po : ∀ N', N ≠ N' → S.pageOf N' RW = s.pageOf N' RW
structure Wiped (s S : ChS) (n : Int) (b c : Int) (k f : Nat) : Prop where
  bnd : S.Bnd (n + 3)
  k0 : S.k (k : Int) 0 = if f = 255 then 0 else b
  k1 : S.k (k : Int) 1 = s.k (k : Int) 1 + 1
  k2 : S.k (k : Int) 2 = s.k (k : Int) 2 + 1
  ko : ∀ j i : Nat, j ≠ k → i < 3 → S.k (j : Int) i = s.k (j : Int) i
  pg : ∀ l RW N : Nat, (RW : Int) = c + 16 → (l : Int) < b → (N : Int) = (k : Int) * b + (l : Int) → S.pageOf N RW = List.replicate RW f
  po : ∀ j l RW N : Nat, j ≠ k → (RW : Int) = c + 16 → (l : Int) < b → (N : Int) = (j : Int) * b + (l : Int) → S.pageOf N RW = s.pageOf N RW
theorem klenF {w : World} {m gx gb : Nat} {Af : Option Addr} {nf cf : Nat} {a b c d e : Int} {fs : List Flt} {s : ChS} (hC : ChipW w m gx gb Af nf cf a b c d e fs s) {k : Nat} (hk : (k : Int) < a) : k * 3 + 3 ≤ s.K.length := by
  have := hC.lenK
  omega
theorem wipe_k2 {s : ChS} {b : Int} {k SZ f : Nat} (h : k * 3 + 3 ≤ s.K.length) : (s.wipe b k SZ f).k (k : Int) 2 = s.k (k : Int) 2 + 1 := by
  unfold ChS.wipe ChS.k
  dsimp only
  rw [Int.toNat_natCast, getD_setN, if_pos ⟨by omega, by simp; omega⟩]
theorem wiped {w : World} {m gx gb : Nat} {Af : Option Addr} {nf cf : Nat} {a b c d e : Int} {fs : List Flt} {s : ChS} {n : Int} (hC : ChipW w m gx gb Af nf cf a b c d e fs s) {k SZ RW f : Nat} (hk : (k : Int) < a) (hb : s.Bnd n) (hn0 : 20 ≤ n) (hrw : (RW : Int) = c + 16) (hsz : (SZ : Int) = b * (c + 16)) (hfit : k * SZ + SZ ≤ s.X.length) : Wiped s (s.tick.wipe b k SZ f) n b c k f := by
  obtain ⟨g1, g2, g3, g4, -⟩ := may_bd (planMay_bd hC.may).1
  have hkl : k * 3 + 3 ≤ s.tick.K.length := by rw [tick_K]; exact klenF hC hk
  refine ⟨bnd_mono (wipe_bnd (tick_bnd hb) (by omega) (by omega) k SZ f) (by omega), wipe_k0 hkl, ?_, ?_, fun j i hj hi => ?_, fun l RW' N h1 h2 h3 => ?_, fun j l RW' N hj h1 h2 h3 => ?_⟩
  · rw [wipe_k1 hkl]
    unfold ChS.k
    rw [tick_K]
  · rw [wipe_k2 hkl]
    unfold ChS.k
    rw [tick_K]
  · rw [wipe_kl j i hj hi]
    unfold ChS.k
    rw [tick_K]
  · obtain rfl : RW' = RW := by omega
    obtain ⟨f1, f2, -⟩ := page_block (a := a) (k := k) hrw hsz h2 h3
    exact wipe_page (by rw [tick_X]; exact hfit) f1 f2 (l := l)
  · obtain rfl : RW' = RW := by omega
    obtain ⟨f1, f2, f3⟩ := page_block (a := a) (k := k) hrw hsz h2 h3
    rw [wipe_page_other (by rw [tick_X]; exact hfit) (f3 hj)]
    unfold ChS.pageOf
    rw [tick_X]
theorem putX_part_other {X bs : List Nat} {N N' RW : Nat} (hbl : bs.length ≤ RW) (hf : N * RW + RW ≤ X.length) (hne : N ≠ N') : ((putX X (N * RW) bs).drop (N' * RW)).take RW = (X.drop (N' * RW)).take RW := by
  apply List.ext_getElem?
  intro j
  rw [List.getElem?_take, List.getElem?_take]
  by_cases hj : j < RW
  · rw [if_pos hj, if_pos hj, List.getElem?_drop, List.getElem?_drop, putX_get (by omega)]
    rcases Nat.lt_or_gt_of_ne hne with h | h
    · have h1 : (N + 1) * RW ≤ N' * RW := Nat.mul_le_mul_right RW h
      rw [Nat.succ_mul] at h1
      rw [if_neg (by omega), if_neg (by omega)]
    · have h1 : (N' + 1) * RW ≤ N * RW := Nat.mul_le_mul_right RW h
      rw [Nat.succ_mul] at h1
      rw [if_pos (by omega)]
  · rw [if_neg hj, if_neg hj]
theorem progCut_fields {s : ChS} (k N RW : Nat) (bs : List Nat) : (s.progCut k N RW bs).X = putX s.X (N * RW) bs ∧ (s.progCut k N RW bs).K = s.K.set (k * 3 + 0) (s.k (k : Int) 0 + 1) := by
  refine ⟨rfl, ?_⟩
  show s.tick.K.set _ _ = _
  rw [tick_K]
  congr 1
  unfold ChS.k
  dsimp only
  rw [tick_K]
end Go.Proofs.Ytcpniplfkillbaa
namespace Go.Proofs.Ytcpniplfkillbaa
open Go.ChangeShapes Go.WideShapes Go.ChangeAt Go.RowKit
def fltV (f : Flt) : List Value := [.int .i64 f.blk, .bool f.fac, .int .i64 f.aft]
def flatF : List Flt → List Value
  | [] => []
  | f :: fs => fltV f ++ flatF fs
theorem flatF_len : ∀ fs : List Flt, (flatF fs).length = fs.length * 3
  | [] => rfl
  | f :: fs => by
    show (fltV f ++ flatF fs).length = _
    rw [List.length_append, flatF_len fs]
    show 3 + _ = (fs.length + 1) * 3
    omega
theorem flatF_at : ∀ (fs : List Flt) (k : Nat) (f : Flt), fs[k]? = some f → (flatF fs)[k * 3]? = some (.int .i64 f.blk) ∧ (flatF fs)[k * 3 + 1]? = some (.bool f.fac) ∧ (flatF fs)[k * 3 + 2]? = some (.int .i64 f.aft)
  | [], _, _, h => by simp at h
  | g :: fs, 0, f, h => by
    obtain rfl : g = f := by simpa using h
    exact ⟨rfl, rfl, rfl⟩
  | g :: fs, k + 1, f, h => by
    have q := flatF_at fs k f (by simpa using h)
    have e : ∀ j, (flatF (g :: fs))[j + 3]? = (flatF fs)[j]? := fun j => by
      show (fltV g ++ flatF fs)[j + 3]? = _
      rw [List.getElem?_append_right (by simp [fltV])]
      simp [fltV]
    rw [show (k + 1) * 3 = k * 3 + 3 by omega, show k * 3 + 3 + 1 = k * 3 + 1 + 3 by omega, show k * 3 + 3 + 2 = k * 3 + 2 + 3 by omega, e, e, e]
    exact q
theorem flatF_rd {w : World} {g : Nat} : ∀ (fs : List Flt) (off : Nat), (∀ k f, fs[k]? = some f → w.cell? ⟨g, off + k * 3, none⟩ = some (.int .i64 f.blk) ∧ w.cell? ⟨g, off + k * 3 + 1, none⟩ = some (.bool f.fac) ∧ w.cell? ⟨g, off + k * 3 + 2, none⟩ = some (.int .i64 f.aft)) → ∀ j u, (flatF fs)[j]? = some u → w.cell? ⟨g, off + j, none⟩ = some u
  | [], _, _, _, _, hu => by simp [flatF] at hu
  | f :: fs, off, h, j, u, hu => by
    obtain ⟨h0, h1, h2⟩ := h 0 f rfl
    match j, hu with
    | 0, hu =>
      obtain rfl : Value.int .i64 f.blk = u := by simpa [flatF, fltV] using hu
      exact h0
    | 1, hu =>
      obtain rfl : Value.bool f.fac = u := by simpa [flatF, fltV] using hu
      exact h1
    | 2, hu =>
      obtain rfl : Value.int .i64 f.aft = u := by simpa [flatF, fltV] using hu
      exact h2
    | j + 3, hu =>
      have e : (flatF (f :: fs))[j + 3]? = (flatF fs)[j]? := by
        show (fltV f ++ flatF fs)[j + 3]? = _
        rw [List.getElem?_append_right (by simp [fltV])]
        simp [fltV]
      rw [e] at hu
      have q := flatF_rd fs (off + 3) (fun k f' hk => by
        have := h (k + 1) f' (by simpa using hk)
        rw [show off + (k + 1) * 3 = off + 3 + k * 3 by omega] at this
        exact this) j u hu
      rw [show off + (j + 3) = off + 3 + j by omega]
      exact q
theorem flatF_one : ∀ fs : List Flt, ∀ u ∈ flatF fs, u.oneCell' = true
  | [], u, h => by simp [flatF] at h
  | f :: fs, u, h => by
    rcases List.mem_append.1 (show u ∈ fltV f ++ flatF fs from h) with h | h
    · simp only [fltV, List.mem_cons, List.not_mem_nil, or_false] at h
      rcases h with rfl | rfl | rfl <;> rfl
    · exact flatF_one fs u h
def FR (w : World) (A : Option Addr) (fs : List Flt) : Prop := fs = [] ∨ ∃ g, A = some ⟨g, 0, none⟩ ∧ RowT w g 107 (flatF fs)
def FNe (A : Option Addr) (fs : List Flt) (k : Nat) : Prop := fs = [] ∨ ∃ g, A = some ⟨g, 0, none⟩ ∧ g ≠ k
def FGe (A : Option Addr) (fs : List Flt) (k : Nat) : Prop := fs = [] ∨ ∃ g, A = some ⟨g, 0, none⟩ ∧ k ≤ g
theorem FR.below_ {w w' : World} {A : Option Addr} {fs : List Flt} (h : FR w A fs) (hb : Below w.heap.size w w') : FR w' A fs := by
  rcases h with h | ⟨g, e, h⟩
  · exact Or.inl h
  · exact Or.inr ⟨g, e, h.below hb⟩
theorem FR.ne {w : World} {A : Option Addr} {fs : List Flt} (h : FR w A fs) {k : Nat} (hk : w.heap.size ≤ k) : FNe A fs k := by
  rcases h with h | ⟨g, e, h⟩
  · exact Or.inl h
  · exact Or.inr ⟨g, e, by have := h.lt; omega⟩
theorem FNe.fresh {A : Option Addr} {fs : List Flt} {n k : Nat} (h : FGe A fs n) (hk : k < n) : FNe A fs k := by
  rcases h with h | ⟨g, e, h⟩
  · exact Or.inl h
  · exact Or.inr ⟨g, e, by omega⟩
theorem FR.at_ {w : World} {A : Option Addr} {fs : List Flt} (h : FR w A fs) {m gx gb : Nat} (h1 : FNe A fs m) (h2 : FNe A fs gx) (h3 : FNe A fs gb) : FltAt w A fs m gx gb := by
  rcases h with h | ⟨g, e, h⟩
  · exact Or.inl h
  rcases h1 with h1 | ⟨g1, e1, h1⟩
  · exact Or.inl h1
  rcases h2 with h2 | ⟨g2, e2, h2⟩
  · exact Or.inl h2
  rcases h3 with h3 | ⟨g3, e3, h3⟩
  · exact Or.inl h3
  subst e
  cases e1
  cases e2
  cases e3
  refine Or.inr ⟨g, 0, rfl, h.lt, h1, h2, h3, fun k f hf => ?_⟩
  obtain ⟨q0, q1, q2⟩ := flatF_at fs k f hf
  rw [Nat.zero_add]
  exact ⟨h.cell_ q0, h.cell_ q1, h.cell_ q2⟩
theorem infoF : (Try.prog.info? 107).map (fun i => (i.zero, i.size, i.bytes)) = some (some (.agg #[.int .i64 0, .bool false, .int .i64 0]), 3, 24) := by kernel_rfl
theorem slF_not_nil (a : Addr) (n c : Nat) (w : World) : (binOp BinOp.eql 24 (.slice (some a) n c) (.slice none 0 0)).run Try.prog w = .ok (.bool false) w := by kernel_rfl
theorem own_emptyF (w : World) (e : TypeId) : (w.alloc (.cells #[] e)).ownsRow w.heap.size e 3 (.slice (some ⟨w.heap.size, 0, none⟩) 0 0) 0 [] :=
  ⟨by simp, Or.inr ⟨w.heap.size, 0, #[], rfl, Nat.le_refl _, heap_alloc_new w _, by omega, by unfold maxLen; omega, by simp, by simp⟩⟩
theorem own_rowF {w : World} {base n : Nat} {t : TypeId} {v : Value} {xs : List Value} (h : w.ownsRow base t 3 v n xs) : ∃ A c, v = .slice A n c ∧ (n = 0 ∨ ∃ g, A = some ⟨g, 0, none⟩ ∧ RowT w g t xs ∧ base ≤ g) := by
  obtain ⟨hl, h'⟩ := h
  rcases h' with ⟨hv, h0⟩ | ⟨g, cap, cur, rfl, hb, hh, hnc, _, hsz, ht⟩
  · rw [h0] at hl
    simp at hl
    have hn : n = 0 := by omega
    subst hn
    exact ⟨none, 0, hv, Or.inl rfl⟩
  · refine ⟨some ⟨g, 0, none⟩, cap, rfl, Or.inr ⟨g, rfl, ⟨cur.toList.drop (n * 3), ?_⟩, hb⟩⟩
    unfold Blk
    rw [← ht, List.take_append_drop]
    exact hh
theorem fclone_any (fs : List Flt) (A : Option Addr) (c : Nat) (w : World) (hs : SlF w w.heap.size A fs) (hlen : fs.length ≤ 100000) :
    Calls Try.prog 50 #[.slice A fs.length c] w fun e' w' => (∃ A' c', e' = .returned (.slice A' fs.length c') ∧ FR w' A' fs ∧ FGe A' fs w.heap.size) ∧ Below w.heap.size w w' := by
  rcases A with _ | ⟨g, o, sp⟩
  · obtain rfl : fs = [] := by
      rcases hs with h | ⟨g, off, e, _⟩
      · exact h
      · cases e
    have hnil : (binOp BinOp.eql 24 (.slice none 0 c) (.slice none 0 0)).run Try.prog w = .ok (.bool true) w := by kernel_rfl
    go_enter Try.func50, Try.ntmps50
    go_wp2
    go_ret
    exact ⟨⟨none, 0, rfl, Or.inl rfl, Or.inl rfl⟩, Below.refl _ _⟩
  · have hnil := slF_not_nil ⟨g, o, sp⟩ fs.length c w
    have HR : Rd (w.alloc (.cells #[] 107)) (some ⟨g, o, sp⟩) fs.length 3 (flatF fs) := by
      refine ⟨flatF_len fs, ?_⟩
      rcases hs with h | ⟨g', off, e, hlt, hc⟩
      · left
        rw [h]
        rfl
      · cases e
        refine Or.inr ⟨g, o, rfl, fun j u hu => ?_⟩
        refine (Below.cell (p := ⟨g, o + j, none⟩) ((Below.refl w.heap.size w).alloc (Nat.le_refl _) (.cells #[] 107)) hlt).trans ?_
        exact flatF_rd fs o hc j u hu
    clear hs
    go_enter Try.func50, Try.ntmps50
    go_upto_region 3 with fail
    refine wp_region_lit ?_
    refine wpList_plain rfl (fun K hK => ?_)
    go_simp
    refine hK _ _ ?_
    clear hK K
    try simp only [Act.put, pz1, pz2, pz3]
    refine wpList_plain rfl (fun K hK => ?_)
    go_simp
    refine hK _ _ ?_
    clear hK K
    try simp only [Act.put, pz1, pz2, pz3]
    obtain ⟨ti0, hi, hz0, hz1, hz2⟩ := info_parts infoF
    refine wpList_app _ rfl (.tmp 5) (.tmp 6) _ rfl w.heap.size 107 ti0 _ 3 24 Try.underlying24 hi hz0 hz1 hz2 rfl (by decide) (.slice (some ⟨w.heap.size, 0, none⟩) 0 0) 0 [] rfl (own_emptyF w _) (some ⟨g, o, sp⟩) fs.length c (flatF fs) rfl HR (flatF_one fs) (by unfold maxLen; omega) (by omega) (by simp) ?_
    intro v' w' ho' hg' hv'
    clear hi hz0 hz1 hz2
    rw [Nat.zero_add, List.nil_append] at ho'
    obtain ⟨A', c', rfl, hR'⟩ := own_rowF ho'
    have HG := Lib.hid hg'
    have HRR := Lib.hid hR'
    clear hg' hR' ho' hv' hnil
    try simp only [Act.put, pz1, pz2, pz3]
    go_wp2_with fail
    go_ret
    have hB : Below w.heap.size w w' := ((Below.refl _ _).alloc (Nat.le_refl _) _).grown HG.out (by simp) (fun g' hg'' => by simp [Value.ownBlock] at hg''; omega)
    refine ⟨⟨A', c', rfl, ?_, ?_⟩, hB⟩
    · rcases HRR.out with h | ⟨g', e, h, _⟩
      · exact Or.inl (List.eq_nil_of_length_eq_zero h)
      · exact Or.inr ⟨g', e, h⟩
    · rcases HRR.out with h | ⟨g', e, _, h⟩
      · exact Or.inl (List.eq_nil_of_length_eq_zero h)
      · exact Or.inr ⟨g', e, h⟩
theorem box_chipF (a b c d e : Int) (AF : Option Addr) (nf cf gx NX gb NB : Nat) (w : World) : (Instr.box 90 (.agg #[.int .i64 a, .int .i64 b, .int .i64 c, .int .i64 d, .int .i64 e, .slice AF nf cf, .slice (some ⟨gx, 0, none⟩) NX NX, .slice (some ⟨gb, 0, none⟩) NB NB, .int .i64 0, .int .i64 0, .bool true, .bool false, .int .i64 0, .int .i64 0, .int .i64 0, .int .u8 0])).run Try.prog w = .ok (.pointer (some ⟨w.heap.size, 0, none⟩)) (w.alloc (.cells #[.int .i64 a, .int .i64 b, .int .i64 c, .int .i64 d, .int .i64 e, .slice AF nf cf, .slice (some ⟨gx, 0, none⟩) NX NX, .slice (some ⟨gb, 0, none⟩) NB NB, .int .i64 0, .int .i64 0, .bool true, .bool false, .int .i64 0, .int .i64 0, .int .i64 0, .int .u8 0] 90)) := by kernel_rfl
theorem wp_boxF {w : World} {o : Oper} {a' : Act} {K : Act → World → Prop} {Q : Exit → Act → World → Prop} (x : Operand) (hop : o.op = Op.box 90 x)
    {a b c d e : Int} {AF : Option Addr} {nf cf gx NX gb NB : Nat} (hx : a'.eval x = .agg #[.int .i64 a, .int .i64 b, .int .i64 c, .int .i64 d, .int .i64 e, .slice AF nf cf, .slice (some ⟨gx, 0, none⟩) NX NX, .slice (some ⟨gb, 0, none⟩) NB NB, .int .i64 0, .int .i64 0, .bool true, .bool false, .int .i64 0, .int .i64 0, .int .i64 0, .int .u8 0])
    (hK : ∀ w' m, Blk w' m 90 #[.int .i64 a, .int .i64 b, .int .i64 c, .int .i64 d, .int .i64 e, .slice AF nf cf, .slice (some ⟨gx, 0, none⟩) NX NX, .slice (some ⟨gb, 0, none⟩) NB NB, .int .i64 0, .int .i64 0, .bool true, .bool false, .int .i64 0, .int .i64 0, .int .i64 0, .int .u8 0] → w.heap.size ≤ m → Below w.heap.size w w' → K (a'.put o.dst (.pointer (some ⟨m, 0, none⟩))) w') : Oper.wp Try.prog o a' w K Q := by
  have hrun := box_chipF a b c d e AF nf cf gx NX gb NB w
  unfold Oper.wp
  simp [execOp, hop, hx, hrun, Result.andThen]
  exact hK _ _ (Blk.new_ _ _ _) (Nat.le_refl _) ((Below.refl _ _).alloc (Nat.le_refl _) _)
theorem pmayF_b (a b c d e : Int) (fs : List Flt) (A : Option Addr) (c0 : Nat) (T : Bool) (w : World) (hs : SlF w w.heap.size A fs) (hc0 : fs.length ≤ c0) (hc1 : c0 ≤ maxLen) (h : Hid (planMay a b c d e fs = T)) : Calls Try.prog 48 #[.agg #[.int .i64 a, .int .i64 b, .int .i64 c, .int .i64 d, .int .i64 e], .slice A fs.length c0] w fun e' w' => e' = .returned (.bool T) ∧ Below w.heap.size w w' := by
  have := pMay_any a b c d e fs A c0 w hs hc0 hc1
  rwa [h.out] at this
theorem newF_no (a b c d e : Int) (fs : List Flt) (A : Option Addr) (c0 : Nat) (w : World) (hs : SlF w w.heap.size A fs) (hc0 : fs.length ≤ c0) (hc1 : c0 ≤ maxLen) (HP : Hid (planMay a b c d e fs = false)) : Calls Try.prog 26 #[.agg #[.int .i64 a, .int .i64 b, .int .i64 c, .int .i64 d, .int .i64 e], .slice A fs.length c0] w fun e' w' => e' = .returned (.pointer none) ∧ Below w.heap.size w w' := by
  have HB0 : Below w.heap.size w (w.alloc (.cells #[.int .i64 a, .int .i64 b, .int .i64 c, .int .i64 d, .int .i64 e] 23)) := (Below.refl _ _).alloc (Nat.le_refl _) _
  have HSF := hs.next HB0
  go_enter Try.func26, Try.ntmps26
  go_wp2_with (go_at_call 48; ((with_reducible refine (pmayF_b _ _ _ _ _ fs _ _ _ _ HSF hc0 hc1 HP).mono ?_); rintro e' wN ⟨rfl, hb⟩; replace HB0 := btr HB0 HB0.size hb))
  go_ret
  exact ⟨rfl, HB0⟩
theorem newF_yes (a b c d e : Int) (fs : List Flt) (A : Option Addr) (c0 : Nat) (NX NB : Nat) (w : World) (hs : SlF w w.heap.size A fs) (hc0 : fs.length ≤ c0) (hc1 : c0 ≤ maxLen) (hfl : fs.length ≤ 100000) (HP : Hid (planMay a b c d e fs = true)) (hNX : (NX : Int) = a * b * (c + 16)) (hNB : (NB : Int) = a) (n1 : 1 ≤ NX) (n2 : NX ≤ 100000) (n3 : NB ≤ 1000) :
    Calls Try.prog 26 #[.agg #[.int .i64 a, .int .i64 b, .int .i64 c, .int .i64 d, .int .i64 e], .slice A fs.length c0] w fun e' w' => (∃ m gx gb AF cf, e' = .returned (.pointer (some ⟨m, 0, none⟩)) ∧ ChipW w' m gx gb AF fs.length cf a b c d e fs (ChS.new NX NB) ∧ w.heap.size ≤ m ∧ w.heap.size ≤ gx ∧ w.heap.size ≤ gb) ∧ Below w.heap.size w w' := by
  have HM : Hid (mayB a b c d e = true) := Lib.hid (planMay_bd HP.out).1
  obtain ⟨q1, q2, q3, q4, q5, q6, -⟩ := may_bd HM.out
  obtain ⟨M, hM⟩ : ∃ M, a * b = M := ⟨_, rfl⟩
  have hMb : 32 ≤ M ∧ M ≤ 160 := by
    have := mul_bd (x := a) (y := b) (lo := 8) (hi := 20) q1 q2 q3 q4 (by omega) (by omega)
    omega
  have hNX' : M * (c + 16) = (NX : Int) := by rw [← hM]; exact hNX.symm
  have hw1 : IntKind.i64.wrap M = M := wrapS _ (by omega) (by omega)
  have hw2 : IntKind.i64.wrap (NX : Int) = (NX : Int) := wrapS _ (by omega) (by omega)
  have HB0 : Below w.heap.size w (w.alloc (.cells #[.int .i64 a, .int .i64 b, .int .i64 c, .int .i64 d, .int .i64 e] 23)) := (Below.refl _ _).alloc (Nat.le_refl _) _
  have HSF := hs.next HB0
  have G1 : Blk (w.alloc (.cells #[.int .i64 a, .int .i64 b, .int .i64 c, .int .i64 d, .int .i64 e] 23)) w.heap.size 23 #[.int .i64 a, .int .i64 b, .int .i64 c, .int .i64 d, .int .i64 e] := Blk.new_ _ _ _
  have HY := cells5 G1
  have HLX : Hid (NX = (a * b * (c + 16)).toNat) := Lib.hid (by rw [← hNX]; rfl)
  have HLK : Hid (3 * NB = 3 * a.toNat) := Lib.hid (by omega)
  clear hNX q1 q2 q3 q4 q5 q6 hMb hs
  go_enter Try.func26, Try.ntmps26
  go_upto_region 3 with (go_at_call 48; ((with_reducible refine (pmayF_b _ _ _ _ _ fs _ _ _ _ HSF hc0 hc1 HP).mono ?_); rintro e' wN ⟨rfl, hb⟩; replace HSF := HSF.next hb; replace G1 := G1.below hb G1.lt; replace HB0 := btr HB0 HB0.size hb; clear HY; have HY := cells5 G1))
  clear hc0 hc1
  refine wp_region_noPanic ?_
  refine wp_region_held_drew (S := (fun w' => w'.cell? ⟨w.heap.size, 0, none⟩ = some (.int .i64 a) ∧ w'.cell? ⟨w.heap.size, 1, none⟩ = some (.int .i64 b) ∧ w'.cell? ⟨w.heap.size, 2, none⟩ = some (.int .i64 c) ∧ w'.cell? ⟨w.heap.size, 3, none⟩ = some (.int .i64 d) ∧ w'.cell? ⟨w.heap.size, 4, none⟩ = some (.int .i64 e))) (by kernel_rfl) ?_ (fun hHeld => ?_)
  · (first | exact HY | assumption)
  refine tk 0 ⟨some 10, .fieldAddr 23 (.tmp 2) 0, 0, "chip.go:42", #[], none⟩ ?_; try simp only [Act.put, pz1, pz2, pz3]
  refine tk 1 ⟨some 11, .load 3 (.tmp 10), 3, "chip.go:42", #[⟨0, .data⟩], none⟩ ?_; try simp only [Act.put, pz1, pz2, pz3]
  refine tk 2 ⟨some 12, .fieldAddr 23 (.tmp 2) 1, 0, "chip.go:42", #[], none⟩ ?_; try simp only [Act.put, pz1, pz2, pz3]
  refine tk 3 ⟨some 13, .load 3 (.tmp 12), 3, "chip.go:42", #[⟨2, .data⟩], none⟩ ?_; try simp only [Act.put, pz1, pz2, pz3]
  refine tk 4 ⟨some 14, .binOp .mul 3 (.tmp 11) (.tmp 13) 3, 3, "chip.go:42", #[⟨1, .data⟩, ⟨3, .data⟩], none⟩ ?_; try simp only [Act.put, pz1, pz2, pz3]
  refine tk 5 ⟨some 15, .load 23 (.tmp 2), 23, "chip.go:42", #[], none⟩ ?_; try simp only [Act.put, pz1, pz2, pz3]
  refine wpAnyH_ready (rs := [6]) (by kernel_rfl) (by simp) ?_
  refine AllReadyH.cons (o := ⟨some 16, .call { callee := .value (.func 49), args := #[.tmp 15], argTypes := #[23] }, 3, "chip.go:42", #[⟨5, .data⟩], none⟩) rfl (fun K hK => ?_) AllReadyH.nil
  go_simp
  (go_at_call 49; ((with_reducible refine (raw_b _ _ _ _ _ _ HM).mono ?_); rintro e' wN ⟨rfl, hb⟩; (try have hb := undrew hb); replace HSF := HSF.next hb; replace G1 := G1.below hb G1.lt; replace HB0 := btr HB0 HB0.size hb; clear HY; have HY := cells5 G1))
  go_wp2_with fail
  refine hK.out _ _ ?_ (fun hNew => ?_)
  · (first | exact HY | assumption)
  clear hK K hHeld
  have hHeld := hNew
  clear hNew
  try simp only [Act.put, pz1, pz2, pz3]
  refine tk 7 ⟨some 17, .binOp .mul 3 (.tmp 14) (.tmp 16) 3, 3, "chip.go:42", #[⟨4, .data⟩, ⟨6, .data⟩], none⟩ ?_; try simp only [Act.put, pz1, pz2, pz3]
  refine tk 8 ⟨some 5, .assign (.tmp 17), 3, "chip.go:42", #[⟨7, .data⟩, ⟨6, .chain⟩, ⟨0, .phase⟩, ⟨1, .phase⟩, ⟨2, .phase⟩, ⟨3, .phase⟩, ⟨4, .phase⟩, ⟨5, .phase⟩, ⟨6, .phase⟩, ⟨7, .phase⟩], none⟩ ?_; try simp only [Act.put, pz1, pz2, pz3]
  refine wpAnyH_done (by kernel_rfl) ?_ _
  refine NoPanic.normal ?_
  go_upto_region 4 with fail
  replace G1 : Blk wN.drew w.heap.size 23 #[.int .i64 a, .int .i64 b, .int .i64 c, .int .i64 d, .int .i64 e] := G1
  replace HB0 := HB0.drew
  replace HSF : SlF wN.drew wN.drew.heap.size A fs := HSF
  have HS : w.heap.size + 1 ≤ wN.drew.heap.size := G1.lt
  clear HY
  have HY := cells5 G1
  clear hb hNX' hw1 hw2 hM
  refine wp_region_noPanic ?_
  refine wp_region_held_drew (S := (fun w' => w'.cell? ⟨w.heap.size, 0, none⟩ = some (.int .i64 a) ∧ w'.cell? ⟨w.heap.size, 1, none⟩ = some (.int .i64 b) ∧ w'.cell? ⟨w.heap.size, 2, none⟩ = some (.int .i64 c) ∧ w'.cell? ⟨w.heap.size, 3, none⟩ = some (.int .i64 d) ∧ w'.cell? ⟨w.heap.size, 4, none⟩ = some (.int .i64 e))) (by kernel_rfl) ?_ (fun hHeld => ?_)
  · (first | exact HY | assumption)
  refine tk 0 ⟨some 18, .load 23 (.tmp 2), 23, "chip.go:43", #[], none⟩ ?_; try simp only [Act.put, pz1, pz2, pz3]
  refine tk 1 ⟨some 19, .move (.tmp 1), 24, "chip.go:43", #[], none⟩ ?_; try simp only [Act.put, pz1, pz2, pz3]
  refine tk 4 ⟨some 22, .move (.tmp 5), 3, "chip.go:43", #[], none⟩ ?_; try simp only [Act.put, pz1, pz2, pz3]
  refine tk 6 ⟨some 24, .fieldAddr 23 (.tmp 2) 0, 0, "chip.go:43", #[], none⟩ ?_; try simp only [Act.put, pz1, pz2, pz3]
  refine tk 7 ⟨some 25, .load 3 (.tmp 24), 3, "chip.go:43", #[⟨6, .data⟩], none⟩ ?_; try simp only [Act.put, pz1, pz2, pz3]
  refine wpAnyH_ready (rs := [2, 3, 8]) (by kernel_rfl) (by simp) ?_
  refine (AllReadyH.cons (o := ⟨some 20, .call { callee := .value (.func 50), args := #[.tmp 19], argTypes := #[24] }, 24, "chip.go:45", #[⟨1, .data⟩], none⟩) rfl (fun K hK => ?_) (AllReadyH.cons (o := ⟨some 21, .buildSlice 38 1 #[(0, .const (.int .u8 255))], 38, "chip.go:43", #[], none⟩) rfl (fun K hK => ?_) (AllReadyH.cons (o := ⟨some 26, .makeSlice 88 (.tmp 25) (.tmp 25), 88, "chip.go:43", #[⟨7, .data⟩, ⟨7, .data⟩], none⟩) rfl (fun K hK => ?_) AllReadyH.nil)))
  · go_simp
    (go_at_call 50; ((with_reducible refine (fclone_any fs _ _ _ HSF hfl).mono ?_); rintro e' wN ⟨⟨AF, cf, rfl, RF, hqf⟩, hb⟩))
    go_wp2_with fail
    (try have hfx := FNe.fresh hqf RX.lt)
    (try have hfb := FNe.fresh hqf RB.lt)
    (try replace HSF := HSF.next hb)
    (try replace B3 := B3.below hb B3.lt)
    (try replace RX := RX.below hb)
    (try replace RB := RB.below hb)
    replace G1 := G1.below hb G1.lt
    clear HY
    have HY := cells5 G1
    replace HB0 := btr HB0 HB0.size hb
    replace HS := Nat.le_trans HS hb.size
    refine hK.out _ _ ?_ (fun hNew => ?_)
    · (first | exact HY | assumption)
    clear hK K hHeld
    have hHeld := hNew
    clear hNew
    try simp only [Act.put, pz1, pz2, pz3]
    refine wpAnyH_ready (rs := [3, 8]) (by kernel_rfl) (by simp) ?_
    refine (AllReadyH.cons (o := ⟨some 21, .buildSlice 38 1 #[(0, .const (.int .u8 255))], 38, "chip.go:43", #[], none⟩) rfl (fun K hK => ?_) (AllReadyH.cons (o := ⟨some 26, .makeSlice 88 (.tmp 25) (.tmp 25), 88, "chip.go:43", #[⟨7, .data⟩, ⟨7, .data⟩], none⟩) rfl (fun K hK => ?_) AllReadyH.nil))
    · refine wp_build1b _ rfl 255 rfl ?_
      intro wN b3 B3 hq hb
      (try replace RF := RF.below_ hb)
      (try replace HSF := HSF.next hb)
      (try replace RX := RX.below hb)
      (try replace RB := RB.below hb)
      replace G1 := G1.below hb G1.lt
      clear HY
      have HY := cells5 G1
      replace HB0 := btr HB0 HB0.size hb
      replace HS := Nat.le_trans HS hb.size
      refine hK.out _ _ ?_ (fun hNew => ?_)
      · (first | exact HY | assumption)
      clear hK K hHeld
      have hHeld := hNew
      clear hNew
      try simp only [Act.put, pz1, pz2, pz3]
      refine wpAnyH_ready (rs := [5, 8]) (by kernel_rfl) (by simp) ?_
      refine (AllReadyH.cons (o := ⟨some 23, .call { callee := .value (.func 51), args := #[.tmp 21, .tmp 22], argTypes := #[38, 3] }, 38, "chip.go:46", #[⟨3, .data⟩, ⟨4, .data⟩, ⟨2, .chain⟩], none⟩) rfl (fun K hK => ?_) (AllReadyH.cons (o := ⟨some 26, .makeSlice 88 (.tmp 25) (.tmp 25), 88, "chip.go:43", #[⟨7, .data⟩, ⟨7, .data⟩], none⟩) rfl (fun K hK => ?_) AllReadyH.nil))
      · go_simp
        (go_at_call 51; ((with_reducible refine (rptB_b 255 b3 NX _ B3 n1 n2).mono ?_); rintro e' wN ⟨gx, rfl, hqx, RX, hb⟩))
        go_wp2_with fail
        have hgx := Nat.le_trans HS hqx
        (try have hxb := Nat.ne_of_gt (Nat.lt_of_lt_of_le RB.lt hqx))
        (try have hfx := RF.ne hqx)
        (try replace RF := RF.below_ hb)
        (try replace HSF := HSF.next hb)
        (try replace B3 := B3.below hb B3.lt)
        (try replace RB := RB.below hb)
        replace G1 := G1.below hb G1.lt
        clear HY
        have HY := cells5 G1
        replace HB0 := btr HB0 HB0.size hb
        replace HS := Nat.le_trans HS hb.size
        refine hK.out _ _ ?_ (fun hNew => ?_)
        · (first | exact HY | assumption)
        clear hK K hHeld
        have hHeld := hNew
        clear hNew
        try simp only [Act.put, pz1, pz2, pz3]
        refine wpAnyH_ready (rs := [8]) (by kernel_rfl) (by simp) ?_
        refine AllReadyH.cons (o := ⟨some 26, .makeSlice 88 (.tmp 25) (.tmp 25), 88, "chip.go:43", #[⟨7, .data⟩, ⟨7, .data⟩], none⟩) rfl (fun K hK => ?_) AllReadyH.nil
        refine wp_makeK _ _ rfl a NB rfl rfl hNB (by omega) ?_
        intro wN gb RB hqb hb
        have hgb := Nat.le_trans HS hqb
        (try have hxb := Nat.ne_of_lt (Nat.lt_of_lt_of_le RX.lt hqb))
        (try have hfb := RF.ne hqb)
        (try replace RF := RF.below_ hb)
        (try replace HSF := HSF.next hb)
        (try replace B3 := B3.below hb B3.lt)
        (try replace RX := RX.below hb)
        replace G1 := G1.below hb G1.lt
        clear HY
        have HY := cells5 G1
        replace HB0 := btr HB0 HB0.size hb
        replace HS := Nat.le_trans HS hb.size
        refine hK.out _ _ ?_ (fun hNew => ?_)
        · (first | exact HY | assumption)
        clear hK K hHeld
        have hHeld := hNew
        clear hNew
        try simp only [Act.put, pz1, pz2, pz3]
        refine tk 9 ⟨some 27, .build 90 #[(0, .tmp 18), (1, .tmp 20), (2, .tmp 23), (3, .tmp 26), (6, .const (.bool true))], 90, "chip.go:43", #[⟨0, .data⟩, ⟨2, .data⟩, ⟨5, .data⟩, ⟨8, .data⟩], none⟩ ?_; try simp only [Act.put, pz1, pz2, pz3]
        refine wpAnyH_ready (rs := [10]) (by kernel_rfl) (by simp) ?_
        refine AllReadyH.cons (o := ⟨some 28, .box 90 (.tmp 27), 29, "chip.go:43", #[⟨9, .data⟩], none⟩) rfl (fun K hK => ?_) AllReadyH.nil
        refine wp_boxF _ rfl rfl ?_
        intro wN m BM hqm hb
        have hm := Nat.le_trans HS hqm
        have h1 : m ≠ gx := Nat.ne_of_gt (Nat.lt_of_lt_of_le RX.lt hqm)
        have h2 : m ≠ gb := Nat.ne_of_gt (Nat.lt_of_lt_of_le RB.lt hqm)
        have hfm := RF.ne hqm
        (try replace RF := RF.below_ hb)
        (try replace HSF := HSF.next hb)
        (try replace B3 := B3.below hb B3.lt)
        (try replace RX := RX.below hb)
        (try replace RB := RB.below hb)
        replace G1 := G1.below hb G1.lt
        clear HY
        have HY := cells5 G1
        replace HB0 := btr HB0 HB0.size hb
        replace HS := Nat.le_trans HS hb.size
        refine hK.out _ _ ?_ (fun hNew => ?_)
        · (first | exact HY | assumption)
        clear hK K hHeld
        have hHeld := hNew
        clear hNew
        try simp only [Act.put, pz1, pz2, pz3]
        refine tk 11 ⟨some 4, .assign (.tmp 28), 29, "chip.go:43", #[⟨10, .data⟩, ⟨5, .chain⟩, ⟨0, .phase⟩, ⟨1, .phase⟩, ⟨2, .phase⟩, ⟨3, .phase⟩, ⟨4, .phase⟩, ⟨5, .phase⟩, ⟨6, .phase⟩, ⟨7, .phase⟩, ⟨8, .phase⟩, ⟨9, .phase⟩, ⟨10, .phase⟩], none⟩ ?_; try simp only [Act.put, pz1, pz2, pz3]
        refine wpAnyH_done (by kernel_rfl) ?_ _
        refine NoPanic.normal ?_
        go_wp2_with fail
        go_ret
        refine ⟨⟨m, gx, gb, AF, cf, rfl, ⟨⟨NX, NB, NX, NB, by simp [ChS.new], hNB, Nat.le_refl _, BM⟩, by simpa [ChS.new, byteV] using RX, by simpa [ChS.new] using RB, RF.at_ hfm hfx hfb, h1, h2, hxb, (List.length_replicate ..).trans HLX.out, (List.length_replicate ..).trans HLK.out, rfl, HP.out⟩, by omega, by omega, by omega⟩, HB0⟩
      · refine wp_makeK _ _ rfl a NB rfl rfl hNB (by omega) ?_
        intro wN gb RB hqb hb
        have hgb := Nat.le_trans HS hqb
        (try have hxb := Nat.ne_of_lt (Nat.lt_of_lt_of_le RX.lt hqb))
        (try have hfb := RF.ne hqb)
        (try replace RF := RF.below_ hb)
        (try replace HSF := HSF.next hb)
        (try replace B3 := B3.below hb B3.lt)
        (try replace RX := RX.below hb)
        replace G1 := G1.below hb G1.lt
        clear HY
        have HY := cells5 G1
        replace HB0 := btr HB0 HB0.size hb
        replace HS := Nat.le_trans HS hb.size
        refine hK.out _ _ ?_ (fun hNew => ?_)
        · (first | exact HY | assumption)
        clear hK K hHeld
        have hHeld := hNew
        clear hNew
        try simp only [Act.put, pz1, pz2, pz3]
        refine wpAnyH_ready (rs := [5]) (by kernel_rfl) (by simp) ?_
        refine AllReadyH.cons (o := ⟨some 23, .call { callee := .value (.func 51), args := #[.tmp 21, .tmp 22], argTypes := #[38, 3] }, 38, "chip.go:46", #[⟨3, .data⟩, ⟨4, .data⟩, ⟨2, .chain⟩], none⟩) rfl (fun K hK => ?_) AllReadyH.nil
        go_simp
        (go_at_call 51; ((with_reducible refine (rptB_b 255 b3 NX _ B3 n1 n2).mono ?_); rintro e' wN ⟨gx, rfl, hqx, RX, hb⟩))
        go_wp2_with fail
        have hgx := Nat.le_trans HS hqx
        (try have hxb := Nat.ne_of_gt (Nat.lt_of_lt_of_le RB.lt hqx))
        (try have hfx := RF.ne hqx)
        (try replace RF := RF.below_ hb)
        (try replace HSF := HSF.next hb)
        (try replace B3 := B3.below hb B3.lt)
        (try replace RB := RB.below hb)
        replace G1 := G1.below hb G1.lt
        clear HY
        have HY := cells5 G1
        replace HB0 := btr HB0 HB0.size hb
        replace HS := Nat.le_trans HS hb.size
        refine hK.out _ _ ?_ (fun hNew => ?_)
        · (first | exact HY | assumption)
        clear hK K hHeld
        have hHeld := hNew
        clear hNew
        try simp only [Act.put, pz1, pz2, pz3]
        refine tk 9 ⟨some 27, .build 90 #[(0, .tmp 18), (1, .tmp 20), (2, .tmp 23), (3, .tmp 26), (6, .const (.bool true))], 90, "chip.go:43", #[⟨0, .data⟩, ⟨2, .data⟩, ⟨5, .data⟩, ⟨8, .data⟩], none⟩ ?_; try simp only [Act.put, pz1, pz2, pz3]
        refine wpAnyH_ready (rs := [10]) (by kernel_rfl) (by simp) ?_
        refine AllReadyH.cons (o := ⟨some 28, .box 90 (.tmp 27), 29, "chip.go:43", #[⟨9, .data⟩], none⟩) rfl (fun K hK => ?_) AllReadyH.nil
        refine wp_boxF _ rfl rfl ?_
        intro wN m BM hqm hb
        have hm := Nat.le_trans HS hqm
        have h1 : m ≠ gx := Nat.ne_of_gt (Nat.lt_of_lt_of_le RX.lt hqm)
        have h2 : m ≠ gb := Nat.ne_of_gt (Nat.lt_of_lt_of_le RB.lt hqm)
        have hfm := RF.ne hqm
        (try replace RF := RF.below_ hb)
        (try replace HSF := HSF.next hb)
        (try replace B3 := B3.below hb B3.lt)
        (try replace RX := RX.below hb)
        (try replace RB := RB.below hb)
        replace G1 := G1.below hb G1.lt
        clear HY
        have HY := cells5 G1
        replace HB0 := btr HB0 HB0.size hb
        replace HS := Nat.le_trans HS hb.size
        refine hK.out _ _ ?_ (fun hNew => ?_)
        · (first | exact HY | assumption)
        clear hK K hHeld
        have hHeld := hNew
        clear hNew
        try simp only [Act.put, pz1, pz2, pz3]
        refine tk 11 ⟨some 4, .assign (.tmp 28), 29, "chip.go:43", #[⟨10, .data⟩, ⟨5, .chain⟩, ⟨0, .phase⟩, ⟨1, .phase⟩, ⟨2, .phase⟩, ⟨3, .phase⟩, ⟨4, .phase⟩, ⟨5, .phase⟩, ⟨6, .phase⟩, ⟨7, .phase⟩, ⟨8, .phase⟩, ⟨9, .phase⟩, ⟨10, .phase⟩], none⟩ ?_; try simp only [Act.put, pz1, pz2, pz3]
        refine wpAnyH_done (by kernel_rfl) ?_ _
        refine NoPanic.normal ?_
        go_wp2_with fail
        go_ret
        refine ⟨⟨m, gx, gb, AF, cf, rfl, ⟨⟨NX, NB, NX, NB, by simp [ChS.new], hNB, Nat.le_refl _, BM⟩, by simpa [ChS.new, byteV] using RX, by simpa [ChS.new] using RB, RF.at_ hfm hfx hfb, h1, h2, hxb, (List.length_replicate ..).trans HLX.out, (List.length_replicate ..).trans HLK.out, rfl, HP.out⟩, by omega, by omega, by omega⟩, HB0⟩
    · refine wp_makeK _ _ rfl a NB rfl rfl hNB (by omega) ?_
      intro wN gb RB hqb hb
      have hgb := Nat.le_trans HS hqb
      (try have hxb := Nat.ne_of_lt (Nat.lt_of_lt_of_le RX.lt hqb))
      (try have hfb := RF.ne hqb)
      (try replace RF := RF.below_ hb)
      (try replace HSF := HSF.next hb)
      (try replace B3 := B3.below hb B3.lt)
      (try replace RX := RX.below hb)
      replace G1 := G1.below hb G1.lt
      clear HY
      have HY := cells5 G1
      replace HB0 := btr HB0 HB0.size hb
      replace HS := Nat.le_trans HS hb.size
      refine hK.out _ _ ?_ (fun hNew => ?_)
      · (first | exact HY | assumption)
      clear hK K hHeld
      have hHeld := hNew
      clear hNew
      try simp only [Act.put, pz1, pz2, pz3]
      refine wpAnyH_ready (rs := [3]) (by kernel_rfl) (by simp) ?_
      refine AllReadyH.cons (o := ⟨some 21, .buildSlice 38 1 #[(0, .const (.int .u8 255))], 38, "chip.go:43", #[], none⟩) rfl (fun K hK => ?_) AllReadyH.nil
      refine wp_build1b _ rfl 255 rfl ?_
      intro wN b3 B3 hq hb
      (try replace RF := RF.below_ hb)
      (try replace HSF := HSF.next hb)
      (try replace RX := RX.below hb)
      (try replace RB := RB.below hb)
      replace G1 := G1.below hb G1.lt
      clear HY
      have HY := cells5 G1
      replace HB0 := btr HB0 HB0.size hb
      replace HS := Nat.le_trans HS hb.size
      refine hK.out _ _ ?_ (fun hNew => ?_)
      · (first | exact HY | assumption)
      clear hK K hHeld
      have hHeld := hNew
      clear hNew
      try simp only [Act.put, pz1, pz2, pz3]
      refine wpAnyH_ready (rs := [5]) (by kernel_rfl) (by simp) ?_
      refine AllReadyH.cons (o := ⟨some 23, .call { callee := .value (.func 51), args := #[.tmp 21, .tmp 22], argTypes := #[38, 3] }, 38, "chip.go:46", #[⟨3, .data⟩, ⟨4, .data⟩, ⟨2, .chain⟩], none⟩) rfl (fun K hK => ?_) AllReadyH.nil
      go_simp
      (go_at_call 51; ((with_reducible refine (rptB_b 255 b3 NX _ B3 n1 n2).mono ?_); rintro e' wN ⟨gx, rfl, hqx, RX, hb⟩))
      go_wp2_with fail
      have hgx := Nat.le_trans HS hqx
      (try have hxb := Nat.ne_of_gt (Nat.lt_of_lt_of_le RB.lt hqx))
      (try have hfx := RF.ne hqx)
      (try replace RF := RF.below_ hb)
      (try replace HSF := HSF.next hb)
      (try replace B3 := B3.below hb B3.lt)
      (try replace RB := RB.below hb)
      replace G1 := G1.below hb G1.lt
      clear HY
      have HY := cells5 G1
      replace HB0 := btr HB0 HB0.size hb
      replace HS := Nat.le_trans HS hb.size
      refine hK.out _ _ ?_ (fun hNew => ?_)
      · (first | exact HY | assumption)
      clear hK K hHeld
      have hHeld := hNew
      clear hNew
      try simp only [Act.put, pz1, pz2, pz3]
      refine tk 9 ⟨some 27, .build 90 #[(0, .tmp 18), (1, .tmp 20), (2, .tmp 23), (3, .tmp 26), (6, .const (.bool true))], 90, "chip.go:43", #[⟨0, .data⟩, ⟨2, .data⟩, ⟨5, .data⟩, ⟨8, .data⟩], none⟩ ?_; try simp only [Act.put, pz1, pz2, pz3]
      refine wpAnyH_ready (rs := [10]) (by kernel_rfl) (by simp) ?_
      refine AllReadyH.cons (o := ⟨some 28, .box 90 (.tmp 27), 29, "chip.go:43", #[⟨9, .data⟩], none⟩) rfl (fun K hK => ?_) AllReadyH.nil
      refine wp_boxF _ rfl rfl ?_
      intro wN m BM hqm hb
      have hm := Nat.le_trans HS hqm
      have h1 : m ≠ gx := Nat.ne_of_gt (Nat.lt_of_lt_of_le RX.lt hqm)
      have h2 : m ≠ gb := Nat.ne_of_gt (Nat.lt_of_lt_of_le RB.lt hqm)
      have hfm := RF.ne hqm
      (try replace RF := RF.below_ hb)
      (try replace HSF := HSF.next hb)
      (try replace B3 := B3.below hb B3.lt)
      (try replace RX := RX.below hb)
      (try replace RB := RB.below hb)
      replace G1 := G1.below hb G1.lt
      clear HY
      have HY := cells5 G1
      replace HB0 := btr HB0 HB0.size hb
      replace HS := Nat.le_trans HS hb.size
      refine hK.out _ _ ?_ (fun hNew => ?_)
      · (first | exact HY | assumption)
      clear hK K hHeld
      have hHeld := hNew
      clear hNew
      try simp only [Act.put, pz1, pz2, pz3]
      refine tk 11 ⟨some 4, .assign (.tmp 28), 29, "chip.go:43", #[⟨10, .data⟩, ⟨5, .chain⟩, ⟨0, .phase⟩, ⟨1, .phase⟩, ⟨2, .phase⟩, ⟨3, .phase⟩, ⟨4, .phase⟩, ⟨5, .phase⟩, ⟨6, .phase⟩, ⟨7, .phase⟩, ⟨8, .phase⟩, ⟨9, .phase⟩, ⟨10, .phase⟩], none⟩ ?_; try simp only [Act.put, pz1, pz2, pz3]
      refine wpAnyH_done (by kernel_rfl) ?_ _
      refine NoPanic.normal ?_
      go_wp2_with fail
      go_ret
      refine ⟨⟨m, gx, gb, AF, cf, rfl, ⟨⟨NX, NB, NX, NB, by simp [ChS.new], hNB, Nat.le_refl _, BM⟩, by simpa [ChS.new, byteV] using RX, by simpa [ChS.new] using RB, RF.at_ hfm hfx hfb, h1, h2, hxb, (List.length_replicate ..).trans HLX.out, (List.length_replicate ..).trans HLK.out, rfl, HP.out⟩, by omega, by omega, by omega⟩, HB0⟩
  · refine wp_build1b _ rfl 255 rfl ?_
    intro wN b3 B3 hq hb
    (try replace RF := RF.below_ hb)
    (try replace HSF := HSF.next hb)
    (try replace RX := RX.below hb)
    (try replace RB := RB.below hb)
    replace G1 := G1.below hb G1.lt
    clear HY
    have HY := cells5 G1
    replace HB0 := btr HB0 HB0.size hb
    replace HS := Nat.le_trans HS hb.size
    refine hK.out _ _ ?_ (fun hNew => ?_)
    · (first | exact HY | assumption)
    clear hK K hHeld
    have hHeld := hNew
    clear hNew
    try simp only [Act.put, pz1, pz2, pz3]
    refine wpAnyH_ready (rs := [2, 8]) (by kernel_rfl) (by simp) ?_
    refine (AllReadyH.cons (o := ⟨some 20, .call { callee := .value (.func 50), args := #[.tmp 19], argTypes := #[24] }, 24, "chip.go:45", #[⟨1, .data⟩], none⟩) rfl (fun K hK => ?_) (AllReadyH.cons (o := ⟨some 26, .makeSlice 88 (.tmp 25) (.tmp 25), 88, "chip.go:43", #[⟨7, .data⟩, ⟨7, .data⟩], none⟩) rfl (fun K hK => ?_) AllReadyH.nil))
    · go_simp
      (go_at_call 50; ((with_reducible refine (fclone_any fs _ _ _ HSF hfl).mono ?_); rintro e' wN ⟨⟨AF, cf, rfl, RF, hqf⟩, hb⟩))
      go_wp2_with fail
      (try have hfx := FNe.fresh hqf RX.lt)
      (try have hfb := FNe.fresh hqf RB.lt)
      (try replace HSF := HSF.next hb)
      (try replace B3 := B3.below hb B3.lt)
      (try replace RX := RX.below hb)
      (try replace RB := RB.below hb)
      replace G1 := G1.below hb G1.lt
      clear HY
      have HY := cells5 G1
      replace HB0 := btr HB0 HB0.size hb
      replace HS := Nat.le_trans HS hb.size
      refine hK.out _ _ ?_ (fun hNew => ?_)
      · (first | exact HY | assumption)
      clear hK K hHeld
      have hHeld := hNew
      clear hNew
      try simp only [Act.put, pz1, pz2, pz3]
      refine wpAnyH_ready (rs := [5, 8]) (by kernel_rfl) (by simp) ?_
      refine (AllReadyH.cons (o := ⟨some 23, .call { callee := .value (.func 51), args := #[.tmp 21, .tmp 22], argTypes := #[38, 3] }, 38, "chip.go:46", #[⟨3, .data⟩, ⟨4, .data⟩, ⟨2, .chain⟩], none⟩) rfl (fun K hK => ?_) (AllReadyH.cons (o := ⟨some 26, .makeSlice 88 (.tmp 25) (.tmp 25), 88, "chip.go:43", #[⟨7, .data⟩, ⟨7, .data⟩], none⟩) rfl (fun K hK => ?_) AllReadyH.nil))
      · go_simp
        (go_at_call 51; ((with_reducible refine (rptB_b 255 b3 NX _ B3 n1 n2).mono ?_); rintro e' wN ⟨gx, rfl, hqx, RX, hb⟩))
        go_wp2_with fail
        have hgx := Nat.le_trans HS hqx
        (try have hxb := Nat.ne_of_gt (Nat.lt_of_lt_of_le RB.lt hqx))
        (try have hfx := RF.ne hqx)
        (try replace RF := RF.below_ hb)
        (try replace HSF := HSF.next hb)
        (try replace B3 := B3.below hb B3.lt)
        (try replace RB := RB.below hb)
        replace G1 := G1.below hb G1.lt
        clear HY
        have HY := cells5 G1
        replace HB0 := btr HB0 HB0.size hb
        replace HS := Nat.le_trans HS hb.size
        refine hK.out _ _ ?_ (fun hNew => ?_)
        · (first | exact HY | assumption)
        clear hK K hHeld
        have hHeld := hNew
        clear hNew
        try simp only [Act.put, pz1, pz2, pz3]
        refine wpAnyH_ready (rs := [8]) (by kernel_rfl) (by simp) ?_
        refine AllReadyH.cons (o := ⟨some 26, .makeSlice 88 (.tmp 25) (.tmp 25), 88, "chip.go:43", #[⟨7, .data⟩, ⟨7, .data⟩], none⟩) rfl (fun K hK => ?_) AllReadyH.nil
        refine wp_makeK _ _ rfl a NB rfl rfl hNB (by omega) ?_
        intro wN gb RB hqb hb
        have hgb := Nat.le_trans HS hqb
        (try have hxb := Nat.ne_of_lt (Nat.lt_of_lt_of_le RX.lt hqb))
        (try have hfb := RF.ne hqb)
        (try replace RF := RF.below_ hb)
        (try replace HSF := HSF.next hb)
        (try replace B3 := B3.below hb B3.lt)
        (try replace RX := RX.below hb)
        replace G1 := G1.below hb G1.lt
        clear HY
        have HY := cells5 G1
        replace HB0 := btr HB0 HB0.size hb
        replace HS := Nat.le_trans HS hb.size
        refine hK.out _ _ ?_ (fun hNew => ?_)
        · (first | exact HY | assumption)
        clear hK K hHeld
        have hHeld := hNew
        clear hNew
        try simp only [Act.put, pz1, pz2, pz3]
        refine tk 9 ⟨some 27, .build 90 #[(0, .tmp 18), (1, .tmp 20), (2, .tmp 23), (3, .tmp 26), (6, .const (.bool true))], 90, "chip.go:43", #[⟨0, .data⟩, ⟨2, .data⟩, ⟨5, .data⟩, ⟨8, .data⟩], none⟩ ?_; try simp only [Act.put, pz1, pz2, pz3]
        refine wpAnyH_ready (rs := [10]) (by kernel_rfl) (by simp) ?_
        refine AllReadyH.cons (o := ⟨some 28, .box 90 (.tmp 27), 29, "chip.go:43", #[⟨9, .data⟩], none⟩) rfl (fun K hK => ?_) AllReadyH.nil
        refine wp_boxF _ rfl rfl ?_
        intro wN m BM hqm hb
        have hm := Nat.le_trans HS hqm
        have h1 : m ≠ gx := Nat.ne_of_gt (Nat.lt_of_lt_of_le RX.lt hqm)
        have h2 : m ≠ gb := Nat.ne_of_gt (Nat.lt_of_lt_of_le RB.lt hqm)
        have hfm := RF.ne hqm
        (try replace RF := RF.below_ hb)
        (try replace HSF := HSF.next hb)
        (try replace B3 := B3.below hb B3.lt)
        (try replace RX := RX.below hb)
        (try replace RB := RB.below hb)
        replace G1 := G1.below hb G1.lt
        clear HY
        have HY := cells5 G1
        replace HB0 := btr HB0 HB0.size hb
        replace HS := Nat.le_trans HS hb.size
        refine hK.out _ _ ?_ (fun hNew => ?_)
        · (first | exact HY | assumption)
        clear hK K hHeld
        have hHeld := hNew
        clear hNew
        try simp only [Act.put, pz1, pz2, pz3]
        refine tk 11 ⟨some 4, .assign (.tmp 28), 29, "chip.go:43", #[⟨10, .data⟩, ⟨5, .chain⟩, ⟨0, .phase⟩, ⟨1, .phase⟩, ⟨2, .phase⟩, ⟨3, .phase⟩, ⟨4, .phase⟩, ⟨5, .phase⟩, ⟨6, .phase⟩, ⟨7, .phase⟩, ⟨8, .phase⟩, ⟨9, .phase⟩, ⟨10, .phase⟩], none⟩ ?_; try simp only [Act.put, pz1, pz2, pz3]
        refine wpAnyH_done (by kernel_rfl) ?_ _
        refine NoPanic.normal ?_
        go_wp2_with fail
        go_ret
        refine ⟨⟨m, gx, gb, AF, cf, rfl, ⟨⟨NX, NB, NX, NB, by simp [ChS.new], hNB, Nat.le_refl _, BM⟩, by simpa [ChS.new, byteV] using RX, by simpa [ChS.new] using RB, RF.at_ hfm hfx hfb, h1, h2, hxb, (List.length_replicate ..).trans HLX.out, (List.length_replicate ..).trans HLK.out, rfl, HP.out⟩, by omega, by omega, by omega⟩, HB0⟩
      · refine wp_makeK _ _ rfl a NB rfl rfl hNB (by omega) ?_
        intro wN gb RB hqb hb
        have hgb := Nat.le_trans HS hqb
        (try have hxb := Nat.ne_of_lt (Nat.lt_of_lt_of_le RX.lt hqb))
        (try have hfb := RF.ne hqb)
        (try replace RF := RF.below_ hb)
        (try replace HSF := HSF.next hb)
        (try replace B3 := B3.below hb B3.lt)
        (try replace RX := RX.below hb)
        replace G1 := G1.below hb G1.lt
        clear HY
        have HY := cells5 G1
        replace HB0 := btr HB0 HB0.size hb
        replace HS := Nat.le_trans HS hb.size
        refine hK.out _ _ ?_ (fun hNew => ?_)
        · (first | exact HY | assumption)
        clear hK K hHeld
        have hHeld := hNew
        clear hNew
        try simp only [Act.put, pz1, pz2, pz3]
        refine wpAnyH_ready (rs := [5]) (by kernel_rfl) (by simp) ?_
        refine AllReadyH.cons (o := ⟨some 23, .call { callee := .value (.func 51), args := #[.tmp 21, .tmp 22], argTypes := #[38, 3] }, 38, "chip.go:46", #[⟨3, .data⟩, ⟨4, .data⟩, ⟨2, .chain⟩], none⟩) rfl (fun K hK => ?_) AllReadyH.nil
        go_simp
        (go_at_call 51; ((with_reducible refine (rptB_b 255 b3 NX _ B3 n1 n2).mono ?_); rintro e' wN ⟨gx, rfl, hqx, RX, hb⟩))
        go_wp2_with fail
        have hgx := Nat.le_trans HS hqx
        (try have hxb := Nat.ne_of_gt (Nat.lt_of_lt_of_le RB.lt hqx))
        (try have hfx := RF.ne hqx)
        (try replace RF := RF.below_ hb)
        (try replace HSF := HSF.next hb)
        (try replace B3 := B3.below hb B3.lt)
        (try replace RB := RB.below hb)
        replace G1 := G1.below hb G1.lt
        clear HY
        have HY := cells5 G1
        replace HB0 := btr HB0 HB0.size hb
        replace HS := Nat.le_trans HS hb.size
        refine hK.out _ _ ?_ (fun hNew => ?_)
        · (first | exact HY | assumption)
        clear hK K hHeld
        have hHeld := hNew
        clear hNew
        try simp only [Act.put, pz1, pz2, pz3]
        refine tk 9 ⟨some 27, .build 90 #[(0, .tmp 18), (1, .tmp 20), (2, .tmp 23), (3, .tmp 26), (6, .const (.bool true))], 90, "chip.go:43", #[⟨0, .data⟩, ⟨2, .data⟩, ⟨5, .data⟩, ⟨8, .data⟩], none⟩ ?_; try simp only [Act.put, pz1, pz2, pz3]
        refine wpAnyH_ready (rs := [10]) (by kernel_rfl) (by simp) ?_
        refine AllReadyH.cons (o := ⟨some 28, .box 90 (.tmp 27), 29, "chip.go:43", #[⟨9, .data⟩], none⟩) rfl (fun K hK => ?_) AllReadyH.nil
        refine wp_boxF _ rfl rfl ?_
        intro wN m BM hqm hb
        have hm := Nat.le_trans HS hqm
        have h1 : m ≠ gx := Nat.ne_of_gt (Nat.lt_of_lt_of_le RX.lt hqm)
        have h2 : m ≠ gb := Nat.ne_of_gt (Nat.lt_of_lt_of_le RB.lt hqm)
        have hfm := RF.ne hqm
        (try replace RF := RF.below_ hb)
        (try replace HSF := HSF.next hb)
        (try replace B3 := B3.below hb B3.lt)
        (try replace RX := RX.below hb)
        (try replace RB := RB.below hb)
        replace G1 := G1.below hb G1.lt
        clear HY
        have HY := cells5 G1
        replace HB0 := btr HB0 HB0.size hb
        replace HS := Nat.le_trans HS hb.size
        refine hK.out _ _ ?_ (fun hNew => ?_)
        · (first | exact HY | assumption)
        clear hK K hHeld
        have hHeld := hNew
        clear hNew
        try simp only [Act.put, pz1, pz2, pz3]
        refine tk 11 ⟨some 4, .assign (.tmp 28), 29, "chip.go:43", #[⟨10, .data⟩, ⟨5, .chain⟩, ⟨0, .phase⟩, ⟨1, .phase⟩, ⟨2, .phase⟩, ⟨3, .phase⟩, ⟨4, .phase⟩, ⟨5, .phase⟩, ⟨6, .phase⟩, ⟨7, .phase⟩, ⟨8, .phase⟩, ⟨9, .phase⟩, ⟨10, .phase⟩], none⟩ ?_; try simp only [Act.put, pz1, pz2, pz3]
        refine wpAnyH_done (by kernel_rfl) ?_ _
        refine NoPanic.normal ?_
        go_wp2_with fail
        go_ret
        refine ⟨⟨m, gx, gb, AF, cf, rfl, ⟨⟨NX, NB, NX, NB, by simp [ChS.new], hNB, Nat.le_refl _, BM⟩, by simpa [ChS.new, byteV] using RX, by simpa [ChS.new] using RB, RF.at_ hfm hfx hfb, h1, h2, hxb, (List.length_replicate ..).trans HLX.out, (List.length_replicate ..).trans HLK.out, rfl, HP.out⟩, by omega, by omega, by omega⟩, HB0⟩
    · refine wp_makeK _ _ rfl a NB rfl rfl hNB (by omega) ?_
      intro wN gb RB hqb hb
      have hgb := Nat.le_trans HS hqb
      (try have hxb := Nat.ne_of_lt (Nat.lt_of_lt_of_le RX.lt hqb))
      (try have hfb := RF.ne hqb)
      (try replace RF := RF.below_ hb)
      (try replace HSF := HSF.next hb)
      (try replace B3 := B3.below hb B3.lt)
      (try replace RX := RX.below hb)
      replace G1 := G1.below hb G1.lt
      clear HY
      have HY := cells5 G1
      replace HB0 := btr HB0 HB0.size hb
      replace HS := Nat.le_trans HS hb.size
      refine hK.out _ _ ?_ (fun hNew => ?_)
      · (first | exact HY | assumption)
      clear hK K hHeld
      have hHeld := hNew
      clear hNew
      try simp only [Act.put, pz1, pz2, pz3]
      refine wpAnyH_ready (rs := [2]) (by kernel_rfl) (by simp) ?_
      refine AllReadyH.cons (o := ⟨some 20, .call { callee := .value (.func 50), args := #[.tmp 19], argTypes := #[24] }, 24, "chip.go:45", #[⟨1, .data⟩], none⟩) rfl (fun K hK => ?_) AllReadyH.nil
      go_simp
      (go_at_call 50; ((with_reducible refine (fclone_any fs _ _ _ HSF hfl).mono ?_); rintro e' wN ⟨⟨AF, cf, rfl, RF, hqf⟩, hb⟩))
      go_wp2_with fail
      (try have hfx := FNe.fresh hqf RX.lt)
      (try have hfb := FNe.fresh hqf RB.lt)
      (try replace HSF := HSF.next hb)
      (try replace B3 := B3.below hb B3.lt)
      (try replace RX := RX.below hb)
      (try replace RB := RB.below hb)
      replace G1 := G1.below hb G1.lt
      clear HY
      have HY := cells5 G1
      replace HB0 := btr HB0 HB0.size hb
      replace HS := Nat.le_trans HS hb.size
      refine hK.out _ _ ?_ (fun hNew => ?_)
      · (first | exact HY | assumption)
      clear hK K hHeld
      have hHeld := hNew
      clear hNew
      try simp only [Act.put, pz1, pz2, pz3]
      refine wpAnyH_ready (rs := [5]) (by kernel_rfl) (by simp) ?_
      refine AllReadyH.cons (o := ⟨some 23, .call { callee := .value (.func 51), args := #[.tmp 21, .tmp 22], argTypes := #[38, 3] }, 38, "chip.go:46", #[⟨3, .data⟩, ⟨4, .data⟩, ⟨2, .chain⟩], none⟩) rfl (fun K hK => ?_) AllReadyH.nil
      go_simp
      (go_at_call 51; ((with_reducible refine (rptB_b 255 b3 NX _ B3 n1 n2).mono ?_); rintro e' wN ⟨gx, rfl, hqx, RX, hb⟩))
      go_wp2_with fail
      have hgx := Nat.le_trans HS hqx
      (try have hxb := Nat.ne_of_gt (Nat.lt_of_lt_of_le RB.lt hqx))
      (try have hfx := RF.ne hqx)
      (try replace RF := RF.below_ hb)
      (try replace HSF := HSF.next hb)
      (try replace B3 := B3.below hb B3.lt)
      (try replace RB := RB.below hb)
      replace G1 := G1.below hb G1.lt
      clear HY
      have HY := cells5 G1
      replace HB0 := btr HB0 HB0.size hb
      replace HS := Nat.le_trans HS hb.size
      refine hK.out _ _ ?_ (fun hNew => ?_)
      · (first | exact HY | assumption)
      clear hK K hHeld
      have hHeld := hNew
      clear hNew
      try simp only [Act.put, pz1, pz2, pz3]
      refine tk 9 ⟨some 27, .build 90 #[(0, .tmp 18), (1, .tmp 20), (2, .tmp 23), (3, .tmp 26), (6, .const (.bool true))], 90, "chip.go:43", #[⟨0, .data⟩, ⟨2, .data⟩, ⟨5, .data⟩, ⟨8, .data⟩], none⟩ ?_; try simp only [Act.put, pz1, pz2, pz3]
      refine wpAnyH_ready (rs := [10]) (by kernel_rfl) (by simp) ?_
      refine AllReadyH.cons (o := ⟨some 28, .box 90 (.tmp 27), 29, "chip.go:43", #[⟨9, .data⟩], none⟩) rfl (fun K hK => ?_) AllReadyH.nil
      refine wp_boxF _ rfl rfl ?_
      intro wN m BM hqm hb
      have hm := Nat.le_trans HS hqm
      have h1 : m ≠ gx := Nat.ne_of_gt (Nat.lt_of_lt_of_le RX.lt hqm)
      have h2 : m ≠ gb := Nat.ne_of_gt (Nat.lt_of_lt_of_le RB.lt hqm)
      have hfm := RF.ne hqm
      (try replace RF := RF.below_ hb)
      (try replace HSF := HSF.next hb)
      (try replace B3 := B3.below hb B3.lt)
      (try replace RX := RX.below hb)
      (try replace RB := RB.below hb)
      replace G1 := G1.below hb G1.lt
      clear HY
      have HY := cells5 G1
      replace HB0 := btr HB0 HB0.size hb
      replace HS := Nat.le_trans HS hb.size
      refine hK.out _ _ ?_ (fun hNew => ?_)
      · (first | exact HY | assumption)
      clear hK K hHeld
      have hHeld := hNew
      clear hNew
      try simp only [Act.put, pz1, pz2, pz3]
      refine tk 11 ⟨some 4, .assign (.tmp 28), 29, "chip.go:43", #[⟨10, .data⟩, ⟨5, .chain⟩, ⟨0, .phase⟩, ⟨1, .phase⟩, ⟨2, .phase⟩, ⟨3, .phase⟩, ⟨4, .phase⟩, ⟨5, .phase⟩, ⟨6, .phase⟩, ⟨7, .phase⟩, ⟨8, .phase⟩, ⟨9, .phase⟩, ⟨10, .phase⟩], none⟩ ?_; try simp only [Act.put, pz1, pz2, pz3]
      refine wpAnyH_done (by kernel_rfl) ?_ _
      refine NoPanic.normal ?_
      go_wp2_with fail
      go_ret
      refine ⟨⟨m, gx, gb, AF, cf, rfl, ⟨⟨NX, NB, NX, NB, by simp [ChS.new], hNB, Nat.le_refl _, BM⟩, by simpa [ChS.new, byteV] using RX, by simpa [ChS.new] using RB, RF.at_ hfm hfx hfb, h1, h2, hxb, (List.length_replicate ..).trans HLX.out, (List.length_replicate ..).trans HLK.out, rfl, HP.out⟩, by omega, by omega, by omega⟩, HB0⟩
  · refine wp_makeK _ _ rfl a NB rfl rfl hNB (by omega) ?_
    intro wN gb RB hqb hb
    have hgb := Nat.le_trans HS hqb
    (try have hxb := Nat.ne_of_lt (Nat.lt_of_lt_of_le RX.lt hqb))
    (try have hfb := RF.ne hqb)
    (try replace RF := RF.below_ hb)
    (try replace HSF := HSF.next hb)
    (try replace B3 := B3.below hb B3.lt)
    (try replace RX := RX.below hb)
    replace G1 := G1.below hb G1.lt
    clear HY
    have HY := cells5 G1
    replace HB0 := btr HB0 HB0.size hb
    replace HS := Nat.le_trans HS hb.size
    refine hK.out _ _ ?_ (fun hNew => ?_)
    · (first | exact HY | assumption)
    clear hK K hHeld
    have hHeld := hNew
    clear hNew
    try simp only [Act.put, pz1, pz2, pz3]
    refine wpAnyH_ready (rs := [2, 3]) (by kernel_rfl) (by simp) ?_
    refine (AllReadyH.cons (o := ⟨some 20, .call { callee := .value (.func 50), args := #[.tmp 19], argTypes := #[24] }, 24, "chip.go:45", #[⟨1, .data⟩], none⟩) rfl (fun K hK => ?_) (AllReadyH.cons (o := ⟨some 21, .buildSlice 38 1 #[(0, .const (.int .u8 255))], 38, "chip.go:43", #[], none⟩) rfl (fun K hK => ?_) AllReadyH.nil))
    · go_simp
      (go_at_call 50; ((with_reducible refine (fclone_any fs _ _ _ HSF hfl).mono ?_); rintro e' wN ⟨⟨AF, cf, rfl, RF, hqf⟩, hb⟩))
      go_wp2_with fail
      (try have hfx := FNe.fresh hqf RX.lt)
      (try have hfb := FNe.fresh hqf RB.lt)
      (try replace HSF := HSF.next hb)
      (try replace B3 := B3.below hb B3.lt)
      (try replace RX := RX.below hb)
      (try replace RB := RB.below hb)
      replace G1 := G1.below hb G1.lt
      clear HY
      have HY := cells5 G1
      replace HB0 := btr HB0 HB0.size hb
      replace HS := Nat.le_trans HS hb.size
      refine hK.out _ _ ?_ (fun hNew => ?_)
      · (first | exact HY | assumption)
      clear hK K hHeld
      have hHeld := hNew
      clear hNew
      try simp only [Act.put, pz1, pz2, pz3]
      refine wpAnyH_ready (rs := [3]) (by kernel_rfl) (by simp) ?_
      refine AllReadyH.cons (o := ⟨some 21, .buildSlice 38 1 #[(0, .const (.int .u8 255))], 38, "chip.go:43", #[], none⟩) rfl (fun K hK => ?_) AllReadyH.nil
      refine wp_build1b _ rfl 255 rfl ?_
      intro wN b3 B3 hq hb
      (try replace RF := RF.below_ hb)
      (try replace HSF := HSF.next hb)
      (try replace RX := RX.below hb)
      (try replace RB := RB.below hb)
      replace G1 := G1.below hb G1.lt
      clear HY
      have HY := cells5 G1
      replace HB0 := btr HB0 HB0.size hb
      replace HS := Nat.le_trans HS hb.size
      refine hK.out _ _ ?_ (fun hNew => ?_)
      · (first | exact HY | assumption)
      clear hK K hHeld
      have hHeld := hNew
      clear hNew
      try simp only [Act.put, pz1, pz2, pz3]
      refine wpAnyH_ready (rs := [5]) (by kernel_rfl) (by simp) ?_
      refine AllReadyH.cons (o := ⟨some 23, .call { callee := .value (.func 51), args := #[.tmp 21, .tmp 22], argTypes := #[38, 3] }, 38, "chip.go:46", #[⟨3, .data⟩, ⟨4, .data⟩, ⟨2, .chain⟩], none⟩) rfl (fun K hK => ?_) AllReadyH.nil
      go_simp
      (go_at_call 51; ((with_reducible refine (rptB_b 255 b3 NX _ B3 n1 n2).mono ?_); rintro e' wN ⟨gx, rfl, hqx, RX, hb⟩))
      go_wp2_with fail
      have hgx := Nat.le_trans HS hqx
      (try have hxb := Nat.ne_of_gt (Nat.lt_of_lt_of_le RB.lt hqx))
      (try have hfx := RF.ne hqx)
      (try replace RF := RF.below_ hb)
      (try replace HSF := HSF.next hb)
      (try replace B3 := B3.below hb B3.lt)
      (try replace RB := RB.below hb)
      replace G1 := G1.below hb G1.lt
      clear HY
      have HY := cells5 G1
      replace HB0 := btr HB0 HB0.size hb
      replace HS := Nat.le_trans HS hb.size
      refine hK.out _ _ ?_ (fun hNew => ?_)
      · (first | exact HY | assumption)
      clear hK K hHeld
      have hHeld := hNew
      clear hNew
      try simp only [Act.put, pz1, pz2, pz3]
      refine tk 9 ⟨some 27, .build 90 #[(0, .tmp 18), (1, .tmp 20), (2, .tmp 23), (3, .tmp 26), (6, .const (.bool true))], 90, "chip.go:43", #[⟨0, .data⟩, ⟨2, .data⟩, ⟨5, .data⟩, ⟨8, .data⟩], none⟩ ?_; try simp only [Act.put, pz1, pz2, pz3]
      refine wpAnyH_ready (rs := [10]) (by kernel_rfl) (by simp) ?_
      refine AllReadyH.cons (o := ⟨some 28, .box 90 (.tmp 27), 29, "chip.go:43", #[⟨9, .data⟩], none⟩) rfl (fun K hK => ?_) AllReadyH.nil
      refine wp_boxF _ rfl rfl ?_
      intro wN m BM hqm hb
      have hm := Nat.le_trans HS hqm
      have h1 : m ≠ gx := Nat.ne_of_gt (Nat.lt_of_lt_of_le RX.lt hqm)
      have h2 : m ≠ gb := Nat.ne_of_gt (Nat.lt_of_lt_of_le RB.lt hqm)
      have hfm := RF.ne hqm
      (try replace RF := RF.below_ hb)
      (try replace HSF := HSF.next hb)
      (try replace B3 := B3.below hb B3.lt)
      (try replace RX := RX.below hb)
      (try replace RB := RB.below hb)
      replace G1 := G1.below hb G1.lt
      clear HY
      have HY := cells5 G1
      replace HB0 := btr HB0 HB0.size hb
      replace HS := Nat.le_trans HS hb.size
      refine hK.out _ _ ?_ (fun hNew => ?_)
      · (first | exact HY | assumption)
      clear hK K hHeld
      have hHeld := hNew
      clear hNew
      try simp only [Act.put, pz1, pz2, pz3]
      refine tk 11 ⟨some 4, .assign (.tmp 28), 29, "chip.go:43", #[⟨10, .data⟩, ⟨5, .chain⟩, ⟨0, .phase⟩, ⟨1, .phase⟩, ⟨2, .phase⟩, ⟨3, .phase⟩, ⟨4, .phase⟩, ⟨5, .phase⟩, ⟨6, .phase⟩, ⟨7, .phase⟩, ⟨8, .phase⟩, ⟨9, .phase⟩, ⟨10, .phase⟩], none⟩ ?_; try simp only [Act.put, pz1, pz2, pz3]
      refine wpAnyH_done (by kernel_rfl) ?_ _
      refine NoPanic.normal ?_
      go_wp2_with fail
      go_ret
      refine ⟨⟨m, gx, gb, AF, cf, rfl, ⟨⟨NX, NB, NX, NB, by simp [ChS.new], hNB, Nat.le_refl _, BM⟩, by simpa [ChS.new, byteV] using RX, by simpa [ChS.new] using RB, RF.at_ hfm hfx hfb, h1, h2, hxb, (List.length_replicate ..).trans HLX.out, (List.length_replicate ..).trans HLK.out, rfl, HP.out⟩, by omega, by omega, by omega⟩, HB0⟩
    · refine wp_build1b _ rfl 255 rfl ?_
      intro wN b3 B3 hq hb
      (try replace RF := RF.below_ hb)
      (try replace HSF := HSF.next hb)
      (try replace RX := RX.below hb)
      (try replace RB := RB.below hb)
      replace G1 := G1.below hb G1.lt
      clear HY
      have HY := cells5 G1
      replace HB0 := btr HB0 HB0.size hb
      replace HS := Nat.le_trans HS hb.size
      refine hK.out _ _ ?_ (fun hNew => ?_)
      · (first | exact HY | assumption)
      clear hK K hHeld
      have hHeld := hNew
      clear hNew
      try simp only [Act.put, pz1, pz2, pz3]
      refine wpAnyH_ready (rs := [2]) (by kernel_rfl) (by simp) ?_
      refine AllReadyH.cons (o := ⟨some 20, .call { callee := .value (.func 50), args := #[.tmp 19], argTypes := #[24] }, 24, "chip.go:45", #[⟨1, .data⟩], none⟩) rfl (fun K hK => ?_) AllReadyH.nil
      go_simp
      (go_at_call 50; ((with_reducible refine (fclone_any fs _ _ _ HSF hfl).mono ?_); rintro e' wN ⟨⟨AF, cf, rfl, RF, hqf⟩, hb⟩))
      go_wp2_with fail
      (try have hfx := FNe.fresh hqf RX.lt)
      (try have hfb := FNe.fresh hqf RB.lt)
      (try replace HSF := HSF.next hb)
      (try replace B3 := B3.below hb B3.lt)
      (try replace RX := RX.below hb)
      (try replace RB := RB.below hb)
      replace G1 := G1.below hb G1.lt
      clear HY
      have HY := cells5 G1
      replace HB0 := btr HB0 HB0.size hb
      replace HS := Nat.le_trans HS hb.size
      refine hK.out _ _ ?_ (fun hNew => ?_)
      · (first | exact HY | assumption)
      clear hK K hHeld
      have hHeld := hNew
      clear hNew
      try simp only [Act.put, pz1, pz2, pz3]
      refine wpAnyH_ready (rs := [5]) (by kernel_rfl) (by simp) ?_
      refine AllReadyH.cons (o := ⟨some 23, .call { callee := .value (.func 51), args := #[.tmp 21, .tmp 22], argTypes := #[38, 3] }, 38, "chip.go:46", #[⟨3, .data⟩, ⟨4, .data⟩, ⟨2, .chain⟩], none⟩) rfl (fun K hK => ?_) AllReadyH.nil
      go_simp
      (go_at_call 51; ((with_reducible refine (rptB_b 255 b3 NX _ B3 n1 n2).mono ?_); rintro e' wN ⟨gx, rfl, hqx, RX, hb⟩))
      go_wp2_with fail
      have hgx := Nat.le_trans HS hqx
      (try have hxb := Nat.ne_of_gt (Nat.lt_of_lt_of_le RB.lt hqx))
      (try have hfx := RF.ne hqx)
      (try replace RF := RF.below_ hb)
      (try replace HSF := HSF.next hb)
      (try replace B3 := B3.below hb B3.lt)
      (try replace RB := RB.below hb)
      replace G1 := G1.below hb G1.lt
      clear HY
      have HY := cells5 G1
      replace HB0 := btr HB0 HB0.size hb
      replace HS := Nat.le_trans HS hb.size
      refine hK.out _ _ ?_ (fun hNew => ?_)
      · (first | exact HY | assumption)
      clear hK K hHeld
      have hHeld := hNew
      clear hNew
      try simp only [Act.put, pz1, pz2, pz3]
      refine tk 9 ⟨some 27, .build 90 #[(0, .tmp 18), (1, .tmp 20), (2, .tmp 23), (3, .tmp 26), (6, .const (.bool true))], 90, "chip.go:43", #[⟨0, .data⟩, ⟨2, .data⟩, ⟨5, .data⟩, ⟨8, .data⟩], none⟩ ?_; try simp only [Act.put, pz1, pz2, pz3]
      refine wpAnyH_ready (rs := [10]) (by kernel_rfl) (by simp) ?_
      refine AllReadyH.cons (o := ⟨some 28, .box 90 (.tmp 27), 29, "chip.go:43", #[⟨9, .data⟩], none⟩) rfl (fun K hK => ?_) AllReadyH.nil
      refine wp_boxF _ rfl rfl ?_
      intro wN m BM hqm hb
      have hm := Nat.le_trans HS hqm
      have h1 : m ≠ gx := Nat.ne_of_gt (Nat.lt_of_lt_of_le RX.lt hqm)
      have h2 : m ≠ gb := Nat.ne_of_gt (Nat.lt_of_lt_of_le RB.lt hqm)
      have hfm := RF.ne hqm
      (try replace RF := RF.below_ hb)
      (try replace HSF := HSF.next hb)
      (try replace B3 := B3.below hb B3.lt)
      (try replace RX := RX.below hb)
      (try replace RB := RB.below hb)
      replace G1 := G1.below hb G1.lt
      clear HY
      have HY := cells5 G1
      replace HB0 := btr HB0 HB0.size hb
      replace HS := Nat.le_trans HS hb.size
      refine hK.out _ _ ?_ (fun hNew => ?_)
      · (first | exact HY | assumption)
      clear hK K hHeld
      have hHeld := hNew
      clear hNew
      try simp only [Act.put, pz1, pz2, pz3]
      refine tk 11 ⟨some 4, .assign (.tmp 28), 29, "chip.go:43", #[⟨10, .data⟩, ⟨5, .chain⟩, ⟨0, .phase⟩, ⟨1, .phase⟩, ⟨2, .phase⟩, ⟨3, .phase⟩, ⟨4, .phase⟩, ⟨5, .phase⟩, ⟨6, .phase⟩, ⟨7, .phase⟩, ⟨8, .phase⟩, ⟨9, .phase⟩, ⟨10, .phase⟩], none⟩ ?_; try simp only [Act.put, pz1, pz2, pz3]
      refine wpAnyH_done (by kernel_rfl) ?_ _
      refine NoPanic.normal ?_
      go_wp2_with fail
      go_ret
      refine ⟨⟨m, gx, gb, AF, cf, rfl, ⟨⟨NX, NB, NX, NB, by simp [ChS.new], hNB, Nat.le_refl _, BM⟩, by simpa [ChS.new, byteV] using RX, by simpa [ChS.new] using RB, RF.at_ hfm hfx hfb, h1, h2, hxb, (List.length_replicate ..).trans HLX.out, (List.length_replicate ..).trans HLK.out, rfl, HP.out⟩, by omega, by omega, by omega⟩, HB0⟩
end Go.Proofs.Ytcpniplfkillbaa
namespace Go.Proofs.Ytcpniplfkillbaa
open Go.ChangeShapes Go.WideShapes Go.ChangeAt Go.RowKit
theorem prog_len (m gx gb : Nat) (Af : Option Addr) (nf cf : Nat) (a b c d e : Int) (fs : List Flt) (RW : Nat) (x y : Int) (A : Option Addr) (nb cA : Nat) (w : World) (s : ChS) (hC : ChipW w m gx gb Af nf cf a b c d e fs s) (ho : s.on = true) (ht : Hid (thereB a b x y = true)) (HRW : Hid ((RW : Int) = c + 16)) (hne : nb ≠ RW) : Calls Try.prog 30 #[.pointer (some ⟨m, 0, none⟩), .agg #[.int .i64 x, .int .i64 y], .slice A nb cA] w fun e' w' => e' = .returned (.int .i64 2) ∧ Below w.heap.size w w' := by
  have HM := Lib.hid (planMay_bd hC.may).1
  have HB0 : Below w.heap.size w (w.alloc (.cells #[.int .i64 x, .int .i64 y] 27)) := (Below.refl _ _).alloc (Nat.le_refl _) _
  have G1 : Blk (w.alloc (.cells #[.int .i64 x, .int .i64 y] 27)) w.heap.size 27 #[.int .i64 x, .int .i64 y] := Blk.new_ _ _ _
  have z0 : (w.alloc (.cells #[.int .i64 x, .int .i64 y] 27)).cell? ⟨w.heap.size, 0, none⟩ = some (.int .i64 x) := G1.cell_ 0
  have z1 : (w.alloc (.cells #[.int .i64 x, .int .i64 y] 27)).cell? ⟨w.heap.size, 1, none⟩ = some (.int .i64 y) := G1.cell_ 1
  have hC := hC.below HB0
  have y10 := cell10 hC
  rw [ho] at y10
  clear ho
  have hnn : ((nb : Int) == (RW : Int)) = false := by simp; omega
  have hnm : ((nb : Int) != (RW : Int)) = true := by simp; omega
  clear hne
  go_enter Try.func30, Try.ntmps30
  go_wp2_with (first
    | (go_at_call 55; ((with_reducible refine (hasPage_b _ _ _ _ _ _ _ _ _ _ _ _ _ _ _ _ _ hC ht).mono ?_); rintro e' wN ⟨rfl, hb⟩; replace hC := hC.below hb; replace HB0 := btr HB0 HB0.size hb; obtain ⟨y0, y1, y2, y3, y4⟩ := geo5 hC))
    | (go_at_call 49; ((with_reducible refine (raw_bb _ _ _ _ _ RW _ HM HRW).mono ?_); rintro e' wN ⟨rfl, hb⟩; replace HB0 := btr HB0 HB0.size hb)))
  go_ret
  exact ⟨rfl, HB0⟩
structure Fine (s : ChS) (n : Int) : Prop where
  bnd : s.Bnd n
  cby : 0 ≤ s.cby
  fill : s.fill < 256
def ChS.progZ (s : ChS) (a b c : Int) (fs : List Flt) (x y : Int) (L : Nat) : Int :=
  if s.on then (if thereB a b x y && decide ((L : Int) = c + 16) then (if s.cutB then 9 else s.wrong a fs x.toNat y.toNat) else 2) else 9
def ChS.progS (s : ChS) (a b c : Int) (fs : List Flt) (x y : Int) (bs : List Nat) : ChS :=
  if s.on && (thereB a b x y && decide ((bs.length : Int) = c + 16)) then
    (if s.wrong a fs x.toNat y.toNat = 0 then (if s.cutB then s.progCut x.toNat (x * b + y).toNat bs.length (bs.take (min bs.length s.cby.toNat)) else s.prog x.toNat (x * b + y).toNat bs.length bs) else s.tick)
  else s
theorem there_nat {a b x y : Int} (h : thereB a b x y = true) : ∃ k l : Nat, x = (k : Int) ∧ y = (l : Int) ∧ (k : Int) < a ∧ (l : Int) < b := by
  obtain ⟨h1, h2, h3, h4⟩ := there_bd h
  exact ⟨x.toNat, y.toNat, by omega, by omega, by omega, by omega⟩
def ChS.eraseZ (s : ChS) (a : Int) (fs : List Flt) (x : Int) : Int :=
  if s.on then (if inB a x then (if s.cutB then 9 else (if failedB a fs s x then 10 else 0)) else 2) else 9
def ChS.eraseS (s : ChS) (a b c : Int) (fs : List Flt) (x : Int) : ChS :=
  if s.on && inB a x then (if failedB a fs s x then s.tick else s.tick.wipe b x.toNat (b * (c + 16)).toNat (if s.cutB then s.fill else 255)) else s
theorem in_nat {a x : Int} (h : inB a x = true) : ∃ k : Nat, x = (k : Int) ∧ (k : Int) < a := by
  unfold inB at h
  simp only [Bool.and_eq_true, decide_eq_true_eq] at h
  exact ⟨x.toNat, by omega, by omega⟩
theorem arm_all (m gx gb : Nat) (Af : Option Addr) (nf cf : Nat) (a b c d e : Int) (fs : List Flt) (xo xb : Int) (xf : Nat) (n : Int) (w : World) (s : ChS) (hC : ChipW w m gx gb Af nf cf a b c d e fs s) (hs : Fine s n) (hn : n ≤ 900000000) :
    Calls Try.prog 14 #[.pointer (some ⟨m, 0, none⟩), .agg #[.int .i64 xo, .int .i64 xb, .int .u8 (xf : Nat)]] w fun e' w' => e' = .returned (.int .i64 (s.armC xo xb)) ∧ ChipW w' m gx gb Af nf cf a b c d e fs (s.arm xo xb xf) ∧ Tch (chB m gx gb) w w' := by
  cases ho : s.on
  · have e1 : s.armC xo xb = 9 := by simp [ChS.armC, ho]
    have e2 : s.arm xo xb xf = s := by simp [ChS.arm, ho]
    rw [e1, e2]
    refine (arm_off m gx gb Af nf cf a b c d e fs xo xb xf w s hC ho).mono ?_
    rintro e' w' ⟨rfl, hb⟩
    exact ⟨rfl, hC.below hb, Tch.of_below hb⟩
  by_cases hx : 1 ≤ xo ∧ xo ≤ 1073741824 ∧ 0 ≤ xb ∧ xb ≤ 1073741824
  · obtain ⟨x1, x2, x3, x4⟩ := hx
    have ha : armOkB xo xb = true := by unfold armOkB; simp; omega
    have e1 : s.armC xo xb = 0 := by simp [ChS.armC, ho, ha]
    have e2 : s.arm xo xb xf = { s with armed := true, turn := s.ops + xo, cop := xo, cby := xb, fill := xf } := by simp [ChS.arm, ho, ha]
    rw [e1, e2]
    exact arm_yes m gx gb Af nf cf a b c d e fs xo xb xf n w s hC hs.bnd (by omega) ho x1 x2 x3 x4
  · have ha : armOkB xo xb = false := by
      cases h : armOkB xo xb
      · rfl
      · exfalso
        apply hx
        unfold armOkB at h
        simp at h
        omega
    have e1 : s.armC xo xb = 2 := by simp [ChS.armC, ho, ha]
    have e2 : s.arm xo xb xf = s := by simp [ChS.arm, ha]
    rw [e1, e2]
    refine (arm_arg m gx gb Af nf cf a b c d e fs xo xb xf w s hC ho (by omega)).mono ?_
    rintro e' w' ⟨rfl, hb⟩
    exact ⟨rfl, hC.below hb, Tch.of_below hb⟩
def ChS.readZ (s : ChS) (a b x y : Int) : Int := if s.on then (if thereB a b x y then (if s.cutB then 9 else 0) else 2) else 9
def ChS.readS (s : ChS) (a b x y : Int) : ChS := if s.on && thereB a b x y then s.tick else s
def ChS.readB (s : ChS) (a b c x y : Int) : List Nat := if s.on && (thereB a b x y && !s.cutB) then s.pageOf (x * b + y).toNat (c + 16).toNat else []
def cntL (z : Int) : Nat := (min (max z 0) 200).toNat
end Go.Proofs.Ytcpniplfkillbaa
namespace Go.Proofs.Ytcpniplfkillbaa
open Go.ChangeShapes Go.WideShapes Go.ChangeAt Go.RowKit
def Filled (s : ChS) (b c : Int) (n k i : Nat) : Prop :=
  s.k (k : Int) 0 = (i : Int) ∧ s.k (k : Int) 1 = 0 ∧ ∀ l RW N : Nat, (RW : Int) = c + 16 → (l : Int) < b → (N : Int) = (k : Int) * b + (l : Int) → s.pageOf N RW = if l < i then bytesL ((n + l) % 256) RW else List.replicate RW 255
theorem Filled.next {s : ChS} {b c : Int} {n k i : Nat} (h : Filled s b c n k i) : s.k (k : Int) 0 = (i : Int) := h.1
theorem Filled.pages {s : ChS} {b c : Int} {n k i : Nat} (h : Filled s b c n k i) : ∀ l RW N : Nat, (RW : Int) = c + 16 → (l : Int) < b → (N : Int) = (k : Int) * b + (l : Int) → s.pageOf N RW = if l < i then bytesL ((n + l) % 256) RW else List.replicate RW 255 := h.2.2
theorem Filled.of {s S : ChS} {b c : Int} {n k i : Nat} (h : Filled s b c n k i) (hk : ∀ B j, S.k B j = s.k B j) (hX : S.X = s.X) : Filled S b c n k i := by
  refine ⟨(hk _ _).trans h.1, (hk _ _).trans h.2.1, fun l RW N h1 h2 h3 => ?_⟩
  have := h.2.2 l RW N h1 h2 h3
  unfold ChS.pageOf at this ⊢
  rw [hX]
  exact this
theorem Filled.more {s S : ChS} {b c : Int} {n k i N0 RW0 : Nat} (h : Filled s b c n k i) (hr : (RW0 : Int) = c + 16) (hN : (N0 : Int) = (k : Int) * b + (i : Int)) (h0 : S.k (k : Int) 0 = (i : Int) + 1) (h1 : S.k (k : Int) 1 = s.k (k : Int) 1) (hp : S.pageOf N0 RW0 = bytesL ((n + i) % 256) RW0) (ho : ∀ N', N0 ≠ N' → S.pageOf N' RW0 = s.pageOf N' RW0) : Filled S b c n k (i + 1) := by
  refine ⟨by rw [h0]; omega, h1.trans h.2.1, fun l RW N q1 q2 q3 => ?_⟩
  obtain rfl : RW = RW0 := by omega
  by_cases hl : l = i
  · subst hl
    obtain rfl : N = N0 := by omega
    rw [hp, if_pos (by omega)]
  · rw [ho N (by omega), h.2.2 l RW N q1 q2 q3]
    by_cases h2 : l < i
    · rw [if_pos h2, if_pos (by omega)]
    · rw [if_neg h2, if_neg (by omega)]
end Go.Proofs.Ytcpniplfkillbaa
namespace Go.Proofs.Ytcpniplfkillbaa
open Go.ChangeShapes Go.WideShapes Go.ChangeAt Go.RowKit
theorem Fine.tick {s : ChS} {n : Int} (h : Fine s n) : Fine s.tick (n + 1) := by
  refine ⟨tick_bnd h.bnd, by rw [tick_cby]; exact h.cby, ?_⟩
  have : s.tick.fill = s.fill := by unfold ChS.tick; split <;> rfl
  rw [this]
  exact h.fill
theorem Fine.mono {s : ChS} {n n' : Int} (h : Fine s n) (hn : n ≤ n') : Fine s n' := ⟨bnd_mono h.bnd hn, h.cby, h.fill⟩
structure Same (s S : ChS) (b c : Int) (k : Nat) : Prop where
  kk : ∀ i : Nat, i < 3 → S.k (k : Int) i = s.k (k : Int) i
  pg : ∀ l RW N : Nat, (RW : Int) = c + 16 → (l : Int) < b → (N : Int) = (k : Int) * b + (l : Int) → S.pageOf N RW = s.pageOf N RW
theorem Same.refl (s : ChS) (b c : Int) (k : Nat) : Same s s b c k := ⟨fun _ _ => rfl, fun _ _ _ _ _ _ => rfl⟩
theorem Same.like {s S : ChS} {b c : Int} {k : Nat} (h1 : S.X = s.X) (h2 : S.K = s.K) : Same s S b c k :=
  ⟨fun i _ => by unfold ChS.k; rw [h2], fun l RW N _ _ _ => by unfold ChS.pageOf; rw [h1]⟩
theorem num_ne {b : Int} {x k y l N N' : Nat} (hb : 0 < b) (hx : x ≠ k) (hy : (y : Int) < b) (hl : (l : Int) < b) (h1 : (N : Int) = (x : Int) * b + (y : Int)) (h2 : (N' : Int) = (k : Int) * b + (l : Int)) : N ≠ N' := by
  intro e
  subst e
  rcases Nat.lt_or_gt_of_ne hx with h | h
  · have := Int.mul_le_mul_of_nonneg_right (a := (x : Int) + 1) (b := (k : Int)) (c := b) (by omega) (by omega)
    rw [Int.add_mul, Int.one_mul] at this
    omega
  · have := Int.mul_le_mul_of_nonneg_right (a := (k : Int) + 1) (b := (x : Int)) (c := b) (by omega) (by omega)
    rw [Int.add_mul, Int.one_mul] at this
    omega
theorem prog_same {w : World} {m gx gb : Nat} {Af : Option Addr} {nf cf : Nat} {a b c d e : Int} {fs : List Flt} {s : ChS} (hC : ChipW w m gx gb Af nf cf a b c d e fs s) {n : Int} (hs : Fine s n) (x y : Int) (bs : List Nat) (k : Nat) (hx : x ≠ (k : Int)) : Same s (s.progS a b c fs x y bs) b c k ∧ Fine (s.progS a b c fs x y bs) (n + 3) := by
  unfold ChS.progS
  cases ho : s.on
  · exact ⟨Same.refl _ _ _ _, hs.mono (by omega)⟩
  cases ht : thereB a b x y
  · exact ⟨Same.refl _ _ _ _, hs.mono (by omega)⟩
  by_cases hL : (bs.length : Int) = c + 16
  · rw [decide_eq_true hL]
    obtain ⟨j, l, rfl, rfl, hj, hl⟩ := there_nat ht
    obtain ⟨N, RW, hnum, hrw, hfit, r1, r2, hN2, hNN⟩ := page_ok hC hj hl
    have hRW : RW = bs.length := by omega
    subst hRW
    have hN' : ((j : Int) * b + (l : Int)).toNat = N := by omega
    have hb := (may_bd (planMay_bd hC.may).1).2.2.1
    simp only [Bool.and_self, if_true, Int.toNat_natCast, hN']
    have hne : ∀ l' N' : Nat, (l' : Int) < b → (N' : Int) = (k : Int) * b + (l' : Int) → N ≠ N' := fun l' N' h1 h2 => num_ne (by omega) (by omega) hl h1 hNN h2
    by_cases hw : s.wrong a fs j l = 0
    · rw [if_pos hw]
      cases hc : s.cutB
      · rw [if_neg (by simp)]
        have hp := prog_on (s := s) j N bs.length bs
        refine ⟨⟨fun i hi => prog_kl N bs.length bs k i (by omega) hi, fun l' RW' N' h1 h2 h3 => ?_⟩, ⟨prog_bnd hs.bnd j N bs.length bs, ?_, ?_⟩⟩
        · obtain rfl : RW' = bs.length := by omega
          unfold ChS.pageOf
          rw [hp.2.2.2.2.2.1]
          exact putX_page_other rfl hfit (hne l' N' h2 h3)
        · exact hs.tick.cby
        · exact hs.tick.fill
      · rw [if_pos rfl]
        have hl2 : (bs.take (min bs.length s.cby.toNat)).length ≤ bs.length := by rw [List.length_take]; omega
        obtain ⟨p1, p2⟩ := progCut_fields (s := s) j N bs.length (bs.take (min bs.length s.cby.toNat))
        refine ⟨⟨fun i hi => ?_, fun l' RW' N' h1 h2 h3 => ?_⟩, ⟨?_, ?_, ?_⟩⟩
        · unfold ChS.k
          rw [p2, Int.toNat_natCast, getD_setN, if_neg (by omega)]
        · obtain rfl : RW' = bs.length := by omega
          unfold ChS.pageOf
          rw [p1]
          exact putX_part_other hl2 hfit (hne l' N' h2 h3)
        · have h1 := inc_bnd (bnd_X (tick_bnd hs.bnd) (putX s.X (N * bs.length) (bs.take (min bs.length s.cby.toNat)))) j 0
          exact bnd_mono h1 (by omega)
        · exact hs.tick.cby
        · exact hs.tick.fill
    · rw [if_neg hw]
      exact ⟨Same.like (tick_X s) (tick_K s), hs.tick.mono (by omega)⟩
  · rw [decide_eq_false hL]
    exact ⟨Same.refl _ _ _ _, hs.mono (by omega)⟩
theorem erase_same {w : World} {m gx gb : Nat} {Af : Option Addr} {nf cf : Nat} {a b c d e : Int} {fs : List Flt} {s : ChS} (hC : ChipW w m gx gb Af nf cf a b c d e fs s) {n : Int} (hs : Fine s n) (hn0 : 20 ≤ n) (x : Int) (k : Nat) (hx : x ≠ (k : Int)) : Same s (s.eraseS a b c fs x) b c k ∧ Fine (s.eraseS a b c fs x) (n + 3) := by
  unfold ChS.eraseS
  cases ho : s.on
  · exact ⟨Same.refl _ _ _ _, hs.mono (by omega)⟩
  cases ht : inB a x
  · exact ⟨Same.refl _ _ _ _, hs.mono (by omega)⟩
  obtain ⟨j, rfl, hj⟩ := in_nat ht
  obtain ⟨SZ, RW, hrw, hsz, hfit, z1, z2⟩ := blk_ok hC hj
  have hS : (b * (c + 16)).toNat = SZ := by omega
  rw [hS, Int.toNat_natCast]
  simp only [Bool.and_self, if_true]
  cases hf : failedB a fs s (j : Int)
  · rw [if_neg (by simp)]
    obtain ⟨F, hF⟩ : ∃ F, (if s.cutB = true then s.fill else 255) = F := ⟨_, rfl⟩
    rw [hF]
    have hq := wiped (f := F) hC hj hs.bnd hn0 hrw hsz hfit
    exact ⟨⟨fun i hi => hq.ko k i (by omega) hi, fun l RW' N h1 h2 h3 => hq.po k l RW' N (by omega) h1 h2 h3⟩, ⟨hq.bnd, hs.tick.cby, hs.tick.fill⟩⟩
  · rw [if_pos rfl]
    exact ⟨Same.like (tick_X s) (tick_K s), hs.tick.mono (by omega)⟩
theorem arm_same (s : ChS) (b c : Int) {n : Int} (hs : Fine s n) (xo xb : Int) (xf k : Nat) (hf : xf < 256) : Same s (s.arm xo xb xf) b c k ∧ Fine (s.arm xo xb xf) n := by
  unfold ChS.arm
  cases h : s.on && armOkB xo xb
  · exact ⟨Same.refl _ _ _ _, hs⟩
  · have hx : 0 ≤ xb := by
      simp only [Bool.and_eq_true] at h
      have := h.2
      unfold armOkB at this
      simp at this
      omega
    obtain ⟨o0, o1, c0, c1, k0, k1⟩ := hs.bnd
    exact ⟨Same.like rfl rfl, ⟨⟨o0, o1, c0, c1, k0, k1⟩, hx, hf⟩⟩
theorem boot_same (s : ChS) (b c : Int) {n : Int} (hs : Fine s n) (k : Nat) : Same s s.boot b c k ∧ Fine s.boot n := by
  unfold ChS.boot
  cases h : s.on
  · obtain ⟨o0, o1, c0, c1, k0, k1⟩ := hs.bnd
    exact ⟨Same.like rfl rfl, ⟨⟨o0, o1, c0, c1, k0, k1⟩, hs.cby, hs.fill⟩⟩
  · exact ⟨Same.refl _ _ _ _, hs⟩
end Go.Proofs.Ytcpniplfkillbaa
namespace Go.Proofs.Ytcpniplfkillbaa
open Go.ChangeShapes Go.WideShapes Go.ChangeAt Go.RowKit
theorem own_base {w : World} {b b' e n size : Nat} {v : Value} {xs : List Value} (h : w.ownsRow b e size v n xs) (hb : b' ≤ b) : w.ownsRow b' e size v n xs := by
  obtain ⟨hl, h⟩ := h
  refine ⟨hl, ?_⟩
  rcases h with h | ⟨g, cap, cur, rfl, hg, r⟩
  · exact Or.inl h
  · exact Or.inr ⟨g, cap, cur, rfl, by omega, r⟩
theorem bclone_own (g o n c : Nat) (bs : List Nat) (w : World) (hr : Rd w (some ⟨g, o, none⟩) n 1 (bs.map byteV)) (hlt : g < w.heap.size) (hn : 1 ≤ n) (hn2 : n ≤ 100000) :
    Calls Try.prog 78 #[.slice (some ⟨g, o, none⟩) n c] w fun e' w' => (∃ g' c', e' = .returned (.slice (some ⟨g', 0, none⟩) n c') ∧ RowT w' g' 5 (bs.map byteV) ∧ w.heap.size ≤ g' ∧ w'.ownsRow w.heap.size 5 1 (.slice (some ⟨g', 0, none⟩) n c') n (bs.map byteV)) ∧ Below w.heap.size w w' := by
  have HR : Rd (w.alloc (.cells #[] 5)) (some ⟨g, o, none⟩) n 1 (bs.map byteV) := hr.keep (fun b o' e j => by
    cases e
    exact Below.cell (p := ⟨g, j, none⟩) ((Below.refl w.heap.size w).alloc (Nat.le_refl _) (.cells #[] 5)) hlt)
  have hnil := slB_not_nil ⟨g, o, none⟩ n c w
  go_enter Try.func78, Try.ntmps78
  go_upto_region 3 with fail
  refine wp_region_lit ?_
  refine wpList_plain rfl (fun K hK => ?_)
  go_simp
  refine hK _ _ ?_
  clear hK K
  try simp only [Act.put, pz1, pz2, pz3]
  refine wpList_plain rfl (fun K hK => ?_)
  go_simp
  refine hK _ _ ?_
  clear hK K
  try simp only [Act.put, pz1, pz2, pz3]
  obtain ⟨ti0, hi, hz0, hz1, hz2⟩ := info_parts infoByte
  refine wpList_app _ rfl (.tmp 5) (.tmp 6) _ rfl w.heap.size 5 ti0 _ 1 1 Try.underlying38 hi hz0 hz1 hz2 rfl (by decide) (.slice (some ⟨w.heap.size, 0, none⟩) 0 0) 0 [] rfl (own_emptyB w _) (some ⟨g, o, none⟩) n c (bs.map byteV) rfl HR (oneB bs) (by unfold maxLen; omega) (by omega) (by simp) ?_
  intro v' w' ho' hg' hv'
  clear hi hz0 hz1 hz2
  rw [Nat.zero_add, List.nil_append] at ho'
  have ho2 := ho'
  obtain ⟨g', c', rfl, hR', hge⟩ := own_rowT ho' hn
  have HO2 := Lib.hid ho2
  clear ho2
  have HG := Lib.hid hg'
  have HRR := Lib.hid hR'
  clear hg' hR' ho' hv' hnil
  try simp only [Act.put, pz1, pz2, pz3]
  go_wp2_with fail
  go_ret
  exact ⟨⟨g', c', rfl, HRR.out, hge, HO2.out⟩, ((Below.refl _ _).alloc (Nat.le_refl _) _).grown HG.out (by simp) (fun g' hg'' => by simp [Value.ownBlock] at hg''; omega)⟩
theorem read_okO (m gx gb : Nat) (Af : Option Addr) (nf cf : Nat) (a b c d e : Int) (fs : List Flt) (k l N RW : Nat) (n : Int) (w : World) (s : ChS) (hC : ChipW w m gx gb Af nf cf a b c d e fs s) (hbn : s.Bnd n) (hn : n ≤ 1000000000) (ho : s.on = true) (hcu : Hid (s.cutB = false)) (hk : (k : Int) < a) (hl : (l : Int) < b) (hnum : Hid (numberI a b (k : Int) (l : Int) = (N : Int))) (hrw : (RW : Int) = c + 16) (hfit0 : N * RW + RW ≤ s.X.length) (r1 : 40 ≤ RW) (r2 : RW ≤ 80) (hN2 : N < 200) : Calls Try.prog 63 #[.pointer (some ⟨m, 0, none⟩), .agg #[.int .i64 (k : Int), .int .i64 (l : Int)]] w fun e' w' => (∃ g' c', e' = .returned (.tuple #[.slice (some ⟨g', 0, none⟩) RW c', .int .i64 0]) ∧ RowT w' g' 5 ((s.pageOf N RW).map byteV) ∧ w.heap.size ≤ g' ∧ w'.ownsRow w.heap.size 5 1 (.slice (some ⟨g', 0, none⟩) RW c') RW ((s.pageOf N RW).map byteV)) ∧ ChipW w' m gx gb Af nf cf a b c d e fs s.tick ∧ Tch (chB m gx gb) w w' := by
  have hnb : ¬ chB m gx gb w.heap.size := by have := hC.lt; unfold chB; omega
  have ht : Hid (thereB a b (k : Int) (l : Int) = true) := Lib.hid (by unfold thereB withinB; simp; omega)
  have hfit : N * RW + RW ≤ s.tick.X.length := by rw [tick_X]; exact hfit0
  have hpo : s.tick.pageOf N RW = s.pageOf N RW := by unfold ChS.pageOf; rw [tick_X]
  have HPO := Lib.hid hpo
  have HRW := Lib.hid hrw
  clear hpo hrw hfit0
  have HB0 : Below w.heap.size w (w.alloc (.cells #[.int .i64 (k : Int), .int .i64 (l : Int)] 27)) := (Below.refl _ _).alloc (Nat.le_refl _) _
  have G1 : Blk (w.alloc (.cells #[.int .i64 (k : Int), .int .i64 (l : Int)] 27)) w.heap.size 27 #[.int .i64 (k : Int), .int .i64 (l : Int)] := Blk.new_ _ _ _
  have z0 : (w.alloc (.cells #[.int .i64 (k : Int), .int .i64 (l : Int)] 27)).cell? ⟨w.heap.size, 0, none⟩ = some (.int .i64 (k : Int)) := G1.cell_ 0
  have z1 : (w.alloc (.cells #[.int .i64 (k : Int), .int .i64 (l : Int)] 27)).cell? ⟨w.heap.size, 1, none⟩ = some (.int .i64 (l : Int)) := G1.cell_ 1
  have hC := hC.below HB0
  have y10 := cell10 hC
  rw [ho] at y10
  clear ho
  go_enter Try.func63, Try.ntmps63
  go_wp2_with (first
    | (go_at_call 55; ((with_reducible refine (hasPage_b _ _ _ _ _ _ _ _ _ _ _ _ _ _ _ _ _ hC ht).mono ?_); rintro e' wN ⟨rfl, hb⟩; replace hC := hC.below hb; replace HB0 := btr HB0 HB0.size hb; replace G1 := G1.below hb G1.lt; clear z0 z1 y10; have z0 := G1.cell_ 0; have z1 := G1.cell_ 1; simp at z0 z1))
    | (go_at_call 45; ((with_reducible refine (begin_b _ _ _ _ _ _ _ _ _ _ _ _ _ _ _ _ hC hbn hn hcu).mono ?_); rintro e' wN ⟨rfl, hC2, hT⟩; have HT := (Tch.of_below (S := chB m gx gb) HB0).trans hT; have hlt0 := hT.far w.heap.size G1.lt hnb; replace G1 : Blk wN w.heap.size _ _ := hlt0.trans G1; clear hlt0 hC; have hC := hC2; clear hC2 z0 z1; have z0 := G1.cell_ 0; have z1 := G1.cell_ 1; simp at z0 z1))
    | (go_at_call 57; ((with_reducible refine (page_any _ _ _ _ _ _ _ _ _ _ _ _ k l N RW _ _ hC hk hl hnum HRW.out hfit r1 r2 hN2).mono ?_); rintro e' wN ⟨⟨q, hq, rfl⟩, hb⟩; replace hC := hC.below hb; replace HT := HT.then hb))
    | (go_at_call 78; ((with_reducible refine (bclone_own gx (N * RW) RW q (s.pageOf N RW) _ (by rw [← HPO.out]; exact chip_rd hC hfit) hC.lt.2.1 (by omega) (by omega)).mono ?_); rintro e' wN ⟨⟨g9, c9, rfl, hR9, hg9, ho9⟩, hb⟩; replace hC := hC.below hb; have HSZ := HT.size; replace HT := HT.then hb)))
  go_ret2
  exact ⟨⟨g9, c9, rfl, hR9, by omega, own_base ho9 (by omega)⟩, hC, HT⟩
theorem read_allO (m gx gb : Nat) (Af : Option Addr) (nf cf : Nat) (a b c d e : Int) (fs : List Flt) (x y : Int) (n : Int) (w : World) (s : ChS) (hC : ChipW w m gx gb Af nf cf a b c d e fs s) (hs : Fine s n) (hn : n ≤ 900000000) :
    Calls Try.prog 63 #[.pointer (some ⟨m, 0, none⟩), .agg #[.int .i64 x, .int .i64 y]] w fun e' w' => (∃ A c', e' = .returned (.tuple #[.slice A (s.readB a b c x y).length c', .int .i64 (s.readZ a b x y)]) ∧ (s.readB a b c x y = [] ∧ A = none ∧ c' = 0 ∨ ∃ g, A = some ⟨g, 0, none⟩ ∧ RowT w' g 5 ((s.readB a b c x y).map byteV) ∧ w.heap.size ≤ g ∧ w'.ownsRow w.heap.size 5 1 (.slice (some ⟨g, 0, none⟩) (s.readB a b c x y).length c') (s.readB a b c x y).length ((s.readB a b c x y).map byteV))) ∧ ChipW w' m gx gb Af nf cf a b c d e fs (s.readS a b x y) ∧ Tch (chB m gx gb) w w' := by
  cases ho : s.on
  · have e1 : s.readZ a b x y = 9 := by simp [ChS.readZ, ho]
    have e2 : s.readS a b x y = s := by simp [ChS.readS, ho]
    have e3 : s.readB a b c x y = [] := by simp [ChS.readB, ho]
    rw [e1, e2, e3]
    refine (read_off m gx gb Af nf cf a b c d e fs x y w s hC ho).mono ?_
    rintro e' w' ⟨rfl, hb⟩
    exact ⟨⟨none, 0, rfl, Or.inl ⟨rfl, rfl, rfl⟩⟩, hC.below hb, Tch.of_below hb⟩
  cases ht : thereB a b x y
  · have e1 : s.readZ a b x y = 2 := by simp [ChS.readZ, ho, ht]
    have e2 : s.readS a b x y = s := by simp [ChS.readS, ht]
    have e3 : s.readB a b c x y = [] := by simp [ChS.readB, ht]
    rw [e1, e2, e3]
    refine (read_arg m gx gb Af nf cf a b c d e fs x y w s hC ho (Lib.hid ht)).mono ?_
    rintro e' w' ⟨rfl, hb⟩
    exact ⟨⟨none, 0, rfl, Or.inl ⟨rfl, rfl, rfl⟩⟩, hC.below hb, Tch.of_below hb⟩
  have e2 : s.readS a b x y = s.tick := by simp [ChS.readS, ht, ho]
  rw [e2]
  cases hc : s.cutB
  · obtain ⟨k, l, hx, hy, hk, hl⟩ := there_nat ht
    obtain ⟨N, RW, hnum, hrw, hfit, r1, r2, hN2, hNN⟩ := page_ok hC hk hl
    have hN' : (x * b + y).toNat = N := by rw [hx, hy, ← hNN]; omega
    have hr' : (c + 16).toNat = RW := by omega
    have e1 : s.readZ a b x y = 0 := by simp [ChS.readZ, ho, ht, hc]
    have e3 : s.readB a b c x y = s.pageOf N RW := by
      unfold ChS.readB
      rw [ho, ht, hc, hN', hr']
      rfl
    have e4 : (s.pageOf N RW).length = RW := by
      unfold ChS.pageOf
      rw [List.length_take, List.length_drop]
      omega
    rw [e1, e3, e4]
    subst hx hy
    refine (read_okO m gx gb Af nf cf a b c d e fs k l N RW n w s hC hs.bnd (by omega) ho (Lib.hid hc) hk hl (Lib.hid hnum) hrw hfit r1 r2 hN2).mono ?_
    rintro e' w' ⟨⟨g, c', h1, h2, h3, h4⟩, hC', hT⟩
    exact ⟨⟨_, c', h1, Or.inr ⟨g, rfl, h2, h3, h4⟩⟩, hC', hT⟩
  · have e1 : s.readZ a b x y = 9 := by simp [ChS.readZ, ho, ht, hc]
    have e3 : s.readB a b c x y = [] := by simp [ChS.readB, hc]
    rw [e1, e3]
    refine (read_cut m gx gb Af nf cf a b c d e fs x y n w s hC hs.bnd (by omega) ho (Lib.hid ht) (Lib.hid hc)).mono ?_
    rintro e' w' ⟨rfl, hC', hT⟩
    exact ⟨⟨none, 0, rfl, Or.inl ⟨rfl, rfl, rfl⟩⟩, hC', hT⟩
theorem prog_allC (m gx gb : Nat) (Af : Option Addr) (nf cf : Nat) (a b c d e : Int) (fs : List Flt) (x y : Int) (bs : List Nat) (gA cA : Nat) (n : Int) (w : World) (s : ChS) (hC : ChipW w m gx gb Af nf cf a b c d e fs s) (hs : Fine s n) (hn : n ≤ 900000000) (hR : ∀ j u, (bs.map byteV)[j]? = some u → w.cell? ⟨gA, 0 + j, none⟩ = some u) (hlt : gA < w.heap.size) (hcA : bs.length ≤ cA) (hcA2 : cA ≤ maxLen) (hgn : ¬ chB m gx gb gA) :
    Calls Try.prog 30 #[.pointer (some ⟨m, 0, none⟩), .agg #[.int .i64 x, .int .i64 y], .slice (some ⟨gA, 0, none⟩) bs.length cA] w fun e' w' => e' = .returned (.int .i64 (s.progZ a b c fs x y bs.length)) ∧ ChipW w' m gx gb Af nf cf a b c d e fs (s.progS a b c fs x y bs) ∧ Tch (chB m gx gb) w w' := by
  cases ho : s.on
  · have e1 : s.progZ a b c fs x y bs.length = 9 := by simp [ChS.progZ, ho]
    have e2 : s.progS a b c fs x y bs = s := by simp [ChS.progS, ho]
    rw [e1, e2]
    refine (prog_off m gx gb Af nf cf a b c d e fs x y _ _ _ w s hC ho).mono ?_
    rintro e' w' ⟨rfl, hb⟩
    exact ⟨rfl, hC.below hb, Tch.of_below hb⟩
  cases ht : thereB a b x y
  · have e1 : s.progZ a b c fs x y bs.length = 2 := by simp [ChS.progZ, ho, ht]
    have e2 : s.progS a b c fs x y bs = s := by simp [ChS.progS, ht]
    rw [e1, e2]
    refine (prog_arg m gx gb Af nf cf a b c d e fs x y _ _ _ w s hC ho (Lib.hid ht)).mono ?_
    rintro e' w' ⟨rfl, hb⟩
    exact ⟨rfl, hC.below hb, Tch.of_below hb⟩
  obtain ⟨k, l, hx, hy, hk, hl⟩ := there_nat ht
  obtain ⟨N, RW, hnum, hrw, hfit, r1, r2, hN2, hNN⟩ := page_ok hC hk hl
  by_cases hL : bs.length = RW
  · subst hL
    have hd : decide ((bs.length : Int) = c + 16) = true := decide_eq_true hrw
    have hN' : (x * b + y).toNat = N := by rw [hx, hy, ← hNN]; omega
    have hk' : x.toNat = k := by omega
    have hl' : y.toNat = l := by omega
    have e2 : s.progS a b c fs x y bs = (if s.wrong a fs k l = 0 then (if s.cutB then s.progCut k N bs.length (bs.take (min bs.length s.cby.toNat)) else s.prog k N bs.length bs) else s.tick) := by
      unfold ChS.progS
      rw [ho, ht, hd, hN', hk', hl']
      rfl
    have e1 : s.progZ a b c fs x y bs.length = (if s.cutB then 9 else s.wrong a fs k l) := by
      unfold ChS.progZ
      rw [ho, ht, hd, hk', hl']
      rfl
    rw [e1, e2]
    subst hx hy
    clear e1 e2 hk' hl' hN'
    by_cases hw : s.wrong a fs k l = 0
    · rw [if_pos hw]
      cases hc : s.cutB
      · have := prog_ok m gx gb Af nf cf a b c d e fs k l N bs.length n bs gA 0 cA w s hC hs.bnd (by omega) ho hk hl (Lib.hid hnum) (Lib.hid hrw) (Lib.hid hfit) r1 r2 hN2 hR hlt hgn rfl (Lib.hid hc) hw
        simpa [hw] using this
      · have := prog_cut m gx gb Af nf cf a b c d e fs k l N bs.length n bs gA 0 cA w s hC hs.bnd (by omega) ho hk hl (Lib.hid hnum) (Lib.hid hrw) (Lib.hid hfit) r1 r2 hN2 hR hlt hgn rfl (Lib.hid hc) hw _ hs.cby rfl hcA hcA2
        simpa using this
    · rw [if_neg hw]
      cases hc : s.cutB
      · have := prog_err m gx gb Af nf cf a b c d e fs k l N bs.length n bs gA 0 cA w s hC hs.bnd (by omega) ho hk hl (Lib.hid hnum) (Lib.hid hrw) (Lib.hid hfit) r1 r2 hN2 hR hlt hgn rfl (Lib.hid hc) _ rfl hw
        simpa using this
      · have := prog_cutbad m gx gb Af nf cf a b c d e fs k l N bs.length n bs gA 0 cA w s hC hs.bnd (by omega) ho hk hl (Lib.hid hnum) (Lib.hid hrw) (Lib.hid hfit) r1 r2 hN2 hR hlt hgn rfl (Lib.hid hc) _ rfl hw
        simpa using this
  · have hd : decide ((bs.length : Int) = c + 16) = false := decide_eq_false (by omega)
    have e1 : s.progZ a b c fs x y bs.length = 2 := by unfold ChS.progZ; rw [ho, ht, hd]; rfl
    have e2 : s.progS a b c fs x y bs = s := by unfold ChS.progS; rw [ho, ht, hd]; rfl
    rw [e1, e2]
    refine (prog_len m gx gb Af nf cf a b c d e fs RW x y _ _ _ w s hC ho (Lib.hid ht) (Lib.hid hrw) hL).mono ?_
    rintro e' w' ⟨rfl, hb⟩
    exact ⟨rfl, hC.below hb, Tch.of_below hb⟩
theorem num_any (z : Int) (w : World) : Calls Try.prog 12 #[.int .i64 z] w fun e w' => e = .returned (.int .i64 z) ∧ w = w' := by
  go_enter Try.func12, Try.ntmps12
  go_wp2
  go_ret
  exact ⟨rfl, rfl⟩
end Go.Proofs.Ytcpniplfkillbaa
namespace Go.Proofs.Ytcpniplfkillbaa
open Go.ChangeShapes Go.WideShapes Go.ChangeAt Go.RowKit
def Bytes8 (bs : List Nat) : Prop := ∀ b ∈ bs, b < 256
theorem Bytes8.at_ {bs : List Nat} (h : Bytes8 bs) (k : Nat) : bs.getD k 0 < 256 := by
  rcases Nat.lt_or_ge k bs.length with hk | hk
  · simp only [List.getD_eq_getElem?_getD, List.getElem?_eq_getElem hk, Option.getD_some]
    exact h _ (List.getElem_mem _)
  · simp [List.getElem?_eq_none hk]
theorem crcReg_next (bs : List Nat) (r : Nat) (k : Nat) (h : k < bs.length) : crcReg r (bs.take (k + 1)) = crcPut 8 (crcReg r (bs.take k)) (bs.getD k 0) := by
  rw [List.take_succ_eq_append_getElem h, crcReg_append]
  simp [h, crcReg]
theorem more_any (s : Nat) (bs : List Nat) (A : Option Addr) (c : Nat) (w : World) (hs : s < 4294967296) (h1 : Sl w w.heap.size A (bs.map byteV)) (h8 : Bytes8 bs) (n1 : bs.length ≤ 1000000000) :
    Calls Try.prog 92 #[.int .u32 (s : Int), .slice A bs.length c] w fun e w' => e = .returned (.int .u32 (crcMore s bs : Nat)) ∧ w' = w := by
  have hn := not_lt hs
  have en := crcNot hs
  obtain ⟨s0, hs0⟩ : ∃ z, z = 4294967295 ^^^ s := ⟨_, rfl⟩
  rw [← hs0] at en hn
  go_enter Try.func92, Try.ntmps92
  go_wp2
  go_loopw [5, 12] (fun rv i wr => ∃ k r1 : Nat, k ≤ bs.length ∧ i = .int .i64 k ∧ rv = .int .u32 (r1 : Int) ∧ r1 < 4294967296 ∧ Hid (r1 = crcReg s0 (bs.take k)) ∧ wr = w) (fun _ i _ => bs.length - (intOf i).toNat)
  case atStart => exact ⟨0, s0, by omega, rfl, by rw [hs0], hn, Lib.hid rfl, rfl⟩
  case round =>
    obtain ⟨k, r1, hk, rfl, rfl, hr1, he, rfl⟩ := hrel
    by_cases hlt : k < bs.length
    · obtain ⟨b1, o1, rfl, l1, q1⟩ := h1.at_ (by simpa using (by omega : 0 < bs.length))
      have hx := h8.at_ k
      have hg := crcReg_next bs s0 k hlt
      obtain ⟨x, hxe⟩ : ∃ x, bs.getD k 0 = x := ⟨_, rfl⟩
      have ck : wr.cell? ⟨b1, o1 + k, none⟩ = some (.int .u8 (x : Int)) := q1 k _ (by rw [← hxe]; simp [hlt, byteV])
      rw [hxe] at hx hg
      rw [← he.out] at hg
      have Hg := Lib.hid hg
      clear hg hxe q1 he
      have hp := crcPut_lt (k := 8) (x := x) hr1
      have i1 : (0 : Int) ≤ (k : Int) := by omega
      have i2 : (k : Int) < (bs.length : Int) := by omega
      go_wp2_with (go_at_call 93; refine (put_any _ _ _ hr1 hx).mono ?_; rintro e w' ⟨rfl, rfl⟩)
      refine ⟨⟨k + 1, crcPut 8 r1 x, by omega, by go_num, rfl, hp, Lib.hid Hg.out.symm, trivial⟩, by simp [intOf]; omega⟩
    · have : k = bs.length := by omega
      subst this
      have e2 := crcNot hr1
      have e3 : crcMore s bs = 4294967295 ^^^ r1 := by
        unfold crcMore
        rw [he.out, List.take_length, hs0]
      clear he
      go_wp2
      go_ret
      exact ⟨by rw [e3]; rfl, rfl⟩
theorem rmore_any (s : Nat) (bs : List Nat) (A : Option Addr) (c : Nat) (w : World) (hs : s < 4294967296) (h1 : Sl w w.heap.size A (bs.map byteV)) (h8 : Bytes8 bs) (n1 : bs.length ≤ 1000000000) :
    Calls Try.prog 76 #[.int .u32 (s : Int), .slice A bs.length c] w fun e w' => e = .returned (.int .u32 (crcMore s bs : Nat)) ∧ w' = w := by
  have hn := not_lt hs
  have en := crcNot hs
  obtain ⟨s0, hs0⟩ : ∃ z, z = 4294967295 ^^^ s := ⟨_, rfl⟩
  rw [← hs0] at en hn
  go_enter Try.func76, Try.ntmps76
  go_wp2
  go_loopw [5, 6] (fun rv i wr => ∃ k r1 : Nat, k ≤ bs.length ∧ i = .int .i64 k ∧ rv = .int .u32 (r1 : Int) ∧ r1 < 4294967296 ∧ Hid (r1 = crcReg s0 (bs.take k)) ∧ wr = w) (fun _ i _ => bs.length - (intOf i).toNat)
  case atStart => exact ⟨0, s0, by omega, rfl, by rw [hs0], hn, Lib.hid rfl, rfl⟩
  case round =>
    obtain ⟨k, r1, hk, rfl, rfl, hr1, he, rfl⟩ := hrel
    by_cases hlt : k < bs.length
    · obtain ⟨b1, o1, rfl, l1, q1⟩ := h1.at_ (by simpa using (by omega : 0 < bs.length))
      have hx := h8.at_ k
      have hg := crcReg_next bs s0 k hlt
      obtain ⟨x, hxe⟩ : ∃ x, bs.getD k 0 = x := ⟨_, rfl⟩
      have ck : wr.cell? ⟨b1, o1 + k, none⟩ = some (.int .u8 (x : Int)) := q1 k _ (by rw [← hxe]; simp [hlt, byteV])
      rw [hxe] at hx hg
      rw [← he.out] at hg
      have Hg := Lib.hid hg
      clear hg hxe q1 he
      have hp := crcPut_lt (k := 8) (x := x) hr1
      have i1 : (0 : Int) ≤ (k : Int) := by omega
      have i2 : (k : Int) < (bs.length : Int) := by omega
      go_wp2
      go_loopw [5, 7, 8] (fun rv xv i w2 => ∃ j r2 x2 : Nat, j ≤ 8 ∧ i = .int .i64 j ∧ rv = .int .u32 (r2 : Int) ∧ xv = .int .u32 (x2 : Int) ∧ r2 < 4294967296 ∧ x2 < 256 ∧ crcPut (8 - j) r2 x2 = crcPut 8 r1 x ∧ w2 = wr) (fun _ _ i _ => 8 - (intOf i).toNat)
      case atStart => exact ⟨0, r1, x, by omega, rfl, rfl, by simp, hr1, hx, rfl, rfl⟩
      case round =>
        obtain ⟨j, r2, x2, hj, rfl, rfl, rfl, hr2, hx2, he, rfl⟩ := hrel
        have hs2 := crcStep_lt (x := x2) hr2
        by_cases hlt2 : j < 8
        · have hb := crcBit hr2 (x := x2) (by omega)
          by_cases ht : (r2 ^^^ x2) &&& 1 = 1
          · rw [decide_eq_true ht] at hb
            have Hgo := Lib.hid (crcPut_go hlt2 he)
            have Hon := Lib.hid (crcStep_on ht)
            clear he ht
            go_wp2
            refine ⟨⟨j + 1, crcStep r2 x2, x2 / 2, by omega, by go_num, ?_, by simp, hs2, by omega, Hgo.out, trivial⟩, by simp [intOf]; omega⟩
            rw [crcTurn hr2, Hon.out]
          · rw [decide_eq_false ht] at hb
            have Hgo := Lib.hid (crcPut_go hlt2 he)
            have Hon := Lib.hid (crcStep_off ht)
            clear he ht
            go_wp2
            refine ⟨⟨j + 1, crcStep r2 x2, x2 / 2, by omega, by go_num, ?_, by simp, hs2, by omega, Hgo.out, trivial⟩, by simp [intOf]; omega⟩
            rw [Hon.out]
            simp
        · have : j = 8 := by omega
          subst this
          have he' : r2 = crcPut 8 r1 x := he
          subst he'
          clear he
          go_wp2
          refine ⟨⟨k + 1, crcPut 8 r1 x, by omega, by go_num, rfl, hp, Lib.hid Hg.out.symm, trivial⟩, by simp [intOf]; omega⟩
    · have : k = bs.length := by omega
      subst this
      have e2 := crcNot hr1
      have e3 : crcMore s bs = 4294967295 ^^^ r1 := by
        unfold crcMore
        rw [he.out, List.take_length, hs0]
      clear he
      go_wp2
      go_ret
      exact ⟨by rw [e3]; rfl, rfl⟩
theorem crcOf_any (bs : List Nat) (A : Option Addr) (c : Nat) (w : World) (h1 : Sl w w.heap.size A (bs.map byteV)) (h8 : Bytes8 bs) (n1 : bs.length ≤ 1000000000) :
    Calls Try.prog 91 #[.slice A bs.length c] w fun e w' => e = .returned (.int .u32 (crcMore 0 bs : Nat)) ∧ w' = w := by
  go_enter Try.func91, Try.ntmps91
  go_wp2_with (go_at_call 92; refine (more_any 0 bs A c _ (by omega) h1 h8 n1).mono ?_; rintro e w' ⟨rfl, rfl⟩)
  go_ret
  exact ⟨rfl, rfl⟩
theorem rcrcOf_any (bs : List Nat) (A : Option Addr) (c : Nat) (w : World) (h1 : Sl w w.heap.size A (bs.map byteV)) (h8 : Bytes8 bs) (n1 : bs.length ≤ 1000000000) :
    Calls Try.prog 54 #[.slice A bs.length c] w fun e w' => e = .returned (.int .u32 (crcMore 0 bs : Nat)) ∧ w' = w := by
  go_enter Try.func54, Try.ntmps54
  go_wp2_with (go_at_call 76; refine (rmore_any 0 bs A c _ (by omega) h1 h8 n1).mono ?_; rintro e w' ⟨rfl, rfl⟩)
  go_ret
  exact ⟨rfl, rfl⟩
end Go.Proofs.Ytcpniplfkillbaa
namespace Go.Proofs.Ytcpniplfkillbaa
end Go.Proofs.Ytcpniplfkillbaa
namespace Go.Proofs.Ytcpniplfkillbaa
def beB (v n : Nat) : List Nat := (List.range n).map fun i => v / 2 ^ (8 * (n - 1 - i)) % 256
def numB (bs : List Nat) : Nat := bs.foldl (fun a b => a * 256 + b) 0
theorem beB_len (v n : Nat) : (beB v n).length = n := by simp [beB]
theorem beB_8 (v n : Nat) : Bytes8 (beB v n) := by
  intro b hb
  obtain ⟨i, _, rfl⟩ := List.mem_map.1 hb
  omega
theorem beB_snoc (v n k : Nat) (hk : k < n) : (beB v n).take (k + 1) = (beB v n).take k ++ [v / 2 ^ (8 * (n - 1 - k)) % 256] := by
  rw [List.take_succ_eq_append_getElem (by rw [beB_len]; exact hk)]
  simp [beB]
theorem beB_2 (v : Nat) : beB v 2 = [v / 256 % 256, v % 256] := by simp [beB, List.range_succ]
theorem beB_3 (v : Nat) : beB v 3 = [v / 65536 % 256, v / 256 % 256, v % 256] := by simp [beB, List.range_succ]
theorem beB_4 (v : Nat) : beB v 4 = [v / 16777216 % 256, v / 65536 % 256, v / 256 % 256, v % 256] := by simp [beB, List.range_succ]
theorem num_be4 {v : Nat} (h : v < 4294967296) : numB (beB v 4) = v := by rw [beB_4]; simp [numB]; omega
theorem be_num2 {bs : List Nat} (hl : bs.length = 2) (h : Bytes8 bs) : beB (numB bs) 2 = bs ∧ numB bs < 65536 := by
  match bs, hl with
  | [a, b], _ =>
    have ha := h a (by simp)
    have hb := h b (by simp)
    rw [beB_2]
    simp [numB]
    omega
theorem be_num3 {bs : List Nat} (hl : bs.length = 3) (h : Bytes8 bs) : beB (numB bs) 3 = bs ∧ numB bs < 16777216 := by
  match bs, hl with
  | [a, b, c], _ =>
    have ha := h a (by simp)
    have hb := h b (by simp)
    have hc := h c (by simp)
    rw [beB_3]
    simp [numB]
    omega
theorem be_num4 {bs : List Nat} (hl : bs.length = 4) (h : Bytes8 bs) : beB (numB bs) 4 = bs ∧ numB bs < 4294967296 := by
  match bs, hl with
  | [a, b, c, d], _ =>
    have ha := h a (by simp)
    have hb := h b (by simp)
    have hc := h c (by simp)
    have hd := h d (by simp)
    rw [beB_4]
    simp [numB]
    omega
theorem numB_snoc (bs : List Nat) (b : Nat) : numB (bs ++ [b]) = numB bs * 256 + b := by simp [numB]
theorem numB_next {bs : List Nat} {k : Nat} (hk : k < bs.length) : numB (bs.take (k + 1)) = numB (bs.take k) * 256 + bs[k] := by
  rw [List.take_succ_eq_append_getElem hk, numB_snoc]
theorem numB_lt : ∀ {k : Nat} {bs : List Nat}, Bytes8 bs → k ≤ bs.length → numB (bs.take k) < 256 ^ k
  | 0, _, _, _ => by simp [numB]
  | k + 1, bs, h, hk => by
    have ih := numB_lt (k := k) h (by omega)
    have hb := h bs[k] (List.getElem_mem _)
    rw [numB_next (by omega), Nat.pow_succ]
    omega
end Go.Proofs.Ytcpniplfkillbaa
namespace Go.Proofs.Ytcpniplfkillbaa
open Go.ChangeShapes Go.WideShapes Go.ChangeAt Go.RowKit
theorem Sl.held {W w' : World} {A : Option Addr} {vs : List Value} (h : Sl W W.heap.size A vs) (hz : W.heap.size ≤ w'.heap.size) (hc : ∀ b o, b < W.heap.size → w'.cell? ⟨b, o, none⟩ = W.cell? ⟨b, o, none⟩) : Sl w' w'.heap.size A vs := by
  rcases h with h | ⟨b, off, e, hlt, hq⟩
  · exact Or.inl h
  · exact Or.inr ⟨b, off, e, by omega, fun k v hv => (hc b (off + k) hlt).trans (hq k v hv)⟩
end Go.Proofs.Ytcpniplfkillbaa
namespace Go.Proofs.Ytcpniplfkillbaa
open Go.ChangeShapes Go.WideShapes Go.ChangeAt Go.RowKit
attribute [local go_sem ↓] Go.wp_at_zero Go.wp_at_succ
theorem own_below {w w' : World} {base : Nat} {e : TypeId} {size n : Nat} {v : Value} {xs : List Value} (h : w.ownsRow base e size v n xs) (hb : Below w.heap.size w w') : w'.ownsRow base e size v n xs :=
  h.kept (row := none) ⟨hb.os, hb.tape, hb.output, hb.size, fun k hk _ => hb.block k hk⟩ (by cases v.ownBlock <;> simp)
end Go.Proofs.Ytcpniplfkillbaa
