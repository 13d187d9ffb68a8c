/- refusal, page, Read of a chip. -/
import Derived.Test.YtdfojhkpfbnmgaaAt1
import Derived.StillTailTactics
import Derived.Test.YtdfojhkpfbnmgaaChecked
import Derived.WalkKit
import Derived.ProofKit
import Derived.WalkSpells
import Derived.WalkLawsBesides
import Derived.Lib.Hide
import Derived.Outline
import Derived.Deep.RegionHeld3
import Derived.Deep.DrawnRows
import Derived.Deep.DeepCutAuto
set_option linter.unusedSimpArgs false
set_option linter.unusedVariables false
set_option maxRecDepth 100000
set_option maxHeartbeats 16000000
namespace Go.Proofs.Ytdfojhkpfbnmgaa
open Go.ChangeShapes Go.WideShapes Go.ChangeAt Go.RowKit
def ChS.wrong (s : ChS) (a : Int) (fs : List Flt) (k l : Nat) : Int := if failedB a fs s (k : Int) then 10 else if (l : Int) ≠ s.k (k : Int) 0 then 11 else 0
theorem refusal_any (m gx gb : Nat) (Af : Option Addr) (nf cf : Nat) (a b c d e : Int) (fs : List Flt) (k l : Nat) (w : World) (s : ChS) (hC : ChipW w m gx gb Af nf cf a b c d e fs s) (hk : (k : Int) < a) : Calls Try.prog 51 #[.pointer (some ⟨m, 0, none⟩), .agg #[.int .i64 (k : Int), .int .i64 (l : Int)]] w fun e' w' => e' = .returned (.int .i64 (s.wrong a fs k l)) ∧ Below w.heap.size w w' := by
  have HB0 : Below w.heap.size w (w.alloc (.cells #[.int .i64 (k : Int), .int .i64 (l : Int)] 53)) := (Below.refl _ _).alloc (Nat.le_refl _) _
  have G1 : Blk (w.alloc (.cells #[.int .i64 (k : Int), .int .i64 (l : Int)] 53)) w.heap.size 53 #[.int .i64 (k : Int), .int .i64 (l : Int)] := Blk.new_ _ _ _
  have z0 : (w.alloc (.cells #[.int .i64 (k : Int), .int .i64 (l : Int)] 53)).cell? ⟨w.heap.size, 0, none⟩ = some (.int .i64 (k : Int)) := G1.cell_ 0
  have z1 : (w.alloc (.cells #[.int .i64 (k : Int), .int .i64 (l : Int)] 53)).cell? ⟨w.heap.size, 1, none⟩ = some (.int .i64 (l : Int)) := G1.cell_ 1
  have hC := hC.below HB0
  rcases (by cases hq : failedB a fs s (k : Int) <;> simp : failedB a fs s (k : Int) = true ∨ failedB a fs s (k : Int) = false) with hq | hq
  · rw [show s.wrong a fs k l = 10 by unfold ChS.wrong; rw [hq]; rfl]
    have hfl := Lib.hid hq
    clear hq
    go_enter Try.func51, Try.ntmps51
    go_wp2_with (go_at_call 13; ((with_reducible refine (failed_b _ _ _ _ _ _ _ _ _ _ _ _ _ _ _ _ (by first | exact hC | exact ChipW.drew hC) hfl).mono ?_); rintro e' wN ⟨rfl, hb⟩; (try have hb := undrew hb); replace hC := ChipW.likeB hC hb; replace HB0 := btr HB0 HB0.size hb; replace G1 := G1.below hb G1.lt; clear z0 z1; have z0 := G1.cell_ 0; have z1 := G1.cell_ 1; simp at z0 z1))
    go_ret
    exact ⟨rfl, HB0⟩
  · have hfl := Lib.hid hq
    have hw : s.wrong a fs k l = if (l : Int) ≠ s.k (k : Int) 0 then 11 else 0 := by unfold ChS.wrong; rw [hq]; rfl
    obtain ⟨z, hz⟩ : ∃ z, s.K.getD (3 * k) 0 = z := ⟨_, rfl⟩
    have hkz : s.k (k : Int) 0 = z := by unfold ChS.k; rw [Int.toNat_natCast, Nat.add_zero]; exact hz
    rw [hw, hkz]
    have HZ := Lib.hid hz
    have HK := Lib.hid hk
    clear hq hw hkz hz hk
    rcases (by by_cases h : (l : Int) = z; exact Or.inl h; exact Or.inr h : (l : Int) = z ∨ (l : Int) ≠ z) with hl | hl
    · rw [if_neg (not_not_intro hl)]
      have hlz : ((l : Int) != z) = false := by simp [hl]
      clear hl
      go_enter Try.func51, Try.ntmps51
      go_upto_region 3 with (go_at_call 13; ((with_reducible refine (failed_b _ _ _ _ _ _ _ _ _ _ _ _ _ _ _ _ (by first | exact hC | exact ChipW.drew hC) hfl).mono ?_); rintro e' wN ⟨rfl, hb⟩; (try have hb := undrew hb); replace hC := ChipW.likeB hC hb; replace HB0 := btr HB0 HB0.size hb; replace G1 := G1.below hb G1.lt; clear z0 z1; have z0 := G1.cell_ 0; have z1 := G1.cell_ 1; simp at z0 z1))
      obtain ⟨cx, cb, NX, NB, hNX, hNB, y0, y1, y2, y3, y4, y5, y6, y7, y8, y9, y10, y11, y12, y13, y14, y15, yx, yb, fm, fx, fb⟩ := hC.get
      have cz := yb (3 * k) (by have := hNB.out; have := HK.out; omega)
      rw [HZ.out, Nat.mul_comm] at cz
      have i0 : (0 : Int) ≤ (k : Int) := by omega
      have i1 : (k : Int) < (NB : Int) := by have := hNB.out; have := HK.out; omega
      clear yx yb fm fx fb y0 y1 y2 y3 y4 y5 y6 y8 y9 y10 y11 y12 y13 y14 y15
      refine wp_region_noPanic ?_
      refine wp_region_held_drew (S := (fun w' => w'.cell? ⟨w.heap.size, 0, none⟩ = some (.int .i64 (k : Int)) ∧ w'.cell? ⟨w.heap.size, 1, none⟩ = some (.int .i64 (l : Int)) ∧ w'.cell? ⟨m, 7, none⟩ = some (.slice (some ⟨gb, 0, none⟩) NB cb) ∧ w'.cell? ⟨gb, k * 3, none⟩ = some (.int .i64 z))) (by kernel_rfl) ?_ (fun hHeld => ?_)
      · (first | exact ⟨z0, z1, y7, cz⟩ | assumption)
      refine tk 0 ⟨some 9, .fieldAddr 53 (.tmp 3) 1, 0, "chip.go:135", #[], none⟩ ?_; try simp only [Act.put, pz1, pz2, pz3]
      refine tk 1 ⟨some 10, .load 3 (.tmp 9), 3, "chip.go:135", #[⟨0, .data⟩], none⟩ ?_; try simp only [Act.put, pz1, pz2, pz3]
      refine tk 2 ⟨some 11, .move (.tmp 0), 26, "chip.go:135", #[], none⟩ ?_; try simp only [Act.put, pz1, pz2, pz3]
      refine tk 3 ⟨some 12, .nilCheck (.tmp 11), 0, "chip.go:135", #[⟨2, .data⟩], none⟩ ?_; try simp only [Act.put, pz1, pz2, pz3]
      refine tk 4 ⟨some 13, .fieldAddr 68 (.tmp 12) 3, 0, "chip.go:135", #[⟨3, .data⟩], none⟩ ?_; try simp only [Act.put, pz1, pz2, pz3]
      refine tk 5 ⟨some 14, .load 66 (.tmp 13), 66, "chip.go:135", #[⟨4, .data⟩], none⟩ ?_; try simp only [Act.put, pz1, pz2, pz3]
      refine tk 6 ⟨some 15, .fieldAddr 53 (.tmp 3) 0, 0, "chip.go:135", #[], none⟩ ?_; try simp only [Act.put, pz1, pz2, pz3]
      refine tk 7 ⟨some 16, .load 3 (.tmp 15), 3, "chip.go:135", #[⟨6, .data⟩], none⟩ ?_; try simp only [Act.put, pz1, pz2, pz3]
      refine tk 8 ⟨some 17, .indexAddr 66 (.tmp 14) (.tmp 16), 0, "chip.go:135", #[⟨5, .data⟩, ⟨7, .data⟩], none⟩ ?_; try simp only [Act.put, pz1, pz2, pz3]
      refine tk 9 ⟨some 18, .fieldAddr 73 (.tmp 17) 0, 0, "chip.go:135", #[⟨8, .data⟩], none⟩ ?_; try simp only [Act.put, pz1, pz2, pz3]
      refine tk 10 ⟨some 19, .load 3 (.tmp 18), 3, "chip.go:135", #[⟨9, .data⟩], none⟩ ?_; try simp only [Act.put, pz1, pz2, pz3]
      refine tk 11 ⟨some 20, .binOp .neq 3 (.tmp 10) (.tmp 19) 3, 4, "chip.go:135", #[⟨1, .data⟩, ⟨10, .data⟩], none⟩ ?_; try simp only [Act.put, pz1, pz2, pz3]
      refine wpAnyH_done (by kernel_rfl) ?_ _
      refine NoPanic.normal ?_
      go_wp2_with fail
      go_ret
      exact ⟨rfl, HB0.drew⟩
    · rw [if_pos hl]
      have hlz : ((l : Int) != z) = true := by simp [hl]
      clear hl
      go_enter Try.func51, Try.ntmps51
      go_upto_region 3 with (go_at_call 13; ((with_reducible refine (failed_b _ _ _ _ _ _ _ _ _ _ _ _ _ _ _ _ (by first | exact hC | exact ChipW.drew hC) hfl).mono ?_); rintro e' wN ⟨rfl, hb⟩; (try have hb := undrew hb); replace hC := ChipW.likeB hC hb; replace HB0 := btr HB0 HB0.size hb; replace G1 := G1.below hb G1.lt; clear z0 z1; have z0 := G1.cell_ 0; have z1 := G1.cell_ 1; simp at z0 z1))
      obtain ⟨cx, cb, NX, NB, hNX, hNB, y0, y1, y2, y3, y4, y5, y6, y7, y8, y9, y10, y11, y12, y13, y14, y15, yx, yb, fm, fx, fb⟩ := hC.get
      have cz := yb (3 * k) (by have := hNB.out; have := HK.out; omega)
      rw [HZ.out, Nat.mul_comm] at cz
      have i0 : (0 : Int) ≤ (k : Int) := by omega
      have i1 : (k : Int) < (NB : Int) := by have := hNB.out; have := HK.out; omega
      clear yx yb fm fx fb y0 y1 y2 y3 y4 y5 y6 y8 y9 y10 y11 y12 y13 y14 y15
      refine wp_region_noPanic ?_
      refine wp_region_held_drew (S := (fun w' => w'.cell? ⟨w.heap.size, 0, none⟩ = some (.int .i64 (k : Int)) ∧ w'.cell? ⟨w.heap.size, 1, none⟩ = some (.int .i64 (l : Int)) ∧ w'.cell? ⟨m, 7, none⟩ = some (.slice (some ⟨gb, 0, none⟩) NB cb) ∧ w'.cell? ⟨gb, k * 3, none⟩ = some (.int .i64 z))) (by kernel_rfl) ?_ (fun hHeld => ?_)
      · (first | exact ⟨z0, z1, y7, cz⟩ | assumption)
      refine tk 0 ⟨some 9, .fieldAddr 53 (.tmp 3) 1, 0, "chip.go:135", #[], none⟩ ?_; try simp only [Act.put, pz1, pz2, pz3]
      refine tk 1 ⟨some 10, .load 3 (.tmp 9), 3, "chip.go:135", #[⟨0, .data⟩], none⟩ ?_; try simp only [Act.put, pz1, pz2, pz3]
      refine tk 2 ⟨some 11, .move (.tmp 0), 26, "chip.go:135", #[], none⟩ ?_; try simp only [Act.put, pz1, pz2, pz3]
      refine tk 3 ⟨some 12, .nilCheck (.tmp 11), 0, "chip.go:135", #[⟨2, .data⟩], none⟩ ?_; try simp only [Act.put, pz1, pz2, pz3]
      refine tk 4 ⟨some 13, .fieldAddr 68 (.tmp 12) 3, 0, "chip.go:135", #[⟨3, .data⟩], none⟩ ?_; try simp only [Act.put, pz1, pz2, pz3]
      refine tk 5 ⟨some 14, .load 66 (.tmp 13), 66, "chip.go:135", #[⟨4, .data⟩], none⟩ ?_; try simp only [Act.put, pz1, pz2, pz3]
      refine tk 6 ⟨some 15, .fieldAddr 53 (.tmp 3) 0, 0, "chip.go:135", #[], none⟩ ?_; try simp only [Act.put, pz1, pz2, pz3]
      refine tk 7 ⟨some 16, .load 3 (.tmp 15), 3, "chip.go:135", #[⟨6, .data⟩], none⟩ ?_; try simp only [Act.put, pz1, pz2, pz3]
      refine tk 8 ⟨some 17, .indexAddr 66 (.tmp 14) (.tmp 16), 0, "chip.go:135", #[⟨5, .data⟩, ⟨7, .data⟩], none⟩ ?_; try simp only [Act.put, pz1, pz2, pz3]
      refine tk 9 ⟨some 18, .fieldAddr 73 (.tmp 17) 0, 0, "chip.go:135", #[⟨8, .data⟩], none⟩ ?_; try simp only [Act.put, pz1, pz2, pz3]
      refine tk 10 ⟨some 19, .load 3 (.tmp 18), 3, "chip.go:135", #[⟨9, .data⟩], none⟩ ?_; try simp only [Act.put, pz1, pz2, pz3]
      refine tk 11 ⟨some 20, .binOp .neq 3 (.tmp 10) (.tmp 19) 3, 4, "chip.go:135", #[⟨1, .data⟩, ⟨10, .data⟩], none⟩ ?_; try simp only [Act.put, pz1, pz2, pz3]
      refine wpAnyH_done (by kernel_rfl) ?_ _
      refine NoPanic.normal ?_
      go_wp2_with fail
      go_ret
      exact ⟨rfl, HB0.drew⟩
theorem raw_b (a b c d e : Int) (w : World) (hm : Hid (mayB a b c d e = true)) :
    Calls Try.prog 28 #[.agg #[.int .i64 a, .int .i64 b, .int .i64 c, .int .i64 d, .int .i64 e]] w fun e' w' => e' = .returned (.int .i64 (c + 16)) ∧ Below w.heap.size w w' := by
  have q := Raw_any a b c d e w
  rwa [ifMay_yes _ hm.out] at q
theorem number_yes {a b x y : Int} (h : thereB a b x y = true) : numberI a b x y = x * b + y := by simp [numberI, h]
theorem num_c (a b c d e : Int) (k l n : Nat) (w : World) (hm : Hid (mayB a b c d e = true)) (hn : Hid (numberI a b (k : Int) (l : Int) = (n : Int))) :
    Calls Try.prog 65 #[.agg #[.int .i64 a, .int .i64 b, .int .i64 c, .int .i64 d, .int .i64 e], .agg #[.int .i64 (k : Int), .int .i64 (l : Int)]] w fun e' w' => e' = .returned (.int .i64 (n : Int)) ∧ Below w.heap.size w w' := by
  have q := Number_any a b c d e (k : Int) (l : Int) w
  rwa [ifMay_yes _ hm.out, hn.out] at q
theorem ret_sl {A : Option Addr} {n n' q : Nat} (h : n = n') : Ending.returned (.slice A n q) = .returned (.slice A n' q) := by rw [h]
theorem geo5 {w : World} {m gx gb : Nat} {Af : Option Addr} {nf cf : Nat} {a b c d e : Int} {fs : List Flt} {s : ChS} (h : ChipW w m gx gb Af nf cf a b c d e fs s) : w.cell? ⟨m, 0, none⟩ = some (.int .i64 a) ∧ w.cell? ⟨m, 1, none⟩ = some (.int .i64 b) ∧ w.cell? ⟨m, 2, none⟩ = some (.int .i64 c) ∧ w.cell? ⟨m, 3, none⟩ = some (.int .i64 d) ∧ w.cell? ⟨m, 4, none⟩ = some (.int .i64 e) := by
  obtain ⟨cx, cb, NX, NB, hX, hN, hcx, hB⟩ := h.blk
  exact ⟨hB.cell_ 0, hB.cell_ 1, hB.cell_ 2, hB.cell_ 3, hB.cell_ 4⟩
theorem cells6x {w : World} {m gx gb : Nat} {Af : Option Addr} {nf cf : Nat} {a b c d e : Int} {fs : List Flt} {s : ChS} (h : ChipW w m gx gb Af nf cf a b c d e fs s) : ∃ cx : Nat, s.X.length ≤ cx ∧ w.cell? ⟨m, 6, none⟩ = some (.slice (some ⟨gx, 0, none⟩) s.X.length cx) := by
  obtain ⟨cx, cb, NX, NB, hX, hN, hcx, hB⟩ := h.blk
  subst hX
  exact ⟨cx, hcx, hB.cell_ 6⟩
theorem page_ok {w : World} {m gx gb : Nat} {Af : Option Addr} {nf cf : Nat} {a b c d e : Int} {fs : List Flt} {s : ChS} (hC : ChipW w m gx gb Af nf cf a b c d e fs s) {k l : Nat} (hk : (k : Int) < a) (hl : (l : Int) < b) : ∃ n RW : Nat, numberI a b (k : Int) (l : Int) = (n : Int) ∧ (RW : Int) = c + 16 ∧ n * RW + RW ≤ s.X.length ∧ 40 ≤ RW ∧ RW ≤ 80 ∧ n < 200 ∧ (n : Int) = (k : Int) * b + (l : Int) := by
  obtain ⟨hm, -, -⟩ := planMay_bd hC.may
  obtain ⟨g1, g2, g3, g4, g5, g6, -⟩ := may_bd hm
  have hth : thereB a b (k : Int) (l : Int) = true := by
    unfold thereB withinB
    simp
    omega
  have h1 : (k : Int) * b ≤ (a - 1) * b := Int.mul_le_mul_of_nonneg_right (by omega) (by omega)
  rw [Int.sub_mul] at h1
  have h0 : 0 ≤ (k : Int) * b := Int.mul_nonneg (by omega) (by omega)
  have h2 : a * b ≤ 20 * 8 := Int.mul_le_mul g2 g4 (by omega) (by omega)
  have h3 : ((k : Int) * b + (l : Int) + 1) * (c + 16) ≤ a * b * (c + 16) := Int.mul_le_mul_of_nonneg_right (by omega) (by omega)
  obtain ⟨n, hn⟩ : ∃ n : Nat, (n : Int) = (k : Int) * b + (l : Int) := ⟨((k : Int) * b + (l : Int)).toNat, by omega⟩
  obtain ⟨RW, hR⟩ : ∃ RW : Nat, (RW : Int) = c + 16 := ⟨(c + 16).toNat, by omega⟩
  refine ⟨n, RW, by rw [number_yes hth]; exact hn.symm, hR, ?_, by omega, by omega, by omega, hn⟩
  rw [← hn, ← hR, Int.add_mul, Int.one_mul] at h3
  have h4 : ((n * RW + RW : Nat) : Int) = (n : Int) * (RW : Int) + (RW : Int) := by push_cast; rfl
  rw [hC.lenX, ← hR]
  omega
theorem page_any (m gx gb : Nat) (Af : Option Addr) (nf cf : Nat) (a b c d e : Int) (fs : List Flt) (k l n RW : Nat) (w : World) (s : ChS) (hC : ChipW w m gx gb Af nf cf a b c d e fs s) (hk : (k : Int) < a) (hl : (l : Int) < b) (hnum : Hid (numberI a b (k : Int) (l : Int) = (n : Int))) (hrw : (RW : Int) = c + 16) (hfit : n * RW + RW ≤ s.X.length) (r1 : 40 ≤ RW) (r2 : RW ≤ 80) (hn2 : n < 200) : Calls Try.prog 52 #[.pointer (some ⟨m, 0, none⟩), .agg #[.int .i64 (k : Int), .int .i64 (l : Int)]] w fun e' w' => (∃ q : Nat, RW ≤ q ∧ e' = .returned (.slice (some ⟨gx, n * RW, none⟩) RW q)) ∧ Below w.heap.size w w' := by
  have HB0 : Below w.heap.size w (w.alloc (.cells #[.int .i64 (k : Int), .int .i64 (l : Int)] 53)) := (Below.refl _ _).alloc (Nat.le_refl _) _
  have G1 : Blk (w.alloc (.cells #[.int .i64 (k : Int), .int .i64 (l : Int)] 53)) w.heap.size 53 #[.int .i64 (k : Int), .int .i64 (l : Int)] := Blk.new_ _ _ _
  have z0 : (w.alloc (.cells #[.int .i64 (k : Int), .int .i64 (l : Int)] 53)).cell? ⟨w.heap.size, 0, none⟩ = some (.int .i64 (k : Int)) := G1.cell_ 0
  have z1 : (w.alloc (.cells #[.int .i64 (k : Int), .int .i64 (l : Int)] 53)).cell? ⟨w.heap.size, 1, none⟩ = some (.int .i64 (l : Int)) := G1.cell_ 1
  have hC := hC.below HB0
  have HM := Lib.hid (planMay_bd hC.may).1
  obtain ⟨y0, y1, y2, y3, y4⟩ := geo5 hC
  have hrw' : c + 16 = (RW : Int) := hrw.symm
  have hbd : n * RW ≤ 200 * 80 := Nat.mul_le_mul (by omega) r2
  obtain ⟨F, hF⟩ : ∃ F, n * RW = F := ⟨_, rfl⟩
  have hFi : (n : Int) * (RW : Int) = (F : Int) := by rw [← hF]; push_cast; rfl
  rw [hF] at hfit hbd ⊢
  have hw1 : IntKind.i64.wrap (F : Int) = (F : Int) := wrapS _ (by omega) (by omega)
  have HFIT := Lib.hid hfit
  clear hk hl hrw hF hfit
  go_enter Try.func52, Try.ntmps52
  go_upto_region 2 with (go_at_call 28; ((with_reducible refine (raw_b _ _ _ _ _ _ HM).mono ?_); rintro e' wN ⟨rfl, hb⟩; (try have hb := undrew hb); replace hC := ChipW.likeB hC hb; replace HB0 := btr HB0 HB0.size hb; replace G1 := G1.below hb G1.lt; clear z0 z1 y0 y1 y2 y3 y4; have z0 := G1.cell_ 0; have z1 := G1.cell_ 1; simp at z0 z1; obtain ⟨y0, y1, y2, y3, y4⟩ := geo5 hC))
  refine wp_region_noPanic ?_
  refine wp_region_held_drew (S := (fun w' => w'.cell? ⟨m, 0, none⟩ = some (.int .i64 a) ∧ w'.cell? ⟨m, 1, none⟩ = some (.int .i64 b) ∧ w'.cell? ⟨m, 2, none⟩ = some (.int .i64 c) ∧ w'.cell? ⟨m, 3, none⟩ = some (.int .i64 d) ∧ w'.cell? ⟨m, 4, none⟩ = some (.int .i64 e) ∧ w'.cell? ⟨w.heap.size, 0, none⟩ = some (.int .i64 (k : Int)) ∧ w'.cell? ⟨w.heap.size, 1, none⟩ = some (.int .i64 (l : Int)))) (by kernel_rfl) ?_ (fun hHeld => ?_)
  · (first | exact ⟨y0, y1, y2, y3, y4, z0, z1⟩ | assumption)
  refine tk 0 ⟨some 12, .move (.tmp 0), 26, "chip.go:63", #[], none⟩ ?_; try simp only [Act.put, pz1, pz2, pz3]
  refine tk 1 ⟨some 13, .nilCheck (.tmp 12), 0, "chip.go:63", #[⟨0, .data⟩], none⟩ ?_; try simp only [Act.put, pz1, pz2, pz3]
  refine tk 2 ⟨some 14, .fieldAddr 68 (.tmp 13) 0, 0, "chip.go:63", #[⟨1, .data⟩], none⟩ ?_; try simp only [Act.put, pz1, pz2, pz3]
  refine tk 3 ⟨some 15, .load 23 (.tmp 14), 23, "chip.go:63", #[⟨2, .data⟩], none⟩ ?_; try simp only [Act.put, pz1, pz2, pz3]
  refine tk 4 ⟨some 16, .load 53 (.tmp 3), 53, "chip.go:63", #[], none⟩ ?_; try simp only [Act.put, pz1, pz2, pz3]
  refine tk 6 ⟨some 18, .move (.tmp 5), 3, "chip.go:63", #[], none⟩ ?_; try simp only [Act.put, pz1, pz2, pz3]
  refine wpAnyH_ready (rs := [5]) (by kernel_rfl) (by simp) ?_
  refine AllReadyH.cons (o := ⟨some 17, .call { callee := .value (.func 65), args := #[.tmp 15, .tmp 16], argTypes := #[23, 53] }, 3, "chip.go:63", #[⟨3, .data⟩, ⟨4, .data⟩], none⟩) rfl (fun K hK => ?_) AllReadyH.nil
  go_simp
  (go_at_call 65; ((with_reducible refine (num_c _ _ _ _ _ k l n _ HM hnum).mono ?_); rintro e' wN ⟨rfl, hb⟩; (try have hb := undrew hb); replace hC := ChipW.likeB hC hb; replace HB0 := btr HB0 HB0.size hb; replace G1 := G1.below hb G1.lt; clear z0 z1 y0 y1 y2 y3 y4; have z0 := G1.cell_ 0; have z1 := G1.cell_ 1; simp at z0 z1; obtain ⟨y0, y1, y2, y3, y4⟩ := geo5 hC))
  go_wp2_with fail
  refine hK.out _ _ ?_ (fun hNew => ?_)
  · (first | exact ⟨y0, y1, y2, y3, y4, z0, z1⟩ | assumption)
  clear hK K hHeld
  have hHeld := hNew
  clear hNew
  try simp only [Act.put, pz1, pz2, pz3]
  refine tk 7 ⟨some 19, .binOp .mul 3 (.tmp 17) (.tmp 18) 3, 3, "chip.go:63", #[⟨5, .data⟩, ⟨6, .data⟩], none⟩ ?_; try simp only [Act.put, pz1, pz2, pz3]
  refine tk 8 ⟨some 6, .assign (.tmp 19), 3, "chip.go:63", #[⟨7, .data⟩, ⟨5, .chain⟩, ⟨0, .phase⟩, ⟨1, .phase⟩, ⟨2, .phase⟩, ⟨3, .phase⟩, ⟨4, .phase⟩, ⟨5, .phase⟩, ⟨6, .phase⟩, ⟨7, .phase⟩], none⟩ ?_; try simp only [Act.put, pz1, pz2, pz3]
  refine wpAnyH_done (by kernel_rfl) ?_ _
  refine NoPanic.normal ?_
  obtain ⟨cx, hcx, y6⟩ := cells6x hC
  have hcx2 := HFIT.out
  obtain ⟨NX, hNX⟩ : ∃ NX, s.X.length = NX := ⟨_, rfl⟩
  rw [hNX] at y6 hcx hcx2
  clear hNX
  have f0 : (0 : Int) ≤ (F : Int) := by omega
  have f1 : F + RW ≤ cx := by omega
  have f2 : ¬ cx = F := by omega
  have f3 : (F : Int) + (RW : Int) ≤ (cx : Int) := by omega
  have f4 : (0 : Int) ≤ (RW : Int) := by omega
  go_wp2_with fail
  go_ret
  exact ⟨⟨cx - F, by omega, ret_sl (Nat.add_sub_cancel_left F RW)⟩, (by first | exact HB0 | exact HB0.drew)⟩
end Go.Proofs.Ytdfojhkpfbnmgaa
namespace Go.Proofs.Ytdfojhkpfbnmgaa
open Go.ChangeShapes Go.WideShapes Go.ChangeAt Go.RowKit
theorem slB_not_nil (a : Addr) (n c : Nat) (w : World) : (binOp BinOp.eql 46 (.slice (some a) n c) (.slice none 0 0)).run Try.prog w = .ok (.bool false) w := by kernel_rfl
theorem own_emptyB (w : World) (e : TypeId) : (w.alloc (.cells #[] e)).ownsRow w.heap.size e 1 (.slice (some ⟨w.heap.size, 0, none⟩) 0 0) 0 [] :=
  ⟨by simp, Or.inr ⟨w.heap.size, 0, #[], rfl, Nat.le_refl _, heap_alloc_new w _, by omega, by unfold maxLen; omega, by simp, by simp⟩⟩
theorem own_rowT {w : World} {base n : Nat} {t : TypeId} {v : Value} {xs : List Value} (h : w.ownsRow base t 1 v n xs) (hn : 1 ≤ n) : ∃ g c, v = .slice (some ⟨g, 0, none⟩) n c ∧ RowT w g t xs ∧ base ≤ g := by
  obtain ⟨hl, h'⟩ := h
  rcases h' with ⟨_, h0⟩ | ⟨g, cap, cur, rfl, hb, hh, hnc, _, hsz, ht⟩
  · rw [h0] at hl
    simp at hl
    omega
  · refine ⟨g, cap, rfl, ⟨cur.toList.drop (n * 1), ?_⟩, hb⟩
    unfold Blk
    rw [← ht, List.take_append_drop]
    exact hh
end Go.Proofs.Ytdfojhkpfbnmgaa
namespace Go.Proofs.Ytdfojhkpfbnmgaa
open Go.ChangeShapes Go.WideShapes Go.ChangeAt Go.RowKit
theorem cell10 {w : World} {m gx gb : Nat} {Af : Option Addr} {nf cf : Nat} {a b c d e : Int} {fs : List Flt} {s : ChS} (h : ChipW w m gx gb Af nf cf a b c d e fs s) : w.cell? ⟨m, 10, none⟩ = some (.bool s.on) := by
  obtain ⟨cx, cb, NX, NB, hX, hN, hcx, hB⟩ := h.blk
  exact hB.cell_ 10
theorem begin_b (m gx gb : Nat) (Af : Option Addr) (nf cf : Nat) (a b c d e : Int) (fs : List Flt) (n : Int) (T : Bool) (w : World) (s : ChS) (hC : ChipW w m gx gb Af nf cf a b c d e fs s) (hb : s.Bnd n) (hn : n ≤ 1000000000) (hcu : Hid (s.cutB = T)) : Calls Try.prog 34 #[.pointer (some ⟨m, 0, none⟩)] w fun e' w' => e' = .returned (.bool T) ∧ ChipW w' m gx gb Af nf cf a b c d e fs s.tick ∧ Tch (chB m gx gb) w w' := by
  have := begin_any m gx gb Af nf cf a b c d e fs n w s hC hb hn
  rwa [hcu.out] at this
theorem tick_X (s : ChS) : s.tick.X = s.X := by unfold ChS.tick; split <;> rfl
theorem tick_K (s : ChS) : s.tick.K = s.K := by unfold ChS.tick; split <;> rfl
def ChS.pageOf (s : ChS) (n RW : Nat) : List Nat := (s.X.drop (n * RW)).take RW
theorem chip_rd {w : World} {m gx gb : Nat} {Af : Option Addr} {nf cf : Nat} {a b c d e : Int} {fs : List Flt} {s : ChS} (h : ChipW w m gx gb Af nf cf a b c d e fs s) {n RW : Nat} (hf : n * RW + RW ≤ s.X.length) : Rd w (some ⟨gx, n * RW, none⟩) RW 1 ((s.pageOf n RW).map byteV) := by
  refine ⟨by simp [ChS.pageOf]; omega, Or.inr ⟨gx, n * RW, rfl, fun j u hu => h.rX.cell_ ?_⟩⟩
  rw [List.getElem?_map] at hu ⊢
  unfold ChS.pageOf at hu
  rw [List.getElem?_take] at hu
  split at hu
  · rw [List.getElem?_drop] at hu
    exact hu
  · cases hu
theorem read_off (m gx gb : Nat) (Af : Option Addr) (nf cf : Nat) (a b c d e : Int) (fs : List Flt) (x y : Int) (w : World) (s : ChS) (hC : ChipW w m gx gb Af nf cf a b c d e fs s) (ho : s.on = false) : Calls Try.prog 25 #[.pointer (some ⟨m, 0, none⟩), .agg #[.int .i64 x, .int .i64 y]] w fun e' w' => e' = .returned (.tuple #[.slice none 0 0, .int .i64 9]) ∧ Below w.heap.size w w' := by
  have HB0 : Below w.heap.size w (w.alloc (.cells #[.int .i64 x, .int .i64 y] 53)) := (Below.refl _ _).alloc (Nat.le_refl _) _
  have G1 : Blk (w.alloc (.cells #[.int .i64 x, .int .i64 y] 53)) w.heap.size 53 #[.int .i64 x, .int .i64 y] := Blk.new_ _ _ _
  have z0 : (w.alloc (.cells #[.int .i64 x, .int .i64 y] 53)).cell? ⟨w.heap.size, 0, none⟩ = some (.int .i64 x) := G1.cell_ 0
  have z1 : (w.alloc (.cells #[.int .i64 x, .int .i64 y] 53)).cell? ⟨w.heap.size, 1, none⟩ = some (.int .i64 y) := G1.cell_ 1
  have hC := hC.below HB0
  have y10 := cell10 hC
  rw [ho] at y10
  clear ho
  clear hC
  go_enter Try.func25, Try.ntmps25
  go_wp2_with fail
  go_ret2
  exact ⟨rfl, HB0⟩
theorem read_arg (m gx gb : Nat) (Af : Option Addr) (nf cf : Nat) (a b c d e : Int) (fs : List Flt) (x y : Int) (w : World) (s : ChS) (hC : ChipW w m gx gb Af nf cf a b c d e fs s) (ho : s.on = true) (ht : Hid (thereB a b x y = false)) : Calls Try.prog 25 #[.pointer (some ⟨m, 0, none⟩), .agg #[.int .i64 x, .int .i64 y]] w fun e' w' => e' = .returned (.tuple #[.slice none 0 0, .int .i64 2]) ∧ Below w.heap.size w w' := by
  have HB0 : Below w.heap.size w (w.alloc (.cells #[.int .i64 x, .int .i64 y] 53)) := (Below.refl _ _).alloc (Nat.le_refl _) _
  have G1 : Blk (w.alloc (.cells #[.int .i64 x, .int .i64 y] 53)) w.heap.size 53 #[.int .i64 x, .int .i64 y] := Blk.new_ _ _ _
  have z0 : (w.alloc (.cells #[.int .i64 x, .int .i64 y] 53)).cell? ⟨w.heap.size, 0, none⟩ = some (.int .i64 x) := G1.cell_ 0
  have z1 : (w.alloc (.cells #[.int .i64 x, .int .i64 y] 53)).cell? ⟨w.heap.size, 1, none⟩ = some (.int .i64 y) := G1.cell_ 1
  have hC := hC.below HB0
  have y10 := cell10 hC
  rw [ho] at y10
  clear ho
  go_enter Try.func25, Try.ntmps25
  go_wp2_with (go_at_call 50; ((with_reducible refine (hasPage_b _ _ _ _ _ _ _ _ _ _ _ _ _ _ _ _ _ hC ht).mono ?_); rintro e' wN ⟨rfl, hb⟩; replace hC := hC.below hb; replace HB0 := btr HB0 HB0.size hb; replace G1 := G1.below hb G1.lt; clear z0 z1 y10; have z0 := G1.cell_ 0; have z1 := G1.cell_ 1; simp at z0 z1))
  go_ret2
  exact ⟨rfl, HB0⟩
theorem read_cut (m gx gb : Nat) (Af : Option Addr) (nf cf : Nat) (a b c d e : Int) (fs : List Flt) (x y n : Int) (w : World) (s : ChS) (hC : ChipW w m gx gb Af nf cf a b c d e fs s) (hbn : s.Bnd n) (hn : n ≤ 1000000000) (ho : s.on = true) (ht : Hid (thereB a b x y = true)) (hcu : Hid (s.cutB = true)) : Calls Try.prog 25 #[.pointer (some ⟨m, 0, none⟩), .agg #[.int .i64 x, .int .i64 y]] w fun e' w' => e' = .returned (.tuple #[.slice none 0 0, .int .i64 9]) ∧ ChipW w' m gx gb Af nf cf a b c d e fs s.tick ∧ Tch (chB m gx gb) w w' := by
  have hnb : ¬ chB m gx gb w.heap.size := by have := hC.lt; unfold chB; omega
  have HB0 : Below w.heap.size w (w.alloc (.cells #[.int .i64 x, .int .i64 y] 53)) := (Below.refl _ _).alloc (Nat.le_refl _) _
  have G1 : Blk (w.alloc (.cells #[.int .i64 x, .int .i64 y] 53)) w.heap.size 53 #[.int .i64 x, .int .i64 y] := Blk.new_ _ _ _
  have z0 : (w.alloc (.cells #[.int .i64 x, .int .i64 y] 53)).cell? ⟨w.heap.size, 0, none⟩ = some (.int .i64 x) := G1.cell_ 0
  have z1 : (w.alloc (.cells #[.int .i64 x, .int .i64 y] 53)).cell? ⟨w.heap.size, 1, none⟩ = some (.int .i64 y) := G1.cell_ 1
  have hC := hC.below HB0
  have y10 := cell10 hC
  rw [ho] at y10
  clear ho
  go_enter Try.func25, Try.ntmps25
  go_wp2_with (first
    | (go_at_call 50; ((with_reducible refine (hasPage_b _ _ _ _ _ _ _ _ _ _ _ _ _ _ _ _ _ hC ht).mono ?_); rintro e' wN ⟨rfl, hb⟩; replace hC := hC.below hb; replace HB0 := btr HB0 HB0.size hb; replace G1 := G1.below hb G1.lt; clear z0 z1 y10; have z0 := G1.cell_ 0; have z1 := G1.cell_ 1; simp at z0 z1))
    | (go_at_call 34; ((with_reducible refine (begin_b _ _ _ _ _ _ _ _ _ _ _ _ _ _ _ _ hC hbn hn hcu).mono ?_); rintro e' wN ⟨rfl, hC2, hT⟩; have HT := (Tch.of_below (S := chB m gx gb) HB0).trans hT; have hlt0 := hT.far w.heap.size G1.lt hnb; replace G1 : Blk wN w.heap.size _ _ := hlt0.trans G1; clear hlt0 hC; have hC := hC2; clear hC2 z0 z1; have z0 := G1.cell_ 0; have z1 := G1.cell_ 1; simp at z0 z1)))
  go_ret2
  exact ⟨rfl, hC, HT⟩
end Go.Proofs.Ytdfojhkpfbnmgaa
namespace Go.Proofs.Ytdfojhkpfbnmgaa
open Go.ChangeShapes Go.WideShapes Go.ChangeAt Go.RowKit
def putX (X : List Nat) (F : Nat) (vs : List Nat) : List Nat := X.take F ++ vs ++ X.drop (F + vs.length)
theorem putX_len {X : List Nat} {F : Nat} {vs : List Nat} (h : F + vs.length ≤ X.length) : (putX X F vs).length = X.length := by
  simp [putX]
  omega
theorem copy_chip {w : World} {m gx gb : Nat} {Af : Option Addr} {nf cf : Nat} {a b c d e : Int} {fs : List Flt} {s : ChS} (hC : ChipW w m gx gb Af nf cf a b c d e fs s) {F RW q : Nat} (ad : Addr) (nv cv : Nat) (vs : List Nat) (hF : F + RW ≤ s.X.length) (hv : vs.length = min nv RW) (hread : ∀ j u, (vs.map byteV)[j]? = some u → w.cell? (ad.add j) = some u) :
    ∃ w', (Builtin.copy_ #[46, 46] 3 #[.slice (some ⟨gx, F, none⟩) RW q, .slice (some ad) nv cv]).run Try.prog w = .ok (.int .i64 (vs.length : Nat)) w' ∧ ChipW w' m gx gb Af nf cf a b c d e fs { s with X := putX s.X F vs } ∧ Tch (chB m gx gb) w w' := by
  obtain ⟨⟨cx, cb, NX, NB, hX, hN, hcx, hB⟩, ⟨r, rX⟩, rK, rF, n1, n2, n3, l1, l2, l3, l4⟩ := hC
  have hrun := run_copy_row (P := Try.prog) w 46 46 3 5 gx F RW q ad nv cv (s.X.map byteV ++ r).toArray 5 (vs.map byteV) Try.underlying46 infoByteSz rX (by rw [List.length_map]; exact hv) hread (by simp; omega) (oneB vs)
  obtain ⟨A2, hA2⟩ : ∃ A2, spl (s.X.map byteV ++ r).toArray F (vs.map byteV) = A2 := ⟨_, rfl⟩
  have hrun2 : (Builtin.copy_ #[46, 46] 3 #[.slice (some ⟨gx, F, none⟩) RW q, .slice (some ad) nv cv]).run Try.prog w = .ok (.int .i64 (vs.length : Nat)) (w.setRow gx A2) := by
    rw [← hA2]
    refine hrun.trans ?_
    rw [List.length_map]
    simp only [spl, List.length_map]
    rfl
  refine ⟨_, hrun2, ?_, Tch.setRow w gx _ chB_x⟩
  have hT := Tch.setRow (S := fun g => g = gx) w gx A2 rfl
  have hK := setRow_heap w gx _ A2 5 _ rX
  refine ⟨⟨cx, cb, NX, NB, by rw [putX_len (by omega)]; exact hX, hN, hcx, hT.blk hB (fun e => n1 e)⟩, ⟨r, hK.trans ?_⟩, rK.keep (hT.far _ rK.lt (fun e => n3 e.symm)), rF.keep hT.size (fun g hg g1 g2 g3 => hT.far g hg g2), n1, n2, n3, by rw [putX_len (by omega)]; exact l1, l2, l3, l4⟩
  rw [← hA2]
  congr 2
  simp only [spl, putX, List.map_append, List.map_take, List.map_drop, List.length_map]
  rw [List.take_append_of_le_length (by simp; omega), List.drop_append_of_le_length (by simp; omega)]
  simp
theorem setK_chip {w : World} {m gx gb : Nat} {Af : Option Addr} {nf cf : Nat} {a b c d e : Int} {fs : List Flt} {s : ChS} (hC : ChipW w m gx gb Af nf cf a b c d e fs s) {i : Nat} (hi : i < s.K.length) (v : Int) : ChipW (w.setCell ⟨gb, i, none⟩ (.int .i64 v)) m gx gb Af nf cf a b c d e fs { s with K := s.K.set i v } ∧ Tch (chB m gx gb) w (w.setCell ⟨gb, i, none⟩ (.int .i64 v)) := by
  obtain ⟨⟨cx, cb, NX, NB, hX, hN, hcx, hB⟩, rX, rK, rF, n1, n2, n3, l1, l2, l3, l4⟩ := hC
  refine ⟨⟨⟨cx, cb, NX, NB, hX, hN, hcx, hB.far n2 _⟩, rX.far n3 _, ?_, ?_, n1, n2, n3, l1, by simp; exact l2, l3, l4⟩, Tch.set w ⟨gb, i, none⟩ (.int .i64 v) chB_b⟩
  · have := rK.set_ (i := i) (by simpa using hi) (.int .i64 v)
    rw [← List.map_set] at this
    exact this
  · have hT := Tch.setm w gb i (.int .i64 v)
    exact rF.keep hT.size (fun g hg g1 g2 g3 => hT.far g hg g3)
theorem chip_k {w : World} {m gx gb : Nat} {Af : Option Addr} {nf cf : Nat} {a b c d e : Int} {fs : List Flt} {s : ChS} (hC : ChipW w m gx gb Af nf cf a b c d e fs s) {k j : Nat} (hk : (k : Int) < a) (hj : j < 3) : ∃ cb NB : Nat, (k : Int) < (NB : Int) ∧ w.cell? ⟨m, 7, none⟩ = some (.slice (some ⟨gb, 0, none⟩) NB cb) ∧ w.cell? ⟨gb, k * 3 + j, none⟩ = some (.int .i64 (s.k (k : Int) j)) ∧ (∀ i, w.frozen? ⟨gb, i, none⟩ = false) ∧ k * 3 + j < s.K.length := by
  obtain ⟨cx, cb, NX, NB, hNX, hNB, y0, y1, y2, y3, y4, y5, y6, y7, y8, y9, y10, y11, y12, y13, y14, y15, yx, yb, fm, fx, fb⟩ := hC.get
  have h1 := hNB.out
  have h2 := hC.lenK
  refine ⟨cb, NB, by omega, y7, ?_, fb, by omega⟩
  rw [yb _ (by omega)]
  unfold ChS.k
  rw [Int.toNat_natCast, Nat.mul_comm]
theorem cell14 {w : World} {m gx gb : Nat} {Af : Option Addr} {nf cf : Nat} {a b c d e : Int} {fs : List Flt} {s : ChS} (h : ChipW w m gx gb Af nf cf a b c d e fs s) : w.cell? ⟨m, 14, none⟩ = some (.int .i64 s.cby) := by
  obtain ⟨cx, cb, NX, NB, hX, hN, hcx, hB⟩ := h.blk
  exact hB.cell_ 14
def ChS.inc (s : ChS) (k j : Nat) : ChS := { s with K := s.K.set (k * 3 + j) (s.k (k : Int) j + 1) }
theorem wrong_tick (s : ChS) (a : Int) (fs : List Flt) (k l : Nat) : s.tick.wrong a fs k l = s.wrong a fs k l := by
  unfold ChS.wrong failedB ChS.k
  rw [tick_K]
theorem refusal_b (m gx gb : Nat) (Af : Option Addr) (nf cf : Nat) (a b c d e : Int) (fs : List Flt) (k l : Nat) (z : Int) (w : World) (s : ChS) (hC : ChipW w m gx gb Af nf cf a b c d e fs s) (hk : (k : Int) < a) (hz : Hid (s.wrong a fs k l = z)) : Calls Try.prog 51 #[.pointer (some ⟨m, 0, none⟩), .agg #[.int .i64 (k : Int), .int .i64 (l : Int)]] w fun e' w' => e' = .returned (.int .i64 z) ∧ Below w.heap.size w w' := by
  have := refusal_any m gx gb Af nf cf a b c d e fs k l w s hC hk
  rwa [hz.out] at this
theorem prog_off (m gx gb : Nat) (Af : Option Addr) (nf cf : Nat) (a b c d e : Int) (fs : List Flt) (x y : Int) (A : Option Addr) (nb cA : Nat) (w : World) (s : ChS) (hC : ChipW w m gx gb Af nf cf a b c d e fs s) (ho : s.on = false) : Calls Try.prog 23 #[.pointer (some ⟨m, 0, none⟩), .agg #[.int .i64 x, .int .i64 y], .slice A nb cA] w fun e' w' => e' = .returned (.int .i64 9) ∧ Below w.heap.size w w' := by
  have HB0 : Below w.heap.size w (w.alloc (.cells #[.int .i64 x, .int .i64 y] 53)) := (Below.refl _ _).alloc (Nat.le_refl _) _
  have G1 : Blk (w.alloc (.cells #[.int .i64 x, .int .i64 y] 53)) w.heap.size 53 #[.int .i64 x, .int .i64 y] := Blk.new_ _ _ _
  have z0 : (w.alloc (.cells #[.int .i64 x, .int .i64 y] 53)).cell? ⟨w.heap.size, 0, none⟩ = some (.int .i64 x) := G1.cell_ 0
  have z1 : (w.alloc (.cells #[.int .i64 x, .int .i64 y] 53)).cell? ⟨w.heap.size, 1, none⟩ = some (.int .i64 y) := G1.cell_ 1
  have hC := hC.below HB0
  have y10 := cell10 hC
  rw [ho] at y10
  clear ho
  clear hC
  go_enter Try.func23, Try.ntmps23
  go_wp2_with fail
  go_ret
  exact ⟨rfl, HB0⟩
theorem raw_bb (a b c d e : Int) (RW : Nat) (w : World) (hm : Hid (mayB a b c d e = true)) (hr : Hid ((RW : Int) = c + 16)) :
    Calls Try.prog 28 #[.agg #[.int .i64 a, .int .i64 b, .int .i64 c, .int .i64 d, .int .i64 e]] w fun e' w' => e' = .returned (.int .i64 (RW : Int)) ∧ Below w.heap.size w w' := by
  have q := raw_b a b c d e w hm
  rwa [← hr.out] at q
theorem prog_cutbad (m gx gb : Nat) (Af : Option Addr) (nf cf : Nat) (a b c d e : Int) (fs : List Flt) (k l N RW : Nat) (n : Int) (bs : List Nat) (gA oA cA : Nat) (w : World) (s : ChS) (hC : ChipW w m gx gb Af nf cf a b c d e fs s) (hbn : s.Bnd n) (hn : n ≤ 1000000000) (ho : s.on = true) (hk : (k : Int) < a) (hl : (l : Int) < b) (hnum : Hid (numberI a b (k : Int) (l : Int) = (N : Int))) (HRW : Hid ((RW : Int) = c + 16)) (hfit0 : Hid (N * RW + RW ≤ s.X.length)) (r1 : 40 ≤ RW) (r2 : RW ≤ 80) (hN2 : N < 200) (hsl : ∀ j u, (bs.map byteV)[j]? = some u → w.cell? ⟨gA, oA + j, none⟩ = some u) (hgA : gA < w.heap.size) (hgn : ¬ chB m gx gb gA) (hbl : bs.length = RW) (hcu : Hid (s.cutB = true)) (z : Int) (hwr0 : s.wrong a fs k l = z) (hz : z ≠ 0) : Calls Try.prog 23 #[.pointer (some ⟨m, 0, none⟩), .agg #[.int .i64 (k : Int), .int .i64 (l : Int)], .slice (some ⟨gA, oA, none⟩) RW cA] w fun e' w' => e' = .returned (.int .i64 9) ∧ ChipW w' m gx gb Af nf cf a b c d e fs s.tick ∧ Tch (chB m gx gb) w w' := by
  have hnb : ¬ chB m gx gb w.heap.size := by have := hC.lt; unfold chB; omega
  have ht : Hid (thereB a b (k : Int) (l : Int) = true) := Lib.hid (by unfold thereB withinB; simp; omega)
  have HM := Lib.hid (planMay_bd hC.may).1
  have hwr : Hid (s.tick.wrong a fs k l = z) := Lib.hid (by rw [wrong_tick]; exact hwr0)
  have hfit : Hid (N * RW + RW ≤ s.tick.X.length) := Lib.hid (by rw [tick_X]; exact hfit0.out)
  have HSL := Lib.hid hsl
  have HBL := Lib.hid hbl
  clear hsl hbl hwr0
  have HB0 : Below w.heap.size w (w.alloc (.cells #[.int .i64 (k : Int), .int .i64 (l : Int)] 53)) := (Below.refl _ _).alloc (Nat.le_refl _) _
  have G1 : Blk (w.alloc (.cells #[.int .i64 (k : Int), .int .i64 (l : Int)] 53)) w.heap.size 53 #[.int .i64 (k : Int), .int .i64 (l : Int)] := Blk.new_ _ _ _
  have z0 : (w.alloc (.cells #[.int .i64 (k : Int), .int .i64 (l : Int)] 53)).cell? ⟨w.heap.size, 0, none⟩ = some (.int .i64 (k : Int)) := G1.cell_ 0
  have z1 : (w.alloc (.cells #[.int .i64 (k : Int), .int .i64 (l : Int)] 53)).cell? ⟨w.heap.size, 1, none⟩ = some (.int .i64 (l : Int)) := G1.cell_ 1
  have hC := hC.below HB0
  have y10 := cell10 hC
  rw [ho] at y10
  clear ho
  have hzz : (z == 0) = false := by simp [hz]
  clear hz
  go_enter Try.func23, Try.ntmps23
  go_wp2_with (first
    | (go_at_call 50; ((with_reducible refine (hasPage_b _ _ _ _ _ _ _ _ _ _ _ _ _ _ _ _ _ hC ht).mono ?_); rintro e' wN ⟨rfl, hb⟩; replace hC := hC.below hb; replace HB0 := btr HB0 HB0.size hb; replace G1 := G1.below hb G1.lt; clear z0 z1 y10; have z0 := G1.cell_ 0; have z1 := G1.cell_ 1; simp at z0 z1; obtain ⟨y0, y1, y2, y3, y4⟩ := geo5 hC))
    | (go_at_call 28; ((with_reducible refine (raw_bb _ _ _ _ _ RW _ HM HRW).mono ?_); rintro e' wN ⟨rfl, hb⟩; replace hC := hC.below hb; replace HB0 := btr HB0 HB0.size hb; replace G1 := G1.below hb G1.lt; clear z0 z1 y0 y1 y2 y3 y4; have z0 := G1.cell_ 0; have z1 := G1.cell_ 1; simp at z0 z1))
    | (go_at_call 34; ((with_reducible refine (begin_b _ _ _ _ _ _ _ _ _ _ _ _ _ _ _ _ hC hbn hn hcu).mono ?_); rintro e' wN ⟨rfl, hC2, hT⟩; have HT := (Tch.of_below (S := chB m gx gb) HB0).trans hT; have hlt0 := hT.far w.heap.size G1.lt hnb; replace G1 : Blk wN w.heap.size _ _ := hlt0.trans G1; clear hlt0 hC; have hC := hC2; clear hC2 z0 z1; have z0 := G1.cell_ 0; have z1 := G1.cell_ 1; simp at z0 z1))
    | (go_at_call 51; ((with_reducible refine (refusal_b _ _ _ _ _ _ _ _ _ _ _ _ k l _ _ _ hC hk hwr).mono ?_); rintro e' wN ⟨rfl, hb⟩; (try have hb := undrew hb); replace hC := ChipW.likeB hC hb; replace HT := HT.then hb; replace G1 := G1.below hb G1.lt; clear z0 z1; have z0 := G1.cell_ 0; have z1 := G1.cell_ 1; simp at z0 z1)))
  go_ret
  exact ⟨rfl, hC, HT⟩
theorem prog_err (m gx gb : Nat) (Af : Option Addr) (nf cf : Nat) (a b c d e : Int) (fs : List Flt) (k l N RW : Nat) (n : Int) (bs : List Nat) (gA oA cA : Nat) (w : World) (s : ChS) (hC : ChipW w m gx gb Af nf cf a b c d e fs s) (hbn : s.Bnd n) (hn : n ≤ 1000000000) (ho : s.on = true) (hk : (k : Int) < a) (hl : (l : Int) < b) (hnum : Hid (numberI a b (k : Int) (l : Int) = (N : Int))) (HRW : Hid ((RW : Int) = c + 16)) (hfit0 : Hid (N * RW + RW ≤ s.X.length)) (r1 : 40 ≤ RW) (r2 : RW ≤ 80) (hN2 : N < 200) (hsl : ∀ j u, (bs.map byteV)[j]? = some u → w.cell? ⟨gA, oA + j, none⟩ = some u) (hgA : gA < w.heap.size) (hgn : ¬ chB m gx gb gA) (hbl : bs.length = RW) (hcu : Hid (s.cutB = false)) (z : Int) (hwr0 : s.wrong a fs k l = z) (hz : z ≠ 0) : Calls Try.prog 23 #[.pointer (some ⟨m, 0, none⟩), .agg #[.int .i64 (k : Int), .int .i64 (l : Int)], .slice (some ⟨gA, oA, none⟩) RW cA] w fun e' w' => e' = .returned (.int .i64 z) ∧ ChipW w' m gx gb Af nf cf a b c d e fs s.tick ∧ Tch (chB m gx gb) w w' := by
  have hnb : ¬ chB m gx gb w.heap.size := by have := hC.lt; unfold chB; omega
  have ht : Hid (thereB a b (k : Int) (l : Int) = true) := Lib.hid (by unfold thereB withinB; simp; omega)
  have HM := Lib.hid (planMay_bd hC.may).1
  have hwr : Hid (s.tick.wrong a fs k l = z) := Lib.hid (by rw [wrong_tick]; exact hwr0)
  have hfit : Hid (N * RW + RW ≤ s.tick.X.length) := Lib.hid (by rw [tick_X]; exact hfit0.out)
  have HSL := Lib.hid hsl
  have HBL := Lib.hid hbl
  clear hsl hbl hwr0
  have HB0 : Below w.heap.size w (w.alloc (.cells #[.int .i64 (k : Int), .int .i64 (l : Int)] 53)) := (Below.refl _ _).alloc (Nat.le_refl _) _
  have G1 : Blk (w.alloc (.cells #[.int .i64 (k : Int), .int .i64 (l : Int)] 53)) w.heap.size 53 #[.int .i64 (k : Int), .int .i64 (l : Int)] := Blk.new_ _ _ _
  have z0 : (w.alloc (.cells #[.int .i64 (k : Int), .int .i64 (l : Int)] 53)).cell? ⟨w.heap.size, 0, none⟩ = some (.int .i64 (k : Int)) := G1.cell_ 0
  have z1 : (w.alloc (.cells #[.int .i64 (k : Int), .int .i64 (l : Int)] 53)).cell? ⟨w.heap.size, 1, none⟩ = some (.int .i64 (l : Int)) := G1.cell_ 1
  have hC := hC.below HB0
  have y10 := cell10 hC
  rw [ho] at y10
  clear ho
  have hzz : (z != 0) = true := by simp [hz]
  clear hz
  go_enter Try.func23, Try.ntmps23
  go_wp2_with (first
    | (go_at_call 50; ((with_reducible refine (hasPage_b _ _ _ _ _ _ _ _ _ _ _ _ _ _ _ _ _ hC ht).mono ?_); rintro e' wN ⟨rfl, hb⟩; replace hC := hC.below hb; replace HB0 := btr HB0 HB0.size hb; replace G1 := G1.below hb G1.lt; clear z0 z1 y10; have z0 := G1.cell_ 0; have z1 := G1.cell_ 1; simp at z0 z1; obtain ⟨y0, y1, y2, y3, y4⟩ := geo5 hC))
    | (go_at_call 28; ((with_reducible refine (raw_bb _ _ _ _ _ RW _ HM HRW).mono ?_); rintro e' wN ⟨rfl, hb⟩; replace hC := hC.below hb; replace HB0 := btr HB0 HB0.size hb; replace G1 := G1.below hb G1.lt; clear z0 z1 y0 y1 y2 y3 y4; have z0 := G1.cell_ 0; have z1 := G1.cell_ 1; simp at z0 z1))
    | (go_at_call 34; ((with_reducible refine (begin_b _ _ _ _ _ _ _ _ _ _ _ _ _ _ _ _ hC hbn hn hcu).mono ?_); rintro e' wN ⟨rfl, hC2, hT⟩; have HT := (Tch.of_below (S := chB m gx gb) HB0).trans hT; have hlt0 := hT.far w.heap.size G1.lt hnb; replace G1 : Blk wN w.heap.size _ _ := hlt0.trans G1; clear hlt0 hC; have hC := hC2; clear hC2 z0 z1; have z0 := G1.cell_ 0; have z1 := G1.cell_ 1; simp at z0 z1))
    | (go_at_call 51; ((with_reducible refine (refusal_b _ _ _ _ _ _ _ _ _ _ _ _ k l _ _ _ hC hk hwr).mono ?_); rintro e' wN ⟨rfl, hb⟩; (try have hb := undrew hb); replace hC := ChipW.likeB hC hb; replace HT := HT.then hb; replace G1 := G1.below hb G1.lt; clear z0 z1; have z0 := G1.cell_ 0; have z1 := G1.cell_ 1; simp at z0 z1)))
  go_ret
  exact ⟨rfl, hC, HT⟩
end Go.Proofs.Ytdfojhkpfbnmgaa
namespace Go.Proofs.Ytdfojhkpfbnmgaa
open Go.ChangeShapes Go.WideShapes Go.ChangeAt Go.RowKit
theorem rd_keep {w wN : World} {m gx gb : Nat} (HT : Tch (chB m gx gb) w wN) {gA oA : Nat} (hgA : gA < w.heap.size) (hgn : ¬ chB m gx gb gA) {bs vs : List Nat} (hsl : ∀ j u, (bs.map byteV)[j]? = some u → w.cell? ⟨gA, oA + j, none⟩ = some u) (hv : ∀ (j : Nat) (u : Value), (vs.map byteV)[j]? = some u → (bs.map byteV)[j]? = some u) :
    ∀ j u, (vs.map byteV)[j]? = some u → wN.cell? ((⟨gA, oA, none⟩ : Addr).add j) = some u := by
  intro j u hu
  have e : (⟨gA, oA, none⟩ : Addr).add j = ⟨gA, oA + j, none⟩ := by
    unfold Addr.add
    split <;> simp_all
  rw [e]
  exact (World.cell?_of_block (w := w) (HT.far gA hgA hgn)).trans (hsl j u (hv j u hu))
theorem getD_setN (A : List Int) (p q : Nat) (v d : Int) : (A.set p v).getD q d = if p = q ∧ p < A.length then v else A.getD q d := by
  rw [List.getD_eq_getElem?_getD, List.getD_eq_getElem?_getD, List.getElem?_set]
  by_cases h : p = q
  · subst h
    by_cases h2 : p < A.length
    · simp [h2]
    · simp [h2]
  · simp [h]
theorem take_sub {bs : List Nat} {q : Nat} : ∀ (j : Nat) (u : Value), ((bs.take q).map byteV)[j]? = some u → (bs.map byteV)[j]? = some u := by
  intro j u hu
  rw [List.map_take, List.getElem?_take] at hu
  split at hu
  · exact hu
  · cases hu
def ChS.prog (s : ChS) (k N RW : Nat) (bs : List Nat) : ChS := (({ s.tick with X := putX s.X (N * RW) bs } : ChS).inc k 0).inc k 2
def ChS.progCut (s : ChS) (k N RW : Nat) (bs : List Nat) : ChS := ({ s.tick with X := putX s.X (N * RW) bs } : ChS).inc k 0
theorem prog_ok (m gx gb : Nat) (Af : Option Addr) (nf cf : Nat) (a b c d e : Int) (fs : List Flt) (k l N RW : Nat) (n : Int) (bs : List Nat) (gA oA cA : Nat) (w : World) (s : ChS) (hC : ChipW w m gx gb Af nf cf a b c d e fs s) (hbn : s.Bnd n) (hn : n ≤ 1000000000) (ho : s.on = true) (hk : (k : Int) < a) (hl : (l : Int) < b) (hnum : Hid (numberI a b (k : Int) (l : Int) = (N : Int))) (HRW : Hid ((RW : Int) = c + 16)) (hfit0 : Hid (N * RW + RW ≤ s.X.length)) (r1 : 40 ≤ RW) (r2 : RW ≤ 80) (hN2 : N < 200) (hsl : ∀ j u, (bs.map byteV)[j]? = some u → w.cell? ⟨gA, oA + j, none⟩ = some u) (hgA : gA < w.heap.size) (hgn : ¬ chB m gx gb gA) (hbl : bs.length = RW) (hcu : Hid (s.cutB = false)) (hwr0 : s.wrong a fs k l = 0) : Calls Try.prog 23 #[.pointer (some ⟨m, 0, none⟩), .agg #[.int .i64 (k : Int), .int .i64 (l : Int)], .slice (some ⟨gA, oA, none⟩) RW cA] w fun e' w' => e' = .returned (.int .i64 0) ∧ ChipW w' m gx gb Af nf cf a b c d e fs (s.prog k N RW bs) ∧ Tch (chB m gx gb) w w' := by
  have KB : ∀ i, 0 ≤ s.k (k : Int) i ∧ s.k (k : Int) i ≤ n + 1 := fun i => ⟨hbn.k0 _, by have := hbn.k1 (3 * (k : Int).toNat + i); unfold ChS.k; omega⟩
  have KB : ∀ i, 0 ≤ (({ s.tick with X := putX s.tick.X (N * RW) bs } : ChS)).k (k : Int) i ∧ (({ s.tick with X := putX s.tick.X (N * RW) bs } : ChS)).k (k : Int) i ≤ n + 1 := fun i => by
    have := KB i
    unfold ChS.k at this ⊢
    dsimp only
    rw [tick_K]
    exact this
  have HKB := Lib.hid KB
  clear KB
  have hnb : ¬ chB m gx gb w.heap.size := by have := hC.lt; unfold chB; omega
  have ht : Hid (thereB a b (k : Int) (l : Int) = true) := Lib.hid (by unfold thereB withinB; simp; omega)
  have HM := Lib.hid (planMay_bd hC.may).1
  have hwr : Hid (s.tick.wrong a fs k l = 0) := Lib.hid (by rw [wrong_tick]; exact hwr0)
  have hfit : Hid (N * RW + RW ≤ s.tick.X.length) := Lib.hid (by rw [tick_X]; exact hfit0.out)
  have HSL := Lib.hid hsl
  have HBL := Lib.hid hbl
  clear hsl hbl hwr0
  have HB0 : Below w.heap.size w (w.alloc (.cells #[.int .i64 (k : Int), .int .i64 (l : Int)] 53)) := (Below.refl _ _).alloc (Nat.le_refl _) _
  have G1 : Blk (w.alloc (.cells #[.int .i64 (k : Int), .int .i64 (l : Int)] 53)) w.heap.size 53 #[.int .i64 (k : Int), .int .i64 (l : Int)] := Blk.new_ _ _ _
  have z0 : (w.alloc (.cells #[.int .i64 (k : Int), .int .i64 (l : Int)] 53)).cell? ⟨w.heap.size, 0, none⟩ = some (.int .i64 (k : Int)) := G1.cell_ 0
  have z1 : (w.alloc (.cells #[.int .i64 (k : Int), .int .i64 (l : Int)] 53)).cell? ⟨w.heap.size, 1, none⟩ = some (.int .i64 (l : Int)) := G1.cell_ 1
  have hC := hC.below HB0
  have y10 := cell10 hC
  rw [ho] at y10
  clear ho
  go_enter Try.func23, Try.ntmps23
  go_upto_region 18 with (first
    | (go_at_call 50; ((with_reducible refine (hasPage_b _ _ _ _ _ _ _ _ _ _ _ _ _ _ _ _ _ hC ht).mono ?_); rintro e' wN ⟨rfl, hb⟩; replace hC := hC.below hb; replace HB0 := btr HB0 HB0.size hb; replace G1 := G1.below hb G1.lt; clear z0 z1 y10; have z0 := G1.cell_ 0; have z1 := G1.cell_ 1; simp at z0 z1; obtain ⟨y0, y1, y2, y3, y4⟩ := geo5 hC))
    | (go_at_call 28; ((with_reducible refine (raw_bb _ _ _ _ _ RW _ HM HRW).mono ?_); rintro e' wN ⟨rfl, hb⟩; replace hC := hC.below hb; replace HB0 := btr HB0 HB0.size hb; replace G1 := G1.below hb G1.lt; clear z0 z1 y0 y1 y2 y3 y4; have z0 := G1.cell_ 0; have z1 := G1.cell_ 1; simp at z0 z1))
    | (go_at_call 34; ((with_reducible refine (begin_b _ _ _ _ _ _ _ _ _ _ _ _ _ _ _ _ hC hbn hn hcu).mono ?_); rintro e' wN ⟨rfl, hC2, hT⟩; have HT := (Tch.of_below (S := chB m gx gb) HB0).trans hT; have hlt0 := hT.far w.heap.size G1.lt hnb; replace G1 : Blk wN w.heap.size _ _ := hlt0.trans G1; clear hlt0 hC; have hC := hC2; clear hC2 z0 z1; have z0 := G1.cell_ 0; have z1 := G1.cell_ 1; simp at z0 z1))
    | (go_at_call 51; ((with_reducible refine (refusal_b _ _ _ _ _ _ _ _ _ _ _ _ k l _ _ _ hC hk hwr).mono ?_); rintro e' wN ⟨rfl, hb⟩; (try have hb := undrew hb); replace hC := ChipW.likeB hC hb; replace HT := HT.then hb; replace G1 := G1.below hb G1.lt; clear z0 z1; have z0 := G1.cell_ 0; have z1 := G1.cell_ 1; simp at z0 z1))
    | (go_at_call 52; ((with_reducible refine (page_any _ _ _ _ _ _ _ _ _ _ _ _ k l N RW _ _ (by first | exact hC | exact ChipW.drew hC) hk hl hnum HRW.out hfit.out r1 r2 hN2).mono ?_); rintro e' wN ⟨⟨q, hq, rfl⟩, hb⟩; (try have hb := undrew hb); replace hC := ChipW.likeB hC hb; replace HT := HT.then hb; replace G1 := G1.below hb G1.lt; clear z0 z1; have z0 := G1.cell_ 0; have z1 := G1.cell_ 1; simp at z0 z1; have hrd : ∀ j u, ((bs).map byteV)[j]? = some u → wN.cell? ((⟨gA, oA, none⟩ : Addr).add j) = some u := rd_keep HT hgA hgn HSL.out (fun _ _ h => h); obtain ⟨wY, hrun, hCY, hTY⟩ := copy_chip (q := q) hC ⟨gA, oA, none⟩ RW cA (bs) hfit.out (by rw [HBL.out]; omega) hrd)))
  replace hC := hCY
  have hz9 := HT.size
  replace G1 := hTY.blk G1 hnb
  replace HT := HT.trans hTY
  clear hCY hTY z0 z1 hrun
  have z0 := G1.cell_ 0
  have z1 := G1.cell_ 1
  simp at z0 z1
  obtain ⟨S0, hS0⟩ : ∃ S0 : ChS, S0 = { s.tick with X := putX s.tick.X (N * RW) bs } := ⟨_, rfl⟩
  rw [← hS0] at hC HKB
  have HS0 := Lib.hid hS0
  have i0 : (0 : Int) ≤ (k : Int) := by omega
  clear hS0
  obtain ⟨cb0, NB0, hkN0, y7, cz, fb, hKl⟩ := chip_k (j := 0) hC hk (by omega)
  obtain ⟨v0, hv0⟩ : ∃ v, ChS.k S0 (k : Int) 0 = v := ⟨_, rfl⟩
  rw [hv0] at cz
  have HV0 := Lib.hid hv0
  have hbd0 : 0 ≤ v0 ∧ v0 ≤ n + 1 := by rw [← hv0]; exact HKB.out _
  obtain ⟨b00, b10⟩ := hbd0
  have hwr0 : IntKind.i64.wrap (v0 + 1) = v0 + 1 := wrapS _ (by omega) (by omega)
  (try rw [Nat.add_zero] at cz hKl)
  clear hv0
  go_still_tail 12, (by kernel_rfl)
  change wpList _ _ _ _ _ wY.drew
  go_wp2_with fail
  have hS := setK_chip hC hKl (v0 + 1)
  have hSd := ChipW.drew hS.1
  have hTd : Tch (chB m gx gb) w ((wY.setCell ⟨gb, k * 3, none⟩ (.int .i64 (v0 + 1))).drew) := (HT.trans hS.2).like
  have hG : Blk ((wY.setCell ⟨gb, k * 3, none⟩ (.int .i64 (v0 + 1))).drew) w.heap.size 53 #[.int .i64 (k : Int), .int .i64 (l : Int)] := G1.far (p := ⟨gb, k * 3, none⟩) (fun e => hnb (Or.inr (Or.inr e))) _
  clear HT hC G1 z0 z1 y7 cz fb hS hwr0
  generalize (wY.setCell ⟨gb, k * 3, none⟩ (.int .i64 (v0 + 1))).drew = w2 at hSd hTd hG ⊢
  have hC := hSd
  have HT := hTd
  have G1 := hG
  clear hSd hTd hG
  have z0 := G1.cell_ 0
  have z1 := G1.cell_ 1
  simp at z0 z1
  obtain ⟨S1, hS1⟩ : ∃ S1 : ChS, S1 = { S0 with K := S0.K.set (k * 3) (v0 + 1) } := ⟨_, rfl⟩
  rw [← hS1] at hC
  have KB1 : 0 ≤ S1.k (k : Int) 2 ∧ S1.k (k : Int) 2 ≤ n + 1 := by
    have := HKB.out 2
    rw [hS1]
    unfold ChS.k at this ⊢
    dsimp only
    rw [Int.toNat_natCast] at this ⊢
    rw [getD_setN, if_neg (by omega)]
    exact this
  have HS1 := Lib.hid hS1
  clear hS1
  go_upto_region 19 with fail
  obtain ⟨cb2, NB2, hkN2, y7, cz, fb, hKl⟩ := chip_k (j := 2) hC hk (by omega)
  obtain ⟨v2, hv2⟩ : ∃ v, ChS.k S1 (k : Int) 2 = v := ⟨_, rfl⟩
  rw [hv2] at cz
  have HV2 := Lib.hid hv2
  have hbd2 : 0 ≤ v2 ∧ v2 ≤ n + 1 := by rw [← hv2]; exact KB1
  obtain ⟨b02, b12⟩ := hbd2
  have hwr2 : IntKind.i64.wrap (v2 + 1) = v2 + 1 := wrapS _ (by omega) (by omega)
  (try rw [Nat.add_zero] at cz hKl)
  clear hv2
  go_still_tail 12, (by kernel_rfl)
  change wpList _ _ _ _ _ w2.drew
  go_wp2_with fail
  have hS := setK_chip hC hKl (v2 + 1)
  have hSd := ChipW.drew hS.1
  have hTd : Tch (chB m gx gb) w ((w2.setCell ⟨gb, k * 3 + 2, none⟩ (.int .i64 (v2 + 1))).drew) := (HT.trans hS.2).like
  have hG : Blk ((w2.setCell ⟨gb, k * 3 + 2, none⟩ (.int .i64 (v2 + 1))).drew) w.heap.size 53 #[.int .i64 (k : Int), .int .i64 (l : Int)] := G1.far (p := ⟨gb, k * 3 + 2, none⟩) (fun e => hnb (Or.inr (Or.inr e))) _
  clear HT hC G1 z0 z1 y7 cz fb hS hwr2
  generalize (w2.setCell ⟨gb, k * 3 + 2, none⟩ (.int .i64 (v2 + 1))).drew = w3 at hSd hTd hG ⊢
  have hC := hSd
  have HT := hTd
  have G1 := hG
  clear hSd hTd hG
  have z0 := G1.cell_ 0
  have z1 := G1.cell_ 1
  simp at z0 z1
  go_wp2_with fail
  go_ret
  have hfin : { S1 with K := S1.K.set (k * 3 + 2) (v2 + 1) } = s.prog k N RW bs := by
    rw [← HV2.out, HS1.out, ← HV0.out, HS0.out]
    unfold ChS.prog ChS.inc
    rw [tick_X]
    rfl
  rw [← hfin]
  exact ⟨rfl, hC, HT⟩
end Go.Proofs.Ytdfojhkpfbnmgaa
namespace Go.Proofs.Ytdfojhkpfbnmgaa
open Go.ChangeShapes Go.WideShapes Go.ChangeAt Go.RowKit
theorem tick_cby (s : ChS) : s.tick.cby = s.cby := by unfold ChS.tick; split <;> rfl
theorem prog_cut (m gx gb : Nat) (Af : Option Addr) (nf cf : Nat) (a b c d e : Int) (fs : List Flt) (k l N RW : Nat) (n : Int) (bs : List Nat) (gA oA cA : Nat) (w : World) (s : ChS) (hC : ChipW w m gx gb Af nf cf a b c d e fs s) (hbn : s.Bnd n) (hn : n ≤ 1000000000) (ho : s.on = true) (hk : (k : Int) < a) (hl : (l : Int) < b) (hnum : Hid (numberI a b (k : Int) (l : Int) = (N : Int))) (HRW : Hid ((RW : Int) = c + 16)) (hfit0 : Hid (N * RW + RW ≤ s.X.length)) (r1 : 40 ≤ RW) (r2 : RW ≤ 80) (hN2 : N < 200) (hsl : ∀ j u, (bs.map byteV)[j]? = some u → w.cell? ⟨gA, oA + j, none⟩ = some u) (hgA : gA < w.heap.size) (hgn : ¬ chB m gx gb gA) (hbl : bs.length = RW) (hcu : Hid (s.cutB = true)) (hwr0 : s.wrong a fs k l = 0) (Q : Nat) (hcb : 0 ≤ s.cby) (hQ : min RW s.cby.toNat = Q) (hcA : RW ≤ cA) (hcA2 : cA ≤ maxLen) : Calls Try.prog 23 #[.pointer (some ⟨m, 0, none⟩), .agg #[.int .i64 (k : Int), .int .i64 (l : Int)], .slice (some ⟨gA, oA, none⟩) RW cA] w fun e' w' => e' = .returned (.int .i64 9) ∧ ChipW w' m gx gb Af nf cf a b c d e fs (s.progCut k N RW (bs.take Q)) ∧ Tch (chB m gx gb) w w' := by
  have KB : ∀ i, 0 ≤ (({ s.tick with X := putX s.tick.X (N * RW) (bs.take Q) } : ChS)).k (k : Int) i ∧ (({ s.tick with X := putX s.tick.X (N * RW) (bs.take Q) } : ChS)).k (k : Int) i ≤ n + 1 := fun i => by
    have h1 := hbn.k0 (3 * (k : Int).toNat + i)
    have h2 := hbn.k1 (3 * (k : Int).toNat + i)
    unfold ChS.k
    dsimp only
    rw [tick_K]
    omega
  have HKB := Lib.hid KB
  have HQ := Lib.hid hQ
  obtain ⟨CB, hCB⟩ : ∃ z, s.tick.cby = z := ⟨_, rfl⟩
  have hmin : (if CB < (RW : Int) then CB else (RW : Int)) = (Q : Int) := by
    rw [← hCB, tick_cby]
    split <;> omega
  have q0 : (0 : Int) ≤ (Q : Int) := by omega
  have q1 : (Q : Int) ≤ (cA : Int) := by omega
  have q2 : Q ≤ cA := by omega
  unfold maxLen at hcA2
  have HCB := Lib.hid hCB
  clear KB hQ hCB hcb
  have hnb : ¬ chB m gx gb w.heap.size := by have := hC.lt; unfold chB; omega
  have ht : Hid (thereB a b (k : Int) (l : Int) = true) := Lib.hid (by unfold thereB withinB; simp; omega)
  have HM := Lib.hid (planMay_bd hC.may).1
  have hwr : Hid (s.tick.wrong a fs k l = 0) := Lib.hid (by rw [wrong_tick]; exact hwr0)
  have hfit : Hid (N * RW + RW ≤ s.tick.X.length) := Lib.hid (by rw [tick_X]; exact hfit0.out)
  have HSL := Lib.hid hsl
  have HBL := Lib.hid hbl
  clear hsl hbl hwr0
  have HB0 : Below w.heap.size w (w.alloc (.cells #[.int .i64 (k : Int), .int .i64 (l : Int)] 53)) := (Below.refl _ _).alloc (Nat.le_refl _) _
  have G1 : Blk (w.alloc (.cells #[.int .i64 (k : Int), .int .i64 (l : Int)] 53)) w.heap.size 53 #[.int .i64 (k : Int), .int .i64 (l : Int)] := Blk.new_ _ _ _
  have z0 : (w.alloc (.cells #[.int .i64 (k : Int), .int .i64 (l : Int)] 53)).cell? ⟨w.heap.size, 0, none⟩ = some (.int .i64 (k : Int)) := G1.cell_ 0
  have z1 : (w.alloc (.cells #[.int .i64 (k : Int), .int .i64 (l : Int)] 53)).cell? ⟨w.heap.size, 1, none⟩ = some (.int .i64 (l : Int)) := G1.cell_ 1
  have hC := hC.below HB0
  have y10 := cell10 hC
  rw [ho] at y10
  clear ho
  have HPG : True := trivial
  go_enter Try.func23, Try.ntmps23
  go_upto_region 10 with (first
    | (go_at_call 50; ((with_reducible refine (hasPage_b _ _ _ _ _ _ _ _ _ _ _ _ _ _ _ _ _ hC ht).mono ?_); rintro e' wN ⟨rfl, hb⟩; replace hC := hC.below hb; replace HB0 := btr HB0 HB0.size hb; replace G1 := G1.below hb G1.lt; clear z0 z1 y10; have z0 := G1.cell_ 0; have z1 := G1.cell_ 1; simp at z0 z1; obtain ⟨y0, y1, y2, y3, y4⟩ := geo5 hC))
    | (go_at_call 28; ((with_reducible refine (raw_bb _ _ _ _ _ RW _ HM HRW).mono ?_); rintro e' wN ⟨rfl, hb⟩; replace hC := hC.below hb; replace HB0 := btr HB0 HB0.size hb; replace G1 := G1.below hb G1.lt; clear z0 z1 y0 y1 y2 y3 y4; have z0 := G1.cell_ 0; have z1 := G1.cell_ 1; simp at z0 z1))
    | (go_at_call 34; ((with_reducible refine (begin_b _ _ _ _ _ _ _ _ _ _ _ _ _ _ _ _ hC hbn hn hcu).mono ?_); rintro e' wN ⟨rfl, hC2, hT⟩; have HT := (Tch.of_below (S := chB m gx gb) HB0).trans hT; have hlt0 := hT.far w.heap.size G1.lt hnb; replace G1 : Blk wN w.heap.size _ _ := hlt0.trans G1; clear hlt0 hC; have hC := hC2; clear hC2 z0 z1; have z0 := G1.cell_ 0; have z1 := G1.cell_ 1; simp at z0 z1))
    | (go_at_call 51; ((with_reducible refine (refusal_b _ _ _ _ _ _ _ _ _ _ _ _ k l _ _ _ hC hk hwr).mono ?_); rintro e' wN ⟨rfl, hb⟩; (try have hb := undrew hb); replace hC := ChipW.likeB hC hb; replace HT := HT.then hb; replace G1 := G1.below hb G1.lt; clear z0 z1; have z0 := G1.cell_ 0; have z1 := G1.cell_ 1; simp at z0 z1)))
  have y14 := cell14 hC
  rw [HCB.out] at y14
  refine wp_region_noPanic ?_
  refine wp_region_held_drew (S := (fun w' => w'.cell? ⟨m, 14, none⟩ = some (.int .i64 CB) ∧ w'.cell? ⟨w.heap.size, 0, none⟩ = some (.int .i64 (k : Int)) ∧ w'.cell? ⟨w.heap.size, 1, none⟩ = some (.int .i64 (l : Int)))) (by kernel_rfl) ?_ (fun hHeld => ?_)
  · (first | exact ⟨y14, z0, z1⟩ | exact ⟨c14, zz0, zz1⟩ | assumption)
  refine tk 0 ⟨some 44, .move (.tmp 0), 26, "chip.go:116", #[], none⟩ ?_; try simp only [Act.put, pz1, pz2, pz3]
  refine tk 1 ⟨some 45, .load 53 (.tmp 4), 53, "chip.go:116", #[], none⟩ ?_; try simp only [Act.put, pz1, pz2, pz3]
  refine tk 3 ⟨some 47, .move (.tmp 2), 46, "chip.go:116", #[], none⟩ ?_; try simp only [Act.put, pz1, pz2, pz3]
  refine tk 4 ⟨some 48, .move (.tmp 2), 46, "chip.go:116", #[], none⟩ ?_; try simp only [Act.put, pz1, pz2, pz3]
  refine tk 5 ⟨some 49, .call { callee := .builtin .len, args := #[.tmp 48], argTypes := #[46] }, 3, "chip.go:116", #[⟨4, .data⟩], none⟩ ?_; try simp only [Act.put, pz1, pz2, pz3]
  refine tk 6 ⟨some 50, .move (.tmp 0), 26, "chip.go:116", #[], none⟩ ?_; try simp only [Act.put, pz1, pz2, pz3]
  refine tk 7 ⟨some 51, .nilCheck (.tmp 50), 0, "chip.go:116", #[⟨6, .data⟩], none⟩ ?_; try simp only [Act.put, pz1, pz2, pz3]
  refine tk 8 ⟨some 52, .fieldAddr 68 (.tmp 51) 9, 0, "chip.go:116", #[⟨7, .data⟩], none⟩ ?_; try simp only [Act.put, pz1, pz2, pz3]
  refine tk 9 ⟨some 53, .fieldAddr 56 (.tmp 52) 1, 0, "chip.go:116", #[⟨8, .data⟩], none⟩ ?_; try simp only [Act.put, pz1, pz2, pz3]
  refine tk 10 ⟨some 54, .load 3 (.tmp 53), 3, "chip.go:116", #[⟨9, .data⟩], none⟩ ?_; try simp only [Act.put, pz1, pz2, pz3]
  refine tk 11 ⟨some 55, .call { callee := .builtin .min, args := #[.tmp 49, .tmp 54], argTypes := #[3, 3] }, 3, "chip.go:116", #[⟨5, .data⟩, ⟨10, .data⟩], none⟩ ?_; try simp only [Act.put, pz1, pz2, pz3]
  refine tk 12 ⟨some 56, .slice 46 (.tmp 47) none (some (.tmp 55)) none, 46, "chip.go:116", #[⟨3, .data⟩, ⟨11, .data⟩], none⟩ ?_; try simp only [Act.put, pz1, pz2, pz3]
  refine wpAnyH_ready (rs := [2]) (by kernel_rfl) (by simp) ?_
  refine AllReadyH.cons (o := ⟨some 46, .call { callee := .value (.func 52), args := #[.tmp 44, .tmp 45], argTypes := #[26, 53] }, 46, "chip.go:116", #[⟨0, .data⟩, ⟨1, .data⟩], none⟩) rfl (fun K hK => ?_) AllReadyH.nil
  go_simp
  (go_at_call 52; ((with_reducible refine (page_any _ _ _ _ _ _ _ _ _ _ _ _ k l N RW _ _ (by first | exact hC | exact ChipW.drew hC) hk hl hnum HRW.out hfit.out r1 r2 hN2).mono ?_); rintro e' wN ⟨⟨q, hq, rfl⟩, hb⟩; (try have hb := undrew hb); replace hC := ChipW.likeB hC hb; replace HT := HT.then hb; replace G1 := G1.below hb G1.lt; clear z0 z1; have z0 := G1.cell_ 0; have z1 := G1.cell_ 1; simp at z0 z1; have hrd : ∀ j u, (((bs.take Q)).map byteV)[j]? = some u → wN.cell? ((⟨gA, oA, none⟩ : Addr).add j) = some u := rd_keep HT hgA hgn HSL.out take_sub; obtain ⟨wY, hrun, hCY, hTY⟩ := copy_chip (q := q) hC ⟨gA, oA, none⟩ Q cA ((bs.take Q)) hfit.out (by rw [List.length_take, HBL.out]) hrd; have y14 := cell14 hC; have c14 := cell14 hCY; rw [HCB.out] at y14; rw [show ({ s.tick with X := putX s.tick.X (N * RW) (bs.take Q) } : ChS).cby = CB from HCB.out] at c14; replace G1 := hTY.blk G1 hnb; have zz0 := G1.cell_ 0; have zz1 := G1.cell_ 1; simp at zz0 zz1))
  go_wp2_with fail
  refine hK.out _ _ ?_ (fun hNew => ?_)
  · (first | exact ⟨y14, z0, z1⟩ | exact ⟨c14, zz0, zz1⟩ | assumption)
  clear hK K hHeld
  have hHeld := hNew
  clear hNew
  try simp only [Act.put, pz1, pz2, pz3]
  refine wpAnyH_ready (rs := [13]) (by kernel_rfl) (by simp) ?_
  refine AllReadyH.cons (o := ⟨some 57, .call { callee := .builtin .copy, args := #[.tmp 46, .tmp 56], argTypes := #[46, 46] }, 3, "chip.go:116", #[⟨2, .data⟩, ⟨12, .data⟩, ⟨2, .chain⟩], none⟩) rfl (fun K hK => ?_) AllReadyH.nil
  refine wp_copy _ _ 46 rfl _ _ _ _ rfl rfl hrun ?_
  refine hK.out _ _ ?_ (fun hNew => ?_)
  · (first | exact ⟨y14, z0, z1⟩ | exact ⟨c14, zz0, zz1⟩ | assumption)
  clear hK K hHeld
  have hHeld := hNew
  clear hNew
  try simp only [Act.put, pz1, pz2, pz3]
  refine wpAnyH_done (by kernel_rfl) ?_ _
  refine NoPanic.normal ?_
  go_wp2_with fail
  go_upto_region 11 with fail
  replace hC := hCY
  have hz9 := HT.size
  replace HT := HT.trans hTY
  clear hCY hTY z0 z1 zz0 zz1 hrun y14 c14 hmin
  have z0 := G1.cell_ 0
  have z1 := G1.cell_ 1
  simp at z0 z1
  obtain ⟨S0, hS0⟩ : ∃ S0 : ChS, S0 = { s.tick with X := putX s.tick.X (N * RW) (bs.take Q) } := ⟨_, rfl⟩
  rw [← hS0] at hC HKB
  have HS0 := Lib.hid hS0
  have i0 : (0 : Int) ≤ (k : Int) := by omega
  clear hS0
  obtain ⟨cb0, NB0, hkN0, y7, cz, fb, hKl⟩ := chip_k (j := 0) hC hk (by omega)
  obtain ⟨v0, hv0⟩ : ∃ v, ChS.k S0 (k : Int) 0 = v := ⟨_, rfl⟩
  rw [hv0] at cz
  have HV0 := Lib.hid hv0
  have hbd0 : 0 ≤ v0 ∧ v0 ≤ n + 1 := by rw [← hv0]; exact HKB.out _
  obtain ⟨b00, b10⟩ := hbd0
  have hwr0 : IntKind.i64.wrap (v0 + 1) = v0 + 1 := wrapS _ (by omega) (by omega)
  (try rw [Nat.add_zero] at cz hKl)
  clear hv0
  go_still_tail 12, (by kernel_rfl)
  change wpList _ _ _ _ _ wY.drew
  go_wp2_with fail
  have hS := setK_chip hC hKl (v0 + 1)
  have hSd := ChipW.drew hS.1
  have hTd : Tch (chB m gx gb) w ((wY.setCell ⟨gb, k * 3, none⟩ (.int .i64 (v0 + 1))).drew) := (HT.trans hS.2).like
  have hG : Blk ((wY.setCell ⟨gb, k * 3, none⟩ (.int .i64 (v0 + 1))).drew) w.heap.size 53 #[.int .i64 (k : Int), .int .i64 (l : Int)] := G1.far (p := ⟨gb, k * 3, none⟩) (fun e => hnb (Or.inr (Or.inr e))) _
  clear HT hC G1 z0 z1 y7 cz fb hS hwr0
  generalize (wY.setCell ⟨gb, k * 3, none⟩ (.int .i64 (v0 + 1))).drew = w2 at hSd hTd hG ⊢
  have hC := hSd
  have HT := hTd
  have G1 := hG
  clear hSd hTd hG
  have z0 := G1.cell_ 0
  have z1 := G1.cell_ 1
  simp at z0 z1
  go_wp2_with fail
  go_ret
  have hfin : { S0 with K := S0.K.set (k * 3) (v0 + 1) } = s.progCut k N RW (bs.take Q) := by
    rw [← HV0.out, HS0.out]
    unfold ChS.progCut ChS.inc
    rw [tick_X]
    rfl
  rw [← hfin]
  exact ⟨rfl, hC, HT⟩
end Go.Proofs.Ytdfojhkpfbnmgaa
namespace Go.Proofs.Ytdfojhkpfbnmgaa
open Go.ChangeShapes Go.WideShapes Go.ChangeAt Go.RowKit
theorem putX_get {X : List Nat} {F : Nat} {vs : List Nat} (h : F + vs.length ≤ X.length) (j : Nat) : (putX X F vs)[j]? = if j < F then X[j]? else if j < F + vs.length then vs[j - F]? else X[j]? := by
  have ht : (X.take F).length = F := by rw [List.length_take]; omega
  unfold putX
  by_cases h1 : j < F
  · rw [if_pos h1, List.append_assoc, List.getElem?_append_left (by rw [ht]; exact h1), List.getElem?_take_of_lt h1]
  · rw [if_neg h1]
    by_cases h2 : j < F + vs.length
    · rw [if_pos h2, List.append_assoc, List.getElem?_append_right (by rw [ht]; omega), ht, List.getElem?_append_left (by omega)]
    · rw [if_neg h2, List.getElem?_append_right (by rw [List.length_append, ht]; omega), List.length_append, ht, List.getElem?_drop]
      congr 1
      omega
def ChS.wipe (s : ChS) (b : Int) (k SZ f : Nat) : ChS := { s with X := putX s.X (k * SZ) (List.replicate SZ f), K := ((s.K.set (k * 3) (if f = 255 then 0 else b)).set (k * 3 + 1) (s.k (k : Int) 1 + 1)).set (k * 3 + 2) (s.k (k : Int) 2 + 1) }
end Go.Proofs.Ytdfojhkpfbnmgaa
namespace Go.Proofs.Ytdfojhkpfbnmgaa
open Go.ChangeShapes Go.WideShapes Go.ChangeAt Go.RowKit
theorem tick_bnd {s : ChS} {n : Int} (h : s.Bnd n) : s.tick.Bnd (n + 1) := by
  obtain ⟨o0, o1, c0, c1, k0, k1⟩ := h
  have hk : ∀ i, s.tick.K.getD i 0 = s.K.getD i 0 := fun i => by rw [tick_K]
  refine ⟨?_, ?_, ?_, ?_, fun i => by rw [hk]; exact k0 i, fun i => by rw [hk]; have := k1 i; omega⟩
  all_goals
    unfold ChS.tick
    split <;> dsimp only <;> omega
end Go.Proofs.Ytdfojhkpfbnmgaa
namespace Go.Proofs.Ytdfojhkpfbnmgaa
open Go.ChangeShapes Go.WideShapes Go.ChangeAt Go.RowKit
theorem tick_nc {s : ChS} (h : s.cutB = false) : s.tick = { s with ops := s.ops + 1 } := by simp [ChS.tick, h]
theorem tick_cut {s : ChS} (h : s.cutB = true) : s.tick = { s with ops := s.ops + 1, armed := false, on := false, cuts := s.cuts + 1 } := by simp [ChS.tick, h]
theorem unarmed {s : ChS} (h : s.armed = false) : s.cutB = false := by simp [ChS.cutB, h]
theorem k_set_other {s : ChS} {k j i : Nat} (v : Int) (l : Nat) (h : i ≠ 3 * l + j) : ({ s with K := s.K.set i v } : ChS).k (l : Int) j = s.k (l : Int) j := by
  unfold ChS.k
  dsimp only
  rw [Int.toNat_natCast, getD_setN, if_neg (fun e => h e.1)]
theorem bnd_set {s : ChS} {n : Int} (h : s.Bnd n) (i : Nat) (v : Int) (h0 : 0 ≤ v) (h1 : v ≤ n) : ({ s with K := s.K.set i v } : ChS).Bnd n := by
  obtain ⟨o0, o1, c0, c1, k0, k1⟩ := h
  refine ⟨o0, o1, c0, c1, fun j => ?_, fun j => ?_⟩
  · dsimp only
    rw [getD_setN]
    split
    · exact h0
    · exact k0 j
  · dsimp only
    rw [getD_setN]
    split
    · exact h1
    · exact k1 j
theorem bnd_mono {s : ChS} {n n' : Int} (h : s.Bnd n) (hn : n ≤ n') : s.Bnd n' := by
  obtain ⟨o0, o1, c0, c1, k0, k1⟩ := h
  exact ⟨o0, by omega, c0, by omega, k0, fun j => by have := k1 j; omega⟩
theorem bnd_X {s : ChS} {n : Int} (h : s.Bnd n) (X : List Nat) : ({ s with X := X } : ChS).Bnd n := by
  obtain ⟨o0, o1, c0, c1, k0, k1⟩ := h
  exact ⟨o0, o1, c0, c1, k0, k1⟩
theorem k_le {s : ChS} {n : Int} (h : s.Bnd n) (B : Int) (j : Nat) : 0 ≤ s.k B j ∧ s.k B j ≤ n := ⟨h.k0 _, h.k1 _⟩
theorem inc_bnd {s : ChS} {n : Int} (h : s.Bnd n) (k j : Nat) : (s.inc k j).Bnd (n + 1) := by
  have := k_le h (k : Int) j
  exact bnd_set (bnd_mono h (by omega)) _ _ (by omega) (by omega)
theorem prog_bnd {s : ChS} {n : Int} (h : s.Bnd n) (k N RW : Nat) (bs : List Nat) : (s.prog k N RW bs).Bnd (n + 3) := by
  have h1 := inc_bnd (inc_bnd (bnd_X (tick_bnd h) (putX s.X (N * RW) bs)) k 0) k 2
  exact bnd_mono h1 (by omega)
theorem inc_ko {s : ChS} {k j : Nat} (i l : Nat) (h : k * 3 + j ≠ 3 * l + i) : (s.inc k j).k (l : Int) i = s.k (l : Int) i := k_set_other (k := 0) _ l h
theorem prog_kl {s : ChS} {k : Nat} (N RW : Nat) (bs : List Nat) (l j : Nat) (hl : l ≠ k) (hj : j < 3) : (s.prog k N RW bs).k (l : Int) j = s.k (l : Int) j := by
  unfold ChS.prog
  rw [inc_ko j l (by omega), inc_ko j l (by omega)]
  unfold ChS.k
  dsimp only
  rw [tick_K]
theorem prog_on {s : ChS} (k N RW : Nat) (bs : List Nat) : (s.prog k N RW bs).on = s.tick.on ∧ (s.prog k N RW bs).armed = s.tick.armed ∧ (s.prog k N RW bs).turn = s.tick.turn ∧ (s.prog k N RW bs).ops = s.ops + 1 ∧ (s.prog k N RW bs).cuts = s.tick.cuts ∧ (s.prog k N RW bs).X = putX s.X (N * RW) bs ∧ (s.prog k N RW bs).K.length = s.K.length := by
  refine ⟨rfl, rfl, rfl, ?_, rfl, rfl, ?_⟩
  · show s.tick.ops = s.ops + 1
    unfold ChS.tick
    split <;> rfl
  · show ((s.tick.K.set _ _).set _ _).length = _
    rw [List.length_set, List.length_set, tick_K]
end Go.Proofs.Ytdfojhkpfbnmgaa
namespace Go.Proofs.Ytdfojhkpfbnmgaa
open Go.ChangeShapes Go.WideShapes Go.ChangeAt Go.RowKit
theorem cells5 {w : World} {g : Nat} {t : TypeId} {u0 u1 u2 u3 u4 : Value} (h : Blk w g t #[u0, u1, u2, u3, u4]) : w.cell? ⟨g, 0, none⟩ = some u0 ∧ w.cell? ⟨g, 1, none⟩ = some u1 ∧ w.cell? ⟨g, 2, none⟩ = some u2 ∧ w.cell? ⟨g, 3, none⟩ = some u3 ∧ w.cell? ⟨g, 4, none⟩ = some u4 := ⟨h.cell_ 0, h.cell_ 1, h.cell_ 2, h.cell_ 3, h.cell_ 4⟩
def ChS.new (NX NB : Nat) : ChS := ⟨List.replicate NX 255, List.replicate (3 * NB) 0, 0, 0, true, false, 0, 0, 0, 0⟩
theorem infoBlk : (Try.prog.info? 73).map (fun i => (i.zero, i.size, i.bytes)) = some (some (.agg #[.int .i64 0, .int .i64 0, .int .i64 0]), 3, 24) := by kernel_rfl
theorem build_oneb (z : Int) (w : World) : (Instr.buildSlice 46 1 #[(0, .int .u8 z)]).run Try.prog w = .ok (.slice (some ⟨w.heap.size, 0, none⟩) 1 1) (w.alloc (.cells #[.int .u8 z] 5)) := by kernel_rfl
theorem wp_build1b {w : World} {o : Oper} {a : Act} {K : Act → World → Prop} {Q : Exit → Act → World → Prop} (x : Operand) (hop : o.op = Op.buildSlice 46 1 #[(0, x)])
    (z : Int) (hx : a.eval x = .int .u8 z)
    (hK : ∀ w' b, Blk w' b 5 #[.int .u8 z] → w.heap.size ≤ b → Below w.heap.size w w' → K (a.put o.dst (.slice (some ⟨b, 0, none⟩) 1 1)) w') : Oper.wp Try.prog o a w K Q := by
  have hrun := build_oneb z w
  unfold Oper.wp
  simp [execOp, hop, hx, hrun, Result.andThen]
  exact hK _ _ (Blk.new_ _ _ _) (Nat.le_refl _) ((Below.refl _ _).alloc (Nat.le_refl _) _)
theorem own_rowS {w : World} {base n size : Nat} {t : TypeId} {g : Nat} {xs : List Value} (h : w.ownsRow base t size (.slice (some ⟨g, 0, none⟩) n n) n xs) : RowT w g t xs := by
  obtain ⟨hl, h'⟩ := h
  rcases h' with ⟨h0, _⟩ | ⟨g', cap, cur, hv, hb, hh, hnc, _, hsz, ht⟩
  · cases h0
  · cases hv
    refine ⟨cur.toList.drop (n * size), ?_⟩
    unfold Blk
    rw [← ht, List.take_append_drop]
    exact hh
section
variable {P : Program} (w : World)
theorem wp_make {o : Oper} {a : Act} {K : Act → World → Prop} {Q : Exit → Act → World → Prop} (l c : Operand) (t : TypeId) (hop : o.op = Op.makeSlice t l c)
    (base : Nat) (e : TypeId) (i : TypeInfo) (z : Value) (size : Nat) (h1 : P.underlying t = some (.slice e)) (h2 : P.info? e = some i) (h3 : i.zero = some z) (h4 : i.size = size)
    (kl kc : IntKind) (L C : Int) (n : Nat) (hl : a.eval l = .int kl L) (hc : a.eval c = .int kc C) (hL : L = (n : Int)) (hC : C = (n : Int)) (b2 : i.bytes * n ≤ 281474976710656) (b3 : n ≤ maxLen) (b4 : base ≤ w.heap.size)
    (hK : ∀ w', w'.ownsRow base e size (.slice (some ⟨w.heap.size, 0, none⟩) n n) n (madeCells z.cells (n * size)).toList → w.grownBy w' none → K (a.put o.dst (.slice (some ⟨w.heap.size, 0, none⟩) n n)) w') :
    o.wp P a w K Q := by
  obtain ⟨w', hrun, r1, r2⟩ := run_make_full (P := P) w base t e i z size h1 h2 h3 h4 kl kc n b2 b3 b4
  subst hL
  subst hC
  unfold Oper.wp
  simp [execOp, hop, hl, hc, hrun, Result.andThen]
  exact hK w' r1 r2
end
theorem made_ints (n : Nat) : (madeCells (Value.agg #[.int .i64 0, .int .i64 0, .int .i64 0]).cells (n * 3)).toList = List.replicate (3 * n) (Value.int .i64 0) := by
  have hz : ∀ j, (#[Value.int .i64 0, .int .i64 0, .int .i64 0] : Array Value)[j % 3]! = .int .i64 0 := by
    intro j
    have : j % 3 = 0 ∨ j % 3 = 1 ∨ j % 3 = 2 := by omega
    rcases this with h | h | h <;> rw [h] <;> rfl
  have hc : (Value.agg #[.int .i64 0, .int .i64 0, .int .i64 0]).cells = #[Value.int .i64 0, .int .i64 0, .int .i64 0] := rfl
  rw [hc]
  apply List.ext_getElem?
  intro j
  rw [List.getElem?_replicate]
  by_cases hj : j < n * 3
  · rw [if_pos (by omega)]
    have := hz j
    simp only [madeCells, Array.toList_map, List.getElem?_map, Array.toList_range, List.getElem?_range hj, Option.map_some]
    exact congrArg some this
  · rw [if_neg (by omega), List.getElem?_eq_none]
    simp [madeCells]
    omega
theorem wp_makeK {w : World} {o : Oper} {a' : Act} {K : Act → World → Prop} {Q : Exit → Act → World → Prop} (l c : Operand) (hop : o.op = Op.makeSlice 66 l c)
    (a : Int) (NB : Nat) (hl : a'.eval l = .int .i64 a) (hc : a'.eval c = .int .i64 a) (hNB : (NB : Int) = a) (hb : NB ≤ 1000)
    (hK : ∀ w' g, RowT w' g 73 (List.replicate (3 * NB) (Value.int .i64 0)) → w.heap.size ≤ g → Below w.heap.size w w' → K (a'.put o.dst (.slice (some ⟨g, 0, none⟩) NB NB)) w') : Oper.wp Try.prog o a' w K Q := by
  obtain ⟨ti0, hi, hz0, hz1, hz2⟩ := info_parts infoBlk
  refine wp_make w l c 66 hop w.heap.size 73 ti0 _ 3 Try.underlying66 hi hz0 hz1 .i64 .i64 a a NB hl hc hNB.symm hNB.symm (by rw [hz2]; omega) (by unfold maxLen; omega) (Nat.le_refl _) ?_
  intro w' hown hgrow
  rw [made_ints] at hown
  exact hK w' _ (own_rowS hown) (Nat.le_refl _) ((Below.refl _ _).grown hgrow (Nat.le_refl _) (fun k h => by cases h))
theorem rptB_b (v : Int) (b n : Nat) (w : World) (hB : Blk w b 5 #[.int .u8 v]) (n1 : 1 ≤ n) (n2 : n ≤ 100000) :
    Calls Try.prog 30 #[.slice (some ⟨b, 0, none⟩) 1 1, .int .i64 (n : Int)] w fun e' w' => ∃ g, e' = .returned (.slice (some ⟨g, 0, none⟩) n n) ∧ w.heap.size ≤ g ∧ RowT w' g 5 (List.replicate n (.int .u8 v)) ∧ Below w.heap.size w w' :=
  rptB_any v b n w (hB.cell_ 0) hB.lt n1 n2
end Go.Proofs.Ytdfojhkpfbnmgaa
namespace Go.Proofs.Ytdfojhkpfbnmgaa
open Go.ChangeShapes Go.WideShapes Go.ChangeAt Go.RowKit
theorem on_nil  (w : World) : Calls Try.prog 43 #[.pointer none] w fun e' w' => e' = .returned (.bool false) ∧ w = w' := by
  go_enter Try.func43, Try.ntmps43
  go_wp2
  go_ret
  exact ⟨rfl, rfl⟩
def bytesL (n : Nat) (Q : Nat) : List Nat := (List.range Q).map fun i => (n + i * 7) % 256
def bytesP (n Q k : Nat) : List Value := (bytesL n k).map byteV ++ List.replicate (Q - k) (byteV 0)
end Go.Proofs.Ytdfojhkpfbnmgaa
namespace Go.Proofs.Ytdfojhkpfbnmgaa
open Go.ChangeShapes Go.WideShapes Go.ChangeAt Go.RowKit
def aS1 : ChS := { ChS.new 1536 8 with armed := true, turn := (ChS.new 1536 8).ops + 1, cop := 1, cby := 3, fill := 0 }
def aS2 : ChS := aS1.progCut 0 0 48 ((bytesL 7 48).take 3)
def aS3 : ChS := aS2.boot
theorem hm8 : Hid (mayB 8 4 32 0 2 = true) := Lib.hid (by decide)
end Go.Proofs.Ytdfojhkpfbnmgaa
namespace Go.Proofs.Ytdfojhkpfbnmgaa
open Go.ChangeShapes Go.WideShapes Go.ChangeAt Go.RowKit
def lowI (x n : Int) : Int := (x % 18446744073709551616) % n
theorem lowI_bd (x n : Int) (hn : 1 ≤ n) : 0 ≤ lowI x n ∧ lowI x n < n := by
  unfold lowI
  exact ⟨Int.emod_nonneg _ (by omega), Int.emod_lt_of_pos _ (by omega)⟩
theorem low_wrap (x n : Int) (hn : 1 ≤ n) (hm : n ≤ 4611686018427387904) : RowKit.wrap64 ((IntKind.u64.wrap x).tmod n) = lowI x n := by
  have h := lowI_bd x n hn
  have e : IntKind.u64.wrap x = x % 18446744073709551616 := by
    unfold IntKind.wrap
    simp [IntKind.bits, IntKind.signed]
  have h0 : 0 ≤ x % 18446744073709551616 := Int.emod_nonneg _ (by omega)
  rw [e, Int.tmod_eq_emod_of_nonneg h0]
  show RowKit.wrap64 (lowI x n) = lowI x n
  unfold RowKit.wrap64
  omega
theorem low_any (x n : Int) (w : World) (hn : 1 ≤ n) (hm : n ≤ 4611686018427387904) :
    Calls Try.prog 8 #[.int .i64 x, .int .i64 n] w fun e w' => e = .returned (.int .i64 (lowI x n)) ∧ w = w' := by
  go_enter Try.func8, Try.ntmps8
  go_wp2
  go_ret
  exact ⟨congrArg (fun z => Ending.returned (.int .i64 z)) (low_wrap x n hn hm), rfl⟩
end Go.Proofs.Ytdfojhkpfbnmgaa
namespace Go.Proofs.Ytdfojhkpfbnmgaa
open Go.ChangeShapes Go.WideShapes Go.ChangeAt Go.RowKit
structure Stand (s : ChS) (n : Int) : Prop where
  on : s.on = true
  armed : s.armed = false
  bnd : s.Bnd n
end Go.Proofs.Ytdfojhkpfbnmgaa
namespace Go.Proofs.Ytdfojhkpfbnmgaa
open Go.ChangeShapes Go.WideShapes Go.ChangeAt Go.RowKit
theorem prog_arg (m gx gb : Nat) (Af : Option Addr) (nf cf : Nat) (a b c d e : Int) (fs : List Flt) (x y : Int) (A : Option Addr) (nb cA : Nat) (w : World) (s : ChS) (hC : ChipW w m gx gb Af nf cf a b c d e fs s) (ho : s.on = true) (ht : Hid (thereB a b x y = false)) : Calls Try.prog 23 #[.pointer (some ⟨m, 0, none⟩), .agg #[.int .i64 x, .int .i64 y], .slice A nb cA] w fun e' w' => e' = .returned (.int .i64 2) ∧ Below w.heap.size w w' := by
  have HB0 : Below w.heap.size w (w.alloc (.cells #[.int .i64 x, .int .i64 y] 53)) := (Below.refl _ _).alloc (Nat.le_refl _) _
  have G1 : Blk (w.alloc (.cells #[.int .i64 x, .int .i64 y] 53)) w.heap.size 53 #[.int .i64 x, .int .i64 y] := Blk.new_ _ _ _
  have z0 : (w.alloc (.cells #[.int .i64 x, .int .i64 y] 53)).cell? ⟨w.heap.size, 0, none⟩ = some (.int .i64 x) := G1.cell_ 0
  have z1 : (w.alloc (.cells #[.int .i64 x, .int .i64 y] 53)).cell? ⟨w.heap.size, 1, none⟩ = some (.int .i64 y) := G1.cell_ 1
  have hC := hC.below HB0
  have y10 := cell10 hC
  rw [ho] at y10
  clear ho
  go_enter Try.func23, Try.ntmps23
  go_wp2_with (go_at_call 50; ((with_reducible refine (hasPage_b _ _ _ _ _ _ _ _ _ _ _ _ _ _ _ _ _ hC ht).mono ?_); rintro e' wN ⟨rfl, hb⟩; replace HB0 := btr HB0 HB0.size hb))
  go_ret
  exact ⟨rfl, HB0⟩
theorem putX_page_other {X bs : List Nat} {N N' RW : Nat} (hbl : bs.length = RW) (hf : N * RW + RW ≤ X.length) (hne : N ≠ N') : ((putX X (N * RW) bs).drop (N' * RW)).take RW = (X.drop (N' * RW)).take RW := by
  apply List.ext_getElem?
  intro j
  rw [List.getElem?_take, List.getElem?_take]
  by_cases hj : j < RW
  · rw [if_pos hj, if_pos hj, List.getElem?_drop, List.getElem?_drop, putX_get (by rw [hbl]; exact hf), hbl]
    rcases Nat.lt_or_gt_of_ne hne with h | h
    · have h1 : (N + 1) * RW ≤ N' * RW := Nat.mul_le_mul_right RW h
      rw [Nat.succ_mul] at h1
      rw [if_neg (by omega), if_neg (by omega)]
    · have h1 : (N' + 1) * RW ≤ N * RW := Nat.mul_le_mul_right RW h
      rw [Nat.succ_mul] at h1
      rw [if_pos (by omega)]
  · rw [if_neg hj, if_neg hj]
end Go.Proofs.Ytdfojhkpfbnmgaa
namespace Go.Proofs.Ytdfojhkpfbnmgaa
open Go.ChangeShapes Go.WideShapes Go.ChangeAt Go.RowKit
end Go.Proofs.Ytdfojhkpfbnmgaa
namespace Go.Proofs.Ytdfojhkpfbnmgaa
open Go.ChangeShapes Go.WideShapes Go.ChangeAt Go.RowKit
end Go.Proofs.Ytdfojhkpfbnmgaa
namespace Go.Proofs.Ytdfojhkpfbnmgaa
open Go.ChangeShapes Go.WideShapes Go.ChangeAt Go.RowKit
structure Go (s : ChS) (n : Int) : Prop where
  on : s.on = true
  nc : s.cutB = false
  bnd : s.Bnd n
structure GoCut (s : ChS) (n : Int) : Prop where
  on : s.on = true
  cut : s.cutB = true
  bnd : s.Bnd n
theorem Stand.go {s : ChS} {n : Int} (h : Stand s n) : Go s n := ⟨h.on, unarmed h.armed, h.bnd⟩
structure Tickd (s S : ChS) : Prop where
  on : S.on = s.on
  armed : S.armed = s.armed
  turn : S.turn = s.turn
  cop : S.cop = s.cop
  cby : S.cby = s.cby
  fill : S.fill = s.fill
  cuts : S.cuts = s.cuts
  ops : S.ops = s.ops + 1
structure Cutd (s S : ChS) : Prop where
  on : S.on = false
  armed : S.armed = false
  cby : S.cby = s.cby
  fill : S.fill = s.fill
  cuts : S.cuts = s.cuts + 1
  ops : S.ops = s.ops + 1
structure Progd (s S : ChS) (n : Int) (k N RW : Nat) (bs : List Nat) : Prop where
  bnd : S.Bnd (n + 3)
  k0 : S.k (k : Int) 0 = s.k (k : Int) 0 + 1
  k1 : S.k (k : Int) 1 = s.k (k : Int) 1
  ko : ∀ j i : Nat, j ≠ k → i < 3 → S.k (j : Int) i = s.k (j : Int) i
  pg : S.pageOf N RW = bs
  po : ∀ N', N ≠ N' → S.pageOf N' RW = s.pageOf N' RW
structure Wiped (s S : ChS) (n : Int) (b c : Int) (k f : Nat) : Prop where
  bnd : S.Bnd (n + 3)
  k0 : S.k (k : Int) 0 = if f = 255 then 0 else b
  k1 : S.k (k : Int) 1 = s.k (k : Int) 1 + 1
  k2 : S.k (k : Int) 2 = s.k (k : Int) 2 + 1
  ko : ∀ j i : Nat, j ≠ k → i < 3 → S.k (j : Int) i = s.k (j : Int) i
  pg : ∀ l RW N : Nat, (RW : Int) = c + 16 → (l : Int) < b → (N : Int) = (k : Int) * b + (l : Int) → S.pageOf N RW = List.replicate RW f
  po : ∀ j l RW N : Nat, j ≠ k → (RW : Int) = c + 16 → (l : Int) < b → (N : Int) = (j : Int) * b + (l : Int) → S.pageOf N RW = s.pageOf N RW
theorem putX_part_other {X bs : List Nat} {N N' RW : Nat} (hbl : bs.length ≤ RW) (hf : N * RW + RW ≤ X.length) (hne : N ≠ N') : ((putX X (N * RW) bs).drop (N' * RW)).take RW = (X.drop (N' * RW)).take RW := by
  apply List.ext_getElem?
  intro j
  rw [List.getElem?_take, List.getElem?_take]
  by_cases hj : j < RW
  · rw [if_pos hj, if_pos hj, List.getElem?_drop, List.getElem?_drop, putX_get (by omega)]
    rcases Nat.lt_or_gt_of_ne hne with h | h
    · have h1 : (N + 1) * RW ≤ N' * RW := Nat.mul_le_mul_right RW h
      rw [Nat.succ_mul] at h1
      rw [if_neg (by omega), if_neg (by omega)]
    · have h1 : (N' + 1) * RW ≤ N * RW := Nat.mul_le_mul_right RW h
      rw [Nat.succ_mul] at h1
      rw [if_pos (by omega)]
  · rw [if_neg hj, if_neg hj]
theorem progCut_fields {s : ChS} (k N RW : Nat) (bs : List Nat) : (s.progCut k N RW bs).X = putX s.X (N * RW) bs ∧ (s.progCut k N RW bs).K = s.K.set (k * 3 + 0) (s.k (k : Int) 0 + 1) := by
  refine ⟨rfl, ?_⟩
  show s.tick.K.set _ _ = _
  rw [tick_K]
  congr 1
  unfold ChS.k
  dsimp only
  rw [tick_K]
end Go.Proofs.Ytdfojhkpfbnmgaa
namespace Go.Proofs.Ytdfojhkpfbnmgaa
open Go.ChangeShapes Go.WideShapes Go.ChangeAt Go.RowKit
def fltV (f : Flt) : List Value := [.int .i64 f.blk, .bool f.fac, .int .i64 f.aft]
def flatF : List Flt → List Value
  | [] => []
  | f :: fs => fltV f ++ flatF fs
theorem flatF_len : ∀ fs : List Flt, (flatF fs).length = fs.length * 3
  | [] => rfl
  | f :: fs => by
    show (fltV f ++ flatF fs).length = _
    rw [List.length_append, flatF_len fs]
    show 3 + _ = (fs.length + 1) * 3
    omega
theorem flatF_at : ∀ (fs : List Flt) (k : Nat) (f : Flt), fs[k]? = some f → (flatF fs)[k * 3]? = some (.int .i64 f.blk) ∧ (flatF fs)[k * 3 + 1]? = some (.bool f.fac) ∧ (flatF fs)[k * 3 + 2]? = some (.int .i64 f.aft)
  | [], _, _, h => by simp at h
  | g :: fs, 0, f, h => by
    obtain rfl : g = f := by simpa using h
    exact ⟨rfl, rfl, rfl⟩
  | g :: fs, k + 1, f, h => by
    have q := flatF_at fs k f (by simpa using h)
    have e : ∀ j, (flatF (g :: fs))[j + 3]? = (flatF fs)[j]? := fun j => by
      show (fltV g ++ flatF fs)[j + 3]? = _
      rw [List.getElem?_append_right (by simp [fltV])]
      simp [fltV]
    rw [show (k + 1) * 3 = k * 3 + 3 by omega, show k * 3 + 3 + 1 = k * 3 + 1 + 3 by omega, show k * 3 + 3 + 2 = k * 3 + 2 + 3 by omega, e, e, e]
    exact q
theorem flatF_rd {w : World} {g : Nat} : ∀ (fs : List Flt) (off : Nat), (∀ k f, fs[k]? = some f → w.cell? ⟨g, off + k * 3, none⟩ = some (.int .i64 f.blk) ∧ w.cell? ⟨g, off + k * 3 + 1, none⟩ = some (.bool f.fac) ∧ w.cell? ⟨g, off + k * 3 + 2, none⟩ = some (.int .i64 f.aft)) → ∀ j u, (flatF fs)[j]? = some u → w.cell? ⟨g, off + j, none⟩ = some u
  | [], _, _, _, _, hu => by simp [flatF] at hu
  | f :: fs, off, h, j, u, hu => by
    obtain ⟨h0, h1, h2⟩ := h 0 f rfl
    match j, hu with
    | 0, hu =>
      obtain rfl : Value.int .i64 f.blk = u := by simpa [flatF, fltV] using hu
      exact h0
    | 1, hu =>
      obtain rfl : Value.bool f.fac = u := by simpa [flatF, fltV] using hu
      exact h1
    | 2, hu =>
      obtain rfl : Value.int .i64 f.aft = u := by simpa [flatF, fltV] using hu
      exact h2
    | j + 3, hu =>
      have e : (flatF (f :: fs))[j + 3]? = (flatF fs)[j]? := by
        show (fltV f ++ flatF fs)[j + 3]? = _
        rw [List.getElem?_append_right (by simp [fltV])]
        simp [fltV]
      rw [e] at hu
      have q := flatF_rd fs (off + 3) (fun k f' hk => by
        have := h (k + 1) f' (by simpa using hk)
        rw [show off + (k + 1) * 3 = off + 3 + k * 3 by omega] at this
        exact this) j u hu
      rw [show off + (j + 3) = off + 3 + j by omega]
      exact q
theorem flatF_one : ∀ fs : List Flt, ∀ u ∈ flatF fs, u.oneCell' = true
  | [], u, h => by simp [flatF] at h
  | f :: fs, u, h => by
    rcases List.mem_append.1 (show u ∈ fltV f ++ flatF fs from h) with h | h
    · simp only [fltV, List.mem_cons, List.not_mem_nil, or_false] at h
      rcases h with rfl | rfl | rfl <;> rfl
    · exact flatF_one fs u h
def FR (w : World) (A : Option Addr) (fs : List Flt) : Prop := fs = [] ∨ ∃ g, A = some ⟨g, 0, none⟩ ∧ RowT w g 64 (flatF fs)
def FNe (A : Option Addr) (fs : List Flt) (k : Nat) : Prop := fs = [] ∨ ∃ g, A = some ⟨g, 0, none⟩ ∧ g ≠ k
def FGe (A : Option Addr) (fs : List Flt) (k : Nat) : Prop := fs = [] ∨ ∃ g, A = some ⟨g, 0, none⟩ ∧ k ≤ g
theorem FR.below_ {w w' : World} {A : Option Addr} {fs : List Flt} (h : FR w A fs) (hb : Below w.heap.size w w') : FR w' A fs := by
  rcases h with h | ⟨g, e, h⟩
  · exact Or.inl h
  · exact Or.inr ⟨g, e, h.below hb⟩
theorem FR.ne {w : World} {A : Option Addr} {fs : List Flt} (h : FR w A fs) {k : Nat} (hk : w.heap.size ≤ k) : FNe A fs k := by
  rcases h with h | ⟨g, e, h⟩
  · exact Or.inl h
  · exact Or.inr ⟨g, e, by have := h.lt; omega⟩
theorem FNe.fresh {A : Option Addr} {fs : List Flt} {n k : Nat} (h : FGe A fs n) (hk : k < n) : FNe A fs k := by
  rcases h with h | ⟨g, e, h⟩
  · exact Or.inl h
  · exact Or.inr ⟨g, e, by omega⟩
theorem FR.at_ {w : World} {A : Option Addr} {fs : List Flt} (h : FR w A fs) {m gx gb : Nat} (h1 : FNe A fs m) (h2 : FNe A fs gx) (h3 : FNe A fs gb) : FltAt w A fs m gx gb := by
  rcases h with h | ⟨g, e, h⟩
  · exact Or.inl h
  rcases h1 with h1 | ⟨g1, e1, h1⟩
  · exact Or.inl h1
  rcases h2 with h2 | ⟨g2, e2, h2⟩
  · exact Or.inl h2
  rcases h3 with h3 | ⟨g3, e3, h3⟩
  · exact Or.inl h3
  subst e
  cases e1
  cases e2
  cases e3
  refine Or.inr ⟨g, 0, rfl, h.lt, h1, h2, h3, fun k f hf => ?_⟩
  obtain ⟨q0, q1, q2⟩ := flatF_at fs k f hf
  rw [Nat.zero_add]
  exact ⟨h.cell_ q0, h.cell_ q1, h.cell_ q2⟩
theorem infoF : (Try.prog.info? 64).map (fun i => (i.zero, i.size, i.bytes)) = some (some (.agg #[.int .i64 0, .bool false, .int .i64 0]), 3, 24) := by kernel_rfl
theorem slF_not_nil (a : Addr) (n c : Nat) (w : World) : (binOp BinOp.eql 24 (.slice (some a) n c) (.slice none 0 0)).run Try.prog w = .ok (.bool false) w := by kernel_rfl
theorem own_emptyF (w : World) (e : TypeId) : (w.alloc (.cells #[] e)).ownsRow w.heap.size e 3 (.slice (some ⟨w.heap.size, 0, none⟩) 0 0) 0 [] :=
  ⟨by simp, Or.inr ⟨w.heap.size, 0, #[], rfl, Nat.le_refl _, heap_alloc_new w _, by omega, by unfold maxLen; omega, by simp, by simp⟩⟩
theorem own_rowF {w : World} {base n : Nat} {t : TypeId} {v : Value} {xs : List Value} (h : w.ownsRow base t 3 v n xs) : ∃ A c, v = .slice A n c ∧ (n = 0 ∨ ∃ g, A = some ⟨g, 0, none⟩ ∧ RowT w g t xs ∧ base ≤ g) := by
  obtain ⟨hl, h'⟩ := h
  rcases h' with ⟨hv, h0⟩ | ⟨g, cap, cur, rfl, hb, hh, hnc, _, hsz, ht⟩
  · rw [h0] at hl
    simp at hl
    have hn : n = 0 := by omega
    subst hn
    exact ⟨none, 0, hv, Or.inl rfl⟩
  · refine ⟨some ⟨g, 0, none⟩, cap, rfl, Or.inr ⟨g, rfl, ⟨cur.toList.drop (n * 3), ?_⟩, hb⟩⟩
    unfold Blk
    rw [← ht, List.take_append_drop]
    exact hh
theorem fclone_any (fs : List Flt) (A : Option Addr) (c : Nat) (w : World) (hs : SlF w w.heap.size A fs) (hlen : fs.length ≤ 100000) :
    Calls Try.prog 29 #[.slice A fs.length c] w fun e' w' => (∃ A' c', e' = .returned (.slice A' fs.length c') ∧ FR w' A' fs ∧ FGe A' fs w.heap.size) ∧ Below w.heap.size w w' := by
  rcases A with _ | ⟨g, o, sp⟩
  · obtain rfl : fs = [] := by
      rcases hs with h | ⟨g, off, e, _⟩
      · exact h
      · cases e
    have hnil : (binOp BinOp.eql 24 (.slice none 0 c) (.slice none 0 0)).run Try.prog w = .ok (.bool true) w := by kernel_rfl
    go_enter Try.func29, Try.ntmps29
    go_wp2
    go_ret
    exact ⟨⟨none, 0, rfl, Or.inl rfl, Or.inl rfl⟩, Below.refl _ _⟩
  · have hnil := slF_not_nil ⟨g, o, sp⟩ fs.length c w
    have HR : Rd (w.alloc (.cells #[] 64)) (some ⟨g, o, sp⟩) fs.length 3 (flatF fs) := by
      refine ⟨flatF_len fs, ?_⟩
      rcases hs with h | ⟨g', off, e, hlt, hc⟩
      · left
        rw [h]
        rfl
      · cases e
        refine Or.inr ⟨g, o, rfl, fun j u hu => ?_⟩
        refine (Below.cell (p := ⟨g, o + j, none⟩) ((Below.refl w.heap.size w).alloc (Nat.le_refl _) (.cells #[] 64)) hlt).trans ?_
        exact flatF_rd fs o hc j u hu
    clear hs
    go_enter Try.func29, Try.ntmps29
    go_upto_region 3 with fail
    refine wp_region_lit ?_
    refine wpList_plain rfl (fun K hK => ?_)
    go_simp
    refine hK _ _ ?_
    clear hK K
    try simp only [Act.put, pz1, pz2, pz3]
    refine wpList_plain rfl (fun K hK => ?_)
    go_simp
    refine hK _ _ ?_
    clear hK K
    try simp only [Act.put, pz1, pz2, pz3]
    obtain ⟨ti0, hi, hz0, hz1, hz2⟩ := info_parts infoF
    refine wpList_app _ rfl (.tmp 5) (.tmp 6) _ rfl w.heap.size 64 ti0 _ 3 24 Try.underlying24 hi hz0 hz1 hz2 rfl (by decide) (.slice (some ⟨w.heap.size, 0, none⟩) 0 0) 0 [] rfl (own_emptyF w _) (some ⟨g, o, sp⟩) fs.length c (flatF fs) rfl HR (flatF_one fs) (by unfold maxLen; omega) (by omega) (by simp) ?_
    intro v' w' ho' hg' hv'
    clear hi hz0 hz1 hz2
    rw [Nat.zero_add, List.nil_append] at ho'
    obtain ⟨A', c', rfl, hR'⟩ := own_rowF ho'
    have HG := Lib.hid hg'
    have HRR := Lib.hid hR'
    clear hg' hR' ho' hv' hnil
    try simp only [Act.put, pz1, pz2, pz3]
    go_wp2_with fail
    go_ret
    have hB : Below w.heap.size w w' := ((Below.refl _ _).alloc (Nat.le_refl _) _).grown HG.out (by simp) (fun g' hg'' => by simp [Value.ownBlock] at hg''; omega)
    refine ⟨⟨A', c', rfl, ?_, ?_⟩, hB⟩
    · rcases HRR.out with h | ⟨g', e, h, _⟩
      · exact Or.inl (List.eq_nil_of_length_eq_zero h)
      · exact Or.inr ⟨g', e, h⟩
    · rcases HRR.out with h | ⟨g', e, _, h⟩
      · exact Or.inl (List.eq_nil_of_length_eq_zero h)
      · exact Or.inr ⟨g', e, h⟩
theorem box_chipF (a b c d e : Int) (AF : Option Addr) (nf cf gx NX gb NB : Nat) (w : World) : (Instr.box 68 (.agg #[.int .i64 a, .int .i64 b, .int .i64 c, .int .i64 d, .int .i64 e, .slice AF nf cf, .slice (some ⟨gx, 0, none⟩) NX NX, .slice (some ⟨gb, 0, none⟩) NB NB, .int .i64 0, .int .i64 0, .bool true, .bool false, .int .i64 0, .int .i64 0, .int .i64 0, .int .u8 0])).run Try.prog w = .ok (.pointer (some ⟨w.heap.size, 0, none⟩)) (w.alloc (.cells #[.int .i64 a, .int .i64 b, .int .i64 c, .int .i64 d, .int .i64 e, .slice AF nf cf, .slice (some ⟨gx, 0, none⟩) NX NX, .slice (some ⟨gb, 0, none⟩) NB NB, .int .i64 0, .int .i64 0, .bool true, .bool false, .int .i64 0, .int .i64 0, .int .i64 0, .int .u8 0] 68)) := by kernel_rfl
theorem wp_boxF {w : World} {o : Oper} {a' : Act} {K : Act → World → Prop} {Q : Exit → Act → World → Prop} (x : Operand) (hop : o.op = Op.box 68 x)
    {a b c d e : Int} {AF : Option Addr} {nf cf gx NX gb NB : Nat} (hx : a'.eval x = .agg #[.int .i64 a, .int .i64 b, .int .i64 c, .int .i64 d, .int .i64 e, .slice AF nf cf, .slice (some ⟨gx, 0, none⟩) NX NX, .slice (some ⟨gb, 0, none⟩) NB NB, .int .i64 0, .int .i64 0, .bool true, .bool false, .int .i64 0, .int .i64 0, .int .i64 0, .int .u8 0])
    (hK : ∀ w' m, Blk w' m 68 #[.int .i64 a, .int .i64 b, .int .i64 c, .int .i64 d, .int .i64 e, .slice AF nf cf, .slice (some ⟨gx, 0, none⟩) NX NX, .slice (some ⟨gb, 0, none⟩) NB NB, .int .i64 0, .int .i64 0, .bool true, .bool false, .int .i64 0, .int .i64 0, .int .i64 0, .int .u8 0] → w.heap.size ≤ m → Below w.heap.size w w' → K (a'.put o.dst (.pointer (some ⟨m, 0, none⟩))) w') : Oper.wp Try.prog o a' w K Q := by
  have hrun := box_chipF a b c d e AF nf cf gx NX gb NB w
  unfold Oper.wp
  simp [execOp, hop, hx, hrun, Result.andThen]
  exact hK _ _ (Blk.new_ _ _ _) (Nat.le_refl _) ((Below.refl _ _).alloc (Nat.le_refl _) _)
theorem pmayF_b (a b c d e : Int) (fs : List Flt) (A : Option Addr) (c0 : Nat) (T : Bool) (w : World) (hs : SlF w w.heap.size A fs) (hc0 : fs.length ≤ c0) (hc1 : c0 ≤ maxLen) (h : Hid (planMay a b c d e fs = T)) : Calls Try.prog 27 #[.agg #[.int .i64 a, .int .i64 b, .int .i64 c, .int .i64 d, .int .i64 e], .slice A fs.length c0] w fun e' w' => e' = .returned (.bool T) ∧ Below w.heap.size w w' := by
  have := pMay_any a b c d e fs A c0 w hs hc0 hc1
  rwa [h.out] at this
theorem newF_no (a b c d e : Int) (fs : List Flt) (A : Option Addr) (c0 : Nat) (w : World) (hs : SlF w w.heap.size A fs) (hc0 : fs.length ≤ c0) (hc1 : c0 ≤ maxLen) (HP : Hid (planMay a b c d e fs = false)) : Calls Try.prog 6 #[.agg #[.int .i64 a, .int .i64 b, .int .i64 c, .int .i64 d, .int .i64 e], .slice A fs.length c0] w fun e' w' => e' = .returned (.pointer none) ∧ Below w.heap.size w w' := by
  have HB0 : Below w.heap.size w (w.alloc (.cells #[.int .i64 a, .int .i64 b, .int .i64 c, .int .i64 d, .int .i64 e] 23)) := (Below.refl _ _).alloc (Nat.le_refl _) _
  have HSF := hs.next HB0
  go_enter Try.func6, Try.ntmps6
  go_wp2_with (go_at_call 27; ((with_reducible refine (pmayF_b _ _ _ _ _ fs _ _ _ _ HSF hc0 hc1 HP).mono ?_); rintro e' wN ⟨rfl, hb⟩; replace HB0 := btr HB0 HB0.size hb))
  go_ret
  exact ⟨rfl, HB0⟩
theorem newF_yes (a b c d e : Int) (fs : List Flt) (A : Option Addr) (c0 : Nat) (NX NB : Nat) (w : World) (hs : SlF w w.heap.size A fs) (hc0 : fs.length ≤ c0) (hc1 : c0 ≤ maxLen) (hfl : fs.length ≤ 100000) (HP : Hid (planMay a b c d e fs = true)) (hNX : (NX : Int) = a * b * (c + 16)) (hNB : (NB : Int) = a) (n1 : 1 ≤ NX) (n2 : NX ≤ 100000) (n3 : NB ≤ 1000) :
    Calls Try.prog 6 #[.agg #[.int .i64 a, .int .i64 b, .int .i64 c, .int .i64 d, .int .i64 e], .slice A fs.length c0] w fun e' w' => (∃ m gx gb AF cf, e' = .returned (.pointer (some ⟨m, 0, none⟩)) ∧ ChipW w' m gx gb AF fs.length cf a b c d e fs (ChS.new NX NB) ∧ w.heap.size ≤ m ∧ w.heap.size ≤ gx ∧ w.heap.size ≤ gb) ∧ Below w.heap.size w w' := by
  have HM : Hid (mayB a b c d e = true) := Lib.hid (planMay_bd HP.out).1
  obtain ⟨q1, q2, q3, q4, q5, q6, -⟩ := may_bd HM.out
  obtain ⟨M, hM⟩ : ∃ M, a * b = M := ⟨_, rfl⟩
  have hMb : 32 ≤ M ∧ M ≤ 160 := by
    have := mul_bd (x := a) (y := b) (lo := 8) (hi := 20) q1 q2 q3 q4 (by omega) (by omega)
    omega
  have hNX' : M * (c + 16) = (NX : Int) := by rw [← hM]; exact hNX.symm
  have hw1 : IntKind.i64.wrap M = M := wrapS _ (by omega) (by omega)
  have hw2 : IntKind.i64.wrap (NX : Int) = (NX : Int) := wrapS _ (by omega) (by omega)
  have HB0 : Below w.heap.size w (w.alloc (.cells #[.int .i64 a, .int .i64 b, .int .i64 c, .int .i64 d, .int .i64 e] 23)) := (Below.refl _ _).alloc (Nat.le_refl _) _
  have HSF := hs.next HB0
  have G1 : Blk (w.alloc (.cells #[.int .i64 a, .int .i64 b, .int .i64 c, .int .i64 d, .int .i64 e] 23)) w.heap.size 23 #[.int .i64 a, .int .i64 b, .int .i64 c, .int .i64 d, .int .i64 e] := Blk.new_ _ _ _
  have HY := cells5 G1
  have HLX : Hid (NX = (a * b * (c + 16)).toNat) := Lib.hid (by rw [← hNX]; rfl)
  have HLK : Hid (3 * NB = 3 * a.toNat) := Lib.hid (by omega)
  clear hNX q1 q2 q3 q4 q5 q6 hMb hs
  go_enter Try.func6, Try.ntmps6
  go_upto_region 3 with (go_at_call 27; ((with_reducible refine (pmayF_b _ _ _ _ _ fs _ _ _ _ HSF hc0 hc1 HP).mono ?_); rintro e' wN ⟨rfl, hb⟩; replace HSF := HSF.next hb; replace G1 := G1.below hb G1.lt; replace HB0 := btr HB0 HB0.size hb; clear HY; have HY := cells5 G1))
  clear hc0 hc1
  refine wp_region_noPanic ?_
  refine wp_region_held_drew (S := (fun w' => w'.cell? ⟨w.heap.size, 0, none⟩ = some (.int .i64 a) ∧ w'.cell? ⟨w.heap.size, 1, none⟩ = some (.int .i64 b) ∧ w'.cell? ⟨w.heap.size, 2, none⟩ = some (.int .i64 c) ∧ w'.cell? ⟨w.heap.size, 3, none⟩ = some (.int .i64 d) ∧ w'.cell? ⟨w.heap.size, 4, none⟩ = some (.int .i64 e))) (by kernel_rfl) ?_ (fun hHeld => ?_)
  · (first | exact HY | assumption)
  refine tk 0 ⟨some 10, .fieldAddr 23 (.tmp 2) 0, 0, "chip.go:42", #[], none⟩ ?_; try simp only [Act.put, pz1, pz2, pz3]
  refine tk 1 ⟨some 11, .load 3 (.tmp 10), 3, "chip.go:42", #[⟨0, .data⟩], none⟩ ?_; try simp only [Act.put, pz1, pz2, pz3]
  refine tk 2 ⟨some 12, .fieldAddr 23 (.tmp 2) 1, 0, "chip.go:42", #[], none⟩ ?_; try simp only [Act.put, pz1, pz2, pz3]
  refine tk 3 ⟨some 13, .load 3 (.tmp 12), 3, "chip.go:42", #[⟨2, .data⟩], none⟩ ?_; try simp only [Act.put, pz1, pz2, pz3]
  refine tk 4 ⟨some 14, .binOp .mul 3 (.tmp 11) (.tmp 13) 3, 3, "chip.go:42", #[⟨1, .data⟩, ⟨3, .data⟩], none⟩ ?_; try simp only [Act.put, pz1, pz2, pz3]
  refine tk 5 ⟨some 15, .load 23 (.tmp 2), 23, "chip.go:42", #[], none⟩ ?_; try simp only [Act.put, pz1, pz2, pz3]
  refine wpAnyH_ready (rs := [6]) (by kernel_rfl) (by simp) ?_
  refine AllReadyH.cons (o := ⟨some 16, .call { callee := .value (.func 28), args := #[.tmp 15], argTypes := #[23] }, 3, "chip.go:42", #[⟨5, .data⟩], none⟩) rfl (fun K hK => ?_) AllReadyH.nil
  go_simp
  (go_at_call 28; ((with_reducible refine (raw_b _ _ _ _ _ _ HM).mono ?_); rintro e' wN ⟨rfl, hb⟩; (try have hb := undrew hb); replace HSF := HSF.next hb; replace G1 := G1.below hb G1.lt; replace HB0 := btr HB0 HB0.size hb; clear HY; have HY := cells5 G1))
  go_wp2_with fail
  refine hK.out _ _ ?_ (fun hNew => ?_)
  · (first | exact HY | assumption)
  clear hK K hHeld
  have hHeld := hNew
  clear hNew
  try simp only [Act.put, pz1, pz2, pz3]
  refine tk 7 ⟨some 17, .binOp .mul 3 (.tmp 14) (.tmp 16) 3, 3, "chip.go:42", #[⟨4, .data⟩, ⟨6, .data⟩], none⟩ ?_; try simp only [Act.put, pz1, pz2, pz3]
  refine tk 8 ⟨some 5, .assign (.tmp 17), 3, "chip.go:42", #[⟨7, .data⟩, ⟨6, .chain⟩, ⟨0, .phase⟩, ⟨1, .phase⟩, ⟨2, .phase⟩, ⟨3, .phase⟩, ⟨4, .phase⟩, ⟨5, .phase⟩, ⟨6, .phase⟩, ⟨7, .phase⟩], none⟩ ?_; try simp only [Act.put, pz1, pz2, pz3]
  refine wpAnyH_done (by kernel_rfl) ?_ _
  refine NoPanic.normal ?_
  go_upto_region 4 with fail
  replace G1 : Blk wN.drew w.heap.size 23 #[.int .i64 a, .int .i64 b, .int .i64 c, .int .i64 d, .int .i64 e] := G1
  replace HB0 := HB0.drew
  replace HSF : SlF wN.drew wN.drew.heap.size A fs := HSF
  have HS : w.heap.size + 1 ≤ wN.drew.heap.size := G1.lt
  clear HY
  have HY := cells5 G1
  clear hb hNX' hw1 hw2 hM
  refine wp_region_noPanic ?_
  refine wp_region_held_drew (S := (fun w' => w'.cell? ⟨w.heap.size, 0, none⟩ = some (.int .i64 a) ∧ w'.cell? ⟨w.heap.size, 1, none⟩ = some (.int .i64 b) ∧ w'.cell? ⟨w.heap.size, 2, none⟩ = some (.int .i64 c) ∧ w'.cell? ⟨w.heap.size, 3, none⟩ = some (.int .i64 d) ∧ w'.cell? ⟨w.heap.size, 4, none⟩ = some (.int .i64 e))) (by kernel_rfl) ?_ (fun hHeld => ?_)
  · (first | exact HY | assumption)
  refine tk 0 ⟨some 18, .load 23 (.tmp 2), 23, "chip.go:43", #[], none⟩ ?_; try simp only [Act.put, pz1, pz2, pz3]
  refine tk 1 ⟨some 19, .move (.tmp 1), 24, "chip.go:43", #[], none⟩ ?_; try simp only [Act.put, pz1, pz2, pz3]
  refine tk 4 ⟨some 22, .move (.tmp 5), 3, "chip.go:43", #[], none⟩ ?_; try simp only [Act.put, pz1, pz2, pz3]
  refine tk 6 ⟨some 24, .fieldAddr 23 (.tmp 2) 0, 0, "chip.go:43", #[], none⟩ ?_; try simp only [Act.put, pz1, pz2, pz3]
  refine tk 7 ⟨some 25, .load 3 (.tmp 24), 3, "chip.go:43", #[⟨6, .data⟩], none⟩ ?_; try simp only [Act.put, pz1, pz2, pz3]
  refine wpAnyH_ready (rs := [2, 3, 8]) (by kernel_rfl) (by simp) ?_
  refine (AllReadyH.cons (o := ⟨some 20, .call { callee := .value (.func 29), args := #[.tmp 19], argTypes := #[24] }, 24, "chip.go:45", #[⟨1, .data⟩], none⟩) rfl (fun K hK => ?_) (AllReadyH.cons (o := ⟨some 21, .buildSlice 46 1 #[(0, .const (.int .u8 255))], 46, "chip.go:43", #[], none⟩) rfl (fun K hK => ?_) (AllReadyH.cons (o := ⟨some 26, .makeSlice 66 (.tmp 25) (.tmp 25), 66, "chip.go:43", #[⟨7, .data⟩, ⟨7, .data⟩], none⟩) rfl (fun K hK => ?_) AllReadyH.nil)))
  · go_simp
    (go_at_call 29; ((with_reducible refine (fclone_any fs _ _ _ HSF hfl).mono ?_); rintro e' wN ⟨⟨AF, cf, rfl, RF, hqf⟩, hb⟩))
    go_wp2_with fail
    (try have hfx := FNe.fresh hqf RX.lt)
    (try have hfb := FNe.fresh hqf RB.lt)
    (try replace HSF := HSF.next hb)
    (try replace B3 := B3.below hb B3.lt)
    (try replace RX := RX.below hb)
    (try replace RB := RB.below hb)
    replace G1 := G1.below hb G1.lt
    clear HY
    have HY := cells5 G1
    replace HB0 := btr HB0 HB0.size hb
    replace HS := Nat.le_trans HS hb.size
    refine hK.out _ _ ?_ (fun hNew => ?_)
    · (first | exact HY | assumption)
    clear hK K hHeld
    have hHeld := hNew
    clear hNew
    try simp only [Act.put, pz1, pz2, pz3]
    refine wpAnyH_ready (rs := [3, 8]) (by kernel_rfl) (by simp) ?_
    refine (AllReadyH.cons (o := ⟨some 21, .buildSlice 46 1 #[(0, .const (.int .u8 255))], 46, "chip.go:43", #[], none⟩) rfl (fun K hK => ?_) (AllReadyH.cons (o := ⟨some 26, .makeSlice 66 (.tmp 25) (.tmp 25), 66, "chip.go:43", #[⟨7, .data⟩, ⟨7, .data⟩], none⟩) rfl (fun K hK => ?_) AllReadyH.nil))
    · refine wp_build1b _ rfl 255 rfl ?_
      intro wN b3 B3 hq hb
      (try replace RF := RF.below_ hb)
      (try replace HSF := HSF.next hb)
      (try replace RX := RX.below hb)
      (try replace RB := RB.below hb)
      replace G1 := G1.below hb G1.lt
      clear HY
      have HY := cells5 G1
      replace HB0 := btr HB0 HB0.size hb
      replace HS := Nat.le_trans HS hb.size
      refine hK.out _ _ ?_ (fun hNew => ?_)
      · (first | exact HY | assumption)
      clear hK K hHeld
      have hHeld := hNew
      clear hNew
      try simp only [Act.put, pz1, pz2, pz3]
      refine wpAnyH_ready (rs := [5, 8]) (by kernel_rfl) (by simp) ?_
      refine (AllReadyH.cons (o := ⟨some 23, .call { callee := .value (.func 30), args := #[.tmp 21, .tmp 22], argTypes := #[46, 3] }, 46, "chip.go:46", #[⟨3, .data⟩, ⟨4, .data⟩, ⟨2, .chain⟩], none⟩) rfl (fun K hK => ?_) (AllReadyH.cons (o := ⟨some 26, .makeSlice 66 (.tmp 25) (.tmp 25), 66, "chip.go:43", #[⟨7, .data⟩, ⟨7, .data⟩], none⟩) rfl (fun K hK => ?_) AllReadyH.nil))
      · go_simp
        (go_at_call 30; ((with_reducible refine (rptB_b 255 b3 NX _ B3 n1 n2).mono ?_); rintro e' wN ⟨gx, rfl, hqx, RX, hb⟩))
        go_wp2_with fail
        have hgx := Nat.le_trans HS hqx
        (try have hxb := Nat.ne_of_gt (Nat.lt_of_lt_of_le RB.lt hqx))
        (try have hfx := RF.ne hqx)
        (try replace RF := RF.below_ hb)
        (try replace HSF := HSF.next hb)
        (try replace B3 := B3.below hb B3.lt)
        (try replace RB := RB.below hb)
        replace G1 := G1.below hb G1.lt
        clear HY
        have HY := cells5 G1
        replace HB0 := btr HB0 HB0.size hb
        replace HS := Nat.le_trans HS hb.size
        refine hK.out _ _ ?_ (fun hNew => ?_)
        · (first | exact HY | assumption)
        clear hK K hHeld
        have hHeld := hNew
        clear hNew
        try simp only [Act.put, pz1, pz2, pz3]
        refine wpAnyH_ready (rs := [8]) (by kernel_rfl) (by simp) ?_
        refine AllReadyH.cons (o := ⟨some 26, .makeSlice 66 (.tmp 25) (.tmp 25), 66, "chip.go:43", #[⟨7, .data⟩, ⟨7, .data⟩], none⟩) rfl (fun K hK => ?_) AllReadyH.nil
        refine wp_makeK _ _ rfl a NB rfl rfl hNB (by omega) ?_
        intro wN gb RB hqb hb
        have hgb := Nat.le_trans HS hqb
        (try have hxb := Nat.ne_of_lt (Nat.lt_of_lt_of_le RX.lt hqb))
        (try have hfb := RF.ne hqb)
        (try replace RF := RF.below_ hb)
        (try replace HSF := HSF.next hb)
        (try replace B3 := B3.below hb B3.lt)
        (try replace RX := RX.below hb)
        replace G1 := G1.below hb G1.lt
        clear HY
        have HY := cells5 G1
        replace HB0 := btr HB0 HB0.size hb
        replace HS := Nat.le_trans HS hb.size
        refine hK.out _ _ ?_ (fun hNew => ?_)
        · (first | exact HY | assumption)
        clear hK K hHeld
        have hHeld := hNew
        clear hNew
        try simp only [Act.put, pz1, pz2, pz3]
        refine tk 9 ⟨some 27, .build 68 #[(0, .tmp 18), (1, .tmp 20), (2, .tmp 23), (3, .tmp 26), (6, .const (.bool true))], 68, "chip.go:43", #[⟨0, .data⟩, ⟨2, .data⟩, ⟨5, .data⟩, ⟨8, .data⟩], none⟩ ?_; try simp only [Act.put, pz1, pz2, pz3]
        refine wpAnyH_ready (rs := [10]) (by kernel_rfl) (by simp) ?_
        refine AllReadyH.cons (o := ⟨some 28, .box 68 (.tmp 27), 26, "chip.go:43", #[⟨9, .data⟩], none⟩) rfl (fun K hK => ?_) AllReadyH.nil
        refine wp_boxF _ rfl rfl ?_
        intro wN m BM hqm hb
        have hm := Nat.le_trans HS hqm
        have h1 : m ≠ gx := Nat.ne_of_gt (Nat.lt_of_lt_of_le RX.lt hqm)
        have h2 : m ≠ gb := Nat.ne_of_gt (Nat.lt_of_lt_of_le RB.lt hqm)
        have hfm := RF.ne hqm
        (try replace RF := RF.below_ hb)
        (try replace HSF := HSF.next hb)
        (try replace B3 := B3.below hb B3.lt)
        (try replace RX := RX.below hb)
        (try replace RB := RB.below hb)
        replace G1 := G1.below hb G1.lt
        clear HY
        have HY := cells5 G1
        replace HB0 := btr HB0 HB0.size hb
        replace HS := Nat.le_trans HS hb.size
        refine hK.out _ _ ?_ (fun hNew => ?_)
        · (first | exact HY | assumption)
        clear hK K hHeld
        have hHeld := hNew
        clear hNew
        try simp only [Act.put, pz1, pz2, pz3]
        refine tk 11 ⟨some 4, .assign (.tmp 28), 26, "chip.go:43", #[⟨10, .data⟩, ⟨5, .chain⟩, ⟨0, .phase⟩, ⟨1, .phase⟩, ⟨2, .phase⟩, ⟨3, .phase⟩, ⟨4, .phase⟩, ⟨5, .phase⟩, ⟨6, .phase⟩, ⟨7, .phase⟩, ⟨8, .phase⟩, ⟨9, .phase⟩, ⟨10, .phase⟩], none⟩ ?_; try simp only [Act.put, pz1, pz2, pz3]
        refine wpAnyH_done (by kernel_rfl) ?_ _
        refine NoPanic.normal ?_
        go_wp2_with fail
        go_ret
        refine ⟨⟨m, gx, gb, AF, cf, rfl, ⟨⟨NX, NB, NX, NB, by simp [ChS.new], hNB, Nat.le_refl _, BM⟩, by simpa [ChS.new, byteV] using RX, by simpa [ChS.new] using RB, RF.at_ hfm hfx hfb, h1, h2, hxb, (List.length_replicate ..).trans HLX.out, (List.length_replicate ..).trans HLK.out, rfl, HP.out⟩, by omega, by omega, by omega⟩, HB0⟩
      · refine wp_makeK _ _ rfl a NB rfl rfl hNB (by omega) ?_
        intro wN gb RB hqb hb
        have hgb := Nat.le_trans HS hqb
        (try have hxb := Nat.ne_of_lt (Nat.lt_of_lt_of_le RX.lt hqb))
        (try have hfb := RF.ne hqb)
        (try replace RF := RF.below_ hb)
        (try replace HSF := HSF.next hb)
        (try replace B3 := B3.below hb B3.lt)
        (try replace RX := RX.below hb)
        replace G1 := G1.below hb G1.lt
        clear HY
        have HY := cells5 G1
        replace HB0 := btr HB0 HB0.size hb
        replace HS := Nat.le_trans HS hb.size
        refine hK.out _ _ ?_ (fun hNew => ?_)
        · (first | exact HY | assumption)
        clear hK K hHeld
        have hHeld := hNew
        clear hNew
        try simp only [Act.put, pz1, pz2, pz3]
        refine wpAnyH_ready (rs := [5]) (by kernel_rfl) (by simp) ?_
        refine AllReadyH.cons (o := ⟨some 23, .call { callee := .value (.func 30), args := #[.tmp 21, .tmp 22], argTypes := #[46, 3] }, 46, "chip.go:46", #[⟨3, .data⟩, ⟨4, .data⟩, ⟨2, .chain⟩], none⟩) rfl (fun K hK => ?_) AllReadyH.nil
        go_simp
        (go_at_call 30; ((with_reducible refine (rptB_b 255 b3 NX _ B3 n1 n2).mono ?_); rintro e' wN ⟨gx, rfl, hqx, RX, hb⟩))
        go_wp2_with fail
        have hgx := Nat.le_trans HS hqx
        (try have hxb := Nat.ne_of_gt (Nat.lt_of_lt_of_le RB.lt hqx))
        (try have hfx := RF.ne hqx)
        (try replace RF := RF.below_ hb)
        (try replace HSF := HSF.next hb)
        (try replace B3 := B3.below hb B3.lt)
        (try replace RB := RB.below hb)
        replace G1 := G1.below hb G1.lt
        clear HY
        have HY := cells5 G1
        replace HB0 := btr HB0 HB0.size hb
        replace HS := Nat.le_trans HS hb.size
        refine hK.out _ _ ?_ (fun hNew => ?_)
        · (first | exact HY | assumption)
        clear hK K hHeld
        have hHeld := hNew
        clear hNew
        try simp only [Act.put, pz1, pz2, pz3]
        refine tk 9 ⟨some 27, .build 68 #[(0, .tmp 18), (1, .tmp 20), (2, .tmp 23), (3, .tmp 26), (6, .const (.bool true))], 68, "chip.go:43", #[⟨0, .data⟩, ⟨2, .data⟩, ⟨5, .data⟩, ⟨8, .data⟩], none⟩ ?_; try simp only [Act.put, pz1, pz2, pz3]
        refine wpAnyH_ready (rs := [10]) (by kernel_rfl) (by simp) ?_
        refine AllReadyH.cons (o := ⟨some 28, .box 68 (.tmp 27), 26, "chip.go:43", #[⟨9, .data⟩], none⟩) rfl (fun K hK => ?_) AllReadyH.nil
        refine wp_boxF _ rfl rfl ?_
        intro wN m BM hqm hb
        have hm := Nat.le_trans HS hqm
        have h1 : m ≠ gx := Nat.ne_of_gt (Nat.lt_of_lt_of_le RX.lt hqm)
        have h2 : m ≠ gb := Nat.ne_of_gt (Nat.lt_of_lt_of_le RB.lt hqm)
        have hfm := RF.ne hqm
        (try replace RF := RF.below_ hb)
        (try replace HSF := HSF.next hb)
        (try replace B3 := B3.below hb B3.lt)
        (try replace RX := RX.below hb)
        (try replace RB := RB.below hb)
        replace G1 := G1.below hb G1.lt
        clear HY
        have HY := cells5 G1
        replace HB0 := btr HB0 HB0.size hb
        replace HS := Nat.le_trans HS hb.size
        refine hK.out _ _ ?_ (fun hNew => ?_)
        · (first | exact HY | assumption)
        clear hK K hHeld
        have hHeld := hNew
        clear hNew
        try simp only [Act.put, pz1, pz2, pz3]
        refine tk 11 ⟨some 4, .assign (.tmp 28), 26, "chip.go:43", #[⟨10, .data⟩, ⟨5, .chain⟩, ⟨0, .phase⟩, ⟨1, .phase⟩, ⟨2, .phase⟩, ⟨3, .phase⟩, ⟨4, .phase⟩, ⟨5, .phase⟩, ⟨6, .phase⟩, ⟨7, .phase⟩, ⟨8, .phase⟩, ⟨9, .phase⟩, ⟨10, .phase⟩], none⟩ ?_; try simp only [Act.put, pz1, pz2, pz3]
        refine wpAnyH_done (by kernel_rfl) ?_ _
        refine NoPanic.normal ?_
        go_wp2_with fail
        go_ret
        refine ⟨⟨m, gx, gb, AF, cf, rfl, ⟨⟨NX, NB, NX, NB, by simp [ChS.new], hNB, Nat.le_refl _, BM⟩, by simpa [ChS.new, byteV] using RX, by simpa [ChS.new] using RB, RF.at_ hfm hfx hfb, h1, h2, hxb, (List.length_replicate ..).trans HLX.out, (List.length_replicate ..).trans HLK.out, rfl, HP.out⟩, by omega, by omega, by omega⟩, HB0⟩
    · refine wp_makeK _ _ rfl a NB rfl rfl hNB (by omega) ?_
      intro wN gb RB hqb hb
      have hgb := Nat.le_trans HS hqb
      (try have hxb := Nat.ne_of_lt (Nat.lt_of_lt_of_le RX.lt hqb))
      (try have hfb := RF.ne hqb)
      (try replace RF := RF.below_ hb)
      (try replace HSF := HSF.next hb)
      (try replace B3 := B3.below hb B3.lt)
      (try replace RX := RX.below hb)
      replace G1 := G1.below hb G1.lt
      clear HY
      have HY := cells5 G1
      replace HB0 := btr HB0 HB0.size hb
      replace HS := Nat.le_trans HS hb.size
      refine hK.out _ _ ?_ (fun hNew => ?_)
      · (first | exact HY | assumption)
      clear hK K hHeld
      have hHeld := hNew
      clear hNew
      try simp only [Act.put, pz1, pz2, pz3]
      refine wpAnyH_ready (rs := [3]) (by kernel_rfl) (by simp) ?_
      refine AllReadyH.cons (o := ⟨some 21, .buildSlice 46 1 #[(0, .const (.int .u8 255))], 46, "chip.go:43", #[], none⟩) rfl (fun K hK => ?_) AllReadyH.nil
      refine wp_build1b _ rfl 255 rfl ?_
      intro wN b3 B3 hq hb
      (try replace RF := RF.below_ hb)
      (try replace HSF := HSF.next hb)
      (try replace RX := RX.below hb)
      (try replace RB := RB.below hb)
      replace G1 := G1.below hb G1.lt
      clear HY
      have HY := cells5 G1
      replace HB0 := btr HB0 HB0.size hb
      replace HS := Nat.le_trans HS hb.size
      refine hK.out _ _ ?_ (fun hNew => ?_)
      · (first | exact HY | assumption)
      clear hK K hHeld
      have hHeld := hNew
      clear hNew
      try simp only [Act.put, pz1, pz2, pz3]
      refine wpAnyH_ready (rs := [5]) (by kernel_rfl) (by simp) ?_
      refine AllReadyH.cons (o := ⟨some 23, .call { callee := .value (.func 30), args := #[.tmp 21, .tmp 22], argTypes := #[46, 3] }, 46, "chip.go:46", #[⟨3, .data⟩, ⟨4, .data⟩, ⟨2, .chain⟩], none⟩) rfl (fun K hK => ?_) AllReadyH.nil
      go_simp
      (go_at_call 30; ((with_reducible refine (rptB_b 255 b3 NX _ B3 n1 n2).mono ?_); rintro e' wN ⟨gx, rfl, hqx, RX, hb⟩))
      go_wp2_with fail
      have hgx := Nat.le_trans HS hqx
      (try have hxb := Nat.ne_of_gt (Nat.lt_of_lt_of_le RB.lt hqx))
      (try have hfx := RF.ne hqx)
      (try replace RF := RF.below_ hb)
      (try replace HSF := HSF.next hb)
      (try replace B3 := B3.below hb B3.lt)
      (try replace RB := RB.below hb)
      replace G1 := G1.below hb G1.lt
      clear HY
      have HY := cells5 G1
      replace HB0 := btr HB0 HB0.size hb
      replace HS := Nat.le_trans HS hb.size
      refine hK.out _ _ ?_ (fun hNew => ?_)
      · (first | exact HY | assumption)
      clear hK K hHeld
      have hHeld := hNew
      clear hNew
      try simp only [Act.put, pz1, pz2, pz3]
      refine tk 9 ⟨some 27, .build 68 #[(0, .tmp 18), (1, .tmp 20), (2, .tmp 23), (3, .tmp 26), (6, .const (.bool true))], 68, "chip.go:43", #[⟨0, .data⟩, ⟨2, .data⟩, ⟨5, .data⟩, ⟨8, .data⟩], none⟩ ?_; try simp only [Act.put, pz1, pz2, pz3]
      refine wpAnyH_ready (rs := [10]) (by kernel_rfl) (by simp) ?_
      refine AllReadyH.cons (o := ⟨some 28, .box 68 (.tmp 27), 26, "chip.go:43", #[⟨9, .data⟩], none⟩) rfl (fun K hK => ?_) AllReadyH.nil
      refine wp_boxF _ rfl rfl ?_
      intro wN m BM hqm hb
      have hm := Nat.le_trans HS hqm
      have h1 : m ≠ gx := Nat.ne_of_gt (Nat.lt_of_lt_of_le RX.lt hqm)
      have h2 : m ≠ gb := Nat.ne_of_gt (Nat.lt_of_lt_of_le RB.lt hqm)
      have hfm := RF.ne hqm
      (try replace RF := RF.below_ hb)
      (try replace HSF := HSF.next hb)
      (try replace B3 := B3.below hb B3.lt)
      (try replace RX := RX.below hb)
      (try replace RB := RB.below hb)
      replace G1 := G1.below hb G1.lt
      clear HY
      have HY := cells5 G1
      replace HB0 := btr HB0 HB0.size hb
      replace HS := Nat.le_trans HS hb.size
      refine hK.out _ _ ?_ (fun hNew => ?_)
      · (first | exact HY | assumption)
      clear hK K hHeld
      have hHeld := hNew
      clear hNew
      try simp only [Act.put, pz1, pz2, pz3]
      refine tk 11 ⟨some 4, .assign (.tmp 28), 26, "chip.go:43", #[⟨10, .data⟩, ⟨5, .chain⟩, ⟨0, .phase⟩, ⟨1, .phase⟩, ⟨2, .phase⟩, ⟨3, .phase⟩, ⟨4, .phase⟩, ⟨5, .phase⟩, ⟨6, .phase⟩, ⟨7, .phase⟩, ⟨8, .phase⟩, ⟨9, .phase⟩, ⟨10, .phase⟩], none⟩ ?_; try simp only [Act.put, pz1, pz2, pz3]
      refine wpAnyH_done (by kernel_rfl) ?_ _
      refine NoPanic.normal ?_
      go_wp2_with fail
      go_ret
      refine ⟨⟨m, gx, gb, AF, cf, rfl, ⟨⟨NX, NB, NX, NB, by simp [ChS.new], hNB, Nat.le_refl _, BM⟩, by simpa [ChS.new, byteV] using RX, by simpa [ChS.new] using RB, RF.at_ hfm hfx hfb, h1, h2, hxb, (List.length_replicate ..).trans HLX.out, (List.length_replicate ..).trans HLK.out, rfl, HP.out⟩, by omega, by omega, by omega⟩, HB0⟩
  · refine wp_build1b _ rfl 255 rfl ?_
    intro wN b3 B3 hq hb
    (try replace RF := RF.below_ hb)
    (try replace HSF := HSF.next hb)
    (try replace RX := RX.below hb)
    (try replace RB := RB.below hb)
    replace G1 := G1.below hb G1.lt
    clear HY
    have HY := cells5 G1
    replace HB0 := btr HB0 HB0.size hb
    replace HS := Nat.le_trans HS hb.size
    refine hK.out _ _ ?_ (fun hNew => ?_)
    · (first | exact HY | assumption)
    clear hK K hHeld
    have hHeld := hNew
    clear hNew
    try simp only [Act.put, pz1, pz2, pz3]
    refine wpAnyH_ready (rs := [2, 8]) (by kernel_rfl) (by simp) ?_
    refine (AllReadyH.cons (o := ⟨some 20, .call { callee := .value (.func 29), args := #[.tmp 19], argTypes := #[24] }, 24, "chip.go:45", #[⟨1, .data⟩], none⟩) rfl (fun K hK => ?_) (AllReadyH.cons (o := ⟨some 26, .makeSlice 66 (.tmp 25) (.tmp 25), 66, "chip.go:43", #[⟨7, .data⟩, ⟨7, .data⟩], none⟩) rfl (fun K hK => ?_) AllReadyH.nil))
    · go_simp
      (go_at_call 29; ((with_reducible refine (fclone_any fs _ _ _ HSF hfl).mono ?_); rintro e' wN ⟨⟨AF, cf, rfl, RF, hqf⟩, hb⟩))
      go_wp2_with fail
      (try have hfx := FNe.fresh hqf RX.lt)
      (try have hfb := FNe.fresh hqf RB.lt)
      (try replace HSF := HSF.next hb)
      (try replace B3 := B3.below hb B3.lt)
      (try replace RX := RX.below hb)
      (try replace RB := RB.below hb)
      replace G1 := G1.below hb G1.lt
      clear HY
      have HY := cells5 G1
      replace HB0 := btr HB0 HB0.size hb
      replace HS := Nat.le_trans HS hb.size
      refine hK.out _ _ ?_ (fun hNew => ?_)
      · (first | exact HY | assumption)
      clear hK K hHeld
      have hHeld := hNew
      clear hNew
      try simp only [Act.put, pz1, pz2, pz3]
      refine wpAnyH_ready (rs := [5, 8]) (by kernel_rfl) (by simp) ?_
      refine (AllReadyH.cons (o := ⟨some 23, .call { callee := .value (.func 30), args := #[.tmp 21, .tmp 22], argTypes := #[46, 3] }, 46, "chip.go:46", #[⟨3, .data⟩, ⟨4, .data⟩, ⟨2, .chain⟩], none⟩) rfl (fun K hK => ?_) (AllReadyH.cons (o := ⟨some 26, .makeSlice 66 (.tmp 25) (.tmp 25), 66, "chip.go:43", #[⟨7, .data⟩, ⟨7, .data⟩], none⟩) rfl (fun K hK => ?_) AllReadyH.nil))
      · go_simp
        (go_at_call 30; ((with_reducible refine (rptB_b 255 b3 NX _ B3 n1 n2).mono ?_); rintro e' wN ⟨gx, rfl, hqx, RX, hb⟩))
        go_wp2_with fail
        have hgx := Nat.le_trans HS hqx
        (try have hxb := Nat.ne_of_gt (Nat.lt_of_lt_of_le RB.lt hqx))
        (try have hfx := RF.ne hqx)
        (try replace RF := RF.below_ hb)
        (try replace HSF := HSF.next hb)
        (try replace B3 := B3.below hb B3.lt)
        (try replace RB := RB.below hb)
        replace G1 := G1.below hb G1.lt
        clear HY
        have HY := cells5 G1
        replace HB0 := btr HB0 HB0.size hb
        replace HS := Nat.le_trans HS hb.size
        refine hK.out _ _ ?_ (fun hNew => ?_)
        · (first | exact HY | assumption)
        clear hK K hHeld
        have hHeld := hNew
        clear hNew
        try simp only [Act.put, pz1, pz2, pz3]
        refine wpAnyH_ready (rs := [8]) (by kernel_rfl) (by simp) ?_
        refine AllReadyH.cons (o := ⟨some 26, .makeSlice 66 (.tmp 25) (.tmp 25), 66, "chip.go:43", #[⟨7, .data⟩, ⟨7, .data⟩], none⟩) rfl (fun K hK => ?_) AllReadyH.nil
        refine wp_makeK _ _ rfl a NB rfl rfl hNB (by omega) ?_
        intro wN gb RB hqb hb
        have hgb := Nat.le_trans HS hqb
        (try have hxb := Nat.ne_of_lt (Nat.lt_of_lt_of_le RX.lt hqb))
        (try have hfb := RF.ne hqb)
        (try replace RF := RF.below_ hb)
        (try replace HSF := HSF.next hb)
        (try replace B3 := B3.below hb B3.lt)
        (try replace RX := RX.below hb)
        replace G1 := G1.below hb G1.lt
        clear HY
        have HY := cells5 G1
        replace HB0 := btr HB0 HB0.size hb
        replace HS := Nat.le_trans HS hb.size
        refine hK.out _ _ ?_ (fun hNew => ?_)
        · (first | exact HY | assumption)
        clear hK K hHeld
        have hHeld := hNew
        clear hNew
        try simp only [Act.put, pz1, pz2, pz3]
        refine tk 9 ⟨some 27, .build 68 #[(0, .tmp 18), (1, .tmp 20), (2, .tmp 23), (3, .tmp 26), (6, .const (.bool true))], 68, "chip.go:43", #[⟨0, .data⟩, ⟨2, .data⟩, ⟨5, .data⟩, ⟨8, .data⟩], none⟩ ?_; try simp only [Act.put, pz1, pz2, pz3]
        refine wpAnyH_ready (rs := [10]) (by kernel_rfl) (by simp) ?_
        refine AllReadyH.cons (o := ⟨some 28, .box 68 (.tmp 27), 26, "chip.go:43", #[⟨9, .data⟩], none⟩) rfl (fun K hK => ?_) AllReadyH.nil
        refine wp_boxF _ rfl rfl ?_
        intro wN m BM hqm hb
        have hm := Nat.le_trans HS hqm
        have h1 : m ≠ gx := Nat.ne_of_gt (Nat.lt_of_lt_of_le RX.lt hqm)
        have h2 : m ≠ gb := Nat.ne_of_gt (Nat.lt_of_lt_of_le RB.lt hqm)
        have hfm := RF.ne hqm
        (try replace RF := RF.below_ hb)
        (try replace HSF := HSF.next hb)
        (try replace B3 := B3.below hb B3.lt)
        (try replace RX := RX.below hb)
        (try replace RB := RB.below hb)
        replace G1 := G1.below hb G1.lt
        clear HY
        have HY := cells5 G1
        replace HB0 := btr HB0 HB0.size hb
        replace HS := Nat.le_trans HS hb.size
        refine hK.out _ _ ?_ (fun hNew => ?_)
        · (first | exact HY | assumption)
        clear hK K hHeld
        have hHeld := hNew
        clear hNew
        try simp only [Act.put, pz1, pz2, pz3]
        refine tk 11 ⟨some 4, .assign (.tmp 28), 26, "chip.go:43", #[⟨10, .data⟩, ⟨5, .chain⟩, ⟨0, .phase⟩, ⟨1, .phase⟩, ⟨2, .phase⟩, ⟨3, .phase⟩, ⟨4, .phase⟩, ⟨5, .phase⟩, ⟨6, .phase⟩, ⟨7, .phase⟩, ⟨8, .phase⟩, ⟨9, .phase⟩, ⟨10, .phase⟩], none⟩ ?_; try simp only [Act.put, pz1, pz2, pz3]
        refine wpAnyH_done (by kernel_rfl) ?_ _
        refine NoPanic.normal ?_
        go_wp2_with fail
        go_ret
        refine ⟨⟨m, gx, gb, AF, cf, rfl, ⟨⟨NX, NB, NX, NB, by simp [ChS.new], hNB, Nat.le_refl _, BM⟩, by simpa [ChS.new, byteV] using RX, by simpa [ChS.new] using RB, RF.at_ hfm hfx hfb, h1, h2, hxb, (List.length_replicate ..).trans HLX.out, (List.length_replicate ..).trans HLK.out, rfl, HP.out⟩, by omega, by omega, by omega⟩, HB0⟩
      · refine wp_makeK _ _ rfl a NB rfl rfl hNB (by omega) ?_
        intro wN gb RB hqb hb
        have hgb := Nat.le_trans HS hqb
        (try have hxb := Nat.ne_of_lt (Nat.lt_of_lt_of_le RX.lt hqb))
        (try have hfb := RF.ne hqb)
        (try replace RF := RF.below_ hb)
        (try replace HSF := HSF.next hb)
        (try replace B3 := B3.below hb B3.lt)
        (try replace RX := RX.below hb)
        replace G1 := G1.below hb G1.lt
        clear HY
        have HY := cells5 G1
        replace HB0 := btr HB0 HB0.size hb
        replace HS := Nat.le_trans HS hb.size
        refine hK.out _ _ ?_ (fun hNew => ?_)
        · (first | exact HY | assumption)
        clear hK K hHeld
        have hHeld := hNew
        clear hNew
        try simp only [Act.put, pz1, pz2, pz3]
        refine wpAnyH_ready (rs := [5]) (by kernel_rfl) (by simp) ?_
        refine AllReadyH.cons (o := ⟨some 23, .call { callee := .value (.func 30), args := #[.tmp 21, .tmp 22], argTypes := #[46, 3] }, 46, "chip.go:46", #[⟨3, .data⟩, ⟨4, .data⟩, ⟨2, .chain⟩], none⟩) rfl (fun K hK => ?_) AllReadyH.nil
        go_simp
        (go_at_call 30; ((with_reducible refine (rptB_b 255 b3 NX _ B3 n1 n2).mono ?_); rintro e' wN ⟨gx, rfl, hqx, RX, hb⟩))
        go_wp2_with fail
        have hgx := Nat.le_trans HS hqx
        (try have hxb := Nat.ne_of_gt (Nat.lt_of_lt_of_le RB.lt hqx))
        (try have hfx := RF.ne hqx)
        (try replace RF := RF.below_ hb)
        (try replace HSF := HSF.next hb)
        (try replace B3 := B3.below hb B3.lt)
        (try replace RB := RB.below hb)
        replace G1 := G1.below hb G1.lt
        clear HY
        have HY := cells5 G1
        replace HB0 := btr HB0 HB0.size hb
        replace HS := Nat.le_trans HS hb.size
        refine hK.out _ _ ?_ (fun hNew => ?_)
        · (first | exact HY | assumption)
        clear hK K hHeld
        have hHeld := hNew
        clear hNew
        try simp only [Act.put, pz1, pz2, pz3]
        refine tk 9 ⟨some 27, .build 68 #[(0, .tmp 18), (1, .tmp 20), (2, .tmp 23), (3, .tmp 26), (6, .const (.bool true))], 68, "chip.go:43", #[⟨0, .data⟩, ⟨2, .data⟩, ⟨5, .data⟩, ⟨8, .data⟩], none⟩ ?_; try simp only [Act.put, pz1, pz2, pz3]
        refine wpAnyH_ready (rs := [10]) (by kernel_rfl) (by simp) ?_
        refine AllReadyH.cons (o := ⟨some 28, .box 68 (.tmp 27), 26, "chip.go:43", #[⟨9, .data⟩], none⟩) rfl (fun K hK => ?_) AllReadyH.nil
        refine wp_boxF _ rfl rfl ?_
        intro wN m BM hqm hb
        have hm := Nat.le_trans HS hqm
        have h1 : m ≠ gx := Nat.ne_of_gt (Nat.lt_of_lt_of_le RX.lt hqm)
        have h2 : m ≠ gb := Nat.ne_of_gt (Nat.lt_of_lt_of_le RB.lt hqm)
        have hfm := RF.ne hqm
        (try replace RF := RF.below_ hb)
        (try replace HSF := HSF.next hb)
        (try replace B3 := B3.below hb B3.lt)
        (try replace RX := RX.below hb)
        (try replace RB := RB.below hb)
        replace G1 := G1.below hb G1.lt
        clear HY
        have HY := cells5 G1
        replace HB0 := btr HB0 HB0.size hb
        replace HS := Nat.le_trans HS hb.size
        refine hK.out _ _ ?_ (fun hNew => ?_)
        · (first | exact HY | assumption)
        clear hK K hHeld
        have hHeld := hNew
        clear hNew
        try simp only [Act.put, pz1, pz2, pz3]
        refine tk 11 ⟨some 4, .assign (.tmp 28), 26, "chip.go:43", #[⟨10, .data⟩, ⟨5, .chain⟩, ⟨0, .phase⟩, ⟨1, .phase⟩, ⟨2, .phase⟩, ⟨3, .phase⟩, ⟨4, .phase⟩, ⟨5, .phase⟩, ⟨6, .phase⟩, ⟨7, .phase⟩, ⟨8, .phase⟩, ⟨9, .phase⟩, ⟨10, .phase⟩], none⟩ ?_; try simp only [Act.put, pz1, pz2, pz3]
        refine wpAnyH_done (by kernel_rfl) ?_ _
        refine NoPanic.normal ?_
        go_wp2_with fail
        go_ret
        refine ⟨⟨m, gx, gb, AF, cf, rfl, ⟨⟨NX, NB, NX, NB, by simp [ChS.new], hNB, Nat.le_refl _, BM⟩, by simpa [ChS.new, byteV] using RX, by simpa [ChS.new] using RB, RF.at_ hfm hfx hfb, h1, h2, hxb, (List.length_replicate ..).trans HLX.out, (List.length_replicate ..).trans HLK.out, rfl, HP.out⟩, by omega, by omega, by omega⟩, HB0⟩
    · refine wp_makeK _ _ rfl a NB rfl rfl hNB (by omega) ?_
      intro wN gb RB hqb hb
      have hgb := Nat.le_trans HS hqb
      (try have hxb := Nat.ne_of_lt (Nat.lt_of_lt_of_le RX.lt hqb))
      (try have hfb := RF.ne hqb)
      (try replace RF := RF.below_ hb)
      (try replace HSF := HSF.next hb)
      (try replace B3 := B3.below hb B3.lt)
      (try replace RX := RX.below hb)
      replace G1 := G1.below hb G1.lt
      clear HY
      have HY := cells5 G1
      replace HB0 := btr HB0 HB0.size hb
      replace HS := Nat.le_trans HS hb.size
      refine hK.out _ _ ?_ (fun hNew => ?_)
      · (first | exact HY | assumption)
      clear hK K hHeld
      have hHeld := hNew
      clear hNew
      try simp only [Act.put, pz1, pz2, pz3]
      refine wpAnyH_ready (rs := [2]) (by kernel_rfl) (by simp) ?_
      refine AllReadyH.cons (o := ⟨some 20, .call { callee := .value (.func 29), args := #[.tmp 19], argTypes := #[24] }, 24, "chip.go:45", #[⟨1, .data⟩], none⟩) rfl (fun K hK => ?_) AllReadyH.nil
      go_simp
      (go_at_call 29; ((with_reducible refine (fclone_any fs _ _ _ HSF hfl).mono ?_); rintro e' wN ⟨⟨AF, cf, rfl, RF, hqf⟩, hb⟩))
      go_wp2_with fail
      (try have hfx := FNe.fresh hqf RX.lt)
      (try have hfb := FNe.fresh hqf RB.lt)
      (try replace HSF := HSF.next hb)
      (try replace B3 := B3.below hb B3.lt)
      (try replace RX := RX.below hb)
      (try replace RB := RB.below hb)
      replace G1 := G1.below hb G1.lt
      clear HY
      have HY := cells5 G1
      replace HB0 := btr HB0 HB0.size hb
      replace HS := Nat.le_trans HS hb.size
      refine hK.out _ _ ?_ (fun hNew => ?_)
      · (first | exact HY | assumption)
      clear hK K hHeld
      have hHeld := hNew
      clear hNew
      try simp only [Act.put, pz1, pz2, pz3]
      refine wpAnyH_ready (rs := [5]) (by kernel_rfl) (by simp) ?_
      refine AllReadyH.cons (o := ⟨some 23, .call { callee := .value (.func 30), args := #[.tmp 21, .tmp 22], argTypes := #[46, 3] }, 46, "chip.go:46", #[⟨3, .data⟩, ⟨4, .data⟩, ⟨2, .chain⟩], none⟩) rfl (fun K hK => ?_) AllReadyH.nil
      go_simp
      (go_at_call 30; ((with_reducible refine (rptB_b 255 b3 NX _ B3 n1 n2).mono ?_); rintro e' wN ⟨gx, rfl, hqx, RX, hb⟩))
      go_wp2_with fail
      have hgx := Nat.le_trans HS hqx
      (try have hxb := Nat.ne_of_gt (Nat.lt_of_lt_of_le RB.lt hqx))
      (try have hfx := RF.ne hqx)
      (try replace RF := RF.below_ hb)
      (try replace HSF := HSF.next hb)
      (try replace B3 := B3.below hb B3.lt)
      (try replace RB := RB.below hb)
      replace G1 := G1.below hb G1.lt
      clear HY
      have HY := cells5 G1
      replace HB0 := btr HB0 HB0.size hb
      replace HS := Nat.le_trans HS hb.size
      refine hK.out _ _ ?_ (fun hNew => ?_)
      · (first | exact HY | assumption)
      clear hK K hHeld
      have hHeld := hNew
      clear hNew
      try simp only [Act.put, pz1, pz2, pz3]
      refine tk 9 ⟨some 27, .build 68 #[(0, .tmp 18), (1, .tmp 20), (2, .tmp 23), (3, .tmp 26), (6, .const (.bool true))], 68, "chip.go:43", #[⟨0, .data⟩, ⟨2, .data⟩, ⟨5, .data⟩, ⟨8, .data⟩], none⟩ ?_; try simp only [Act.put, pz1, pz2, pz3]
      refine wpAnyH_ready (rs := [10]) (by kernel_rfl) (by simp) ?_
      refine AllReadyH.cons (o := ⟨some 28, .box 68 (.tmp 27), 26, "chip.go:43", #[⟨9, .data⟩], none⟩) rfl (fun K hK => ?_) AllReadyH.nil
      refine wp_boxF _ rfl rfl ?_
      intro wN m BM hqm hb
      have hm := Nat.le_trans HS hqm
      have h1 : m ≠ gx := Nat.ne_of_gt (Nat.lt_of_lt_of_le RX.lt hqm)
      have h2 : m ≠ gb := Nat.ne_of_gt (Nat.lt_of_lt_of_le RB.lt hqm)
      have hfm := RF.ne hqm
      (try replace RF := RF.below_ hb)
      (try replace HSF := HSF.next hb)
      (try replace B3 := B3.below hb B3.lt)
      (try replace RX := RX.below hb)
      (try replace RB := RB.below hb)
      replace G1 := G1.below hb G1.lt
      clear HY
      have HY := cells5 G1
      replace HB0 := btr HB0 HB0.size hb
      replace HS := Nat.le_trans HS hb.size
      refine hK.out _ _ ?_ (fun hNew => ?_)
      · (first | exact HY | assumption)
      clear hK K hHeld
      have hHeld := hNew
      clear hNew
      try simp only [Act.put, pz1, pz2, pz3]
      refine tk 11 ⟨some 4, .assign (.tmp 28), 26, "chip.go:43", #[⟨10, .data⟩, ⟨5, .chain⟩, ⟨0, .phase⟩, ⟨1, .phase⟩, ⟨2, .phase⟩, ⟨3, .phase⟩, ⟨4, .phase⟩, ⟨5, .phase⟩, ⟨6, .phase⟩, ⟨7, .phase⟩, ⟨8, .phase⟩, ⟨9, .phase⟩, ⟨10, .phase⟩], none⟩ ?_; try simp only [Act.put, pz1, pz2, pz3]
      refine wpAnyH_done (by kernel_rfl) ?_ _
      refine NoPanic.normal ?_
      go_wp2_with fail
      go_ret
      refine ⟨⟨m, gx, gb, AF, cf, rfl, ⟨⟨NX, NB, NX, NB, by simp [ChS.new], hNB, Nat.le_refl _, BM⟩, by simpa [ChS.new, byteV] using RX, by simpa [ChS.new] using RB, RF.at_ hfm hfx hfb, h1, h2, hxb, (List.length_replicate ..).trans HLX.out, (List.length_replicate ..).trans HLK.out, rfl, HP.out⟩, by omega, by omega, by omega⟩, HB0⟩
  · refine wp_makeK _ _ rfl a NB rfl rfl hNB (by omega) ?_
    intro wN gb RB hqb hb
    have hgb := Nat.le_trans HS hqb
    (try have hxb := Nat.ne_of_lt (Nat.lt_of_lt_of_le RX.lt hqb))
    (try have hfb := RF.ne hqb)
    (try replace RF := RF.below_ hb)
    (try replace HSF := HSF.next hb)
    (try replace B3 := B3.below hb B3.lt)
    (try replace RX := RX.below hb)
    replace G1 := G1.below hb G1.lt
    clear HY
    have HY := cells5 G1
    replace HB0 := btr HB0 HB0.size hb
    replace HS := Nat.le_trans HS hb.size
    refine hK.out _ _ ?_ (fun hNew => ?_)
    · (first | exact HY | assumption)
    clear hK K hHeld
    have hHeld := hNew
    clear hNew
    try simp only [Act.put, pz1, pz2, pz3]
    refine wpAnyH_ready (rs := [2, 3]) (by kernel_rfl) (by simp) ?_
    refine (AllReadyH.cons (o := ⟨some 20, .call { callee := .value (.func 29), args := #[.tmp 19], argTypes := #[24] }, 24, "chip.go:45", #[⟨1, .data⟩], none⟩) rfl (fun K hK => ?_) (AllReadyH.cons (o := ⟨some 21, .buildSlice 46 1 #[(0, .const (.int .u8 255))], 46, "chip.go:43", #[], none⟩) rfl (fun K hK => ?_) AllReadyH.nil))
    · go_simp
      (go_at_call 29; ((with_reducible refine (fclone_any fs _ _ _ HSF hfl).mono ?_); rintro e' wN ⟨⟨AF, cf, rfl, RF, hqf⟩, hb⟩))
      go_wp2_with fail
      (try have hfx := FNe.fresh hqf RX.lt)
      (try have hfb := FNe.fresh hqf RB.lt)
      (try replace HSF := HSF.next hb)
      (try replace B3 := B3.below hb B3.lt)
      (try replace RX := RX.below hb)
      (try replace RB := RB.below hb)
      replace G1 := G1.below hb G1.lt
      clear HY
      have HY := cells5 G1
      replace HB0 := btr HB0 HB0.size hb
      replace HS := Nat.le_trans HS hb.size
      refine hK.out _ _ ?_ (fun hNew => ?_)
      · (first | exact HY | assumption)
      clear hK K hHeld
      have hHeld := hNew
      clear hNew
      try simp only [Act.put, pz1, pz2, pz3]
      refine wpAnyH_ready (rs := [3]) (by kernel_rfl) (by simp) ?_
      refine AllReadyH.cons (o := ⟨some 21, .buildSlice 46 1 #[(0, .const (.int .u8 255))], 46, "chip.go:43", #[], none⟩) rfl (fun K hK => ?_) AllReadyH.nil
      refine wp_build1b _ rfl 255 rfl ?_
      intro wN b3 B3 hq hb
      (try replace RF := RF.below_ hb)
      (try replace HSF := HSF.next hb)
      (try replace RX := RX.below hb)
      (try replace RB := RB.below hb)
      replace G1 := G1.below hb G1.lt
      clear HY
      have HY := cells5 G1
      replace HB0 := btr HB0 HB0.size hb
      replace HS := Nat.le_trans HS hb.size
      refine hK.out _ _ ?_ (fun hNew => ?_)
      · (first | exact HY | assumption)
      clear hK K hHeld
      have hHeld := hNew
      clear hNew
      try simp only [Act.put, pz1, pz2, pz3]
      refine wpAnyH_ready (rs := [5]) (by kernel_rfl) (by simp) ?_
      refine AllReadyH.cons (o := ⟨some 23, .call { callee := .value (.func 30), args := #[.tmp 21, .tmp 22], argTypes := #[46, 3] }, 46, "chip.go:46", #[⟨3, .data⟩, ⟨4, .data⟩, ⟨2, .chain⟩], none⟩) rfl (fun K hK => ?_) AllReadyH.nil
      go_simp
      (go_at_call 30; ((with_reducible refine (rptB_b 255 b3 NX _ B3 n1 n2).mono ?_); rintro e' wN ⟨gx, rfl, hqx, RX, hb⟩))
      go_wp2_with fail
      have hgx := Nat.le_trans HS hqx
      (try have hxb := Nat.ne_of_gt (Nat.lt_of_lt_of_le RB.lt hqx))
      (try have hfx := RF.ne hqx)
      (try replace RF := RF.below_ hb)
      (try replace HSF := HSF.next hb)
      (try replace B3 := B3.below hb B3.lt)
      (try replace RB := RB.below hb)
      replace G1 := G1.below hb G1.lt
      clear HY
      have HY := cells5 G1
      replace HB0 := btr HB0 HB0.size hb
      replace HS := Nat.le_trans HS hb.size
      refine hK.out _ _ ?_ (fun hNew => ?_)
      · (first | exact HY | assumption)
      clear hK K hHeld
      have hHeld := hNew
      clear hNew
      try simp only [Act.put, pz1, pz2, pz3]
      refine tk 9 ⟨some 27, .build 68 #[(0, .tmp 18), (1, .tmp 20), (2, .tmp 23), (3, .tmp 26), (6, .const (.bool true))], 68, "chip.go:43", #[⟨0, .data⟩, ⟨2, .data⟩, ⟨5, .data⟩, ⟨8, .data⟩], none⟩ ?_; try simp only [Act.put, pz1, pz2, pz3]
      refine wpAnyH_ready (rs := [10]) (by kernel_rfl) (by simp) ?_
      refine AllReadyH.cons (o := ⟨some 28, .box 68 (.tmp 27), 26, "chip.go:43", #[⟨9, .data⟩], none⟩) rfl (fun K hK => ?_) AllReadyH.nil
      refine wp_boxF _ rfl rfl ?_
      intro wN m BM hqm hb
      have hm := Nat.le_trans HS hqm
      have h1 : m ≠ gx := Nat.ne_of_gt (Nat.lt_of_lt_of_le RX.lt hqm)
      have h2 : m ≠ gb := Nat.ne_of_gt (Nat.lt_of_lt_of_le RB.lt hqm)
      have hfm := RF.ne hqm
      (try replace RF := RF.below_ hb)
      (try replace HSF := HSF.next hb)
      (try replace B3 := B3.below hb B3.lt)
      (try replace RX := RX.below hb)
      (try replace RB := RB.below hb)
      replace G1 := G1.below hb G1.lt
      clear HY
      have HY := cells5 G1
      replace HB0 := btr HB0 HB0.size hb
      replace HS := Nat.le_trans HS hb.size
      refine hK.out _ _ ?_ (fun hNew => ?_)
      · (first | exact HY | assumption)
      clear hK K hHeld
      have hHeld := hNew
      clear hNew
      try simp only [Act.put, pz1, pz2, pz3]
      refine tk 11 ⟨some 4, .assign (.tmp 28), 26, "chip.go:43", #[⟨10, .data⟩, ⟨5, .chain⟩, ⟨0, .phase⟩, ⟨1, .phase⟩, ⟨2, .phase⟩, ⟨3, .phase⟩, ⟨4, .phase⟩, ⟨5, .phase⟩, ⟨6, .phase⟩, ⟨7, .phase⟩, ⟨8, .phase⟩, ⟨9, .phase⟩, ⟨10, .phase⟩], none⟩ ?_; try simp only [Act.put, pz1, pz2, pz3]
      refine wpAnyH_done (by kernel_rfl) ?_ _
      refine NoPanic.normal ?_
      go_wp2_with fail
      go_ret
      refine ⟨⟨m, gx, gb, AF, cf, rfl, ⟨⟨NX, NB, NX, NB, by simp [ChS.new], hNB, Nat.le_refl _, BM⟩, by simpa [ChS.new, byteV] using RX, by simpa [ChS.new] using RB, RF.at_ hfm hfx hfb, h1, h2, hxb, (List.length_replicate ..).trans HLX.out, (List.length_replicate ..).trans HLK.out, rfl, HP.out⟩, by omega, by omega, by omega⟩, HB0⟩
    · refine wp_build1b _ rfl 255 rfl ?_
      intro wN b3 B3 hq hb
      (try replace RF := RF.below_ hb)
      (try replace HSF := HSF.next hb)
      (try replace RX := RX.below hb)
      (try replace RB := RB.below hb)
      replace G1 := G1.below hb G1.lt
      clear HY
      have HY := cells5 G1
      replace HB0 := btr HB0 HB0.size hb
      replace HS := Nat.le_trans HS hb.size
      refine hK.out _ _ ?_ (fun hNew => ?_)
      · (first | exact HY | assumption)
      clear hK K hHeld
      have hHeld := hNew
      clear hNew
      try simp only [Act.put, pz1, pz2, pz3]
      refine wpAnyH_ready (rs := [2]) (by kernel_rfl) (by simp) ?_
      refine AllReadyH.cons (o := ⟨some 20, .call { callee := .value (.func 29), args := #[.tmp 19], argTypes := #[24] }, 24, "chip.go:45", #[⟨1, .data⟩], none⟩) rfl (fun K hK => ?_) AllReadyH.nil
      go_simp
      (go_at_call 29; ((with_reducible refine (fclone_any fs _ _ _ HSF hfl).mono ?_); rintro e' wN ⟨⟨AF, cf, rfl, RF, hqf⟩, hb⟩))
      go_wp2_with fail
      (try have hfx := FNe.fresh hqf RX.lt)
      (try have hfb := FNe.fresh hqf RB.lt)
      (try replace HSF := HSF.next hb)
      (try replace B3 := B3.below hb B3.lt)
      (try replace RX := RX.below hb)
      (try replace RB := RB.below hb)
      replace G1 := G1.below hb G1.lt
      clear HY
      have HY := cells5 G1
      replace HB0 := btr HB0 HB0.size hb
      replace HS := Nat.le_trans HS hb.size
      refine hK.out _ _ ?_ (fun hNew => ?_)
      · (first | exact HY | assumption)
      clear hK K hHeld
      have hHeld := hNew
      clear hNew
      try simp only [Act.put, pz1, pz2, pz3]
      refine wpAnyH_ready (rs := [5]) (by kernel_rfl) (by simp) ?_
      refine AllReadyH.cons (o := ⟨some 23, .call { callee := .value (.func 30), args := #[.tmp 21, .tmp 22], argTypes := #[46, 3] }, 46, "chip.go:46", #[⟨3, .data⟩, ⟨4, .data⟩, ⟨2, .chain⟩], none⟩) rfl (fun K hK => ?_) AllReadyH.nil
      go_simp
      (go_at_call 30; ((with_reducible refine (rptB_b 255 b3 NX _ B3 n1 n2).mono ?_); rintro e' wN ⟨gx, rfl, hqx, RX, hb⟩))
      go_wp2_with fail
      have hgx := Nat.le_trans HS hqx
      (try have hxb := Nat.ne_of_gt (Nat.lt_of_lt_of_le RB.lt hqx))
      (try have hfx := RF.ne hqx)
      (try replace RF := RF.below_ hb)
      (try replace HSF := HSF.next hb)
      (try replace B3 := B3.below hb B3.lt)
      (try replace RB := RB.below hb)
      replace G1 := G1.below hb G1.lt
      clear HY
      have HY := cells5 G1
      replace HB0 := btr HB0 HB0.size hb
      replace HS := Nat.le_trans HS hb.size
      refine hK.out _ _ ?_ (fun hNew => ?_)
      · (first | exact HY | assumption)
      clear hK K hHeld
      have hHeld := hNew
      clear hNew
      try simp only [Act.put, pz1, pz2, pz3]
      refine tk 9 ⟨some 27, .build 68 #[(0, .tmp 18), (1, .tmp 20), (2, .tmp 23), (3, .tmp 26), (6, .const (.bool true))], 68, "chip.go:43", #[⟨0, .data⟩, ⟨2, .data⟩, ⟨5, .data⟩, ⟨8, .data⟩], none⟩ ?_; try simp only [Act.put, pz1, pz2, pz3]
      refine wpAnyH_ready (rs := [10]) (by kernel_rfl) (by simp) ?_
      refine AllReadyH.cons (o := ⟨some 28, .box 68 (.tmp 27), 26, "chip.go:43", #[⟨9, .data⟩], none⟩) rfl (fun K hK => ?_) AllReadyH.nil
      refine wp_boxF _ rfl rfl ?_
      intro wN m BM hqm hb
      have hm := Nat.le_trans HS hqm
      have h1 : m ≠ gx := Nat.ne_of_gt (Nat.lt_of_lt_of_le RX.lt hqm)
      have h2 : m ≠ gb := Nat.ne_of_gt (Nat.lt_of_lt_of_le RB.lt hqm)
      have hfm := RF.ne hqm
      (try replace RF := RF.below_ hb)
      (try replace HSF := HSF.next hb)
      (try replace B3 := B3.below hb B3.lt)
      (try replace RX := RX.below hb)
      (try replace RB := RB.below hb)
      replace G1 := G1.below hb G1.lt
      clear HY
      have HY := cells5 G1
      replace HB0 := btr HB0 HB0.size hb
      replace HS := Nat.le_trans HS hb.size
      refine hK.out _ _ ?_ (fun hNew => ?_)
      · (first | exact HY | assumption)
      clear hK K hHeld
      have hHeld := hNew
      clear hNew
      try simp only [Act.put, pz1, pz2, pz3]
      refine tk 11 ⟨some 4, .assign (.tmp 28), 26, "chip.go:43", #[⟨10, .data⟩, ⟨5, .chain⟩, ⟨0, .phase⟩, ⟨1, .phase⟩, ⟨2, .phase⟩, ⟨3, .phase⟩, ⟨4, .phase⟩, ⟨5, .phase⟩, ⟨6, .phase⟩, ⟨7, .phase⟩, ⟨8, .phase⟩, ⟨9, .phase⟩, ⟨10, .phase⟩], none⟩ ?_; try simp only [Act.put, pz1, pz2, pz3]
      refine wpAnyH_done (by kernel_rfl) ?_ _
      refine NoPanic.normal ?_
      go_wp2_with fail
      go_ret
      refine ⟨⟨m, gx, gb, AF, cf, rfl, ⟨⟨NX, NB, NX, NB, by simp [ChS.new], hNB, Nat.le_refl _, BM⟩, by simpa [ChS.new, byteV] using RX, by simpa [ChS.new] using RB, RF.at_ hfm hfx hfb, h1, h2, hxb, (List.length_replicate ..).trans HLX.out, (List.length_replicate ..).trans HLK.out, rfl, HP.out⟩, by omega, by omega, by omega⟩, HB0⟩
end Go.Proofs.Ytdfojhkpfbnmgaa
namespace Go.Proofs.Ytdfojhkpfbnmgaa
open Go.ChangeShapes Go.WideShapes Go.ChangeAt Go.RowKit
theorem prog_len (m gx gb : Nat) (Af : Option Addr) (nf cf : Nat) (a b c d e : Int) (fs : List Flt) (RW : Nat) (x y : Int) (A : Option Addr) (nb cA : Nat) (w : World) (s : ChS) (hC : ChipW w m gx gb Af nf cf a b c d e fs s) (ho : s.on = true) (ht : Hid (thereB a b x y = true)) (HRW : Hid ((RW : Int) = c + 16)) (hne : nb ≠ RW) : Calls Try.prog 23 #[.pointer (some ⟨m, 0, none⟩), .agg #[.int .i64 x, .int .i64 y], .slice A nb cA] w fun e' w' => e' = .returned (.int .i64 2) ∧ Below w.heap.size w w' := by
  have HM := Lib.hid (planMay_bd hC.may).1
  have HB0 : Below w.heap.size w (w.alloc (.cells #[.int .i64 x, .int .i64 y] 53)) := (Below.refl _ _).alloc (Nat.le_refl _) _
  have G1 : Blk (w.alloc (.cells #[.int .i64 x, .int .i64 y] 53)) w.heap.size 53 #[.int .i64 x, .int .i64 y] := Blk.new_ _ _ _
  have z0 : (w.alloc (.cells #[.int .i64 x, .int .i64 y] 53)).cell? ⟨w.heap.size, 0, none⟩ = some (.int .i64 x) := G1.cell_ 0
  have z1 : (w.alloc (.cells #[.int .i64 x, .int .i64 y] 53)).cell? ⟨w.heap.size, 1, none⟩ = some (.int .i64 y) := G1.cell_ 1
  have hC := hC.below HB0
  have y10 := cell10 hC
  rw [ho] at y10
  clear ho
  have hnn : ((nb : Int) == (RW : Int)) = false := by simp; omega
  have hnm : ((nb : Int) != (RW : Int)) = true := by simp; omega
  clear hne
  go_enter Try.func23, Try.ntmps23
  go_wp2_with (first
    | (go_at_call 50; ((with_reducible refine (hasPage_b _ _ _ _ _ _ _ _ _ _ _ _ _ _ _ _ _ hC ht).mono ?_); rintro e' wN ⟨rfl, hb⟩; replace hC := hC.below hb; replace HB0 := btr HB0 HB0.size hb; obtain ⟨y0, y1, y2, y3, y4⟩ := geo5 hC))
    | (go_at_call 28; ((with_reducible refine (raw_bb _ _ _ _ _ RW _ HM HRW).mono ?_); rintro e' wN ⟨rfl, hb⟩; replace HB0 := btr HB0 HB0.size hb)))
  go_ret
  exact ⟨rfl, HB0⟩
structure Fine (s : ChS) (n : Int) : Prop where
  bnd : s.Bnd n
  cby : 0 ≤ s.cby
  fill : s.fill < 256
def ChS.progZ (s : ChS) (a b c : Int) (fs : List Flt) (x y : Int) (L : Nat) : Int :=
  if s.on then (if thereB a b x y && decide ((L : Int) = c + 16) then (if s.cutB then 9 else s.wrong a fs x.toNat y.toNat) else 2) else 9
def ChS.progS (s : ChS) (a b c : Int) (fs : List Flt) (x y : Int) (bs : List Nat) : ChS :=
  if s.on && (thereB a b x y && decide ((bs.length : Int) = c + 16)) then
    (if s.wrong a fs x.toNat y.toNat = 0 then (if s.cutB then s.progCut x.toNat (x * b + y).toNat bs.length (bs.take (min bs.length s.cby.toNat)) else s.prog x.toNat (x * b + y).toNat bs.length bs) else s.tick)
  else s
theorem there_nat {a b x y : Int} (h : thereB a b x y = true) : ∃ k l : Nat, x = (k : Int) ∧ y = (l : Int) ∧ (k : Int) < a ∧ (l : Int) < b := by
  obtain ⟨h1, h2, h3, h4⟩ := there_bd h
  exact ⟨x.toNat, y.toNat, by omega, by omega, by omega, by omega⟩
def ChS.eraseZ (s : ChS) (a : Int) (fs : List Flt) (x : Int) : Int :=
  if s.on then (if inB a x then (if s.cutB then 9 else (if failedB a fs s x then 10 else 0)) else 2) else 9
def ChS.eraseS (s : ChS) (a b c : Int) (fs : List Flt) (x : Int) : ChS :=
  if s.on && inB a x then (if failedB a fs s x then s.tick else s.tick.wipe b x.toNat (b * (c + 16)).toNat (if s.cutB then s.fill else 255)) else s
theorem arm_all (m gx gb : Nat) (Af : Option Addr) (nf cf : Nat) (a b c d e : Int) (fs : List Flt) (xo xb : Int) (xf : Nat) (n : Int) (w : World) (s : ChS) (hC : ChipW w m gx gb Af nf cf a b c d e fs s) (hs : Fine s n) (hn : n ≤ 900000000) :
    Calls Try.prog 24 #[.pointer (some ⟨m, 0, none⟩), .agg #[.int .i64 xo, .int .i64 xb, .int .u8 (xf : Nat)]] w fun e' w' => e' = .returned (.int .i64 (s.armC xo xb)) ∧ ChipW w' m gx gb Af nf cf a b c d e fs (s.arm xo xb xf) ∧ Tch (chB m gx gb) w w' := by
  cases ho : s.on
  · have e1 : s.armC xo xb = 9 := by simp [ChS.armC, ho]
    have e2 : s.arm xo xb xf = s := by simp [ChS.arm, ho]
    rw [e1, e2]
    refine (arm_off m gx gb Af nf cf a b c d e fs xo xb xf w s hC ho).mono ?_
    rintro e' w' ⟨rfl, hb⟩
    exact ⟨rfl, hC.below hb, Tch.of_below hb⟩
  by_cases hx : 1 ≤ xo ∧ xo ≤ 1073741824 ∧ 0 ≤ xb ∧ xb ≤ 1073741824
  · obtain ⟨x1, x2, x3, x4⟩ := hx
    have ha : armOkB xo xb = true := by unfold armOkB; simp; omega
    have e1 : s.armC xo xb = 0 := by simp [ChS.armC, ho, ha]
    have e2 : s.arm xo xb xf = { s with armed := true, turn := s.ops + xo, cop := xo, cby := xb, fill := xf } := by simp [ChS.arm, ho, ha]
    rw [e1, e2]
    exact arm_yes m gx gb Af nf cf a b c d e fs xo xb xf n w s hC hs.bnd (by omega) ho x1 x2 x3 x4
  · have ha : armOkB xo xb = false := by
      cases h : armOkB xo xb
      · rfl
      · exfalso
        apply hx
        unfold armOkB at h
        simp at h
        omega
    have e1 : s.armC xo xb = 2 := by simp [ChS.armC, ho, ha]
    have e2 : s.arm xo xb xf = s := by simp [ChS.arm, ha]
    rw [e1, e2]
    refine (arm_arg m gx gb Af nf cf a b c d e fs xo xb xf w s hC ho (by omega)).mono ?_
    rintro e' w' ⟨rfl, hb⟩
    exact ⟨rfl, hC.below hb, Tch.of_below hb⟩
def ChS.readZ (s : ChS) (a b x y : Int) : Int := if s.on then (if thereB a b x y then (if s.cutB then 9 else 0) else 2) else 9
def ChS.readS (s : ChS) (a b x y : Int) : ChS := if s.on && thereB a b x y then s.tick else s
def ChS.readB (s : ChS) (a b c x y : Int) : List Nat := if s.on && (thereB a b x y && !s.cutB) then s.pageOf (x * b + y).toNat (c + 16).toNat else []
def cntL (z : Int) : Nat := (min (max z 0) 200).toNat
end Go.Proofs.Ytdfojhkpfbnmgaa
namespace Go.Proofs.Ytdfojhkpfbnmgaa
open Go.ChangeShapes Go.WideShapes Go.ChangeAt Go.RowKit
def Filled (s : ChS) (b c : Int) (n k i : Nat) : Prop :=
  s.k (k : Int) 0 = (i : Int) ∧ s.k (k : Int) 1 = 0 ∧ ∀ l RW N : Nat, (RW : Int) = c + 16 → (l : Int) < b → (N : Int) = (k : Int) * b + (l : Int) → s.pageOf N RW = if l < i then bytesL ((n + l) % 256) RW else List.replicate RW 255
theorem Filled.next {s : ChS} {b c : Int} {n k i : Nat} (h : Filled s b c n k i) : s.k (k : Int) 0 = (i : Int) := h.1
theorem Filled.worn {s : ChS} {b c : Int} {n k i : Nat} (h : Filled s b c n k i) : s.k (k : Int) 1 = 0 := h.2.1
theorem Filled.pages {s : ChS} {b c : Int} {n k i : Nat} (h : Filled s b c n k i) : ∀ l RW N : Nat, (RW : Int) = c + 16 → (l : Int) < b → (N : Int) = (k : Int) * b + (l : Int) → s.pageOf N RW = if l < i then bytesL ((n + l) % 256) RW else List.replicate RW 255 := h.2.2
theorem Filled.of {s S : ChS} {b c : Int} {n k i : Nat} (h : Filled s b c n k i) (hk : ∀ B j, S.k B j = s.k B j) (hX : S.X = s.X) : Filled S b c n k i := by
  refine ⟨(hk _ _).trans h.1, (hk _ _).trans h.2.1, fun l RW N h1 h2 h3 => ?_⟩
  have := h.2.2 l RW N h1 h2 h3
  unfold ChS.pageOf at this ⊢
  rw [hX]
  exact this
theorem Filled.more {s S : ChS} {b c : Int} {n k i N0 RW0 : Nat} (h : Filled s b c n k i) (hr : (RW0 : Int) = c + 16) (hN : (N0 : Int) = (k : Int) * b + (i : Int)) (h0 : S.k (k : Int) 0 = (i : Int) + 1) (h1 : S.k (k : Int) 1 = s.k (k : Int) 1) (hp : S.pageOf N0 RW0 = bytesL ((n + i) % 256) RW0) (ho : ∀ N', N0 ≠ N' → S.pageOf N' RW0 = s.pageOf N' RW0) : Filled S b c n k (i + 1) := by
  refine ⟨by rw [h0]; omega, h1.trans h.2.1, fun l RW N q1 q2 q3 => ?_⟩
  obtain rfl : RW = RW0 := by omega
  by_cases hl : l = i
  · subst hl
    obtain rfl : N = N0 := by omega
    rw [hp, if_pos (by omega)]
  · rw [ho N (by omega), h.2.2 l RW N q1 q2 q3]
    by_cases h2 : l < i
    · rw [if_pos h2, if_pos (by omega)]
    · rw [if_neg h2, if_neg (by omega)]
end Go.Proofs.Ytdfojhkpfbnmgaa
namespace Go.Proofs.Ytdfojhkpfbnmgaa
open Go.ChangeShapes Go.WideShapes Go.ChangeAt Go.RowKit
theorem Fine.tick {s : ChS} {n : Int} (h : Fine s n) : Fine s.tick (n + 1) := by
  refine ⟨tick_bnd h.bnd, by rw [tick_cby]; exact h.cby, ?_⟩
  have : s.tick.fill = s.fill := by unfold ChS.tick; split <;> rfl
  rw [this]
  exact h.fill
theorem Fine.mono {s : ChS} {n n' : Int} (h : Fine s n) (hn : n ≤ n') : Fine s n' := ⟨bnd_mono h.bnd hn, h.cby, h.fill⟩
structure Same (s S : ChS) (b c : Int) (k : Nat) : Prop where
  kk : ∀ i : Nat, i < 3 → S.k (k : Int) i = s.k (k : Int) i
  pg : ∀ l RW N : Nat, (RW : Int) = c + 16 → (l : Int) < b → (N : Int) = (k : Int) * b + (l : Int) → S.pageOf N RW = s.pageOf N RW
theorem Same.refl (s : ChS) (b c : Int) (k : Nat) : Same s s b c k := ⟨fun _ _ => rfl, fun _ _ _ _ _ _ => rfl⟩
theorem Same.like {s S : ChS} {b c : Int} {k : Nat} (h1 : S.X = s.X) (h2 : S.K = s.K) : Same s S b c k :=
  ⟨fun i _ => by unfold ChS.k; rw [h2], fun l RW N _ _ _ => by unfold ChS.pageOf; rw [h1]⟩
theorem num_ne {b : Int} {x k y l N N' : Nat} (hb : 0 < b) (hx : x ≠ k) (hy : (y : Int) < b) (hl : (l : Int) < b) (h1 : (N : Int) = (x : Int) * b + (y : Int)) (h2 : (N' : Int) = (k : Int) * b + (l : Int)) : N ≠ N' := by
  intro e
  subst e
  rcases Nat.lt_or_gt_of_ne hx with h | h
  · have := Int.mul_le_mul_of_nonneg_right (a := (x : Int) + 1) (b := (k : Int)) (c := b) (by omega) (by omega)
    rw [Int.add_mul, Int.one_mul] at this
    omega
  · have := Int.mul_le_mul_of_nonneg_right (a := (k : Int) + 1) (b := (x : Int)) (c := b) (by omega) (by omega)
    rw [Int.add_mul, Int.one_mul] at this
    omega
theorem prog_same {w : World} {m gx gb : Nat} {Af : Option Addr} {nf cf : Nat} {a b c d e : Int} {fs : List Flt} {s : ChS} (hC : ChipW w m gx gb Af nf cf a b c d e fs s) {n : Int} (hs : Fine s n) (x y : Int) (bs : List Nat) (k : Nat) (hx : x ≠ (k : Int)) : Same s (s.progS a b c fs x y bs) b c k ∧ Fine (s.progS a b c fs x y bs) (n + 3) := by
  unfold ChS.progS
  cases ho : s.on
  · exact ⟨Same.refl _ _ _ _, hs.mono (by omega)⟩
  cases ht : thereB a b x y
  · exact ⟨Same.refl _ _ _ _, hs.mono (by omega)⟩
  by_cases hL : (bs.length : Int) = c + 16
  · rw [decide_eq_true hL]
    obtain ⟨j, l, rfl, rfl, hj, hl⟩ := there_nat ht
    obtain ⟨N, RW, hnum, hrw, hfit, r1, r2, hN2, hNN⟩ := page_ok hC hj hl
    have hRW : RW = bs.length := by omega
    subst hRW
    have hN' : ((j : Int) * b + (l : Int)).toNat = N := by omega
    have hb := (may_bd (planMay_bd hC.may).1).2.2.1
    simp only [Bool.and_self, if_true, Int.toNat_natCast, hN']
    have hne : ∀ l' N' : Nat, (l' : Int) < b → (N' : Int) = (k : Int) * b + (l' : Int) → N ≠ N' := fun l' N' h1 h2 => num_ne (by omega) (by omega) hl h1 hNN h2
    by_cases hw : s.wrong a fs j l = 0
    · rw [if_pos hw]
      cases hc : s.cutB
      · rw [if_neg (by simp)]
        have hp := prog_on (s := s) j N bs.length bs
        refine ⟨⟨fun i hi => prog_kl N bs.length bs k i (by omega) hi, fun l' RW' N' h1 h2 h3 => ?_⟩, ⟨prog_bnd hs.bnd j N bs.length bs, ?_, ?_⟩⟩
        · obtain rfl : RW' = bs.length := by omega
          unfold ChS.pageOf
          rw [hp.2.2.2.2.2.1]
          exact putX_page_other rfl hfit (hne l' N' h2 h3)
        · exact hs.tick.cby
        · exact hs.tick.fill
      · rw [if_pos rfl]
        have hl2 : (bs.take (min bs.length s.cby.toNat)).length ≤ bs.length := by rw [List.length_take]; omega
        obtain ⟨p1, p2⟩ := progCut_fields (s := s) j N bs.length (bs.take (min bs.length s.cby.toNat))
        refine ⟨⟨fun i hi => ?_, fun l' RW' N' h1 h2 h3 => ?_⟩, ⟨?_, ?_, ?_⟩⟩
        · unfold ChS.k
          rw [p2, Int.toNat_natCast, getD_setN, if_neg (by omega)]
        · obtain rfl : RW' = bs.length := by omega
          unfold ChS.pageOf
          rw [p1]
          exact putX_part_other hl2 hfit (hne l' N' h2 h3)
        · have h1 := inc_bnd (bnd_X (tick_bnd hs.bnd) (putX s.X (N * bs.length) (bs.take (min bs.length s.cby.toNat)))) j 0
          exact bnd_mono h1 (by omega)
        · exact hs.tick.cby
        · exact hs.tick.fill
    · rw [if_neg hw]
      exact ⟨Same.like (tick_X s) (tick_K s), hs.tick.mono (by omega)⟩
  · rw [decide_eq_false hL]
    exact ⟨Same.refl _ _ _ _, hs.mono (by omega)⟩
theorem arm_same (s : ChS) (b c : Int) {n : Int} (hs : Fine s n) (xo xb : Int) (xf k : Nat) (hf : xf < 256) : Same s (s.arm xo xb xf) b c k ∧ Fine (s.arm xo xb xf) n := by
  unfold ChS.arm
  cases h : s.on && armOkB xo xb
  · exact ⟨Same.refl _ _ _ _, hs⟩
  · have hx : 0 ≤ xb := by
      simp only [Bool.and_eq_true] at h
      have := h.2
      unfold armOkB at this
      simp at this
      omega
    obtain ⟨o0, o1, c0, c1, k0, k1⟩ := hs.bnd
    exact ⟨Same.like rfl rfl, ⟨⟨o0, o1, c0, c1, k0, k1⟩, hx, hf⟩⟩
theorem boot_same (s : ChS) (b c : Int) {n : Int} (hs : Fine s n) (k : Nat) : Same s s.boot b c k ∧ Fine s.boot n := by
  unfold ChS.boot
  cases h : s.on
  · obtain ⟨o0, o1, c0, c1, k0, k1⟩ := hs.bnd
    exact ⟨Same.like rfl rfl, ⟨⟨o0, o1, c0, c1, k0, k1⟩, hs.cby, hs.fill⟩⟩
  · exact ⟨Same.refl _ _ _ _, hs⟩
end Go.Proofs.Ytdfojhkpfbnmgaa
namespace Go.Proofs.Ytdfojhkpfbnmgaa
open Go.ChangeShapes Go.WideShapes Go.ChangeAt Go.RowKit
theorem own_base {w : World} {b b' e n size : Nat} {v : Value} {xs : List Value} (h : w.ownsRow b e size v n xs) (hb : b' ≤ b) : w.ownsRow b' e size v n xs := by
  obtain ⟨hl, h⟩ := h
  refine ⟨hl, ?_⟩
  rcases h with h | ⟨g, cap, cur, rfl, hg, r⟩
  · exact Or.inl h
  · exact Or.inr ⟨g, cap, cur, rfl, by omega, r⟩
theorem bclone_own (g o n c : Nat) (bs : List Nat) (w : World) (hr : Rd w (some ⟨g, o, none⟩) n 1 (bs.map byteV)) (hlt : g < w.heap.size) (hn : 1 ≤ n) (hn2 : n ≤ 100000) :
    Calls Try.prog 53 #[.slice (some ⟨g, o, none⟩) n c] w fun e' w' => (∃ g' c', e' = .returned (.slice (some ⟨g', 0, none⟩) n c') ∧ RowT w' g' 5 (bs.map byteV) ∧ w.heap.size ≤ g' ∧ w'.ownsRow w.heap.size 5 1 (.slice (some ⟨g', 0, none⟩) n c') n (bs.map byteV)) ∧ Below w.heap.size w w' := by
  have HR : Rd (w.alloc (.cells #[] 5)) (some ⟨g, o, none⟩) n 1 (bs.map byteV) := hr.keep (fun b o' e j => by
    cases e
    exact Below.cell (p := ⟨g, j, none⟩) ((Below.refl w.heap.size w).alloc (Nat.le_refl _) (.cells #[] 5)) hlt)
  have hnil := slB_not_nil ⟨g, o, none⟩ n c w
  go_enter Try.func53, Try.ntmps53
  go_upto_region 3 with fail
  refine wp_region_lit ?_
  refine wpList_plain rfl (fun K hK => ?_)
  go_simp
  refine hK _ _ ?_
  clear hK K
  try simp only [Act.put, pz1, pz2, pz3]
  refine wpList_plain rfl (fun K hK => ?_)
  go_simp
  refine hK _ _ ?_
  clear hK K
  try simp only [Act.put, pz1, pz2, pz3]
  obtain ⟨ti0, hi, hz0, hz1, hz2⟩ := info_parts infoByte
  refine wpList_app _ rfl (.tmp 5) (.tmp 6) _ rfl w.heap.size 5 ti0 _ 1 1 Try.underlying46 hi hz0 hz1 hz2 rfl (by decide) (.slice (some ⟨w.heap.size, 0, none⟩) 0 0) 0 [] rfl (own_emptyB w _) (some ⟨g, o, none⟩) n c (bs.map byteV) rfl HR (oneB bs) (by unfold maxLen; omega) (by omega) (by simp) ?_
  intro v' w' ho' hg' hv'
  clear hi hz0 hz1 hz2
  rw [Nat.zero_add, List.nil_append] at ho'
  have ho2 := ho'
  obtain ⟨g', c', rfl, hR', hge⟩ := own_rowT ho' hn
  have HO2 := Lib.hid ho2
  clear ho2
  have HG := Lib.hid hg'
  have HRR := Lib.hid hR'
  clear hg' hR' ho' hv' hnil
  try simp only [Act.put, pz1, pz2, pz3]
  go_wp2_with fail
  go_ret
  exact ⟨⟨g', c', rfl, HRR.out, hge, HO2.out⟩, ((Below.refl _ _).alloc (Nat.le_refl _) _).grown HG.out (by simp) (fun g' hg'' => by simp [Value.ownBlock] at hg''; omega)⟩
theorem read_okO (m gx gb : Nat) (Af : Option Addr) (nf cf : Nat) (a b c d e : Int) (fs : List Flt) (k l N RW : Nat) (n : Int) (w : World) (s : ChS) (hC : ChipW w m gx gb Af nf cf a b c d e fs s) (hbn : s.Bnd n) (hn : n ≤ 1000000000) (ho : s.on = true) (hcu : Hid (s.cutB = false)) (hk : (k : Int) < a) (hl : (l : Int) < b) (hnum : Hid (numberI a b (k : Int) (l : Int) = (N : Int))) (hrw : (RW : Int) = c + 16) (hfit0 : N * RW + RW ≤ s.X.length) (r1 : 40 ≤ RW) (r2 : RW ≤ 80) (hN2 : N < 200) : Calls Try.prog 25 #[.pointer (some ⟨m, 0, none⟩), .agg #[.int .i64 (k : Int), .int .i64 (l : Int)]] w fun e' w' => (∃ g' c', e' = .returned (.tuple #[.slice (some ⟨g', 0, none⟩) RW c', .int .i64 0]) ∧ RowT w' g' 5 ((s.pageOf N RW).map byteV) ∧ w.heap.size ≤ g' ∧ w'.ownsRow w.heap.size 5 1 (.slice (some ⟨g', 0, none⟩) RW c') RW ((s.pageOf N RW).map byteV)) ∧ ChipW w' m gx gb Af nf cf a b c d e fs s.tick ∧ Tch (chB m gx gb) w w' := by
  have hnb : ¬ chB m gx gb w.heap.size := by have := hC.lt; unfold chB; omega
  have ht : Hid (thereB a b (k : Int) (l : Int) = true) := Lib.hid (by unfold thereB withinB; simp; omega)
  have hfit : N * RW + RW ≤ s.tick.X.length := by rw [tick_X]; exact hfit0
  have hpo : s.tick.pageOf N RW = s.pageOf N RW := by unfold ChS.pageOf; rw [tick_X]
  have HPO := Lib.hid hpo
  have HRW := Lib.hid hrw
  clear hpo hrw hfit0
  have HB0 : Below w.heap.size w (w.alloc (.cells #[.int .i64 (k : Int), .int .i64 (l : Int)] 53)) := (Below.refl _ _).alloc (Nat.le_refl _) _
  have G1 : Blk (w.alloc (.cells #[.int .i64 (k : Int), .int .i64 (l : Int)] 53)) w.heap.size 53 #[.int .i64 (k : Int), .int .i64 (l : Int)] := Blk.new_ _ _ _
  have z0 : (w.alloc (.cells #[.int .i64 (k : Int), .int .i64 (l : Int)] 53)).cell? ⟨w.heap.size, 0, none⟩ = some (.int .i64 (k : Int)) := G1.cell_ 0
  have z1 : (w.alloc (.cells #[.int .i64 (k : Int), .int .i64 (l : Int)] 53)).cell? ⟨w.heap.size, 1, none⟩ = some (.int .i64 (l : Int)) := G1.cell_ 1
  have hC := hC.below HB0
  have y10 := cell10 hC
  rw [ho] at y10
  clear ho
  go_enter Try.func25, Try.ntmps25
  go_wp2_with (first
    | (go_at_call 50; ((with_reducible refine (hasPage_b _ _ _ _ _ _ _ _ _ _ _ _ _ _ _ _ _ hC ht).mono ?_); rintro e' wN ⟨rfl, hb⟩; replace hC := hC.below hb; replace HB0 := btr HB0 HB0.size hb; replace G1 := G1.below hb G1.lt; clear z0 z1 y10; have z0 := G1.cell_ 0; have z1 := G1.cell_ 1; simp at z0 z1))
    | (go_at_call 34; ((with_reducible refine (begin_b _ _ _ _ _ _ _ _ _ _ _ _ _ _ _ _ hC hbn hn hcu).mono ?_); rintro e' wN ⟨rfl, hC2, hT⟩; have HT := (Tch.of_below (S := chB m gx gb) HB0).trans hT; have hlt0 := hT.far w.heap.size G1.lt hnb; replace G1 : Blk wN w.heap.size _ _ := hlt0.trans G1; clear hlt0 hC; have hC := hC2; clear hC2 z0 z1; have z0 := G1.cell_ 0; have z1 := G1.cell_ 1; simp at z0 z1))
    | (go_at_call 52; ((with_reducible refine (page_any _ _ _ _ _ _ _ _ _ _ _ _ k l N RW _ _ hC hk hl hnum HRW.out hfit r1 r2 hN2).mono ?_); rintro e' wN ⟨⟨q, hq, rfl⟩, hb⟩; replace hC := hC.below hb; replace HT := HT.then hb))
    | (go_at_call 53; ((with_reducible refine (bclone_own gx (N * RW) RW q (s.pageOf N RW) _ (by rw [← HPO.out]; exact chip_rd hC hfit) hC.lt.2.1 (by omega) (by omega)).mono ?_); rintro e' wN ⟨⟨g9, c9, rfl, hR9, hg9, ho9⟩, hb⟩; replace hC := hC.below hb; have HSZ := HT.size; replace HT := HT.then hb)))
  go_ret2
  exact ⟨⟨g9, c9, rfl, hR9, by omega, own_base ho9 (by omega)⟩, hC, HT⟩
theorem read_allO (m gx gb : Nat) (Af : Option Addr) (nf cf : Nat) (a b c d e : Int) (fs : List Flt) (x y : Int) (n : Int) (w : World) (s : ChS) (hC : ChipW w m gx gb Af nf cf a b c d e fs s) (hs : Fine s n) (hn : n ≤ 900000000) :
    Calls Try.prog 25 #[.pointer (some ⟨m, 0, none⟩), .agg #[.int .i64 x, .int .i64 y]] w fun e' w' => (∃ A c', e' = .returned (.tuple #[.slice A (s.readB a b c x y).length c', .int .i64 (s.readZ a b x y)]) ∧ (s.readB a b c x y = [] ∧ A = none ∧ c' = 0 ∨ ∃ g, A = some ⟨g, 0, none⟩ ∧ RowT w' g 5 ((s.readB a b c x y).map byteV) ∧ w.heap.size ≤ g ∧ w'.ownsRow w.heap.size 5 1 (.slice (some ⟨g, 0, none⟩) (s.readB a b c x y).length c') (s.readB a b c x y).length ((s.readB a b c x y).map byteV))) ∧ ChipW w' m gx gb Af nf cf a b c d e fs (s.readS a b x y) ∧ Tch (chB m gx gb) w w' := by
  cases ho : s.on
  · have e1 : s.readZ a b x y = 9 := by simp [ChS.readZ, ho]
    have e2 : s.readS a b x y = s := by simp [ChS.readS, ho]
    have e3 : s.readB a b c x y = [] := by simp [ChS.readB, ho]
    rw [e1, e2, e3]
    refine (read_off m gx gb Af nf cf a b c d e fs x y w s hC ho).mono ?_
    rintro e' w' ⟨rfl, hb⟩
    exact ⟨⟨none, 0, rfl, Or.inl ⟨rfl, rfl, rfl⟩⟩, hC.below hb, Tch.of_below hb⟩
  cases ht : thereB a b x y
  · have e1 : s.readZ a b x y = 2 := by simp [ChS.readZ, ho, ht]
    have e2 : s.readS a b x y = s := by simp [ChS.readS, ht]
    have e3 : s.readB a b c x y = [] := by simp [ChS.readB, ht]
    rw [e1, e2, e3]
    refine (read_arg m gx gb Af nf cf a b c d e fs x y w s hC ho (Lib.hid ht)).mono ?_
    rintro e' w' ⟨rfl, hb⟩
    exact ⟨⟨none, 0, rfl, Or.inl ⟨rfl, rfl, rfl⟩⟩, hC.below hb, Tch.of_below hb⟩
  have e2 : s.readS a b x y = s.tick := by simp [ChS.readS, ht, ho]
  rw [e2]
  cases hc : s.cutB
  · obtain ⟨k, l, hx, hy, hk, hl⟩ := there_nat ht
    obtain ⟨N, RW, hnum, hrw, hfit, r1, r2, hN2, hNN⟩ := page_ok hC hk hl
    have hN' : (x * b + y).toNat = N := by rw [hx, hy, ← hNN]; omega
    have hr' : (c + 16).toNat = RW := by omega
    have e1 : s.readZ a b x y = 0 := by simp [ChS.readZ, ho, ht, hc]
    have e3 : s.readB a b c x y = s.pageOf N RW := by
      unfold ChS.readB
      rw [ho, ht, hc, hN', hr']
      rfl
    have e4 : (s.pageOf N RW).length = RW := by
      unfold ChS.pageOf
      rw [List.length_take, List.length_drop]
      omega
    rw [e1, e3, e4]
    subst hx hy
    refine (read_okO m gx gb Af nf cf a b c d e fs k l N RW n w s hC hs.bnd (by omega) ho (Lib.hid hc) hk hl (Lib.hid hnum) hrw hfit r1 r2 hN2).mono ?_
    rintro e' w' ⟨⟨g, c', h1, h2, h3, h4⟩, hC', hT⟩
    exact ⟨⟨_, c', h1, Or.inr ⟨g, rfl, h2, h3, h4⟩⟩, hC', hT⟩
  · have e1 : s.readZ a b x y = 9 := by simp [ChS.readZ, ho, ht, hc]
    have e3 : s.readB a b c x y = [] := by simp [ChS.readB, hc]
    rw [e1, e3]
    refine (read_cut m gx gb Af nf cf a b c d e fs x y n w s hC hs.bnd (by omega) ho (Lib.hid ht) (Lib.hid hc)).mono ?_
    rintro e' w' ⟨rfl, hC', hT⟩
    exact ⟨⟨none, 0, rfl, Or.inl ⟨rfl, rfl, rfl⟩⟩, hC', hT⟩
theorem prog_allC (m gx gb : Nat) (Af : Option Addr) (nf cf : Nat) (a b c d e : Int) (fs : List Flt) (x y : Int) (bs : List Nat) (gA cA : Nat) (n : Int) (w : World) (s : ChS) (hC : ChipW w m gx gb Af nf cf a b c d e fs s) (hs : Fine s n) (hn : n ≤ 900000000) (hR : ∀ j u, (bs.map byteV)[j]? = some u → w.cell? ⟨gA, 0 + j, none⟩ = some u) (hlt : gA < w.heap.size) (hcA : bs.length ≤ cA) (hcA2 : cA ≤ maxLen) (hgn : ¬ chB m gx gb gA) :
    Calls Try.prog 23 #[.pointer (some ⟨m, 0, none⟩), .agg #[.int .i64 x, .int .i64 y], .slice (some ⟨gA, 0, none⟩) bs.length cA] w fun e' w' => e' = .returned (.int .i64 (s.progZ a b c fs x y bs.length)) ∧ ChipW w' m gx gb Af nf cf a b c d e fs (s.progS a b c fs x y bs) ∧ Tch (chB m gx gb) w w' := by
  cases ho : s.on
  · have e1 : s.progZ a b c fs x y bs.length = 9 := by simp [ChS.progZ, ho]
    have e2 : s.progS a b c fs x y bs = s := by simp [ChS.progS, ho]
    rw [e1, e2]
    refine (prog_off m gx gb Af nf cf a b c d e fs x y _ _ _ w s hC ho).mono ?_
    rintro e' w' ⟨rfl, hb⟩
    exact ⟨rfl, hC.below hb, Tch.of_below hb⟩
  cases ht : thereB a b x y
  · have e1 : s.progZ a b c fs x y bs.length = 2 := by simp [ChS.progZ, ho, ht]
    have e2 : s.progS a b c fs x y bs = s := by simp [ChS.progS, ht]
    rw [e1, e2]
    refine (prog_arg m gx gb Af nf cf a b c d e fs x y _ _ _ w s hC ho (Lib.hid ht)).mono ?_
    rintro e' w' ⟨rfl, hb⟩
    exact ⟨rfl, hC.below hb, Tch.of_below hb⟩
  obtain ⟨k, l, hx, hy, hk, hl⟩ := there_nat ht
  obtain ⟨N, RW, hnum, hrw, hfit, r1, r2, hN2, hNN⟩ := page_ok hC hk hl
  by_cases hL : bs.length = RW
  · subst hL
    have hd : decide ((bs.length : Int) = c + 16) = true := decide_eq_true hrw
    have hN' : (x * b + y).toNat = N := by rw [hx, hy, ← hNN]; omega
    have hk' : x.toNat = k := by omega
    have hl' : y.toNat = l := by omega
    have e2 : s.progS a b c fs x y bs = (if s.wrong a fs k l = 0 then (if s.cutB then s.progCut k N bs.length (bs.take (min bs.length s.cby.toNat)) else s.prog k N bs.length bs) else s.tick) := by
      unfold ChS.progS
      rw [ho, ht, hd, hN', hk', hl']
      rfl
    have e1 : s.progZ a b c fs x y bs.length = (if s.cutB then 9 else s.wrong a fs k l) := by
      unfold ChS.progZ
      rw [ho, ht, hd, hk', hl']
      rfl
    rw [e1, e2]
    subst hx hy
    clear e1 e2 hk' hl' hN'
    by_cases hw : s.wrong a fs k l = 0
    · rw [if_pos hw]
      cases hc : s.cutB
      · have := prog_ok m gx gb Af nf cf a b c d e fs k l N bs.length n bs gA 0 cA w s hC hs.bnd (by omega) ho hk hl (Lib.hid hnum) (Lib.hid hrw) (Lib.hid hfit) r1 r2 hN2 hR hlt hgn rfl (Lib.hid hc) hw
        simpa [hw] using this
      · have := prog_cut m gx gb Af nf cf a b c d e fs k l N bs.length n bs gA 0 cA w s hC hs.bnd (by omega) ho hk hl (Lib.hid hnum) (Lib.hid hrw) (Lib.hid hfit) r1 r2 hN2 hR hlt hgn rfl (Lib.hid hc) hw _ hs.cby rfl hcA hcA2
        simpa using this
    · rw [if_neg hw]
      cases hc : s.cutB
      · have := prog_err m gx gb Af nf cf a b c d e fs k l N bs.length n bs gA 0 cA w s hC hs.bnd (by omega) ho hk hl (Lib.hid hnum) (Lib.hid hrw) (Lib.hid hfit) r1 r2 hN2 hR hlt hgn rfl (Lib.hid hc) _ rfl hw
        simpa using this
      · have := prog_cutbad m gx gb Af nf cf a b c d e fs k l N bs.length n bs gA 0 cA w s hC hs.bnd (by omega) ho hk hl (Lib.hid hnum) (Lib.hid hrw) (Lib.hid hfit) r1 r2 hN2 hR hlt hgn rfl (Lib.hid hc) _ rfl hw
        simpa using this
  · have hd : decide ((bs.length : Int) = c + 16) = false := decide_eq_false (by omega)
    have e1 : s.progZ a b c fs x y bs.length = 2 := by unfold ChS.progZ; rw [ho, ht, hd]; rfl
    have e2 : s.progS a b c fs x y bs = s := by unfold ChS.progS; rw [ho, ht, hd]; rfl
    rw [e1, e2]
    refine (prog_len m gx gb Af nf cf a b c d e fs RW x y _ _ _ w s hC ho (Lib.hid ht) (Lib.hid hrw) hL).mono ?_
    rintro e' w' ⟨rfl, hb⟩
    exact ⟨rfl, hC.below hb, Tch.of_below hb⟩
end Go.Proofs.Ytdfojhkpfbnmgaa
namespace Go.Proofs.Ytdfojhkpfbnmgaa
open Go.ChangeShapes Go.WideShapes Go.ChangeAt Go.RowKit
def Bytes8 (bs : List Nat) : Prop := ∀ b ∈ bs, b < 256
theorem Bytes8.at_ {bs : List Nat} (h : Bytes8 bs) (k : Nat) : bs.getD k 0 < 256 := by
  rcases Nat.lt_or_ge k bs.length with hk | hk
  · simp only [List.getD_eq_getElem?_getD, List.getElem?_eq_getElem hk, Option.getD_some]
    exact h _ (List.getElem_mem _)
  · simp [List.getElem?_eq_none hk]
theorem crcReg_next (bs : List Nat) (r : Nat) (k : Nat) (h : k < bs.length) : crcReg r (bs.take (k + 1)) = crcPut 8 (crcReg r (bs.take k)) (bs.getD k 0) := by
  rw [List.take_succ_eq_append_getElem h, crcReg_append]
  simp [h, crcReg]
theorem more_any (s : Nat) (bs : List Nat) (A : Option Addr) (c : Nat) (w : World) (hs : s < 4294967296) (h1 : Sl w w.heap.size A (bs.map byteV)) (h8 : Bytes8 bs) (n1 : bs.length ≤ 1000000000) :
    Calls Try.prog 80 #[.int .u32 (s : Int), .slice A bs.length c] w fun e w' => e = .returned (.int .u32 (crcMore s bs : Nat)) ∧ w' = w := by
  have hn := not_lt hs
  have en := crcNot hs
  obtain ⟨s0, hs0⟩ : ∃ z, z = 4294967295 ^^^ s := ⟨_, rfl⟩
  rw [← hs0] at en hn
  go_enter Try.func80, Try.ntmps80
  go_wp2
  go_loopw [5, 12] (fun rv i wr => ∃ k r1 : Nat, k ≤ bs.length ∧ i = .int .i64 k ∧ rv = .int .u32 (r1 : Int) ∧ r1 < 4294967296 ∧ Hid (r1 = crcReg s0 (bs.take k)) ∧ wr = w) (fun _ i _ => bs.length - (intOf i).toNat)
  case atStart => exact ⟨0, s0, by omega, rfl, by rw [hs0], hn, Lib.hid rfl, rfl⟩
  case round =>
    obtain ⟨k, r1, hk, rfl, rfl, hr1, he, rfl⟩ := hrel
    by_cases hlt : k < bs.length
    · obtain ⟨b1, o1, rfl, l1, q1⟩ := h1.at_ (by simpa using (by omega : 0 < bs.length))
      have hx := h8.at_ k
      have hg := crcReg_next bs s0 k hlt
      obtain ⟨x, hxe⟩ : ∃ x, bs.getD k 0 = x := ⟨_, rfl⟩
      have ck : wr.cell? ⟨b1, o1 + k, none⟩ = some (.int .u8 (x : Int)) := q1 k _ (by rw [← hxe]; simp [hlt, byteV])
      rw [hxe] at hx hg
      rw [← he.out] at hg
      have Hg := Lib.hid hg
      clear hg hxe q1 he
      have hp := crcPut_lt (k := 8) (x := x) hr1
      have i1 : (0 : Int) ≤ (k : Int) := by omega
      have i2 : (k : Int) < (bs.length : Int) := by omega
      go_wp2_with (go_at_call 81; refine (put_any _ _ _ hr1 hx).mono ?_; rintro e w' ⟨rfl, rfl⟩)
      refine ⟨⟨k + 1, crcPut 8 r1 x, by omega, by go_num, rfl, hp, Lib.hid Hg.out.symm, trivial⟩, by simp [intOf]; omega⟩
    · have : k = bs.length := by omega
      subst this
      have e2 := crcNot hr1
      have e3 : crcMore s bs = 4294967295 ^^^ r1 := by
        unfold crcMore
        rw [he.out, List.take_length, hs0]
      clear he
      go_wp2
      go_ret
      exact ⟨by rw [e3]; rfl, rfl⟩
theorem rmore_any (s : Nat) (bs : List Nat) (A : Option Addr) (c : Nat) (w : World) (hs : s < 4294967296) (h1 : Sl w w.heap.size A (bs.map byteV)) (h8 : Bytes8 bs) (n1 : bs.length ≤ 1000000000) :
    Calls Try.prog 64 #[.int .u32 (s : Int), .slice A bs.length c] w fun e w' => e = .returned (.int .u32 (crcMore s bs : Nat)) ∧ w' = w := by
  have hn := not_lt hs
  have en := crcNot hs
  obtain ⟨s0, hs0⟩ : ∃ z, z = 4294967295 ^^^ s := ⟨_, rfl⟩
  rw [← hs0] at en hn
  go_enter Try.func64, Try.ntmps64
  go_wp2
  go_loopw [5, 6] (fun rv i wr => ∃ k r1 : Nat, k ≤ bs.length ∧ i = .int .i64 k ∧ rv = .int .u32 (r1 : Int) ∧ r1 < 4294967296 ∧ Hid (r1 = crcReg s0 (bs.take k)) ∧ wr = w) (fun _ i _ => bs.length - (intOf i).toNat)
  case atStart => exact ⟨0, s0, by omega, rfl, by rw [hs0], hn, Lib.hid rfl, rfl⟩
  case round =>
    obtain ⟨k, r1, hk, rfl, rfl, hr1, he, rfl⟩ := hrel
    by_cases hlt : k < bs.length
    · obtain ⟨b1, o1, rfl, l1, q1⟩ := h1.at_ (by simpa using (by omega : 0 < bs.length))
      have hx := h8.at_ k
      have hg := crcReg_next bs s0 k hlt
      obtain ⟨x, hxe⟩ : ∃ x, bs.getD k 0 = x := ⟨_, rfl⟩
      have ck : wr.cell? ⟨b1, o1 + k, none⟩ = some (.int .u8 (x : Int)) := q1 k _ (by rw [← hxe]; simp [hlt, byteV])
      rw [hxe] at hx hg
      rw [← he.out] at hg
      have Hg := Lib.hid hg
      clear hg hxe q1 he
      have hp := crcPut_lt (k := 8) (x := x) hr1
      have i1 : (0 : Int) ≤ (k : Int) := by omega
      have i2 : (k : Int) < (bs.length : Int) := by omega
      go_wp2
      go_loopw [5, 7, 8] (fun rv xv i w2 => ∃ j r2 x2 : Nat, j ≤ 8 ∧ i = .int .i64 j ∧ rv = .int .u32 (r2 : Int) ∧ xv = .int .u32 (x2 : Int) ∧ r2 < 4294967296 ∧ x2 < 256 ∧ crcPut (8 - j) r2 x2 = crcPut 8 r1 x ∧ w2 = wr) (fun _ _ i _ => 8 - (intOf i).toNat)
      case atStart => exact ⟨0, r1, x, by omega, rfl, rfl, by simp, hr1, hx, rfl, rfl⟩
      case round =>
        obtain ⟨j, r2, x2, hj, rfl, rfl, rfl, hr2, hx2, he, rfl⟩ := hrel
        have hs2 := crcStep_lt (x := x2) hr2
        by_cases hlt2 : j < 8
        · have hb := crcBit hr2 (x := x2) (by omega)
          by_cases ht : (r2 ^^^ x2) &&& 1 = 1
          · rw [decide_eq_true ht] at hb
            have Hgo := Lib.hid (crcPut_go hlt2 he)
            have Hon := Lib.hid (crcStep_on ht)
            clear he ht
            go_wp2
            refine ⟨⟨j + 1, crcStep r2 x2, x2 / 2, by omega, by go_num, ?_, by simp, hs2, by omega, Hgo.out, trivial⟩, by simp [intOf]; omega⟩
            rw [crcTurn hr2, Hon.out]
          · rw [decide_eq_false ht] at hb
            have Hgo := Lib.hid (crcPut_go hlt2 he)
            have Hon := Lib.hid (crcStep_off ht)
            clear he ht
            go_wp2
            refine ⟨⟨j + 1, crcStep r2 x2, x2 / 2, by omega, by go_num, ?_, by simp, hs2, by omega, Hgo.out, trivial⟩, by simp [intOf]; omega⟩
            rw [Hon.out]
            simp
        · have : j = 8 := by omega
          subst this
          have he' : r2 = crcPut 8 r1 x := he
          subst he'
          clear he
          go_wp2
          refine ⟨⟨k + 1, crcPut 8 r1 x, by omega, by go_num, rfl, hp, Lib.hid Hg.out.symm, trivial⟩, by simp [intOf]; omega⟩
    · have : k = bs.length := by omega
      subst this
      have e2 := crcNot hr1
      have e3 : crcMore s bs = 4294967295 ^^^ r1 := by
        unfold crcMore
        rw [he.out, List.take_length, hs0]
      clear he
      go_wp2
      go_ret
      exact ⟨by rw [e3]; rfl, rfl⟩
theorem crcOf_any (bs : List Nat) (A : Option Addr) (c : Nat) (w : World) (h1 : Sl w w.heap.size A (bs.map byteV)) (h8 : Bytes8 bs) (n1 : bs.length ≤ 1000000000) :
    Calls Try.prog 79 #[.slice A bs.length c] w fun e w' => e = .returned (.int .u32 (crcMore 0 bs : Nat)) ∧ w' = w := by
  go_enter Try.func79, Try.ntmps79
  go_wp2_with (go_at_call 80; refine (more_any 0 bs A c _ (by omega) h1 h8 n1).mono ?_; rintro e w' ⟨rfl, rfl⟩)
  go_ret
  exact ⟨rfl, rfl⟩
theorem rcrcOf_any (bs : List Nat) (A : Option Addr) (c : Nat) (w : World) (h1 : Sl w w.heap.size A (bs.map byteV)) (h8 : Bytes8 bs) (n1 : bs.length ≤ 1000000000) :
    Calls Try.prog 49 #[.slice A bs.length c] w fun e w' => e = .returned (.int .u32 (crcMore 0 bs : Nat)) ∧ w' = w := by
  go_enter Try.func49, Try.ntmps49
  go_wp2_with (go_at_call 64; refine (rmore_any 0 bs A c _ (by omega) h1 h8 n1).mono ?_; rintro e w' ⟨rfl, rfl⟩)
  go_ret
  exact ⟨rfl, rfl⟩
end Go.Proofs.Ytdfojhkpfbnmgaa
namespace Go.Proofs.Ytdfojhkpfbnmgaa
end Go.Proofs.Ytdfojhkpfbnmgaa
namespace Go.Proofs.Ytdfojhkpfbnmgaa
def beB (v n : Nat) : List Nat := (List.range n).map fun i => v / 2 ^ (8 * (n - 1 - i)) % 256
def numB (bs : List Nat) : Nat := bs.foldl (fun a b => a * 256 + b) 0
theorem beB_len (v n : Nat) : (beB v n).length = n := by simp [beB]
theorem beB_8 (v n : Nat) : Bytes8 (beB v n) := by
  intro b hb
  obtain ⟨i, _, rfl⟩ := List.mem_map.1 hb
  omega
theorem beB_snoc (v n k : Nat) (hk : k < n) : (beB v n).take (k + 1) = (beB v n).take k ++ [v / 2 ^ (8 * (n - 1 - k)) % 256] := by
  rw [List.take_succ_eq_append_getElem (by rw [beB_len]; exact hk)]
  simp [beB]
theorem beB_2 (v : Nat) : beB v 2 = [v / 256 % 256, v % 256] := by simp [beB, List.range_succ]
theorem beB_3 (v : Nat) : beB v 3 = [v / 65536 % 256, v / 256 % 256, v % 256] := by simp [beB, List.range_succ]
theorem beB_4 (v : Nat) : beB v 4 = [v / 16777216 % 256, v / 65536 % 256, v / 256 % 256, v % 256] := by simp [beB, List.range_succ]
theorem num_be4 {v : Nat} (h : v < 4294967296) : numB (beB v 4) = v := by rw [beB_4]; simp [numB]; omega
theorem be_num4 {bs : List Nat} (hl : bs.length = 4) (h : Bytes8 bs) : beB (numB bs) 4 = bs ∧ numB bs < 4294967296 := by
  match bs, hl with
  | [a, b, c, d], _ =>
    have ha := h a (by simp)
    have hb := h b (by simp)
    have hc := h c (by simp)
    have hd := h d (by simp)
    rw [beB_4]
    simp [numB]
    omega
theorem numB_snoc (bs : List Nat) (b : Nat) : numB (bs ++ [b]) = numB bs * 256 + b := by simp [numB]
theorem numB_next {bs : List Nat} {k : Nat} (hk : k < bs.length) : numB (bs.take (k + 1)) = numB (bs.take k) * 256 + bs[k] := by
  rw [List.take_succ_eq_append_getElem hk, numB_snoc]
theorem numB_lt : ∀ {k : Nat} {bs : List Nat}, Bytes8 bs → k ≤ bs.length → numB (bs.take k) < 256 ^ k
  | 0, _, _, _ => by simp [numB]
  | k + 1, bs, h, hk => by
    have ih := numB_lt (k := k) h (by omega)
    have hb := h bs[k] (List.getElem_mem _)
    rw [numB_next (by omega), Nat.pow_succ]
    omega
end Go.Proofs.Ytdfojhkpfbnmgaa
namespace Go.Proofs.Ytdfojhkpfbnmgaa
open Go.ChangeShapes Go.WideShapes Go.ChangeAt Go.RowKit
theorem Sl.held {W w' : World} {A : Option Addr} {vs : List Value} (h : Sl W W.heap.size A vs) (hz : W.heap.size ≤ w'.heap.size) (hc : ∀ b o, b < W.heap.size → w'.cell? ⟨b, o, none⟩ = W.cell? ⟨b, o, none⟩) : Sl w' w'.heap.size A vs := by
  rcases h with h | ⟨b, off, e, hlt, hq⟩
  · exact Or.inl h
  · exact Or.inr ⟨b, off, e, by omega, fun k v hv => (hc b (off + k) hlt).trans (hq k v hv)⟩
end Go.Proofs.Ytdfojhkpfbnmgaa
namespace Go.Proofs.Ytdfojhkpfbnmgaa
open Go.ChangeShapes Go.WideShapes Go.ChangeAt Go.RowKit
attribute [local go_sem ↓] Go.wp_at_zero Go.wp_at_succ
end Go.Proofs.Ytdfojhkpfbnmgaa
namespace Go.Proofs.Ytdfojhkpfbnmgaa
open Go.ChangeShapes Go.WideShapes Go.ChangeAt Go.RowKit
attribute [local go_sem ↓] Go.wp_at_zero Go.wp_at_succ
theorem ret_boolT {a b : Bool} (h : a = b) : Ending.returned (.bool a) = Ending.returned (.bool b) := by rw [h]
theorem ret_nat {a b : Nat} (h : a = b) : Ending.returned (.int .i64 (a : Int)) = Ending.returned (.int .i64 (b : Int)) := by rw [h]
theorem rnum_any (v : Nat) (n : Nat) (base : Nat) (sv : Value) (m : Nat) (xs : List Nat) (w : World) (hv : v < 4294967296) (hn1 : 1 ≤ n) (hn : n ≤ 4) (hown : w.ownsRow base 5 1 sv m (xs.map byteV)) (hbase : base ≤ w.heap.size) (hm : m ≤ 1000) :
    Calls Try.prog 48 #[sv, .int .i64 v, .int .i64 n] w fun e w' =>
      ∃ sv', e = .returned sv' ∧ w'.ownsRow base 5 1 sv' (m + n) ((xs ++ beB v n).map byteV) ∧ Below base w w' ∧ (sv'.ownBlock = sv.ownBlock ∨ ∃ g, sv'.ownBlock = some g ∧ w.heap.size ≤ g) := by
  obtain ⟨i0, hi, hz0, hz1, hz2⟩ := info_parts infoByte
  go_enter Try.func48, Try.ntmps48
  go_wp2
  go_loopw [0, 7] (fun s i wr => ∃ k : Nat, k ≤ n ∧ i = .int .i64 ((n : Int) - 1 - (k : Int)) ∧ wr.ownsRow base 5 1 s (m + k) ((xs ++ (beB v n).take k).map byteV) ∧ Below base w wr ∧ (s.ownBlock = sv.ownBlock ∨ ∃ g, s.ownBlock = some g ∧ w.heap.size ≤ g)) (fun _ i _ => ((intOf i) + 1).toNat)
  case atStart => exact ⟨0, Nat.zero_le _, by go_num, by simpa using hown, Below.refl _ _, Or.inl rfl⟩
  case round =>
    obtain ⟨k, hk, rfl, ho, hB, hblk⟩ := hrel
    by_cases hlt : k < n
    · obtain ⟨q, hq⟩ : ∃ q : Nat, n - 1 - k = q := ⟨_, rfl⟩
      have e1 : (n : Int) - 1 - (k : Int) = (q : Int) := by omega
      rw [e1]
      have hsn := beB_snoc v n k hlt
      rw [hq] at hsn
      have hq3 : q ≤ 3 := by omega
      have HQ := Lib.hid hq
      have HS := Lib.hid hsn
      have hbs := hB.size
      clear hq hsn e1
      have q0 : (0 : Int) ≤ (q : Int) := by omega
      have q1 : (q : Int) ≤ 3 := by omega
      go_wp2_with (at_builtin; refine wpList_app _ rfl (.tmp 14) (.tmp 20) _ rfl base 5 i0 _ 1 1 Try.underlying46 hi hz0 hz1 hz2 rfl (by decide) _ _ _ rfl (ho.alloc _) _ 1 _ [byteV (v / 2 ^ (8 * q) % 256)] rfl (Rd.one (by simp [byteV])) (by simp [byteV, Value.oneCell']) (by unfold maxLen; omega) (by omega) (by simp; omega) ?_; intro s2 w2 ho2 hg2 hv2)
      go_roundw
      case rel => exact ⟨k + 1, by omega, by have := HQ.out; congr 1; omega, by rw [HS.out]; simpa [Nat.add_assoc] using ho2, (hB.alloc (by omega) _).trans (below_app (Nat.le_refl _) (by simp; omega) (ho.alloc _) hg2), by
        rcases hv2 with h2 | h2
        · rw [h2]
          exact hblk
        · right
          exact ⟨_, h2, by simp; omega⟩⟩
      case measure => simp [intOf]
    · have hkn : k = n := by omega
      have e0 : (n : Int) - 1 - (k : Int) = -1 := by omega
      rw [e0]
      clear e0
      go_wp2
      go_ret
      exact ⟨_, rfl, by rw [hkn, List.take_of_length_le (by rw [beB_len]; omega)] at ho; exact ho, hB, hblk⟩
theorem numB_bd {bs : List Nat} (h8 : Bytes8 bs) (hl : bs.length ≤ 4) (k : Nat) (hk : k ≤ bs.length) : numB (bs.take k) < 4294967296 := by
  have h := numB_lt (k := k) h8 hk
  have : 256 ^ k ≤ 256 ^ 4 := Nat.pow_le_pow_right (by omega) (by omega)
  omega
theorem orByte (a b : Nat) (ha : a < 4294967296) (hb : b < 256) : bits .or .i64 ((a : Int) * 256) (b : Int) = ((a * 256 + b : Nat) : Int) := by
  have e : (a : Int) * 256 = ((a * 256 : Nat) : Int) := by omega
  have h : a * 256 ||| b = a * 256 + b := by
    have := Nat.shiftLeft_add_eq_or_of_lt (i := 8) (b := b) (by omega) a
    simp only [Nat.shiftLeft_eq, Nat.reducePow] at this
    exact this.symm
  rw [e]
  show IntKind.i64.wrap ((BitVec.ofInt 64 ((a * 256 : Nat) : Int) ||| BitVec.ofInt 64 (b : Int)).toNat : Int) = _
  rw [BitVec.toNat_or, BitVec.ofInt_natCast, BitVec.ofInt_natCast, BitVec.toNat_ofNat, BitVec.toNat_ofNat, Nat.mod_eq_of_lt (by omega), Nat.mod_eq_of_lt (by omega), h]
  exact IntWalk.i64_in _ (by omega)
theorem number_any (bs : List Nat) (A : Option Addr) (c : Nat) (w : World) (h1 : Sl w w.heap.size A (bs.map byteV)) (h8 : Bytes8 bs) (n1 : bs.length ≤ 4) :
    Calls Try.prog 77 #[.slice A bs.length c] w fun e w' => e = .returned (.int .i64 (numB bs)) ∧ w = w' := by
  go_enter Try.func77, Try.ntmps77
  go_wp2
  go_loop [3, 8] (fun v i => ∃ k : Nat, k ≤ bs.length ∧ i = .int .i64 k ∧ v = .int .i64 (numB (bs.take k))) (fun _ i => bs.length - (intOf i).toNat)
  case atStart => exact ⟨0, Nat.zero_le _, rfl, rfl⟩
  case round =>
    obtain ⟨k, hk, rfl, rfl⟩ := hrel
    by_cases hlt : k < bs.length
    · obtain ⟨b1, o1, rfl, l1, q1⟩ := h1.at_ (by simpa using (by omega : 0 < bs.length))
      have hb := h8 bs[k] (List.getElem_mem hlt)
      have hr := numB_next hlt
      have hnb := numB_bd h8 n1 k hk
      obtain ⟨x, hx⟩ : ∃ x, bs[k] = x := ⟨_, rfl⟩
      rw [hx] at hb hr
      have x1 : w.cell? ⟨b1, o1 + k, none⟩ = some (.int .u8 (x : Int)) := by rw [← hx]; exact q1 k _ (by simp [hlt, byteV])
      obtain ⟨N, hN⟩ : ∃ N, numB (bs.take k) = N := ⟨_, rfl⟩
      rw [hN] at hnb hr ⊢
      have HR := Lib.hid hr
      have ho := orByte N x hnb hb
      have s1 : (0 : Int) ≤ (N : Int) := by omega
      have s2 : (N : Int) < 4294967296 := by omega
      have s3 : (x : Int) < 256 := by omega
      have i0 : (0 : Int) ≤ (k : Int) := by omega
      have i1 : (k : Int) < (bs.length : Int) := by omega
      clear q1 hx hN hr
      go_wp2
      go_round
      case rel =>
        exact ⟨k + 1, by omega, by go_num, by rw [HR.out]; exact congrArg (Value.int .i64) (by omega)⟩
      case measure => simp [intOf]; omega
    · go_wp2
      have hkk : k = bs.length := by omega
      subst hkk
      go_ret
      exact ⟨ret_nat (by rw [List.take_length]), rfl⟩
def withinT (x hi : Int) : Bool := decide (0 ≤ x) && decide (x ≤ hi)
theorem withint_any (x hi : Int) (w : World) :
    Calls Try.prog 78 #[.int .i64 x, .int .i64 hi] w fun e w' => e = .returned (.bool (withinT x hi)) ∧ w = w' := by
  unfold withinT
  by_cases h1 : 0 ≤ x <;> by_cases h2 : x ≤ hi
  all_goals
    go_enter Try.func78, Try.ntmps78
    go_wp2
    go_ret
    exact ⟨by simp [h1, h2], rfl⟩
def mayDataB (n : Int) : Bool := decide (24 ≤ n) && decide (n ≤ 64)
theorem mayData_any (x : Int) (w : World) :
    Calls Try.prog 72 #[.int .i64 x] w fun e w' => e = .returned (.bool (mayDataB x)) ∧ w = w' := by
  unfold mayDataB
  by_cases h1 : 24 ≤ x <;> by_cases h2 : x ≤ 64
  all_goals
    go_enter Try.func72, Try.ntmps72
    go_wp2
    go_ret
    exact ⟨by simp [h1, h2], rfl⟩
def tagB (k p s e : Int) : Bool := !decide (k < 1) && (!decide (3 < k) && (!((k == 3) && (p != 0)) && (withinT p 65535 && (withinT s 4294967295 && withinT e 16777215))))
theorem tagB_iff {k p s e : Int} : tagB k p s e = true ↔ 1 ≤ k ∧ k ≤ 3 ∧ (k = 3 → p = 0) ∧ 0 ≤ p ∧ p ≤ 65535 ∧ 0 ≤ s ∧ s ≤ 4294967295 ∧ 0 ≤ e ∧ e ≤ 16777215 := by
  unfold tagB withinT
  simp only [Bool.and_eq_true, Bool.not_eq_true', decide_eq_true_eq, decide_eq_false_iff_not, Bool.and_eq_false_iff, beq_eq_false_iff_ne, bne_eq_false_iff_eq, ne_eq]
  omega
theorem tagB_no {k p s e : Int} (h : ¬ (1 ≤ k ∧ k ≤ 3 ∧ (k = 3 → p = 0) ∧ 0 ≤ p ∧ p ≤ 65535 ∧ 0 ≤ s ∧ s ≤ 4294967295 ∧ 0 ≤ e ∧ e ≤ 16777215)) : tagB k p s e = false := by
  rw [← Bool.not_eq_true, tagB_iff]
  exact h
theorem tmay_any (k p s e : Int) (w : World) :
    Calls Try.prog 75 #[.agg #[.int .i64 k, .int .i64 p, .int .i64 s, .int .i64 e]] w fun e' w' => e' = .returned (.bool (tagB k p s e)) ∧ Below w.heap.size w w' := by
  go_enter Try.func75, Try.ntmps75
  rcases (by cases hq : (decide (k < 1) : Bool) <;> simp : (decide (k < 1) : Bool) = true ∨ (decide (k < 1) : Bool) = false) with t1 | t1
  · have hr : tagB k p s e = false := by unfold tagB; rw [t1]; simp
    have HR := Lib.hid hr
    clear hr
    go_wp2_with (go_at_call 78; refine (withint_any _ _ _).mono ?_; rintro e' w' ⟨rfl, rfl⟩)
    go_ret
    exact ⟨ret_boolT HR.out.symm, ((Below.refl _ _).alloc (Nat.le_refl _) _)⟩
  · rcases (by cases hq : (decide (3 < k) : Bool) <;> simp : (decide (3 < k) : Bool) = true ∨ (decide (3 < k) : Bool) = false) with t2 | t2
    · have hr : tagB k p s e = false := by unfold tagB; rw [t1, t2]; simp
      have HR := Lib.hid hr
      clear hr
      go_wp2_with (go_at_call 78; refine (withint_any _ _ _).mono ?_; rintro e' w' ⟨rfl, rfl⟩)
      go_ret
      exact ⟨ret_boolT HR.out.symm, ((Below.refl _ _).alloc (Nat.le_refl _) _)⟩
    · rcases (by cases hq : (k == 3 : Bool) <;> simp : (k == 3) = true ∨ (k == 3) = false) with t3 | t3
      · rcases (by cases hq : (p != 0 : Bool) <;> simp : (p != 0 : Bool) = true ∨ (p != 0 : Bool) = false) with t4 | t4
        · have hr : tagB k p s e = false := by unfold tagB; rw [t1, t2, t3, t4]; simp
          have HR := Lib.hid hr
          clear hr
          go_wp2_with (go_at_call 78; refine (withint_any _ _ _).mono ?_; rintro e' w' ⟨rfl, rfl⟩)
          go_ret
          exact ⟨ret_boolT HR.out.symm, ((Below.refl _ _).alloc (Nat.le_refl _) _)⟩
        · rcases (by cases hq : (withinT p 65535 : Bool) <;> simp : (withinT p 65535 : Bool) = false ∨ (withinT p 65535 : Bool) = true) with t5 | t5
          · have hr : tagB k p s e = false := by unfold tagB; rw [t1, t2, t3, t4, t5]; simp
            have HR := Lib.hid hr
            clear hr
            go_wp2_with (go_at_call 78; refine (withint_any _ _ _).mono ?_; rintro e' w' ⟨rfl, rfl⟩)
            go_ret
            exact ⟨ret_boolT HR.out.symm, ((Below.refl _ _).alloc (Nat.le_refl _) _)⟩
          · rcases (by cases hq : (withinT s 4294967295 : Bool) <;> simp : (withinT s 4294967295 : Bool) = false ∨ (withinT s 4294967295 : Bool) = true) with t6 | t6
            · have hr : tagB k p s e = false := by unfold tagB; rw [t1, t2, t3, t4, t5, t6]; simp
              have HR := Lib.hid hr
              clear hr
              go_wp2_with (go_at_call 78; refine (withint_any _ _ _).mono ?_; rintro e' w' ⟨rfl, rfl⟩)
              go_ret
              exact ⟨ret_boolT HR.out.symm, ((Below.refl _ _).alloc (Nat.le_refl _) _)⟩
            · rcases (by cases hq : (withinT e 16777215 : Bool) <;> simp : (withinT e 16777215 : Bool) = false ∨ (withinT e 16777215 : Bool) = true) with t7 | t7
              · have hr : tagB k p s e = false := by unfold tagB; rw [t1, t2, t3, t4, t5, t6, t7]; simp
                have HR := Lib.hid hr
                clear hr
                go_wp2_with (go_at_call 78; refine (withint_any _ _ _).mono ?_; rintro e' w' ⟨rfl, rfl⟩)
                go_ret
                exact ⟨ret_boolT HR.out.symm, ((Below.refl _ _).alloc (Nat.le_refl _) _)⟩
              · have hr : tagB k p s e = true := by unfold tagB; rw [t1, t2, t3, t4, t5, t6, t7]; simp
                have HR := Lib.hid hr
                clear hr
                go_wp2_with (go_at_call 78; refine (withint_any _ _ _).mono ?_; rintro e' w' ⟨rfl, rfl⟩)
                go_ret
                exact ⟨ret_boolT HR.out.symm, ((Below.refl _ _).alloc (Nat.le_refl _) _)⟩
      · rcases (by cases hq : (withinT p 65535 : Bool) <;> simp : (withinT p 65535 : Bool) = false ∨ (withinT p 65535 : Bool) = true) with t4 | t4
        · have hr : tagB k p s e = false := by unfold tagB; rw [t1, t2, t3, t4]; simp
          have HR := Lib.hid hr
          clear hr
          go_wp2_with (go_at_call 78; refine (withint_any _ _ _).mono ?_; rintro e' w' ⟨rfl, rfl⟩)
          go_ret
          exact ⟨ret_boolT HR.out.symm, ((Below.refl _ _).alloc (Nat.le_refl _) _)⟩
        · rcases (by cases hq : (withinT s 4294967295 : Bool) <;> simp : (withinT s 4294967295 : Bool) = false ∨ (withinT s 4294967295 : Bool) = true) with t5 | t5
          · have hr : tagB k p s e = false := by unfold tagB; rw [t1, t2, t3, t4, t5]; simp
            have HR := Lib.hid hr
            clear hr
            go_wp2_with (go_at_call 78; refine (withint_any _ _ _).mono ?_; rintro e' w' ⟨rfl, rfl⟩)
            go_ret
            exact ⟨ret_boolT HR.out.symm, ((Below.refl _ _).alloc (Nat.le_refl _) _)⟩
          · rcases (by cases hq : (withinT e 16777215 : Bool) <;> simp : (withinT e 16777215 : Bool) = false ∨ (withinT e 16777215 : Bool) = true) with t6 | t6
            · have hr : tagB k p s e = false := by unfold tagB; rw [t1, t2, t3, t4, t5, t6]; simp
              have HR := Lib.hid hr
              clear hr
              go_wp2_with (go_at_call 78; refine (withint_any _ _ _).mono ?_; rintro e' w' ⟨rfl, rfl⟩)
              go_ret
              exact ⟨ret_boolT HR.out.symm, ((Below.refl _ _).alloc (Nat.le_refl _) _)⟩
            · have hr : tagB k p s e = true := by unfold tagB; rw [t1, t2, t3, t4, t5, t6]; simp
              have HR := Lib.hid hr
              clear hr
              go_wp2_with (go_at_call 78; refine (withint_any _ _ _).mono ?_; rintro e' w' ⟨rfl, rfl⟩)
              go_ret
              exact ⟨ret_boolT HR.out.symm, ((Below.refl _ _).alloc (Nat.le_refl _) _)⟩
theorem rtmay_any (k p s e : Int) (w : World) :
    Calls Try.prog 47 #[.agg #[.int .i64 k, .int .i64 p, .int .i64 s, .int .i64 e]] w fun e' w' => e' = .returned (.bool (tagB k p s e)) ∧ Below w.heap.size w w' := by
  go_enter Try.func47, Try.ntmps47
  rcases (by cases hq : (decide (1 ≤ k) : Bool) <;> simp : (decide (1 ≤ k) : Bool) = false ∨ (decide (1 ≤ k) : Bool) = true) with t1 | t1
  · have hr : tagB k p s e = false := tagB_no (by
      simp only [decide_eq_true_eq, decide_eq_false_iff_not, beq_iff_eq, beq_eq_false_iff_ne, bne_iff_ne, bne_eq_false_iff_eq, ne_eq, Decidable.not_not] at t1
      omega)
    have HR := Lib.hid hr
    clear hr
    go_wp2
    go_ret
    exact ⟨ret_boolT HR.out.symm, ((Below.refl _ _).alloc (Nat.le_refl _) _)⟩
  · rcases (by cases hq : (decide (k ≤ 3) : Bool) <;> simp : (decide (k ≤ 3) : Bool) = false ∨ (decide (k ≤ 3) : Bool) = true) with t2 | t2
    · have hr : tagB k p s e = false := tagB_no (by
        simp only [decide_eq_true_eq, decide_eq_false_iff_not, beq_iff_eq, beq_eq_false_iff_ne, bne_iff_ne, bne_eq_false_iff_eq, ne_eq, Decidable.not_not] at t1
        simp only [decide_eq_true_eq, decide_eq_false_iff_not, beq_iff_eq, beq_eq_false_iff_ne, bne_iff_ne, bne_eq_false_iff_eq, ne_eq, Decidable.not_not] at t2
        omega)
      have HR := Lib.hid hr
      clear hr
      go_wp2
      go_ret
      exact ⟨ret_boolT HR.out.symm, ((Below.refl _ _).alloc (Nat.le_refl _) _)⟩
    · rcases (by cases hq : (decide (0 ≤ p) : Bool) <;> simp : (decide (0 ≤ p) : Bool) = false ∨ (decide (0 ≤ p) : Bool) = true) with t3 | t3
      · have hr : tagB k p s e = false := tagB_no (by
          simp only [decide_eq_true_eq, decide_eq_false_iff_not, beq_iff_eq, beq_eq_false_iff_ne, bne_iff_ne, bne_eq_false_iff_eq, ne_eq, Decidable.not_not] at t1
          simp only [decide_eq_true_eq, decide_eq_false_iff_not, beq_iff_eq, beq_eq_false_iff_ne, bne_iff_ne, bne_eq_false_iff_eq, ne_eq, Decidable.not_not] at t2
          simp only [decide_eq_true_eq, decide_eq_false_iff_not, beq_iff_eq, beq_eq_false_iff_ne, bne_iff_ne, bne_eq_false_iff_eq, ne_eq, Decidable.not_not] at t3
          omega)
        have HR := Lib.hid hr
        clear hr
        go_wp2
        go_ret
        exact ⟨ret_boolT HR.out.symm, ((Below.refl _ _).alloc (Nat.le_refl _) _)⟩
      · rcases (by cases hq : (decide (p ≤ 65535) : Bool) <;> simp : (decide (p ≤ 65535) : Bool) = false ∨ (decide (p ≤ 65535) : Bool) = true) with t4 | t4
        · have hr : tagB k p s e = false := tagB_no (by
            simp only [decide_eq_true_eq, decide_eq_false_iff_not, beq_iff_eq, beq_eq_false_iff_ne, bne_iff_ne, bne_eq_false_iff_eq, ne_eq, Decidable.not_not] at t1
            simp only [decide_eq_true_eq, decide_eq_false_iff_not, beq_iff_eq, beq_eq_false_iff_ne, bne_iff_ne, bne_eq_false_iff_eq, ne_eq, Decidable.not_not] at t2
            simp only [decide_eq_true_eq, decide_eq_false_iff_not, beq_iff_eq, beq_eq_false_iff_ne, bne_iff_ne, bne_eq_false_iff_eq, ne_eq, Decidable.not_not] at t3
            simp only [decide_eq_true_eq, decide_eq_false_iff_not, beq_iff_eq, beq_eq_false_iff_ne, bne_iff_ne, bne_eq_false_iff_eq, ne_eq, Decidable.not_not] at t4
            omega)
          have HR := Lib.hid hr
          clear hr
          go_wp2
          go_ret
          exact ⟨ret_boolT HR.out.symm, ((Below.refl _ _).alloc (Nat.le_refl _) _)⟩
        · rcases (by cases hq : (k != 3 : Bool) <;> simp : (k != 3) = true ∨ (k != 3) = false) with t5 | t5
          · rcases (by cases hq : (decide (0 ≤ s) : Bool) <;> simp : (decide (0 ≤ s) : Bool) = false ∨ (decide (0 ≤ s) : Bool) = true) with t6 | t6
            · have hr : tagB k p s e = false := tagB_no (by
                simp only [decide_eq_true_eq, decide_eq_false_iff_not, beq_iff_eq, beq_eq_false_iff_ne, bne_iff_ne, bne_eq_false_iff_eq, ne_eq, Decidable.not_not] at t1
                simp only [decide_eq_true_eq, decide_eq_false_iff_not, beq_iff_eq, beq_eq_false_iff_ne, bne_iff_ne, bne_eq_false_iff_eq, ne_eq, Decidable.not_not] at t2
                simp only [decide_eq_true_eq, decide_eq_false_iff_not, beq_iff_eq, beq_eq_false_iff_ne, bne_iff_ne, bne_eq_false_iff_eq, ne_eq, Decidable.not_not] at t3
                simp only [decide_eq_true_eq, decide_eq_false_iff_not, beq_iff_eq, beq_eq_false_iff_ne, bne_iff_ne, bne_eq_false_iff_eq, ne_eq, Decidable.not_not] at t4
                simp only [decide_eq_true_eq, decide_eq_false_iff_not, beq_iff_eq, beq_eq_false_iff_ne, bne_iff_ne, bne_eq_false_iff_eq, ne_eq, Decidable.not_not] at t5
                simp only [decide_eq_true_eq, decide_eq_false_iff_not, beq_iff_eq, beq_eq_false_iff_ne, bne_iff_ne, bne_eq_false_iff_eq, ne_eq, Decidable.not_not] at t6
                omega)
              have HR := Lib.hid hr
              clear hr
              go_wp2
              go_ret
              exact ⟨ret_boolT HR.out.symm, ((Below.refl _ _).alloc (Nat.le_refl _) _)⟩
            · rcases (by cases hq : (decide (s ≤ 4294967295) : Bool) <;> simp : (decide (s ≤ 4294967295) : Bool) = false ∨ (decide (s ≤ 4294967295) : Bool) = true) with t7 | t7
              · have hr : tagB k p s e = false := tagB_no (by
                  simp only [decide_eq_true_eq, decide_eq_false_iff_not, beq_iff_eq, beq_eq_false_iff_ne, bne_iff_ne, bne_eq_false_iff_eq, ne_eq, Decidable.not_not] at t1
                  simp only [decide_eq_true_eq, decide_eq_false_iff_not, beq_iff_eq, beq_eq_false_iff_ne, bne_iff_ne, bne_eq_false_iff_eq, ne_eq, Decidable.not_not] at t2
                  simp only [decide_eq_true_eq, decide_eq_false_iff_not, beq_iff_eq, beq_eq_false_iff_ne, bne_iff_ne, bne_eq_false_iff_eq, ne_eq, Decidable.not_not] at t3
                  simp only [decide_eq_true_eq, decide_eq_false_iff_not, beq_iff_eq, beq_eq_false_iff_ne, bne_iff_ne, bne_eq_false_iff_eq, ne_eq, Decidable.not_not] at t4
                  simp only [decide_eq_true_eq, decide_eq_false_iff_not, beq_iff_eq, beq_eq_false_iff_ne, bne_iff_ne, bne_eq_false_iff_eq, ne_eq, Decidable.not_not] at t5
                  simp only [decide_eq_true_eq, decide_eq_false_iff_not, beq_iff_eq, beq_eq_false_iff_ne, bne_iff_ne, bne_eq_false_iff_eq, ne_eq, Decidable.not_not] at t6
                  simp only [decide_eq_true_eq, decide_eq_false_iff_not, beq_iff_eq, beq_eq_false_iff_ne, bne_iff_ne, bne_eq_false_iff_eq, ne_eq, Decidable.not_not] at t7
                  omega)
                have HR := Lib.hid hr
                clear hr
                go_wp2
                go_ret
                exact ⟨ret_boolT HR.out.symm, ((Below.refl _ _).alloc (Nat.le_refl _) _)⟩
              · rcases (by cases hq : (decide (0 ≤ e) : Bool) <;> simp : (decide (0 ≤ e) : Bool) = false ∨ (decide (0 ≤ e) : Bool) = true) with t8 | t8
                · have hr : tagB k p s e = false := tagB_no (by
                    simp only [decide_eq_true_eq, decide_eq_false_iff_not, beq_iff_eq, beq_eq_false_iff_ne, bne_iff_ne, bne_eq_false_iff_eq, ne_eq, Decidable.not_not] at t1
                    simp only [decide_eq_true_eq, decide_eq_false_iff_not, beq_iff_eq, beq_eq_false_iff_ne, bne_iff_ne, bne_eq_false_iff_eq, ne_eq, Decidable.not_not] at t2
                    simp only [decide_eq_true_eq, decide_eq_false_iff_not, beq_iff_eq, beq_eq_false_iff_ne, bne_iff_ne, bne_eq_false_iff_eq, ne_eq, Decidable.not_not] at t3
                    simp only [decide_eq_true_eq, decide_eq_false_iff_not, beq_iff_eq, beq_eq_false_iff_ne, bne_iff_ne, bne_eq_false_iff_eq, ne_eq, Decidable.not_not] at t4
                    simp only [decide_eq_true_eq, decide_eq_false_iff_not, beq_iff_eq, beq_eq_false_iff_ne, bne_iff_ne, bne_eq_false_iff_eq, ne_eq, Decidable.not_not] at t5
                    simp only [decide_eq_true_eq, decide_eq_false_iff_not, beq_iff_eq, beq_eq_false_iff_ne, bne_iff_ne, bne_eq_false_iff_eq, ne_eq, Decidable.not_not] at t6
                    simp only [decide_eq_true_eq, decide_eq_false_iff_not, beq_iff_eq, beq_eq_false_iff_ne, bne_iff_ne, bne_eq_false_iff_eq, ne_eq, Decidable.not_not] at t7
                    simp only [decide_eq_true_eq, decide_eq_false_iff_not, beq_iff_eq, beq_eq_false_iff_ne, bne_iff_ne, bne_eq_false_iff_eq, ne_eq, Decidable.not_not] at t8
                    omega)
                  have HR := Lib.hid hr
                  clear hr
                  go_wp2
                  go_ret
                  exact ⟨ret_boolT HR.out.symm, ((Below.refl _ _).alloc (Nat.le_refl _) _)⟩
                · rcases (by cases hq : (decide (e ≤ 16777215) : Bool) <;> simp : (decide (e ≤ 16777215) : Bool) = false ∨ (decide (e ≤ 16777215) : Bool) = true) with t9 | t9
                  · have hr : tagB k p s e = false := tagB_no (by
                      simp only [decide_eq_true_eq, decide_eq_false_iff_not, beq_iff_eq, beq_eq_false_iff_ne, bne_iff_ne, bne_eq_false_iff_eq, ne_eq, Decidable.not_not] at t1
                      simp only [decide_eq_true_eq, decide_eq_false_iff_not, beq_iff_eq, beq_eq_false_iff_ne, bne_iff_ne, bne_eq_false_iff_eq, ne_eq, Decidable.not_not] at t2
                      simp only [decide_eq_true_eq, decide_eq_false_iff_not, beq_iff_eq, beq_eq_false_iff_ne, bne_iff_ne, bne_eq_false_iff_eq, ne_eq, Decidable.not_not] at t3
                      simp only [decide_eq_true_eq, decide_eq_false_iff_not, beq_iff_eq, beq_eq_false_iff_ne, bne_iff_ne, bne_eq_false_iff_eq, ne_eq, Decidable.not_not] at t4
                      simp only [decide_eq_true_eq, decide_eq_false_iff_not, beq_iff_eq, beq_eq_false_iff_ne, bne_iff_ne, bne_eq_false_iff_eq, ne_eq, Decidable.not_not] at t5
                      simp only [decide_eq_true_eq, decide_eq_false_iff_not, beq_iff_eq, beq_eq_false_iff_ne, bne_iff_ne, bne_eq_false_iff_eq, ne_eq, Decidable.not_not] at t6
                      simp only [decide_eq_true_eq, decide_eq_false_iff_not, beq_iff_eq, beq_eq_false_iff_ne, bne_iff_ne, bne_eq_false_iff_eq, ne_eq, Decidable.not_not] at t7
                      simp only [decide_eq_true_eq, decide_eq_false_iff_not, beq_iff_eq, beq_eq_false_iff_ne, bne_iff_ne, bne_eq_false_iff_eq, ne_eq, Decidable.not_not] at t8
                      simp only [decide_eq_true_eq, decide_eq_false_iff_not, beq_iff_eq, beq_eq_false_iff_ne, bne_iff_ne, bne_eq_false_iff_eq, ne_eq, Decidable.not_not] at t9
                      omega)
                    have HR := Lib.hid hr
                    clear hr
                    go_wp2
                    go_ret
                    exact ⟨ret_boolT HR.out.symm, ((Below.refl _ _).alloc (Nat.le_refl _) _)⟩
                  · have hr : tagB k p s e = true := tagB_iff.2 (by
                      simp only [decide_eq_true_eq, decide_eq_false_iff_not, beq_iff_eq, beq_eq_false_iff_ne, bne_iff_ne, bne_eq_false_iff_eq, ne_eq, Decidable.not_not] at t1
                      simp only [decide_eq_true_eq, decide_eq_false_iff_not, beq_iff_eq, beq_eq_false_iff_ne, bne_iff_ne, bne_eq_false_iff_eq, ne_eq, Decidable.not_not] at t2
                      simp only [decide_eq_true_eq, decide_eq_false_iff_not, beq_iff_eq, beq_eq_false_iff_ne, bne_iff_ne, bne_eq_false_iff_eq, ne_eq, Decidable.not_not] at t3
                      simp only [decide_eq_true_eq, decide_eq_false_iff_not, beq_iff_eq, beq_eq_false_iff_ne, bne_iff_ne, bne_eq_false_iff_eq, ne_eq, Decidable.not_not] at t4
                      simp only [decide_eq_true_eq, decide_eq_false_iff_not, beq_iff_eq, beq_eq_false_iff_ne, bne_iff_ne, bne_eq_false_iff_eq, ne_eq, Decidable.not_not] at t5
                      simp only [decide_eq_true_eq, decide_eq_false_iff_not, beq_iff_eq, beq_eq_false_iff_ne, bne_iff_ne, bne_eq_false_iff_eq, ne_eq, Decidable.not_not] at t6
                      simp only [decide_eq_true_eq, decide_eq_false_iff_not, beq_iff_eq, beq_eq_false_iff_ne, bne_iff_ne, bne_eq_false_iff_eq, ne_eq, Decidable.not_not] at t7
                      simp only [decide_eq_true_eq, decide_eq_false_iff_not, beq_iff_eq, beq_eq_false_iff_ne, bne_iff_ne, bne_eq_false_iff_eq, ne_eq, Decidable.not_not] at t8
                      simp only [decide_eq_true_eq, decide_eq_false_iff_not, beq_iff_eq, beq_eq_false_iff_ne, bne_iff_ne, bne_eq_false_iff_eq, ne_eq, Decidable.not_not] at t9
                      omega)
                    have HR := Lib.hid hr
                    clear hr
                    go_wp2
                    go_ret
                    exact ⟨ret_boolT HR.out.symm, ((Below.refl _ _).alloc (Nat.le_refl _) _)⟩
          · rcases (by cases hq : (p == 0 : Bool) <;> simp : (p == 0 : Bool) = false ∨ (p == 0 : Bool) = true) with t6 | t6
            · have hr : tagB k p s e = false := tagB_no (by
                simp only [decide_eq_true_eq, decide_eq_false_iff_not, beq_iff_eq, beq_eq_false_iff_ne, bne_iff_ne, bne_eq_false_iff_eq, ne_eq, Decidable.not_not] at t1
                simp only [decide_eq_true_eq, decide_eq_false_iff_not, beq_iff_eq, beq_eq_false_iff_ne, bne_iff_ne, bne_eq_false_iff_eq, ne_eq, Decidable.not_not] at t2
                simp only [decide_eq_true_eq, decide_eq_false_iff_not, beq_iff_eq, beq_eq_false_iff_ne, bne_iff_ne, bne_eq_false_iff_eq, ne_eq, Decidable.not_not] at t3
                simp only [decide_eq_true_eq, decide_eq_false_iff_not, beq_iff_eq, beq_eq_false_iff_ne, bne_iff_ne, bne_eq_false_iff_eq, ne_eq, Decidable.not_not] at t4
                simp only [decide_eq_true_eq, decide_eq_false_iff_not, beq_iff_eq, beq_eq_false_iff_ne, bne_iff_ne, bne_eq_false_iff_eq, ne_eq, Decidable.not_not] at t5
                simp only [decide_eq_true_eq, decide_eq_false_iff_not, beq_iff_eq, beq_eq_false_iff_ne, bne_iff_ne, bne_eq_false_iff_eq, ne_eq, Decidable.not_not] at t6
                omega)
              have HR := Lib.hid hr
              clear hr
              go_wp2
              go_ret
              exact ⟨ret_boolT HR.out.symm, ((Below.refl _ _).alloc (Nat.le_refl _) _)⟩
            · rcases (by cases hq : (decide (0 ≤ s) : Bool) <;> simp : (decide (0 ≤ s) : Bool) = false ∨ (decide (0 ≤ s) : Bool) = true) with t7 | t7
              · have hr : tagB k p s e = false := tagB_no (by
                  simp only [decide_eq_true_eq, decide_eq_false_iff_not, beq_iff_eq, beq_eq_false_iff_ne, bne_iff_ne, bne_eq_false_iff_eq, ne_eq, Decidable.not_not] at t1
                  simp only [decide_eq_true_eq, decide_eq_false_iff_not, beq_iff_eq, beq_eq_false_iff_ne, bne_iff_ne, bne_eq_false_iff_eq, ne_eq, Decidable.not_not] at t2
                  simp only [decide_eq_true_eq, decide_eq_false_iff_not, beq_iff_eq, beq_eq_false_iff_ne, bne_iff_ne, bne_eq_false_iff_eq, ne_eq, Decidable.not_not] at t3
                  simp only [decide_eq_true_eq, decide_eq_false_iff_not, beq_iff_eq, beq_eq_false_iff_ne, bne_iff_ne, bne_eq_false_iff_eq, ne_eq, Decidable.not_not] at t4
                  simp only [decide_eq_true_eq, decide_eq_false_iff_not, beq_iff_eq, beq_eq_false_iff_ne, bne_iff_ne, bne_eq_false_iff_eq, ne_eq, Decidable.not_not] at t5
                  simp only [decide_eq_true_eq, decide_eq_false_iff_not, beq_iff_eq, beq_eq_false_iff_ne, bne_iff_ne, bne_eq_false_iff_eq, ne_eq, Decidable.not_not] at t6
                  simp only [decide_eq_true_eq, decide_eq_false_iff_not, beq_iff_eq, beq_eq_false_iff_ne, bne_iff_ne, bne_eq_false_iff_eq, ne_eq, Decidable.not_not] at t7
                  omega)
                have HR := Lib.hid hr
                clear hr
                go_wp2
                go_ret
                exact ⟨ret_boolT HR.out.symm, ((Below.refl _ _).alloc (Nat.le_refl _) _)⟩
              · rcases (by cases hq : (decide (s ≤ 4294967295) : Bool) <;> simp : (decide (s ≤ 4294967295) : Bool) = false ∨ (decide (s ≤ 4294967295) : Bool) = true) with t8 | t8
                · have hr : tagB k p s e = false := tagB_no (by
                    simp only [decide_eq_true_eq, decide_eq_false_iff_not, beq_iff_eq, beq_eq_false_iff_ne, bne_iff_ne, bne_eq_false_iff_eq, ne_eq, Decidable.not_not] at t1
                    simp only [decide_eq_true_eq, decide_eq_false_iff_not, beq_iff_eq, beq_eq_false_iff_ne, bne_iff_ne, bne_eq_false_iff_eq, ne_eq, Decidable.not_not] at t2
                    simp only [decide_eq_true_eq, decide_eq_false_iff_not, beq_iff_eq, beq_eq_false_iff_ne, bne_iff_ne, bne_eq_false_iff_eq, ne_eq, Decidable.not_not] at t3
                    simp only [decide_eq_true_eq, decide_eq_false_iff_not, beq_iff_eq, beq_eq_false_iff_ne, bne_iff_ne, bne_eq_false_iff_eq, ne_eq, Decidable.not_not] at t4
                    simp only [decide_eq_true_eq, decide_eq_false_iff_not, beq_iff_eq, beq_eq_false_iff_ne, bne_iff_ne, bne_eq_false_iff_eq, ne_eq, Decidable.not_not] at t5
                    simp only [decide_eq_true_eq, decide_eq_false_iff_not, beq_iff_eq, beq_eq_false_iff_ne, bne_iff_ne, bne_eq_false_iff_eq, ne_eq, Decidable.not_not] at t6
                    simp only [decide_eq_true_eq, decide_eq_false_iff_not, beq_iff_eq, beq_eq_false_iff_ne, bne_iff_ne, bne_eq_false_iff_eq, ne_eq, Decidable.not_not] at t7
                    simp only [decide_eq_true_eq, decide_eq_false_iff_not, beq_iff_eq, beq_eq_false_iff_ne, bne_iff_ne, bne_eq_false_iff_eq, ne_eq, Decidable.not_not] at t8
                    omega)
                  have HR := Lib.hid hr
                  clear hr
                  go_wp2
                  go_ret
                  exact ⟨ret_boolT HR.out.symm, ((Below.refl _ _).alloc (Nat.le_refl _) _)⟩
                · rcases (by cases hq : (decide (0 ≤ e) : Bool) <;> simp : (decide (0 ≤ e) : Bool) = false ∨ (decide (0 ≤ e) : Bool) = true) with t9 | t9
                  · have hr : tagB k p s e = false := tagB_no (by
                      simp only [decide_eq_true_eq, decide_eq_false_iff_not, beq_iff_eq, beq_eq_false_iff_ne, bne_iff_ne, bne_eq_false_iff_eq, ne_eq, Decidable.not_not] at t1
                      simp only [decide_eq_true_eq, decide_eq_false_iff_not, beq_iff_eq, beq_eq_false_iff_ne, bne_iff_ne, bne_eq_false_iff_eq, ne_eq, Decidable.not_not] at t2
                      simp only [decide_eq_true_eq, decide_eq_false_iff_not, beq_iff_eq, beq_eq_false_iff_ne, bne_iff_ne, bne_eq_false_iff_eq, ne_eq, Decidable.not_not] at t3
                      simp only [decide_eq_true_eq, decide_eq_false_iff_not, beq_iff_eq, beq_eq_false_iff_ne, bne_iff_ne, bne_eq_false_iff_eq, ne_eq, Decidable.not_not] at t4
                      simp only [decide_eq_true_eq, decide_eq_false_iff_not, beq_iff_eq, beq_eq_false_iff_ne, bne_iff_ne, bne_eq_false_iff_eq, ne_eq, Decidable.not_not] at t5
                      simp only [decide_eq_true_eq, decide_eq_false_iff_not, beq_iff_eq, beq_eq_false_iff_ne, bne_iff_ne, bne_eq_false_iff_eq, ne_eq, Decidable.not_not] at t6
                      simp only [decide_eq_true_eq, decide_eq_false_iff_not, beq_iff_eq, beq_eq_false_iff_ne, bne_iff_ne, bne_eq_false_iff_eq, ne_eq, Decidable.not_not] at t7
                      simp only [decide_eq_true_eq, decide_eq_false_iff_not, beq_iff_eq, beq_eq_false_iff_ne, bne_iff_ne, bne_eq_false_iff_eq, ne_eq, Decidable.not_not] at t8
                      simp only [decide_eq_true_eq, decide_eq_false_iff_not, beq_iff_eq, beq_eq_false_iff_ne, bne_iff_ne, bne_eq_false_iff_eq, ne_eq, Decidable.not_not] at t9
                      omega)
                    have HR := Lib.hid hr
                    clear hr
                    go_wp2
                    go_ret
                    exact ⟨ret_boolT HR.out.symm, ((Below.refl _ _).alloc (Nat.le_refl _) _)⟩
                  · rcases (by cases hq : (decide (e ≤ 16777215) : Bool) <;> simp : (decide (e ≤ 16777215) : Bool) = false ∨ (decide (e ≤ 16777215) : Bool) = true) with t10 | t10
                    · have hr : tagB k p s e = false := tagB_no (by
                        simp only [decide_eq_true_eq, decide_eq_false_iff_not, beq_iff_eq, beq_eq_false_iff_ne, bne_iff_ne, bne_eq_false_iff_eq, ne_eq, Decidable.not_not] at t1
                        simp only [decide_eq_true_eq, decide_eq_false_iff_not, beq_iff_eq, beq_eq_false_iff_ne, bne_iff_ne, bne_eq_false_iff_eq, ne_eq, Decidable.not_not] at t2
                        simp only [decide_eq_true_eq, decide_eq_false_iff_not, beq_iff_eq, beq_eq_false_iff_ne, bne_iff_ne, bne_eq_false_iff_eq, ne_eq, Decidable.not_not] at t3
                        simp only [decide_eq_true_eq, decide_eq_false_iff_not, beq_iff_eq, beq_eq_false_iff_ne, bne_iff_ne, bne_eq_false_iff_eq, ne_eq, Decidable.not_not] at t4
                        simp only [decide_eq_true_eq, decide_eq_false_iff_not, beq_iff_eq, beq_eq_false_iff_ne, bne_iff_ne, bne_eq_false_iff_eq, ne_eq, Decidable.not_not] at t5
                        simp only [decide_eq_true_eq, decide_eq_false_iff_not, beq_iff_eq, beq_eq_false_iff_ne, bne_iff_ne, bne_eq_false_iff_eq, ne_eq, Decidable.not_not] at t6
                        simp only [decide_eq_true_eq, decide_eq_false_iff_not, beq_iff_eq, beq_eq_false_iff_ne, bne_iff_ne, bne_eq_false_iff_eq, ne_eq, Decidable.not_not] at t7
                        simp only [decide_eq_true_eq, decide_eq_false_iff_not, beq_iff_eq, beq_eq_false_iff_ne, bne_iff_ne, bne_eq_false_iff_eq, ne_eq, Decidable.not_not] at t8
                        simp only [decide_eq_true_eq, decide_eq_false_iff_not, beq_iff_eq, beq_eq_false_iff_ne, bne_iff_ne, bne_eq_false_iff_eq, ne_eq, Decidable.not_not] at t9
                        simp only [decide_eq_true_eq, decide_eq_false_iff_not, beq_iff_eq, beq_eq_false_iff_ne, bne_iff_ne, bne_eq_false_iff_eq, ne_eq, Decidable.not_not] at t10
                        omega)
                      have HR := Lib.hid hr
                      clear hr
                      go_wp2
                      go_ret
                      exact ⟨ret_boolT HR.out.symm, ((Below.refl _ _).alloc (Nat.le_refl _) _)⟩
                    · have hr : tagB k p s e = true := tagB_iff.2 (by
                        simp only [decide_eq_true_eq, decide_eq_false_iff_not, beq_iff_eq, beq_eq_false_iff_ne, bne_iff_ne, bne_eq_false_iff_eq, ne_eq, Decidable.not_not] at t1
                        simp only [decide_eq_true_eq, decide_eq_false_iff_not, beq_iff_eq, beq_eq_false_iff_ne, bne_iff_ne, bne_eq_false_iff_eq, ne_eq, Decidable.not_not] at t2
                        simp only [decide_eq_true_eq, decide_eq_false_iff_not, beq_iff_eq, beq_eq_false_iff_ne, bne_iff_ne, bne_eq_false_iff_eq, ne_eq, Decidable.not_not] at t3
                        simp only [decide_eq_true_eq, decide_eq_false_iff_not, beq_iff_eq, beq_eq_false_iff_ne, bne_iff_ne, bne_eq_false_iff_eq, ne_eq, Decidable.not_not] at t4
                        simp only [decide_eq_true_eq, decide_eq_false_iff_not, beq_iff_eq, beq_eq_false_iff_ne, bne_iff_ne, bne_eq_false_iff_eq, ne_eq, Decidable.not_not] at t5
                        simp only [decide_eq_true_eq, decide_eq_false_iff_not, beq_iff_eq, beq_eq_false_iff_ne, bne_iff_ne, bne_eq_false_iff_eq, ne_eq, Decidable.not_not] at t6
                        simp only [decide_eq_true_eq, decide_eq_false_iff_not, beq_iff_eq, beq_eq_false_iff_ne, bne_iff_ne, bne_eq_false_iff_eq, ne_eq, Decidable.not_not] at t7
                        simp only [decide_eq_true_eq, decide_eq_false_iff_not, beq_iff_eq, beq_eq_false_iff_ne, bne_iff_ne, bne_eq_false_iff_eq, ne_eq, Decidable.not_not] at t8
                        simp only [decide_eq_true_eq, decide_eq_false_iff_not, beq_iff_eq, beq_eq_false_iff_ne, bne_iff_ne, bne_eq_false_iff_eq, ne_eq, Decidable.not_not] at t9
                        simp only [decide_eq_true_eq, decide_eq_false_iff_not, beq_iff_eq, beq_eq_false_iff_ne, bne_iff_ne, bne_eq_false_iff_eq, ne_eq, Decidable.not_not] at t10
                        omega)
                      have HR := Lib.hid hr
                      clear hr
                      go_wp2
                      go_ret
                      exact ⟨ret_boolT HR.out.symm, ((Below.refl _ _).alloc (Nat.le_refl _) _)⟩
def blankB (bs : List Nat) : Bool := bs.all fun b => b == 255
theorem all_take {p : Nat → Bool} {bs : List Nat} {k : Nat} (hk : k < bs.length) : (bs.take (k + 1)).all p = ((bs.take k).all p && p bs[k]) := by
  rw [List.take_succ_eq_append_getElem hk, List.all_append, List.all_cons, List.all_nil, Bool.and_true]
theorem erased_any (bs : List Nat) (A : Option Addr) (c : Nat) (w : World) (h1 : Sl w w.heap.size A (bs.map byteV)) (h8 : Bytes8 bs) (n1 : bs.length ≤ 1000000) :
    Calls Try.prog 73 #[.slice A bs.length c] w fun e w' => e = .returned (.bool (blankB bs)) ∧ w = w' := by
  go_enter Try.func73, Try.ntmps73
  go_wp2
  go_loop [7] (fun i => ∃ k : Nat, k ≤ bs.length ∧ i = .int .i64 k ∧ Hid ((bs.take k).all (fun b => b == 255) = true)) (fun i => bs.length - (intOf i).toNat)
  case atStart => exact ⟨0, Nat.zero_le _, rfl, Lib.hid (by simp)⟩
  case round =>
    obtain ⟨k, hk, rfl, H0⟩ := hrel
    by_cases hlt : k < bs.length
    · obtain ⟨b1, o1, rfl, l1, q1⟩ := h1.at_ (by simpa using (by omega : 0 < bs.length))
      have hr := all_take (p := fun b => b == 255) hlt
      have hm := List.getElem_mem hlt
      obtain ⟨x, hx⟩ : ∃ x, bs[k] = x := ⟨_, rfl⟩
      rw [hx] at hr hm
      have x1 : w.cell? ⟨b1, o1 + k, none⟩ = some (.int .u8 (x : Int)) := by rw [← hx]; exact q1 k _ (by simp [hlt, byteV])
      have HR := Lib.hid (hr.trans (by rw [H0.out, Bool.true_and]))
      have i0 : (0 : Int) ≤ (k : Int) := by omega
      have i1 : (k : Int) < (bs.length : Int) := by omega
      clear q1 hx hr
      by_cases he : x = 255
      · have t1 : ((x : Int) != 255) = false := by simp; omega
        have hn : (bs.take (k + 1)).all (fun b => b == 255) = true := HR.out.trans (by simpa using he)
        have HN := Lib.hid hn
        clear hn he
        go_wp2
        go_round
        case rel => exact ⟨k + 1, by omega, by go_num, HN⟩
        case measure => simp [intOf]; omega
      · have t1 : ((x : Int) != 255) = true := by simp; omega
        have hf : blankB bs = false := by
          unfold blankB
          rw [List.all_eq_false]
          exact ⟨x, hm, by simpa using he⟩
        have HF := Lib.hid hf
        clear hf he
        go_wp2
        go_ret
        exact ⟨ret_boolT HF.out.symm, rfl⟩
    · go_wp2
      have hkk : k = bs.length := by omega
      subst hkk
      have hr : blankB bs = true := by have := H0.out; rwa [List.take_length] at this
      go_ret
      exact ⟨ret_boolT hr.symm, rfl⟩
end Go.Proofs.Ytdfojhkpfbnmgaa
