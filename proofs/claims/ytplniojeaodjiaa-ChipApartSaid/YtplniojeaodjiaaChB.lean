/- What a chip is asked: hasBlock, Failed, Bad, Wear, Used, On, Ops, Cuts; begin. -/
import Derived.Test.YtplniojeaodjiaaChR
namespace Go.Proofs.Ytplniojeaodjiaa
open Go.ChangeShapes Go.WideShapes Go.ChangeAt Go.RowKit
set_option linter.unusedSimpArgs false
set_option linter.unusedVariables false

def ChS.ask (s : ChS) (a B : Int) (j : Nat) : Int := if inB a B then s.k B j else 0
theorem inB_no {a B : Int} (h : B < 0 ∨ a ≤ B) : inB a B = false := by
  unfold inB
  rcases h with h | h
  · rw [decide_eq_false (by omega : ¬ 0 ≤ B)]; rfl
  · rw [decide_eq_false (by omega : ¬ B < a), Bool.and_false]
theorem inB_yes {a B : Int} (h : 0 ≤ B) (h2 : B < a) : inB a B = true := by simp [inB, h, h2]
theorem inB_out {a B : Int} (h : inB a B = true) : ∃ k : Nat, B = (k : Int) ∧ (k : Int) < a := by
  simp only [inB, Bool.and_eq_true, decide_eq_true_eq] at h
  exact ⟨B.toNat, by omega, by omega⟩
theorem hasBlock_any (m gx gb : Nat) (Af : Option Addr) (nf cf : Nat) (a b c d e : Int) (fs : List Flt) (B : Int) (w : World) (s : ChS) (hC : ChipW w m gx gb Af nf cf a b c d e fs s) : Calls Try.prog 58 #[.pointer (some ⟨m, 0, none⟩), .int .i64 B] w fun e' w' => e' = .returned (.bool (inB a B)) ∧ w = w' := by
  obtain ⟨cx, cb, NX, NB, hNX, hNB, y0, y1, y2, y3, y4, y5, y6, y7, y8, y9, y10, y11, y12, y13, y14, y15, yx, yb, fm, fx, fb⟩ := hC.get
  have hn := hNB.out
  by_cases h1 : B < 0
  · rw [inB_no (Or.inl h1)]
    have h2 : ¬ 0 ≤ B := by omega
    clear yx yb fm fx fb hn
    go_enter Try.func58, Try.ntmps58
    go_wp2_with fail
    go_ret
    exact ⟨rfl, rfl⟩
  · have h2 : 0 ≤ B := by omega
    by_cases h3 : B < (NB : Int)
    · rw [inB_yes h2 (by omega)]
      clear yx yb fm fx fb hn
      go_enter Try.func58, Try.ntmps58
      go_wp2_with fail
      go_ret
      exact ⟨rfl, rfl⟩
    · rw [inB_no (Or.inr (by omega))]
      clear yx yb fm fx fb hn
      go_enter Try.func58, Try.ntmps58
      go_wp2_with fail
      go_ret
      exact ⟨rfl, rfl⟩
theorem hasBlock_b (m gx gb : Nat) (Af : Option Addr) (nf cf : Nat) (a b c d e : Int) (fs : List Flt) (B : Int) (T : Bool) (w : World) (s : ChS) (hC : ChipW w m gx gb Af nf cf a b c d e fs s) (hib : Hid (inB a B = T)) : Calls Try.prog 58 #[.pointer (some ⟨m, 0, none⟩), .int .i64 B] w fun e' w' => e' = .returned (.bool T) ∧ w = w' := by
  have := hasBlock_any m gx gb Af nf cf a b c d e fs B w s hC
  rwa [hib.out] at this
theorem wear_any (m gx gb : Nat) (Af : Option Addr) (nf cf : Nat) (a b c d e : Int) (fs : List Flt) (B : Int) (w : World) (s : ChS) (hC : ChipW w m gx gb Af nf cf a b c d e fs s) : Calls Try.prog 23 #[.pointer (some ⟨m, 0, none⟩), .int .i64 B] w fun e' w' => e' = .returned (.int .i64 (s.ask a B 1)) ∧ w = w' := by
  cases hq : inB a B
  · rw [show s.ask a B 1 = 0 by unfold ChS.ask; rw [hq]; rfl]
    have hib := Lib.hid hq
    clear hq
    go_enter Try.func23, Try.ntmps23
    go_wp2_with (go_at_call 58; ((with_reducible refine (hasBlock_b _ _ _ _ _ _ _ _ _ _ _ _ _ _ _ _ hC hib).mono ?_); rintro e' wN ⟨rfl, rfl⟩; skip))
    go_ret
    exact ⟨rfl, rfl⟩
  · have hib := Lib.hid hq
    rw [show s.ask a B 1 = s.k B 1 by unfold ChS.ask; rw [hq]; rfl]
    obtain ⟨k, rfl, hk⟩ := inB_out hq
    obtain ⟨cx, cb, NX, NB, hNX, hNB, y0, y1, y2, y3, y4, y5, y6, y7, y8, y9, y10, y11, y12, y13, y14, y15, yx, yb, fm, fx, fb⟩ := hC.get
    have cz := yb (3 * k + 1) (by have := hNB.out; omega)
    have i0 : (0 : Int) ≤ (k : Int) := by omega
    have i1 : (k : Int) < (NB : Int) := by have := hNB.out; omega
    obtain ⟨z, hz⟩ : ∃ z, s.K.getD (3 * k + 1) 0 = z := ⟨_, rfl⟩
    have HZ : Hid (s.k (k : Int) 1 = z) := Lib.hid (by unfold ChS.k; rw [Int.toNat_natCast]; exact hz)
    rw [hz, Nat.mul_comm] at cz
    (try rw [Nat.add_zero] at cz)
    clear yx yb fm fx fb hq hz
    go_enter Try.func23, Try.ntmps23
    go_wp2_with (go_at_call 58; ((with_reducible refine (hasBlock_b _ _ _ _ _ _ _ _ _ _ _ _ _ _ _ _ hC hib).mono ?_); rintro e' wN ⟨rfl, rfl⟩; skip))
    go_ret
    rw [HZ.out]
    exact ⟨rfl, rfl⟩
theorem used_any (m gx gb : Nat) (Af : Option Addr) (nf cf : Nat) (a b c d e : Int) (fs : List Flt) (B : Int) (w : World) (s : ChS) (hC : ChipW w m gx gb Af nf cf a b c d e fs s) : Calls Try.prog 21 #[.pointer (some ⟨m, 0, none⟩), .int .i64 B] w fun e' w' => e' = .returned (.int .i64 (s.ask a B 0)) ∧ w = w' := by
  cases hq : inB a B
  · rw [show s.ask a B 0 = 0 by unfold ChS.ask; rw [hq]; rfl]
    have hib := Lib.hid hq
    clear hq
    go_enter Try.func21, Try.ntmps21
    go_wp2_with (go_at_call 58; ((with_reducible refine (hasBlock_b _ _ _ _ _ _ _ _ _ _ _ _ _ _ _ _ hC hib).mono ?_); rintro e' wN ⟨rfl, rfl⟩; skip))
    go_ret
    exact ⟨rfl, rfl⟩
  · have hib := Lib.hid hq
    rw [show s.ask a B 0 = s.k B 0 by unfold ChS.ask; rw [hq]; rfl]
    obtain ⟨k, rfl, hk⟩ := inB_out hq
    obtain ⟨cx, cb, NX, NB, hNX, hNB, y0, y1, y2, y3, y4, y5, y6, y7, y8, y9, y10, y11, y12, y13, y14, y15, yx, yb, fm, fx, fb⟩ := hC.get
    have cz := yb (3 * k + 0) (by have := hNB.out; omega)
    have i0 : (0 : Int) ≤ (k : Int) := by omega
    have i1 : (k : Int) < (NB : Int) := by have := hNB.out; omega
    obtain ⟨z, hz⟩ : ∃ z, s.K.getD (3 * k + 0) 0 = z := ⟨_, rfl⟩
    have HZ : Hid (s.k (k : Int) 0 = z) := Lib.hid (by unfold ChS.k; rw [Int.toNat_natCast]; exact hz)
    rw [hz, Nat.mul_comm] at cz
    (try rw [Nat.add_zero] at cz)
    clear yx yb fm fx fb hq hz
    go_enter Try.func21, Try.ntmps21
    go_wp2_with (go_at_call 58; ((with_reducible refine (hasBlock_b _ _ _ _ _ _ _ _ _ _ _ _ _ _ _ _ hC hib).mono ?_); rintro e' wN ⟨rfl, rfl⟩; skip))
    go_ret
    rw [HZ.out]
    exact ⟨rfl, rfl⟩
theorem on_any (m gx gb : Nat) (Af : Option Addr) (nf cf : Nat) (a b c d e : Int) (fs : List Flt) (w : World) (s : ChS) (hC : ChipW w m gx gb Af nf cf a b c d e fs s) : Calls Try.prog 25 #[.pointer (some ⟨m, 0, none⟩)] w fun e' w' => e' = .returned (.bool s.on) ∧ w = w' := by
  obtain ⟨cx, cb, NX, NB, hNX, hNB, y0, y1, y2, y3, y4, y5, y6, y7, y8, y9, y10, y11, y12, y13, y14, y15, yx, yb, fm, fx, fb⟩ := hC.get
  clear yx yb fm fx fb
  go_enter Try.func25, Try.ntmps25
  go_wp2_with fail
  go_ret
  exact ⟨rfl, rfl⟩
theorem ops_any (m gx gb : Nat) (Af : Option Addr) (nf cf : Nat) (a b c d e : Int) (fs : List Flt) (w : World) (s : ChS) (hC : ChipW w m gx gb Af nf cf a b c d e fs s) : Calls Try.prog 26 #[.pointer (some ⟨m, 0, none⟩)] w fun e' w' => e' = .returned (.int .i64 s.ops) ∧ w = w' := by
  obtain ⟨cx, cb, NX, NB, hNX, hNB, y0, y1, y2, y3, y4, y5, y6, y7, y8, y9, y10, y11, y12, y13, y14, y15, yx, yb, fm, fx, fb⟩ := hC.get
  clear yx yb fm fx fb
  go_enter Try.func26, Try.ntmps26
  go_wp2_with fail
  go_ret
  exact ⟨rfl, rfl⟩
theorem cuts_any (m gx gb : Nat) (Af : Option Addr) (nf cf : Nat) (a b c d e : Int) (fs : List Flt) (w : World) (s : ChS) (hC : ChipW w m gx gb Af nf cf a b c d e fs s) : Calls Try.prog 28 #[.pointer (some ⟨m, 0, none⟩)] w fun e' w' => e' = .returned (.int .i64 s.cuts) ∧ w = w' := by
  obtain ⟨cx, cb, NX, NB, hNX, hNB, y0, y1, y2, y3, y4, y5, y6, y7, y8, y9, y10, y11, y12, y13, y14, y15, yx, yb, fm, fx, fb⟩ := hC.get
  clear yx yb fm fx fb
  go_enter Try.func28, Try.ntmps28
  go_wp2_with fail
  go_ret
  exact ⟨rfl, rfl⟩
theorem fails_b (fs : List Flt) (n : Nat) (A : Option Addr) (c : Nat) (b d : Int) (w : World) (h : SlF w w.heap.size A fs) (n1 : n ≤ 1000000) (hn : fs.length = n) :
    Calls Try.prog 60 #[.slice A n c, .int .i64 b, .int .i64 d] w fun e w' => e = .returned (.bool (failsB fs b d)) ∧ Below w.heap.size w w' := by
  subst hn
  exact Fails_any fs A c b d w h n1
theorem bad_b (fs : List Flt) (n : Nat) (A : Option Addr) (c : Nat) (b : Int) (w : World) (h : SlF w w.heap.size A fs) (n1 : n ≤ 1000000) (hn : fs.length = n) :
    Calls Try.prog 61 #[.slice A n c, .int .i64 b] w fun e w' => e = .returned (.bool (badB fs b)) ∧ Below w.heap.size w w' := by
  subst hn
  exact Bad_any fs A c b w h n1
theorem chip_nf {w : World} {m gx gb : Nat} {Af : Option Addr} {nf cf : Nat} {a b c d e : Int} {fs : List Flt} {s : ChS} (h : ChipW w m gx gb Af nf cf a b c d e fs s) : nf ≤ 8 := by
  have := (planMay_bd h.may).2.1
  rw [h.nf] at this
  exact this
theorem bad_any (m gx gb : Nat) (Af : Option Addr) (nf cf : Nat) (a b c d e : Int) (fs : List Flt) (B : Int) (w : World) (s : ChS) (hC : ChipW w m gx gb Af nf cf a b c d e fs s) : Calls Try.prog 30 #[.pointer (some ⟨m, 0, none⟩), .int .i64 B] w fun e' w' => e' = .returned (.bool (badB fs B)) ∧ Below w.heap.size w w' := by
  obtain ⟨cx, cb, NX, NB, hNX, hNB, y0, y1, y2, y3, y4, y5, y6, y7, y8, y9, y10, y11, y12, y13, y14, y15, yx, yb, fm, fx, fb⟩ := hC.get
  have hn8 := chip_nf hC
  have HF := Lib.hid hC.nf
  have hS := hC.flt.sl
  clear yx yb fm fx fb
  go_enter Try.func30, Try.ntmps30
  go_wp2_with (go_at_call 61; ((with_reducible refine (bad_b _ _ _ _ _ _ hS (by omega) HF.out).mono ?_); rintro e' wN ⟨rfl, hb⟩; skip))
  go_ret
  exact ⟨rfl, hb⟩
theorem undrew {w w' : World} (h : Below w.drew.heap.size w.drew w') : Below w.heap.size w w' := ⟨h.os, h.tape, h.output, h.size, h.block⟩
theorem failed_any (m gx gb : Nat) (Af : Option Addr) (nf cf : Nat) (a b c d e : Int) (fs : List Flt) (B : Int) (w : World) (s : ChS) (hC : ChipW w m gx gb Af nf cf a b c d e fs s) : Calls Try.prog 29 #[.pointer (some ⟨m, 0, none⟩), .int .i64 B] w fun e' w' => e' = .returned (.bool (failedB a fs s B)) ∧ Below w.heap.size w w' := by
  unfold failedB
  cases hq : inB a B
  · have hib := Lib.hid hq
    clear hq
    go_enter Try.func29, Try.ntmps29
    go_wp2_with (go_at_call 58; ((with_reducible refine (hasBlock_b _ _ _ _ _ _ _ _ _ _ _ _ _ _ _ _ hC hib).mono ?_); rintro e' wN ⟨rfl, rfl⟩; skip))
    go_ret
    exact ⟨rfl, Below.refl _ _⟩
  · have hib := Lib.hid hq
    obtain ⟨k, rfl, hk⟩ := inB_out hq
    obtain ⟨cx, cb, NX, NB, hNX, hNB, y0, y1, y2, y3, y4, y5, y6, y7, y8, y9, y10, y11, y12, y13, y14, y15, yx, yb, fm, fx, fb⟩ := hC.get
    have hn8 := chip_nf hC
    have hl := hC.lt
    have HF := Lib.hid hC.nf
    have hS := hC.flt.sl
    have hSd : SlF w.drew w.drew.heap.size Af fs := hS
    have cz := yb (3 * k + 2) (by have := hNB.out; omega)
    have i0 : (0 : Int) ≤ (k : Int) := by omega
    have i1 : (k : Int) < (NB : Int) := by have := hNB.out; omega
    obtain ⟨z, hz⟩ : ∃ z, s.K.getD (3 * k + 2) 0 = z := ⟨_, rfl⟩
    have HZ : Hid (s.k (k : Int) 2 = z) := Lib.hid (by unfold ChS.k; rw [Int.toNat_natCast]; exact hz)
    rw [hz, Nat.mul_comm] at cz
    clear yx yb fm fx fb hq hz y0 y1 y2 y3 y4 y6 y8 y9 y10 y11 y12 y13 y14 y15
    go_enter Try.func29, Try.ntmps29
    go_upto_region 3 with (go_at_call 58; ((with_reducible refine (hasBlock_b _ _ _ _ _ _ _ _ _ _ _ _ _ _ _ _ hC hib).mono ?_); rintro e' wN ⟨rfl, rfl⟩; skip))
    refine wp_region_noPanic ?_
    refine wp_region_held_drew (S := (fun w' => w'.cell? ⟨m, 5, none⟩ = some (.slice Af nf cf) ∧ w'.cell? ⟨m, 7, none⟩ = some (.slice (some ⟨gb, 0, none⟩) NB cb) ∧ w'.cell? ⟨gb, k * 3 + 2, none⟩ = some (.int .i64 z))) (by kernel_rfl) ?_ (fun hHeld => ?_)
    · (first | exact ⟨y5, y7, cz⟩ | assumption)
    refine wpAnyH_take (i := 0) (oi := { dst := some 13, op := Op.move (Operand.tmp 0), type := 27, pos := "chip.go:244", after := #[], guard := none }) (v := ?_) rfl (by kernel_rfl) (by kernel_rfl) (by kernel_rfl) (fun _ _ _ h => h) (Or.inl ⟨by rfl, ?_⟩) (by assumption) ?_
    rotate_left
    · (intro wS hSw; (try dsimp only at hSw); go_simp; (try with_reducible rfl))
    try simp only [Act.put, List.setIfInBounds_toArray, List.set_cons_zero, List.set_cons_succ]
    refine wpAnyH_take (i := 1) (oi := { dst := some 14, op := Op.nilCheck (Operand.tmp 13), type := 0, pos := "chip.go:244", after := #[{ on := 0, ground := Ground.data }], guard := none }) (v := ?_) rfl (by kernel_rfl) (by kernel_rfl) (by kernel_rfl) (fun _ _ _ h => h) (Or.inl ⟨by rfl, ?_⟩) (by assumption) ?_
    rotate_left
    · (intro wS hSw; (try dsimp only at hSw); go_simp; (try with_reducible rfl))
    try simp only [Act.put, List.setIfInBounds_toArray, List.set_cons_zero, List.set_cons_succ]
    refine wpAnyH_take (i := 2) (oi := { dst := some 15, op := Op.fieldAddr 71 (Operand.tmp 14) 1, type := 0, pos := "chip.go:244", after := #[{ on := 1, ground := Ground.data }], guard := none }) (v := ?_) rfl (by kernel_rfl) (by kernel_rfl) (by kernel_rfl) (fun _ _ _ h => h) (Or.inl ⟨by rfl, ?_⟩) (by assumption) ?_
    rotate_left
    · (intro wS hSw; (try dsimp only at hSw); go_simp; (try with_reducible rfl))
    try simp only [Act.put, List.setIfInBounds_toArray, List.set_cons_zero, List.set_cons_succ]
    refine wpAnyH_take (i := 3) (oi := { dst := some 16, op := Op.load 24 (Operand.tmp 15), type := 24, pos := "chip.go:244", after := #[{ on := 2, ground := Ground.data }], guard := none }) (v := ?_) rfl (by kernel_rfl) (by kernel_rfl) (by kernel_rfl) (fun _ _ _ h => h) (Or.inl ⟨by rfl, ?_⟩) (by assumption) ?_
    rotate_left
    · (intro wS hSw; (try dsimp only at hSw); go_simp; (try with_reducible rfl))
    try simp only [Act.put, List.setIfInBounds_toArray, List.set_cons_zero, List.set_cons_succ]
    refine wpAnyH_take (i := 4) (oi := { dst := some 17, op := Op.move (Operand.tmp 1), type := 3, pos := "chip.go:244", after := #[], guard := none }) (v := ?_) rfl (by kernel_rfl) (by kernel_rfl) (by kernel_rfl) (fun _ _ _ h => h) (Or.inl ⟨by rfl, ?_⟩) (by assumption) ?_
    rotate_left
    · (intro wS hSw; (try dsimp only at hSw); go_simp; (try with_reducible rfl))
    try simp only [Act.put, List.setIfInBounds_toArray, List.set_cons_zero, List.set_cons_succ]
    refine wpAnyH_take (i := 5) (oi := { dst := some 18, op := Op.move (Operand.tmp 0), type := 27, pos := "chip.go:244", after := #[], guard := none }) (v := ?_) rfl (by kernel_rfl) (by kernel_rfl) (by kernel_rfl) (fun _ _ _ h => h) (Or.inl ⟨by rfl, ?_⟩) (by assumption) ?_
    rotate_left
    · (intro wS hSw; (try dsimp only at hSw); go_simp; (try with_reducible rfl))
    try simp only [Act.put, List.setIfInBounds_toArray, List.set_cons_zero, List.set_cons_succ]
    refine wpAnyH_take (i := 6) (oi := { dst := some 19, op := Op.nilCheck (Operand.tmp 18), type := 0, pos := "chip.go:244", after := #[{ on := 5, ground := Ground.data }], guard := none }) (v := ?_) rfl (by kernel_rfl) (by kernel_rfl) (by kernel_rfl) (fun _ _ _ h => h) (Or.inl ⟨by rfl, ?_⟩) (by assumption) ?_
    rotate_left
    · (intro wS hSw; (try dsimp only at hSw); go_simp; (try with_reducible rfl))
    try simp only [Act.put, List.setIfInBounds_toArray, List.set_cons_zero, List.set_cons_succ]
    refine wpAnyH_take (i := 7) (oi := { dst := some 20, op := Op.fieldAddr 71 (Operand.tmp 19) 3, type := 0, pos := "chip.go:244", after := #[{ on := 6, ground := Ground.data }], guard := none }) (v := ?_) rfl (by kernel_rfl) (by kernel_rfl) (by kernel_rfl) (fun _ _ _ h => h) (Or.inl ⟨by rfl, ?_⟩) (by assumption) ?_
    rotate_left
    · (intro wS hSw; (try dsimp only at hSw); go_simp; (try with_reducible rfl))
    try simp only [Act.put, List.setIfInBounds_toArray, List.set_cons_zero, List.set_cons_succ]
    refine wpAnyH_take (i := 8) (oi := { dst := some 21, op := Op.load 69 (Operand.tmp 20), type := 69, pos := "chip.go:244", after := #[{ on := 7, ground := Ground.data }], guard := none }) (v := ?_) rfl (by kernel_rfl) (by kernel_rfl) (by kernel_rfl) (fun _ _ _ h => h) (Or.inl ⟨by rfl, ?_⟩) (by assumption) ?_
    rotate_left
    · (intro wS hSw; (try dsimp only at hSw); go_simp; (try with_reducible rfl))
    try simp only [Act.put, List.setIfInBounds_toArray, List.set_cons_zero, List.set_cons_succ]
    refine wpAnyH_take (i := 9) (oi := { dst := some 22, op := Op.move (Operand.tmp 1), type := 3, pos := "chip.go:244", after := #[], guard := none }) (v := ?_) rfl (by kernel_rfl) (by kernel_rfl) (by kernel_rfl) (fun _ _ _ h => h) (Or.inl ⟨by rfl, ?_⟩) (by assumption) ?_
    rotate_left
    · (intro wS hSw; (try dsimp only at hSw); go_simp; (try with_reducible rfl))
    try simp only [Act.put, List.setIfInBounds_toArray, List.set_cons_zero, List.set_cons_succ]
    refine wpAnyH_take (i := 10) (oi := { dst := some 23, op := Op.indexAddr 69 (Operand.tmp 21) (Operand.tmp 22), type := 0, pos := "chip.go:244", after := #[{ on := 8, ground := Ground.data }, { on := 9, ground := Ground.data }], guard := none }) (v := ?_) rfl (by kernel_rfl) (by kernel_rfl) (by kernel_rfl) (fun _ _ _ h => h) (Or.inl ⟨by rfl, ?_⟩) (by assumption) ?_
    rotate_left
    · (intro wS hSw; (try dsimp only at hSw); go_simp; (try with_reducible rfl))
    try simp only [Act.put, List.setIfInBounds_toArray, List.set_cons_zero, List.set_cons_succ]
    refine wpAnyH_take (i := 11) (oi := { dst := some 24, op := Op.fieldAddr 85 (Operand.tmp 23) 2, type := 0, pos := "chip.go:244", after := #[{ on := 10, ground := Ground.data }], guard := none }) (v := ?_) rfl (by kernel_rfl) (by kernel_rfl) (by kernel_rfl) (fun _ _ _ h => h) (Or.inl ⟨by rfl, ?_⟩) (by assumption) ?_
    rotate_left
    · (intro wS hSw; (try dsimp only at hSw); go_simp; (try with_reducible rfl))
    try simp only [Act.put, List.setIfInBounds_toArray, List.set_cons_zero, List.set_cons_succ]
    refine wpAnyH_take (i := 12) (oi := { dst := some 25, op := Op.load 3 (Operand.tmp 24), type := 3, pos := "chip.go:244", after := #[{ on := 11, ground := Ground.data }], guard := none }) (v := ?_) rfl (by kernel_rfl) (by kernel_rfl) (by kernel_rfl) (fun _ _ _ h => h) (Or.inl ⟨by rfl, ?_⟩) (by assumption) ?_
    rotate_left
    · (intro wS hSw; (try dsimp only at hSw); go_simp; (try with_reducible rfl))
    try simp only [Act.put, List.setIfInBounds_toArray, List.set_cons_zero, List.set_cons_succ]
    refine wpAnyH_ready (rs := [13]) (by kernel_rfl) (by simp) ?_
    refine AllReadyH.cons (o := { dst := some 26, op := Op.call { callee := Callee.value (Operand.func 60), args := #[Operand.tmp 16, Operand.tmp 17, Operand.tmp 25], argTypes := #[24, 3, 3] }, type := 4, pos := "chip.go:244", after := #[{ on := 3, ground := Ground.data }, { on := 4, ground := Ground.data }, { on := 12, ground := Ground.data }], guard := none }) rfl (fun K hK => ?_) AllReadyH.nil
    go_simp
    (go_at_call 60; ((with_reducible refine (fails_b _ _ _ _ _ _ _ hSd (by omega) HF.out).mono ?_); rintro e' wN ⟨rfl, hb⟩; have hb := undrew hb; have y5 := (hb.cell (p := ⟨m, 5, none⟩) hl.1).trans y5; have y7 := (hb.cell (p := ⟨m, 7, none⟩) hl.1).trans y7; have cz := (hb.cell (p := ⟨gb, k * 3 + 2, none⟩) hl.2.2).trans cz))
    go_wp2_with fail
    refine hK.out _ _ ?_ (fun hNew => ?_)
    · (first | exact ⟨y5, y7, cz⟩ | assumption)
    clear hK K hHeld
    have hHeld := hNew
    clear hNew
    try simp only [Act.put, List.setIfInBounds_toArray, List.set_cons_zero, List.set_cons_succ]
    refine wpAnyH_take (i := 14) (oi := { dst := some 4, op := Op.assign (Operand.tmp 26), type := 4, pos := "chip.go:244", after := #[{ on := 13, ground := Ground.data }, { on := 13, ground := Ground.chain }, { on := 0, ground := Ground.phase }, { on := 1, ground := Ground.phase }, { on := 2, ground := Ground.phase }, { on := 3, ground := Ground.phase }, { on := 4, ground := Ground.phase }, { on := 5, ground := Ground.phase }, { on := 6, ground := Ground.phase }, { on := 7, ground := Ground.phase }, { on := 8, ground := Ground.phase }, { on := 9, ground := Ground.phase }, { on := 10, ground := Ground.phase }, { on := 11, ground := Ground.phase }, { on := 12, ground := Ground.phase }, { on := 13, ground := Ground.phase }], guard := none }) (v := ?_) rfl (by kernel_rfl) (by kernel_rfl) (by kernel_rfl) (fun _ _ _ h => h) (Or.inl ⟨by rfl, ?_⟩) (by assumption) ?_
    rotate_left
    · (intro wS hSw; (try dsimp only at hSw); go_simp; (try with_reducible rfl))
    try simp only [Act.put, List.setIfInBounds_toArray, List.set_cons_zero, List.set_cons_succ]
    refine wpAnyH_done (by kernel_rfl) ?_ _
    refine NoPanic.normal ?_
    go_wp2_with fail
    go_ret
    rw [HZ.out]
    exact ⟨rfl, hb⟩
theorem failed_b (m gx gb : Nat) (Af : Option Addr) (nf cf : Nat) (a b c d e : Int) (fs : List Flt) (B : Int) (T : Bool) (w : World) (s : ChS) (hC : ChipW w m gx gb Af nf cf a b c d e fs s) (ht : Hid (failedB a fs s B = T)) : Calls Try.prog 29 #[.pointer (some ⟨m, 0, none⟩), .int .i64 B] w fun e' w' => e' = .returned (.bool T) ∧ Below w.heap.size w w' := by
  have := failed_any m gx gb Af nf cf a b c d e fs B w s hC
  rwa [ht.out] at this
end Go.Proofs.Ytplniojeaodjiaa
