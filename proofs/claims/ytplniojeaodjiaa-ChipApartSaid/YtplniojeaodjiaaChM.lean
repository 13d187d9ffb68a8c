/- wipe and Erase of a chip. -/
import Derived.Test.YtplniojeaodjiaaChJ
namespace Go.Proofs.Ytplniojeaodjiaa
open Go.ChangeShapes Go.WideShapes Go.ChangeAt Go.RowKit
set_option linter.unusedSimpArgs false
set_option linter.unusedVariables false

theorem setX_chip {w : World} {m gx gb : Nat} {Af : Option Addr} {nf cf : Nat} {a b c d e : Int} {fs : List Flt} {s : ChS} (hC : ChipW w m gx gb Af nf cf a b c d e fs s) {i : Nat} (hi : i < s.X.length) (v : Nat) : ChipW (w.setCell ⟨gx, i, none⟩ (byteV v)) m gx gb Af nf cf a b c d e fs { s with X := s.X.set i v } ∧ Tch (chB m gx gb) w (w.setCell ⟨gx, i, none⟩ (byteV v)) := by
  obtain ⟨⟨cx, cb, NX, NB, hX, hN, hcx, hB⟩, rX, rK, rF, n1, n2, n3, l1, l2, l3, l4⟩ := hC
  refine ⟨⟨⟨cx, cb, NX, NB, by simp; exact hX, hN, hcx, hB.far n1 _⟩, ?_, rK.far (fun e => n3 e.symm) _, ?_, n1, n2, n3, by simp; exact l1, l2, l3, l4⟩, Tch.set w ⟨gx, i, none⟩ (byteV v) chB_x⟩
  · have := rX.set_ (i := i) (by simpa using hi) (byteV v)
    rw [← List.map_set] at this
    exact this
  · have hT := Tch.setm w gx i (byteV v)
    exact rF.keep hT.size (fun g hg g1 g2 g3 => hT.far g hg g2)
theorem putX_get {X : List Nat} {F : Nat} {vs : List Nat} (h : F + vs.length ≤ X.length) (j : Nat) : (putX X F vs)[j]? = if j < F then X[j]? else if j < F + vs.length then vs[j - F]? else X[j]? := by
  have ht : (X.take F).length = F := by rw [List.length_take]; omega
  unfold putX
  by_cases h1 : j < F
  · rw [if_pos h1, List.append_assoc, List.getElem?_append_left (by rw [ht]; exact h1), List.getElem?_take_of_lt h1]
  · rw [if_neg h1]
    by_cases h2 : j < F + vs.length
    · rw [if_pos h2, List.append_assoc, List.getElem?_append_right (by rw [ht]; omega), ht, List.getElem?_append_left (by omega)]
    · rw [if_neg h2, List.getElem?_append_right (by rw [List.length_append, ht]; omega), List.length_append, ht, List.getElem?_drop]
      congr 1
      omega
theorem putX_step {X : List Nat} {F i v : Nat} (h : F + i < X.length) : (putX X F (List.replicate i v)).set (F + i) v = putX X F (List.replicate (i + 1) v) := by
  apply List.ext_getElem?
  intro j
  have hl : (putX X F (List.replicate i v)).length = X.length := putX_len (by simp; omega)
  rw [List.getElem?_set, putX_get (by simp; omega), putX_get (by simp; omega), List.length_replicate, List.length_replicate, hl]
  by_cases hj : F + i = j
  · subst hj
    rw [if_pos rfl, if_pos h, if_neg (by omega), if_pos (by omega), List.getElem?_replicate, if_pos (by omega)]
  · rw [if_neg hj]
    by_cases h1 : j < F
    · rw [if_pos h1, if_pos h1]
    · rw [if_neg h1, if_neg h1]
      by_cases h2 : j < F + i
      · rw [if_pos h2, if_pos (by omega), List.getElem?_replicate, List.getElem?_replicate, if_pos (by omega), if_pos (by omega)]
      · rw [if_neg h2, if_neg (by omega)]
theorem putX_zero (X : List Nat) (F : Nat) : putX X F [] = X := by simp [putX]
theorem putX_at {X : List Nat} {F i v : Nat} (h : F + i < X.length) : F + i < (putX X F (List.replicate i v)).length := by
  rw [putX_len (by simp; omega)]
  exact h
def ChS.wipe (s : ChS) (b : Int) (k SZ f : Nat) : ChS := { s with X := putX s.X (k * SZ) (List.replicate SZ f), K := ((s.K.set (k * 3) (if f = 255 then 0 else b)).set (k * 3 + 1) (s.k (k : Int) 1 + 1)).set (k * 3 + 2) (s.k (k : Int) 2 + 1) }
theorem set_set1 (K : List Int) (i : Nat) (u v : Int) : (K.set i u).set i v = K.set i v := by simp
theorem blk_ok {w : World} {m gx gb : Nat} {Af : Option Addr} {nf cf : Nat} {a b c d e : Int} {fs : List Flt} {s : ChS} (hC : ChipW w m gx gb Af nf cf a b c d e fs s) {k : Nat} (hk : (k : Int) < a) : ∃ SZ RW : Nat, (RW : Int) = c + 16 ∧ (SZ : Int) = b * (c + 16) ∧ k * SZ + SZ ≤ s.X.length ∧ SZ ≤ 640 ∧ 160 ≤ SZ := by
  obtain ⟨hm, -, -⟩ := planMay_bd hC.may
  obtain ⟨g1, g2, g3, g4, g5, g6, -⟩ := may_bd hm
  obtain ⟨p1, p2⟩ := mul_bd (x := b) (y := c + 16) (lo := 4) (hi := 8) (l2 := 40) (h2 := 80) g3 g4 (by omega) (by omega) (by omega) (by omega)
  obtain ⟨RW, hR⟩ : ∃ RW : Nat, (RW : Int) = c + 16 := ⟨(c + 16).toNat, by omega⟩
  obtain ⟨SZ, hS⟩ : ∃ SZ : Nat, (SZ : Int) = b * (c + 16) := ⟨(b * (c + 16)).toNat, by omega⟩
  refine ⟨SZ, RW, hR, hS, ?_, by omega, by omega⟩
  have h3 : ((k : Int) + 1) * (SZ : Int) ≤ a * (SZ : Int) := Int.mul_le_mul_of_nonneg_right (by omega) (by omega)
  rw [Int.add_mul, Int.one_mul] at h3
  have h4 : ((k * SZ + SZ : Nat) : Int) = (k : Int) * (SZ : Int) + (SZ : Int) := by push_cast; rfl
  have h5 : a * (SZ : Int) = a * b * (c + 16) := by rw [hS, Int.mul_assoc]
  rw [hC.lenX]
  omega
theorem kS_other (s : ChS) (K : List Int) (k j i : Nat) (v : Int) (h : i ≠ k * 3 + j) (hK : s.K = K.set i v) : s.k (k : Int) j = K.getD (3 * k + j) 0 := by
  unfold ChS.k
  rw [hK, Int.toNat_natCast, getD_setN, if_neg (by omega)]
set_option maxRecDepth 100000 in
set_option maxHeartbeats 8000000 in
theorem wipe_any (m gx gb : Nat) (Af : Option Addr) (nf cf : Nat) (a b c d e : Int) (fs : List Flt) (k f SZ RW : Nat) (n : Int) (w : World) (s : ChS) (hC : ChipW w m gx gb Af nf cf a b c d e fs s) (hbn : s.Bnd n) (hn : n ≤ 1000000000) (hk : (k : Int) < a) (hf : f < 256) (HRW : Hid ((RW : Int) = c + 16)) (hSZ : (SZ : Int) = b * (c + 16)) (hfit0 : k * SZ + SZ ≤ s.X.length) (z1 : SZ ≤ 640) (z2 : 160 ≤ SZ) : Calls Try.prog 59 #[.pointer (some ⟨m, 0, none⟩), .int .i64 (k : Int), .int .u8 (f : Int)] w fun e' w' => (∃ v, e' = .returned v) ∧ ChipW w' m gx gb Af nf cf a b c d e fs (s.wipe b k SZ f) ∧ Tch (chB m gx gb) w w' := by
  have HM := Lib.hid (planMay_bd hC.may).1
  obtain ⟨g1, g2, g3, g4, -⟩ := may_bd HM.out
  obtain ⟨y0, y1, y2, y3, y4⟩ := geo5 hC
  have HT : Tch (chB m gx gb) w w := Tch.refl _
  obtain ⟨F, hF⟩ : ∃ F, k * SZ = F := ⟨_, rfl⟩
  have hbd : F ≤ 20 * 640 := by rw [← hF]; exact Nat.mul_le_mul (by omega) z1
  have hFi : (k : Int) * (SZ : Int) = (F : Int) := by rw [← hF]; push_cast; rfl
  have hEi : ((k : Int) + 1) * (SZ : Int) = (F : Int) + (SZ : Int) := by rw [Int.add_mul, Int.one_mul, hFi]
  have hrs : b * (RW : Int) = (SZ : Int) := by rw [hSZ, HRW.out]
  have hw1 : IntKind.i64.wrap (SZ : Int) = (SZ : Int) := wrapS _ (by omega) (by omega)
  have hfit := hfit0
  rw [hF] at hfit
  have HFIT := Lib.hid hfit
  have HF := Lib.hid hF
  have kb : (k : Int) ≤ 20 := by omega
  have k0 : (0 : Int) ≤ (k : Int) := by omega
  have f0 : (0 : Int) ≤ (F : Int) := by omega
  have f1 : (F : Int) ≤ 12800 := by omega
  have s0 : (0 : Int) ≤ (SZ : Int) := by omega
  have s1 : (SZ : Int) ≤ 640 := by omega
  clear hfit hF hfit0 hSZ hbd
  go_enter Try.func59, Try.ntmps59
  go_upto_region 0 with fail
  refine wp_region_noPanic ?_
  refine wp_region_held_drew (S := (fun w' => w'.cell? ⟨m, 0, none⟩ = some (.int .i64 a) ∧ w'.cell? ⟨m, 1, none⟩ = some (.int .i64 b) ∧ w'.cell? ⟨m, 2, none⟩ = some (.int .i64 c) ∧ w'.cell? ⟨m, 3, none⟩ = some (.int .i64 d) ∧ w'.cell? ⟨m, 4, none⟩ = some (.int .i64 e))) (by kernel_rfl) ?_ (fun hHeld => ?_)
  · (first | exact ⟨y0, y1, y2, y3, y4⟩ | assumption)
  refine wpAnyH_take (i := 0) (oi := { dst := some 10, op := Op.move (Operand.tmp 0), type := 27, pos := "chip.go:167", after := #[], guard := none }) (v := ?_) rfl (by kernel_rfl) (by kernel_rfl) (by kernel_rfl) (fun _ _ _ h => h) (Or.inl ⟨by rfl, ?_⟩) (by assumption) ?_
  rotate_left
  · (intro wS hSw; (try dsimp only at hSw); go_simp; (try with_reducible rfl))
  try simp only [Act.put, List.setIfInBounds_toArray, List.set_cons_zero, List.set_cons_succ]
  refine wpAnyH_take (i := 1) (oi := { dst := some 11, op := Op.nilCheck (Operand.tmp 10), type := 0, pos := "chip.go:167", after := #[{ on := 0, ground := Ground.data }], guard := none }) (v := ?_) rfl (by kernel_rfl) (by kernel_rfl) (by kernel_rfl) (fun _ _ _ h => h) (Or.inl ⟨by rfl, ?_⟩) (by assumption) ?_
  rotate_left
  · (intro wS hSw; (try dsimp only at hSw); go_simp; (try with_reducible rfl))
  try simp only [Act.put, List.setIfInBounds_toArray, List.set_cons_zero, List.set_cons_succ]
  refine wpAnyH_take (i := 2) (oi := { dst := some 12, op := Op.fieldAddr 71 (Operand.tmp 11) 0, type := 0, pos := "chip.go:167", after := #[{ on := 1, ground := Ground.data }], guard := none }) (v := ?_) rfl (by kernel_rfl) (by kernel_rfl) (by kernel_rfl) (fun _ _ _ h => h) (Or.inl ⟨by rfl, ?_⟩) (by assumption) ?_
  rotate_left
  · (intro wS hSw; (try dsimp only at hSw); go_simp; (try with_reducible rfl))
  try simp only [Act.put, List.setIfInBounds_toArray, List.set_cons_zero, List.set_cons_succ]
  refine wpAnyH_take (i := 3) (oi := { dst := some 13, op := Op.fieldAddr 23 (Operand.tmp 12) 1, type := 0, pos := "chip.go:167", after := #[{ on := 2, ground := Ground.data }], guard := none }) (v := ?_) rfl (by kernel_rfl) (by kernel_rfl) (by kernel_rfl) (fun _ _ _ h => h) (Or.inl ⟨by rfl, ?_⟩) (by assumption) ?_
  rotate_left
  · (intro wS hSw; (try dsimp only at hSw); go_simp; (try with_reducible rfl))
  try simp only [Act.put, List.setIfInBounds_toArray, List.set_cons_zero, List.set_cons_succ]
  refine wpAnyH_take (i := 4) (oi := { dst := some 14, op := Op.load 3 (Operand.tmp 13), type := 3, pos := "chip.go:167", after := #[{ on := 3, ground := Ground.data }], guard := none }) (v := ?_) rfl (by kernel_rfl) (by kernel_rfl) (by kernel_rfl) (fun _ _ _ h => h) (Or.inl ⟨by rfl, ?_⟩) (by assumption) ?_
  rotate_left
  · (intro wS hSw; (try dsimp only at hSw); go_simp; (try with_reducible rfl))
  try simp only [Act.put, List.setIfInBounds_toArray, List.set_cons_zero, List.set_cons_succ]
  refine wpAnyH_take (i := 5) (oi := { dst := some 15, op := Op.move (Operand.tmp 0), type := 27, pos := "chip.go:167", after := #[], guard := none }) (v := ?_) rfl (by kernel_rfl) (by kernel_rfl) (by kernel_rfl) (fun _ _ _ h => h) (Or.inl ⟨by rfl, ?_⟩) (by assumption) ?_
  rotate_left
  · (intro wS hSw; (try dsimp only at hSw); go_simp; (try with_reducible rfl))
  try simp only [Act.put, List.setIfInBounds_toArray, List.set_cons_zero, List.set_cons_succ]
  refine wpAnyH_take (i := 6) (oi := { dst := some 16, op := Op.nilCheck (Operand.tmp 15), type := 0, pos := "chip.go:167", after := #[{ on := 5, ground := Ground.data }], guard := none }) (v := ?_) rfl (by kernel_rfl) (by kernel_rfl) (by kernel_rfl) (fun _ _ _ h => h) (Or.inl ⟨by rfl, ?_⟩) (by assumption) ?_
  rotate_left
  · (intro wS hSw; (try dsimp only at hSw); go_simp; (try with_reducible rfl))
  try simp only [Act.put, List.setIfInBounds_toArray, List.set_cons_zero, List.set_cons_succ]
  refine wpAnyH_take (i := 7) (oi := { dst := some 17, op := Op.fieldAddr 71 (Operand.tmp 16) 0, type := 0, pos := "chip.go:167", after := #[{ on := 6, ground := Ground.data }], guard := none }) (v := ?_) rfl (by kernel_rfl) (by kernel_rfl) (by kernel_rfl) (fun _ _ _ h => h) (Or.inl ⟨by rfl, ?_⟩) (by assumption) ?_
  rotate_left
  · (intro wS hSw; (try dsimp only at hSw); go_simp; (try with_reducible rfl))
  try simp only [Act.put, List.setIfInBounds_toArray, List.set_cons_zero, List.set_cons_succ]
  refine wpAnyH_take (i := 8) (oi := { dst := some 18, op := Op.load 23 (Operand.tmp 17), type := 23, pos := "chip.go:167", after := #[{ on := 7, ground := Ground.data }], guard := none }) (v := ?_) rfl (by kernel_rfl) (by kernel_rfl) (by kernel_rfl) (fun _ _ _ h => h) (Or.inl ⟨by rfl, ?_⟩) (by assumption) ?_
  rotate_left
  · (intro wS hSw; (try dsimp only at hSw); go_simp; (try with_reducible rfl))
  try simp only [Act.put, List.setIfInBounds_toArray, List.set_cons_zero, List.set_cons_succ]
  refine wpAnyH_ready (rs := [9]) (by kernel_rfl) (by simp) ?_
  refine AllReadyH.cons (o := { dst := some 19, op := Op.call { callee := Callee.value (Operand.func 34), args := #[Operand.tmp 18], argTypes := #[23] }, type := 3, pos := "chip.go:167", after := #[{ on := 8, ground := Ground.data }], guard := none }) rfl (fun K hK => ?_) AllReadyH.nil
  go_simp
  (go_at_call 34; ((with_reducible refine (raw_bb _ _ _ _ _ RW _ HM HRW).mono ?_); rintro e' wN ⟨rfl, hb⟩; (try have hb := undrew hb); replace hC := ChipW.likeB hC hb; replace HT := HT.then hb; clear y0 y1 y2 y3 y4; obtain ⟨y0, y1, y2, y3, y4⟩ := geo5 hC))
  go_wp2_with fail
  refine hK.out _ _ ?_ (fun hNew => ?_)
  · (first | exact ⟨y0, y1, y2, y3, y4⟩ | assumption)
  clear hK K hHeld
  have hHeld := hNew
  clear hNew
  try simp only [Act.put, List.setIfInBounds_toArray, List.set_cons_zero, List.set_cons_succ]
  refine wpAnyH_take (i := 10) (oi := { dst := some 20, op := Op.binOp BinOp.mul 3 (Operand.tmp 14) (Operand.tmp 19) 3, type := 3, pos := "chip.go:167", after := #[{ on := 4, ground := Ground.data }, { on := 9, ground := Ground.data }], guard := none }) (v := ?_) rfl (by kernel_rfl) (by kernel_rfl) (by kernel_rfl) (fun _ _ _ h => h) (Or.inl ⟨by rfl, ?_⟩) (by assumption) ?_
  rotate_left
  · (intro wS hSw; (try dsimp only at hSw); go_simp; (try with_reducible rfl))
  try simp only [Act.put, List.setIfInBounds_toArray, List.set_cons_zero, List.set_cons_succ]
  refine wpAnyH_take (i := 11) (oi := { dst := some 6, op := Op.assign (Operand.tmp 20), type := 3, pos := "chip.go:167", after := #[{ on := 10, ground := Ground.data }, { on := 9, ground := Ground.chain }, { on := 0, ground := Ground.phase }, { on := 1, ground := Ground.phase }, { on := 2, ground := Ground.phase }, { on := 3, ground := Ground.phase }, { on := 4, ground := Ground.phase }, { on := 5, ground := Ground.phase }, { on := 6, ground := Ground.phase }, { on := 7, ground := Ground.phase }, { on := 8, ground := Ground.phase }, { on := 9, ground := Ground.phase }, { on := 10, ground := Ground.phase }], guard := none }) (v := ?_) rfl (by kernel_rfl) (by kernel_rfl) (by kernel_rfl) (fun _ _ _ h => h) (Or.inl ⟨by rfl, ?_⟩) (by assumption) ?_
  rotate_left
  · (intro wS hSw; (try dsimp only at hSw); go_simp; (try with_reducible rfl))
  try simp only [Act.put, List.setIfInBounds_toArray, List.set_cons_zero, List.set_cons_succ]
  refine wpAnyH_done (by kernel_rfl) ?_ _
  refine NoPanic.normal ?_
  obtain ⟨cx, hcx, y6⟩ := cells6x hC
  have hcx2 := HFIT.out
  obtain ⟨NX, hNX⟩ : ∃ NX, s.X.length = NX := ⟨_, rfl⟩
  rw [hNX] at y6 hcx hcx2
  clear hNX
  have e1 : F + SZ ≤ cx := by omega
  have e2 : ¬ cx = F := by omega
  have e3 : (F : Int) + (SZ : Int) ≤ (cx : Int) := by omega
  have hFS : F + SZ - F = SZ := by omega
  go_wp2_with fail
  rw [hFS]
  obtain ⟨w1, hw1'⟩ : ∃ V : World, V = wN := ⟨_, rfl⟩
  rw [← hw1'] at hC HT ⊢
  clear hw1' hb y0 y1 y2 y3 y4 y6 hEi hFi hrs hw1 hFS
  go_loopw [35] (fun s35 wr => ∃ i : Nat, i ≤ SZ ∧ s35 = .int .i64 (i : Int) ∧ ChipW wr m gx gb Af nf cf a b c d e fs { s with X := putX s.X F (List.replicate i f) } ∧ Tch (chB m gx gb) w wr) (fun s35 _ => SZ - (intOf s35).toNat)
  case atStart => exact ⟨0, Nat.zero_le _, rfl, by rw [List.replicate_zero, putX_zero]; first | exact hC | exact ChipW.drew hC, by first | exact HT | exact HT.like⟩
  case round =>
    clear hC HT
    obtain ⟨i, hi, rfl, hC, HT⟩ := hrel
    by_cases hlt : i < SZ
    · have i0 : (0 : Int) ≤ (i : Int) := by omega
      have i1 : (i : Int) < (SZ : Int) := by omega
      have hin : F + i < s.X.length := by have := HFIT.out; omega
      have hs := setX_chip hC (putX_at (v := f) hin) f
      have c0 : wr.cell? ⟨gx, F + i, none⟩ = some (byteV ((putX s.X F (List.replicate i f)).getD (F + i) 0)) := by
        refine hC.rX.cell_ ?_
        rw [List.getElem?_map, List.getElem?_eq_getElem (putX_at (v := f) hin), List.getD_eq_getElem?_getD, List.getElem?_eq_getElem (putX_at (v := f) hin)]
        rfl
      unfold byteV at c0
      have fx := hC.rX.free (F + i)
      have hs1 := hs.1
      have hs2 := HT.trans hs.2
      dsimp only at hs1
      rw [putX_step hin] at hs1
      have HS1 := Lib.hid hs1
      clear hs hs1 hin hC
      go_wp2_with fail
      go_roundw
      case rel => exact ⟨i + 1, by omega, by go_num, HS1.out, hs2⟩
      case measure => simp [intOf]; omega
    · have hiS : i = SZ := by omega
      subst hiS
      clear hlt hi
      obtain ⟨S0, hS0⟩ : ∃ S0 : ChS, S0 = { s with X := putX s.X F (List.replicate i f) } := ⟨_, rfl⟩
      rw [← hS0] at hC
      have HS0 := Lib.hid hS0
      have hK0 : S0.K = s.K := by rw [hS0]
      clear hS0
      obtain ⟨cb0, NB0, hkN0, y7, c0, fb0, hl0⟩ := chip_k (j := 0) hC hk (by omega)
      rw [Nat.add_zero] at c0 hl0
      obtain ⟨v0, hv0⟩ : ∃ v, S0.k (k : Int) 0 = v := ⟨_, rfl⟩
      rw [hv0] at c0
      have q1 := setK_chip hC hl0 0
      have hC1 := q1.1
      have hT1 := HT.trans q1.2
      obtain ⟨S1, hS1⟩ : ∃ S1 : ChS, S1 = { S0 with K := S0.K.set (k * 3) 0 } := ⟨_, rfl⟩
      rw [← hS1] at hC1
      have hK1 : S1.K = S0.K.set (k * 3) 0 := by rw [hS1]
      have HS1 := Lib.hid hS1
      have kk : ∀ j, 0 ≤ s.k (k : Int) j ∧ s.k (k : Int) j ≤ 1000000000 := fun j => ⟨hbn.k0 _, Int.le_trans (hbn.k1 _) hn⟩
      obtain ⟨v1, hv1⟩ : ∃ v, s.k (k : Int) 1 = v := ⟨_, rfl⟩
      obtain ⟨v2, hv2⟩ : ∃ v, s.k (k : Int) 2 = v := ⟨_, rfl⟩
      have kk1 := kk 1
      have kk2 := kk 2
      rw [hv1] at kk1
      rw [hv2] at kk2
      obtain ⟨a1, a2⟩ := kk1
      obtain ⟨a3, a4⟩ := kk2
      have hg1 : s.K.getD (3 * k + 1) 0 = v1 := by rw [← hv1]; unfold ChS.k; rw [Int.toNat_natCast]
      have hg2 : s.K.getD (3 * k + 2) 0 = v2 := by rw [← hv2]; unfold ChS.k; rw [Int.toNat_natCast]
      clear hS1 q1 kk hC hv0
      have hK1s : S1.K = s.K.set (k * 3) 0 := by rw [hK1, hK0]
      by_cases h255 : f = 255
      · have hff : ((f : Int) != 255) = false := by simp [h255]
        obtain ⟨cb1, NB1, hkN1, y7b, c1, fb1, hl1⟩ := chip_k (j := 1) hC1 hk (by omega)
        rw [(kS_other S1 s.K k 1 (k * 3) (0) (by omega) hK1s).trans hg1] at c1
        have q2 := setK_chip hC1 hl1 (v1 + 1)
        obtain ⟨S2, hS2⟩ : ∃ S2 : ChS, S2 = { S1 with K := S1.K.set (k * 3 + 1) (v1 + 1) } := ⟨_, rfl⟩
        have hC2 := q2.1
        rw [← hS2] at hC2
        have hT2 := hT1.trans q2.2
        obtain ⟨cb2, NB2, hkN2, y7c, c2, fb2, hl2⟩ := chip_k (j := 2) hC2 hk (by omega)
        have hk2 : S2.k (k : Int) 2 = v2 := by
          unfold ChS.k
          rw [hS2]
          dsimp only
          rw [Int.toNat_natCast, getD_setN, if_neg (by omega), hK1s, getD_setN, if_neg (by omega)]
          exact hg2
        rw [hk2] at c2
        have q3 := setK_chip hC2 hl2 (v2 + 1)
        have hfin : { S2 with K := S2.K.set (k * 3 + 2) (v2 + 1) } = s.wipe b k i f := by
          rw [hS2, HS1.out, HS0.out]
          unfold ChS.wipe
          rw [HF.out, hv1, hv2, if_pos h255]
          (try simp only [List.set_set])
        have hC3 := q3.1
        rw [hfin] at hC3
        have HC3 := Lib.hid hC3
        have hT3 := hT2.trans q3.2
        clear hfin hC3 q3 q2 hk2 hS2 hC2 hT2 hg1 hg2 hv1 hv2 hK0 hK1 hC1 hT1 hl1 hl2 hK1s h255 HT
        go_wp2_with fail
        exact bodyPost_end (v := .tuple #[]) (by simp [results, Try.results59, go_sem]) rfl ⟨⟨_, rfl⟩, HC3.out, hT3⟩
      · have hff : ((f : Int) != 255) = true := by simp; omega
        obtain ⟨cbx, NBx, hkNx, y7x, c0x, fbx, hlx⟩ := chip_k (j := 0) hC1 hk (by omega)
        rw [Nat.add_zero] at c0x hlx
        have hkx : S1.k (k : Int) 0 = 0 := by
          unfold ChS.k
          rw [Int.toNat_natCast, hK1s, getD_setN, if_pos]
          rw [hK0] at hl0
          omega
        rw [hkx] at c0x
        have y1 := (geo5 hC1).2.1
        have q1b := setK_chip hC1 hlx b
        obtain ⟨S3, hS3⟩ : ∃ S3 : ChS, S3 = { S1 with K := S1.K.set (k * 3) b } := ⟨_, rfl⟩
        have hC1b := q1b.1
        rw [← hS3] at hC1b
        have hT1b := hT1.trans q1b.2
        have hK3 : S3.K = s.K.set (k * 3) b := by rw [hS3]; dsimp only; rw [hK1s, List.set_set]
        obtain ⟨cb1, NB1, hkN1, y7b, c1, fb1, hl1⟩ := chip_k (j := 1) hC1b hk (by omega)
        rw [(kS_other S3 s.K k 1 (k * 3) (b) (by omega) hK3).trans hg1] at c1
        have q2 := setK_chip hC1b hl1 (v1 + 1)
        obtain ⟨S2, hS2⟩ : ∃ S2 : ChS, S2 = { S3 with K := S3.K.set (k * 3 + 1) (v1 + 1) } := ⟨_, rfl⟩
        have hC2 := q2.1
        rw [← hS2] at hC2
        have hT2 := hT1b.trans q2.2
        obtain ⟨cb2, NB2, hkN2, y7c, c2, fb2, hl2⟩ := chip_k (j := 2) hC2 hk (by omega)
        have hk2 : S2.k (k : Int) 2 = v2 := by
          unfold ChS.k
          rw [hS2]
          dsimp only
          rw [Int.toNat_natCast, getD_setN, if_neg (by omega), hK3, getD_setN, if_neg (by omega)]
          exact hg2
        rw [hk2] at c2
        have q3 := setK_chip hC2 hl2 (v2 + 1)
        have hfin : { S2 with K := S2.K.set (k * 3 + 2) (v2 + 1) } = s.wipe b k i f := by
          rw [hS2, hS3, HS1.out, HS0.out]
          unfold ChS.wipe
          rw [HF.out, hv1, hv2, if_neg h255]
          (try simp only [List.set_set])
        have hC3 := q3.1
        rw [hfin] at hC3
        have HC3 := Lib.hid hC3
        have hT3 := hT2.trans q3.2
        clear hfin hC3 q3 q2 hk2 hS2 hC2 hT2 hg1 hg2 hv1 hv2 hK0 hK1 hC1 hT1 hl1 hl2 hK1s h255 HT hkx q1b hS3 hC1b hT1b hK3 hlx
        go_wp2_with fail
        exact bodyPost_end (v := .tuple #[]) (by simp [results, Try.results59, go_sem]) rfl ⟨⟨_, rfl⟩, HC3.out, hT3⟩
end Go.Proofs.Ytplniojeaodjiaa
