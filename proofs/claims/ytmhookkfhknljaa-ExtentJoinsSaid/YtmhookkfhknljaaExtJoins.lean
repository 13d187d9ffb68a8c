/- ExtentJoins: the walk. -/
import Derived.Test.YtmhookkfhknljaaExtBack
namespace Go.Proofs.Ytmhookkfhknljaa
open Go.ChangeShapes Go.WideShapes Go.ChangeAt Go.RowKit
set_option linter.unusedSimpArgs false
set_option linter.unusedVariables false

theorem parts_mul {m n : Int} (hm : 1 ≤ m) (hn : 1 ≤ n) : partsI (m * n) n = m := by
  unfold partsI
  have h : (m * n + n - 1) / n = m := by
    rw [show m * n + n - 1 = (n - 1) + n * m by rw [Int.mul_comm]; omega, Int.add_mul_ediv_left _ _ (by omega), Int.ediv_eq_zero_of_lt (by omega) (by omega)]
    omega
  rw [h]
  omega
theorem parts_more {m n L : Int} (hm : 1 ≤ m) (hn : 1 ≤ n) (hL : 1 ≤ L) : partsI (m * n + L) n = m + partsI L n := by
  unfold partsI
  have h : (m * n + L + n - 1) / n = m + (L + n - 1) / n := by
    rw [show m * n + L + n - 1 = (L + n - 1) + n * m by rw [Int.mul_comm]; omega, Int.add_mul_ediv_left _ _ (by omega)]
    omega
  have h2 : 1 ≤ (L + n - 1) / n := by
    have := Int.ediv_le_ediv (c := n) (by omega) (show n ≤ L + n - 1 by omega)
    rw [Int.ediv_self (by omega)] at this
    exact this
  rw [h]
  omega
theorem gmay_b (a b c d e : Int) (M : Bool) (w : World) (hm : Hid (mayB a b c d e = M)) :
    Calls Try.prog 15 #[.agg #[.int .i64 a, .int .i64 b, .int .i64 c, .int .i64 d, .int .i64 e]] w fun e' w' => e' = .returned (.bool M) ∧ Below w.heap.size w w' := by
  have q := may_any a b c d e w
  rwa [hm.out] at q
theorem bytes_of {xs : List Value} (h : ∀ v ∈ xs, ∃ y : Nat, v = byteV y) : ∃ ys : List Nat, xs = ys.map byteV := by
  induction xs with
  | nil => exact ⟨[], rfl⟩
  | cons v xs ih =>
    obtain ⟨y, rfl⟩ := h v List.mem_cons_self
    obtain ⟨ys, rfl⟩ := ih fun u hu => h u (List.mem_cons_of_mem _ hu)
    exact ⟨y :: ys, rfl⟩
set_option maxRecDepth 100000 in
set_option maxHeartbeats 4000000 in
theorem joins_walk (a b c d e many : Int) (nb : Nat) (A1 : Option Addr) (L k1 : Nat) (bs : List Nat) (size : Int) (w : World) (_ : i64in a ∧ i64in b ∧ i64in c ∧ i64in d ∧ i64in e) (hmi : i64in many) (hnb : nb < 256) (r1 : SlA w A1 L k1 (bs.map byteV)) (h8 : Bytes8 bs) (hsi : i64in size) :
    Calls Try.prog 5 #[.agg #[.int .i64 a, .int .i64 b, .int .i64 c, .int .i64 d, .int .i64 e], .int .i64 many, .int .u8 nb, .slice A1 L k1, .int .i64 size] w fun e' w' => e' = .returned (.bool true) ∧ Below w.heap.size w w' := by
  obtain ⟨e1, h1, k11, k1p, hnil⟩ := r1
  rw [List.length_map] at e1
  have HB0 : Below w.heap.size w (w.alloc (.cells #[.int .i64 a, .int .i64 b, .int .i64 c, .int .i64 d, .int .i64 e] 23)) := (Below.refl _ _).alloc (Nat.le_refl _) _
  have G1 : Blk (w.alloc (.cells #[.int .i64 a, .int .i64 b, .int .i64 c, .int .i64 d, .int .i64 e] 23)) w.heap.size 23 #[.int .i64 a, .int .i64 b, .int .i64 c, .int .i64 d, .int .i64 e] := Blk.new_ _ _ _
  have H1 := h1.next HB0
  have HL : Hid (bs.length = L) := Lib.hid e1.symm
  have HNIL := Lib.hid hnil
  have HKP := Lib.hid k1p
  clear h1 e1 hnil k1p
  by_cases hx : 300 < L
  · have g1 : (300 : Int) < (L : Int) := by omega
    clear hx
    go_enter Try.func5, Try.ntmps5
    go_wp2_with (go_at_call 7; ((with_reducible refine (awake_any _).mono ?_); rintro e' wA ⟨rfl, hb⟩; have HB0 := btr HB0 HB0.size hb; clear hb))
    go_ret
    exact ⟨rfl, HB0⟩
  have g1 : ¬ (300 : Int) < (L : Int) := by omega
  rcases (by cases hq : mayB a b c d e <;> simp : mayB a b c d e = false ∨ mayB a b c d e = true) with hm | hm
  · have HM := Lib.hid hm
    clear hm
    go_enter Try.func5, Try.ntmps5
    go_wp2_with (first
      | (go_at_call 15; ((with_reducible refine (gmay_b _ _ _ _ _ _ _ HM).mono ?_); rintro e' wN ⟨rfl, hb⟩; have H1 := H1.next hb; have HB0 := btr HB0 HB0.size hb; have G1 := G1.below hb G1.lt; (try clear y0 y1 y2 y3 y4); have y0 := G1.cell_ 0; have y1 := G1.cell_ 1; have y2 := G1.cell_ 2; have y3 := G1.cell_ 3; have y4 := G1.cell_ 4; simp at y0 y1 y2 y3 y4; clear hb))
      | (go_at_call 7; ((with_reducible refine (awake_any _).mono ?_); rintro e' wA ⟨rfl, hb⟩; have HB0 := btr HB0 HB0.size hb; clear hb)))
    go_ret
    exact ⟨rfl, HB0⟩
  have HM := Lib.hid hm
  have hbd := may_bd hm
  obtain ⟨n, rfl⟩ : ∃ n : Nat, c = (n : Int) := ⟨c.toNat, by omega⟩
  have n1 : 24 ≤ n := by omega
  have n2 : n ≤ 64 := by omega
  have hlo := lowI_bd many 6 (by omega)
  obtain ⟨m0, hm0⟩ : ∃ m : Nat, lowI many 6 = (m : Int) := ⟨(lowI many 6).toNat, by omega⟩
  obtain ⟨m, hmm⟩ : ∃ m, 1 + m0 = m := ⟨_, rfl⟩
  have m1 : 1 ≤ m := by omega
  have m6 : m ≤ 6 := by omega
  have hmi2 : (1 : Int) + (m0 : Int) = (m : Int) := by omega
  obtain ⟨M, hM⟩ : ∃ M, m * n = M := ⟨_, rfl⟩
  have hMi : (m : Int) * (n : Int) = (M : Int) := by rw [← hM]; push_cast; rfl
  have hMb : M ≤ 384 := by rw [← hM]; exact Nat.le_trans (Nat.mul_le_mul m6 n2) (by omega)
  have hMp : 24 ≤ M := by rw [← hM]; exact Nat.le_trans n1 (Nat.le_mul_of_pos_left _ m1)
  have HM0 := Lib.hid hm0
  have HMM := Lib.hid hM
  have n3 : (24 : Int) ≤ (n : Int) := by omega
  have n4 : (n : Int) ≤ 64 := by omega
  have m4 : (1 : Int) ≤ (m : Int) := by omega
  have m5 : (m : Int) ≤ 6 := by omega
  have M4 : (M : Int) ≤ 384 := by omega
  have M0 : (0 : Int) ≤ (M : Int) := by omega
  clear hm hbd hlo hm0 hmm hM hx hmi
  go_enter Try.func5, Try.ntmps5
  go_wp2_with (first
    | (go_at_call 15; ((with_reducible refine (gmay_b _ _ _ _ _ _ _ HM).mono ?_); rintro e' wN ⟨rfl, hb⟩; have H1 := H1.next hb; have HB0 := btr HB0 HB0.size hb; have G1 := G1.below hb G1.lt; (try clear y0 y1 y2 y3 y4); have y0 := G1.cell_ 0; have y1 := G1.cell_ 1; have y2 := G1.cell_ 2; have y3 := G1.cell_ 3; have y4 := G1.cell_ 4; simp at y0 y1 y2 y3 y4; clear hb))
    | (go_at_call 12; refine (low_any many 6 _ (by omega) (by omega)).mono ?_; rw [HM0.out]; rintro e' wL ⟨rfl, rfl⟩)
    | (at_make; obtain ⟨ti0, hi, hz0, hz1, hz2⟩ := info_parts infoByte; refine wpList_make_full _ rfl _ _ 24 rfl wN.heap.size 5 ti0 (.int .u8 0) 1 Try.underlying24 hi hz0 hz1 _ _ _ _ M rfl rfl rfl rfl (by rw [hz2]; omega) (by unfold maxLen; omega) (Nat.le_refl _) ?_; intro w1 hown1 hgrow1; clear hi hz0 hz1 hz2))
  have hBm := HB0.grown hgrow1 HB0.size (fun j hj => by cases hj)
  rw [show (madeCells (Value.int .u8 0).cells (M * 1)).toList = List.replicate (M * 1) (Value.int .u8 0) from toList_madeCells_one _ _, Nat.mul_one] at hown1
  have hxs0 : ∀ v ∈ List.replicate M (Value.int .u8 0), ∃ y : Nat, v = byteV y := fun v hv => ⟨0, (List.eq_of_mem_replicate hv)⟩
  have HXS0 := Lib.hid hxs0
  clear hxs0
  have hg0 : w.heap.size < wN.heap.size := G1.lt
  go_loopw [12] (fun i wr => ∃ (j : Nat) (xs : List Value), j ≤ M ∧ i = .int .i64 j ∧ wr.ownsRow wN.heap.size 5 1 (.slice (some ⟨wN.heap.size, 0, none⟩) M M) M xs ∧ Hid (∀ v ∈ xs, ∃ y : Nat, v = byteV y) ∧ Below wN.heap.size wN wr) (fun i _ => M - (intOf i).toNat)
  case atStart => exact ⟨0, _, Nat.zero_le _, rfl, hown1, HXS0, (Below.refl _ _).grown hgrow1 (Nat.le_refl _) (fun j hj => by cases hj)⟩
  case round =>
    obtain ⟨j, xs, hj, rfl, ho, HXS, hB⟩ := hrel
    by_cases hlt : j < M
    · have hxl : xs.length = M := by have := ho.1; omega
      have ca : wr.cell? ⟨wN.heap.size, j, none⟩ = some (xs.getD j (.bool false)) := by
        rw [ho.cellAt j (by omega)]
        simp [show j < xs.length by omega]
      have fa : wr.frozen? ⟨wN.heap.size, j, none⟩ = false := ho.frozenAt j
      have i0 : (0 : Int) ≤ (j : Int) := by omega
      have i1 : (j : Int) < (M : Int) := by omega
      clear hxl
      go_wp2
      go_roundw
      case rel =>
        refine ⟨j + 1, _, by omega, by go_num, (ho.stored j _).1, Lib.hid (show ∀ v ∈ _, ∃ y : Nat, v = byteV y from fun v hv => ?_), hB.setCell (Nat.le_refl _) _⟩
        rcases List.mem_or_eq_of_mem_set hv with h | h
        · exact HXS.out v h
        · subst h
          exact ⟨(nb + j) % 256, by unfold byteV; push_cast; rfl⟩
      case measure => simp [intOf]; omega
    · have hjm : j = M := by omega
      subst hjm
      obtain ⟨AL, rfl⟩ := bytes_of HXS.out
      have hAl : AL.length = j := by have := ho.1; simpa using this
      clear HXS hown1 hgrow1 hBm
      have G0 := G1
      have HBW := HB0
      clear G1 HB0
      have G1 := G0.below hB hg0
      clear y0 y1 y2 y3 y4
      have y0 := G1.cell_ 0
      have y1 := G1.cell_ 1
      have y2 := G1.cell_ 2
      have y3 := G1.cell_ 3
      have y4 := G1.cell_ 4
      simp at y0 y1 y2 y3 y4
      have H1 := H1.next hB
      have HAL := Lib.hid hAl
      have hBl : (AL ++ bs).length = j + L := by rw [List.length_append, hAl, HL.out]
      have HBL := Lib.hid hBl
      obtain ⟨B, hBB⟩ : ∃ B, AL ++ bs = B := ⟨_, rfl⟩
      rw [hBB] at hBl
      have HBB := Lib.hid hBB
      -- how many parts
      have hpa : partsI (j : Int) (n : Int) = (m : Int) := by rw [← hMi]; exact parts_mul m4 (by omega)
      obtain ⟨mb, hmb⟩ : ∃ m : Nat, partsI (L : Int) (n : Int) = (m : Int) := ⟨(partsI (L : Int) (n : Int)).toNat, by have := parts_pos (L : Int) (n : Int); omega⟩
      have hmb13 : mb ≤ 14 := by
        have h4 : ((L : Int) + (n : Int) - 1) / (n : Int) < 14 := Int.ediv_lt_of_lt_mul (by omega) (by omega)
        unfold partsI at hmb
        omega
      have hmb1 : 1 ≤ mb := by have := parts_pos (L : Int) (n : Int); omega
      obtain ⟨my, hmy⟩ : ∃ y, (if L = 0 then 0 else mb) = y := ⟨_, rfl⟩
      have hmy14 : my ≤ 14 := by rw [← hmy]; split <;> omega
      obtain ⟨mz, hmz⟩ : ∃ y, m + my = y := ⟨_, rfl⟩
      have hpz : partsI ((j + L : Nat) : Int) (n : Int) = (mz : Int) := by
        rw [← hmz, ← hmy]
        push_cast
        by_cases h0 : L = 0
        · subst h0
          rw [if_pos rfl]
          simpa using hpa
        · rw [if_neg h0, ← hMi, parts_more m4 (by omega) (by omega), hmb]
      have HPA := Lib.hid hpa
      have HPB := Lib.hid hmb
      have HPZ := Lib.hid hpz
      -- each part of both is a part of one
      have hfront : ∀ i, i < m → partB n B i = partB n AL i := fun i hi => by
        rw [← hBB]
        refine part_front n AL bs i ?_
        rw [hAl, ← HMM.out]
        exact Nat.mul_le_mul_right n (by omega)
      have hback : ∀ i, partB n B (m + i) = partB n bs i := fun i => by
        rw [← hBB]
        exact part_back n AL bs m i (by rw [hAl, HMM.out])
      have HF := Lib.hid hfront
      have HG := Lib.hid hback
      have hcov : (j + L : Nat) ≤ mz * n := by
        have := parts_cover (L := ((j + L : Nat) : Int)) (n := (n : Int)) (by omega) (by omega)
        rw [hpz] at this
        exact_mod_cast this
      have HCV := Lib.hid hcov
      obtain ⟨BLn, hBLn⟩ : ∃ x, j + L = x := ⟨_, rfl⟩
      have hBi : (j : Int) + (L : Int) = (BLn : Int) := by omega
      have B1 : (BLn : Int) ≤ 684 := by omega
      rw [hBLn] at hBl hpz hcov
      have HBL := Lib.hid hBl
      have HPZ := Lib.hid hpz
      have HCV := Lib.hid hcov
      have HJL := Lib.hid hBLn
      have HMY := Lib.hid hmy
      clear hAl hBl hBB hpa hmb hmy hpz hfront hback hcov hBLn hlt hMp hMb
      have SA := Sl.of_own ho
      obtain ⟨wq, rfl⟩ : ∃ W : World, W = wr := ⟨_, rfl⟩
      go_upto_region 10 with (first
        | (at_builtin; obtain ⟨ti0, hi, hz0, hz1, hz2⟩ := info_parts infoByte; refine wpList_app _ rfl (.const (.slice none 0 0)) (.tmp 51) _ rfl wq.heap.size 5 ti0 _ 1 1 Try.underlying24 hi hz0 hz1 hz2 rfl (by decide) (.slice none 0 0) 0 [] rfl (World.ownsRow_nil _ _ _ _) _ j _ (AL.map byteV) rfl (Rd.of_sl SA (by rw [List.length_map]; exact HAL.out)) (oneB AL) (by unfold maxLen; omega) (by omega) (Nat.le_refl _) ?_; intro uA wA hoA hgA hvA; clear hi hz0 hz1 hz2; have hbA := below_grown_none hgA)
        | (at_builtin; obtain ⟨ti0, hi, hz0, hz1, hz2⟩ := info_parts infoByte; refine wpList_app _ rfl (.tmp 52) (.tmp 53) _ rfl wq.heap.size 5 ti0 _ 1 1 Try.underlying24 hi hz0 hz1 hz2 rfl (by decide) _ (0 + j) ([] ++ AL.map byteV) rfl hoA A1 L k1 (bs.map byteV) rfl (Rd.of_sl (H1.next hbA) (by rw [List.length_map]; exact HL.out)) (oneB bs) (by unfold maxLen; omega) (by omega) hbA.size ?_; intro uB wB hoB hgB hvB; clear hi hz0 hz1 hz2))
      rw [List.nil_append, ← List.map_append, HBB.out] at hoB
      replace hoB := own_len (show 0 + j + L = BLn by have := HJL.out; omega) hoB
      obtain ⟨AB, cB, hvb, -, hcB, hcB2, SB⟩ := own_sliceV hoB
      subst hvb
      have HCB2 := Lib.hid hcB2
      have hQ := (below_grown_none hgA).grown hgB hbA.size (fun g h => (hoA.lt g h).1)
      have SA := SA.next hQ
      have H1 := H1.next hQ
      have hB := btr hB hB.size hQ
      have G1 := G0.below hB hg0
      have hABn : AB = none → BLn = 0 ∧ cB = 0 := fun h => by
        subst h
        rcases hoB.2 with ⟨hv, h0⟩ | ⟨g, cap, cur, hv, _⟩
        · cases hv
          exact ⟨rfl, rfl⟩
        · cases hv
      have HABN := Lib.hid hABn
      clear hoA hgA hvA hbA hoB hgB hvB hQ ho hcB2 hABn y0 y1 y2 y3 y4
      have y0 := G1.cell_ 0
      have y1 := G1.cell_ 1
      have y2 := G1.cell_ 2
      have y3 := G1.cell_ 3
      have y4 := G1.cell_ 4
      simp at y0 y1 y2 y3 y4
      obtain ⟨w5, rfl⟩ : ∃ W : World, W = wB := ⟨_, rfl⟩
      have hgW : w.heap.size < w5.heap.size := G1.lt
      go_cut [14, 15, 16] (fun v14 v15 v16 wx => ∃ (X Y Z : Option Addr) (cx cy cz : Nat) (vx vy vz : List Value), v14 = .slice X m cx ∧ v15 = .slice Y mb cy ∧ v16 = .slice Z mz cz ∧ Sl wx wx.heap.size X vx ∧ PartsR wx n vx (cutB n AL m) ∧ Sl wx wx.heap.size Y vy ∧ PartsR wx n vy (cutB n bs mb) ∧ Sl wx wx.heap.size Z vz ∧ PartsR wx n vz (cutB n B mz) ∧ Below w5.heap.size w5 wx)
      case first =>
        refine wp_region_noPanic ?_
        refine wp_region_held_drew (S := (fun w' => Below w5.heap.size w5 w' ∧ w'.cell? ⟨w.heap.size, 0, none⟩ = some (.int .i64 a) ∧ w'.cell? ⟨w.heap.size, 1, none⟩ = some (.int .i64 b) ∧ w'.cell? ⟨w.heap.size, 2, none⟩ = some (.int .i64 (n : Nat)) ∧ w'.cell? ⟨w.heap.size, 3, none⟩ = some (.int .i64 d) ∧ w'.cell? ⟨w.heap.size, 4, none⟩ = some (.int .i64 e))) (by kernel_rfl) ?_ (fun hHeld => ?_)
        · (first | exact ⟨(Below.refl _ _).drew, y0, y1, y2, y3, y4⟩ | assumption | exact ⟨HX, (HX.cell (p := ⟨w.heap.size, 0, none⟩) hgW).trans y0, (HX.cell (p := ⟨w.heap.size, 1, none⟩) hgW).trans y1, (HX.cell (p := ⟨w.heap.size, 2, none⟩) hgW).trans y2, (HX.cell (p := ⟨w.heap.size, 3, none⟩) hgW).trans y3, (HX.cell (p := ⟨w.heap.size, 4, none⟩) hgW).trans y4⟩)
        refine wpAnyH_take (i := 0) (oi := { dst := some 55, op := Op.load 23 (Operand.tmp 5), type := 23, pos := "more.go:21", after := #[], guard := none }) (v := ?_) rfl (by kernel_rfl) (by kernel_rfl) (by kernel_rfl) (fun _ _ _ h => h) (Or.inl ⟨by rfl, ?_⟩) (by assumption) ?_
        rotate_left
        · (intro wS hSw; (try dsimp only at hSw); go_simp; (try with_reducible rfl))
        try simp only [Act.put, List.setIfInBounds_toArray, List.set_cons_zero, List.set_cons_succ]
        refine wpAnyH_take (i := 1) (oi := { dst := some 56, op := Op.move (Operand.tmp 11), type := 24, pos := "more.go:21", after := #[], guard := none }) (v := ?_) rfl (by kernel_rfl) (by kernel_rfl) (by kernel_rfl) (fun _ _ _ h => h) (Or.inl ⟨by rfl, ?_⟩) (by assumption) ?_
        rotate_left
        · (intro wS hSw; (try dsimp only at hSw); go_simp; (try with_reducible rfl))
        try simp only [Act.put, List.setIfInBounds_toArray, List.set_cons_zero, List.set_cons_succ]
        refine wpAnyH_take (i := 3) (oi := { dst := some 58, op := Op.load 23 (Operand.tmp 5), type := 23, pos := "more.go:21", after := #[], guard := none }) (v := ?_) rfl (by kernel_rfl) (by kernel_rfl) (by kernel_rfl) (fun _ _ _ h => h) (Or.inl ⟨by rfl, ?_⟩) (by assumption) ?_
        rotate_left
        · (intro wS hSw; (try dsimp only at hSw); go_simp; (try with_reducible rfl))
        try simp only [Act.put, List.setIfInBounds_toArray, List.set_cons_zero, List.set_cons_succ]
        refine wpAnyH_take (i := 4) (oi := { dst := some 59, op := Op.move (Operand.tmp 3), type := 24, pos := "more.go:21", after := #[], guard := none }) (v := ?_) rfl (by kernel_rfl) (by kernel_rfl) (by kernel_rfl) (fun _ _ _ h => h) (Or.inl ⟨by rfl, ?_⟩) (by assumption) ?_
        rotate_left
        · (intro wS hSw; (try dsimp only at hSw); go_simp; (try with_reducible rfl))
        try simp only [Act.put, List.setIfInBounds_toArray, List.set_cons_zero, List.set_cons_succ]
        refine wpAnyH_take (i := 6) (oi := { dst := some 61, op := Op.load 23 (Operand.tmp 5), type := 23, pos := "more.go:21", after := #[], guard := none }) (v := ?_) rfl (by kernel_rfl) (by kernel_rfl) (by kernel_rfl) (fun _ _ _ h => h) (Or.inl ⟨by rfl, ?_⟩) (by assumption) ?_
        rotate_left
        · (intro wS hSw; (try dsimp only at hSw); go_simp; (try with_reducible rfl))
        try simp only [Act.put, List.setIfInBounds_toArray, List.set_cons_zero, List.set_cons_succ]
        refine wpAnyH_take (i := 7) (oi := { dst := some 62, op := Op.move (Operand.tmp 13), type := 24, pos := "more.go:21", after := #[], guard := none }) (v := ?_) rfl (by kernel_rfl) (by kernel_rfl) (by kernel_rfl) (fun _ _ _ h => h) (Or.inl ⟨by rfl, ?_⟩) (by assumption) ?_
        rotate_left
        · (intro wS hSw; (try dsimp only at hSw); go_simp; (try with_reducible rfl))
        try simp only [Act.put, List.setIfInBounds_toArray, List.set_cons_zero, List.set_cons_succ]
        refine wpAnyH_ready (rs := [2]) (by kernel_rfl) (by simp) ?_
        refine AllReadyH.cons (o := { dst := some 57, op := Op.call { callee := Callee.value (Operand.func 8), args := #[Operand.tmp 55, Operand.tmp 56], argTypes := #[23, 24] }, type := 27, pos := "more.go:21", after := #[{ on := 0, ground := Ground.data }, { on := 1, ground := Ground.data }], guard := none }) rfl (fun K hK => ?_) AllReadyH.nil
        go_simp
        (first
                  | (go_at_call 8; ((with_reducible refine (cut_any _ _ _ _ _ AL j n m (some ⟨wN.heap.size, 0, none⟩) j _ HM HAL.out (by omega) (Nat.le_refl _) (by unfold maxLen; omega) rfl HPA.out (fun h => by cases h) (SA.next hHeld.1)).mono ?_); rintro e' wC ⟨X, cx, vx, rfl, -, -, SX, PX, hb⟩; have HX := btr hHeld.1 hHeld.1.size hb))
                  | (go_at_call 8; ((with_reducible refine (cut_any _ _ _ _ _ bs L n mb A1 k1 _ HM HL.out (by omega) k11 HKP.out rfl HPB.out HNIL.out (H1.next hHeld.1)).mono ?_); rintro e' wC ⟨Y, cy, vy, rfl, -, -, SY, PY, hb⟩; have HX := btr hHeld.1 hHeld.1.size hb; have SX := SX.next hb; have PX := PX.next hb))
                  | (go_at_call 8; ((with_reducible refine (cut_any _ _ _ _ _ B BLn n mz AB cB _ HM HBL.out (by omega) hcB HCB2.out rfl HPZ.out HABN.out (SB.next hHeld.1)).mono ?_); rintro e' wC ⟨Z, cz, vz, rfl, -, -, SZ, PZ, hb⟩; have HX := btr hHeld.1 hHeld.1.size hb; have SX := SX.next hb; have PX := PX.next hb; have SY := SY.next hb; have PY := PY.next hb)))
        go_wp2_with fail
        refine hK.out _ _ ?_ (fun hNew => ?_)
        · (first | exact ⟨(Below.refl _ _).drew, y0, y1, y2, y3, y4⟩ | assumption | exact ⟨HX, (HX.cell (p := ⟨w.heap.size, 0, none⟩) hgW).trans y0, (HX.cell (p := ⟨w.heap.size, 1, none⟩) hgW).trans y1, (HX.cell (p := ⟨w.heap.size, 2, none⟩) hgW).trans y2, (HX.cell (p := ⟨w.heap.size, 3, none⟩) hgW).trans y3, (HX.cell (p := ⟨w.heap.size, 4, none⟩) hgW).trans y4⟩)
        clear hK K hHeld
        have hHeld := hNew
        clear hNew
        try simp only [Act.put, List.setIfInBounds_toArray, List.set_cons_zero, List.set_cons_succ]
        refine wpAnyH_ready (rs := [5]) (by kernel_rfl) (by simp) ?_
        refine AllReadyH.cons (o := { dst := some 60, op := Op.call { callee := Callee.value (Operand.func 8), args := #[Operand.tmp 58, Operand.tmp 59], argTypes := #[23, 24] }, type := 27, pos := "more.go:21", after := #[{ on := 3, ground := Ground.data }, { on := 4, ground := Ground.data }, { on := 2, ground := Ground.chain }], guard := none }) rfl (fun K hK => ?_) AllReadyH.nil
        go_simp
        (first
                  | (go_at_call 8; ((with_reducible refine (cut_any _ _ _ _ _ AL j n m (some ⟨wN.heap.size, 0, none⟩) j _ HM HAL.out (by omega) (Nat.le_refl _) (by unfold maxLen; omega) rfl HPA.out (fun h => by cases h) (SA.next hHeld.1)).mono ?_); rintro e' wC ⟨X, cx, vx, rfl, -, -, SX, PX, hb⟩; have HX := btr hHeld.1 hHeld.1.size hb))
                  | (go_at_call 8; ((with_reducible refine (cut_any _ _ _ _ _ bs L n mb A1 k1 _ HM HL.out (by omega) k11 HKP.out rfl HPB.out HNIL.out (H1.next hHeld.1)).mono ?_); rintro e' wC ⟨Y, cy, vy, rfl, -, -, SY, PY, hb⟩; have HX := btr hHeld.1 hHeld.1.size hb; have SX := SX.next hb; have PX := PX.next hb))
                  | (go_at_call 8; ((with_reducible refine (cut_any _ _ _ _ _ B BLn n mz AB cB _ HM HBL.out (by omega) hcB HCB2.out rfl HPZ.out HABN.out (SB.next hHeld.1)).mono ?_); rintro e' wC ⟨Z, cz, vz, rfl, -, -, SZ, PZ, hb⟩; have HX := btr hHeld.1 hHeld.1.size hb; have SX := SX.next hb; have PX := PX.next hb; have SY := SY.next hb; have PY := PY.next hb)))
        go_wp2_with fail
        refine hK.out _ _ ?_ (fun hNew => ?_)
        · (first | exact ⟨(Below.refl _ _).drew, y0, y1, y2, y3, y4⟩ | assumption | exact ⟨HX, (HX.cell (p := ⟨w.heap.size, 0, none⟩) hgW).trans y0, (HX.cell (p := ⟨w.heap.size, 1, none⟩) hgW).trans y1, (HX.cell (p := ⟨w.heap.size, 2, none⟩) hgW).trans y2, (HX.cell (p := ⟨w.heap.size, 3, none⟩) hgW).trans y3, (HX.cell (p := ⟨w.heap.size, 4, none⟩) hgW).trans y4⟩)
        clear hK K hHeld
        have hHeld := hNew
        clear hNew
        try simp only [Act.put, List.setIfInBounds_toArray, List.set_cons_zero, List.set_cons_succ]
        refine wpAnyH_ready (rs := [8]) (by kernel_rfl) (by simp) ?_
        refine AllReadyH.cons (o := { dst := some 63, op := Op.call { callee := Callee.value (Operand.func 8), args := #[Operand.tmp 61, Operand.tmp 62], argTypes := #[23, 24] }, type := 27, pos := "more.go:21", after := #[{ on := 6, ground := Ground.data }, { on := 7, ground := Ground.data }, { on := 5, ground := Ground.chain }], guard := none }) rfl (fun K hK => ?_) AllReadyH.nil
        go_simp
        (first
                  | (go_at_call 8; ((with_reducible refine (cut_any _ _ _ _ _ AL j n m (some ⟨wN.heap.size, 0, none⟩) j _ HM HAL.out (by omega) (Nat.le_refl _) (by unfold maxLen; omega) rfl HPA.out (fun h => by cases h) (SA.next hHeld.1)).mono ?_); rintro e' wC ⟨X, cx, vx, rfl, -, -, SX, PX, hb⟩; have HX := btr hHeld.1 hHeld.1.size hb))
                  | (go_at_call 8; ((with_reducible refine (cut_any _ _ _ _ _ bs L n mb A1 k1 _ HM HL.out (by omega) k11 HKP.out rfl HPB.out HNIL.out (H1.next hHeld.1)).mono ?_); rintro e' wC ⟨Y, cy, vy, rfl, -, -, SY, PY, hb⟩; have HX := btr hHeld.1 hHeld.1.size hb; have SX := SX.next hb; have PX := PX.next hb))
                  | (go_at_call 8; ((with_reducible refine (cut_any _ _ _ _ _ B BLn n mz AB cB _ HM HBL.out (by omega) hcB HCB2.out rfl HPZ.out HABN.out (SB.next hHeld.1)).mono ?_); rintro e' wC ⟨Z, cz, vz, rfl, -, -, SZ, PZ, hb⟩; have HX := btr hHeld.1 hHeld.1.size hb; have SX := SX.next hb; have PX := PX.next hb; have SY := SY.next hb; have PY := PY.next hb)))
        go_wp2_with fail
        refine hK.out _ _ ?_ (fun hNew => ?_)
        · (first | exact ⟨(Below.refl _ _).drew, y0, y1, y2, y3, y4⟩ | assumption | exact ⟨HX, (HX.cell (p := ⟨w.heap.size, 0, none⟩) hgW).trans y0, (HX.cell (p := ⟨w.heap.size, 1, none⟩) hgW).trans y1, (HX.cell (p := ⟨w.heap.size, 2, none⟩) hgW).trans y2, (HX.cell (p := ⟨w.heap.size, 3, none⟩) hgW).trans y3, (HX.cell (p := ⟨w.heap.size, 4, none⟩) hgW).trans y4⟩)
        clear hK K hHeld
        have hHeld := hNew
        clear hNew
        try simp only [Act.put, List.setIfInBounds_toArray, List.set_cons_zero, List.set_cons_succ]
        refine wpAnyH_take (i := 9) (oi := { dst := some 14, op := Op.assign (Operand.tmp 57), type := 27, pos := "more.go:21", after := #[{ on := 2, ground := Ground.data }, { on := 8, ground := Ground.chain }, { on := 0, ground := Ground.phase }, { on := 1, ground := Ground.phase }, { on := 2, ground := Ground.phase }, { on := 3, ground := Ground.textOnly Departure.lateStores }, { on := 4, ground := Ground.textOnly Departure.lateStores }, { on := 5, ground := Ground.textOnly Departure.lateStoresUnsure }, { on := 6, ground := Ground.textOnly Departure.lateStores }, { on := 7, ground := Ground.textOnly Departure.lateStores }, { on := 8, ground := Ground.textOnly Departure.lateStoresUnsure }], guard := none }) (v := ?_) rfl (by kernel_rfl) (by kernel_rfl) (by kernel_rfl) (fun _ _ _ h => h) (Or.inl ⟨by rfl, ?_⟩) (by assumption) ?_
        rotate_left
        · (intro wS hSw; (try dsimp only at hSw); go_simp; (try with_reducible rfl))
        try simp only [Act.put, List.setIfInBounds_toArray, List.set_cons_zero, List.set_cons_succ]
        refine wpAnyH_take (i := 10) (oi := { dst := some 15, op := Op.assign (Operand.tmp 60), type := 27, pos := "more.go:21", after := #[{ on := 5, ground := Ground.data }, { on := 9, ground := Ground.chain }, { on := 0, ground := Ground.phase }, { on := 1, ground := Ground.phase }, { on := 2, ground := Ground.phase }, { on := 3, ground := Ground.phase }, { on := 4, ground := Ground.phase }, { on := 5, ground := Ground.phase }, { on := 6, ground := Ground.textOnly Departure.lateStores }, { on := 7, ground := Ground.textOnly Departure.lateStores }, { on := 8, ground := Ground.textOnly Departure.lateStoresUnsure }, { on := 9, ground := Ground.phase }], guard := none }) (v := ?_) rfl (by kernel_rfl) (by kernel_rfl) (by kernel_rfl) (fun _ _ _ h => h) (Or.inl ⟨by rfl, ?_⟩) (by assumption) ?_
        rotate_left
        · (intro wS hSw; (try dsimp only at hSw); go_simp; (try with_reducible rfl))
        try simp only [Act.put, List.setIfInBounds_toArray, List.set_cons_zero, List.set_cons_succ]
        refine wpAnyH_take (i := 11) (oi := { dst := some 16, op := Op.assign (Operand.tmp 63), type := 27, pos := "more.go:21", after := #[{ on := 8, ground := Ground.data }, { on := 10, ground := Ground.chain }, { on := 0, ground := Ground.phase }, { on := 1, ground := Ground.phase }, { on := 2, ground := Ground.phase }, { on := 3, ground := Ground.phase }, { on := 4, ground := Ground.phase }, { on := 5, ground := Ground.phase }, { on := 6, ground := Ground.phase }, { on := 7, ground := Ground.phase }, { on := 8, ground := Ground.phase }, { on := 9, ground := Ground.phase }, { on := 10, ground := Ground.phase }], guard := none }) (v := ?_) rfl (by kernel_rfl) (by kernel_rfl) (by kernel_rfl) (fun _ _ _ h => h) (Or.inl ⟨by rfl, ?_⟩) (by assumption) ?_
        rotate_left
        · (intro wS hSw; (try dsimp only at hSw); go_simp; (try with_reducible rfl))
        try simp only [Act.put, List.setIfInBounds_toArray, List.set_cons_zero, List.set_cons_succ]
        refine wpAnyH_done (by kernel_rfl) ?_ _
        refine NoPanic.normal ?_
        go_wp2_with fail
        go_meet
        exact ⟨X, Y, Z, cx, cy, cz, vx, vy, vz, rfl, rfl, rfl, SX, PX, SY, PY, SZ, PZ, hHeld.1⟩
      case rest =>
      obtain ⟨X, Y, Z, cx, cy, cz, vx, vy, vz, rfl, rfl, rfl, SX, PX, SY, PY, SZ, PZ, hb⟩ := hcut
      obtain ⟨w7, rfl⟩ : ∃ W : World, W = wc := ⟨_, rfl⟩
      have SB := SB.next hb
      have H1 := H1.next hb
      have hB := btr hB hB.size hb
      clear hb y0 y1 y2 y3 y4 G1 SA
      have HVX : Hid (vx.length = m) := Lib.hid (by rw [PX.1]; simp [cutB])
      have HVY : Hid (vy.length = mb) := Lib.hid (by rw [PY.1]; simp [cutB])
      have HVZ : Hid (vz.length = mz) := Lib.hid (by rw [PZ.1]; simp [cutB])
      have klo := lowI_bd size ((BLn : Int) + 1) (by omega)
      obtain ⟨s, hs⟩ : ∃ s : Nat, lowI size ((BLn : Int) + 1) = (s : Int) := ⟨(lowI size ((BLn : Int) + 1)).toNat, by omega⟩
      rw [hs] at klo
      have HSS := Lib.hid hs
      have s0 : (0 : Int) ≤ (s : Int) := klo.1
      have s1 : (s : Int) ≤ (BLn : Int) := by omega
      have hD : (cutB n B mz).flatten.take s = B.take s := cut_back n B mz s (by rw [HBL.out]; exact HCV.out) (by rw [HBL.out]; omega)
      have hok : (!decide ((cutB n B mz).flatten.length < s)) = true := by
        have := HCV.out
        rw [cut_size, decide_eq_false (by omega)]
        rfl
      have hDl : (B.take s).length = s := by rw [List.length_take, HBL.out]; omega
      obtain ⟨D, hDD⟩ : ∃ D, B.take s = D := ⟨_, rfl⟩
      rw [hDD] at hD hDl
      have HD := Lib.hid hD
      have HOK := Lib.hid hok
      have HDL := Lib.hid hDl
      have SBs : Sl w7 w7.heap.size AB (D.map byteV) := by rw [← hDD, List.map_take]; exact sl_take SB s
      have z4 : (mz : Int) ≤ 20 := by omega
      clear hs klo hD hok hDl hDD SB
      by_cases hL0 : L = 0
      · have hmy0 : my = 0 := by rw [← HMY.out, if_pos hL0]
        subst hmy0
        have hmz2 : mz = m := by omega
        subst hmz2
        have gl : ((L : Int) == 0) = true := by simp; omega
        clear hmz HMY hL0
        go_wp2_with fail
        go_loopw [17] (fun v wr => ∃ i : Nat, i ≤ mz ∧ v = .int .i64 i ∧ Below w7.heap.size w7 wr) (fun v _ => mz - (intOf v).toNat)
        case atStart => exact ⟨0, Nat.zero_le _, rfl, Below.refl _ _⟩
        case round =>
          obtain ⟨i, hi0, rfl, hB7⟩ := hrel
          by_cases hlt : i < mz
          · have hi : i < mz := hlt
            have i0 : (0 : Int) ≤ (i : Int) := by omega
            have i1 : (i : Int) < (mz : Int) := by omega
            obtain ⟨hl1, A3, hv1, S1⟩ := (PZ.next hB7).2 i _ (cut_at n B mz i (by omega))
            obtain ⟨b1, o1, rfl, l1, q1⟩ := (SZ.next hB7).at_ (by rw [HVZ.out]; omega)
            have c1 := q1 i _ hv1
            obtain ⟨hl2, A4, hv2, S2⟩ := (PX.next hB7).2 i _ (cut_at n AL mz i (by omega))
            obtain ⟨b2, o2, rfl, l2, q2⟩ := (SX.next hB7).at_ (by rw [HVX.out]; omega)
            have c2 := q2 i _ hv2
            have hpp : partB n B i = partB n AL i := HF.out i hi
            obtain ⟨P, hP⟩ : ∃ P, partB n B i = P := ⟨_, rfl⟩
            rw [← hpp, hP] at S2 hl2
            rw [hP] at S1 hl1
            have hPl := Lib.hid hl1
            clear q1 q2 hv1 hv2 hl1 hl2 hpp hP
            go_wp2_with (go_at_call 11; ((with_reducible refine (sameB_b true P P n n hPl.out hPl.out (decide_eq_true rfl) _ _ _ _ _ S1 S2 (by omega) (by omega)).mono ?_); rintro e' wS ⟨rfl, hb⟩; have hB9 := btr hB7 hB7.size hb; clear hb))
            go_roundw
            case rel => exact ⟨i + 1, by omega, by go_num, hB9⟩
            case measure => simp [intOf]; omega
          · have hiz : i = mz := by omega
            subst hiz
            have HBF := HBW.trans ((hB.trans (hB7.mono hB.size)).mono (by omega))
            have SZ7 := SZ.next hB7
            have PZ7 := PZ.next hB7
            have SBs7 := SBs.next hB7
            clear hlt
            go_wp2_with (first
              | (go_at_call 12; refine (low_any size ((BLn : Int) + 1) _ (by omega) (by omega)).mono ?_; rw [HSS.out]; rintro e' wL ⟨rfl, rfl⟩)
              | (go_at_call 9; ((with_reducible refine (join_z n i s (s : Int) rfl Z cz vz (cutB n B i) D _ _ HVZ.out SZ7 PZ7 (by omega) (by omega) (by omega) (by omega) HD.out HOK.out).mono ?_); rintro e' wJ ⟨vj, rfl, hb, hox⟩; obtain ⟨AX, cx9, rfl, -, -, -, HX⟩ := own_sliceV (hox rfl); have SBs7 := SBs7.next hb; have HBF := btr HBF HBF.size hb; clear hb hox))
              | (go_at_call 11; ((with_reducible refine (sameB_b true D D s s HDL.out HDL.out (decide_eq_true rfl) _ AB _ _ _ HX SBs7 (by omega) (by omega)).mono ?_); rintro e' wS ⟨rfl, hb⟩; have HBF := btr HBF HBF.size hb; clear hb))
              | (go_at_call 7; ((with_reducible refine (awake_any _).mono ?_); rintro e' wA ⟨rfl, hb⟩; have HBF := btr HBF HBF.size hb; clear hb)))
            go_ret
            exact ⟨rfl, HBF⟩
      · have hmyb : my = mb := by rw [← HMY.out, if_neg hL0]
        subst hmyb
        have gl : ((L : Int) == 0) = false := by simp; omega
        have gz : ((mz : Int) != (m : Int) + (my : Int)) = false := by simp; omega
        clear HMY
        go_wp2_with fail
        go_loopw [17] (fun v wr => ∃ i : Nat, i ≤ mz ∧ v = .int .i64 i ∧ Below w7.heap.size w7 wr) (fun v _ => mz - (intOf v).toNat)
        case atStart => exact ⟨0, Nat.zero_le _, rfl, Below.refl _ _⟩
        case round =>
          obtain ⟨i, hi0, rfl, hB7⟩ := hrel
          by_cases hlt : i < mz
          · have i0 : (0 : Int) ≤ (i : Int) := by omega
            have i1 : (i : Int) < (mz : Int) := by omega
            by_cases hi : i < m
            · have i2 : (i : Int) < (m : Int) := by omega
              obtain ⟨hl1, A3, hv1, S1⟩ := (PZ.next hB7).2 i _ (cut_at n B mz i (by omega))
              obtain ⟨b1, o1, rfl, l1, q1⟩ := (SZ.next hB7).at_ (by rw [HVZ.out]; omega)
              have c1 := q1 i _ hv1
              obtain ⟨hl2, A4, hv2, S2⟩ := (PX.next hB7).2 i _ (cut_at n AL m i (by omega))
              obtain ⟨b2, o2, rfl, l2, q2⟩ := (SX.next hB7).at_ (by rw [HVX.out]; omega)
              have c2 := q2 i _ hv2
              have hpp : partB n B i = partB n AL i := HF.out i hi
              obtain ⟨P, hP⟩ : ∃ P, partB n B i = P := ⟨_, rfl⟩
              rw [← hpp, hP] at S2 hl2
              rw [hP] at S1 hl1
              have hPl := Lib.hid hl1
              clear q1 q2 hv1 hv2 hl1 hl2 hpp hP
              go_wp2_with (go_at_call 11; ((with_reducible refine (sameB_b true P P n n hPl.out hPl.out (decide_eq_true rfl) _ _ _ _ _ S1 S2 (by omega) (by omega)).mono ?_); rintro e' wS ⟨rfl, hb⟩; have hB9 := btr hB7 hB7.size hb; clear hb))
              go_roundw
              case rel => exact ⟨i + 1, by omega, by go_num, hB9⟩
              case measure => simp [intOf]; omega
            · obtain ⟨k2, hk2⟩ : ∃ k, i - m = k := ⟨_, rfl⟩
              have i2 : ¬ (i : Int) < (m : Int) := by omega
              have hki : (i : Int) - (m : Int) = (k2 : Int) := by omega
              have i3 : (0 : Int) ≤ (k2 : Int) := by omega
              have i4 : (k2 : Int) < (my : Int) := by omega
              obtain ⟨hl1, A3, hv1, S1⟩ := (PZ.next hB7).2 i _ (cut_at n B mz i (by omega))
              obtain ⟨b1, o1, rfl, l1, q1⟩ := (SZ.next hB7).at_ (by rw [HVZ.out]; omega)
              have c1 := q1 i _ hv1
              obtain ⟨hl2, A4, hv2, S2⟩ := (PY.next hB7).2 k2 _ (cut_at n bs my k2 (by omega))
              obtain ⟨b2, o2, rfl, l2, q2⟩ := (SY.next hB7).at_ (by rw [HVY.out]; omega)
              have c2 := q2 k2 _ hv2
              have hpp : partB n B i = partB n bs k2 := by rw [show i = m + k2 by omega]; exact HG.out k2
              obtain ⟨P, hP⟩ : ∃ P, partB n B i = P := ⟨_, rfl⟩
              rw [← hpp, hP] at S2 hl2
              rw [hP] at S1 hl1
              have hPl := Lib.hid hl1
              clear q1 q2 hv1 hv2 hl1 hl2 hpp hP
              go_wp2_with (go_at_call 11; ((with_reducible refine (sameB_b true P P n n hPl.out hPl.out (decide_eq_true rfl) _ _ _ _ _ S1 S2 (by omega) (by omega)).mono ?_); rintro e' wS ⟨rfl, hb⟩; have hB9 := btr hB7 hB7.size hb; clear hb))
              go_roundw
              case rel => exact ⟨i + 1, by omega, by go_num, hB9⟩
              case measure => simp [intOf]; omega
          · have hiz : i = mz := by omega
            subst hiz
            have HBF := HBW.trans ((hB.trans (hB7.mono hB.size)).mono (by omega))
            have SZ7 := SZ.next hB7
            have PZ7 := PZ.next hB7
            have SBs7 := SBs.next hB7
            clear hlt
            go_wp2_with (first
              | (go_at_call 12; refine (low_any size ((BLn : Int) + 1) _ (by omega) (by omega)).mono ?_; rw [HSS.out]; rintro e' wL ⟨rfl, rfl⟩)
              | (go_at_call 9; ((with_reducible refine (join_z n i s (s : Int) rfl Z cz vz (cutB n B i) D _ _ HVZ.out SZ7 PZ7 (by omega) (by omega) (by omega) (by omega) HD.out HOK.out).mono ?_); rintro e' wJ ⟨vj, rfl, hb, hox⟩; obtain ⟨AX, cx9, rfl, -, -, -, HX⟩ := own_sliceV (hox rfl); have SBs7 := SBs7.next hb; have HBF := btr HBF HBF.size hb; clear hb hox))
              | (go_at_call 11; ((with_reducible refine (sameB_b true D D s s HDL.out HDL.out (decide_eq_true rfl) _ AB _ _ _ HX SBs7 (by omega) (by omega)).mono ?_); rintro e' wS ⟨rfl, hb⟩; have HBF := btr HBF HBF.size hb; clear hb))
              | (go_at_call 7; ((with_reducible refine (awake_any _).mono ?_); rintro e' wA ⟨rfl, hb⟩; have HBF := btr HBF HBF.size hb; clear hb)))
            go_ret
            exact ⟨rfl, HBF⟩
end Go.Proofs.Ytmhookkfhknljaa
