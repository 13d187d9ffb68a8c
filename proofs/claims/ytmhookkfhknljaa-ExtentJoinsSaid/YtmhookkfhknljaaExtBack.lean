/- ExtentBack: the walk. -/
import Derived.Test.YtmhookkfhknljaaExtAw
import Derived.Test.YtmhookkfhknljaaExtE
namespace Go.Proofs.Ytmhookkfhknljaa
open Go.ChangeShapes Go.WideShapes Go.ChangeAt Go.RowKit
set_option linter.unusedSimpArgs false
set_option linter.unusedVariables false

theorem parts_next {L n : Int} (hL : 0 ≤ L) (hn : 1 ≤ n) : partsI (L + 1) n = partsI L n ∨ (partsI (L + 1) n = partsI L n + 1 ∧ L % n = 0) := by
  obtain ⟨k, hk⟩ : ∃ k, L / n = k := ⟨_, rfl⟩
  obtain ⟨r, hr⟩ : ∃ k, L % n = k := ⟨_, rfl⟩
  have e := Int.mul_ediv_add_emod L n
  have r0 := Int.emod_nonneg L (show n ≠ 0 by omega)
  have r1 := Int.emod_lt_of_pos L (show 0 < n by omega)
  have k0 : 0 ≤ L / n := Int.ediv_nonneg hL (by omega)
  rw [hk] at e k0
  rw [hr] at e r0 r1
  have q1 : (L + 1 + n - 1) / n = k + 1 := by
    rw [show L + 1 + n - 1 = r + n * (k + 1) by rw [Int.mul_add, ← e]; omega, Int.add_mul_ediv_left _ _ (by omega), Int.ediv_eq_zero_of_lt r0 r1]
    omega
  unfold partsI
  rw [q1, hr]
  by_cases h0 : r = 0
  · have q2 : (L + n - 1) / n = k := by
      rw [show L + n - 1 = (n - 1) + n * k by rw [← e]; omega, Int.add_mul_ediv_left _ _ (by omega), Int.ediv_eq_zero_of_lt (by omega) (by omega)]
      omega
    rw [q2]
    omega
  · have q2 : (L + n - 1) / n = k + 1 := by
      rw [show L + n - 1 = (r - 1) + n * (k + 1) by rw [Int.mul_add, ← e]; omega, Int.add_mul_ediv_left _ _ (by omega), Int.ediv_eq_zero_of_lt (by omega) (by omega)]
      omega
    rw [q2]
    omega
theorem parts_cover {L n : Int} (hL : 0 ≤ L) (hn : 1 ≤ n) : L ≤ partsI L n * n := by
  have h1 : (L + n - 1) / n ≤ partsI L n := by unfold partsI; omega
  have h2 := Int.mul_le_mul_of_nonneg_right h1 (show 0 ≤ n by omega)
  have e := Int.mul_ediv_add_emod (L + n - 1) n
  have r1 := Int.emod_lt_of_pos (L + n - 1) (show 0 < n by omega)
  rw [Int.mul_comm] at e
  omega
theorem join_z (n m s : Nat) (z : Int) (hz : z = (s : Int)) (A : Option Addr) (k : Nat) (vals : List Value) (bss : List (List Nat)) (D : List Nat) (ok : Bool) (w : World) (hv : vals.length = m) (hA : Sl w w.heap.size A vals) (hp : PartsR w n vals bss) (hn : 1 ≤ n) (hn2 : n ≤ 64) (hm2 : m ≤ 100) (hs : s ≤ 100000)
    (hD : bss.flatten.take s = D) (hok : (!decide (bss.flatten.length < s)) = ok) :
    Calls Try.prog 9 #[.slice A m k, .int .i64 z] w fun e' w' => ∃ v, e' = .returned (.tuple #[v, .bool ok]) ∧ Below w.heap.size w w' ∧ (ok = true → w'.ownsRow w.heap.size 5 1 v s (D.map byteV)) := by
  subst hz
  exact join_any n m s A k vals bss D ok w hv hA hp hn hn2 hm2 hs hD hok
theorem rmay_b (a b c d e : Int) (M : Bool) (w : World) (hm : Hid (mayB a b c d e = M)) :
    Calls Try.prog 6 #[.agg #[.int .i64 a, .int .i64 b, .int .i64 c, .int .i64 d, .int .i64 e]] w fun e' w' => e' = .returned (.bool M) ∧ Below w.heap.size w w' := by
  have q := rmay_any a b c d e w
  rwa [hm.out] at q
set_option maxRecDepth 100000 in
set_option maxHeartbeats 4000000 in
theorem back_walk (a b c d e : Int) (A1 : Option Addr) (L k1 : Nat) (bs : List Nat) (w : World) (_ : i64in a ∧ i64in b ∧ i64in c ∧ i64in d ∧ i64in e) (r1 : SlA w A1 L k1 (bs.map byteV)) (h8 : Bytes8 bs) :
    Calls Try.prog 3 #[.agg #[.int .i64 a, .int .i64 b, .int .i64 c, .int .i64 d, .int .i64 e], .slice A1 L k1] w fun e' w' => e' = .returned (.bool true) ∧ Below w.heap.size w w' := by
  obtain ⟨e1, h1, k11, k1p, hnil⟩ := r1
  rw [List.length_map] at e1
  have HB0 : Below w.heap.size w (w.alloc (.cells #[.int .i64 a, .int .i64 b, .int .i64 c, .int .i64 d, .int .i64 e] 23)) := (Below.refl _ _).alloc (Nat.le_refl _) _
  have G1 : Blk (w.alloc (.cells #[.int .i64 a, .int .i64 b, .int .i64 c, .int .i64 d, .int .i64 e] 23)) w.heap.size 23 #[.int .i64 a, .int .i64 b, .int .i64 c, .int .i64 d, .int .i64 e] := Blk.new_ _ _ _
  have H1 := h1.next HB0
  have HL : Hid (bs.length = L) := Lib.hid e1.symm
  have HNIL := Lib.hid hnil
  have HKP := Lib.hid k1p
  clear h1 e1 hnil k1p
  by_cases hx : 500 < L
  · have g1 : (500 : Int) < (L : Int) := by omega
    clear hx
    go_enter Try.func3, Try.ntmps3
    go_wp2_with (go_at_call 7; ((with_reducible refine (awake_any _).mono ?_); rintro e' wA ⟨rfl, hb⟩; have HB0 := btr HB0 HB0.size hb; clear hb))
    go_ret
    exact ⟨rfl, HB0⟩
  have g1 : ¬ (500 : Int) < (L : Int) := by omega
  rcases (by cases hq : mayB a b c d e <;> simp : mayB a b c d e = false ∨ mayB a b c d e = true) with hm | hm
  · have HM := Lib.hid hm
    clear hm
    go_enter Try.func3, Try.ntmps3
    go_wp2_with (first
      | (go_at_call 6; ((with_reducible refine (rmay_b _ _ _ _ _ _ _ HM).mono ?_); rintro e' wN ⟨rfl, hb⟩; have H1 := H1.next hb; have HB0 := btr HB0 HB0.size hb; have G1 := G1.below hb G1.lt; (try clear y0 y1 y2 y3 y4); have y0 := G1.cell_ 0; have y1 := G1.cell_ 1; have y2 := G1.cell_ 2; have y3 := G1.cell_ 3; have y4 := G1.cell_ 4; simp at y0 y1 y2 y3 y4; clear hb))
      | (go_at_call 7; ((with_reducible refine (awake_any _).mono ?_); rintro e' wA ⟨rfl, hb⟩; have HB0 := btr HB0 HB0.size hb; clear hb)))
    go_ret
    exact ⟨rfl, HB0⟩
  have HM := Lib.hid hm
  have hbd := may_bd hm
  obtain ⟨n, rfl⟩ : ∃ n : Nat, c = (n : Int) := ⟨c.toNat, by omega⟩
  have n1 : 24 ≤ n := by omega
  have n2 : n ≤ 64 := by omega
  obtain ⟨m, hm1⟩ : ∃ m : Nat, partsI (L : Int) (n : Int) = (m : Int) := ⟨(partsI (L : Int) (n : Int)).toNat, by have := parts_pos (L : Int) (n : Int); omega⟩
  obtain ⟨m2, hm2⟩ : ∃ m : Nat, partsI ((L : Int) + 1) (n : Int) = (m : Int) := ⟨(partsI ((L : Int) + 1) (n : Int)).toNat, by have := parts_pos ((L : Int) + 1) (n : Int); omega⟩
  have hcv := parts_cover (L := (L : Int)) (n := (n : Int)) (by omega) (by omega)
  have hnx := parts_next (L := (L : Int)) (n := (n : Int)) (by omega) (by omega)
  rw [hm1] at hcv hnx
  rw [hm2] at hnx
  have hm22 : m ≤ 22 := by
    have h3 : partsI (L : Int) (n : Int) ≤ partsI 500 24 := by
      unfold partsI
      have h4 : ((L : Int) + (n : Int) - 1) / (n : Int) ≤ 21 := by
        have : ((L : Int) + (n : Int) - 1) / (n : Int) < 22 := Int.ediv_lt_of_lt_mul (by omega) (by omega)
        omega
      have h5 : ((500 : Int) + 24 - 1) / 24 = 21 := by decide
      rw [h5]
      omega
    have h6 : partsI 500 24 = 21 := by decide
    omega
  obtain ⟨Q, hQ⟩ : ∃ Q, m * n = Q := ⟨_, rfl⟩
  have hQi : (m : Int) * (n : Int) = (Q : Int) := by rw [← hQ]; push_cast; rfl
  have hQb : Q ≤ 1408 := by rw [← hQ]; exact Nat.le_trans (Nat.mul_le_mul hm22 n2) (by omega)
  rw [hQi] at hcv
  have hD1 : (cutB n bs m).flatten.take L = bs := by
    rw [cut_back n bs m L (by rw [HL.out, hQ]; omega) (by rw [HL.out]; exact Nat.le_refl _), List.take_of_length_le (by rw [HL.out]; exact Nat.le_refl _)]
  have hok1 : (!decide ((cutB n bs m).flatten.length < L)) = true := by
    rw [cut_size, hQ, decide_eq_false (by omega)]
    rfl
  have hok2 : (!decide ((cutB n bs m).flatten.length < Q + 1)) = false := by
    rw [cut_size, hQ, decide_eq_true (by omega)]
    rfl
  have hrm : (L : Int).tmod (n : Int) = (L : Int) % (n : Int) := Int.tmod_eq_emod_of_nonneg (by omega)
  have HM1 := Lib.hid hm1
  have HM2 := Lib.hid hm2
  have HD1 := Lib.hid hD1
  have HO1 := Lib.hid hok1
  have HO2 := Lib.hid hok2
  have HNX := Lib.hid hnx
  have n0 : ¬ (n : Int) = 0 := by omega
  have n3 : (24 : Int) ≤ (n : Int) := by omega
  have n4 : (n : Int) ≤ 64 := by omega
  have m4 : (m : Int) ≤ 22 := by omega
  have q4 : (Q : Int) ≤ 1408 := by omega
  clear hm hbd hx hm1 hm2 hnx hD1 hok1 hok2 hQ
  go_enter Try.func3, Try.ntmps3
  go_wp2_with (first
    | (go_at_call 6; ((with_reducible refine (rmay_b _ _ _ _ _ _ _ HM).mono ?_); rintro e' wN ⟨rfl, hb⟩; have H1 := H1.next hb; have HB0 := btr HB0 HB0.size hb; have G1 := G1.below hb G1.lt; (try clear y0 y1 y2 y3 y4); have y0 := G1.cell_ 0; have y1 := G1.cell_ 1; have y2 := G1.cell_ 2; have y3 := G1.cell_ 3; have y4 := G1.cell_ 4; simp at y0 y1 y2 y3 y4; clear hb))
    | (go_at_call 8; ((with_reducible refine (cut_any a b _ d e bs L n m A1 k1 _ HM HL.out (by omega) k11 HKP.out rfl HM1.out HNIL.out H1).mono ?_); rintro e' wC ⟨AV, cv, vals, rfl, hcv1, hcv2, HAV, HPR, hb⟩; have H1 := H1.next hb; clear hcv1 hcv2; have HB0 := btr HB0 HB0.size hb; have G1 := G1.below hb G1.lt; (try clear y0 y1 y2 y3 y4); have y0 := G1.cell_ 0; have y1 := G1.cell_ 1; have y2 := G1.cell_ 2; have y3 := G1.cell_ 3; have y4 := G1.cell_ 4; simp at y0 y1 y2 y3 y4; clear hb)))
  obtain ⟨w0, hw0⟩ : ∃ W : World, W = wC := ⟨_, rfl⟩
  rw [← hw0] at HB0 G1 H1 HAV HPR y0 y1 y2 y3 y4 ⊢
  clear hw0
  have hg0 : w.heap.size < w0.heap.size := G1.lt
  have HVL : Hid (vals.length = m) := Lib.hid (by rw [HPR.1]; simp [cutB])
  go_loopw [6] (fun i wr => ∃ j : Nat, j ≤ m ∧ i = .int .i64 j ∧ Below w0.heap.size w0 wr) (fun i _ => m - (intOf i).toNat)
  case atStart => exact ⟨0, Nat.zero_le _, rfl, Below.refl _ _⟩
  case round =>
    obtain ⟨j, hj, rfl, hB⟩ := hrel
    clear y0 y1 y2 y3 y4
    have Gr := G1.below hB hg0
    have y2 := Gr.cell_ 2
    simp at y2
    by_cases hlt : j < m
    · have Ar := HAV.next hB
      have Pr := HPR.next hB
      obtain ⟨P, hP⟩ : ∃ P, (cutB n bs m)[j]? = some P := ⟨_, cut_at n bs m j hlt⟩
      obtain ⟨hPl, A2, hv2, hS2⟩ := Pr.2 j P hP
      obtain ⟨b1, o1, rfl, l1, q1⟩ := Ar.at_ (by rw [HVL.out]; omega)
      have c1 := q1 j _ hv2
      obtain ⟨wb, rfl⟩ : ∃ W : World, W = wr := ⟨_, rfl⟩
      have i0 : (0 : Int) ≤ (j : Int) := by omega
      have i1 : (j : Int) < (m : Int) := by omega
      clear q1 hP hPl hv2 hS2 Pr Ar
      go_upto_region 7 with fail
      go_cut [38] (fun v wx => v = .bool false ∧ Below wb.heap.size wb wx)
      case first =>
        refine wp_region_noPanic ?_
        refine wp_region_held_drew (S := (fun w' => Below wb.heap.size wb w' ∧ w'.cell? ⟨b1, o1 + j, none⟩ = some (.slice A2 n n) ∧ w'.cell? ⟨w.heap.size, 2, none⟩ = some (.int .i64 (n : Nat)))) (by kernel_rfl) ?_ (fun hHeld => ?_)
        · exact ⟨(Below.refl _ _).drew, c1, y2⟩
        refine wpAnyH_take (i := 0) (oi := { dst := some 31, op := Op.move (Operand.tmp 5), type := 27, pos := "law.go:57", after := #[], guard := none }) (v := ?_) rfl (by kernel_rfl) (by kernel_rfl) (by kernel_rfl) (fun _ _ _ h => h) (Or.inl ⟨by rfl, ?_⟩) (by assumption) ?_
        rotate_left
        · (intro wS hSw; (try dsimp only at hSw); go_simp; (try with_reducible rfl))
        try simp only [Act.put, List.setIfInBounds_toArray, List.set_cons_zero, List.set_cons_succ]
        refine wpAnyH_take (i := 1) (oi := { dst := some 32, op := Op.move (Operand.tmp 6), type := 3, pos := "law.go:57", after := #[], guard := none }) (v := ?_) rfl (by kernel_rfl) (by kernel_rfl) (by kernel_rfl) (fun _ _ _ h => h) (Or.inl ⟨by rfl, ?_⟩) (by assumption) ?_
        rotate_left
        · (intro wS hSw; (try dsimp only at hSw); go_simp; (try with_reducible rfl))
        try simp only [Act.put, List.setIfInBounds_toArray, List.set_cons_zero, List.set_cons_succ]
        refine wpAnyH_take (i := 2) (oi := { dst := some 33, op := Op.indexAddr 27 (Operand.tmp 31) (Operand.tmp 32), type := 0, pos := "law.go:57", after := #[{ on := 0, ground := Ground.data }, { on := 1, ground := Ground.data }], guard := none }) (v := ?_) rfl (by kernel_rfl) (by kernel_rfl) (by kernel_rfl) (fun _ _ _ h => h) (Or.inl ⟨by rfl, ?_⟩) (by assumption) ?_
        rotate_left
        · (intro wS hSw; (try dsimp only at hSw); go_simp; (try with_reducible rfl))
        try simp only [Act.put, List.setIfInBounds_toArray, List.set_cons_zero, List.set_cons_succ]
        refine wpAnyH_take (i := 3) (oi := { dst := some 34, op := Op.load 24 (Operand.tmp 33), type := 24, pos := "law.go:57", after := #[{ on := 2, ground := Ground.data }], guard := none }) (v := ?_) rfl (by kernel_rfl) (by kernel_rfl) (by kernel_rfl) (fun _ _ _ h => h) (Or.inl ⟨by rfl, ?_⟩) (by assumption) ?_
        rotate_left
        · (intro wS hSw; (try dsimp only at hSw); go_simp; (try with_reducible rfl))
        try simp only [Act.put, List.setIfInBounds_toArray, List.set_cons_zero, List.set_cons_succ]
        refine wpAnyH_take (i := 4) (oi := { dst := some 35, op := Op.call { callee := Callee.builtin Builtin.len, args := #[Operand.tmp 34], argTypes := #[24] }, type := 3, pos := "law.go:57", after := #[{ on := 3, ground := Ground.data }], guard := none }) (v := ?_) rfl (by kernel_rfl) (by kernel_rfl) (by kernel_rfl) (fun _ _ _ h => h) (Or.inl ⟨by rfl, ?_⟩) (by assumption) ?_
        rotate_left
        · (intro wS hSw; (try dsimp only at hSw); go_simp; (try with_reducible rfl))
        try simp only [Act.put, List.setIfInBounds_toArray, List.set_cons_zero, List.set_cons_succ]
        refine wpAnyH_take (i := 5) (oi := { dst := some 36, op := Op.fieldAddr 23 (Operand.tmp 2) 2, type := 0, pos := "law.go:57", after := #[], guard := none }) (v := ?_) rfl (by kernel_rfl) (by kernel_rfl) (by kernel_rfl) (fun _ _ _ h => h) (Or.inl ⟨by rfl, ?_⟩) (by assumption) ?_
        rotate_left
        · (intro wS hSw; (try dsimp only at hSw); go_simp; (try with_reducible rfl))
        try simp only [Act.put, List.setIfInBounds_toArray, List.set_cons_zero, List.set_cons_succ]
        refine wpAnyH_take (i := 6) (oi := { dst := some 37, op := Op.load 3 (Operand.tmp 36), type := 3, pos := "law.go:57", after := #[{ on := 5, ground := Ground.data }], guard := none }) (v := ?_) rfl (by kernel_rfl) (by kernel_rfl) (by kernel_rfl) (fun _ _ _ h => h) (Or.inl ⟨by rfl, ?_⟩) (by assumption) ?_
        rotate_left
        · (intro wS hSw; (try dsimp only at hSw); go_simp; (try with_reducible rfl))
        try simp only [Act.put, List.setIfInBounds_toArray, List.set_cons_zero, List.set_cons_succ]
        refine wpAnyH_take (i := 7) (oi := { dst := some 38, op := Op.binOp BinOp.neq 3 (Operand.tmp 35) (Operand.tmp 37) 3, type := 4, pos := "law.go:57", after := #[{ on := 4, ground := Ground.data }, { on := 6, ground := Ground.data }], guard := none }) (v := ?_) rfl (by kernel_rfl) (by kernel_rfl) (by kernel_rfl) (fun _ _ _ h => h) (Or.inl ⟨by rfl, ?_⟩) (by assumption) ?_
        rotate_left
        · (intro wS hSw; (try dsimp only at hSw); go_simp; (try with_reducible rfl))
        try simp only [Act.put, List.setIfInBounds_toArray, List.set_cons_zero, List.set_cons_succ]
        refine wpAnyH_done (by kernel_rfl) ?_ _
        refine NoPanic.normal ?_
        go_wp2_with fail
        go_meet
        exact ⟨by simp, hHeld.1⟩
      case rest =>
      obtain ⟨rfl, hb2⟩ := hcut
      have hB3 := btr hB hB.size hb2
      clear hB hb2 c1 y2 Gr l1
      go_wp2
      go_roundw
      case rel => exact ⟨j + 1, by omega, by go_num, hB3⟩
      case measure => simp [intOf]; omega
    · have hjm : j = m := by omega
      subst hjm
      have HB0 := btr HB0 HB0.size hB
      have H1 := H1.next hB
      have HAV := HAV.next hB
      have HPR := HPR.next hB
      have G1 := Gr
      clear hB Gr hlt y2
      have y0 := G1.cell_ 0
      have y1 := G1.cell_ 1
      have y2 := G1.cell_ 2
      have y3 := G1.cell_ 3
      have y4 := G1.cell_ 4
      simp at y0 y1 y2 y3 y4
      rcases HNX.out with hx | ⟨hx, hx2⟩
      · have t1 : ((m2 : Int) == (j : Int)) = true := by simpa using hx
        clear hx hrm
        go_wp2_with (first
          | (go_at_call 9; ((with_reducible refine (join_z n j L (L : Int) rfl AV cv vals (cutB n bs j) bs _ _ HVL.out HAV HPR (by omega) (by omega) (by omega) (by omega) HD1.out HO1.out).mono ?_); rintro e' wJ ⟨vx, rfl, hb, hox⟩; obtain ⟨AX, cx, rfl, -, -, -, HX⟩ := own_sliceV (hox rfl); have H1 := H1.next hb; have HAV := HAV.next hb; have HPR := HPR.next hb; clear hox; have HB0 := btr HB0 HB0.size hb; have G1 := G1.below hb G1.lt; (try clear y0 y1 y2 y3 y4); have y0 := G1.cell_ 0; have y1 := G1.cell_ 1; have y2 := G1.cell_ 2; have y3 := G1.cell_ 3; have y4 := G1.cell_ 4; simp at y0 y1 y2 y3 y4; clear hb))
          | (go_at_call 9; ((with_reducible refine (join_z n j (Q + 1) _ (by push_cast; rfl) AV cv vals (cutB n bs j) _ _ _ HVL.out HAV HPR (by omega) (by omega) (by omega) (by omega) rfl HO2.out).mono ?_); rintro e' wJ ⟨vy, rfl, hb, hoy⟩; clear hoy; have H1 := H1.next hb; have HAV := HAV.next hb; have HPR := HPR.next hb; (try have HX := HX.next hb); have HB0 := btr HB0 HB0.size hb; have G1 := G1.below hb G1.lt; (try clear y0 y1 y2 y3 y4); have y0 := G1.cell_ 0; have y1 := G1.cell_ 1; have y2 := G1.cell_ 2; have y3 := G1.cell_ 3; have y4 := G1.cell_ 4; simp at y0 y1 y2 y3 y4; clear hb))
          | (go_at_call 10; ((with_reducible refine (pages_any _ _ _ _ _ (L : Int) (j : Int) _ HM (by omega) (by omega) HM1.out).mono ?_); rintro e' wP ⟨rfl, hb⟩; have H1 := H1.next hb; have HAV := HAV.next hb; have HPR := HPR.next hb; (try have HX := HX.next hb); have HB0 := btr HB0 HB0.size hb; have G1 := G1.below hb G1.lt; (try clear y0 y1 y2 y3 y4); have y0 := G1.cell_ 0; have y1 := G1.cell_ 1; have y2 := G1.cell_ 2; have y3 := G1.cell_ 3; have y4 := G1.cell_ 4; simp at y0 y1 y2 y3 y4; clear hb))
          | (go_at_call 10; ((with_reducible refine (pages_any _ _ _ _ _ ((L : Int) + 1) (m2 : Int) _ HM (by omega) (by omega) HM2.out).mono ?_); rintro e' wP ⟨rfl, hb⟩; have H1 := H1.next hb; have HAV := HAV.next hb; have HPR := HPR.next hb; (try have HX := HX.next hb); have HB0 := btr HB0 HB0.size hb; have G1 := G1.below hb G1.lt; (try clear y0 y1 y2 y3 y4); have y0 := G1.cell_ 0; have y1 := G1.cell_ 1; have y2 := G1.cell_ 2; have y3 := G1.cell_ 3; have y4 := G1.cell_ 4; simp at y0 y1 y2 y3 y4; clear hb))
          | (go_at_call 11; ((with_reducible refine (sameB_b true bs bs L L HL.out HL.out (decide_eq_true rfl) _ A1 _ _ _ HX H1 (by omega) (by omega)).mono ?_); rintro e' wS ⟨rfl, hb⟩; have H1 := H1.next hb; have HAV := HAV.next hb; have HPR := HPR.next hb; (try have HX := HX.next hb); have HB0 := btr HB0 HB0.size hb; have G1 := G1.below hb G1.lt; (try clear y0 y1 y2 y3 y4); have y0 := G1.cell_ 0; have y1 := G1.cell_ 1; have y2 := G1.cell_ 2; have y3 := G1.cell_ 3; have y4 := G1.cell_ 4; simp at y0 y1 y2 y3 y4; clear hb))
          | (go_at_call 7; ((with_reducible refine (awake_any _).mono ?_); rintro e' wA ⟨rfl, hb⟩; have HB0 := btr HB0 HB0.size hb; clear hb)))
        go_ret
        exact ⟨rfl, HB0⟩
      · have t1 : ((m2 : Int) == (j : Int)) = false := by simp; omega
        have t2 : (m2 : Int) = (j : Int) + 1 := hx
        rw [hx2] at hrm
        clear hx hx2
        go_wp2_with (first
          | (go_at_call 9; ((with_reducible refine (join_z n j L (L : Int) rfl AV cv vals (cutB n bs j) bs _ _ HVL.out HAV HPR (by omega) (by omega) (by omega) (by omega) HD1.out HO1.out).mono ?_); rintro e' wJ ⟨vx, rfl, hb, hox⟩; obtain ⟨AX, cx, rfl, -, -, -, HX⟩ := own_sliceV (hox rfl); have H1 := H1.next hb; have HAV := HAV.next hb; have HPR := HPR.next hb; clear hox; have HB0 := btr HB0 HB0.size hb; have G1 := G1.below hb G1.lt; (try clear y0 y1 y2 y3 y4); have y0 := G1.cell_ 0; have y1 := G1.cell_ 1; have y2 := G1.cell_ 2; have y3 := G1.cell_ 3; have y4 := G1.cell_ 4; simp at y0 y1 y2 y3 y4; clear hb))
          | (go_at_call 9; ((with_reducible refine (join_z n j (Q + 1) _ (by push_cast; rfl) AV cv vals (cutB n bs j) _ _ _ HVL.out HAV HPR (by omega) (by omega) (by omega) (by omega) rfl HO2.out).mono ?_); rintro e' wJ ⟨vy, rfl, hb, hoy⟩; clear hoy; have H1 := H1.next hb; have HAV := HAV.next hb; have HPR := HPR.next hb; (try have HX := HX.next hb); have HB0 := btr HB0 HB0.size hb; have G1 := G1.below hb G1.lt; (try clear y0 y1 y2 y3 y4); have y0 := G1.cell_ 0; have y1 := G1.cell_ 1; have y2 := G1.cell_ 2; have y3 := G1.cell_ 3; have y4 := G1.cell_ 4; simp at y0 y1 y2 y3 y4; clear hb))
          | (go_at_call 10; ((with_reducible refine (pages_any _ _ _ _ _ (L : Int) (j : Int) _ HM (by omega) (by omega) HM1.out).mono ?_); rintro e' wP ⟨rfl, hb⟩; have H1 := H1.next hb; have HAV := HAV.next hb; have HPR := HPR.next hb; (try have HX := HX.next hb); have HB0 := btr HB0 HB0.size hb; have G1 := G1.below hb G1.lt; (try clear y0 y1 y2 y3 y4); have y0 := G1.cell_ 0; have y1 := G1.cell_ 1; have y2 := G1.cell_ 2; have y3 := G1.cell_ 3; have y4 := G1.cell_ 4; simp at y0 y1 y2 y3 y4; clear hb))
          | (go_at_call 10; ((with_reducible refine (pages_any _ _ _ _ _ ((L : Int) + 1) (m2 : Int) _ HM (by omega) (by omega) HM2.out).mono ?_); rintro e' wP ⟨rfl, hb⟩; have H1 := H1.next hb; have HAV := HAV.next hb; have HPR := HPR.next hb; (try have HX := HX.next hb); have HB0 := btr HB0 HB0.size hb; have G1 := G1.below hb G1.lt; (try clear y0 y1 y2 y3 y4); have y0 := G1.cell_ 0; have y1 := G1.cell_ 1; have y2 := G1.cell_ 2; have y3 := G1.cell_ 3; have y4 := G1.cell_ 4; simp at y0 y1 y2 y3 y4; clear hb))
          | (go_at_call 11; ((with_reducible refine (sameB_b true bs bs L L HL.out HL.out (decide_eq_true rfl) _ A1 _ _ _ HX H1 (by omega) (by omega)).mono ?_); rintro e' wS ⟨rfl, hb⟩; have H1 := H1.next hb; have HAV := HAV.next hb; have HPR := HPR.next hb; (try have HX := HX.next hb); have HB0 := btr HB0 HB0.size hb; have G1 := G1.below hb G1.lt; (try clear y0 y1 y2 y3 y4); have y0 := G1.cell_ 0; have y1 := G1.cell_ 1; have y2 := G1.cell_ 2; have y3 := G1.cell_ 3; have y4 := G1.cell_ 4; simp at y0 y1 y2 y3 y4; clear hb))
          | (go_at_call 7; ((with_reducible refine (awake_any _).mono ?_); rintro e' wA ⟨rfl, hb⟩; have HB0 := btr HB0 HB0.size hb; clear hb)))
        go_ret
        exact ⟨by simp, HB0⟩
end Go.Proofs.Ytmhookkfhknljaa
